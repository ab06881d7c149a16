/- Laws for the proof. -/
import Derived.Test.YtfpmnekaockodaaGreatDoorU39
set_option linter.all false
open Go.Value renaming int->U,string->ζ,slice->η
open Go.IntKind renaming i64->α
open Option renaming none->β,some->γ
open Go.RowKit.Below renaming refl->δ
open Nat renaming le_succ_of_le->ε
namespace Go.Proofs.YtfpmnekaockodaaGreatDoor
open Go.RowKit Go.Sort
set_option maxRecDepth 4000
set_option maxHeartbeats 8000000
variable {cs:List Value}{g B fq:Nat}{q:PKV}{w w' wr:World}
def RowAt.tuN{F:Nat->Prop}{a:Option Addr}{n:Nat}{xs:List Nat}(h:RowAt w a n xs)(ht:Tu F w w')(e:∀d,a=γ d->n≠0->¬F d.block):RowAt w' a n xs:=by
 refine⟨h.1,h.2.1,?_⟩;rcases h.2.2 with c|⟨b,off,rfl,f⟩
 ·exact .inl c
 ·by_cases c:n=0
  ·exact .inl c
  ·exact .inr ⟨b,off,rfl,fun i j=>ht.cell (f i j) (e ⟨b,off,β⟩ rfl c)⟩
def Nj(m:Nat)(b:Bool)(o c:Option Gc)(d:PD):Prop:=(o=β->c=β)/\∀r,o=γ r->∃a,c=γ a/\a.g=r.g/\a.gb=r.gb/\a.i=r.i/\a.ps.map PKV.pd=(if b=true then Il m (r.ps.map PKV.pd) d else r.ps.map PKV.pd)
def Lx(M:Int)(b:Bool)(o c:Option Fb)(q:PKV):Prop:=(o=β->c=β)/\∀d,o=γ d->∃a,c=γ a/\a.g=d.g/\(b=false->a=d)/\(b=true->∃ob,a.s=FW M d.s q ob/\(Df d.s q=true->GV M (Cs d.s q) (q.r.xs,q.r.s) ob))
def AU.setR(s:AU)(o:Option Gc):AU:=⟨s.lv,s.ls,s.gm,s.Z,s.gc,s.gcm,s.N,s.P,o,s.dc⟩
def AU.setD(s:AU)(o:Option Fb):AU:=⟨s.lv,s.ls,s.gm,s.Z,s.gc,s.gcm,s.N,s.P,s.rl,o⟩
def XJ(B:Nat)(p:Bi)(s:AU)(q:PKV)(w:World)(h:Ag w B p s)(ht:Tab w)(E:∀wx,Tu (sttF s) w wx->RowAt wx q.r.a q.r.n q.r.xs)(D:q.r.n<=10)(H:q.r.s.size<=1000):
  Calls Tryz.prog 84 #[.pointer (ptrR s.rl),q.val] w fun e w'=> ∃(b:Bool) (o:Option Gc),e=.returned (.bool b)/\Hid (Ag w' B p (s.setR o)/\Nj (capN p.buffer) true s.rl o q.pd/\ptrR o=ptrR s.rl/\Tu (sttF s) w w'/\∀j,j<w.heap.size->sttF (s.setR o) j->sttF s j):=by
 cases d:s.rl with
 |none=>
  refine(mw q w).mono fun e w' ⟨m,y⟩=>⟨false,β,m,Ab ⟨?_,⟨fun _=>rfl,fun r h=>by cases h⟩,rfl,Tu.of_below y,fun j _ c=>?_⟩⟩
  ·have:=h.below y
   rw[show s.setR none=s by rw[<-d];rfl];exact this
  ·rw[show s.setR none=s by rw[<-d];rfl]at c
   exact c
 |some r=>
  have l:∀j,GA r.g r.gb r.v j->sttF s j:=fun j c=>.inr (.inr (.inr (.inr (.inl ⟨r,d,c⟩))));refine(mu r.g r.gb B _ _ r.i r.v r.ps q w ht (h.rl r d) (fun wx f=>E wx (f.wide l)) D H).mono fun e w' ⟨m,v',k,z,A,u,C⟩=>⟨_,γ ⟨r.g,r.gb,r.i,v',k⟩,m,Ab ⟨h.relay d ⟨r.g,r.gb,r.i,v',k⟩ z u,⟨(fun h=>by cases h),fun x f=>?_⟩,rfl,u.wide l,fun j c e=>?_⟩⟩
  ·cases f
   exact⟨_,rfl,rfl,rfl,rfl,A⟩
  ·rcases e with e|e|e|e|⟨x,f,e⟩|e
   ·exact .inl e
   ·exact .inr (.inl e)
   ·exact .inr (.inr (.inl e))
   ·exact .inr (.inr (.inr (.inl e)))
   ·cases f
    refine l j ?_;rcases e with e|e
    ·exact .inl e
    ·exact .inr (C.at r.gb j c e)
   ·exact .inr (.inr (.inr (.inr (.inr e))))
def rH(B:Nat)(p:Bi)(s:AU)(q:PKV)(w:World)(h:Ag w B p s)(ht:∀wx,Below B w wx->Tab wx)(E:s.dc≠β->∀wx,Tu (sttF s) w wx->RowAt wx q.r.a q.r.n q.r.xs)(D:q.r.n<=10)(H:q.r.s.size<=1000):
  Calls Tryz.prog 85 #[.pointer (ptrC s.dc),q.val] w fun e w'=> ∃(x:Int) (o:Option Fb),e=.returned (U α x)/\Hid (Ag w' B p (s.setD o)/\Lx p.buffer true s.dc o q/\ptrC o=ptrC s.dc/\Tu (sttF s) w w'/\∀j,j<w.heap.size->sttF (s.setD o) j->sttF s j):=by
 cases c:s.dc with
 |none=>
  refine(oW q w).mono fun e w' ⟨m,y⟩=>⟨1,β,m,Ab ⟨?_,⟨fun _=>rfl,fun r h=>by cases h⟩,rfl,Tu.of_below y,fun j _ b=>?_⟩⟩
  ·have:=h.below y
   rw[show s.setD none=s by rw[<-c];rfl];exact this
  ·rw[show s.setD none=s by rw[<-c];rfl]at b
   exact b
 |some d=>
  have l:∀j,CP d.g d.gs d.v j->sttF s j:=fun j b=>.inr (.inr (.inr (.inr (.inr ⟨d,c,b⟩))));refine(oU d.g B p.buffer d.s d.gs d.v d.rs q w ht (h.dc d c) (fun wx i=>E (by rw[c];exact fun h=>by cases h) wx (i.wide l)) D H).mono fun e w' ⟨f,v',k,ob,m,z,A,u,C⟩=>⟨_,γ ⟨d.g,FW p.buffer d.s q ob,f,v',k⟩,m,Ab ⟨h.deco c ⟨d.g,FW p.buffer d.s q ob,f,v',k⟩ A u,⟨(fun h=>by cases h),fun x i=>?_⟩,rfl,u.wide l,fun j b e=>?_⟩⟩
  ·cases i
   exact⟨_,rfl,rfl,(fun h=>by cases h),fun _=>⟨ob,rfl,z⟩⟩
  ·rcases e with e|e|e|e|e|⟨x,i,e⟩
   ·exact .inl e
   ·exact .inr (.inl e)
   ·exact .inr (.inr (.inl e))
   ·exact .inr (.inr (.inr (.inl e)))
   ·exact .inr (.inr (.inr (.inr (.inl e))))
   ·cases i
    exact l j (C.at d.g j b e)
def Ap.setS(n:Ap)(s:AU):Ap:=⟨n.id,n.inc,n.p,n.src,s,n.t+1⟩
def GZ(n:Ap)(s:ByteArray)(now:Int)(en:Nat)(a:Ap):Prop:=∃(kd fr ic:Int) (q:PKV),Fs s kd fr ic q.o q.l q.k q.z q.h q.r.xs q.r.s en/\
 ((en≠0/\a=n.setS n.s)\/(en=0/\∃N rl dc,a=n.setS ⟨n.s.lv,n.s.ls,n.s.gm,EC n.s.Z fr ic now,n.s.gc,n.s.gcm,N,(if kd=2 then Hy (capN n.p.cache) n.s.P q.pd else n.s.P),rl,dc⟩/\
  Nj (capN n.p.buffer) (decide (kd=2)&&Dp n.s.P q.pd) n.s.rl rl q.pd/\Lx n.p.buffer (decide (kd=2)&&Dp n.s.P q.pd) n.s.dc dc q))
structure Ih(w wr:World)(g B fq:Nat)(n0 n:Ap)(cs:List Value)(q:PKV):Prop where
 nd:Al wr g B n
 tu:Tu (A9 g n0) w wr
 mv:∀j,j<w.heap.size->A9 g n j->A9 g n0 j
 box:BkA 157 wr fq cs
 lo:w.heap.size<=fq
 row:RowAt wr q.r.a q.r.n q.r.xs
 new:DF w q.r.a q.r.n
def Ih.step{t:Nat}{d n:Ap}(h:Ih w wr g B fq d n cs q){s:AU}{F:Nat->Prop}(x:Ag w' B n.p s)(ht:Tu F wr w')(b:∀j,F j->sttF n.s j)(hold:∀j,F j->j<w.heap.size)(l:E8 s=E8 n.s)
  (v:s.rl=β↔n.s.rl=β) (m:s.dc=β↔n.s.dc=β) (o:s.ls.length=n.s.ls.length) (r:s.N<=t/\∀i,i<s.ls.length->(s.ls.getD i .dflt).lo<=t) (c:∀j,j<wr.heap.size->sttF s j->sttF n.s j):Ih w w' g B fq d ⟨n.id,n.inc,n.p,n.src,s,t⟩ cs q:=by
 have y:=h.nd.st.kd;have z:=h.tu.size;refine⟨h.nd.state x (ht.wide b) l v m o r,h.tu.trans ht fun j a e=>h.mv j a (.inr (.inr (.inr (b j e)))),fun j a e=>?_,h.box.tu ht fun e=>?_,h.lo,h.row.tuN ht fun f k u e=>?_,h.new⟩
 ·rcases e with e|e|e|e
  ·exact h.mv j a (.inl e)
  ·exact h.mv j a (.inr (.inl e))
  ·exact h.mv j a (.inr (.inr (.inl e)))
  ·exact h.mv j a (.inr (.inr (.inr (c j (by omega) e))))
 ·have:=y _ (b _ e);have:=h.box.kd;omega
 ·have:=hold _ e;have:=h.new f k u;omega
def Ih.below{b n:Ap}(h:Ih w wr g B fq b n cs q)(a:Below wr.heap.size wr w'):Ih w w' g B fq b n cs q:=
 ⟨h.nd.below a,h.tu.then a,h.mv,h.box.below a,h.lo,h.row.below a,h.new⟩
def Nt{j:Nat}(h:kdB w j≠0):j<w.heap.size:=Nat.lt_of_not_le fun e=>h (by unfold kdB;rw[Array.getElem?_eq_none e])
def Ag.lt{p:Bi}{s:AU}(h:Ag w B p s):∀j,sttF s j->j<w.heap.size:=fun j a=>by
 rcases a with a|⟨l,c,a⟩|rfl|a|⟨r,f,a⟩|⟨d,b,a⟩
 ·exact(C9 h.lks a).2
 ·exact Nt (by have:=Au.kd (h.each l c).1 j a;omega)
 ·exact h.mem.blk.lt
 ·have:=h.ca.lt
  rcases a with e|e
  ·rw[e];exact this.1
  ·rw[e];exact this.2
 ·exact Nt (by have:=(h.rl r f).kd j a;omega)
 ·exact Nt (by have:=(h.dc d b).kd j a;omega)
structure XE(w wr:World)(g B fq:Nat)(n0 n:Ap)(cs:List Value):Prop where
 nd:Al wr g B n
 tu:Tu (A9 g n0) w wr
 mv:∀j,j<w.heap.size->A9 g n j->A9 g n0 j
 box:BkA 157 wr fq cs
def Zr{l n:Ap}{o:Option Fb}(h:Ih w wr g B fq l n cs q)(hp:Ag w' B n.p (n.s.setD o)/\Lx n.p.buffer true n.s.dc o q/\ptrC o=ptrC n.s.dc/\Tu (sttF n.s) wr.drew w'/\∀j,j<wr.drew.heap.size->sttF (n.s.setD o) j->sttF n.s j):XE w w' g B fq l ⟨n.id,n.inc,n.p,n.src,n.s.setD o,n.t⟩ cs:=by
 obtain⟨m,k,r,c,u⟩:=hp;have b:=h.below (δ _ _).drew;have x:=b.nd.st.kd;have z:=b.tu.size;refine⟨b.nd.state m c (by unfold E8 AU.setD;rw[r]) Iff.rfl ⟨fun e=>?_,k.1⟩ rfl b.nd.tm,b.tu.trans c fun j a e=>b.mv j a (.inr (.inr (.inr e))),fun j a e=>?_,b.box.tu c fun e=>?_⟩
 ·by_cases i:n.s.dc=β
  ·exact i
  ·obtain⟨d,v⟩:=Option.ne_none_iff_exists'.1 i
   obtain⟨y,f,_⟩:=k.2 d v;rw[show(n.s.setD o).dc=o from rfl,f]at e;cases e
 ·rcases e with e|e|e|e
  ·exact b.mv j a (.inl e)
  ·exact b.mv j a (.inr (.inl e))
  ·exact b.mv j a (.inr (.inr (.inl e)))
  ·exact b.mv j a (.inr (.inr (.inr (u j (by omega) e))))
 ·have:=x _ e;have:=b.box.kd;omega
def ia(g B:Nat)(n:Ap)(s:ByteArray)(now:Int)(w:World)(h:Al w g B n)(ht:∀wx,Below B w wx->Bv wx)(hs:s.size<=1048576)(a7:n.t<1099511627776):
  Calls Tryz.prog 54 #[.pointer (γ ⟨g,0,β⟩),ζ s,U α now] w fun e w'=> ∃(en:Nat) (n':Ap),e=.returned (U α (en:Int))/\GZ n s now en n'/\Al w' g B n'/\Tu (A9 g n) w w'/\∀j,j<w.heap.size->A9 g n' j->A9 g n j:=by
 have HD:=Ab (lw s w hs);have H:=Ab h;have HT:=Ab ht;have a5:=h.blk.lt;clear h ht;go_enter Tryz.func54,Tryz.ntmps54;go_wp2_with fail;refine(Aa HD).mono ?_;rintro e w1 ⟨kd,fr,ic,o,l,k,z,y,a,nn,c,xs,t,en,rfl,ar,aq,al,af⟩;have ay:=Ab ar;have av:=Ab aq;have I:=Ab al;have ab:=Ab af;have a6:w1.heap.size≠g:=by have:=af.size;omega
 clear ar aq al af;by_cases he:en=0
 case neg=>
  have a4:((en:Int) !=0)=true:=by simpa using he
  go_wp2;go_ret;have O:=Ad (Aa ab) (As w1 (.cells #[U α kd,U α fr,U α ic,U α o,U α l,U α k,U α z,U α y,η a nn c,ζ t] 157));refine⟨en,n.setS n.s,rfl,⟨kd,fr,ic,⟨o,l,k,z,y,⟨a,nn,c,xs,t⟩⟩,Aa I,.inl ⟨he,rfl⟩⟩,?_,Tu.of_below O,fun j _ e=>e⟩;have L:=(Aa H).below O;exact⟨L.blk,L.lo,L.tos,L.src,L.st,L.kd,L.num,⟨ε L.tm.1,fun i hi=>ε (L.tm.2 i hi)⟩⟩
 subst he;have O:=Ad (Aa ab) (As w1 (.cells #[U α kd,U α fr,U α ic,U α o,U α l,U α k,U α z,U α y,η a nn c,ζ t] 157));have C:=Ab (show Ih w (w1.alloc (.cells #[U α kd,U α fr,U α ic,U α o,U α l,U α k,U α z,U α y,η a nn c,ζ t] 157)) g B w1.heap.size n n [U α kd,U α fr,U α ic,U α o,U α l,U α k,U α z,U α y,η a nn c,ζ t] ⟨o,l,k,z,y,⟨a,nn,c,xs,t⟩⟩ from⟨(Aa H).below O,Tu.of_below O,fun j _ e=>e,AI 157 w1 [U α kd,U α fr,U α ic,U α o,U α l,U α k,U α z,U α y,η a nn c,ζ t],(Aa ab).size,(Aa ay).below (As _ _),Aa av⟩);clear O;go_wp2_with fail;generalize w1.alloc (.cells #[U α kd,U α fr,U α ic,U α o,U α l,U α k,U α z,U α y,η a nn c,ζ t] 157)=wf at*;generalize w1.heap.size=fq at*;have az:=(Aa C).nd.blk.at 12 rfl;have x1:=(Aa C).box.at 1 rfl;have x2:=(Aa C).box.at 2 rfl;have HH:=Ab (fun wx (O:Below wf.heap.size wf wx)=>jW n.s.gm (CF n.p.timeout) n.s.Z fr ic now wx ((Aa C).nd.st.mem.below O))
 go_region_held3 (fun w'=>w'.cell? ⟨g,12,β⟩=γ (.pointer (γ ⟨n.s.gm,0,β⟩))/\w'.cell? ⟨fq,1,β⟩=γ (U α fr)/\w'.cell? ⟨fq,2,β⟩=γ (U α ic)) (go_keep) (first
  |(go_at_call 82;refine(Aa HH _ (δ _ _).drew).mono ?_;rintro e w2 ⟨rfl,ao,ag⟩;have m:=Ab (((Aa C).below (δ _ _).drew).step (t:=n.t+1) (((Aa C).nd.st.below (δ _ _).drew).hear ao ag) ag (fun j e=>.inr (.inr (.inl e))) (fun j e=>by have e:j=n.s.gm:=e;rw[e];exact(Aa H).st.mem.blk.lt) rfl Iff.rfl Iff.rfl rfl ⟨ε (Aa H).tm.1,fun i hi=>ε ((Aa H).tm.2 i hi)⟩ fun j _ e=>e);have a0:=(Aa m).nd.blk.at 12 rfl;have y1:=(Aa m).box.at 1 rfl;have y2:=(Aa m).box.at 2 rfl;clear ao ag)
  |fail)
 go_wp2_with fail;clear az x1 x2 a0 y1 y2 HH C;have y0:=(Aa m).box.at 0 rfl;by_cases A:kd=2
 case neg=>
  have an:(kd==2)=false:=by simpa using A
  have x:=Ab A;clear A;have z0:=cell_regrown y0;refine wp_region_quiet_below (by kernel_rfl) (by kernel_rfl) ?_
  repeat (with_reducible refine wpQuiet_step (fun K hK=>?_);go_simp;first|(with_reducible refine hK _ ?_;clear hK K)|(refine QV (by decide) ?_;with_reducible refine hK _ ?_;clear hK K))
  refine wpQuiet_nil ?_;intro w3 aa;obtain⟨⟨dq,au⟩,aa⟩:=aa;have b:=Ab ((Aa m).below (show Below w2.heap.size w2 w3 by rw[aa];exact below_regrown _ dq au));clear aa dq au;go_wp2;go_ret;refine⟨0,_,rfl,⟨kd,fr,ic,⟨o,l,k,z,y,⟨a,nn,c,xs,t⟩⟩,Aa I,.inr ⟨rfl,n.s.N,n.s.rl,n.s.dc,rfl,?_,?_⟩⟩,?_,(Aa b).tu,(Aa b).mv⟩
  ·rw[decide_eq_false (Aa x)]
   exact⟨fun h=>h,fun r h=>⟨r,h,rfl,rfl,rfl,rfl⟩⟩
  ·rw[decide_eq_false (Aa x)]
   exact⟨fun h=>h,fun d h=>⟨d,h,rfl,fun _=>rfl,fun h=>by cases h⟩⟩
  ·have:=(Aa b).nd
   rw[if_neg (Aa x)];exact this
 have an:(kd==2)=true:=by simpa using A
 have x:=Ab A;clear A;have y3:=(Aa m).box.at 3 rfl;have y4:=(Aa m).box.at 4 rfl;have y5:=(Aa m).box.at 5 rfl;have y6:=(Aa m).box.at 6 rfl;have y7:=(Aa m).box.at 7 rfl;have y8:=(Aa m).box.at 8 rfl;have y9:=(Aa m).box.at 9 rfl;have aj:=(Aa m).nd.blk.at 13 rfl;have ac:=Ab (fun wx (O:Below w2.heap.size w2 wx)=>fP n.s.gc n.s.gcm (capN n.p.cache) n.s.N n.s.P ⟨o,l,k,z,y,⟨a,nn,c,xs,t⟩⟩ wx ((Aa m).nd.st.ca.below O) ((Aa m).row.below O) (by have:=(Aa H).tm.1;omega));simp only[PKV.val]at ac
 go_region_held3 (fun w'=>w'.cell? ⟨g,13,β⟩=γ (.pointer (γ ⟨n.s.gc,0,β⟩))/\w'.cell? ⟨fq,0,β⟩=γ (U α kd)/\w'.cell? ⟨fq,3,β⟩=γ (U α o)/\w'.cell? ⟨fq,4,β⟩=γ (U α l)/\w'.cell? ⟨fq,5,β⟩=γ (U α k)/\w'.cell? ⟨fq,6,β⟩=γ (U α z)/\w'.cell? ⟨fq,7,β⟩=γ (U α y)/\w'.cell? ⟨fq,8,β⟩=γ (η a nn c)/\w'.cell? ⟨fq,9,β⟩=γ (ζ t)) (go_keep) (first
  |(go_at_call 83;refine(Aa ac _ (δ _ _).drew).mono ?_;rintro e w3 ⟨rfl,ap,ah⟩;have b:=Ab (((Aa m).below (δ _ _).drew).step (t:=n.t+1) (((Aa m).nd.st.below (δ _ _).drew).seen ap ah) ah (fun j e=>.inr (.inr (.inr (.inl e)))) (fun j e=>by have:=(Aa H).st.ca.lt;rcases e with e|e<;>(have e:=e;omega)) rfl Iff.rfl Iff.rfl rfl ⟨Nat.succ_le_succ (Aa H).tm.1,fun i hi=>ε ((Aa H).tm.2 i hi)⟩ fun j _ e=>e);have aj:=(Aa b).nd.blk.at 13 rfl;have v0:=(Aa b).box.at 0 rfl;have v3:=(Aa b).box.at 3 rfl;have v4:=(Aa b).box.at 4 rfl;have v5:=(Aa b).box.at 5 rfl;have v6:=(Aa b).box.at 6 rfl;have v7:=(Aa b).box.at 7 rfl;have v8:=(Aa b).box.at 8 rfl;have v9:=(Aa b).box.at 9 rfl;clear ap ah)
  |fail)
 clear aj v0 y0 y3 y4 y5 y6 y7 y8 y9 ac;generalize am:Dp n.s.P (PKV.pd ⟨o,l,k,z,y,⟨a,nn,c,xs,t⟩⟩)=fb at*;have S:=Ab am;clear am;cases fb
 ·go_wp2
  go_ret;refine⟨0,_,rfl,⟨kd,fr,ic,⟨o,l,k,z,y,⟨a,nn,c,xs,t⟩⟩,Aa I,.inr ⟨rfl,n.s.N+1,n.s.rl,n.s.dc,rfl,?_,?_⟩⟩,?_,(Aa b).tu,(Aa b).mv⟩
  ·rw[Aa S,Bool.and_false]
   exact⟨fun h=>h,fun r h=>⟨r,h,rfl,rfl,rfl,rfl⟩⟩
  ·rw[Aa S,Bool.and_false]
   exact⟨fun h=>h,fun d h=>⟨d,h,rfl,fun _=>rfl,fun h=>by cases h⟩⟩
  ·have:=(Aa b).nd
   rw[if_pos (Aa x)];exact this
 have aw:=Ab (Aa H).st.lt
 have V:=Ab (show nn<=10/\t.size<=1000 from by
  have hc:=(qc (Aa I)).1.2.2;have hr:=(Aa b).row.1;rcases hc with hc|hc
  ·exact absurd (hc.1.symm.trans (Aa x)) (by decide)
  ·have L:BM ⟨o,l,k,z,y,xs,t⟩=true:=Gp.2 hc.2
   have h3:=JZ L;have h4:((t.size:Int)=z):=hc.2.2.2.2;have h5:=hc.2.1.1.2;have hr:xs.length=nn:=hr;have h3:xs.length<=2:=h3;omega)
 generalize Q:(⟨n.id,n.inc,n.p,n.src,_,n.t+1⟩:Ap)=v at b;have ai:=Ab Q;have E:=Ab (show∀j,sttF v.s j->j<w.heap.size from by rw[<-Q];exact Aa aw);clear Q;have ae:=(Aa b).nd.blk.at 14 (show(EJ v)[14]? =γ (.pointer (ptrR v.s.rl)) from rfl);have J:=Ab (fun wx (ht:Tu (sttF v.s) w3.drew wx)=>(show RowAt wx a nn xs from((Aa b).row.below (δ _ _).drew).tuN ht fun ad ha hn e=>by have:=Aa E _ e;have:=(Aa b).new ad ha hn;omega));have D:=Ab (XJ B v.p v.s ⟨o,l,k,z,y,⟨a,nn,c,xs,t⟩⟩ w3.drew ((Aa b).nd.st.below (δ _ _).drew) (Aa HT _ (((Aa H).keeps (Aa b).tu).trans (δ _ _).drew)).tab (Aa J) (Aa V).1 (Aa V).2);simp only[PKV.val]at D;go_wp2_with fail
 go_region_held3 (fun w'=>w'.cell? ⟨g,14,β⟩=γ (.pointer (ptrR v.s.rl))/\w'.cell? ⟨fq,3,β⟩=γ (U α o)/\w'.cell? ⟨fq,4,β⟩=γ (U α l)/\w'.cell? ⟨fq,5,β⟩=γ (U α k)/\w'.cell? ⟨fq,6,β⟩=γ (U α z)/\w'.cell? ⟨fq,7,β⟩=γ (U α y)/\w'.cell? ⟨fq,8,β⟩=γ (η a nn c)/\w'.cell? ⟨fq,9,β⟩=γ (ζ t)) (go_keep) (first
  |(go_at_call 84;refine(Aa D).mono ?_;rintro e w4 ⟨b4,o4,rfl,R⟩;have f:=Ab (((Aa b).below (δ _ _).drew).step (t:=v.t) (Aa R).1 (Aa R).2.2.2.1 (fun j e=>e) (Aa E) (by unfold E8 AU.setR;rw[(Aa R).2.2.1]) (by have h1:=(Aa R).2.1;constructor;(intro e;by_cases e2:v.s.rl=β;exact e2;(obtain⟨r,hr⟩:=Option.ne_none_iff_exists'.1 e2;obtain⟨r',Y,_⟩:=h1.2 r hr;rw[show(v.s.setR o4).rl=o4 from rfl,Y]at e;cases e));exact h1.1) Iff.rfl rfl (Aa b).nd.tm (Aa R).2.2.2.2);have ae:=(Aa f).nd.blk.at 14 (show _=γ (.pointer (ptrR o4)) from rfl);rw[(Aa R).2.2.1]at ae;have u3:=(Aa f).box.at 3 rfl;have u4:=(Aa f).box.at 4 rfl;have u5:=(Aa f).box.at 5 rfl;have u6:=(Aa f).box.at 6 rfl;have u7:=(Aa f).box.at 7 rfl;have u8:=(Aa f).box.at 8 rfl;have u9:=(Aa f).box.at 9 rfl)
  |fail)
 clear ae D J v3 v4 v5 v6 v7 v8 v9;have W:=Ab (Aa R).2.1;have ax:=Ab (Aa R).2.2.1;clear R;generalize X:(⟨v.id,v.inc,v.p,v.src,v.s.setR o4,v.t⟩:Ap)=n4 at f;have T:=Ab X;clear X;have a1:=(Aa f).nd.blk.at 15 (show(EJ n4)[15]? =γ (.pointer (ptrC n4.s.dc)) from rfl)
 have J:=Ab (show n4.s.dc≠β->∀wx,Tu (sttF n4.s) w4.drew wx->RowAt wx a nn xs from fun hd wx ht=>by
  have e4:o4=β:=(Aa W).1 (by
   have hk:=(Aa f).nd.kd;rw[<-Aa T]at hd hk;have A:=(Aa b).nd.kd;rcases A with⟨_,_,c,_⟩|⟨_,_,_,d⟩|⟨_,_,c,_⟩
   ·exact c
   ·exact absurd d hd
   ·exact c)
  have e3:v.s.rl=β:=by
   cases hr:v.s.rl with
   |none=>rfl
   |some r=>
    obtain⟨r',Y,_⟩:=(Aa W).2 r hr;rw[e4]at Y;cases Y
  have es:n4.s=v.s:=by
   rw[<-Aa T];show v.s.setR o4=v.s;rw[e4,<-e3];rfl
  exact((Aa f).row.below (δ _ _).drew).tuN ht fun ad ha hn e=>by rw[es]at e;have:=Aa E _ e;have:=(Aa f).new ad ha hn;omega)
 have D:=Ab (rH B n4.p n4.s ⟨o,l,k,z,y,⟨a,nn,c,xs,t⟩⟩ w4.drew ((Aa f).nd.st.below (δ _ _).drew) (fun wx hx=>(Aa HT _ ((((Aa H).keeps (Aa f).tu).trans (δ _ _).drew).trans hx)).tab) (Aa J) (Aa V).1 (Aa V).2);simp only[PKV.val]at D;have y3:=(Aa f).box.at 3 rfl;have y4:=(Aa f).box.at 4 rfl;have y5:=(Aa f).box.at 5 rfl;have y6:=(Aa f).box.at 6 rfl;have y7:=(Aa f).box.at 7 rfl;have y8:=(Aa f).box.at 8 rfl;have y9:=(Aa f).box.at 9 rfl;clear u3 u4 u5 u6 u7 u8 u9;go_wp2_with fail
 go_region_held3 (fun w'=>w'.cell? ⟨g,15,β⟩=γ (.pointer (ptrC n4.s.dc))/\w'.cell? ⟨fq,3,β⟩=γ (U α o)/\w'.cell? ⟨fq,4,β⟩=γ (U α l)/\w'.cell? ⟨fq,5,β⟩=γ (U α k)/\w'.cell? ⟨fq,6,β⟩=γ (U α z)/\w'.cell? ⟨fq,7,β⟩=γ (U α y)/\w'.cell? ⟨fq,8,β⟩=γ (η a nn c)/\w'.cell? ⟨fq,9,β⟩=γ (ζ t)) (go_keep) (first
  |(go_at_call 85;refine(Aa D).mono ?_;rintro e w5 ⟨b5,o5,rfl,H5⟩;have u:=Ab (Zr (Aa f) (Aa H5));have ak:=(Aa u).nd.blk.at 15 (show _=γ (.pointer (ptrC o5)) from rfl);rw[(Aa H5).2.2.1]at ak;have u3:=(Aa u).box.at 3 rfl;have u4:=(Aa u).box.at 4 rfl;have u5:=(Aa u).box.at 5 rfl;have u6:=(Aa u).box.at 6 rfl;have u7:=(Aa u).box.at 7 rfl;have u8:=(Aa u).box.at 8 rfl;have u9:=(Aa u).box.at 9 rfl)
  |fail)
 go_wp2;go_ret;have h5:=Aa u;have a2:=(Aa H5).2.1;have a3:=Aa W;have X:=Aa T;have Q:=Aa ai;clear T ai u H5 W ax f b D J E a1 ak;subst X;subst Q;refine⟨0,_,rfl,⟨kd,fr,ic,⟨o,l,k,z,y,⟨a,nn,c,xs,t⟩⟩,Aa I,.inr ⟨rfl,n.s.N+1,o4,o5,rfl,?_,?_⟩⟩,?_,h5.tu,h5.mv⟩
 ·rw[Aa S,decide_eq_true (Aa x)]
  exact a3
 ·rw[Aa S,decide_eq_true (Aa x)]
  exact a2
 ·rw[if_pos (Aa x)]
  exact h5.nd
end Go.Proofs.YtfpmnekaockodaaGreatDoor
