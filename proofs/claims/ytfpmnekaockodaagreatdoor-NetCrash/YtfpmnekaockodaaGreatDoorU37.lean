/- Laws for the proof. -/
import Derived.Test.YtfpmnekaockodaaGreatDoorU36
import Derived.Defers
import Derived.Recover
set_option linter.all false
open Go.Proofs.Tryz
open Go.Value renaming int->U,string->δ,pointer->η,slice->θ,ownBlock->φ,tuple->χ
open Go.IntKind renaming i64->α
open Option renaming some->β,none->γ
open Go.Proofs.Tryz renaming prog->ε
open Nat renaming le_trans->ζ,le_refl->κ,zero_le->τ
open Go renaming World->ι,Value->σ,Calls->υ
open Go.Ending renaming returned->μ
open Go.RowKit.Below renaming refl->ν
open List renaming getD_eq_getElem?_getD->ξ,length_append->π,take_of_length_le->ρ,length_take->ς,append_assoc->ψ
open Go.RowKit renaming Below->ο
namespace Go.Proofs.YtfpmnekaockodaaGreatDoor
open Go.RowKit Go.Sort
set_option maxRecDepth 4000
set_option maxHeartbeats 8000000
variable {fs:List AE}{l:AH}{g B i t k:Nat}{v tv:σ}{w w' wr:ι}
def Dg(u:AH->Int×List ByteArray×Nat)(l:AH):AH:=l.now (u l).1 (u l).2.1 (u l).2.2
def A6(u:AH->Int×List ByteArray×Nat)(i:Nat)(ls:List AH):List AH:=(ls.take i).map (Dg u)++ls.drop i
def Fk(u:AH->Int×List ByteArray×Nat)(i:Nat)(ls:List AH):(A6 u i ls).length=ls.length:=by simp[A6];omega
def jU(u:AH->Int×List ByteArray×Nat)(ls:List AH):A6 u 0 ls=ls:=by simp[A6]
def KC(u:AH->Int×List ByteArray×Nat){i:Nat}{ls:List AH}(h:ls.length<=i):A6 u i ls=ls.map (Dg u):=by simp[A6,ρ h,List.drop_eq_nil_of_le h]
def Mg(u:AH->Int×List ByteArray×Nat)(i k:Nat)(ls:List AH)(a:k<ls.length):(A6 u i ls).getD k .dflt=if k<i then Dg u (ls.getD k .dflt)else ls.getD k .dflt:=by
 unfold A6;simp only[ξ];split
 ·rename_i h
  rw[List.getElem?_append_left (by simp;omega)];simp[h,a]
 ·rename_i h
  rw[List.getElem?_append_right (by simp;omega)];simp only[List.length_map,ς,List.getElem?_drop];rw[show i+(k-min i ls.length)=k by omega]
def JI(u:AH->Int×List ByteArray×Nat){i:Nat}{ls:List AH}(h:i<ls.length):(A6 u i ls).getD i .dflt=ls.getD i .dflt:=by rw[Mg u i i ls h,if_neg (Nat.lt_irrefl _)]
def jT(u:AH->Int×List ByteArray×Nat){i:Nat}{ls:List AH}(h:i<ls.length):(A6 u i ls).set i (Dg u (ls.getD i .dflt))=A6 u (i+1) ls:=by
 unfold A6;have a:((ls.take i).map (Dg u)).length=i:=by simp;omega
 rw[List.set_append_right _ _ (by omega),a,Nat.sub_self,List.take_succ_eq_append_getElem h,List.map_append,ψ];have b:ls.getD i .dflt=ls[i]:=by simp[ξ,h]
 rw[b,show ls.drop i=ls[i]::ls.drop (i+1) from List.drop_eq_getElem_cons h];rfl
def Ap.withL(n:Ap)(ls:List AH)(t:Nat):Ap:=⟨n.id,n.inc,n.p,n.src,⟨n.s.lv,ls,n.s.gm,n.s.Z,n.s.gc,n.s.gcm,n.s.N,n.s.P,n.s.rl,n.s.dc⟩,t⟩
def Al.lstep{n:Ap}{u:AH->Int×List ByteArray×Nat}(h:Al w g B (n.withL (A6 u i n.s.ls) t))(f:i<n.s.ls.length)(m:(Dg u (n.s.ls.getD i .dflt)).At w' n.p.M n.p.queue)(ht:Tu (n.s.ls.getD i .dflt).F w w')(o:(u (n.s.ls.getD i .dflt)).2.2<=t):
  Al w' g B (n.withL (A6 u (i+1) n.s.ls) t):=by
 have r:i<(A6 u i n.s.ls).length:=by rw[Fk];exact f
 have d:=JI u f;have z:=h.st.link (i:=i) (lv:=(u (n.s.ls.getD i .dflt)).1) (L:=(u (n.s.ls.getD i .dflt)).2.1) (lo:=(u (n.s.ls.getD i .dflt)).2.2) r (by show AH.At w' n.p.M n.p.queue (((A6 u i n.s.ls).getD i .dflt).now _ _ _);rw[d];exact m) (by show Tu ((A6 u i n.s.ls).getD i .dflt).F w w';rw[d];exact ht);have q:Ag w' B n.p ⟨n.s.lv,A6 u (i+1) n.s.ls,n.s.gm,n.s.Z,n.s.gc,n.s.gcm,n.s.N,n.s.P,n.s.rl,n.s.dc⟩:=by
  rw[<-jT u f];have e:(A6 u i n.s.ls).getD i .dflt=n.s.ls.getD i .dflt:=d;have:Ag w' B n.p ⟨n.s.lv,(A6 u i n.s.ls).set i (((A6 u i n.s.ls).getD i .dflt).now (u (n.s.ls.getD i .dflt)).1 (u (n.s.ls.getD i .dflt)).2.1 (u (n.s.ls.getD i .dflt)).2.2),n.s.gm,n.s.Z,n.s.gc,n.s.gcm,n.s.N,n.s.P,n.s.rl,n.s.dc⟩:=z;rw[e]at this;exact this
 have c:=h.tm;refine Al.state (n:=n.withL (A6 u i n.s.ls) t) h q (ht.wide fun j y=>.inr (.inl ⟨i,r,by show((A6 u i n.s.ls).getD i .dflt).F j;rw[d];exact y⟩)) rfl Iff.rfl Iff.rfl (by show(A6 u (i+1) n.s.ls).length=(A6 u i n.s.ls).length;rw[Fk,Fk]) ⟨c.1,fun k m=>?_⟩;have b:k<n.s.ls.length:=by rw[<-Fk u (i+1) n.s.ls];exact m
 show((A6 u (i+1) n.s.ls).getD k .dflt).lo<=t;have a:((A6 u i n.s.ls).getD k .dflt).lo<=t:=c.2 k (by show k<(A6 u i n.s.ls).length;rw[Fk];exact b);rw[Mg u _ _ _ b]at a⊢;by_cases e:k<i
 ·rw[if_pos e]at a;rw[if_pos (by omega)];exact a
 ·by_cases x:k=i
  ·subst x;rw[if_pos (by omega)];exact o
  ·rw[if_neg e]at a;rw[if_neg (by omega)];exact a
def Al.lstart{n:Ap}(h:Al w g B n)(u:AH->Int×List ByteArray×Nat)(ht:n.t<=t):Al w g B (n.withL (A6 u 0 n.s.ls) t):=by
 rw[jU];exact⟨h.blk,h.lo,h.tos,h.src,h.st,h.kd,h.num,ζ h.tm.1 ht,fun i a=>ζ (h.tm.2 i a) ht⟩
def Ap.each(n:Ap)(u:AH->Int×List ByteArray×Nat):Ap:=n.withL (n.s.ls.map (Dg u)) (n.t+1)
def FU(q:Int)(e:ByteArray)(l:AH):Int×List ByteArray×Nat:=if l.L.length<capN q then(l.lv,l.L++[e],l.lo)else(l.lv,l.L,l.lo+1)
def II(M q k:Int)(l:AH):Int×List ByteArray×Nat:=(Gw M (1000*Bu q 1 256) l.lv k,l.L,l.lo)
def lj(l:AH)(M q:Int)(f:Br)(w:ι)(h:l.At w M q)(ht:Tab w)(x:RowAt w f.p.r.a f.p.r.n f.p.r.xs)(u:f.p.r.n<=1048576)(s:f.ok)(o:l.lo<=1099511627776):
  υ ε 79 #[.pointer (β ⟨l.g,0,γ⟩),f.val] w fun e w'=> ∃en:Int,e=μ (U α en)/\(Dg (FU q f.enc) l).At w' M q/\Tu l.F w w':=by
 unfold Dg FU;by_cases m:l.L.length<capN q
 ·rw[if_pos m]
  exact(ll l.g l.gb l.gq l.c l.lo M q l.lv l.L f w h ht x u s m).mono fun e w' ⟨j,b,d⟩=>⟨0,j,b,d⟩
 ·rw[if_neg m]
  exact(ez l.g l.gb l.gq l.c l.lo M q l.lv l.L f w h ht x u s (by omega) o).mono fun e w' ⟨j,b,d⟩=>⟨5,j,b,d⟩
def AH.At.row{M q:Int}(h:l.At w M q){a:Option Addr}{n:Nat}{xs:List Nat}(j:RowAt w a n xs)(ht:Tu l.F w w'):RowAt w' a n xs:=by
 refine⟨j.1,j.2.1,?_⟩;rcases j.2.2 with u|⟨b,off,rfl,p⟩
 ·exact .inl u
 ·refine .inr ⟨b,off,rfl,fun i o=>ht.cell (p i o) fun e=>?_⟩
  have d:=p i o
  have no:∀(T:TypeId) (cs:List σ),BkA T w b cs->(∀x∈cs,∀i,x≠ U .u64 i)->False:=fun T cs m f=>by
   unfold BkA at m;rw[cell_of_row w b _ _ _ _ m]at d;have y:cs[off+i]? =β (U .u64 ((xs.getD i 0:Nat):Int)):=by simpa using d
   exact f _ (List.mem_of_getElem? y) _ rfl
  rcases e with e|e|e|e
  ·have e:b=l.g:=e
   subst e;exact no _ _ h.blk (by simp)
  ·have e:b=l.gb:=e
   subst e;exact no _ _ h.bt.blk (by simp)
  ·have e:b=l.gq:=e
   subst e;exact no _ _ h.qu.blk (by simp)
  ·have e:b=l.c:=e
   subst e;obtain⟨s,r,f⟩:=h.qu.chn;rw[World.cell?,f]at d;cases d
def Fc.ok{n:Ap}{L:List Nat}{f:Br}(h:Al w g B n)(E:n.id<=7)(q:∀r,n.src=β r->Ci n.id r)(D:Fc n L f):f.ok/\f.p.r.xs.length<=10:=by
 obtain⟨A,C,j,c⟩:=D;have z:=h.num.1;have m:f.p.r.xs=((C1 n L).getD EM.pd).xs:=by rw[<-c];rfl
 have y:∀d,C1 n L=β d->BM d=true:=fun d a=>by
  unfold C1 at a;cases x:n.src with
  |some r=>rw[x]at a;cases a;exact(q r x).ck L
  |none=>
   rw[x]at a;cases u:n.s.rl with
   |none=>rw[u]at a;cases a
   |some r=>
    rw[u]at a;obtain⟨I,H⟩:=kS a;exact(ZJ (h.st.rl r u).buf.inv.ok H).1
 have b:(0<=f.fr/\f.fr<=7)/\(0<=f.ic/\f.ic<=4294967295):=by rw[A,C];omega
 cases o:C1 n L with
 |none=>
  rw[o]at j c m;refine⟨⟨b.1,b.2,.inl ⟨j,?_⟩⟩,by rw[m];decide⟩;have e:f.p.pd=EM.pd:=c;simp only[PKV.pd,EM,PD.mk.injEq]at e;exact UF ⟨e.1,e.2.1,e.2.2.1,e.2.2.2.1,e.2.2.2.2.1,e.2.2.2.2.2.1,e.2.2.2.2.2.2⟩
 |some d=>
  have a:=y d o;rw[o]at j c m;have e:f.p.pd=d:=c;refine⟨⟨b.1,b.2,.inr ⟨j,?_⟩⟩,by rw[m];exact ζ (JZ a) (by decide)⟩;have:=Gp.1 a;rw[<-e]at this;exact this
def Br.cells(f:Br):List σ:=[U α f.kd,U α f.fr,U α f.ic,U α f.p.o,U α f.p.l,U α f.p.k,U α f.p.z,U α f.p.h,.slice f.p.r.a f.p.r.n f.p.r.c,δ f.p.r.s]
def Al.keeps{n:Ap}(h:Al w g B n)(ht:Tu (A9 g n) w w'):ο B w w':=h.step (ν B w) ht
def Nv{n:Ap}(a:i<n.s.ls.length):∀j,(n.s.ls.getD i .dflt).F j->A9 g n j:=fun j b=>.inr (.inr (.inr (.inr (.inl ⟨i,a,b⟩))))
def Al.lptr{n:Ap}{u:AH->Int×List ByteArray×Nat}(h:Al w g B (n.withL (A6 u i n.s.ls) t))(a:i<n.s.ls.length):∃b c,n.s.lv=.slice (β ⟨b,0,γ⟩) n.s.ls.length c/\w.cell? ⟨b,i,γ⟩=β (.pointer (β ⟨(n.s.ls.getD i .dflt).g,0,γ⟩)):=by
 have f:0<(A6 u i n.s.ls).length:=by rw[Fk];omega
 obtain⟨b,c,e,d⟩:=Bh.at (ls:=A6 u i n.s.ls) h.st.lks f;have:=d i (by rw[Fk];exact a);rw[JI u a]at this;rw[Fk]at e;exact⟨b,c,e,this⟩
structure F5(w wr:ι)(g B fq k:Nat)(n:Ap)(f:Br):Prop where
 nd:Al wr g B (n.withL (A6 (FU n.p.queue f.enc) k n.s.ls) (n.t+1))
 tu:Tu (A9 g n) w wr
 row:RowAt wr f.p.r.a f.p.r.n f.p.r.xs
 box:BkA 157 wr fq f.cells
def AH.At.box{M q:Int}{cs:List σ}(h:l.At w M q)(a:BkA 157 w g cs)(ht:Tu l.F w w'):BkA 157 w' g cs:=a.tu ht fun e=>by have:=Au.kd h g e;have:=a.kd;omega
def F5.step{w2:ι}{b:Nat}{n:Ap}{f:Br}(h:F5 w wr g B b k n f)(c:k<n.s.ls.length){l:AH}(m:n.s.ls.getD k .dflt=l)(a:l.At wr n.p.M n.p.queue)(d:(Dg (FU n.p.queue f.enc) l).At w2 n.p.M n.p.queue)(ht:Tu l.F wr w2)(o:l.lo<=n.t):F5 w w2 g B b (k+1) n f:=by
 subst m;refine⟨h.nd.lstep c d ht ?_,h.tu.trans ht fun j _ e=>Nv c j e,a.row h.row ht,a.box h.box ht⟩;unfold FU;split
 ·show(n.s.ls.getD k .dflt).lo<=n.t+1;omega
 ·show(n.s.ls.getD k .dflt).lo+1<=n.t+1;omega
def nA(g B:Nat)(n:Ap)(a:Option Addr)(dn dc:Nat)(L:List Nat)(now:Int)(w:ι)(h:Al w g B n)(ht:∀wx,ο B w wx->Bv wx)(y:∀r,n.src=β r->Ci n.id r)(aa:n.id<=7)(hd:RowAt w a dn L)(Z:dn<=1048576)(ag:n.t<1099511627776):
  υ ε 50 #[.pointer (β ⟨g,0,γ⟩),θ a dn dc,U α now] w fun e w'=>e=μ (χ #[])/\∃f:Br,Fc n L f/\Al w' g B (n.each (FU n.p.queue f.enc))/\Tu (A9 g n) w w'/\Ac f.p.r.xs:=by
 have HF:=Ab (fE g B n a dn dc L w h (ht w (ν _ _)) y hd Z);obtain⟨al,cl,O⟩:=h.st.lks.len;have ab:n.s.ls.length<=8:=by have:=h.num;omega
 have H:=Ab h;have HT:=Ab ht;have V:=Ab y;have ae:=h.blk.lt;clear h ht y hd;go_enter func50,ntmps50;go_wp2_with fail;refine(Aa HF).mono ?_;rintro e w1 ⟨f,rfl,K,A,x⟩;have D:=Ab K;have W:=Ab A.2.1;have m:=Ad x (As w1 (.cells #[U α f.kd,U α f.fr,U α f.ic,U α f.p.o,U α f.p.l,U α f.p.k,U α f.p.z,U α f.p.h,.slice f.p.r.a f.p.r.n f.p.r.c,δ f.p.r.s] 157));have E:=Ab (show F5 w (w1.alloc (.cells #[U α f.kd,U α f.fr,U α f.ic,U α f.p.o,U α f.p.l,U α f.p.k,U α f.p.z,U α f.p.h,.slice f.p.r.a f.p.r.n f.p.r.c,δ f.p.r.s] 157)) g B w1.heap.size 0 n f from⟨((Aa H).below m).lstart _ (Nat.le_succ _),Tu.of_below m,A.below (As _ _),AI 157 w1 f.cells⟩);have I:=((Aa H).below m).blk.at 11 (show(EJ n)[11]? =β n.s.lv from rfl);rw[O]at I;have af:w1.heap.size≠g:=by have:=x.size;omega
 unfold Br.val;clear K A x m;go_wp2_with fail;generalize w1.alloc (.cells #[U α f.kd,U α f.fr,U α f.ic,U α f.p.o,U α f.p.l,U α f.p.k,U α f.p.z,U α f.p.h,.slice f.p.r.a f.p.r.n f.p.r.c,δ f.p.r.s] 157)=wa at*;generalize w1.heap.size=fq at*;clear I;have q:=Ab (Fc.ok (Aa H) aa (Aa V) (Aa D));go_loopw [20] (fun i wr=> ∃k:Nat,k<=n.s.ls.length/\i=U α k/\Hid (F5 w wr g B fq k n f)) (fun i _=>n.s.ls.length-(intOf i).toNat)
 case atStart=>exact⟨0,τ _,rfl,E⟩
 case round=>
  obtain⟨k,hk,rfl,j⟩:=hrel;clear E;rename_i wr;by_cases d:k<n.s.ls.length
  ·have ac:(k:Int)<(n.s.ls.length:Int):=by omega
   obtain⟨b,c,Y,ad⟩:=(Aa j).nd.lptr d;rw[O]at Y;simp only[Value.slice.injEq,true_and]at Y;obtain⟨rfl,rfl⟩:=Y;have N:(n.s.ls.getD k .dflt).lo<=n.t:=(Aa H).tm.2 k d;have u:(n.s.ls.getD k .dflt).At wr n.p.M n.p.queue:=by
    have:=((Aa j).nd.st.each k (by show k<(A6 _ k n.s.ls).length;rw[Fk];exact d)).1;have e:AH.At wr n.p.M n.p.queue ((A6 (FU n.p.queue f.enc) k n.s.ls).getD k .dflt):=this;rwa[JI _ d]at e
   have R:=Ab u;have HS:=Ab (lj _ n.p.M n.p.queue f wr u (Aa HT _ ((Aa H).keeps (Aa j).tu)).tab (Aa j).row (by have:=(Aa q).2;have:=(Aa j).row.1;omega) (Aa q).1 (by omega));have T:=Ab N;have C:=Ab (Aa j).box;clear u N;generalize hl:n.s.ls.getD k .dflt=l at*;have S:=Ab hl;clear hl;unfold Br.val at HS;unfold Br.cells at C
   go_wp2_with (first
    |((with_reducible refine PK 157 underlying157 rfl JP 6 fq _ ?_ (Aa C) rfl ?_);(focus rfl))
    |(go_at_call 79;refine(Aa HS).mono ?_;rintro e w2 ⟨en,rfl,J,P⟩;have Q:=Ab J;have X:=Ab P;clear J P)
    |fail)
   go_round
   case rel=>exact⟨k+1,d,by go_num,Ab ((Aa j).step d (Aa S) (Aa R) (Aa Q) (Aa X) (Aa T))⟩
   case measure=>simp[intOf];omega
  ·obtain rfl:k=n.s.ls.length:=by omega
   go_wp2;have hn:=(Aa j).nd;rw[KC _ (κ _)]at hn;go_end0;exact⟨rfl,f,Aa D,hn,(Aa j).tu,Aa W⟩
def eB{ops:Array Oper}{o:Oper}{a:Act}{K:Act->ι->Prop}{Q:Exit->Act->ι->Prop}{E:Prop}(d:o.guard=γ)(s x:Operand)
  (A:o.op=.call {callee:=.builtin .append,args:=#[s,x],argTypes:=#[46,46]}) (B:Nat) (v:σ) (fs:List AE) (f:AE) (C:a.eval s=v) (c:An w B v fs) (b:Nat)
  (D:a.eval x=.slice (β ⟨b,0,γ⟩) 1 1) (y:w.heap[b]? =β (.cells #[U α f.fr,U α f.dst,δ f.s] 99 (0,0))) (J:fs.length<=1000000) (r:B<=w.heap.size)
  (h:∀g cap w',An w' B (.slice (β ⟨g,0,γ⟩) (fs.length+1) cap) (fs++[f])->w.grownBy w' v.ownBlock->K (a.put o.dst (.slice (β ⟨g,0,γ⟩) (fs.length+1) cap)) w'):
  if Region.wanted o (yielded ops a.tmps)=true then Oper.wp ε o a w K Q else E:=by
 obtain⟨H,z,e,j,m⟩:=info_parts MD
 refine step_append_lies w d s x 46 A B 99 H _ 3 32 underlying46 z e j m rfl (by decide) v fs.length (cellsG fs) C c ⟨b,0,γ⟩ 1 1 f.cells D rfl
  (World.news_of_block y) (fun u n=>by simp only[AE.cells,List.mem_cons,List.not_mem_nil,or_false]at n;rcases n with h|h|h<;>(rw[h];rfl)) (by decide) (by unfold maxLen;omega) (by omega) r _ rfl (fun g cap w' p q I _=>h g cap w' ?_ q)
 show w'.ownsRow B 99 3 _ (fs++[f]).length (cellsG (fs++[f]));rw[π,show cellsG (fs++[f])=cellsG fs++f.cells by simp[cellsG]];exact p
def Al.nk{n:Ap}(h:Al w g B n):∀j,A9 g n j->kdB w j≠99+2/\kdB w j≠265+2:=fun j a=>by
 rcases a with rfl|a|⟨r,b,a⟩|a
 ·have:=h.blk.kd;omega
 ·have:=Bc h.tos a;omega
 ·have:=(h.src r b).kd j a;omega
 ·have:=h.st.kd j a;omega
def Co(l:AH):Int×List ByteArray×Nat:=(l.lv-1000*(DP l.L l.lv:Int),l.L.drop (DP l.L l.lv),l.lo)
def Di(n:Ap)(i m:Nat):List AE:=((n.s.ls.getD i .dflt).L.take m).map fun s=>⟨(n.id:Int),n.p.tos.getD i 0,s⟩
def ED(n:Ap)(i:Nat):Nat:=DP (n.s.ls.getD i .dflt).L (n.s.ls.getD i .dflt).lv
def flyTo(n:Ap):Nat->List AE
 |0=>[]
 |k+1=>flyTo n k++Di n k (ED n k)
def mH{n:Ap}{m:Nat}(h:m<(n.s.ls.getD i .dflt).L.length):Di n i m++[⟨(n.id:Int),n.p.tos.getD i 0,(n.s.ls.getD i .dflt).L.getD m ByteArray.empty⟩]=Di n i (m+1):=by
 unfold Di;rw[<-SU h,List.map_append];rfl
def Vg(n:Ap)(i m:Nat):(Di n i m).length<=m:=by unfold Di;rw[List.length_map,ς];omega
def OG{n:Ap}:∀{k:Nat},(∀i,i<k->ED n i<=256)->(flyTo n k).length<=256*k
 |0,_=>κ _
 |k+1,h=>by
  have a:=OG (n:=n) (k:=k) fun i d=>h i (by omega);have b:=Vg n k (ED n k);have c:=h k (by omega);show(flyTo n k++Di n k (ED n k)).length<=_;rw[π];omega
def Al.fly{n:Ap}(h:Al w g B n)(a:i<n.s.ls.length):ED n i<=256:=
 ζ (WA _ _) (ζ (Au.qu (h.st.each i a).1).len (Au.qu (h.st.each i a).1).most)
structure Ly(w wr:ι)(g B k:Nat)(n:Ap)(v:σ)(fs:List AE):Prop where
 nd:Al wr g B (n.withL (A6 Co k n.s.ls) (n.t+1))
 tu:Tu (A9 g n) w wr
 out:An wr w.heap.size v fs
def Al.gb{C:Nat}{n:Ap}(h:Al w g B n)(b:An w C v fs)(c:w.grownBy w' v.ownBlock):Al w' g B n:=
 h.tu (F:=fun j=>v.ownBlock=β j) (Tu.of_gb c fun j _ e=>e) (fun j a e=>by have:=(h.nk j a).1;have:=Bc b e;omega) fun j a e=>by have:=Bc b e;omega
def bG{F:Nat->Prop}(h:Tu F w wr)(b:An wr w.heap.size v fs)(a:wr.grownBy w' v.ownBlock):Tu F w w':=
 h.trans (Tu.of_gb (F:=fun j=>v.ownBlock=β j) a fun j _ e=>e) fun j c e=>by have:=(C9 b e).1;omega
structure Ic(w wi:ι)(g B k:Nat)(n:Ap)(tv:σ)(ts:List ByteArray)(v:σ)(fs:List AE):Prop where
 nd:Al wi g B (n.withL (A6 Co (k+1) n.s.ls) (n.t+1))
 tu:Tu (A9 g n) w wi
 out:An wi w.heap.size v fs
 tx:Ar wi w.heap.size tv ts
def Ly.go{w2:ι}{n:Ap}{m:Nat}(h:Ly w wr g B k n v fs)(a:k<n.s.ls.length)(f:n.s.ls.getD k .dflt=l)(q:ED n k=m)(o:l.lo<=n.t)(ht:GH wr w2 l.g l.gb l.gq l.c n.p.M n.p.queue l.lv l.L l.lo m tv):Ic w w2 g B k n tv (l.L.take m) v fs:=by
 subst f q;have b:(n.s.ls.getD k .dflt).At wr n.p.M n.p.queue:=by
  have:=(h.nd.st.each k (by show k<(A6 _ k n.s.ls).length;rw[Fk];exact a)).1;have e:AH.At wr n.p.M n.p.queue ((A6 Co k n.s.ls).getD k .dflt):=this;rwa[JI _ a]at e
 exact⟨h.nd.lstep a ht.lk ht.tu (by show(n.s.ls.getD k .dflt).lo<=n.t+1;omega),h.tu.trans ht.tu fun j _ e=>Nv a j e,Cj h.out ht.tu fun j d e=>by have:=Bc h.out d;have:=Au.kd b j e;omega,ht.own.mono h.tu.size⟩
def Ic.gb{m:ι}{n:Ap}{v':σ}{d:List ByteArray}{a:List AE}(h:Ic w m g B k n tv d v fs){f:ι}(b:ο m.heap.size m f)(c:f.grownBy w' v.ownBlock)(q:An w' w.heap.size v' a):Ic w w' g B k n tv d v' a:=by
 have o2:=h.out.below b;have o:Ar f w.heap.size tv d:=h.tx.below b;exact⟨(h.nd.below b).gb o2 c,bG (h.tu.then b) o2 c,q,Cj o (Tu.of_gb (F:=fun j=>v.ownBlock=β j) c fun j _ e=>e) fun j p e=>by have:=Bc o p;have:=Bc o2 e;omega⟩
def Ic.cells{c:ι}{n:Ap}{r:List ByteArray}(h:Ic w c g B k n tv r v fs)(o:k<n.p.tos.length):∃a d,n.p.tv=.slice (β ⟨a,0,γ⟩) n.p.tos.length d/\c.cell? ⟨g,0,γ⟩=β (U α (n.id:Int))/\c.cell? ⟨g,9,γ⟩=β (.slice (β ⟨a,0,γ⟩) n.p.tos.length d)/\c.cell? ⟨a,k,γ⟩=β (U α (n.p.tos.getD k 0)):=by
 have f:c.ownsRow B 3 1 n.p.tv n.p.tos.length (cellsZ n.p.tos):=h.nd.tos;have m:=h.nd.blk.at 9 (show(EJ (n.withL (A6 Co (k+1) n.s.ls) (n.t+1)))[9]? =β n.p.tv from rfl);rcases f.2 with⟨_,u⟩|⟨a,cap,j,e,x,y,A,z,q,ht⟩
 ·omega
 ·refine⟨a,cap,e,h.nd.blk.at 0 rfl,by rw[<-e];exact m,?_⟩
  have b:=f;rw[e]at b;rw[b.cellAt k (by omega),Hp _ k o]
def iZ(g B:Nat)(n:Ap)(w:ι)(h:Al w g B n):
  υ ε 49 #[.pointer (β ⟨g,0,γ⟩)] w fun e w'=> ∃v,e=μ v/\An w' w.heap.size v (flyTo n n.s.ls.length)/\Al w' g B (n.each Co)/\Tu (A9 g n) w w':=by
 obtain⟨al,cl,W⟩:=h.st.lks.len;have an:n.s.ls.length<=8:=by have:=h.num;omega
 have O:=h.blk.at 11 (show(EJ n)[11]? =β n.s.lv from rfl);rw[W]at O;have D:=Ab (show Ly w w g B 0 n (θ none 0 0) (flyTo n 0) from⟨h.lstart _ (Nat.le_succ _),Tu.refl _ _,An.nil _ _⟩);have H:=Ab h;have az:=h.blk.lt;have N:=Ab (show n.s.ls.length=n.p.tos.length from h.num.2.1);clear h;go_enter func49,ntmps49;go_wp2_with fail;clear O;go_loopw [3,16] (fun o i wr=> ∃k:Nat,k<=n.s.ls.length/\i=U α k/\Hid (Ly w wr g B k n o (flyTo n k))) (fun _ i _=>n.s.ls.length-(intOf i).toNat)
 case atStart=>exact⟨0,τ _,rfl,D⟩
 case round=>
  obtain⟨k,hk,rfl,y⟩:=hrel;clear D;by_cases d:k<n.s.ls.length
  ·have aw:(k:Int)<(n.s.ls.length:Int):=by omega
   obtain⟨b,c,hb,am⟩:=(Aa y).nd.lptr d;rw[W]at hb;simp only[Value.slice.injEq,true_and]at hb;obtain⟨rfl,rfl⟩:=hb;have x:(n.s.ls.getD k .dflt).At wr n.p.M n.p.queue:=by
    have:=((Aa y).nd.st.each k (by show k<(A6 _ k n.s.ls).length;rw[Fk];exact d)).1;have e:AH.At wr n.p.M n.p.queue ((A6 Co k n.s.ls).getD k .dflt):=this;rwa[JI _ d]at e
   have HP:=Ab (jO _ _ _ _ _ _ _ _ _ wr x);have ay:=Ab ((Aa H).tm.2 k d);have af:=Ab (show(n.s.ls.getD k .dflt).L.length<=256 from ζ x.qu.len x.qu.most);have HN:=Ab (show DP (n.s.ls.getD k .dflt).L (n.s.ls.getD k .dflt).lv=ED n k from rfl);have z:ED n k<=(n.s.ls.getD k .dflt).L.length:=WA _ _;have I:=Ab z;have av:ED n k<=256:=ζ z (Aa af);rw[Aa HN]at HP;clear x z;generalize hl:n.s.ls.getD k .dflt=l at*;generalize hm:ED n k=m at*;have u:=Ab hl;have J:=Ab hm;clear hl hm
   go_wp2_with (first
    |(go_at_call 77;refine(Aa HP).mono ?_;rintro e w2 ⟨b2,c2,rfl,V⟩;have E:=Ab V;clear V)
    |fail)
   have C:=Ab (show Ic w w2 g B k n (θ b2 m c2) (l.L.take m) u3 (flyTo n k++Di n k 0) from by
    have:=(Aa y).go d (Aa u) (Aa J) (by rw[<-Aa u];exact(Aa H).tm.2 k d) (Aa E);rwa[show Di n k 0=[] from rfl,List.append_nil])
   clear HP E y am;go_loopw [3,24] (fun o i wi=> ∃q:Nat,q<=m/\i=U α q/\Hid (Ic w wi g B k n (θ b2 m c2) (l.L.take m) o (flyTo n k++Di n k q))) (fun _ i _=>m-(intOf i).toNat)
   case atStart=>exact⟨0,τ _,rfl,C⟩
   case round=>
    obtain⟨q,hq,rfl,f⟩:=hrel;clear C;by_cases Y:q<m
    ·have ax:(q:Int)<(m:Int):=by omega
     have ao:m<=l.L.length:=Aa I;have ap:(l.L.take m).length=m:=by rw[ς];omega
     obtain⟨gt,ct,ht, -, -,P, -⟩:=(Aa f).tx.at (by omega);simp only[Value.slice.injEq]at ht;obtain⟨rfl, -,rfl⟩:=ht;have t0:=P q (by omega);have R:(l.L.take m).getD q ByteArray.empty=l.L.getD q ByteArray.empty:=by simp[ξ,Y]
     rw[R]at t0;obtain⟨A,cz,ab,s0,s9,sz⟩:=(Aa f).cells (by rw[<-Aa N];exact d);have K:=Ab (fun(e:β g=φ u3)=>by have:=Bc (Aa f).out e.symm;have:=(Aa f).nd.blk.kd;omega:β g≠φ u3);have ag:=Ab (show β A≠φ u3 from fun e=>by have:=Bc (Aa f).out e.symm;have:=Bc (Aa f).nd.tos (show n.p.tv.ownBlock=β A by rw[ab];rfl);omega);have a1:(k:Int)<(n.p.tos.length:Int):=by have:=Aa N;omega
     have a0:k<n.p.tos.length:=by omega
     have aj:=Ab (show l.L.getD q ByteArray.empty=l.L.getD q ByteArray.empty from rfl);have ac:=Ab (show(flyTo n k++Di n k q).length<=1000000 from by rw[π];have:=OG (n:=n) (k:=k) fun i hi=>(Aa H).fly (by omega);have:=Vg n k q;omega);have S:g<wr.heap.size:=(Aa f).nd.blk.lt;have ar:A<wr.heap.size:=World.block_lt_of_cell? wr _ sz;have aa:w.heap.size<=wr.heap.size:=(Aa f).tu.size;have ah:=Ab aa;clear P ap ao R ab;generalize hT:l.L.getD q ByteArray.empty=T at*;have ai:=Ab hT;clear hT aj aa;generalize hZ:n.p.tos.getD k 0=Z at*;have ak:=Ab hZ;clear hZ;have aq:=(Aa f).out.len;generalize Q:flyTo n k++Di n k q=fs at*;have ad:=Ab Q;clear Q;obtain⟨a3,c3,rfl⟩:=aq;go_wp2_with fail
     go_region_held3 (fun w'=>w'.cell? ⟨g,0,γ⟩=β (U α (n.id:Int))/\w'.cell? ⟨g,9,γ⟩=β (.slice (β ⟨A,0,γ⟩) n.p.tos.length cz)/\w'.cell? ⟨A,k,γ⟩=β (U α Z)) (go_keep) (first
      |(refine eB (by rfl) (.tmp 28) (.tmp 43) (by rfl) w.heap.size (θ a3 fs.length c3) fs ⟨(n.id:Int),Z,T⟩ (by rfl) ((Aa f).out.below ((ν _ _).drew.alloc (κ _) _)) wr.heap.size (by rfl) (AI 99 wr.drew [U α (n.id:Int),U α Z,δ T]) (Aa ac) (ζ (Aa ah) ((ν _ _).drew.alloc (κ _) _).size) ?_;intro g4 au w4 X r;have j:ο wr.heap.size wr (wr.drew.alloc (.cells #[U α (n.id:Int),U α Z,δ T] 99)):=((ν _ _).drew.alloc (κ _) _);have v0:=r.cell (a:=⟨g,0,γ⟩) ((j.cell S).trans s0) (Aa K);have v9:=r.cell (a:=⟨g,9,γ⟩) ((j.cell S).trans s9) (Aa K);have vz:=r.cell (a:=⟨A,k,γ⟩) ((j.cell ar).trans sz) (Aa ag);have ae:=Ab ((Aa f).gb j r X);clear j X r)
      |fail)
     go_wp2;go_round
     case rel=>
      refine⟨q+1,Y,by go_num,Ab ?_⟩;have h4:=Aa ae;have e:fs++[⟨(n.id:Int),Z,T⟩]=flyTo n k++Di n k (q+1):=by
       rw[<-Aa ad,ψ,<-Aa ak,<-Aa ai,<-Aa u,mH (by rw[Aa u];have:=Aa I;omega)]
      rw[e]at h4;exact h4
     case measure=>simp[intOf];omega
    ·obtain rfl:q=m:=by omega
     go_wp2;go_round
     case rel=>exact⟨k+1,d,by go_num,Ab ⟨(Aa f).nd,(Aa f).tu,by have:=(Aa f).out;rwa[<-Aa J]at this⟩⟩
     case measure=>simp[intOf];omega
  ·obtain rfl:k=n.s.ls.length:=by omega
   go_wp2;have hn:=(Aa y).nd;rw[KC _ (κ _)]at hn;go_ret;exact⟨_,rfl,(Aa y).out,hn,(Aa y).tu⟩
def pu(w:ι)(o:Obj):(w.alloc o).heap[w.heap.size]? =β o:=by
 show(w.heap.push o)[w.heap.size]? =_;simp
def fi(a:Option Addr)(l c:Nat)(ss:List ByteArray)(n:Nat)(w:ι)(h:AG w a l ss)(D:l<=1048576)(E:n<=9223372036854775807):
  υ ε 218 #[θ a l c,U α (n:Int)] w fun e w'=>e=μ (U α ((n-(joinL ss).length:Nat):Int))/\w'=w:=by
 obtain rfl:=h.1;go_enter func218,ntmps218;go_wp2;go_loop [1,9] (fun v i=> ∃k r:Nat,k<=ss.length/\i=U α k/\v=U α (r:Int)/\r<=n/\Hid (r=n-(joinL (ss.take k)).length)) (fun _ i=>ss.length-(intOf i).toNat)
 case atStart=>exact⟨0,n,τ _,rfl,rfl,κ _,Ab (by simp[joinL])⟩
 case round=>
  obtain⟨k,r,C,rfl,rfl,H,m⟩:=hrel;by_cases f:k<ss.length
  ·obtain⟨b,off,rfl,s⟩:=h.at f
   have p:=s k f;have u:=Te ss k f;have d:=congrArg List.length u;rw[π,AR]at d;have z:=Ab d;generalize ss.getD k ByteArray.empty=t at*;have M:=Jc t.size r;obtain⟨q,y⟩:∃q,min t.size r=q:=⟨_,rfl⟩;rw[y]at M;have j:(r:Int)-(q:Int)=((r-q:Nat):Int):=by omega
   have A:q<=r:=by omega
   have x:(k:Int)<(ss.length:Int):=by omega
   have o:=Ab (show r-q=n-(joinL (ss.take (k+1))).length by have:=Aa m;have:=Aa z;omega);clear s u d y h;go_wp2;go_round
   case rel=>exact⟨k+1,r-q,by omega,by go_num,by first|rfl|rw[j],by omega,o⟩
   case measure=>simp[intOf];omega
  ·obtain rfl:k=ss.length:=by omega
   rw[List.take_length]at m;clear h;go_wp2;go_ret;exact⟨Cu (by rw[Aa m]),rfl⟩
def qA(a:Option Addr)(l c:Nat)(ss:List ByteArray)(n:Nat)(w:ι)(h:AG w a l ss)(hl:l<=1048576)(hn:n<=1073741824)(hj:n<=(joinL ss).length):
  υ ε 187 #[θ a l c,U α (n:Int)] w fun e w'=>e=μ (χ #[δ (st ((joinL ss).take n)),U α 0])/\ο w.heap.size w w':=by
 obtain rfl:=h.1;have m:=fi a ss.length c ss n w h hl (by omega);rw[show n-(joinL ss).length=0 by omega]at m;have Q:=Ab m;have O:=Ab (Uc w.heap.size w.heap.size n (w.alloc (.cells #[η none,θ none 0 0] 298)) (κ _) (pu w _) (by simp) hn);have A:ο w.heap.size w (w.alloc (.cells #[η none,θ none 0 0] 298)):=(ν _ _).alloc (κ _) _;have aa:(0:Int)<=(n:Int):=by omega
 clear m;go_enter func187,ntmps187;go_wp2_with (first|(go_at_call 218;refine(Aa Q).mono ?_;rintro e w1 ⟨rfl,N⟩;obtain rfl:=N.symm)|(go_at_call 204;refine(Aa O).mono ?_;rintro e w1 ⟨rfl,z,d⟩));have s:=Ab z;have u:=Ab (A.trans d);clear A d z O Q;go_loopw [21] (fun i wr=> ∃k:Nat,k<=ss.length/\i=U α k/\Hid (GD wr w.heap.size w.heap.size ((joinL (ss.take k)).take n))/\Hid (ο w.heap.size w wr)) (fun i _=>ss.length-(intOf i).toNat)
 case atStart=>exact⟨0,τ _,rfl,Ab (by simpa [joinL]using Aa s),u⟩
 case round=>
  obtain⟨k,hk,rfl,f,p⟩:=hrel;clear s u;by_cases o:k<ss.length
  ·obtain⟨b,off,rfl,K⟩:=(h.below (Aa p)).at o
   have L:=K k o;have I:=Ab (Te ss k o);generalize ss.getD k ByteArray.empty=t at*;obtain⟨P,S⟩:∃P,joinL (ss.take k)=P:=⟨_,rfl⟩;rw[S]at f I;have J:(P.take n).length<=n:=List.length_take_le _ _;obtain⟨q,E⟩:∃q,(P.take n).length=q:=⟨_,rfl⟩;have y:=Ab (og w.heap.size w.heap.size (P.take n) _ (Aa f));rw[E]at y J;have R:(n:Int)-(q:Int)=((n-q:Nat):Int):=by omega
   have M:=Jc t.size (n-q);obtain⟨r,V⟩:∃r,min t.size (n-q)=r:=⟨_,rfl⟩;rw[V]at M;have ab:r<=t.size:=by omega
   have D:(t.extract 0 r).size=r:=by rw[ByteArray.size_extract];omega
   have Y:=Ab (lJ w.heap.size w.heap.size (P.take n) (t.extract 0 r) _ (Aa f) (by rw[E,D];omega) (Aa p).size)
   have W:=Ab (show P.take n++tx (t.extract 0 r)=(joinL (ss.take (k+1))).take n by
    rw[Aa I,List.take_append,Eu,List.drop_zero,Nat.sub_zero];congr 1;rw[ς]at E;by_cases K:n<=P.length
    ·rw[show r=0 by omega,show n-P.length=0 by omega]
    ·by_cases Z:t.size<=n-P.length
     ·rw[ρ (by rw[AR];omega),ρ (by rw[AR];omega)]
     ·rw[show r=n-P.length by omega])
   have T:(k:Int)<(ss.length:Int):=by omega
   clear K S E V D I;go_wp2_with (first|(go_at_call 220;refine(Aa y).mono ?_;rintro e w1 ⟨rfl,N⟩;obtain rfl:=N.symm)|(go_at_call 219;refine(Aa Y).mono ?_;rintro e w2 ⟨rfl,j,C⟩));rw[Aa W]at j;have H:=Ab j;have x:=Ab ((Aa p).trans C);clear j C f p;go_wp2;go_roundw
   case rel=>exact⟨k+1,by omega,by go_num,H,x⟩
   case measure=>simp[intOf];omega
  ·obtain rfl:k=ss.length:=by omega
   rw[List.take_length]at f;have X:=Ab (VB w.heap.size w.heap.size _ _ (Aa f) (Aa p).size);clear h f;go_wp2_with (go_at_call 206;refine(Aa X).mono ?_;rintro e w1 ⟨rfl,d⟩);go_ret2;exact⟨rfl,(Aa p).trans d⟩
def jm(g B:Nat)(M:Int)(p:PKV)(w:ι)(h:Ao w g B M CQ g (θ none 0 0) [])(hr:RowAt w p.r.a p.r.n p.r.xs)(hp:DD p=true):
  υ ε 126 #[.pointer (β ⟨g,0,γ⟩),.agg #[U α p.o,U α p.l,U α p.k,U α p.z,U α p.h,.slice p.r.a p.r.n p.r.c,δ p.r.s]] w fun e w'=>
   e=μ (χ #[])/\∃gs,Ao w' g B M (Cs CQ p) gs (θ none 0 0) []/\Tu (fun j=>j=g) w w'/\w.heap.size<=gs:=by
 have q:=As w (.cells #[U α p.o,U α p.l,U α p.k,U α p.z,U α p.h,.slice p.r.a p.r.n p.r.c,δ p.r.s] 75);have m:=AI 75 w [U α p.o,U α p.l,U α p.k,U α p.z,U α p.h,.slice p.r.a p.r.n p.r.c,δ p.r.s];have HC:=Ab (ES p.o p.l p.k p.z p.h p.r.a p.r.n p.r.c p.r.xs p.r.s _ (hr.below q) 0 (QO hp));have ae:=h.lt;have K:w.heap.size≠g:=by omega
 have HD:=Ab (h.below q);have hE:w.alloc (.cells [U α p.o,U α p.l,U α p.k,U α p.z,U α p.h,.slice p.r.a p.r.n p.r.c,δ p.r.s].toArray 75)=w.alloc (.cells #[U α p.o,U α p.l,U α p.k,U α p.z,U α p.h,.slice p.r.a p.r.n p.r.c,δ p.r.s] 75):=rfl;rw[hE]at m;clear hE h hr;generalize hW:w.alloc (.cells #[U α p.o,U α p.l,U α p.k,U α p.z,U α p.h,.slice p.r.a p.r.n p.r.c,δ p.r.s] 75)=W at*;have HX:=Ab m;have E:=Ab q;have P:=m.at 0 rfl;have Q:=m.at 1 rfl;have R:=m.at 2 rfl;have S:=m.at 3 rfl;have T:=m.at 4 rfl;have V:=m.at 5 rfl;have X:=m.at 6 rfl;clear m q;go_enter func126,ntmps126;go_wp2_with fail;refine(Aa HC).mono ?_;rintro e w1 ⟨rfl,u⟩;have A:=(Aa HD).below u;have b:=(Aa HX).below u;have y:=Ab (Ad (Aa E) u);have d5:w1.cell? ⟨g,5,γ⟩=β (η none):=A.blk.at 5 rfl;have H:=Ab (gD g B M p w1 A hp);have I:=Ab b;clear u HC E HX HD P Q R S T V X A;have P:=b.at 0 rfl;have Q:=b.at 1 rfl;have R:=b.at 2 rfl;have S:=b.at 3 rfl;have T:=b.at 4 rfl;have V:=b.at 5 rfl;have X:=b.at 6 rfl;clear b;have ad:Tryz.prog.eqGuardType Tryz.prog.depth 171=false:=by kernel_rfl
 go_wp2_with (first|(go_at_call 158;refine(K0 _ _).mono ?_;rintro e w2 ⟨rfl,N⟩;obtain rfl:=N.symm;clear N)|(go_at_call 159;refine(Aa H).mono ?_;rintro e w3 ⟨rfl,gs,C,D,L⟩));have d:=(Aa I).tu D K;have f:BkA 174 w3 g [U α M,U α p.o,U α p.l,U α p.k,U α p.z,.pointer (β ⟨gs,0,γ⟩),.bool false,δ ⟨#[]⟩]:=C.blk;have HQ:=Ab (fun wx (hb:ο w3.heap.size w3 wx)=>show _/\_ from⟨f.below hb,d.below hb⟩);have ab:=Ab (Tu.after (Aa y) D);have Z:=Ab C;have aa:=Ab (ζ (Aa y).size L);clear P Q R S T V X d5 H I y D C L;have P:=d.at 0 rfl;have Q:=d.at 1 rfl;have R:=d.at 2 rfl;have S:=d.at 3 rfl;have T:=d.at 4 rfl;have V:=d.at 5 rfl;have X:=d.at 6 rfl;have d1:=f.at 1 rfl;have d2:=f.at 2 rfl;have d3:=f.at 3 rfl;have d4:=f.at 4 rfl;clear d f
 have ac:∀W,(binOp .eql 171 (.agg #[U α p.o,U α p.l,U α p.k,U α p.z]) (.agg #[U α p.o,U α p.l,U α p.k,U α p.z])).run ε W=.ok (.bool true) W:=fun W=>by
  rw[QR];simp
 go_region_held3 (fun w'=>w'.cell? ⟨w.heap.size,0,γ⟩=β (U α p.o)/\w'.cell? ⟨w.heap.size,1,γ⟩=β (U α p.l)/\w'.cell? ⟨w.heap.size,2,γ⟩=β (U α p.k)/\w'.cell? ⟨w.heap.size,3,γ⟩=β (U α p.z)/\w'.cell? ⟨w.heap.size,4,γ⟩=β (U α p.h)/\w'.cell? ⟨w.heap.size,5,γ⟩=β (.slice p.r.a p.r.n p.r.c)/\w'.cell? ⟨w.heap.size,6,γ⟩=β (δ p.r.s)/\w'.cell? ⟨g,1,γ⟩=β (U α p.o)/\w'.cell? ⟨g,2,γ⟩=β (U α p.l)/\w'.cell? ⟨g,3,γ⟩=β (U α p.k)/\w'.cell? ⟨g,4,γ⟩=β (U α p.z)) (go_keep) (first
  |(go_at_call 160;refine(JY p.o p.l p.k p.z p.h (.slice p.r.a p.r.n p.r.c) (δ p.r.s) _).mono ?_;rintro e w4 ⟨rfl,J⟩;have Y:=Ab (show ο w3.heap.size w3 w4 from Ad (ν _ _).drew J);obtain⟨O,x⟩:=Aa HQ w4 (Aa Y);have r0:=x.at 0 rfl;have r1:=x.at 1 rfl;have r2:=x.at 2 rfl;have r3:=x.at 3 rfl;have r4:=x.at 4 rfl;have r5:=x.at 5 rfl;have r6:=x.at 6 rfl;have e1:=O.at 1 rfl;have e2:=O.at 2 rfl;have e3:=O.at 3 rfl;have e4:=O.at 4 rfl;clear J O x)
  |(go_at_call 158;refine(K0 _ _).mono ?_;rintro e w5 ⟨rfl,N⟩;obtain rfl:=N.symm;clear N)
  |fail)
 all_goals (try go_wp2)
 all_goals go_end0
 all_goals exact⟨rfl,gs,(Aa Z).below (Aa Y),(Aa ab).then (Aa Y),Aa aa⟩
def Tt{s:DS}{p:PKV}(h:s.bg=true):Df s p=(DD p&&La s p):=by
 unfold Df;rw[h];rfl
def pO(g B:Nat)(M:Int)(s:DS)(gs:Nat)(v:σ)(rs:List RV)(p:PKV)(w:ι)(h:Ao w g B M s gs v rs)(f:RowAt w p.r.a p.r.n p.r.xs)(hp:Df s p=false):
  υ ε 126 #[.pointer (β ⟨g,0,γ⟩),.agg #[U α p.o,U α p.l,U α p.k,U α p.z,U α p.h,.slice p.r.a p.r.n p.r.c,δ p.r.s]] w fun e w'=>LF e/\ο w.heap.size w w':=by
 cases b:DD p
 ·exact jl g p w f b
 ·cases d:s.bg
  ·unfold Df at hp
   rw[b,d]at hp;cases hp
  ·rw[Tt d,b,Bool.true_and]at hp
   exact(Tv g B M s gs v rs p w h d f b).mono fun e w' ⟨j,m⟩=>⟨j.2 hp,m⟩
def pP(g B:Nat)(M:Int)(s:DS)(gs:Nat)(v:σ)(rs:List RV)(p:PKV)(w:ι)(h:Ao w g B M s gs v rs)(u:RowAt w p.r.a p.r.n p.r.xs)(hp:Df s p=true):
  υ ε 126 #[.pointer (β ⟨g,0,γ⟩),.agg #[U α p.o,U α p.l,U α p.k,U α p.z,U α p.h,.slice p.r.a p.r.n p.r.c,δ p.r.s]] w fun e w'=>e=μ (χ #[])/\∃b v' q,Ao w' g B M (Cs s p) b v' q/\Tu (CP g gs v) w w'/\Mv w gs v b v':=by
 have m:=(PI hp).1;cases f:s.bg
 ·obtain⟨rfl,rfl,rfl⟩:=h.fresh f
  obtain rfl:rs=[]:=List.map_eq_nil_iff.1 h.co;refine(jm gs B M p w h u m).mono ?_;rintro e w' ⟨rfl,b,j,d,y⟩;exact⟨rfl,b,_,_,j,⟨d.os,d.tape,d.output,d.size,fun k A C=>d.block k A fun e=>C (.inl e)⟩,.inr y,.inl rfl⟩
 ·rw[Tt f,m,Bool.true_and]at hp
  refine(Tv g B M s gs v rs p w h f u m).mono ?_;rintro e w' ⟨j,d⟩;have x:Cs s p=s:=by unfold Cs;rw[if_pos f]
  rw[x];exact⟨j.1 hp,gs,v,rs,h.below d,Tu.of_below d,Mv.refl _ _ _⟩
def dY(q:Addr)(x:Int)(u:TypeId)(b:σ)(a:List PanicEntry)(w:ι)(c:w.cell? q=β (U α x))(f:w.frozen? q=false):
  CallsD ε 125 #[.pointer (β q)] (.panicking ({v:=.iface u b,recovered:=false}::a)) w fun e h w'=>
   e=μ (χ #[])/\h=.panicking ({v:=.iface u b,recovered:=true}::a)/\w'=w.setCell q (U α 1):=by
 refine callsD_of_wpS func125 rfl fun j cs d=>?_;apply wpS_seq;apply wpS_region;simp[wpOpsS,go_sem,recoverD,d,ntmps125,Exit.thenS];refine wpS_cond (t:=true) (by simp[Act.eval,Array.replicate]) ?_;simp only[if_true];apply wpS_region;simp[wpOpsS,go_sem,c,f,bodyPostS,results,Tryz.results125]
def SB(q:Addr)(w:ι):
  CallsD ε 125 #[.pointer (β q)] .returning w fun e c w'=>e=μ (χ #[])/\c=.returning/\w'=w:=by
 refine callsD_of_wpS func125 rfl fun a cs b=>?_;apply wpS_seq;apply wpS_region;simp[wpOpsS,go_sem,recoverD,b,ntmps125,Exit.thenS];refine wpS_cond (t:=false) (by simp[Act.eval,Array.replicate]) ?_;simp only[Bool.false_eq_true,if_false];refine wpS_of_wp (wp_skip ?_);cases a
 simp_all [bodyPostS,results,Tryz.results125]
def fU(K m:Nat)(a:Option Addr)(n c:Nat)(us:List RV)(w:ι)(ht:Tab w)(j:Aj w a n us)(q:Af us)(A:n<=300)(P:1<=K/\K<=128)(Q:m<=64)(N:∀x∈us.map core,BX (K:Int) (m:Int) x=true)(I:CY (us.map core)=K):
  υ ε 185 #[U α (K:Int),θ a n c] w fun e w'=> ∃h f c1 ss,e=μ (χ #[θ h f c1,.bool true])/\AG w' h f ss/\f<=1048576/\(joinL ss).length=K*m/\(∀l:Int,C6 (K:Int) l (us.map core) (st ((joinL ss).take l.toNat)))/\ο w.heap.size w w':=by
 have z:=Qa j q;have J:=QW j q;have u:us.length<=300:=by rw[j.1];exact A
 obtain⟨kn,bs,p⟩:=Zn (k:=(K:Int)) z
 have d:∀r∈us,AX (K:Int) r.xs=true/\r.s.size=m:=fun r b=>by
  have:=N (core r) (List.mem_map.2 ⟨r,b,rfl⟩);unfold BX at this;rw[Bool.and_eq_true,Bool.and_eq_true]at this;have o:=decide_eq_true_iff.1 this.2;exact⟨this.1.1,by have:(r.s.size:Int)=(m:Int):=o;omega⟩
 have O:0<sizeOfK (K:Int):=by
  unfold sizeOfK;rw[if_neg (by omega)];omega
 obtain⟨D,o,E⟩:=mL p z J u O (fun r b=>(d r b).1) (fun r b=>(d r b).2) I;refine(gF (K:Int) a n c us kn bs p w ht j q A).mono ?_;rintro e w' ⟨h,f,c1,rfl,L,H⟩;rw[D];obtain⟨C,y⟩:=L.at';rw[<-C]at y;exact⟨h,f,c1,_,rfl,y,by omega,by rw[Td E,o],fun l=>⟨us,kn,bs,rfl,p,rfl⟩,H⟩
def jK(g gs B:Nat)(M:Int)(s:DS)(m:Nat)(v:σ)(rs:List RV)(ov:Bool)(w:ι)(ht:∀wx,ο w.heap.size w wx->Tab wx)(b:BkA 174 w g (Jp M s (β ⟨gs,0,γ⟩)))(o:Ax w gs B s.k s.z m v rs ov)(hI:BU s)(hf:∀x∈rs.map core,BX s.k s.z x=true)(hk:(CY (rs.map core):Int)=s.k):
  υ ε 162 #[.pointer (β ⟨g,0,γ⟩)] w fun e w'=> ∃ob,e=μ (δ ob)/\C6 s.k s.l (rs.map core) ob/\ο w.heap.size w w':=by
 obtain⟨⟨⟨k1,k2⟩,z1,z2⟩,l1,l2⟩:=hI.sh;have ad:=hI.lz;obtain⟨K,f⟩:∃K:Nat,s.k=(K:Int):=⟨s.k.toNat,by omega⟩;obtain⟨Z,hZ⟩:∃Z:Nat,s.z=(Z:Int):=⟨s.z.toNat,by omega⟩;obtain⟨N,q⟩:∃N:Nat,s.l=(N:Int):=⟨s.l.toNat,by omega⟩;rw[f,hZ]at hf;rw[f]at hk;have p:=Ab (show∀ob,C6 (K:Int) (N:Int) (rs.map core) ob->C6 s.k s.l (rs.map core) ob from fun ob h=>by rw[f,q];exact h);have ac:N<=K*Z:=by rw[f,hZ,q]at l2;exact_mod_cast l2
 have af:N<=8192:=by omega
 have L:=o.rows.rows;have O:=o.short;have C:=o.le;have D:=o.most;have HR:=Ab (fun wx (b:ο w.heap.size w wx)=>re gs B s.k s.z m v rs ov wx (o.below b));have HD:=Ab (fun(a:Option Addr) (n c:Nat) (us:List RV) wx (b:ο w.heap.size w wx) (hA:Aj wx a n us) (hS:Af us) (he:us.map core=rs.map core) (hn:n<=300)=>fU K Z a n c us wx (ht wx b) hA hS hn (by omega) (by omega) (by rw[he];exact hf) (by rw[he];omega));have HQ:=Ab (fun wx (ab:ο w.heap.size w wx)=>b.below ab);have Y:=Ab L;have aa:=Ab O;have d2:=b.at 2 rfl;have d3:=b.at 3 rfl;have d5:=b.at 5 rfl;rw[f]at d3;rw[q]at d2;have HK:=Ab f;have HN:=Ab q;clear ht b o hI hf hk f hZ q l1 l2 k1 k2 z1 z2 ad L O;have ae:rs.length<=256:=ζ C D;clear C D;go_enter func162,ntmps162;go_wp2_with fail
 go_region_held3 (fun w'=>w'.cell? ⟨g,2,γ⟩=β (U α (N:Int))/\w'.cell? ⟨g,3,γ⟩=β (U α (K:Int))/\w'.cell? ⟨g,5,γ⟩=β (.pointer (β ⟨gs,0,γ⟩))) (go_keep) (first
  |(go_at_call 186;refine(Aa HR _ (ν _ _).drew).mono ?_;rintro e w1 ⟨b1,c1,us,rfl,H,J,d,r⟩;have S:=Ab (show ο w.heap.size w w1 from Ad (ν _ _).drew r);have j:=IK.at H J d (Aa Y) (Aa aa);have T:=Ab (Aa HD (β ⟨b1,0,γ⟩) rs.length c1 us w1 (Aa S) j.1 j.2.2.1 d (by omega));have V:=Ab d;have Q:=Aa HQ w1 (Aa S);have e2:=Q.at 2 rfl;have e3:=Q.at 3 rfl;have e5:=Q.at 5 rfl;rw[Aa HK]at e3;rw[Aa HN]at e2;clear H J d r j Q)
  |(go_at_call 185;refine(Aa T).mono ?_;rintro e w2 ⟨a2,m2,c2,ss,rfl,P,E,A,I,u⟩;have D2:=Ab (show ο w.heap.size w w2 from Ad (Aa S) u);have W:=Ab (qA a2 m2 c2 ss N w2 P E (by omega) (by rw[A];exact ac));have X:=Ab (show C6 (K:Int) (N:Int) (rs.map core) (st ((joinL ss).take N)) from by have:=I (N:Int);rw[Aa V,Int.toNat_natCast]at this;exact this);have R:=Aa HQ w2 (Aa D2);have e2:=R.at 2 rfl;have e3:=R.at 3 rfl;have e5:=R.at 5 rfl;rw[Aa HK]at e3;rw[Aa HN]at e2;clear P E A I u R)
  |fail)
 generalize st ((joinL ss).take N)=ob at*
 go_wp2_with (first
  |(go_at_call 158;refine(K0 _ _).mono ?_;rintro e w5 ⟨rfl,hw⟩;obtain rfl:=hw.symm;clear hw)
  |(go_at_call 187;refine(Aa W).mono ?_;rintro e w3 ⟨rfl,y⟩;have D3:=Ab (Ad (Aa D2) y);clear y))
 go_ret;exact⟨ob,rfl,Aa p ob (Aa X),Aa D3⟩
end Go.Proofs.YtfpmnekaockodaaGreatDoor
