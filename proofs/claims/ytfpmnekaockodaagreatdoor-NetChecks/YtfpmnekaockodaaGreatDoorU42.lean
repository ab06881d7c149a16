/-
  Laws that the proof stands on.
-/
import Derived.Test.YtfpmnekaockodaaGreatDoorU41
namespace Go.Proofs.YtfpmnekaockodaaGreatDoor
open Go.RowKit Go.Sort
set_option linter.unusedVariables false
set_option linter.unusedSimpArgs false
set_option maxRecDepth 4000
set_option maxHeartbeats 8000000
variable {ob t s:ByteArray}{fr ic:Int}{xs:List Nat}{u:AJ->Int×List ByteArray×Nat}{B Z en i q:Nat}{d:PD}{w w':World}
structure DJ(w wr:World)(g B k:Nat)(n:Ao)(x:Int):Prop where
 nd:Al wr g B (n.withL (Bb (ID n.p.M n.p.queue x) k n.s.ls) (n.t+1))
 tu:Tu (Bg g n) w wr
theorem DJ.step{wr w2:World}{g k:Nat}{n:Ao}{x:Int}(h:DJ w wr g B k n x)(b:k<n.s.ls.length){l:AJ}(f:n.s.ls.getD k .dflt=l)(c:(Dp (ID n.p.M n.p.queue x) l).At w2 n.p.M n.p.queue)(ht:Tu l.F wr w2)(a:l.lo<=n.t):DJ w w2 g B (k+1) n x:=by
 subst f;exact⟨h.nd.lstep b c ht (Nat.le_succ_of_le a),h.tu.trans ht fun j _ e=>Nl b j e⟩
theorem lf(l:AJ)(M q x:Int)(w:World)(h:l.At w M q):
  Calls Tryz.prog 76 #[.pointer (some ⟨l.g,0,none⟩),.int .i64 x] w fun e w'=>e=.returned (.tuple #[])/\(Dp (ID M q x) l).At w' M q/\Tu l.F w w':=
 fU l.g l.gb l.gq l.c l.lo M q l.lv x l.L w h
theorem im(g B:Nat)(n:Ao)(x:Int)(w:World)(h:Al w g B n):
  Calls Tryz.prog 47 #[.pointer (some ⟨g,0,none⟩),.int .i64 x] w fun e w'=>e=.returned (.tuple #[])/\Al w' g B (n.each (ID n.p.M n.p.queue x))/\Tu (Bg g n) w w':=by
 obtain⟨P,Q,v⟩:=h.st.lks.len;have I:n.s.ls.length<=8:=by have:=h.num;omega
 have m:=h.blk.at 11 (show(EJ n)[11]? =some n.s.lv from rfl);rw[v]at m;have H:=Ab h;have j:=Ab (show DJ w w g B 0 n x from⟨h.lstart _ (Nat.le_succ _),Tu.of_below (Below.refl _ _)⟩);clear h;go_enter Tryz.func47,Tryz.ntmps47;go_wp2_with fail;clear m;go_loopw [14] (fun i wr=> ∃k:Nat,k<=n.s.ls.length/\i=.int .i64 k/\Hid (DJ w wr g B k n x)) (fun i _=>n.s.ls.length-(intOf i).toNat)
 case atStart=>exact⟨0,Nat.zero_le _,rfl,j⟩
 case round=>
  obtain⟨k,R,rfl,f⟩:=hrel;clear j;rename_i wr;by_cases a:k<n.s.ls.length
  ·have K:(k:Int)<(n.s.ls.length:Int):=by omega
   obtain⟨b,c,E,O⟩:=(Aa f).nd.lptr a;rw[v]at E;simp only[Value.slice.injEq,true_and]at E;obtain⟨rfl,rfl⟩:=E;have C:=Ab (show(n.s.ls.getD k .dflt).lo<=n.t from(Aa H).tm.2 k a);have r:(n.s.ls.getD k .dflt).At wr n.p.M n.p.queue:=by
    have:=((Aa f).nd.st.each k (by show k<(Bb _ k n.s.ls).length;rw[Fi];exact a)).1;have e:AJ.At wr n.p.M n.p.queue ((Bb (ID n.p.M n.p.queue x) k n.s.ls).getD k .dflt):=this;rwa[JJ _ a]at e
   have N:=Ab (lf _ n.p.M n.p.queue x wr r);clear r;generalize J:n.s.ls.getD k .dflt=l at*;have A:=Ab J;clear J
   go_wp2_with (first
    |(go_at_call 76;refine(Aa N).mono ?_;rintro e w2 ⟨rfl,o,y⟩;have z:=Ab o;have D:=Ab y;clear o y)
    |fail)
   go_round
   case rel=>exact⟨k+1,a,by go_num,Ab ((Aa f).step a (Aa A) (Aa z) (Aa D) (Aa C))⟩
   case measure=>simp[intOf];omega
  ·obtain rfl:k=n.s.ls.length:=by omega
   go_wp2;have L:=(Aa f).nd;rw[Ks _ (Nat.le_refl _)]at L;go_end0;exact⟨rfl,L,(Aa f).tu⟩
theorem KZ:(Tryz.prog.info? 25).map (·.size)=some 10:=by kernel_rfl
theorem Zf{n:Ao}(a:n.src=none)(b:n.s.rl=none)(L:List Nat):C8 n L=none:=by
 unfold C8;rw[a,b]
theorem pp{ss:List ByteArray}{m:Nat}{l:Int}{L:List (List Nat×ByteArray)}(h:Cq (ss.length:Int) l L ob)(N:0<sizeOfK (ss.length:Int))(n:∀x∈L,Ac x.1/\x.2.size<=1000/\x.1.length<=10)(I:L.length<=300)(K:∀x∈L,AU (ss.length:Int) x.1=true)
  (D:∀x∈L,DL ss x.1 x.2=true) (H:∀x∈L,x.2.size=m) (o:∀b,b<ss.length->(ss.getD b ByteArray.empty).size=m) (E:CY L=ss.length):ob=st ((joinL ss).take l.toNat):=by
 obtain⟨rs,kn,bs,g,C,J⟩:=h;have a:∀r∈rs,core r∈L:=fun r c=>by rw[<-g];exact List.mem_map.2 ⟨r,c,rfl⟩
 have f:Dm rs:=fun r c=>⟨(n _ (a r c)).1,(n _ (a r c)).2.1⟩;have z:∀r∈rs,r.xs.length<=10:=fun r c=>(n _ (a r c)).2.2;have p:rs.length<=300:=by
  have e:rs.length=L.length:=by rw[<-g,List.length_map]
  exact e▸I
 have k:AC 1048576 (vecsL rs):=by
  have:=LZ f z (fun _=>true);rwa[List.filter_eq_self.2 (fun _ _=>rfl)]at this
 have j:(rs.filter fun r=>AU (ss.length:Int) r.xs)=rs:=List.filter_eq_self.2 fun r c=>K _ (a r c);have v:rankN rs=ss.length:=by rw[LO,g];exact E
 have c:Ho (ss.length:Int) rs=ss.length:=by
  have A:Ho (ss.length:Int) rs=(Ck (vecsL rs)).length:=by unfold Ho;rw[j]
  rw[A,<-L5 k,KJ];exact v
 have y:=(pA C f z p N (fun r c=>D (core r) (a r c)) (fun r c=>H (core r) (a r c)) o).2;rw[if_pos c]at y;rw[J,y]
def EE(t:ByteArray)(Z:Nat):List ByteArray:=Bw (tx t) Z (kc t.size Z)
theorem UQ(t:ByteArray)(Z:Nat):(EE t Z).length=kc t.size Z:=IT _ _ _
theorem og(t:ByteArray)(Z:Nat):∀b,b<(EE t Z).length->((EE t Z).getD b ByteArray.empty).size=Z:=fun b a=>by
 rw[UQ]at a;unfold EE;rw[Sr _ _ _ _ a,Dx,NV]
theorem jA(t:ByteArray)(Z:Nat)(f:1<=Z):st ((joinL (EE t Z)).take t.size)=t:=by
 have b:=Kr t.size Z f;have a:=JT t.size Z
 have c:=lV (Cl t) Z (kc t.size Z) a (by rw[AT];exact b) (by
  rw[AT];by_cases e:kc t.size Z=1
  ·exact .inl e
  ·exact .inr ((KR t.size Z (kc t.size Z-1) f (by omega)).1 (by omega)))
 rw[AT]at c;unfold EE;rw[c,IC]
structure IJ(t:ByteArray)(Z:Nat)(p:PKV):Prop where
 ok:DF p=true
 l:p.l=(t.size:Int)
 k:p.k=(kc t.size Z:Int)
 z:p.z=(Z:Int)
 h:DL (EE t Z) p.r.xs p.r.s=true
structure Fc(t:ByteArray)(Z:Nat)(s:DS):Prop where
 same:s.bg=true->s.l=(t.size:Int)/\s.k=(kc t.size Z:Int)/\s.z=(Z:Int)
 hold:∀x∈s.L,DL (EE t Z) x.1 x.2=true/\Ac x.1/\x.2.size<=1000/\x.1.length<=10
 told:s.dn=true->s.ob=t
theorem Fc.zero(t:ByteArray)(Z:Nat):Fc t Z C9:=⟨(fun e=>by cases e),(fun x a=>by cases a),fun e=>by cases e⟩
theorem Fc.beg{s:DS}{p:PKV}(h:Fc t Z s)(hp:IJ t Z p):Fc t Z (Cy s p):=by
 unfold Cy;split
 ·exact h
 ·exact⟨fun _=>⟨hp.l,hp.k,hp.z⟩,(fun x a=>by cases a),fun e=>by cases e⟩
theorem Fc.keep{M:Int}{s:DS}{x:List Nat×ByteArray}(h:Fc t Z s)(C:BZ s)(O:1<=Z)(K:Cb s.k s.z x=true)(N:DL (EE t Z) x.1 x.2=true/\Ac x.1/\x.2.size<=1000/\x.1.length<=10)(J:AS M s x ob):Fc t Z (DP M s x ob):=by
 have b:∀y∈s.L++[x],DL (EE t Z) y.1 y.2=true/\Ac y.1/\y.2.size<=1000/\y.1.length<=10:=fun y a=>by
  rcases List.mem_append.1 a with a|a
  ·exact h.hold y a
  ·rw[List.mem_singleton.1 a];exact N
 have j:∀y∈s.L++[x],Cb s.k s.z y=true:=fun y a=>by
  rcases List.mem_append.1 a with a|a
  ·exact C.fit y a
  ·rw[List.mem_singleton.1 a];exact K
 cases g:s.dn
 ·by_cases l:s.L.length<capN M
  ·by_cases o:(CY (s.L++[x]):Int)=s.k
   ·have D:=J (JB (ob:=ob) g l o).2.2
    obtain⟨E,H,I⟩:=h.same C.bg;rw[(JB g l o).1];refine⟨h.same,b,fun _=>?_⟩;show ob=t;have c:s.k=((EE t Z).length:Int):=by rw[UQ];exact H
    rw[c,E]at D;have n:(s.L++[x]).length<=300:=by
     rw[List.length_append,List.length_singleton];have:=JL M;exact Nat.le_trans (Nat.succ_le_of_lt l) (Nat.le_trans this (by decide))
    have f:∀y∈s.L++[x],AU ((EE t Z).length:Int) y.1=true/\y.2.size=Z:=fun y a=>by
     have:=j y a;unfold Cb at this;rw[Bool.and_eq_true,Bool.and_eq_true]at this;have A:=decide_eq_true_iff.1 this.2;rw[I]at A;exact⟨by rw[<-c];exact this.1.1,Int.ofNat.inj A⟩
    have p:CY (s.L++[x])=(EE t Z).length:=by
     rw[c]at o;exact Int.ofNat.inj o
    have r:0<sizeOfK ((EE t Z).length:Int):=(Gf (f x (List.mem_append.2 (.inr List.mem_cons_self))).1).1;have:=pp (m:=Z) D r (fun y a=>(b y a).2) n (fun y a=>(f y a).1) (fun y a=>(b y a).1) (fun y a=>(f y a).2) (og t Z) p;rw[Int.toNat_natCast,jA t Z O]at this;exact this
   ·rw[(KT g l o).1]
    exact⟨h.same,b,fun e=>by have v:s.dn=true:=e;rw[g]at v;cases v⟩
  ·rw[(Kw g l).1]
   exact⟨h.same,h.hold,h.told⟩
 ·rw[(KS g).1];exact h
theorem Fc.put{M:Int}{s:DS}{p:PKV}(h:Fc t Z s)(c:s.bg=true->BZ s)(f:1<=Z)(hp:IJ t Z p)(e:Ac p.r.xs/\p.r.s.size<=1000/\p.r.xs.length<=10)(b:Dn s p=true->AS M (Cy s p) (p.r.xs,p.r.s) ob):Fc t Z (FS M s p ob):=by
 cases a:Dn s p
 ·rw[(WG a).1];exact h
 ·rw[(VB a).1]
  exact(h.beg hp).keep (BZ.beg c hp.ok) f (Pz a).2.1 ⟨hp.h,e⟩ (b a)
theorem Ch.len{o l k z h:Int}(a:Ch s o l k z h xs t en):xs.length<=2:=by
 rcases a.err with⟨_,_,c,b⟩|⟨_,e⟩
 ·rw[b.2.2.2.2.2.1]
  exact JD c.2.1
 ·rw[e.2.2.2.2.2.1]
  exact Nat.zero_le _
theorem AQ.len{kd o l k z h:Int}(a:AQ s kd fr ic o l k z h xs t en):xs.length<=2:=by
 by_cases b:en=0
 ·subst b
  rcases(VF a).1.2.2 with⟨_,_⟩|⟨_,g⟩
  ·by_cases c:openE s=0
   ·obtain⟨e,f,a3,a4⟩:=a.2 c
    by_cases c2:(openT s).size<6
    ·rw[(e c2).2.2.2.2.2.2.2.1];exact Nat.zero_le _
    ·by_cases c3:FM (openT s)
     ·rw[(f c2 c3).2.2.2.2.2.2.2.1];exact Nat.zero_le _
     ·by_cases c4:hdK (openT s)=1
      ·rw[(a3 c2 c3 c4).2.2.2.2.2.2.2.1];exact Nat.zero_le _
      ·exact(a4 c2 c3 c4).1.len
   ·rw[(a.1 c).2.2.2.2.2.2.2.1];exact Nat.zero_le _
  ·exact JD g.2.1
 ·rw[(a.none b).2.2.2.2.2.2.1]
  exact Nat.zero_le _
def FT(fr ic:Int)(d:PD):ByteArray:=Fr 2 fr ic d.o d.l d.k d.z d.h d.xs d.s
theorem oS(S:Ac d.xs)(hf:0<=fr/\fr<=7)(hi:0<=ic/\ic<=4294967295)(n:BT d=true){c a b D C A J r:Int}{H:List Nat}{t:ByteArray}{en:Nat}
  (R:AQ (FT fr ic d) c a b D C A J r H t en):en=0/\(c=2/\a=fr/\b=ic)/\(D=d.o/\C=d.l/\A=d.k/\J=d.z/\r=d.h)/\H=d.xs/\t=d.s:=by
 obtain⟨F,v⟩:∃F:Nat,fr=(F:Int):=⟨fr.toNat,by omega⟩;obtain⟨I,x⟩:∃I:Nat,ic=(I:Int):=⟨ic.toNat,by omega⟩;have y:=mN (st (DR 2 fr ic (tx (Fy 2 d.o d.l d.k d.z d.h d.xs d.s))));have g:=R.2 y.1;unfold FT Fr at g;rw[y.2]at g;obtain⟨hs,p,P,Q,e⟩:=Z8 (kd:=2) (Cl (Fy 2 d.o d.l d.k d.z d.h d.xs d.s)) (K:=2) rfl v x (by decide) (by omega) (by omega);have j:Fy 2 d.o d.l d.k d.z d.h d.xs d.s=st (BP d.o d.l d.k d.z d.h d.xs (tx d.s)):=Mn _ _ _ _ _ _ _;rw[IC]at e;generalize st (DR 2 fr ic (tx (Fy 2 d.o d.l d.k d.z d.h d.xs d.s)))=T at*;rw[j]at e;have m:¬FM T:=by
  rintro(f|f|f)
  ·omega
  ·exact f.2 p
  ·omega
 obtain⟨E,x2,V⟩:=g.2.2.2 (by omega) m (by omega);rw[e]at E;obtain⟨L,N,O⟩:=Yu (t:=d.s) S (Gi.1 n);obtain⟨u1,u2,u3,u4⟩:=E.uniq (.inr (.inr ⟨L,N,rfl,O⟩));obtain⟨W,X,Y⟩:=V u4;exact⟨u4,⟨by rw[W,p];rfl,by rw[X,P,v],by rw[Y,Q,x]⟩,u1,u2,u3⟩
theorem WF{n:Ao}{L:List Nat}{f:Bp}(v:Fa n L f)(m:C8 n L=some d):f.enc=FT n.id n.inc d:=by
 obtain⟨a,b,c,e⟩:=v;rw[m]at c e;have g:f.kd=2:=c;have j:f.p.pd=d:=e;subst j;show Fr f.kd f.fr f.ic f.p.o f.p.l f.p.k f.p.z f.p.h f.p.r.xs f.p.r.s=Fr 2 n.id n.inc f.p.o f.p.l f.p.k f.p.z f.p.h f.p.r.xs f.p.r.s;rw[a,b,g]
theorem We{n x:Ao}{now:Int}(R:Ac d.xs)(O:0<=fr/\fr<=7)(Q:0<=ic/\ic<=4294967295)(e:BT d=true)(h:Hl n (FT fr ic d) now en x):en=0/\∃(q:PKV) (N:Nat) (rl:Option F6) (dc:Option E8),q.pd=d/\
  x=n.setS ⟨n.s.lv,n.s.ls,n.s.gm,ED n.s.Z fr ic now,n.s.gc,n.s.gcm,N,Hm (capN n.p.cache) n.s.P d,rl,dc⟩/\Na (capN n.p.buffer) (Dw n.s.P d) n.s.rl rl d/\Lt n.p.buffer (Dw n.s.P d) n.s.dc dc q:=by
 obtain⟨kd,f,i,q,L,g⟩:=h;obtain⟨v,⟨b,A,C⟩,⟨D,E,H,I,J⟩,K,c⟩:=oS R O Q e L;have a:q.pd=d:=by
  show(⟨q.o,q.l,q.k,q.z,q.h,q.r.xs,q.r.s⟩:PD)=d;rw[D,E,H,I,J,K,c]
 rcases g with⟨g,_⟩|⟨_,N,rl,dc,y,j,m⟩
 ·exact absurd v g
 ·refine⟨v,q,N,rl,dc,a,?_,?_,?_⟩
  ·rw[y,b,A,C,a,if_pos rfl]
  ·rw[b,a,decide_eq_true rfl,Bool.true_and]at j
   exact j
  ·rw[b,a,decide_eq_true rfl,Bool.true_and]at m
   exact m
theorem oB{s:AZ}{d:E8}(h:s.dc=some d):GS s=d.s.dn:=by unfold GS;rw[h]
theorem pn{s:AZ}{d:E8}(h:s.dc=some d):GU s=d.s.ob:=by unfold GU;rw[h]
theorem SX{T:TypeId}{b n:Nat}{v:Value}{cs:List Value}(h:w.ownsRow B T b v n cs){j:Nat}(a:v.ownBlock=some j):j<w.heap.size:=(EP h a).2
theorem Al.lt{g:Nat}{n:Ao}(h:Al w g B n):∀j,Bg g n j->j<w.heap.size:=fun j a=>by
 rcases a with rfl|a|⟨r,b,rfl|a⟩|a
 ·exact h.blk.lt
 ·exact SX h.tos a
 ·exact(h.src r b).blk.lt
 ·exact SX (h.src r b).own a
 ·exact h.st.lt j a
theorem PX{n:Ao}{g:Nat}:∀j,Bg g (n.each u) j->Bg g n j:=fun j a=>by
 rcases a with a|a|a|a
 ·exact .inl a
 ·exact .inr (.inl a)
 ·exact .inr (.inr (.inl a))
 ·refine .inr (.inr (.inr ?_))
  rcases a with a|⟨i,c,a⟩|a
  ·exact .inl a
  ·have b:i<(n.s.ls.map (Dp u)).length:=c
   rw[List.length_map]at b;refine .inr (.inl ⟨i,b,?_⟩);have e:((n.s.ls.map (Dp u)).getD i .dflt).F j:=a;rw[<-Ks u (Nat.le_refl n.s.ls.length),L8 u _ _ _ b,if_pos b]at e;exact e
  ·exact .inr (.inr a)
theorem Mr{n:Ao}(a:i<n.s.ls.length):(n.each u).s.ls.getD i .dflt=Dp u (n.s.ls.getD i .dflt):=by
 show(n.s.ls.map (Dp u)).getD i .dflt=_;rw[<-Ks u (Nat.le_refl n.s.ls.length),L8 u _ _ _ a,if_pos a]
theorem Fg{n:Ao}:(n.each u).s.ls.length=n.s.ls.length:=by
 show(n.s.ls.map (Dp u)).length=_;rw[List.length_map]
def GX(id:Nat)(kd:Int)(s:ByteArray):Prop:=∃f:Bp,f.ok/\Ac f.p.r.xs/\f.enc=s/\f.fr=(id:Int)/\(f.kd=2->kd≠3)
theorem GX.size{id:Nat}{kd:Int}(h:GX id kd s):s.size<=1048576:=by
 obtain⟨f,a,_,rfl,_⟩:=h;exact Bp.enc_size a
def CJ(n:Ao):Prop:=∀i,i<n.s.ls.length->∀s∈(n.s.ls.getD i .dflt).L,GX n.id n.p.kd s
theorem CJ.each{n:Ao}(h:CJ n)(f:∀l,∀s∈(u l).2.1,s∈l.L\/GX n.id n.p.kd s):CJ (n.each u):=fun i a s c=>by
 rw[Fg]at a;rw[Mr a]at c;have b:s∈(u (n.s.ls.getD i .dflt)).2.1:=c;rcases f _ s b with e|e
 ·exact h i a s e
 ·exact e
theorem CJ.act{n:Ao}(h:CJ n){q:Int}{e:ByteArray}(c:GX n.id n.p.kd e):CJ (n.each (Fz q e)):=h.each fun l s b=>by
 unfold Fz at b;split at b
 ·rcases List.mem_append.1 b with a|a
  ·exact .inl a
  ·rw[List.mem_singleton.1 a];exact .inr c
 ·exact .inl b
theorem CJ.tick{n:Ao}(h:CJ n){M q k:Int}:CJ (n.each (ID M q k)):=h.each fun l s a=>.inl a
theorem CJ.pump{n:Ao}(h:CJ n):CJ (n.each Cx):=h.each fun l s a=>.inl (List.mem_of_mem_drop a)
theorem CJ.recv{n b:Ao}{now:Int}(h:CJ n)(a:Hl n s now en b):CJ b/\b.id=n.id/\b.p=n.p/\b.src=n.src:=by
 obtain⟨kd,fr,ic,q,c,⟨_,a⟩|⟨_,N,rl,dc,a,_⟩⟩:=a
 ·subst a;exact⟨h,rfl,rfl,rfl⟩
 ·subst a;exact⟨h,rfl,rfl,rfl⟩
theorem XX{g:Nat}{n:Ao}{L:List Nat}{f:Bp}(h:Al w g B n)(k:n.id<=7)(l:∀r,n.src=some r->Cn n.id r)(j:Fa n L f)(v:Ac f.p.r.xs):GX n.id n.p.kd f.enc:=by
 refine⟨f,(Fa.ok h k l j).1,v,rfl,j.1,fun e x=>?_⟩;have m:=j.2.2.1;rcases h.kd with⟨a,_⟩|⟨a,_⟩|⟨_,b,c,_⟩
 ·omega
 ·omega
 ·rw[Zf b c]at m
  have o:f.kd=1:=m;omega
theorem WE{n:Ao}(h:CJ n):∀(k:Nat),k<=n.s.ls.length->∀x∈flyTo n k,x.fr=(n.id:Int)/\GX n.id n.p.kd x.s/\∃i,i<k/\x.dst=n.p.tos.getD i 0
 |0,_,x,b=>by cases b
 |k+1,m,x,b=>by
  have c:x∈flyTo n k++Dl n k (EF n k):=b;rcases List.mem_append.1 c with a|a
  ·obtain⟨e,f,i,l,g⟩:=WE h k (by omega) x a
   exact⟨e,f,i,by omega,g⟩
  ·unfold Dl at a
   obtain⟨s,j,rfl⟩:=List.mem_map.1 a;exact⟨rfl,h k (by omega) s (List.mem_of_mem_take j),k,by omega,rfl⟩
theorem ZU{l z K s g:Nat}{v:Value}(f:i<=7)(a:1<=z/\z<=64)(b:1<=K/\K<=128)(e:l<=K*z):Cn i ⟨g,v,(l:Int),(z:Int),min s K,Bw xs z K⟩:=by
 have c:(Bw xs z K).length=K:=IT _ _ _;refine⟨by show 1<=(Bw xs z K).length;omega,by show(Bw xs z K).length<=128;omega,by show min s K<=(Bw xs z K).length;omega,dE xs z K a.2,fun L=>Gi.2 ?_⟩;have:=YB i l z K (min s K) xs L 0 (by omega) a.1 a.2 b.1 b.2 (by omega) e;show Cj (i:Int) (l:Int) ((Bw xs z K).length:Int) (z:Int) 0 (Dj (Bw xs z K).length (min s K) L 0) (st (Bq (Bw xs z K) (Dj (Bw xs z K).length (min s K) L 0) (Bw xs z K).length)).size;rw[c];exact this
theorem ZE{f:Bl}{g:Nat}{n:Ao}(k:GY w f i)(l:i<=7)(h:F5 f i n)(o:Al w' g B n):∀r,n.src=some r->Cn n.id r:=fun r c=>by
 have m:n.p.kd=1:=by
  rcases o.kd with⟨a,_⟩|⟨_,b,_⟩|⟨_,b,_⟩
  ·exact a
  ·rw[b]at c;cases c
  ·rw[b]at c;cases c
 obtain⟨g,v,e⟩:=h.src m;rw[e]at c;cases c;obtain⟨s1,s2,y,j⟩:=k.size;obtain⟨z,x⟩:∃z:Nat,f.size=(z:Int):=⟨f.size.toNat,by omega⟩;rw[x]at j⊢;rw[h.id];exact ZU l ⟨by omega,by omega⟩ ⟨JT _ _,j⟩ (Kr _ _ (by show 0<(z:Int).toNat;omega))
theorem CJ.new{n:Ao}(h:Hq n.p n.s):CJ n:=fun i b s a=>by
 rw[(h.1.1 i b).2.1]at a;cases a
theorem Al.mono{g B':Nat}{n:Ao}(h:Al w g B n)(a:B'<=B):Al w g B' n:=
 ⟨h.blk,Nat.le_trans a h.lo,NR h.tos a,fun r b=>(h.src r b).mono a,h.st.mono a,h.kd,h.num,h.tm⟩
structure BS where
 g:Nat
 n:Ao
structure AK where
 nv:Value
 ns:List BS
 now:Int
 wv:Value
 fs:List AG
def Eu(ns:List BS):List Value:=ns.map fun x=>.pointer (some ⟨x.g,0,none⟩)
structure AB(w:World)(q B:Nat)(T:AK):Prop where
 blk:BkA 89 w q [T.nv,.int .i64 T.now,T.wv]
 lo:B<=q
 own:w.ownsRow B 90 1 T.nv T.ns.length (Eu T.ns)
 each:∀(i:Nat) (x:BS),T.ns[i]? =some x->Al w x.g B x.n
 apart:∀(i k:Nat) (x y:BS),T.ns[i]? =some x->T.ns[k]? =some y->i≠k->∀j,Bg x.g x.n j->¬Bg y.g y.n j
 fly:Ap w B T.wv T.fs
 few:T.ns.length<=8/\T.fs.length<=512
 now0:0<=T.now/\T.now<=1099511627776
def Lr(q:Nat)(T:AK)(j:Nat):Prop:=j=q\/T.nv.ownBlock=some j\/T.wv.ownBlock=some j\/∃(i:Nat) (x:BS),T.ns[i]? =some x/\Bg x.g x.n j
theorem AB.tu{F:Nat->Prop}{T:AK}(h:AB w q B T)(ht:Tu F w w')(b:∀j,Lr q T j->¬F j)(e:∀j,kdB w j=265+2->¬F j):AB w' q B T:=
 ⟨h.blk.tu ht (b q (.inl rfl)),h.lo,CO h.own ht fun j a=>b j (.inr (.inl a)),fun i x c=>(h.each i x c).tu ht (fun j a=>b j (.inr (.inr (.inr ⟨i,x,c,a⟩)))) e,h.apart,CO h.fly ht fun j a=>b j (.inr (.inr (.inl a))),h.few,h.now0⟩
theorem AB.below{T:AK}(h:AB w q B T)(a:Below w.heap.size w w'):AB w' q B T:=h.tu (F:=fun _=>False) (Tu.of_below a) (fun _ _=>id) fun _ _=>id
theorem AB.low{T:AK}(h:AB w q B T):∀j,Lr q T j->B<=j:=fun j a=>by
 rcases a with rfl|a|a|⟨i,x,b,a⟩
 ·exact h.lo
 ·exact(EP h.own a).1
 ·exact(EP h.fly a).1
 ·exact(h.each i x b).low j a
theorem RC{tmps:Array Value}{W:World}{g:Nat}{cs:List Value}(c:tmps.getD 4 undef=.pointer (some ⟨g,0,none⟩))(f:BkA 44 W g cs)(e:cs.length=7):(results Tryz.f14 tmps).run Tryz.prog W=.ok (.agg cs.toArray) W:=by
 have b:=f.load Tryz.underlying44 rfl KP e;have a:tmps[4]?.getD undef=.pointer (some ⟨g,0,none⟩):=by simpa using c
 simp[results,Tryz.results14,asAddr,a,b]
theorem ki(q B:Nat)(T:AK)(w:World)(h:AB w q B T):Calls Tryz.prog 20 #[.pointer (some ⟨q,0,none⟩)] w fun e w'=>e=.returned (.int .i64 T.now)/\w'=w:=by
 have c1:=h.blk.at 1 rfl;clear h;go_enter Tryz.func20,Tryz.ntmps20;go_wp2;go_ret;exact⟨rfl,rfl⟩
def modZ(n m:Int):Int:=if n.tmod m<0 then n.tmod m+m else n.tmod m
theorem WX{n m:Int}(a:0<m):0<=modZ n m/\modZ n m<m:=by
 have c:=Int.tmod_lt_of_pos n a;have b:=Int.tmod_lt_of_pos (-n) a;rw[Int.neg_tmod]at b;unfold modZ;split<;>omega
theorem TT(n m:Int)(w:World)(a:0<m/\m<=1048576):Calls Tryz.prog 52 #[.int .i64 n,.int .i64 m] w fun e w'=>e=.returned (.int .i64 (modZ n m))/\w'=w:=by
 have j:=Int.tmod_lt_of_pos n a.1;have b:=Int.tmod_lt_of_pos (-n) a.1;rw[Int.neg_tmod]at b;have f:m≠0:=by omega
 have k:IntKind.i64.wrap (n.tmod m)=n.tmod m:=by rw[IntKind.wrap_i64];omega
 have g:IntKind.i64.wrap (n.tmod m+m)=n.tmod m+m:=by rw[IntKind.wrap_i64];omega
 unfold modZ;by_cases h:n.tmod m<0
 ·rw[if_pos h]
  have c:decide (n.tmod m<0)=true:=decide_eq_true h;go_enter Tryz.func52,Tryz.ntmps52;go_wp2;go_ret;exact⟨rfl,rfl⟩
 ·rw[if_neg h]
  have c:decide (n.tmod m<0)=false:=decide_eq_false h;go_enter Tryz.func52,Tryz.ntmps52;go_wp2;go_ret;exact⟨rfl,rfl⟩
theorem L9(q B:Nat)(T:AK)(id:Int)(w:World)(h:AB w q B T):Calls Tryz.prog 30 #[.pointer (some ⟨q,0,none⟩),.int .i64 id] w fun e w'=>((e=.returned (.bool true)/\(0<=id/\id<T.ns.length))\/(e=.returned (.bool false)/\¬(0<=id/\id<T.ns.length)))/\w'=w:=by
 have m:=h.few.1;obtain⟨a,c,j⟩:∃a c,T.nv=.slice a T.ns.length c:=by
  rcases h.own.2 with⟨e,l⟩|⟨g,cap,k,e,_⟩
  ·exact⟨none,0,by rw[e,l]⟩
  ·exact⟨_,_,e⟩
 have c0:=h.blk.at 0 rfl;rw[j]at c0;have n:IntKind.i64.wrap ((T.ns.length:Int)-1)=(T.ns.length:Int)-1:=by rw[IntKind.wrap_i64];omega
 clear h j;by_cases f:0<=id/\id<=(T.ns.length:Int)-1
 ·go_enter Tryz.func30,Tryz.ntmps30
  go_wp2_with (first
   |(go_at_call 41;refine(Fh _ _ _ _ f).mono ?_;rintro e w1 ⟨rfl,b⟩;obtain rfl:=b.symm;clear b)
   |fail)
  go_ret;exact⟨.inl ⟨rfl,by omega⟩,rfl⟩
 ·go_enter Tryz.func30,Tryz.ntmps30
  go_wp2_with (first
   |(go_at_call 41;refine(GJ _ _ _ _ f).mono ?_;rintro e w1 ⟨rfl,b⟩;obtain rfl:=b.symm;clear b)
   |fail)
  go_ret;exact⟨.inr ⟨rfl,by omega⟩,rfl⟩
end Go.Proofs.YtfpmnekaockodaaGreatDoor
