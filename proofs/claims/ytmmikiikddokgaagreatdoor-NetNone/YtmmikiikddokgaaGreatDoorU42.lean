/-
  Laws that the proof stands on.
-/
import Derived.Test.YtmmikiikddokgaaGreatDoorU41
namespace Go.Proofs.YtmmikiikddokgaaGreatDoor
open Go.RowKit Go.Sort
set_option linter.unusedVariables false
set_option linter.unusedSimpArgs false
set_option maxRecDepth 4000
set_option maxHeartbeats 8000000
variable {ob t s:ByteArray}{fr ic:Int}{xs:List Nat}{u:AJ->Int×List ByteArray×Nat}{B Z en i q:Nat}{d:PD}{w w':World}
structure DH(w wr:World)(g B k:Nat)(n:Ao)(x:Int):Prop where
 nd:Al wr g B (n.withL (Bb (Iw n.p.M n.p.queue x) k n.s.ls) (n.t+1))
 tu:Tu (Bg g n) w wr
theorem DH.step{wr w2:World}{g k:Nat}{n:Ao}{x:Int}(h:DH w wr g B k n x)(b:k<n.s.ls.length){l:AJ}(f:n.s.ls.getD k .dflt=l)(c:(Dp (Iw n.p.M n.p.queue x) l).At w2 n.p.M n.p.queue)(ht:Tu l.F wr w2)(a:l.lo<=n.t):DH w w2 g B (k+1) n x:=by
 subst f;exact⟨h.nd.lstep b c ht (Nat.le_succ_of_le a),h.tu.trans ht fun j _ e=>Na b j e⟩
theorem lL(l:AJ)(M q x:Int)(w:World)(h:l.At w M q):
  Calls Tryz.prog 76 #[.pointer (some ⟨l.g,0,none⟩),.int .i64 x] w fun e w'=>e=.returned (.tuple #[])/\(Dp (Iw M q x) l).At w' M q/\Tu l.F w w':=
 fm l.g l.gb l.gq l.c l.lo M q l.lv x l.L w h
theorem iR(g B:Nat)(n:Ao)(x:Int)(w:World)(h:Al w g B n):
  Calls Tryz.prog 47 #[.pointer (some ⟨g,0,none⟩),.int .i64 x] w fun e w'=>e=.returned (.tuple #[])/\Al w' g B (n.each (Iw n.p.M n.p.queue x))/\Tu (Bg g n) w w':=by
 obtain⟨O,P,v⟩:=h.st.lks.len;have G:n.s.ls.length<=8:=by have:=h.num;omega
 have m:=h.blk.at 11 (show(EG n)[11]? =some n.s.lv from rfl);rw[v]at m;have H:=Ab h;have j:=Ab (show DH w w g B 0 n x from⟨h.lstart _ (Nat.le_succ _),Tu.of_below (Below.refl _ _)⟩);clear h;go_enter Tryz.func47,Tryz.ntmps47;go_wp2_with fail;clear m;go_loopw [14] (fun i wr=> ∃k:Nat,k<=n.s.ls.length/\i=.int .i64 k/\Hid (DH w wr g B k n x)) (fun i _=>n.s.ls.length-(intOf i).toNat)
 case atStart=>exact⟨0,Nat.zero_le _,rfl,j⟩
 case round=>
  obtain⟨k,Q,rfl,f⟩:=hrel;clear j;rename_i wr;by_cases a:k<n.s.ls.length
  ·have J:(k:Int)<(n.s.ls.length:Int):=by omega
   obtain⟨b,c,E,N⟩:=(Aa f).nd.lptr a;rw[v]at E;simp only[Value.slice.injEq,true_and]at E;obtain⟨rfl,rfl⟩:=E;have C:=Ab (show(n.s.ls.getD k .dflt).lo<=n.t from(Aa H).tm.2 k a);have r:(n.s.ls.getD k .dflt).At wr n.p.M n.p.queue:=by
    have:=((Aa f).nd.st.each k (by show k<(Bb _ k n.s.ls).length;rw[Ff];exact a)).1;have e:AJ.At wr n.p.M n.p.queue ((Bb (Iw n.p.M n.p.queue x) k n.s.ls).getD k .dflt):=this;rwa[JE _ a]at e
   have L:=Ab (lL _ n.p.M n.p.queue x wr r);clear r;generalize I:n.s.ls.getD k .dflt=l at*;have A:=Ab I;clear I
   go_wp2_with (first
    |(go_at_call 76;refine(Aa L).mono ?_;rintro e w2 ⟨rfl,o,y⟩;have z:=Ab o;have D:=Ab y;clear o y)
    |fail)
   go_round
   case rel=>exact⟨k+1,a,by go_num,Ab ((Aa f).step a (Aa A) (Aa z) (Aa D) (Aa C))⟩
   case measure=>simp[intOf];omega
  ·obtain rfl:k=n.s.ls.length:=by omega
   go_wp2;have K:=(Aa f).nd;rw[Kp _ (Nat.le_refl _)]at K;go_end0;exact⟨rfl,K,(Aa f).tu⟩
theorem OQ:(Tryz.prog.info? 25).map (·.size)=some 10:=by kernel_rfl
theorem YW{n:Ao}(a:n.src=none)(b:n.s.rl=none)(L:List Nat):C8 n L=none:=by
 unfold C8;rw[a,b]
theorem pY{ss:List ByteArray}{m:Nat}{l:Int}{L:List (List Nat×ByteArray)}(h:Co (ss.length:Int) l L ob)(K:0<sizeOfK (ss.length:Int))(n:∀x∈L,Ac x.1/\x.2.size<=1000/\x.1.length<=10)(H:L.length<=300)(J:∀x∈L,AU (ss.length:Int) x.1=true)
  (D:∀x∈L,DJ ss x.1 x.2=true) (G:∀x∈L,x.2.size=m) (o:∀b,b<ss.length->(ss.getD b ByteArray.empty).size=m) (E:CY L=ss.length):ob=st ((joinL ss).take l.toNat):=by
 obtain⟨rs,kn,bs,g,C,I⟩:=h;have a:∀r∈rs,core r∈L:=fun r c=>by rw[<-g];exact List.mem_map.2 ⟨r,c,rfl⟩
 have f:Dn rs:=fun r c=>⟨(n _ (a r c)).1,(n _ (a r c)).2.1⟩;have z:∀r∈rs,r.xs.length<=10:=fun r c=>(n _ (a r c)).2.2;have p:rs.length<=300:=by
  have e:rs.length=L.length:=by rw[<-g,List.length_map]
  exact e▸H
 have k:AC 1048576 (vecsL rs):=by
  have:=LP f z (fun _=>true);rwa[List.filter_eq_self.2 (fun _ _=>rfl)]at this
 have j:(rs.filter fun r=>AU (ss.length:Int) r.xs)=rs:=List.filter_eq_self.2 fun r c=>J _ (a r c);have v:rankN rs=ss.length:=by rw[LF,g];exact E
 have c:Hj (ss.length:Int) rs=ss.length:=by
  have A:Hj (ss.length:Int) rs=(Ch (vecsL rs)).length:=by unfold Hj;rw[j]
  rw[A,<-LQ k,KF];exact v
 have y:=(og C f z p K (fun r c=>D (core r) (a r c)) (fun r c=>G (core r) (a r c)) o).2;rw[if_pos c]at y;rw[I,y]
def EB(t:ByteArray)(Z:Nat):List ByteArray:=Bu (tx t) Z (kc t.size Z)
theorem UJ(t:ByteArray)(Z:Nat):(EB t Z).length=kc t.size Z:=IN _ _ _
theorem mb(t:ByteArray)(Z:Nat):∀b,b<(EB t Z).length->((EB t Z).getD b ByteArray.empty).size=Z:=fun b a=>by
 rw[UJ]at a;unfold EB;rw[Sc _ _ _ _ a,Dx,NN]
theorem jG(t:ByteArray)(Z:Nat)(f:1<=Z):st ((joinL (EB t Z)).take t.size)=t:=by
 have b:=Ko t.size Z f;have a:=Qb t.size Z
 have c:=lC (Ci t) Z (kc t.size Z) a (by rw[AT];exact b) (by
  rw[AT];by_cases e:kc t.size Z=1
  ·exact .inl e
  ·exact .inr ((pj t.size Z (kc t.size Z-1) f (by omega)).1 (by omega)))
 rw[AT]at c;unfold EB;rw[c,Iv]
structure IE(t:ByteArray)(Z:Nat)(p:PKV):Prop where
 ok:DD p=true
 l:p.l=(t.size:Int)
 k:p.k=(kc t.size Z:Int)
 z:p.z=(Z:Int)
 h:DJ (EB t Z) p.r.xs p.r.s=true
structure E9(t:ByteArray)(Z:Nat)(s:DS):Prop where
 same:s.bg=true->s.l=(t.size:Int)/\s.k=(kc t.size Z:Int)/\s.z=(Z:Int)
 hold:∀x∈s.L,DJ (EB t Z) x.1 x.2=true/\Ac x.1/\x.2.size<=1000/\x.1.length<=10
 told:s.dn=true->s.ob=t
theorem E9.zero(t:ByteArray)(Z:Nat):E9 t Z C9:=⟨(fun e=>by cases e),(fun x a=>by cases a),fun e=>by cases e⟩
theorem E9.beg{s:DS}{p:PKV}(h:E9 t Z s)(hp:IE t Z p):E9 t Z (Cx s p):=by
 unfold Cx;split
 ·exact h
 ·exact⟨fun _=>⟨hp.l,hp.k,hp.z⟩,(fun x a=>by cases a),fun e=>by cases e⟩
theorem E9.keep{M:Int}{s:DS}{x:List Nat×ByteArray}(h:E9 t Z s)(C:BV s)(N:1<=Z)(J:B8 s.k s.z x=true)(K:DJ (EB t Z) x.1 x.2=true/\Ac x.1/\x.2.size<=1000/\x.1.length<=10)(I:AS M s x ob):E9 t Z (DN M s x ob):=by
 have b:∀y∈s.L++[x],DJ (EB t Z) y.1 y.2=true/\Ac y.1/\y.2.size<=1000/\y.1.length<=10:=fun y a=>by
  rcases List.mem_append.1 a with a|a
  ·exact h.hold y a
  ·rw[List.mem_singleton.1 a];exact K
 have j:∀y∈s.L++[x],B8 s.k s.z y=true:=fun y a=>by
  rcases List.mem_append.1 a with a|a
  ·exact C.fit y a
  ·rw[List.mem_singleton.1 a];exact J
 cases g:s.dn
 ·by_cases l:s.L.length<capN M
  ·by_cases o:(CY (s.L++[x]):Int)=s.k
   ·have D:=I (Jv (ob:=ob) g l o).2.2
    obtain⟨E,G,H⟩:=h.same C.bg;rw[(Jv g l o).1];refine⟨h.same,b,fun _=>?_⟩;show ob=t;have c:s.k=((EB t Z).length:Int):=by rw[UJ];exact G
    rw[c,E]at D;have n:(s.L++[x]).length<=300:=by
     rw[List.length_append,List.length_singleton];have:=JG M;exact Nat.le_trans (Nat.succ_le_of_lt l) (Nat.le_trans this (by decide))
    have f:∀y∈s.L++[x],AU ((EB t Z).length:Int) y.1=true/\y.2.size=Z:=fun y a=>by
     have:=j y a;unfold B8 at this;rw[Bool.and_eq_true,Bool.and_eq_true]at this;have A:=decide_eq_true_iff.1 this.2;rw[H]at A;exact⟨by rw[<-c];exact this.1.1,Int.ofNat.inj A⟩
    have p:CY (s.L++[x])=(EB t Z).length:=by
     rw[c]at o;exact Int.ofNat.inj o
    have r:0<sizeOfK ((EB t Z).length:Int):=(F7 (f x (List.mem_append.2 (.inr List.mem_cons_self))).1).1;have:=pY (m:=Z) D r (fun y a=>(b y a).2) n (fun y a=>(f y a).1) (fun y a=>(b y a).1) (fun y a=>(f y a).2) (mb t Z) p;rw[Int.toNat_natCast,jG t Z N]at this;exact this
   ·rw[(KI g l o).1]
    exact⟨h.same,b,fun e=>by have v:s.dn=true:=e;rw[g]at v;cases v⟩
  ·rw[(Kc g l).1]
   exact⟨h.same,h.hold,h.told⟩
 ·rw[(KS g).1];exact h
theorem E9.put{M:Int}{s:DS}{p:PKV}(h:E9 t Z s)(c:s.bg=true->BV s)(f:1<=Z)(hp:IE t Z p)(e:Ac p.r.xs/\p.r.s.size<=1000/\p.r.xs.length<=10)(b:Dk s p=true->AS M (Cx s p) (p.r.xs,p.r.s) ob):E9 t Z (Fx M s p ob):=by
 cases a:Dk s p
 ·rw[(WB a).1];exact h
 ·rw[(Vm a).1]
  exact(h.beg hp).keep (BV.beg c hp.ok) f (Pw a).2.1 ⟨hp.h,e⟩ (b a)
theorem Ce.len{o l k z h:Int}(a:Ce s o l k z h xs t en):xs.length<=2:=by
 rcases a.err with⟨_,_,c,b⟩|⟨_,e⟩
 ·rw[b.2.2.2.2.2.1]
  exact Jx c.2.1
 ·rw[e.2.2.2.2.2.1]
  exact Nat.zero_le _
theorem AQ.len{kd o l k z h:Int}(a:AQ s kd fr ic o l k z h xs t en):xs.length<=2:=by
 by_cases b:en=0
 ·subst b
  rcases(Vq a).1.2.2 with⟨_,_⟩|⟨_,g⟩
  ·by_cases c:openE s=0
   ·obtain⟨e,f,a3,a4⟩:=a.2 c
    by_cases c2:(openT s).size<6
    ·rw[(e c2).2.2.2.2.2.2.2.1];exact Nat.zero_le _
    ·by_cases c3:Fw (openT s)
     ·rw[(f c2 c3).2.2.2.2.2.2.2.1];exact Nat.zero_le _
     ·by_cases c4:hdK (openT s)=1
      ·rw[(a3 c2 c3 c4).2.2.2.2.2.2.2.1];exact Nat.zero_le _
      ·exact(a4 c2 c3 c4).1.len
   ·rw[(a.1 c).2.2.2.2.2.2.2.1];exact Nat.zero_le _
  ·exact Jx g.2.1
 ·rw[(a.none b).2.2.2.2.2.2.1]
  exact Nat.zero_le _
def Fy(fr ic:Int)(d:PD):ByteArray:=Fp 2 fr ic d.o d.l d.k d.z d.h d.xs d.s
theorem oF(R:Ac d.xs)(Y:0<=fr/\fr<=7)(hi:0<=ic/\ic<=4294967295)(n:BO d=true){c a b D C A H r:Int}{G:List Nat}{t:ByteArray}{en:Nat}
  (Q:AQ (Fy fr ic d) c a b D C A H r G t en):en=0/\(c=2/\a=fr/\b=ic)/\(D=d.o/\C=d.l/\A=d.k/\H=d.z/\r=d.h)/\G=d.xs/\t=d.s:=by
 obtain⟨F,v⟩:∃F:Nat,fr=(F:Int):=⟨fr.toNat,by omega⟩;obtain⟨I,x⟩:∃I:Nat,ic=(I:Int):=⟨ic.toNat,by omega⟩;have y:=kS (st (DP 2 fr ic (tx (Fo 2 d.o d.l d.k d.z d.h d.xs d.s))));have g:=Q.2 y.1;unfold Fy Fp at g;rw[y.2]at g;obtain⟨hs,p,O,P,e⟩:=ZO (kd:=2) (Ci (Fo 2 d.o d.l d.k d.z d.h d.xs d.s)) (K:=2) rfl v x (by decide) (by omega) (by omega);have j:Fo 2 d.o d.l d.k d.z d.h d.xs d.s=st (BK d.o d.l d.k d.z d.h d.xs (tx d.s)):=Me _ _ _ _ _ _ _;rw[Iv]at e;generalize st (DP 2 fr ic (tx (Fo 2 d.o d.l d.k d.z d.h d.xs d.s)))=T at*;rw[j]at e;have m:¬Fw T:=by
  rintro(f|f|f)
  ·omega
  ·exact f.2 p
  ·omega
 obtain⟨E,x2,S⟩:=g.2.2.2 (by omega) m (by omega);rw[e]at E;obtain⟨J,L,N⟩:=Xt (t:=d.s) R (Gf.1 n);obtain⟨u1,u2,u3,u4⟩:=E.uniq (.inr (.inr ⟨J,L,rfl,N⟩));obtain⟨V,W,X⟩:=S u4;exact⟨u4,⟨by rw[V,p];rfl,by rw[W,O,v],by rw[X,P,x]⟩,u1,u2,u3⟩
theorem Wx{n:Ao}{L:List Nat}{f:Bo}(v:E7 n L f)(m:C8 n L=some d):f.enc=Fy n.id n.inc d:=by
 obtain⟨a,b,c,e⟩:=v;rw[m]at c e;have g:f.kd=2:=c;have j:f.p.pd=d:=e;subst j;show Fp f.kd f.fr f.ic f.p.o f.p.l f.p.k f.p.z f.p.h f.p.r.xs f.p.r.s=Fp 2 n.id n.inc f.p.o f.p.l f.p.k f.p.z f.p.h f.p.r.xs f.p.r.s;rw[a,b,g]
theorem UV{n x:Ao}{now:Int}(Q:Ac d.xs)(L:0<=fr/\fr<=7)(O:0<=ic/\ic<=4294967295)(e:BO d=true)(h:Hi n (Fy fr ic d) now en x):en=0/\∃(q:PKV) (N:Nat) (rl:Option F3) (dc:Option E5),q.pd=d/\
  x=n.setS ⟨n.s.lv,n.s.ls,n.s.gm,EA n.s.Z fr ic now,n.s.gc,n.s.gcm,N,Hg (capN n.p.cache) n.s.P d,rl,dc⟩/\M0 (capN n.p.buffer) (Dw n.s.P d) n.s.rl rl d/\Lm n.p.buffer (Dw n.s.P d) n.s.dc dc q:=by
 obtain⟨kd,f,i,q,K,g⟩:=h;obtain⟨v,⟨b,A,C⟩,⟨D,E,G,H,I⟩,J,c⟩:=oF Q L O e K;have a:q.pd=d:=by
  show(⟨q.o,q.l,q.k,q.z,q.h,q.r.xs,q.r.s⟩:PD)=d;rw[D,E,G,H,I,J,c]
 rcases g with⟨g,_⟩|⟨_,N,rl,dc,y,j,m⟩
 ·exact absurd v g
 ·refine⟨v,q,N,rl,dc,a,?_,?_,?_⟩
  ·rw[y,b,A,C,a,if_pos rfl]
  ·rw[b,a,decide_eq_true rfl,Bool.true_and]at j
   exact j
  ·rw[b,a,decide_eq_true rfl,Bool.true_and]at m
   exact m
theorem ot{s:AZ}{d:E5}(h:s.dc=some d):GO s=d.s.dn:=by unfold GO;rw[h]
theorem pX{s:AZ}{d:E5}(h:s.dc=some d):GQ s=d.s.ob:=by unfold GQ;rw[h]
theorem R8{T:TypeId}{b n:Nat}{v:Value}{cs:List Value}(h:w.ownsRow B T b v n cs){j:Nat}(a:v.ownBlock=some j):j<w.heap.size:=(EM h a).2
theorem Al.lt{g:Nat}{n:Ao}(h:Al w g B n):∀j,Bg g n j->j<w.heap.size:=fun j a=>by
 rcases a with rfl|a|⟨r,b,rfl|a⟩|a
 ·exact h.blk.lt
 ·exact R8 h.tos a
 ·exact(h.src r b).blk.lt
 ·exact R8 (h.src r b).own a
 ·exact h.st.lt j a
theorem PF{n:Ao}{g:Nat}:∀j,Bg g (n.each u) j->Bg g n j:=fun j a=>by
 rcases a with a|a|a|a
 ·exact .inl a
 ·exact .inr (.inl a)
 ·exact .inr (.inr (.inl a))
 ·refine .inr (.inr (.inr ?_))
  rcases a with a|⟨i,c,a⟩|a
  ·exact .inl a
  ·have b:i<(n.s.ls.map (Dp u)).length:=c
   rw[List.length_map]at b;refine .inr (.inl ⟨i,b,?_⟩);have e:((n.s.ls.map (Dp u)).getD i .dflt).F j:=a;rw[<-Kp u (Nat.le_refl n.s.ls.length),LU u _ _ _ b,if_pos b]at e;exact e
  ·exact .inr (.inr a)
theorem Mi{n:Ao}(a:i<n.s.ls.length):(n.each u).s.ls.getD i .dflt=Dp u (n.s.ls.getD i .dflt):=by
 show(n.s.ls.map (Dp u)).getD i .dflt=_;rw[<-Kp u (Nat.le_refl n.s.ls.length),LU u _ _ _ a,if_pos a]
theorem Fc{n:Ao}:(n.each u).s.ls.length=n.s.ls.length:=by
 show(n.s.ls.map (Dp u)).length=_;rw[List.length_map]
def GT(id:Nat)(kd:Int)(s:ByteArray):Prop:=∃f:Bo,f.ok/\Ac f.p.r.xs/\f.enc=s/\f.fr=(id:Int)/\(f.kd=2->kd≠3)
theorem GT.size{id:Nat}{kd:Int}(h:GT id kd s):s.size<=1048576:=by
 obtain⟨f,a,_,rfl,_⟩:=h;exact Bo.enc_size a
def CI(n:Ao):Prop:=∀i,i<n.s.ls.length->∀s∈(n.s.ls.getD i .dflt).L,GT n.id n.p.kd s
theorem CI.each{n:Ao}(h:CI n)(f:∀l,∀s∈(u l).2.1,s∈l.L\/GT n.id n.p.kd s):CI (n.each u):=fun i a s c=>by
 rw[Fc]at a;rw[Mi a]at c;have b:s∈(u (n.s.ls.getD i .dflt)).2.1:=c;rcases f _ s b with e|e
 ·exact h i a s e
 ·exact e
theorem CI.act{n:Ao}(h:CI n){q:Int}{e:ByteArray}(c:GT n.id n.p.kd e):CI (n.each (Fv q e)):=h.each fun l s b=>by
 unfold Fv at b;split at b
 ·rcases List.mem_append.1 b with a|a
  ·exact .inl a
  ·rw[List.mem_singleton.1 a];exact .inr c
 ·exact .inl b
theorem CI.tick{n:Ao}(h:CI n){M q k:Int}:CI (n.each (Iw M q k)):=h.each fun l s a=>.inl a
theorem CI.pump{n:Ao}(h:CI n):CI (n.each Cw):=h.each fun l s a=>.inl (List.mem_of_mem_drop a)
theorem CI.recv{n b:Ao}{now:Int}(h:CI n)(a:Hi n s now en b):CI b/\b.id=n.id/\b.p=n.p/\b.src=n.src:=by
 obtain⟨kd,fr,ic,q,c,⟨_,a⟩|⟨_,N,rl,dc,a,_⟩⟩:=a
 ·subst a;exact⟨h,rfl,rfl,rfl⟩
 ·subst a;exact⟨h,rfl,rfl,rfl⟩
theorem Yx{g:Nat}{n:Ao}{L:List Nat}{f:Bo}(h:Al w g B n)(k:n.id<=7)(l:∀r,n.src=some r->Ck n.id r)(j:E7 n L f)(v:Ac f.p.r.xs):GT n.id n.p.kd f.enc:=by
 refine⟨f,(E7.ok h k l j).1,v,rfl,j.1,fun e x=>?_⟩;have m:=j.2.2.1;rcases h.kd with⟨a,_⟩|⟨a,_⟩|⟨_,b,c,_⟩
 ·omega
 ·omega
 ·rw[YW b c]at m
  have o:f.kd=1:=m;omega
theorem Ww{n:Ao}(h:CI n):∀(k:Nat),k<=n.s.ls.length->∀x∈flyTo n k,x.fr=(n.id:Int)/\GT n.id n.p.kd x.s/\∃i,i<k/\x.dst=n.p.tos.getD i 0
 |0,_,x,b=>by cases b
 |k+1,m,x,b=>by
  have c:x∈flyTo n k++Dm n k (EC n k):=b;rcases List.mem_append.1 c with a|a
  ·obtain⟨e,f,i,l,g⟩:=Ww h k (by omega) x a
   exact⟨e,f,i,by omega,g⟩
  ·unfold Dm at a
   obtain⟨s,j,rfl⟩:=List.mem_map.1 a;exact⟨rfl,h k (by omega) s (List.mem_of_mem_take j),k,by omega,rfl⟩
theorem ZF{l z K s g:Nat}{v:Value}(f:i<=7)(a:1<=z/\z<=64)(b:1<=K/\K<=128)(e:l<=K*z):Ck i ⟨g,v,(l:Int),(z:Int),min s K,Bu xs z K⟩:=by
 have c:(Bu xs z K).length=K:=IN _ _ _;refine⟨by show 1<=(Bu xs z K).length;omega,by show(Bu xs z K).length<=128;omega,by show min s K<=(Bu xs z K).length;omega,cP xs z K a.2,fun L=>Gf.2 ?_⟩;have:=Yl i l z K (min s K) xs L 0 (by omega) a.1 a.2 b.1 b.2 (by omega) e;show Cg (i:Int) (l:Int) ((Bu xs z K).length:Int) (z:Int) 0 (Dj (Bu xs z K).length (min s K) L 0) (st (Bp (Bu xs z K) (Dj (Bu xs z K).length (min s K) L 0) (Bu xs z K).length)).size;rw[c];exact this
theorem Z8{f:BU}{g:Nat}{n:Ao}(k:GU w f i)(l:i<=7)(h:F2 f i n)(o:Al w' g B n):∀r,n.src=some r->Ck n.id r:=fun r c=>by
 have m:n.p.kd=1:=by
  rcases o.kd with⟨a,_⟩|⟨_,b,_⟩|⟨_,b,_⟩
  ·exact a
  ·rw[b]at c;cases c
  ·rw[b]at c;cases c
 obtain⟨g,v,e⟩:=h.src m;rw[e]at c;cases c;obtain⟨s1,s2,y,j⟩:=k.size;obtain⟨z,x⟩:∃z:Nat,f.size=(z:Int):=⟨f.size.toNat,by omega⟩;rw[x]at j⊢;rw[h.id];exact ZF l ⟨by omega,by omega⟩ ⟨Qb _ _,j⟩ (Ko _ _ (by show 0<(z:Int).toNat;omega))
theorem CI.new{n:Ao}(h:Hl n.p n.s):CI n:=fun i b s a=>by
 rw[(h.1.1 i b).2.1]at a;cases a
theorem Al.mono{g B':Nat}{n:Ao}(h:Al w g B n)(a:B'<=B):Al w g B' n:=
 ⟨h.blk,Nat.le_trans a h.lo,NJ h.tos a,fun r b=>(h.src r b).mono a,h.st.mono a,h.kd,h.num,h.tm⟩
structure BN where
 g:Nat
 n:Ao
structure AK where
 nv:Value
 ns:List BN
 now:Int
 wv:Value
 fs:List AG
def Ep(ns:List BN):List Value:=ns.map fun x=>.pointer (some ⟨x.g,0,none⟩)
structure AB(w:World)(q B:Nat)(T:AK):Prop where
 blk:BkA 89 w q [T.nv,.int .i64 T.now,T.wv]
 lo:B<=q
 own:w.ownsRow B 90 1 T.nv T.ns.length (Ep T.ns)
 each:∀(i:Nat) (x:BN),T.ns[i]? =some x->Al w x.g B x.n
 apart:∀(i k:Nat) (x y:BN),T.ns[i]? =some x->T.ns[k]? =some y->i≠k->∀j,Bg x.g x.n j->¬Bg y.g y.n j
 fly:Ap w B T.wv T.fs
 few:T.ns.length<=8/\T.fs.length<=512
 now0:0<=T.now/\T.now<=1099511627776
def Lk(q:Nat)(T:AK)(j:Nat):Prop:=j=q\/T.nv.ownBlock=some j\/T.wv.ownBlock=some j\/∃(i:Nat) (x:BN),T.ns[i]? =some x/\Bg x.g x.n j
theorem AB.tu{F:Nat->Prop}{T:AK}(h:AB w q B T)(ht:Tu F w w')(b:∀j,Lk q T j->¬F j)(e:∀j,kdB w j=265+2->¬F j):AB w' q B T:=
 ⟨h.blk.tu ht (b q (.inl rfl)),h.lo,CN h.own ht fun j a=>b j (.inr (.inl a)),fun i x c=>(h.each i x c).tu ht (fun j a=>b j (.inr (.inr (.inr ⟨i,x,c,a⟩)))) e,h.apart,CN h.fly ht fun j a=>b j (.inr (.inr (.inl a))),h.few,h.now0⟩
theorem AB.below{T:AK}(h:AB w q B T)(a:Below w.heap.size w w'):AB w' q B T:=h.tu (F:=fun _=>False) (Tu.of_below a) (fun _ _=>id) fun _ _=>id
theorem AB.low{T:AK}(h:AB w q B T):∀j,Lk q T j->B<=j:=fun j a=>by
 rcases a with rfl|a|a|⟨i,x,b,a⟩
 ·exact h.lo
 ·exact(EM h.own a).1
 ·exact(EM h.fly a).1
 ·exact(h.each i x b).low j a
theorem pQ(a b c d e:Int)(v:Value)(w:World):Calls Tryz.prog 13 #[.pointer none,.agg #[.int .i64 a,.int .i64 b,.int .i64 c,.int .i64 d,.int .i64 e,v]] w fun e w'=>e=.returned (.bool false)/\Below w.heap.size w w':=by
 have f:=Ab (Ax w (.cells #[.int .i64 a,.int .i64 b,.int .i64 c,.int .i64 d,.int .i64 e,v] 42));go_enter Tryz.func13,Tryz.ntmps13;go_wp2;go_ret;exact⟨rfl,Aa f⟩
theorem ky(w:World):Calls Tryz.prog 20 #[.pointer none] w fun e w'=>e=.returned (.int .i64 0)/\w'=w:=by
 go_enter Tryz.func20,Tryz.ntmps20;go_wp2;go_ret;exact⟨rfl,rfl⟩
theorem ku(w:World):Calls Tryz.prog 15 #[.pointer none] w fun e w'=>e=.returned (.slice none 0 0)/\w'=w:=by
 go_enter Tryz.func15,Tryz.ntmps15;go_wp2;go_ret;exact⟨rfl,rfl⟩
theorem Nx{tmps:Array Value}{W:World}{g:Nat}{cs:List Value}(c:tmps.getD 4 undef=.pointer (some ⟨g,0,none⟩))(f:BkA 44 W g cs)(e:cs.length=7):(results Tryz.f14 tmps).run Tryz.prog W=.ok (.agg cs.toArray) W:=by
 have b:=f.load Tryz.underlying44 rfl JD e;have a:tmps[4]?.getD undef=.pointer (some ⟨g,0,none⟩):=by simpa using c
 simp[results,Tryz.results14,asAddr,a,b]
theorem kz(a:Int)(w:World):Calls Tryz.prog 14 #[.pointer none,.int .i64 a] w fun e w'=>e=.returned (.agg #[.int .i64 0,.int .i64 0,.int .i64 0,.int .i64 0,.int .i64 0,.bool false,.string ⟨#[]⟩])/\Below w.heap.size w w':=by
 have X:=Ab (AO 44 w [.int .i64 0,.int .i64 0,.int .i64 0,.int .i64 0,.int .i64 0,.bool false,.string ⟨#[]⟩]);have h:=Ab (Ax w (.cells #[.int .i64 0,.int .i64 0,.int .i64 0,.int .i64 0,.int .i64 0,.bool false,.string ⟨#[]⟩] 44));go_enter Tryz.func14,Tryz.ntmps14
 go_wp2_with (first
  |((with_reducible refine JP 44 44 JD 4 13 w.heap.size 0 _ [.int .i64 0,.int .i64 0,.int .i64 0,.int .i64 0,.int .i64 0,.bool false,.string ⟨#[]⟩] ?_ ?_ (Aa X) rfl ?_ ?_ ?_);(focus rfl);(focus rfl);(focus exact(show 0+7<=7 by decide));(focus exact(by simp[Value.oneCell']));intro j c b;have g:=Ab c;have f:=Ab b;clear c b)
  |fail)
 exact bodyPost_ret (Nx rfl (Aa g) rfl) rfl ⟨rfl,Gl (Aa h) (Aa f) (Nat.le_refl _)⟩
theorem kx(q B:Nat)(T:AK)(w:World)(h:AB w q B T):Calls Tryz.prog 20 #[.pointer (some ⟨q,0,none⟩)] w fun e w'=>e=.returned (.int .i64 T.now)/\w'=w:=by
 have c1:=h.blk.at 1 rfl;clear h;go_enter Tryz.func20,Tryz.ntmps20;go_wp2;go_ret;exact⟨rfl,rfl⟩
def modZ(n m:Int):Int:=if n.tmod m<0 then n.tmod m+m else n.tmod m
theorem WJ{n m:Int}(a:0<m):0<=modZ n m/\modZ n m<m:=by
 have c:=Int.tmod_lt_of_pos n a;have b:=Int.tmod_lt_of_pos (-n) a;rw[Int.neg_tmod]at b;unfold modZ;split<;>omega
theorem TA(n m:Int)(w:World)(a:0<m/\m<=1048576):Calls Tryz.prog 52 #[.int .i64 n,.int .i64 m] w fun e w'=>e=.returned (.int .i64 (modZ n m))/\w'=w:=by
 have j:=Int.tmod_lt_of_pos n a.1;have b:=Int.tmod_lt_of_pos (-n) a.1;rw[Int.neg_tmod]at b;have f:m≠0:=by omega
 have k:IntKind.i64.wrap (n.tmod m)=n.tmod m:=by rw[IntKind.wrap_i64];omega
 have g:IntKind.i64.wrap (n.tmod m+m)=n.tmod m+m:=by rw[IntKind.wrap_i64];omega
 unfold modZ;by_cases h:n.tmod m<0
 ·rw[if_pos h]
  have c:decide (n.tmod m<0)=true:=decide_eq_true h;go_enter Tryz.func52,Tryz.ntmps52;go_wp2;go_ret;exact⟨rfl,rfl⟩
 ·rw[if_neg h]
  have c:decide (n.tmod m<0)=false:=decide_eq_false h;go_enter Tryz.func52,Tryz.ntmps52;go_wp2;go_ret;exact⟨rfl,rfl⟩
theorem LV(q B:Nat)(T:AK)(id:Int)(w:World)(h:AB w q B T):Calls Tryz.prog 30 #[.pointer (some ⟨q,0,none⟩),.int .i64 id] w fun e w'=>((e=.returned (.bool true)/\(0<=id/\id<T.ns.length))\/(e=.returned (.bool false)/\¬(0<=id/\id<T.ns.length)))/\w'=w:=by
 have m:=h.few.1;obtain⟨a,c,j⟩:∃a c,T.nv=.slice a T.ns.length c:=by
  rcases h.own.2 with⟨e,l⟩|⟨g,cap,k,e,_⟩
  ·exact⟨none,0,by rw[e,l]⟩
  ·exact⟨_,_,e⟩
 have c0:=h.blk.at 0 rfl;rw[j]at c0;have n:IntKind.i64.wrap ((T.ns.length:Int)-1)=(T.ns.length:Int)-1:=by rw[IntKind.wrap_i64];omega
 clear h j;by_cases f:0<=id/\id<=(T.ns.length:Int)-1
 ·go_enter Tryz.func30,Tryz.ntmps30
  go_wp2_with (first
   |(go_at_call 41;refine(Fe _ _ _ _ f).mono ?_;rintro e w1 ⟨rfl,b⟩;obtain rfl:=b.symm;clear b)
   |fail)
  go_ret;exact⟨.inl ⟨rfl,by omega⟩,rfl⟩
 ·go_enter Tryz.func30,Tryz.ntmps30
  go_wp2_with (first
   |(go_at_call 41;refine(GG _ _ _ _ f).mono ?_;rintro e w1 ⟨rfl,b⟩;obtain rfl:=b.symm;clear b)
   |fail)
  go_ret;exact⟨.inr ⟨rfl,by omega⟩,rfl⟩
end Go.Proofs.YtmmikiikddokgaaGreatDoor
