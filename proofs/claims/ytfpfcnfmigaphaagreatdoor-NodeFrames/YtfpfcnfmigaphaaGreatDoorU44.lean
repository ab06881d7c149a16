/-
  Laws that the proof stands on.
-/
import Derived.Test.YtfpfcnfmigaphaaGreatDoorU43
namespace Go.Proofs.YtfpfcnfmigaphaaGreatDoor
open Go.RowKit Go.Sort
set_option linter.unusedVariables false
set_option linter.unusedSimpArgs false
set_option maxRecDepth 4000
set_option maxHeartbeats 8000000
variable {ob t:ByteArray}{s:DS}{f:Bm}{o fr ic now:Int}{fs:List Cb}{xs:List Nat}{u:AF->Int×List ByteArray×Nat}{n n':AD}{g B x y Z en g' B':Nat}{d:PD}{q:PKV}{v:Value}{w w0 w':World}
structure DK(w wr:World)(g B k:Nat)(n:AD)(x:Int):Prop where
 nd:Aj wr g B (n.withL (A8 (JC n.p.M n.p.queue x) k n.s.ls) (n.t+1))
 tu:Tu (BM g n) w wr
theorem DK.step{wr w2:World}{k:Nat}{x:Int}(h:DK w wr g B k n x)(b:k<n.s.ls.length){l:AF}(i:n.s.ls.getD k .dflt=l)(c:(Cv (JC n.p.M n.p.queue x) l).At w2 n.p.M n.p.queue)(ht:Tu l.F wr w2)(a:l.lo<=n.t):DK w w2 g B (k+1) n x:=by
 subst i;exact⟨h.nd.lstep b c ht (Nat.le_succ_of_le a),h.tu.trans ht fun j _ e=>MQ b j e⟩
theorem kL(l:AF)(M q x:Int)(w:World)(h:l.At w M q):
  Calls Tryz.prog 37 #[.pointer (some ⟨l.g,0,none⟩),.int .i64 x] w fun e w'=>e=.returned (.tuple #[])/\(Cv (JC M q x) l).At w' M q/\Tu l.F w w':=
 gM l.g l.gb l.gq l.c l.lo M q l.lv x l.L w h
theorem gg(g B:Nat)(n:AD)(x:Int)(w:World)(h:Aj w g B n):
  Calls Tryz.prog 13 #[.pointer (some ⟨g,0,none⟩),.int .i64 x] w fun e w'=>e=.returned (.tuple #[])/\Aj w' g B (n.each (JC n.p.M n.p.queue x))/\Tu (BM g n) w w':=by
 obtain⟨S,T,C⟩:=h.st.lks.len;have L:n.s.ls.length<=8:=by have:=h.num;omega
 have r:=h.blk.at 11 (show(EM n)[11]? =some n.s.lv from rfl);rw[C]at r;have H:=Ab h;have m:=Ab (show DK w w g B 0 n x from⟨h.lstart _ (Nat.le_succ _),Tu.of_below (Below.refl _ _)⟩);clear h;go_enter Tryz.func13,Tryz.ntmps13;go_wp2_with fail;clear r;go_loopw [14] (fun i wr=> ∃k:Nat,k<=n.s.ls.length/\i=.int .i64 k/\Hid (DK w wr g B k n x)) (fun i _=>n.s.ls.length-(intOf i).toNat)
 case atStart=>exact⟨0,Nat.zero_le _,rfl,m⟩
 case round=>
  obtain⟨k,V,rfl,j⟩:=hrel;clear m;rename_i wr;by_cases a:k<n.s.ls.length
  ·have O:(k:Int)<(n.s.ls.length:Int):=by omega
   obtain⟨b,c,K,R⟩:=(Aa j).nd.lptr a;rw[C]at K;simp only[Value.slice.injEq,true_and]at K;obtain⟨rfl,rfl⟩:=K;have I:=Ab (show(n.s.ls.getD k .dflt).lo<=n.t from(Aa H).tm.2 k a);have A:(n.s.ls.getD k .dflt).At wr n.p.M n.p.queue:=by
    have:=((Aa j).nd.st.each k (by show k<(A8 _ k n.s.ls).length;rw[Fg];exact a)).1;have e:AF.At wr n.p.M n.p.queue ((A8 (JC n.p.M n.p.queue x) k n.s.ls).getD k .dflt):=this;rwa[Jk _ a]at e
   have Q:=Ab (kL _ n.p.M n.p.queue x wr A);clear A;generalize N:n.s.ls.getD k .dflt=l at*;have G:=Ab N;clear N
   go_wp2_with (first
    |(go_at_call 37;refine(Aa Q).mono ?_;rintro e w2 ⟨rfl,z,D⟩;have E:=Ab z;have J:=Ab D;clear z D)
    |fail)
   go_round
   case rel=>exact⟨k+1,a,by go_num,Ab ((Aa j).step a (Aa G) (Aa E) (Aa J) (Aa I))⟩
   case measure=>simp[intOf];omega
  ·obtain rfl:k=n.s.ls.length:=by omega
   go_wp2;have P:=(Aa j).nd;rw[J9 _ (Nat.le_refl _)]at P;go_end0;exact⟨rfl,P,(Aa j).tu⟩
def Dn(a x y:Nat):Ca:=⟨some ⟨a,0,none⟩,2,2,[⟨1,some ⟨x,0,none⟩,1,1,[1]⟩,⟨3,some ⟨y,0,none⟩,1,1,[0]⟩],⟨#[97,98]⟩,1,0,4,4,4,4607182418800017408,5,1⟩
theorem PU{a:Nat}(h:Bn w (some ⟨a,0,none⟩) 2 (Dn a x y).ds):ES w (Dn a x y) 0/\ES w (Dn a x y) 1:=
 ⟨⟨h,show 0<2 by decide,by decide,.inl rfl,show 1<=8 by decide,(fun e=>by have b:some (⟨x,0,none⟩:Addr)=none:=e;cases b),show 4607182418800017408<18446744073709551616 by decide,show(1:Int)<=1/\(1:Int)<=64/\(0:Int)<=0/\kc 2 1<=128 by decide⟩,⟨h,show 1<2 by decide,by decide,.inr (.inr rfl),show 1<=8 by decide,(fun e=>by have b:some (⟨y,0,none⟩:Addr)=none:=e;cases b),show 4607182418800017408<18446744073709551616 by decide,show(1:Int)<=1/\(1:Int)<=64/\(0:Int)<=0/\kc 2 1<=128 by decide⟩⟩
theorem Ud:(Tryz.prog.info? 25).map (·.size)=some 10:=by kernel_rfl
theorem dJ{tmps:Array Value}{W:World}{cs:List Value}(c:tmps.getD 0 undef=.pointer (some ⟨g,0,none⟩))(h:BkA 25 W g cs)(e:cs.length=10):(results Tryz.f26 tmps).run Tryz.prog W=.ok (.agg cs.toArray) W:=by
 have b:=h.load Tryz.underlying25 rfl Ud e;have a:tmps[0]?.getD undef=.pointer (some ⟨g,0,none⟩):=by simpa using c
 simp[results,Tryz.results26,asAddr,a,b]
theorem Vm(w:World):Calls Tryz.prog 26 #[] w fun e w'=> ∃a x y,e=.returned (Dn a x y).val/\Bn w' (some ⟨a,0,none⟩) 2 (Dn a x y).ds/\Below w.heap.size w w':=by
 have r:=Ab (show BkA 25 ((((w.alloc (.cells #[.slice none 0 0,.string ⟨#[]⟩,.int .i64 0,.int .i64 0,.int .i64 0,.int .i64 0,.int .i64 0,.float .f64 0,.int .i64 0,.int .i64 0] 25)).alloc (.cells #[.int .i64 1] 3)).alloc (.cells #[.int .i64 0] 3)).alloc (.cells #[.int .i64 1,.slice (some ⟨w.heap.size+1,0,none⟩) 1 1,.int .i64 3,.slice (some ⟨w.heap.size+1+1,0,none⟩) 1 1] 85)) w.heap.size [.slice none 0 0,.string ⟨#[]⟩,.int .i64 0,.int .i64 0,.int .i64 0,.int .i64 0,.int .i64 0,.float .f64 0,.int .i64 0,.int .i64 0] from(((AV 25 w [.slice none 0 0,.string ⟨#[]⟩,.int .i64 0,.int .i64 0,.int .i64 0,.int .i64 0,.int .i64 0,.float .f64 0,.int .i64 0,.int .i64 0]).below (AB _ _)).below (AB _ _)).below (AB _ _));go_enter Tryz.func26,Tryz.ntmps26
 go_wp2_with (first
  |((with_reducible refine Jw 25 25 Ud 0 6 w.heap.size 0 _ [.slice (some ⟨w.heap.size+1+1+1,0,none⟩) 2 2,.string ⟨#[97,98]⟩,.int .i64 1,.int .i64 0,.int .i64 4,.int .i64 4,.int .i64 4,.float .f64 4607182418800017408,.int .i64 5,.int .i64 1] ?_ ?_ (Aa r) rfl ?_ ?_ ?_);(focus rfl);(focus rfl);(focus exact(show 0+10<=10 by decide));(focus exact(by simp[Value.oneCell']));intro G c b;have m:=Ab c;have l:=Ab b;clear c b)
  |fail)
 have b:=Aa l;refine bodyPost_ret (dJ rfl (Aa m) rfl) rfl ⟨w.heap.size+1+1+1,w.heap.size+1,w.heap.size+1+1,rfl,?_,?_⟩
 ·have A:=((AV 3 (w.alloc (.cells #[.slice none 0 0,.string ⟨#[]⟩,.int .i64 0,.int .i64 0,.int .i64 0,.int .i64 0,.int .i64 0,.float .f64 0,.int .i64 0,.int .i64 0] 25)) [.int .i64 1]).below (AB _ (.cells #[.int .i64 0] 3))).below (AB _ (.cells #[.int .i64 1,.slice (some ⟨w.heap.size+1,0,none⟩) 1 1,.int .i64 3,.slice (some ⟨w.heap.size+1+1,0,none⟩) 1 1] 85))
  have B:=(AV 3 ((w.alloc (.cells #[.slice none 0 0,.string ⟨#[]⟩,.int .i64 0,.int .i64 0,.int .i64 0,.int .i64 0,.int .i64 0,.float .f64 0,.int .i64 0,.int .i64 0] 25)).alloc (.cells #[.int .i64 1] 3)) [.int .i64 0]).below (AB _ (.cells #[.int .i64 1,.slice (some ⟨w.heap.size+1,0,none⟩) 1 1,.int .i64 3,.slice (some ⟨w.heap.size+1+1,0,none⟩) 1 1] 85));have C:=AV 85 (((w.alloc (.cells #[.slice none 0 0,.string ⟨#[]⟩,.int .i64 0,.int .i64 0,.int .i64 0,.int .i64 0,.int .i64 0,.float .f64 0,.int .i64 0,.int .i64 0] 25)).alloc (.cells #[.int .i64 1] 3)).alloc (.cells #[.int .i64 0] 3)) [.int .i64 1,.slice (some ⟨w.heap.size+1,0,none⟩) 1 1,.int .i64 3,.slice (some ⟨w.heap.size+1+1,0,none⟩) 1 1];simp only[Bb]at A B C;have D:¬(w.heap.size+1=w.heap.size):=by omega
  have E:¬(w.heap.size+1+1=w.heap.size):=by omega
  have k:¬(w.heap.size+1+1+1=w.heap.size):=by omega
  refine⟨rfl,fun i z=>?_,.inr ⟨_,0,rfl,fun i z=>?_⟩⟩
  ·obtain rfl|rfl:i=0\/i=1:=by omega
   ·exact⟨rfl,.inr ⟨_,0,rfl,fun j h=>by
     have p:j<1:=h;obtain rfl:j=0:=by omega
     exact b.cell (A.at 0 rfl) D⟩⟩
   ·exact⟨rfl,.inr ⟨_,0,rfl,fun j h=>by
     have p:j<1:=h;obtain rfl:j=0:=by omega
     exact b.cell (B.at 0 rfl) E⟩⟩
  ·obtain rfl|rfl:i=0\/i=1:=by omega
   ·exact⟨b.cell (C.at 0 rfl) k,b.cell (C.at 1 rfl) k⟩
   ·exact⟨b.cell (C.at 2 rfl) k,b.cell (C.at 3 rfl) k⟩
 ·exact(Ad (Ad (Ad (AB _ _) (AB _ _)) (AB _ _)) (AB _ _)).trans (b.below (Ad (Ad (Ad (AB _ _) (AB _ _)) (AB _ _)) (AB _ _)).size fun j h e=>by omega)
theorem Vn{a:Nat}(h:CF (Dn a x y) 0 n):∃g v,n.src=some ⟨g,v,2,1,0,Be (tx ⟨#[97,98]⟩) 1 2⟩:=by
 obtain⟨g,v,e⟩:=h.src (h.kd.trans rfl);have b:kc (Dn a x y).obj.size (Dn a x y).size.toNat=2:=(show kc 2 1=2 by decide);rw[b]at e;exact⟨g,v,e⟩
theorem X9(g:Nat)(v:Value):I0 0 ⟨g,v,2,1,0,Be (tx ⟨#[97,98]⟩) 1 2⟩ [0,0]=⟨0,2,2,1,0,[1],⟨#[97]⟩⟩:=by kernel_rfl
theorem Ya(g:Nat)(v:Value):I0 0 ⟨g,v,2,1,0,Be (tx ⟨#[97,98]⟩) 1 2⟩ [0,1]=⟨0,2,2,1,0,[2],⟨#[98]⟩⟩:=by kernel_rfl
theorem V6{a:Nat}(h:CF (Dn a x y) 0 n):DW n [0,0]=some ⟨0,2,2,1,0,[1],⟨#[97]⟩⟩/\DW n [0,1]=some ⟨0,2,2,1,0,[2],⟨#[98]⟩⟩:=by
 obtain⟨g,v,e⟩:=Vn h;unfold DW;rw[e,h.id];exact⟨congrArg some (X9 g v),congrArg some (Ya g v)⟩
theorem Yb(g:Nat)(v:Value):Bo 0 ⟨g,v,2,1,0,Be (tx ⟨#[97,98]⟩) 1 2⟩:=by
 refine⟨by show 1<=2;decide,by show 2<=128;decide,Nat.zero_le _,?_,fun L=>Fl.2 ?_⟩
 ·exact(show shorts [⟨#[97]⟩,⟨#[98]⟩] from fun t ht=>by
   simp only[List.mem_cons,List.not_mem_nil,or_false]at ht;rcases ht with rfl|rfl<;>decide)
 ·have a:=RP 2 0 L 0 (by decide) (by decide)
  have b:=UH 2 0 L 0 (by decide) (by decide) (by decide);have c:=V0 (tx ⟨#[97,98]⟩) 1 2 0 L 0 (by decide) (by decide) (by decide);show BS 0 2 2 1 0 (C1 2 0 L 0) (st (Bj (Be (tx ⟨#[97,98]⟩) 1 2) (C1 2 0 L 0) 2)).size;rw[c];exact⟨⟨⟨⟨by decide,by decide⟩,by decide,by decide⟩,⟨by decide,by decide⟩,⟨by decide,by decide⟩,by decide,by decide⟩,a,b,rfl⟩
theorem V7(a:n.src=none)(b:n.s.rl=none)(L:List Nat):DW n L=none:=by
 unfold DW;rw[a,b]
theorem pL{ss:List ByteArray}{m:Nat}{l:Int}{L:List (List Nat×ByteArray)}(h:Cq (ss.length:Int) l L ob)(R:0<sizeOfK (ss.length:Int))(z:∀x∈L,Ac x.1/\x.2.size<=1000/\x.1.length<=10)(O:L.length<=300)(Q:∀x∈L,AR (ss.length:Int) x.1=true)
  (J:∀x∈L,DO ss x.1 x.2=true) (N:∀x∈L,x.2.size=m) (A:∀b,b<ss.length->(ss.getD b ByteArray.empty).size=m) (K:CJ L=ss.length):ob=st ((joinL ss).take l.toNat):=by
 obtain⟨rs,kn,bs,j,I,P⟩:=h;have a:∀r∈rs,core r∈L:=fun r c=>by rw[<-j];exact List.mem_map.2 ⟨r,c,rfl⟩
 have i:Dq rs:=fun r c=>⟨(z _ (a r c)).1,(z _ (a r c)).2.1⟩;have G:∀r∈rs,r.xs.length<=10:=fun r c=>(z _ (a r c)).2.2;have C:rs.length<=300:=by
  have e:rs.length=L.length:=by rw[<-j,List.length_map]
  exact e▸O
 have p:Az 1048576 (vecsL rs):=by
  have:=Lj i G (fun _=>true);rwa[List.filter_eq_self.2 (fun _ _=>rfl)]at this
 have k:(rs.filter fun r=>AR (ss.length:Int) r.xs)=rs:=List.filter_eq_self.2 fun r c=>Q _ (a r c);have D:rankN rs=ss.length:=by rw[Lm,j];exact K
 have c:GT (ss.length:Int) rs=ss.length:=by
  have H:GT (ss.length:Int) rs=(Ci (vecsL rs)).length:=by unfold GT;rw[k]
  rw[H,<-LF p,Kg];exact D
 have E:=(nS I i G C R (fun r c=>J (core r) (a r c)) (fun r c=>N (core r) (a r c)) A).2;rw[if_pos c]at E;rw[P,E]
def EL(t:ByteArray)(Z:Nat):List ByteArray:=Be (tx t) Z (kc t.size Z)
theorem Ur(t:ByteArray)(Z:Nat):(EL t Z).length=kc t.size Z:=Ip _ _ _
theorem lX(t:ByteArray)(Z:Nat):∀b,b<(EL t Z).length->((EL t Z).getD b ByteArray.empty).size=Z:=fun b a=>by
 rw[Ur]at a;unfold EL;rw[Rk _ _ _ _ a,Dz,NA]
theorem iL(t:ByteArray)(Z:Nat)(h:1<=Z):st ((joinL (EL t Z)).take t.size)=t:=by
 have b:=J8 t.size Z h;have a:=Jy t.size Z
 have c:=kF (Bk t) Z (kc t.size Z) a (by rw[AQ];exact b) (by
  rw[AQ];by_cases e:kc t.size Z=1
  ·exact .inl e
  ·exact .inr ((Kk t.size Z (kc t.size Z-1) h (by omega)).1 (by omega)))
 rw[AQ]at c;unfold EL;rw[c,GU]
structure Ic(t:ByteArray)(Z:Nat)(p:PKV):Prop where
 ok:DF p=true
 l:p.l=(t.size:Int)
 k:p.k=(kc t.size Z:Int)
 z:p.z=(Z:Int)
 h:DO (EL t Z) p.r.xs p.r.s=true
structure Fc(t:ByteArray)(Z:Nat)(s:DS):Prop where
 same:s.bg=true->s.l=(t.size:Int)/\s.k=(kc t.size Z:Int)/\s.z=(Z:Int)
 hold:∀x∈s.L,DO (EL t Z) x.1 x.2=true/\Ac x.1/\x.2.size<=1000/\x.1.length<=10
 told:s.dn=true->s.ob=t
theorem Fc.zero(t:ByteArray)(Z:Nat):Fc t Z zDS:=⟨(fun e=>by cases e),(fun x a=>by cases a),fun e=>by cases e⟩
theorem Fc.beg{p:PKV}(h:Fc t Z s)(hp:Ic t Z p):Fc t Z (CB s p):=by
 unfold CB;split
 ·exact h
 ·exact⟨fun _=>⟨hp.l,hp.k,hp.z⟩,(fun x a=>by cases a),fun e=>by cases e⟩
theorem Fc.keep{M:Int}{x:List Nat×ByteArray}(h:Fc t Z s)(H:BO s)(R:1<=Z)(P:BW s.k s.z x=true)(Q:DO (EL t Z) x.1 x.2=true/\Ac x.1/\x.2.size<=1000/\x.1.length<=10)(O:AP M s x ob):Fc t Z (DT M s x ob):=by
 have b:∀y∈s.L++[x],DO (EL t Z) y.1 y.2=true/\Ac y.1/\y.2.size<=1000/\y.1.length<=10:=fun y a=>by
  rcases List.mem_append.1 a with a|a
  ·exact h.hold y a
  ·rw[List.mem_singleton.1 a];exact Q
 have l:∀y∈s.L++[x],BW s.k s.z y=true:=fun y a=>by
  rcases List.mem_append.1 a with a|a
  ·exact H.fit y a
  ·rw[List.mem_singleton.1 a];exact P
 cases j:s.dn
 ·by_cases p:s.L.length<capN M
  ·by_cases A:(CJ (s.L++[x]):Int)=s.k
   ·have I:=O (Je (ob:=ob) j p A).2.2
    obtain⟨J,K,N⟩:=h.same H.bg;rw[(Je j p A).1];refine⟨h.same,b,fun _=>?_⟩;show ob=t;have c:s.k=((EL t Z).length:Int):=by rw[Ur];exact K
    rw[c,J]at I;have r:(s.L++[x]).length<=300:=by
     rw[List.length_append,List.length_singleton];have:=Jq M;exact Nat.le_trans (Nat.succ_le_of_lt p) (Nat.le_trans this (by decide))
    have i:∀y∈s.L++[x],AR ((EL t Z).length:Int) y.1=true/\y.2.size=Z:=fun y a=>by
     have:=l y a;unfold BW at this;rw[Bool.and_eq_true,Bool.and_eq_true]at this;have G:=decide_eq_true_iff.1 this.2;rw[N]at G;exact⟨by rw[<-c];exact this.1.1,Int.ofNat.inj G⟩
    have C:CJ (s.L++[x])=(EL t Z).length:=by
     rw[c]at A;exact Int.ofNat.inj A
    have D:0<sizeOfK ((EL t Z).length:Int):=(FV (i x (List.mem_append.2 (.inr List.mem_cons_self))).1).1;have:=pL (m:=Z) I D (fun y a=>(b y a).2) r (fun y a=>(i y a).1) (fun y a=>(b y a).1) (fun y a=>(i y a).2) (lX t Z) C;rw[Int.toNat_natCast,iL t Z R]at this;exact this
   ·rw[(Km j p A).1]
    exact⟨h.same,b,fun e=>by have E:s.dn=true:=e;rw[j]at E;cases E⟩
  ·rw[(J1 j p).1]
   exact⟨h.same,h.hold,h.told⟩
 ·rw[(Kl j).1];exact h
theorem Fc.put{M:Int}{p:PKV}(h:Fc t Z s)(c:s.bg=true->BO s)(i:1<=Z)(hp:Ic t Z p)(e:Ac p.r.xs/\p.r.s.size<=1000/\p.r.xs.length<=10)(b:Dr s p=true->AP M (CB s p) (p.r.xs,p.r.s) ob):Fc t Z (F5 M s p ob):=by
 cases a:Dr s p
 ·rw[(VO a).1];exact h
 ·rw[(UC a).1]
  exact(h.beg hp).keep (BO.beg c hp.ok) i (O3 a).2.1 ⟨hp.h,e⟩ (b a)
theorem BP.len{s:ByteArray}{l k z h:Int}(a:BP s o l k z h xs t en):xs.length<=2:=by
 rcases a.err with⟨_,_,c,b⟩|⟨_,e⟩
 ·rw[b.2.2.2.2.2.1]
  exact ID c.2.1
 ·rw[e.2.2.2.2.2.1]
  exact Nat.zero_le _
theorem Ay.len{s:ByteArray}{kd l k z h:Int}(a:Ay s kd fr ic o l k z h xs t en):xs.length<=2:=by
 by_cases b:en=0
 ·subst b
  rcases(TZ a).1.2.2 with⟨_,_⟩|⟨_,j⟩
  ·by_cases c:openE s=0
   ·obtain⟨e,i,a3,a4⟩:=a.2 c
    by_cases c2:(openT s).size<6
    ·rw[(e c2).2.2.2.2.2.2.2.1];exact Nat.zero_le _
    ·by_cases c3:DV (openT s)
     ·rw[(i c2 c3).2.2.2.2.2.2.2.1];exact Nat.zero_le _
     ·by_cases c4:hdK (openT s)=1
      ·rw[(a3 c2 c3 c4).2.2.2.2.2.2.2.1];exact Nat.zero_le _
      ·exact(a4 c2 c3 c4).1.len
   ·rw[(a.1 c).2.2.2.2.2.2.2.1];exact Nat.zero_le _
  ·exact ID j.2.1
 ·rw[(a.none b).2.2.2.2.2.2.1]
  exact Nat.zero_le _
theorem iy{kd l k z h:Int}(b:Ay ⟨#[]⟩ kd fr ic o l k z h xs t en):en=2:=by
 have a:=(Nq (s:=⟨#[]⟩) (by decide)).1;exact((b.1 (by rw[a];decide)).1).trans a
def Ck(fr ic:Int)(d:PD):ByteArray:=E1 2 fr ic d.o d.l d.k d.z d.h d.xs d.s
theorem mp(Y:Ac d.xs)(hf:0<=fr/\fr<=7)(hi:0<=ic/\ic<=4294967295)(r:BN d=true){c a b L J H P C:Int}{O:List Nat}{t:ByteArray}{en:Nat}
  (X:Ay (Ck fr ic d) c a b L J H P C O t en):en=0/\(c=2/\a=fr/\b=ic)/\(L=d.o/\J=d.l/\H=d.k/\P=d.z/\C=d.h)/\O=d.xs/\t=d.s:=by
 obtain⟨F,D⟩:∃F:Nat,fr=(F:Int):=⟨fr.toNat,by omega⟩;obtain⟨I,E⟩:∃I:Nat,ic=(I:Int):=⟨ic.toNat,by omega⟩;have G:=St (st (C7 2 fr ic (tx (Dl 2 d.o d.l d.k d.z d.h d.xs d.s))));have j:=X.2 G.1;unfold Ck E1 at j;rw[G.2]at j;obtain⟨hs,A,V,W,e⟩:=Py (kd:=2) (Bk (Dl 2 d.o d.l d.k d.z d.h d.xs d.s)) (K:=2) rfl D E (by decide) (by omega) (by omega);have m:Dl 2 d.o d.l d.k d.z d.h d.xs d.s=st (BF d.o d.l d.k d.z d.h d.xs (tx d.s)):=Kt _ _ _ _ _ _ _;rw[GU]at e;generalize st (C7 2 fr ic (tx (Dl 2 d.o d.l d.k d.z d.h d.xs d.s)))=T at*;rw[m]at e;have p:¬DV T:=by
  rintro(i|i|i)
  ·omega
  ·exact i.2 A
  ·omega
 obtain⟨N,x2,x3⟩:=j.2.2.2 (by omega) p (by omega);rw[e]at N;obtain⟨Q,R,S⟩:=VZ (t:=d.s) Y (Fl.1 r);obtain⟨u1,u2,u3,u4⟩:=N.uniq (.inr (.inr ⟨Q,R,rfl,S⟩));obtain⟨y2,y3,y4⟩:=x3 u4;exact⟨u4,⟨by rw[y2,A];rfl,by rw[y3,V,D],by rw[y4,W,E]⟩,u1,u2,u3⟩
theorem We{L:List Nat}(A:Ex n L f)(m:DW n L=some d):f.enc=Ck n.id n.inc d:=by
 obtain⟨a,b,c,e⟩:=A;rw[m]at c e;have i:f.kd=2:=c;have j:f.p.pd=d:=e;subst j;show E1 f.kd f.fr f.ic f.p.o f.p.l f.p.k f.p.z f.p.h f.p.r.xs f.p.r.s=E1 2 n.id n.inc f.p.o f.p.l f.p.k f.p.z f.p.h f.p.r.xs f.p.r.s;rw[a,b,i]
theorem jt{L:List Nat}(j:Ex n L f)(i:DW n L=none):f.enc.size=10:=by
 obtain⟨a,b,c,e⟩:=j;rw[i]at c;have h:f.kd=1:=c;unfold Bm.enc E1;rw[h,Ks,J3,Dz,NW];rfl
theorem L2(T:Ac d.xs)(R:0<=fr/\fr<=7)(S:0<=ic/\ic<=4294967295)(e:BN d=true)(h:Fq n (Ck fr ic d) now en n'):en=0/\∃(q:PKV) (N:Nat) (rl:Option Gd) (dc:Option EQ),q.pd=d/\
  n'=n.setS ⟨n.s.lv,n.s.ls,n.s.gm,Em n.s.Z fr ic now,n.s.gc,n.s.gcm,N,Fr (capN n.p.cache) n.s.P d,rl,dc⟩/\KZ (capN n.p.buffer) (C6 n.s.P d) n.s.rl rl d/\JE n.p.buffer (C6 n.s.P d) n.s.dc dc q:=by
 obtain⟨kd,f,i,q,Q,j⟩:=h;obtain⟨C,⟨b,E,G⟩,⟨H,I,J,K,L⟩,O,c⟩:=mp T R S e Q;have a:q.pd=d:=by
  show(⟨q.o,q.l,q.k,q.z,q.h,q.r.xs,q.r.s⟩:PD)=d;rw[H,I,J,K,L,O,c]
 rcases j with⟨j,_⟩|⟨_,N,rl,dc,D,m,A⟩
 ·exact absurd C j
 ·refine⟨C,q,N,rl,dc,a,?_,?_,?_⟩
  ·rw[D,b,E,G,a,if_pos rfl]
  ·rw[b,a,decide_eq_true rfl,Bool.true_and]at m
   exact m
  ·rw[b,a,decide_eq_true rfl,Bool.true_and]at A
   exact A
def Dd:PD:=⟨0,2,2,1,0,[1],⟨#[97]⟩⟩
def CN:PD:=⟨0,2,2,1,0,[2],⟨#[98]⟩⟩
def IS:DS:=⟨true,0,2,2,1,[([1],⟨#[97]⟩)],false,false,⟨#[]⟩⟩
def qD(ob:ByteArray):DS:=⟨true,0,2,2,1,[([1],⟨#[97]⟩),([2],⟨#[98]⟩)],false,true,ob⟩
theorem Yf(h:q.pd=Dd)(ob:ByteArray):F5 4 zDS q ob=IS:=by
 obtain⟨o,l,k,z,b,a,n,c,xs,s⟩:=q;simp only[PKV.pd,Dd,PD.mk.injEq]at h;obtain⟨rfl,rfl,rfl,rfl,rfl,rfl,rfl⟩:=h
 kernel_rfl
theorem Ws(h:q.pd=CN)(ob:ByteArray):F5 4 IS q ob=qD ob:=by
 obtain⟨o,l,k,z,b,a,n,c,xs,s⟩:=q;simp only[PKV.pd,CN,PD.mk.injEq]at h;obtain⟨rfl,rfl,rfl,rfl,rfl,rfl,rfl⟩:=h
 kernel_rfl
theorem Zb(h:q.pd=CN):Ic ⟨#[97,98]⟩ 1 q:=by
 obtain⟨o,l,k,z,b,a,n,c,xs,s⟩:=q;simp only[PKV.pd,CN,PD.mk.injEq]at h;obtain⟨rfl,rfl,rfl,rfl,rfl,rfl,rfl⟩:=h;exact⟨by kernel_rfl,rfl,by kernel_rfl,rfl,by kernel_rfl⟩
theorem IU:Fc ⟨#[97,98]⟩ 1 IS:=by
 refine⟨fun _=>⟨rfl,by kernel_rfl,rfl⟩,fun x a=>?_,fun e=>by cases e⟩;have e:x=([1],⟨#[97]⟩):=List.mem_singleton.1 a;subst e;exact⟨by kernel_rfl,fun y b=>by cases List.mem_singleton.1 b;exact(by decide:(1:Nat)<18446744073709551616),by decide,by decide⟩
theorem Yt:BO IS:=by
 refine⟨rfl,⟨⟨⟨by decide,by decide⟩,by decide,by decide⟩,by decide,by decide⟩,fun x a=>?_,⟨(fun e=>by cases e),fun e=>?_⟩,fun _=>rfl,by decide⟩
 ·have e:x=([1],⟨#[97]⟩):=List.mem_singleton.1 a
  rw[e];exact(show BW 2 1 ([1],⟨#[97]⟩)=true by kernel_rfl)
 ·have:(CJ IS.L:Int)=1:=by kernel_rfl
  rw[this]at e;exact absurd e (by decide)
theorem pw(h:q.pd=CN)(e:Dr IS q=true->AP 4 (CB IS q) (q.r.xs,q.r.s) ob):ob=⟨#[97,98]⟩:=by
 have a:q.r.xs=[2]/\q.r.s=⟨#[98]⟩:=by
  have b:q.pd.xs=[2]:=by rw[h];rfl
  have c:q.pd.s=⟨#[98]⟩:=by rw[h];rfl
  exact⟨b,c⟩
 have:=IU.put (fun _=>Yt) (by decide) (Zb h) ⟨by rw[a.1];exact fun y i=>by cases List.mem_singleton.1 i;exact(by decide:(2:Nat)<18446744073709551616),by rw[a.2];decide,by rw[a.1];decide⟩ e;rw[Ws h]at this;exact this.told rfl
theorem TA{ls:List AF}:∀{k:Nat},(∀i,i<k->(ls.getD i .dflt).L=[])->EG ls k=0
 |0,_=>rfl
 |k+1,h=>by
  show EG ls k+(ls.getD k .dflt).L.length=0;rw[TA fun i a=>h i (by omega),h k (by omega)];rfl
theorem XJ(h:Ig n.p n.s)(C:n.p.kd≠2)(ht:(GX (Da n.p.timeout) (List.replicate 16 0) 4).length=0):Ih n 4=[.int .i64 (n.inc:Int),.int .i64 0,.int .i64 0,.int .i64 0,.int .i64 0,.bool false,.string ⟨#[]⟩]:=by
 obtain⟨⟨m,r,H,I⟩,z⟩:=h;have D:EG n.s.ls n.s.ls.length=0:=TA fun i A=>(m i A).2.1;have j:kR n.s=0/\kD n.s=0/\rD n.s=0/\F6 n.s=false/\F7 n.s=⟨#[]⟩:=by
  unfold kR kD rD F6 F7;rcases z with⟨a,_⟩|⟨a,b,d,c,e,_⟩|⟨a,b,c,d⟩
  ·exact absurd a C
  ·obtain⟨g',G,l,v',E⟩:=d
   have k:G=zDS:=e;subst k;rw[b,c];exact⟨rfl,rfl,by kernel_rfl,rfl,rfl⟩
  ·rw[c,d]
   exact⟨rfl,rfl,rfl,rfl,rfl⟩
 unfold Ih;rw[D,j.1,j.2.1,j.2.2.1,j.2.2.2.1,j.2.2.2.2,r,ht];rfl
theorem Yh(G:Ig n.p n.s)(D:n.s.ls.length=1)(z:n.p.queue=4)(h i:ByteArray):
  flyTo ((n.each (AX n.p.queue h)).each (AX n.p.queue i)) 1=[⟨(n.id:Int),n.p.tos.getD 0 0,h⟩,⟨(n.id:Int),n.p.tos.getD 0 0,i⟩]:=by
 obtain⟨⟨E,_⟩,_⟩:=G;obtain⟨l,e⟩:∃l,n.s.ls=[l]:=List.length_eq_one_iff.1 D;obtain⟨a,b,c⟩:=E 0 (by omega);rw[e]at a b c;have r:l.lv=1000*Bq n.p.queue 1 256:=a;have C:l.L=[]:=b;rw[z]at r;have A:l.lv=4000:=r.trans (by decide);have k:Cv (AX 4 h) l=l.now 4000 [h] l.lo:=by
  unfold Cv AX;rw[C,A];rfl
 have m:Cv (AX 4 i) (l.now 4000 [h] l.lo)=l.now 4000 [h,i] l.lo:=rfl;have j:((n.each (AX n.p.queue h)).each (AX n.p.queue i)).s.ls=[l.now 4000 [h,i] l.lo]:=by
  show(n.s.ls.map (Cv (AX n.p.queue h))).map (Cv (AX n.p.queue i))=_;rw[e,z,List.map_cons,List.map_nil,List.map_cons,List.map_nil,k,m]
 show []++Du _ 0 (Es _ 0)=_;unfold Du Es;rw[j];rfl
theorem Yg(D:∀i,i<n.s.ls.length->(n.s.ls.getD i .dflt).lv=1000*Bq n.p.queue 1 256/\(n.s.ls.getD i .dflt).L=[]/\(n.s.ls.getD i .dflt).lo=0)(C:n.s.ls.length=1)(r:n.p.queue=4)(h:ByteArray):
  flyTo (n.each (AX n.p.queue h)) 1=[⟨(n.id:Int),n.p.tos.getD 0 0,h⟩]:=by
 obtain⟨l,e⟩:∃l,n.s.ls=[l]:=List.length_eq_one_iff.1 C;obtain⟨a,b,c⟩:=D 0 (by omega);rw[e]at a b c;have m:l.lv=1000*Bq n.p.queue 1 256:=a;have A:l.L=[]:=b;rw[r]at m;have z:l.lv=4000:=m.trans (by decide);have k:Cv (AX 4 h) l=l.now 4000 [h] l.lo:=by
  unfold Cv AX;rw[A,z];rfl
 have j:(n.each (AX n.p.queue h)).s.ls=[l.now 4000 [h] l.lo]:=by
  show n.s.ls.map (Cv (AX n.p.queue h))=_;rw[e,r,List.map_cons,List.map_nil,k]
 show []++Du _ 0 (Es _ 0)=_;unfold Du Es;rw[j];rfl
theorem XF{s:A0}{d:EQ}(h:s.dc=some d):rD s=CJ d.s.L:=by unfold rD;rw[h]
theorem nY{s:A0}{d:EQ}(h:s.dc=some d):F6 s=d.s.dn:=by unfold F6;rw[h]
theorem pK{s:A0}{d:EQ}(h:s.dc=some d):F7 s=d.s.ob:=by unfold F7;rw[h]
theorem UR{a:Nat}{Q i:AD}{l m:Nat}(h:CF (Dn a x y) 1 n)(W:Fq n (Ck 0 0 Dd) 3 l Q)(X:Fq Q (Ck 0 0 CN) 3 m i):
  (l=0/\m=0)/\i.id=1/\i.inc=0/\i.p=n.p/\i.src=n.src/\i.s.ls=n.s.ls/\i.t=n.t+2/\i.s.rl=none/\(GX (Da i.p.timeout) i.s.Z 4).length=1/\rD i.s=2/\F6 i.s=true/\F7 i.s=⟨#[97,98]⟩:=by
 obtain⟨⟨c1,c2,c3,c4⟩,J⟩:=h.new;have Y:n.p.kd=3:=h.kd.trans rfl;have j:capN n.p.cache=4:=by rw[h.cache];exact(by decide:capN 4=4)
 have k:n.p.buffer=4:=h.buffer;obtain⟨I,d,H,hz⟩:n.s.rl=none/\∃d,n.s.dc=some d/\d.s=zDS:=by
  rcases J with⟨u,_⟩|⟨_,b,d,c,e,_⟩|⟨_,u,_⟩
  ·omega
  ·exact⟨b,d,c,e⟩
  ·exact absurd Y u
 obtain⟨z1,q1,N1,r1,o1,p1,E,f1,D⟩:=L2 (d:=Dd) (fun y K=>by cases List.mem_singleton.1 K;exact(by decide:(1:Nat)<18446744073709551616)) (by decide) (by decide) (by kernel_rfl) W;rw[c4]at D f1 E;have G:C6 [] Dd=true:=by kernel_rfl
 rw[G]at D f1;rw[k,H]at D;obtain⟨T,i1,_,_,j1⟩:=D.2 d rfl;obtain⟨aa,P,_⟩:=j1 rfl;rw[hz,Yf p1]at P;have N:r1=none:=f1.1 I;rw[j]at E;subst E;obtain⟨z2,q2,N2,r2,o2,R,V,f2,g2⟩:=L2 (d:=CN) (fun y K=>by cases List.mem_singleton.1 K;exact(by decide:(2:Nat)<18446744073709551616)) (by decide) (by decide) (by kernel_rfl) X;have z:C6 (Fr 4 [] Dd) CN=true:=by kernel_rfl
 have A:JE n.p.buffer (C6 (Fr 4 [] Dd) CN) o1 o2 q2:=g2;have r:KZ (capN n.p.buffer) (C6 (Fr 4 [] Dd) CN) r1 r2 CN:=f2;rw[z,k,i1]at A;rw[z]at r;obtain⟨d2,L,_,_,j2⟩:=A.2 T rfl;obtain⟨ab,C,S⟩:=j2 rfl;rw[P]at C S;rw[Ws R,pw R S]at C;have O:r2=none:=r.1 N;subst V;refine⟨⟨z1,z2⟩,h.id,h.inc,rfl,rfl,rfl,rfl,O,?_,?_,?_,?_⟩
 ·show(GX (Da n.p.timeout) (Em (Em n.s.Z 0 0 3) 0 0 3) 4).length=1
  rw[c2,h.timeout]
  kernel_rfl
 ·exact(XF L).trans (by rw[C];kernel_rfl)
 ·exact(nY L).trans (by rw[C];rfl)
 ·exact(pK L).trans (by rw[C];rfl)
theorem Sa{T:TypeId}{b n:Nat}{cs:List Value}(h:w.ownsRow B T b v n cs){j:Nat}(a:v.ownBlock=some j):j<w.heap.size:=(Iu h a).2
theorem Aj.lt(h:Aj w g B n):∀j,BM g n j->j<w.heap.size:=fun j a=>by
 rcases a with rfl|a|⟨r,b,rfl|a⟩|a
 ·exact h.blk.lt
 ·exact Sa h.tos a
 ·exact(h.src r b).blk.lt
 ·exact Sa (h.src r b).own a
 ·exact h.st.lt j a
theorem XS:∀j,BM g (n.each u) j->BM g n j:=fun j a=>by
 rcases a with a|a|a|a
 ·exact .inl a
 ·exact .inr (.inl a)
 ·exact .inr (.inr (.inl a))
 ·refine .inr (.inr (.inr ?_))
  rcases a with a|⟨i,c,a⟩|a
  ·exact .inl a
  ·have b:i<(n.s.ls.map (Cv u)).length:=c
   rw[List.length_map]at b;refine .inr (.inl ⟨i,b,?_⟩);have e:((n.s.ls.map (Cv u)).getD i .dflt).F j:=a;rw[<-J9 u (Nat.le_refl n.s.ls.length),LI u _ _ _ b,if_pos b]at e;exact e
  ·exact .inr (.inr a)
theorem mc{i:Nat}(a:i<n.s.ls.length):(n.each u).s.ls.getD i .dflt=Cv u (n.s.ls.getD i .dflt):=by
 show(n.s.ls.map (Cv u)).getD i .dflt=_;rw[<-J9 u (Nat.le_refl n.s.ls.length),LI u _ _ _ a,if_pos a]
theorem LU:(n.each u).s.ls.length=n.s.ls.length:=by
 show(n.s.ls.map (Cv u)).length=_;rw[List.length_map]
theorem Aj.lows(h:Aj w g B n)(a:Below w0.heap.size w0 w)(c:w0.heap.size<=B)(ht:Tu (BM g n) w w'):Below w0.heap.size w0 w':=
 a.trans (ht.below a.size fun j e b=>by have:=h.low j b;omega)
structure CG(w0 w:World)(g B:Nat)(n:AD)(g' B':Nat)(n':AD):Prop where
 a:Aj w g B n
 b:Aj w g' B' n'
 low:Below w0.heap.size w0 w
 ord:w0.heap.size<=B/\B<=B'
 apart:∀j,BM g n j->j<B'
theorem CG.below(h:CG w0 w g B n g' B' n')(c:Below w.heap.size w w'):CG w0 w' g B n g' B' n':=⟨h.a.below c,h.b.below c,Ad h.low c,h.ord,h.apart⟩
theorem CG.fst(h:CG w0 w g B n g' B' n')(i:Aj w' g B (n.each u))(ht:Tu (BM g n) w w'):CG w0 w' g B (n.each u) g' B' n':=
 ⟨i,h.b.tu ht (fun j c e=>by have:=h.b.low j c;have:=h.apart j e;omega) fun j k e=>(h.a.nk j e).2 k,h.a.lows h.low h.ord.1 ht,h.ord,fun j c=>h.apart j (XS j c)⟩
theorem CG.tabs(h:CG w0 w g B n g' B' n')(ht:Bs w0)(wx:World)(a:Below B w wx):Bs wx:=ht.below (h.low.trans (a.mono h.ord.1))
structure Eg(w0 w:World)(g B:Nat)(n:AD)(v:Value)(fs:List Cb):Prop where
 b:Aj w g B n
 low:Below w0.heap.size w0 w
 ord:w0.heap.size<=B
 fly:AW w w0.heap.size v fs
theorem Eg.below(h:Eg w0 w g B n v fs)(a:Below w.heap.size w w'):Eg w0 w' g B n v fs:=⟨h.b.below a,Ad h.low a,h.ord,h.fly.below a⟩
theorem Eg.tu(h:Eg w0 w g B n v fs)(a:Aj w' g B n')(ht:Tu (BM g n) w w'):Eg w0 w' g B n' v fs:=
 ⟨a,h.b.lows h.low h.ord ht,h.ord,Dy h.fly ht fun j c e=>(h.b.nk j e).1 (Cj h.fly c)⟩
theorem Eg.tabs(h:Eg w0 w g B n v fs)(ht:Bs w0)(wx:World)(a:Below B w wx):Bs wx:=ht.below (h.low.trans (a.mono h.ord))
theorem Wn(w:World)(x y:Nat)(b:x<18446744073709551616)(c:y<18446744073709551616):RowAt (w.alloc (.cells #[.int .u64 (x:Int),.int .u64 (y:Int)] 69)) (some ⟨w.heap.size,0,none⟩) 2 [x,y]:=by
 have h:=AV 69 w [.int .u64 (x:Int),.int .u64 (y:Int)];refine⟨rfl,fun z a=>?_,.inr ⟨_,0,rfl,fun i e=>?_⟩⟩
 ·simp only[List.mem_cons,List.not_mem_nil,or_false]at a
  rcases a with rfl|rfl
  ·exact b
  ·exact c
 ·obtain rfl|rfl:i=0\/i=1:=by omega
  ·exact h.at 0 rfl
  ·exact h.at 1 rfl
theorem L0{a:Nat}{i:Nat}(e:i<2)(c:CF (Dn a x y) i n)(h:Aj w g B n):n.s.ls.length=1:=by
 have b:=h.num.2.1;rw[c.tos]at b;obtain rfl|rfl:i=0\/i=1:=by omega
 ·exact b
 ·exact b
theorem Lk{a:Nat}(h:CF (Dn a x y) 0 n):∀r,n.src=some r->Bo n.id r:=fun r b=>by
 obtain⟨g,v,e⟩:=Vn h;rw[e]at b;cases b;rw[h.id];exact Yb g v
theorem Su{a:Nat}(i:CF (Dn a x y) 1 n)(h:Aj w g B n):n.p.kd=3/\n.src=none/\n.s.rl=none:=by
 have e:n.p.kd=3:=i.kd.trans rfl;rcases h.kd with⟨k,_⟩|⟨k,_⟩|⟨_,b,c,_⟩
 ·omega
 ·omega
 ·exact⟨e,b,c⟩
theorem oF{a:Nat}{f1 f2:Bm}(b:CF (Dn a x y) 0 n)(h:Aj w g B n)(j:Ex n [0,0] f1)(k:Ex (n.each (AX n.p.queue f1.enc)) [0,1] f2):
  flyTo ((n.each (AX n.p.queue f1.enc)).each (AX n.p.queue f2.enc)) 1=[⟨0,1,Ck 0 0 Dd⟩,⟨0,1,Ck 0 0 CN⟩]/\(Ck 0 0 Dd).size<=1048576/\(Ck 0 0 CN).size<=1048576:=by
 have e:=We j (V6 b).1;have i:f2.enc=Ck n.id n.inc CN:=We (n:=n.each (AX n.p.queue f1.enc)) k (V6 b).2;rw[b.id,b.inc]at e i;have l:=Yh b.new (L0 (by decide) b h) (b.queue.trans rfl) f1.enc f2.enc;rw[l,b.id,b.tos,e,i];have c:n.id<=7:=by rw[b.id];decide
 have s1:=Bm.enc_size (Ex.ok h c (Lk b) j).1;rw[e]at s1;have m:f2.ok:=by
  refine(Ex.ok (f:=f2) (L:=[0,1]) h c (Lk b) ?_).1;exact k
 have s2:=Bm.enc_size m;rw[i]at s2;exact⟨rfl,s1,s2⟩
structure MG(w0 wr:World)(g B k:Nat)(n0:AD)(v:Value)(n':AD):Prop where
 nd:Eg w0 wr g B n' v [⟨0,1,Ck 0 0 Dd⟩,⟨0,1,Ck 0 0 CN⟩]
 tm:n'.t<=n0.t+k
 zero:k=0->n'=n0
 one:k=1->∃en,Fq n0 (Ck 0 0 Dd) 3 en n'
 two:k=2->∃n1 en en',Fq n0 (Ck 0 0 Dd) 3 en n1/\Fq n1 (Ck 0 0 CN) 3 en' n'
theorem PZ{s:ByteArray}(h:Fq n s now en n'):n'.t<=n.t+1:=by
 obtain⟨kd,fr,ic,q,b,⟨_,a⟩|⟨_,N,rl,dc,a,_⟩⟩:=h
 ·subst a;exact Nat.le_refl _
 ·subst a;exact Nat.le_refl _
theorem XI(b:d=Dd\/d=CN)(h:Fq n (Ck 0 0 d) now en n'):en=0:=by
 rcases b with rfl|rfl
 ·exact(L2 (d:=Dd) (fun y a=>by cases List.mem_singleton.1 a;exact(by decide:(1:Nat)<18446744073709551616)) (by decide) (by decide) (by kernel_rfl) h).1
 ·exact(L2 (d:=CN) (fun y a=>by cases List.mem_singleton.1 a;exact(by decide:(2:Nat)<18446744073709551616)) (by decide) (by decide) (by kernel_rfl) h).1
theorem ph{wx:World}{a:Nat}{r D b:AD}{j:Nat}(c:CF (Dn a x y) 1 r)(h:Aj w g B r)(E:Fq r (Ck 0 0 Dd) 3 en D)(G:Fq D (Ck 0 0 CN) 3 j b)(H:Ex b [] f):
  (f.enc.size=10/\flyTo (b.each (AX b.p.queue f.enc)) 1=[⟨1,0,f.enc⟩])/\∃P Q:Nat,Ih ((b.each (AX b.p.queue f.enc)).each Cu) 4=[.int .i64 0,.int .i64 (P:Int),.int .i64 2,.int .i64 (Q:Int),.int .i64 1,.bool true,.string ⟨#[97,98]⟩]:=by
 obtain⟨_,J,K,m,L,A,W,C,N,O,k,l⟩:=UR c E G;obtain⟨s1,s2,X⟩:=Su c h;have I:b.s.ls.length=1:=by rw[A];exact L0 (by decide) c h
 refine⟨⟨jt H (V7 (L.trans s2) C []),?_⟩,?_⟩
 ·have e:=Yg (n:=b) (fun i z=>?_) I (by rw[m];exact c.queue.trans rfl) f.enc
  ·rw[e,J,m,c.tos]
   rfl
  ·rw[A]at z⊢
   rw[m];exact c.new.1.1 i z
 ·refine⟨kR ((b.each (AX b.p.queue f.enc)).each Cu).s+kD ((b.each (AX b.p.queue f.enc)).each Cu).s,EG ((b.each (AX b.p.queue f.enc)).each Cu).s.ls ((b.each (AX b.p.queue f.enc)).each Cu).s.ls.length,?_⟩
  have r1:kR ((b.each (AX b.p.queue f.enc)).each Cu).s=0:=by
   show kR b.s=0;unfold kR;rw[C]
  have r2:rD ((b.each (AX b.p.queue f.enc)).each Cu).s=2:=O;have R:F6 ((b.each (AX b.p.queue f.enc)).each Cu).s=true:=k;have S:F7 ((b.each (AX b.p.queue f.enc)).each Cu).s=⟨#[97,98]⟩:=l;have T:(GX (Da ((b.each (AX b.p.queue f.enc)).each Cu).p.timeout) ((b.each (AX b.p.queue f.enc)).each Cu).s.Z 4).length=1:=N;have V:((b.each (AX b.p.queue f.enc)).each Cu).inc=0:=K;unfold Ih;rw[r2,R,S,T,V];rw[show kR ((b.each (AX b.p.queue f.enc)).each Cu).s+2=2 by rw[r1]];rfl
end Go.Proofs.YtfpfcnfmigaphaaGreatDoor
