/- Laws for the proof. -/
import Derived.Test.YtfpmnekaockodaaGreatDoorU41
namespace Go.Proofs.YtfpmnekaockodaaGreatDoor
open Go.RowKit Go.Sort
set_option linter.all false
set_option maxRecDepth 4000
set_option maxHeartbeats 8000000
variable {ob t s:ByteArray}{fr ic:Int}{xs:List Nat}{u:AJ->Int×List ByteArray×Nat}{B Z en i q:Nat}{d:PD}{w w':World}
structure DL(w wr:World)(g B k:Nat)(n:Ao)(x:Int):Prop where
 nd:Al wr g B (n.withL (Bb (IH n.p.M n.p.queue x) k n.s.ls) (n.t+1))
 tu:Tu (Bg g n) w wr
theorem DL.step{wr w2:World}{g k:Nat}{n:Ao}{x:Int}(h:DL w wr g B k n x)(b:k<n.s.ls.length){l:AJ}(f:n.s.ls.getD k .dflt=l)(c:(Dp (IH n.p.M n.p.queue x) l).At w2 n.p.M n.p.queue)(ht:Tu l.F wr w2)(a:l.lo<=n.t):DL w w2 g B (k+1) n x:=by
 subst f;exact⟨h.nd.lstep b c ht (Nat.le_succ_of_le a),h.tu.trans ht fun j _ e=>No b j e⟩
theorem lR(l:AJ)(M q x:Int)(w:World)(h:l.At w M q):
  Calls Tryz.prog 76 #[.pointer (some ⟨l.g,0,none⟩),.int .i64 x] w fun e w'=>e=.returned (.tuple #[])/\(Dp (IH M q x) l).At w' M q/\Tu l.F w w':=
 ix l.g l.gb l.gq l.c l.lo M q l.lv x l.L w h
theorem jO(g B:Nat)(n:Ao)(x:Int)(w:World)(h:Al w g B n):
  Calls Tryz.prog 47 #[.pointer (some ⟨g,0,none⟩),.int .i64 x] w fun e w'=>e=.returned (.tuple #[])/\Al w' g B (n.each (IH n.p.M n.p.queue x))/\Tu (Bg g n) w w':=by
 obtain⟨P,Q,v⟩:=h.st.lks.len;have I:n.s.ls.length<=8:=by have:=h.num;omega
 have m:=h.blk.at 11 (show(EO n)[11]? =some n.s.lv from rfl);rw[v]at m;have H:=Ab h;have j:=Ab (show DL w w g B 0 n x from⟨h.lstart _ (Nat.le_succ _),Tu.of_below (Below.refl _ _)⟩);clear h;go_enter Tryz.func47,Tryz.ntmps47;go_wp2_with fail;clear m;go_loopw [14] (fun i wr=> ∃k:Nat,k<=n.s.ls.length/\i=.int .i64 k/\Hid (DL w wr g B k n x)) (fun i _=>n.s.ls.length-(intOf i).toNat)
 case atStart=>exact⟨0,Nat.zero_le _,rfl,j⟩
 case round=>
  obtain⟨k,R,rfl,f⟩:=hrel;clear j;rename_i wr;by_cases a:k<n.s.ls.length
  ·have K:(k:Int)<(n.s.ls.length:Int):=by omega
   obtain⟨b,c,E,O⟩:=(Aa f).nd.lptr a;rw[v]at E;simp only[Value.slice.injEq,true_and]at E;obtain⟨rfl,rfl⟩:=E;have C:=Ab (show(n.s.ls.getD k .dflt).lo<=n.t from(Aa H).tm.2 k a);have r:(n.s.ls.getD k .dflt).At wr n.p.M n.p.queue:=by
    have:=((Aa f).nd.st.each k (by show k<(Bb _ k n.s.ls).length;rw[Fq];exact a)).1;have e:AJ.At wr n.p.M n.p.queue ((Bb (IH n.p.M n.p.queue x) k n.s.ls).getD k .dflt):=this;rwa[JL _ a]at e
   have N:=Ab (lR _ n.p.M n.p.queue x wr r);clear r;generalize J:n.s.ls.getD k .dflt=l at*;have A:=Ab J;clear J
   go_wp2_with (first
    |(go_at_call 76;refine(Aa N).mono ?_;rintro e w2 ⟨rfl,o,y⟩;have z:=Ab o;have D:=Ab y;clear o y)
    |fail)
   go_round
   case rel=>exact⟨k+1,a,by go_num,Ab ((Aa f).step a (Aa A) (Aa z) (Aa D) (Aa C))⟩
   case measure=>simp[intOf];omega
  ·obtain rfl:k=n.s.ls.length:=by omega
   go_wp2;have L:=(Aa f).nd;rw[KH _ (Nat.le_refl _)]at L;go_end0;exact⟨rfl,L,(Aa f).tu⟩
theorem ZE{n:Ao}(a:n.src=none)(b:n.s.rl=none)(L:List Nat):C8 n L=none:=by
 unfold C8;rw[a,b]
theorem pc{ss:List ByteArray}{m:Nat}{l:Int}{L:List (List Nat×ByteArray)}(h:Cp (ss.length:Int) l L ob)(N:0<sizeOfK (ss.length:Int))(n:∀x∈L,Ac x.1/\x.2.size<=1000/\x.1.length<=10)(I:L.length<=300)(K:∀x∈L,AV (ss.length:Int) x.1=true)
  (D:∀x∈L,DN ss x.1 x.2=true) (H:∀x∈L,x.2.size=m) (o:∀b,b<ss.length->(ss.getD b ByteArray.empty).size=m) (E:CZ L=ss.length):ob=st ((joinL ss).take l.toNat):=by
 obtain⟨rs,kn,bs,g,C,J⟩:=h;have a:∀r∈rs,core r∈L:=fun r c=>by rw[<-g];exact List.mem_map.2 ⟨r,c,rfl⟩
 have f:Dm rs:=fun r c=>⟨(n _ (a r c)).1,(n _ (a r c)).2.1⟩;have z:∀r∈rs,r.xs.length<=10:=fun r c=>(n _ (a r c)).2.2;have p:rs.length<=300:=by
  have e:rs.length=L.length:=by rw[<-g,List.length_map]
  exact e▸I
 have k:AC 1048576 (vecsL rs):=by
  have:=L4 f z (fun _=>true);rwa[List.filter_eq_self.2 (fun _ _=>rfl)]at this
 have j:(rs.filter fun r=>AV (ss.length:Int) r.xs)=rs:=List.filter_eq_self.2 fun r c=>K _ (a r c);have v:rankN rs=ss.length:=by rw[LU,g];exact E
 have c:Hv (ss.length:Int) rs=ss.length:=by
  have A:Hv (ss.length:Int) rs=(Cj (vecsL rs)).length:=by unfold Hv;rw[j]
  rw[A,<-Me k,KO];exact v
 have y:=(oT C f z p N (fun r c=>D (core r) (a r c)) (fun r c=>H (core r) (a r c)) o).2;rw[if_pos c]at y;rw[J,y]
def EI(t:ByteArray)(Z:Nat):List ByteArray:=Bw (tx t) Z (kc t.size Z)
theorem Vy(t:ByteArray)(Z:Nat):(EI t Z).length=kc t.size Z:=IX _ _ _
theorem pL(t:ByteArray)(Z:Nat):∀b,b<(EI t Z).length->((EI t Z).getD b ByteArray.empty).size=Z:=fun b a=>by
 rw[Vy]at a;unfold EI;rw[Su _ _ _ _ a,Dw,Og]
theorem jV(t:ByteArray)(Z:Nat)(f:1<=Z):st ((joinL (EI t Z)).take t.size)=t:=by
 have b:=Kv t.size Z f;have a:=JY t.size Z
 have c:=mD (Ck t) Z (kc t.size Z) a (by rw[AU];exact b) (by
  rw[AU];by_cases e:kc t.size Z=1
  ·exact .inl e
  ·exact .inr ((KW t.size Z (kc t.size Z-1) f (by omega)).1 (by omega)))
 rw[AU]at c;unfold EI;rw[c,IG]
structure IN(t:ByteArray)(Z:Nat)(p:PKV):Prop where
 ok:DG p=true
 l:p.l=(t.size:Int)
 k:p.k=(kc t.size Z:Int)
 z:p.z=(Z:Int)
 h:DN (EI t Z) p.r.xs p.r.s=true
structure Fk(t:ByteArray)(Z:Nat)(s:DS):Prop where
 same:s.bg=true->s.l=(t.size:Int)/\s.k=(kc t.size Z:Int)/\s.z=(Z:Int)
 hold:∀x∈s.L,DN (EI t Z) x.1 x.2=true/\Ac x.1/\x.2.size<=1000/\x.1.length<=10
 told:s.dn=true->s.ob=t
theorem Fk.zero(t:ByteArray)(Z:Nat):Fk t Z C9:=⟨(fun e=>by cases e),(fun x a=>by cases a),fun e=>by cases e⟩
theorem Fk.beg{s:DS}{p:PKV}(h:Fk t Z s)(hp:IN t Z p):Fk t Z (Cy s p):=by
 unfold Cy;split
 ·exact h
 ·exact⟨fun _=>⟨hp.l,hp.k,hp.z⟩,(fun x a=>by cases a),fun e=>by cases e⟩
theorem Fk.keep{M:Int}{s:DS}{x:List Nat×ByteArray}(h:Fk t Z s)(C:BZ s)(O:1<=Z)(K:Cb s.k s.z x=true)(N:DN (EI t Z) x.1 x.2=true/\Ac x.1/\x.2.size<=1000/\x.1.length<=10)(J:AT M s x ob):Fk t Z (DT M s x ob):=by
 have b:∀y∈s.L++[x],DN (EI t Z) y.1 y.2=true/\Ac y.1/\y.2.size<=1000/\y.1.length<=10:=fun y a=>by
  rcases List.mem_append.1 a with a|a
  ·exact h.hold y a
  ·rw[List.mem_singleton.1 a];exact N
 have j:∀y∈s.L++[x],Cb s.k s.z y=true:=fun y a=>by
  rcases List.mem_append.1 a with a|a
  ·exact C.fit y a
  ·rw[List.mem_singleton.1 a];exact K
 cases g:s.dn
 ·by_cases l:s.L.length<capN M
  ·by_cases o:(CZ (s.L++[x]):Int)=s.k
   ·have D:=J (JF (ob:=ob) g l o).2.2
    obtain⟨E,H,I⟩:=h.same C.bg;rw[(JF g l o).1];refine⟨h.same,b,fun _=>?_⟩;show ob=t;have c:s.k=((EI t Z).length:Int):=by rw[Vy];exact H
    rw[c,E]at D;have n:(s.L++[x]).length<=300:=by
     rw[List.length_append,List.length_singleton];have:=JQ M;exact Nat.le_trans (Nat.succ_le_of_lt l) (Nat.le_trans this (by decide))
    have f:∀y∈s.L++[x],AV ((EI t Z).length:Int) y.1=true/\y.2.size=Z:=fun y a=>by
     have:=j y a;unfold Cb at this;rw[Bool.and_eq_true,Bool.and_eq_true]at this;have A:=decide_eq_true_iff.1 this.2;rw[I]at A;exact⟨by rw[<-c];exact this.1.1,Int.ofNat.inj A⟩
    have p:CZ (s.L++[x])=(EI t Z).length:=by
     rw[c]at o;exact Int.ofNat.inj o
    have r:0<sizeOfK ((EI t Z).length:Int):=(Gg (f x (List.mem_append.2 (.inr List.mem_cons_self))).1).1;have:=pc (m:=Z) D r (fun y a=>(b y a).2) n (fun y a=>(f y a).1) (fun y a=>(b y a).1) (fun y a=>(f y a).2) (pL t Z) p;rw[Int.toNat_natCast,jV t Z O]at this;exact this
   ·rw[(KY g l o).1]
    exact⟨h.same,b,fun e=>by have v:s.dn=true:=e;rw[g]at v;cases v⟩
  ·rw[(KC g l).1]
   exact⟨h.same,h.hold,h.told⟩
 ·rw[(KX g).1];exact h
theorem Fk.put{M:Int}{s:DS}{p:PKV}(h:Fk t Z s)(c:s.bg=true->BZ s)(f:1<=Z)(hp:IN t Z p)(e:Ac p.r.xs/\p.r.s.size<=1000/\p.r.xs.length<=10)(b:Dn s p=true->AT M (Cy s p) (p.r.xs,p.r.s) ob):Fk t Z (FX M s p ob):=by
 cases a:Dn s p
 ·rw[(WM a).1];exact h
 ·rw[(VH a).1]
  exact(h.beg hp).keep (BZ.beg c hp.ok) f (PG a).2.1 ⟨hp.h,e⟩ (b a)
theorem Cg.len{o l k z h:Int}(a:Cg s o l k z h xs t en):xs.length<=2:=by
 rcases a.err with⟨_,_,c,b⟩|⟨_,e⟩
 ·rw[b.2.2.2.2.2.1]
  exact JH c.2.1
 ·rw[e.2.2.2.2.2.1]
  exact Nat.zero_le _
theorem AQ.len{kd o l k z h:Int}(a:AQ s kd fr ic o l k z h xs t en):xs.length<=2:=by
 by_cases b:en=0
 ·subst b
  rcases(VL a).1.2.2 with⟨_,_⟩|⟨_,g⟩
  ·by_cases c:openE s=0
   ·obtain⟨e,f,a3,a4⟩:=a.2 c
    by_cases c2:(openT s).size<6
    ·rw[(e c2).2.2.2.2.2.2.2.1];exact Nat.zero_le _
    ·by_cases c3:F3 (openT s)
     ·rw[(f c2 c3).2.2.2.2.2.2.2.1];exact Nat.zero_le _
     ·by_cases c4:hdK (openT s)=1
      ·rw[(a3 c2 c3 c4).2.2.2.2.2.2.2.1];exact Nat.zero_le _
      ·exact(a4 c2 c3 c4).1.len
   ·rw[(a.1 c).2.2.2.2.2.2.2.1];exact Nat.zero_le _
  ·exact JH g.2.1
 ·rw[(a.none b).2.2.2.2.2.2.1]
  exact Nat.zero_le _
def FY(fr ic:Int)(d:PD):ByteArray:=Fz 2 fr ic d.o d.l d.k d.z d.h d.xs d.s
theorem oK(S:Ac d.xs)(hf:0<=fr/\fr<=7)(hi:0<=ic/\ic<=4294967295)(n:BT d=true){c a b D C A J r:Int}{H:List Nat}{t:ByteArray}{en:Nat}
  (R:AQ (FY fr ic d) c a b D C A J r H t en):en=0/\(c=2/\a=fr/\b=ic)/\(D=d.o/\C=d.l/\A=d.k/\J=d.z/\r=d.h)/\H=d.xs/\t=d.s:=by
 obtain⟨F,v⟩:∃F:Nat,fr=(F:Int):=⟨fr.toNat,by omega⟩;obtain⟨I,x⟩:∃I:Nat,ic=(I:Int):=⟨ic.toNat,by omega⟩;have y:=mo (st (DQ 2 fr ic (tx (Fy 2 d.o d.l d.k d.z d.h d.xs d.s))));have g:=R.2 y.1;unfold FY Fz at g;rw[y.2]at g;obtain⟨hs,p,P,Q,e⟩:=ZR (kd:=2) (Ck (Fy 2 d.o d.l d.k d.z d.h d.xs d.s)) (K:=2) rfl v x (by decide) (by omega) (by omega);have j:Fy 2 d.o d.l d.k d.z d.h d.xs d.s=st (BQ d.o d.l d.k d.z d.h d.xs (tx d.s)):=Mu _ _ _ _ _ _ _;rw[IG]at e;generalize st (DQ 2 fr ic (tx (Fy 2 d.o d.l d.k d.z d.h d.xs d.s)))=T at*;rw[j]at e;have m:¬F3 T:=by
  rintro(f|f|f)
  ·omega
  ·exact f.2 p
  ·omega
 obtain⟨E,x2,V⟩:=g.2.2.2 (by omega) m (by omega);rw[e]at E;obtain⟨L,N,O⟩:=YP (t:=d.s) S (Gp.1 n);obtain⟨u1,u2,u3,u4⟩:=E.uniq (.inr (.inr ⟨L,N,rfl,O⟩));obtain⟨W,X,Y⟩:=V u4;exact⟨u4,⟨by rw[W,p];rfl,by rw[X,P,v],by rw[Y,Q,x]⟩,u1,u2,u3⟩
theorem W5{n:Ao}{L:List Nat}{f:Bp}(v:Fi n L f)(m:C8 n L=some d):f.enc=FY n.id n.inc d:=by
 obtain⟨a,b,c,e⟩:=v;rw[m]at c e;have g:f.kd=2:=c;have j:f.p.pd=d:=e;subst j;show Fz f.kd f.fr f.ic f.p.o f.p.l f.p.k f.p.z f.p.h f.p.r.xs f.p.r.s=Fz 2 n.id n.inc f.p.o f.p.l f.p.k f.p.z f.p.h f.p.r.xs f.p.r.s;rw[a,b,g]
theorem Ws{n x:Ao}{now:Int}(R:Ac d.xs)(O:0<=fr/\fr<=7)(Q:0<=ic/\ic<=4294967295)(e:BT d=true)(h:Hr n (FY fr ic d) now en x):en=0/\∃(q:PKV) (N:Nat) (rl:Option Gc) (dc:Option Fh),q.pd=d/\
  x=n.setS ⟨n.s.lv,n.s.ls,n.s.gm,EH n.s.Z fr ic now,n.s.gc,n.s.gcm,N,Ht (capN n.p.cache) n.s.P d,rl,dc⟩/\Ni (capN n.p.buffer) (Dx n.s.P d) n.s.rl rl d/\Lz n.p.buffer (Dx n.s.P d) n.s.dc dc q:=by
 obtain⟨kd,f,i,q,L,g⟩:=h;obtain⟨v,⟨b,A,C⟩,⟨D,E,H,I,J⟩,K,c⟩:=oK R O Q e L;have a:q.pd=d:=by
  show(⟨q.o,q.l,q.k,q.z,q.h,q.r.xs,q.r.s⟩:PD)=d;rw[D,E,H,I,J,K,c]
 rcases g with⟨g,_⟩|⟨_,N,rl,dc,y,j,m⟩
 ·exact absurd v g
 ·refine⟨v,q,N,rl,dc,a,?_,?_,?_⟩
  ·rw[y,b,A,C,a,if_pos rfl]
  ·rw[b,a,decide_eq_true rfl,Bool.true_and]at j
   exact j
  ·rw[b,a,decide_eq_true rfl,Bool.true_and]at m
   exact m
theorem oc{s:A0}{d:Fh}(h:s.dc=some d):GB s=d.s.dn:=by unfold GB;rw[h]
theorem pb{s:A0}{d:Fh}(h:s.dc=some d):GC s=d.s.ob:=by unfold GC;rw[h]
theorem S8{T:TypeId}{b n:Nat}{v:Value}{cs:List Value}(h:w.ownsRow B T b v n cs){j:Nat}(a:v.ownBlock=some j):j<w.heap.size:=(EW h a).2
theorem Al.lt{g:Nat}{n:Ao}(h:Al w g B n):∀j,Bg g n j->j<w.heap.size:=fun j a=>by
 rcases a with rfl|a|⟨r,b,rfl|a⟩|a
 ·exact h.blk.lt
 ·exact S8 h.tos a
 ·exact(h.src r b).blk.lt
 ·exact S8 (h.src r b).own a
 ·exact h.st.lt j a
theorem Qb{n:Ao}{g:Nat}:∀j,Bg g (n.each u) j->Bg g n j:=fun j a=>by
 rcases a with a|a|a|a
 ·exact .inl a
 ·exact .inr (.inl a)
 ·exact .inr (.inr (.inl a))
 ·refine .inr (.inr (.inr ?_))
  rcases a with a|⟨i,c,a⟩|a
  ·exact .inl a
  ·have b:i<(n.s.ls.map (Dp u)).length:=c
   rw[List.length_map]at b;refine .inr (.inl ⟨i,b,?_⟩);have e:((n.s.ls.map (Dp u)).getD i .dflt).F j:=a;rw[<-KH u (Nat.le_refl n.s.ls.length),Mh u _ _ _ b,if_pos b]at e;exact e
  ·exact .inr (.inr a)
theorem Mz{n:Ao}(a:i<n.s.ls.length):(n.each u).s.ls.getD i .dflt=Dp u (n.s.ls.getD i .dflt):=by
 show(n.s.ls.map (Dp u)).getD i .dflt=_;rw[<-KH u (Nat.le_refl n.s.ls.length),Mh u _ _ _ a,if_pos a]
theorem Fo{n:Ao}:(n.each u).s.ls.length=n.s.ls.length:=by
 show(n.s.ls.map (Dp u)).length=_;rw[List.length_map]
def G8(id:Nat)(kd:Int)(s:ByteArray):Prop:=∃f:Bp,f.ok/\Ac f.p.r.xs/\f.enc=s/\f.fr=(id:Int)/\(f.kd=2->kd≠3)
theorem G8.size{id:Nat}{kd:Int}(h:G8 id kd s):s.size<=1048576:=by
 obtain⟨f,a,_,rfl,_⟩:=h;exact Bp.enc_size a
def CJ(n:Ao):Prop:=∀i,i<n.s.ls.length->∀s∈(n.s.ls.getD i .dflt).L,G8 n.id n.p.kd s
theorem CJ.each{n:Ao}(h:CJ n)(f:∀l,∀s∈(u l).2.1,s∈l.L\/G8 n.id n.p.kd s):CJ (n.each u):=fun i a s c=>by
 rw[Fo]at a;rw[Mz a]at c;have b:s∈(u (n.s.ls.getD i .dflt)).2.1:=c;rcases f _ s b with e|e
 ·exact h i a s e
 ·exact e
theorem CJ.act{n:Ao}(h:CJ n){q:Int}{e:ByteArray}(c:G8 n.id n.p.kd e):CJ (n.each (F2 q e)):=h.each fun l s b=>by
 unfold F2 at b;split at b
 ·rcases List.mem_append.1 b with a|a
  ·exact .inl a
  ·rw[List.mem_singleton.1 a];exact .inr c
 ·exact .inl b
theorem CJ.tick{n:Ao}(h:CJ n){M q k:Int}:CJ (n.each (IH M q k)):=h.each fun l s a=>.inl a
theorem CJ.pump{n:Ao}(h:CJ n):CJ (n.each Cx):=h.each fun l s a=>.inl (List.mem_of_mem_drop a)
theorem CJ.recv{n b:Ao}{now:Int}(h:CJ n)(a:Hr n s now en b):CJ b/\b.id=n.id/\b.p=n.p/\b.src=n.src:=by
 obtain⟨kd,fr,ic,q,c,⟨_,a⟩|⟨_,N,rl,dc,a,_⟩⟩:=a
 ·subst a;exact⟨h,rfl,rfl,rfl⟩
 ·subst a;exact⟨h,rfl,rfl,rfl⟩
theorem Yo{g:Nat}{n:Ao}{L:List Nat}{f:Bp}(h:Al w g B n)(k:n.id<=7)(l:∀r,n.src=some r->Cm n.id r)(j:Fi n L f)(v:Ac f.p.r.xs):G8 n.id n.p.kd f.enc:=by
 refine⟨f,(Fi.ok h k l j).1,v,rfl,j.1,fun e x=>?_⟩;have m:=j.2.2.1;rcases h.kd with⟨a,_⟩|⟨a,_⟩|⟨_,b,c,_⟩
 ·omega
 ·omega
 ·rw[ZE b c]at m
  have o:f.kd=1:=m;omega
theorem W4{n:Ao}(h:CJ n):∀(k:Nat),k<=n.s.ls.length->∀x∈flyTo n k,x.fr=(n.id:Int)/\G8 n.id n.p.kd x.s/\∃i,i<k/\x.dst=n.p.tos.getD i 0
 |0,_,x,b=>by cases b
 |k+1,m,x,b=>by
  have c:x∈flyTo n k++Dl n k (EJ n k):=b;rcases List.mem_append.1 c with a|a
  ·obtain⟨e,f,i,l,g⟩:=W4 h k (by omega) x a
   exact⟨e,f,i,by omega,g⟩
  ·unfold Dl at a
   obtain⟨s,j,rfl⟩:=List.mem_map.1 a;exact⟨rfl,h k (by omega) s (List.mem_of_mem_take j),k,by omega,rfl⟩
theorem bW{l z K s g:Nat}{v:Value}(f:i<=7)(a:1<=z/\z<=64)(b:1<=K/\K<=128)(e:l<=K*z):Cm i ⟨g,v,(l:Int),(z:Int),min s K,Bw xs z K⟩:=by
 have c:(Bw xs z K).length=K:=IX _ _ _;refine⟨by show 1<=(Bw xs z K).length;omega,by show(Bw xs z K).length<=128;omega,by show min s K<=(Bw xs z K).length;omega,dW xs z K a.2,fun L=>Gp.2 ?_⟩;have:=Yc i l z K (min s K) xs L 0 (by omega) a.1 a.2 b.1 b.2 (by omega) e;show Ci (i:Int) (l:Int) ((Bw xs z K).length:Int) (z:Int) 0 (Dj (Bw xs z K).length (min s K) L 0) (st (Br (Bw xs z K) (Dj (Bw xs z K).length (min s K) L 0) (Bw xs z K).length)).size;rw[c];exact this
theorem aB{f:A4}{g:Nat}{n:Ao}(k:G9 w f i)(l:i<=7)(h:Gb f i n)(o:Al w' g B n):∀r,n.src=some r->Cm n.id r:=fun r c=>by
 have m:n.p.kd=1:=by
  rcases o.kd with⟨a,_⟩|⟨_,b,_⟩|⟨_,b,_⟩
  ·exact a
  ·rw[b]at c;cases c
  ·rw[b]at c;cases c
 obtain⟨g,v,e⟩:=h.src m;rw[e]at c;cases c;obtain⟨s1,s2,y,j⟩:=k.size;obtain⟨z,x⟩:∃z:Nat,f.size=(z:Int):=⟨f.size.toNat,by omega⟩;rw[x]at j⊢;rw[h.id];exact bW l ⟨by omega,by omega⟩ ⟨JY _ _,j⟩ (Kv _ _ (by show 0<(z:Int).toNat;omega))
theorem CJ.new{n:Ao}(h:Hw n.p n.s):CJ n:=fun i b s a=>by
 rw[(h.1.1 i b).2.1]at a;cases a
theorem Al.mono{g B':Nat}{n:Ao}(h:Al w g B n)(a:B'<=B):Al w g B' n:=
 ⟨h.blk,Nat.le_trans a h.lo,NY h.tos a,fun r b=>(h.src r b).mono a,h.st.mono a,h.kd,h.num,h.tm⟩
structure BB where
 g:Nat
 n:Ao
structure AF where
 nv:Value
 ns:List BB
 now:Int
 wv:Value
 fs:List AH
def Ey(ns:List BB):List Value:=ns.map fun x=>.pointer (some ⟨x.g,0,none⟩)
structure AB(w:World)(q B:Nat)(T:AF):Prop where
 blk:BkA 89 w q [T.nv,.int .i64 T.now,T.wv]
 lo:B<=q
 own:w.ownsRow B 90 1 T.nv T.ns.length (Ey T.ns)
 each:∀(i:Nat) (x:BB),T.ns[i]? =some x->Al w x.g B x.n
 apart:∀(i k:Nat) (x y:BB),T.ns[i]? =some x->T.ns[k]? =some y->i≠k->∀j,Bg x.g x.n j->¬Bg y.g y.n j
 fly:Ap w B T.wv T.fs
 few:T.ns.length<=8/\T.fs.length<=512
 now0:0<=T.now/\T.now<=1099511627776
def Lx(q:Nat)(T:AF)(j:Nat):Prop:=j=q\/T.nv.ownBlock=some j\/T.wv.ownBlock=some j\/∃(i:Nat) (x:BB),T.ns[i]? =some x/\Bg x.g x.n j
theorem AB.tu{F:Nat->Prop}{T:AF}(h:AB w q B T)(ht:Tu F w w')(b:∀j,Lx q T j->¬F j)(e:∀j,kdB w j=265+2->¬F j):AB w' q B T:=
 ⟨h.blk.tu ht (b q (.inl rfl)),h.lo,CO h.own ht fun j a=>b j (.inr (.inl a)),fun i x c=>(h.each i x c).tu ht (fun j a=>b j (.inr (.inr (.inr ⟨i,x,c,a⟩)))) e,h.apart,CO h.fly ht fun j a=>b j (.inr (.inr (.inl a))),h.few,h.now0⟩
theorem AB.below{T:AF}(h:AB w q B T)(a:Below w.heap.size w w'):AB w' q B T:=h.tu (F:=fun _=>False) (Tu.of_below a) (fun _ _=>id) fun _ _=>id
theorem AB.low{T:AF}(h:AB w q B T):∀j,Lx q T j->B<=j:=fun j a=>by
 rcases a with rfl|a|a|⟨i,x,b,a⟩
 ·exact h.lo
 ·exact(EW h.own a).1
 ·exact(EW h.fly a).1
 ·exact(h.each i x b).low j a
theorem RE{tmps:Array Value}{W:World}{g:Nat}{cs:List Value}(c:tmps.getD 4 undef=.pointer (some ⟨g,0,none⟩))(f:BkA 44 W g cs)(e:cs.length=7):(results Tryz.f14 tmps).run Tryz.prog W=.ok (.agg cs.toArray) W:=by
 have b:=f.load Tryz.underlying44 rfl KU e;have a:tmps[4]?.getD undef=.pointer (some ⟨g,0,none⟩):=by simpa using c
 simp[results,Tryz.results14,asAddr,a,b]
theorem mj(q B:Nat)(T:AF)(w:World)(h:AB w q B T):Calls Tryz.prog 20 #[.pointer (some ⟨q,0,none⟩)] w fun e w'=>e=.returned (.int .i64 T.now)/\w'=w:=by
 have c1:=h.blk.at 1 rfl;clear h;go_enter Tryz.func20,Tryz.ntmps20;go_wp2;go_ret;exact⟨rfl,rfl⟩
def modZ(n m:Int):Int:=if n.tmod m<0 then n.tmod m+m else n.tmod m
theorem WY{n m:Int}(a:0<m):0<=modZ n m/\modZ n m<m:=by
 have c:=Int.tmod_lt_of_pos n a;have b:=Int.tmod_lt_of_pos (-n) a;rw[Int.neg_tmod]at b;unfold modZ;split<;>omega
theorem Ua(n m:Int)(w:World)(a:0<m/\m<=1048576):Calls Tryz.prog 52 #[.int .i64 n,.int .i64 m] w fun e w'=>e=.returned (.int .i64 (modZ n m))/\w'=w:=by
 have j:=Int.tmod_lt_of_pos n a.1;have b:=Int.tmod_lt_of_pos (-n) a.1;rw[Int.neg_tmod]at b;have f:m≠0:=by omega
 have k:IntKind.i64.wrap (n.tmod m)=n.tmod m:=by rw[IntKind.wrap_i64];omega
 have g:IntKind.i64.wrap (n.tmod m+m)=n.tmod m+m:=by rw[IntKind.wrap_i64];omega
 unfold modZ;by_cases h:n.tmod m<0
 ·rw[if_pos h]
  have c:decide (n.tmod m<0)=true:=decide_eq_true h;go_enter Tryz.func52,Tryz.ntmps52;go_wp2;go_ret;exact⟨rfl,rfl⟩
 ·rw[if_neg h]
  have c:decide (n.tmod m<0)=false:=decide_eq_false h;go_enter Tryz.func52,Tryz.ntmps52;go_wp2;go_ret;exact⟨rfl,rfl⟩
theorem Mi(q B:Nat)(T:AF)(id:Int)(w:World)(h:AB w q B T):Calls Tryz.prog 30 #[.pointer (some ⟨q,0,none⟩),.int .i64 id] w fun e w'=>((e=.returned (.bool true)/\(0<=id/\id<T.ns.length))\/(e=.returned (.bool false)/\¬(0<=id/\id<T.ns.length)))/\w'=w:=by
 have m:=h.few.1;obtain⟨a,c,j⟩:∃a c,T.nv=.slice a T.ns.length c:=by
  rcases h.own.2 with⟨e,l⟩|⟨g,cap,k,e,_⟩
  ·exact⟨none,0,by rw[e,l]⟩
  ·exact⟨_,_,e⟩
 have c0:=h.blk.at 0 rfl;rw[j]at c0;have n:IntKind.i64.wrap ((T.ns.length:Int)-1)=(T.ns.length:Int)-1:=by rw[IntKind.wrap_i64];omega
 clear h j;by_cases f:0<=id/\id<=(T.ns.length:Int)-1
 ·go_enter Tryz.func30,Tryz.ntmps30
  go_wp2_with (first
   |(go_at_call 41;refine(Fp _ _ _ _ f).mono ?_;rintro e w1 ⟨rfl,b⟩;obtain rfl:=b.symm;clear b)
   |fail)
  go_ret;exact⟨.inl ⟨rfl,by omega⟩,rfl⟩
 ·go_enter Tryz.func30,Tryz.ntmps30
  go_wp2_with (first
   |(go_at_call 41;refine(GU _ _ _ _ f).mono ?_;rintro e w1 ⟨rfl,b⟩;obtain rfl:=b.symm;clear b)
   |fail)
  go_ret;exact⟨.inr ⟨rfl,by omega⟩,rfl⟩
end Go.Proofs.YtfpmnekaockodaaGreatDoor
