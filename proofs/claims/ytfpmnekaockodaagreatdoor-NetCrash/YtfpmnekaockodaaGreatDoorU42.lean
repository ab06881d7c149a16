/- Laws for the proof. -/
import Derived.Test.YtfpmnekaockodaaGreatDoorU41
set_option linter.all false
open Go.Proofs.Tryz
open Int renaming tmod_lt_of_pos->U
namespace Go.Proofs.YtfpmnekaockodaaGreatDoor
open Go.RowKit Go.Sort
set_option maxRecDepth 4000
set_option maxHeartbeats 8000000
variable {ob t:ByteArray}{s:DS}{u:AH->Int×List ByteArray×Nat}{B Z i q:Nat}{d:PD}{w w':World}
structure DI(w wr:World)(g B k:Nat)(n:Ap)(x:Int):Prop where
 nd:Al wr g B (n.withL (A6 (II n.p.M n.p.queue x) k n.s.ls) (n.t+1))
 tu:Tu (A9 g n) w wr
def DI.step{wr w2:World}{g k:Nat}{n:Ap}{x:Int}(h:DI w wr g B k n x)(b:k<n.s.ls.length){l:AH}(f:n.s.ls.getD k .dflt=l)(c:(Dg (II n.p.M n.p.queue x) l).At w2 n.p.M n.p.queue)(ht:Tu l.F wr w2)(a:l.lo<=n.t):DI w w2 g B (k+1) n x:=by
 subst f;exact⟨h.nd.lstep b c ht (Nat.le_succ_of_le a),h.tu.trans ht fun j _ e=>Nv b j e⟩
def lm(l:AH)(M q x:Int)(w:World)(h:l.At w M q):
  Calls Tryz.prog 76 #[.pointer (some ⟨l.g,0,none⟩),.int .i64 x] w fun e w'=>e=.returned (.tuple #[])/\(Dg (II M q x) l).At w' M q/\Tu l.F w w':=
 jP l.g l.gb l.gq l.c l.lo M q l.lv x l.L w h
def ib(g B:Nat)(n:Ap)(x:Int)(w:World)(h:Al w g B n):
  Calls Tryz.prog 47 #[.pointer (some ⟨g,0,none⟩),.int .i64 x] w fun e w'=>e=.returned (.tuple #[])/\Al w' g B (n.each (II n.p.M n.p.queue x))/\Tu (A9 g n) w w':=by
 obtain⟨P,Q,v⟩:=h.st.lks.len;have I:n.s.ls.length<=8:=by have:=h.num;omega
 have m:=h.blk.at 11 (show(EJ n)[11]? =some n.s.lv from rfl);rw[v]at m;have H:=Ab h;have j:=Ab (show DI w w g B 0 n x from⟨h.lstart _ (Nat.le_succ _),Tu.of_below (Below.refl _ _)⟩);clear h;go_enter func47,ntmps47;go_wp2_with fail;clear m;go_loopw [14] (fun i wr=> ∃k:Nat,k<=n.s.ls.length/\i=.int .i64 k/\Hid (DI w wr g B k n x)) (fun i _=>n.s.ls.length-(intOf i).toNat)
 case atStart=>exact⟨0,Nat.zero_le _,rfl,j⟩
 case round=>
  obtain⟨k,R,rfl,f⟩:=hrel;clear j;rename_i wr;by_cases a:k<n.s.ls.length
  ·have K:(k:Int)<(n.s.ls.length:Int):=by omega
   obtain⟨b,c,E,O⟩:=(Aa f).nd.lptr a;rw[v]at E;simp only[Value.slice.injEq,true_and]at E;obtain⟨rfl,rfl⟩:=E;have C:=Ab (show(n.s.ls.getD k .dflt).lo<=n.t from(Aa H).tm.2 k a);have r:(n.s.ls.getD k .dflt).At wr n.p.M n.p.queue:=by
    have:=((Aa f).nd.st.each k (by show k<(A6 _ k n.s.ls).length;rw[Fk];exact a)).1;have e:AH.At wr n.p.M n.p.queue ((A6 (II n.p.M n.p.queue x) k n.s.ls).getD k .dflt):=this;rwa[JI _ a]at e
   have N:=Ab (lm _ n.p.M n.p.queue x wr r);clear r;generalize J:n.s.ls.getD k .dflt=l at*;have A:=Ab J;clear J
   go_wp2_with (first
    |(go_at_call 76;refine(Aa N).mono ?_;rintro e w2 ⟨rfl,o,y⟩;have z:=Ab o;have D:=Ab y;clear o y)
    |fail)
   go_round
   case rel=>exact⟨k+1,a,by go_num,Ab ((Aa f).step a (Aa A) (Aa z) (Aa D) (Aa C))⟩
   case measure=>simp[intOf];omega
  ·obtain rfl:k=n.s.ls.length:=by omega
   go_wp2;have L:=(Aa f).nd;rw[KC _ (Nat.le_refl _)]at L;go_end0;exact⟨rfl,L,(Aa f).tu⟩
def Zm{n:Ap}(a:n.src=none)(b:n.s.rl=none)(L:List Nat):C1 n L=none:=by
 unfold C1;rw[a,b]
def sE{ss:List ByteArray}{m:Nat}{l:Int}{L:List (List Nat×ByteArray)}(h:C6 (ss.length:Int) l L ob)(N:0<sizeOfK (ss.length:Int))(n:∀x∈L,Ac x.1/\x.2.size<=1000/\x.1.length<=10)(I:L.length<=300)(K:∀x∈L,AX (ss.length:Int) x.1=true)
  (D:∀x∈L,DK ss x.1 x.2=true) (H:∀x∈L,x.2.size=m) (o:∀b,b<ss.length->(ss.getD b ByteArray.empty).size=m) (E:CY L=ss.length):ob=st ((joinL ss).take l.toNat):=by
 obtain⟨rs,kn,bs,g,C,J⟩:=h;have a:∀r∈rs,core r∈L:=fun r c=>by rw[<-g];exact List.mem_map.2 ⟨r,c,rfl⟩
 have f:Dx rs:=fun r c=>⟨(n _ (a r c)).1,(n _ (a r c)).2.1⟩;have z:∀r∈rs,r.xs.length<=10:=fun r c=>(n _ (a r c)).2.2;have p:rs.length<=300:=by
  have e:rs.length=L.length:=by rw[<-g,List.length_map]
  exact e▸I
 have k:Ay 1048576 (vecsL rs):=by
  have:=L4 f z (fun _=>true);rwa[List.filter_eq_self.2 (fun _ _=>rfl)]at this
 have j:(rs.filter fun r=>AX (ss.length:Int) r.xs)=rs:=List.filter_eq_self.2 fun r c=>K _ (a r c);have v:rankN rs=ss.length:=by rw[LU,g];exact E
 have c:Hz (ss.length:Int) rs=ss.length:=by
  have A:Hz (ss.length:Int) rs=(Ce (vecsL rs)).length:=by unfold Hz;rw[j]
  rw[A,<-Md k,KR];exact v
 have y:=(pB C f z p N (fun r c=>D (core r) (a r c)) (fun r c=>H (core r) (a r c)) o).2;rw[if_pos c]at y;rw[J,y]
def EE(t:ByteArray)(Z:Nat):List ByteArray:=Bo (tx t) Z (kc t.size Z)
def Vz(t:ByteArray)(Z:Nat):(EE t Z).length=kc t.size Z:=IX _ _ _
def oh(t:ByteArray)(Z:Nat):∀b,b<(EE t Z).length->((EE t Z).getD b ByteArray.empty).size=Z:=fun b a=>by
 rw[Vz]at a;unfold EE;rw[SA _ _ _ _ a,Dq,Of]
def lD(t:ByteArray)(Z:Nat)(f:1<=Z):st ((joinL (EE t Z)).take t.size)=t:=by
 have b:=Ky t.size Z f;have a:=J0 t.size Z
 have c:=la (Cg t) Z (kc t.size Z) a (by rw[AR];exact b) (by
  rw[AR];by_cases e:kc t.size Z=1
  ·exact .inl e
  ·exact .inr ((KY t.size Z (kc t.size Z-1) f (by omega)).1 (by omega)))
 rw[AR]at c;unfold EE;rw[c,IH]
structure IM(t:ByteArray)(Z:Nat)(p:PKV):Prop where
 ok:DD p=true
 l:p.l=(t.size:Int)
 k:p.k=(kc t.size Z:Int)
 z:p.z=(Z:Int)
 h:DK (EE t Z) p.r.xs p.r.s=true
structure Ff(t:ByteArray)(Z:Nat)(s:DS):Prop where
 same:s.bg=true->s.l=(t.size:Int)/\s.k=(kc t.size Z:Int)/\s.z=(Z:Int)
 hold:∀x∈s.L,DK (EE t Z) x.1 x.2=true/\Ac x.1/\x.2.size<=1000/\x.1.length<=10
 told:s.dn=true->s.ob=t
def Ff.zero(t:ByteArray)(Z:Nat):Ff t Z CQ:=⟨(fun e=>by cases e),(fun x a=>by cases a),fun e=>by cases e⟩
def Ff.beg{p:PKV}(h:Ff t Z s)(hp:IM t Z p):Ff t Z (Cs s p):=by
 unfold Cs;split
 ·exact h
 ·exact⟨fun _=>⟨hp.l,hp.k,hp.z⟩,(fun x a=>by cases a),fun e=>by cases e⟩
def Ff.keep{M:Int}{x:List Nat×ByteArray}(h:Ff t Z s)(C:BU s)(O:1<=Z)(K:BX s.k s.z x=true)(N:DK (EE t Z) x.1 x.2=true/\Ac x.1/\x.2.size<=1000/\x.1.length<=10)(J:GV M s x ob):Ff t Z (E3 M s x ob):=by
 have b:∀y∈s.L++[x],DK (EE t Z) y.1 y.2=true/\Ac y.1/\y.2.size<=1000/\y.1.length<=10:=fun y a=>by
  rcases List.mem_append.1 a with a|a
  ·exact h.hold y a
  ·rw[List.mem_singleton.1 a];exact N
 have j:∀y∈s.L++[x],BX s.k s.z y=true:=fun y a=>by
  rcases List.mem_append.1 a with a|a
  ·exact C.fit y a
  ·rw[List.mem_singleton.1 a];exact K
 cases g:s.dn
 ·by_cases l:s.L.length<capN M
  ·by_cases o:(CY (s.L++[x]):Int)=s.k
   ·have D:=J (Kz (ob:=ob) g l o).2.2
    obtain⟨E,H,I⟩:=h.same C.bg;rw[(Kz g l o).1];refine⟨h.same,b,fun _=>?_⟩;show ob=t;have c:s.k=((EE t Z).length:Int):=by rw[Vz];exact H
    rw[c,E]at D;have n:(s.L++[x]).length<=300:=by
     rw[List.length_append,List.length_singleton];have:=JS M;exact Nat.le_trans (Nat.succ_le_of_lt l) (Nat.le_trans this (by decide))
    have f:∀y∈s.L++[x],AX ((EE t Z).length:Int) y.1=true/\y.2.size=Z:=fun y a=>by
     have:=j y a;unfold BX at this;rw[Bool.and_eq_true,Bool.and_eq_true]at this;have A:=decide_eq_true_iff.1 this.2;rw[I]at A;exact⟨by rw[<-c];exact this.1.1,Int.ofNat.inj A⟩
    have p:CY (s.L++[x])=(EE t Z).length:=by
     rw[c]at o;exact Int.ofNat.inj o
    have r:0<sizeOfK ((EE t Z).length:Int):=(GS (f x (List.mem_append.2 (.inr List.mem_cons_self))).1).1;have:=sE (m:=Z) D r (fun y a=>(b y a).2) n (fun y a=>(f y a).1) (fun y a=>(b y a).1) (fun y a=>(f y a).2) (oh t Z) p;rw[Int.toNat_natCast,lD t Z O]at this;exact this
   ·rw[(Pz g l o).1]
    exact⟨h.same,b,fun e=>by have v:s.dn=true:=e;rw[g]at v;cases v⟩
  ·rw[(Ou g l).1]
   exact⟨h.same,h.hold,h.told⟩
 ·rw[(Py g).1];exact h
def Ff.put{M:Int}{p:PKV}(h:Ff t Z s)(c:s.bg=true->BU s)(f:1<=Z)(hp:IM t Z p)(e:Ac p.r.xs/\p.r.s.size<=1000/\p.r.xs.length<=10)(b:Df s p=true->GV M (Cs s p) (p.r.xs,p.r.s) ob):Ff t Z (FW M s p ob):=by
 cases a:Df s p
 ·rw[(WP a).1];exact h
 ·rw[(Vb a).1]
  exact(h.beg hp).keep (BU.beg c hp.ok) f (PI a).2.1 ⟨hp.h,e⟩ (b a)
def FX(fr ic:Int)(d:PD):ByteArray:=Fv 2 fr ic d.o d.l d.k d.z d.h d.xs d.s
def qb{fr ic:Int}(S:Ac d.xs)(hf:0<=fr/\fr<=7)(hi:0<=ic/\ic<=4294967295)(n:BM d=true){c a b D C A J r:Int}{H:List Nat}{t:ByteArray}{en:Nat}
  (R:Fs (FX fr ic d) c a b D C A J r H t en):en=0/\(c=2/\a=fr/\b=ic)/\(D=d.o/\C=d.l/\A=d.k/\J=d.z/\r=d.h)/\H=d.xs/\t=d.s:=by
 obtain⟨F,v⟩:∃F:Nat,fr=(F:Int):=⟨fr.toNat,by omega⟩;obtain⟨I,x⟩:∃I:Nat,ic=(I:Int):=⟨ic.toNat,by omega⟩;have y:=nL (st (DO 2 fr ic (tx (Fu 2 d.o d.l d.k d.z d.h d.xs d.s))));have g:=R.2 y.1;unfold FX Fv at g;rw[y.2]at g;obtain⟨hs,p,P,Q,e⟩:=aH (kd:=2) (Cg (Fu 2 d.o d.l d.k d.z d.h d.xs d.s)) (K:=2) rfl v x (by decide) (by omega) (by omega);have j:Fu 2 d.o d.l d.k d.z d.h d.xs d.s=st (BJ d.o d.l d.k d.z d.h d.xs (tx d.s)):=Mt _ _ _ _ _ _ _;rw[IH]at e;generalize st (DO 2 fr ic (tx (Fu 2 d.o d.l d.k d.z d.h d.xs d.s)))=T at*;rw[j]at e;have m:¬H6 T:=by
  rintro(f|f|f)
  ·omega
  ·exact f.2 p
  ·omega
 obtain⟨E,x2,V⟩:=g.2.2.2 (by omega) m (by omega);rw[e]at E;obtain⟨L,N,O⟩:=Yy (t:=d.s) S (Gp.1 n);obtain⟨u1,u2,u3,u4⟩:=E.uniq (.inr (.inr ⟨L,N,rfl,O⟩));obtain⟨W,X,Y⟩:=V u4;exact⟨u4,⟨by rw[W,p];rfl,by rw[X,P,v],by rw[Y,Q,x]⟩,u1,u2,u3⟩
def W5{n:Ap}{L:List Nat}{f:Br}(v:Fc n L f)(m:C1 n L=some d):f.enc=FX n.id n.inc d:=by
 obtain⟨a,b,c,e⟩:=v;rw[m]at c e;have g:f.kd=2:=c;have j:f.p.pd=d:=e;subst j;show Fv f.kd f.fr f.ic f.p.o f.p.l f.p.k f.p.z f.p.h f.p.r.xs f.p.r.s=Fv 2 n.id n.inc f.p.o f.p.l f.p.k f.p.z f.p.h f.p.r.xs f.p.r.s;rw[a,b,g]
def VQ{n x:Ap}{fr ic now:Int}{en:Nat}(R:Ac d.xs)(O:0<=fr/\fr<=7)(Q:0<=ic/\ic<=4294967295)(e:BM d=true)(h:GZ n (FX fr ic d) now en x):en=0/\∃(q:PKV) (N:Nat) (rl:Option Gc) (dc:Option Fb),q.pd=d/\
  x=n.setS ⟨n.s.lv,n.s.ls,n.s.gm,EC n.s.Z fr ic now,n.s.gc,n.s.gcm,N,Hy (capN n.p.cache) n.s.P d,rl,dc⟩/\Nj (capN n.p.buffer) (Dp n.s.P d) n.s.rl rl d/\Lx n.p.buffer (Dp n.s.P d) n.s.dc dc q:=by
 obtain⟨kd,f,i,q,L,g⟩:=h;obtain⟨v,⟨b,A,C⟩,⟨D,E,H,I,J⟩,K,c⟩:=qb R O Q e L;have a:q.pd=d:=by
  show(⟨q.o,q.l,q.k,q.z,q.h,q.r.xs,q.r.s⟩:PD)=d;rw[D,E,H,I,J,K,c]
 rcases g with⟨g,_⟩|⟨_,N,rl,dc,y,j,m⟩
 ·exact absurd v g
 ·refine⟨v,q,N,rl,dc,a,?_,?_,?_⟩
  ·rw[y,b,A,C,a,if_pos rfl]
  ·rw[b,a,decide_eq_true rfl,Bool.true_and]at j
   exact j
  ·rw[b,a,decide_eq_true rfl,Bool.true_and]at m
   exact m
def UR{ls:List AH}:∀{k:Nat},(∀i,i<k->(ls.getD i .dflt).L=[])->Ei ls k=0
 |0,_=>rfl
 |k+1,h=>by
  show Ei ls k+(ls.getD k .dflt).L.length=0;rw[UR fun i a=>h i (by omega),h k (by omega)];rfl
def pJ{s:AU}{d:Fb}(h:s.dc=some d):EF s=d.s.dn:=by unfold EF;rw[h]
def sD{s:AU}{d:Fb}(h:s.dc=some d):EL s=d.s.ob:=by unfold EL;rw[h]
def Ti{T:TypeId}{b n:Nat}{v:Value}{cs:List Value}(h:w.ownsRow B T b v n cs){j:Nat}(a:v.ownBlock=some j):j<w.heap.size:=(C9 h a).2
def Al.lt{g:Nat}{n:Ap}(h:Al w g B n):∀j,A9 g n j->j<w.heap.size:=fun j a=>by
 rcases a with rfl|a|⟨r,b,rfl|a⟩|a
 ·exact h.blk.lt
 ·exact Ti h.tos a
 ·exact(h.src r b).blk.lt
 ·exact Ti (h.src r b).own a
 ·exact h.st.lt j a
def PU{n:Ap}{g:Nat}:∀j,A9 g (n.each u) j->A9 g n j:=fun j a=>by
 rcases a with a|a|a|a
 ·exact .inl a
 ·exact .inr (.inl a)
 ·exact .inr (.inr (.inl a))
 ·refine .inr (.inr (.inr ?_))
  rcases a with a|⟨i,c,a⟩|a
  ·exact .inl a
  ·have b:i<(n.s.ls.map (Dg u)).length:=c
   rw[List.length_map]at b;refine .inr (.inl ⟨i,b,?_⟩);have e:((n.s.ls.map (Dg u)).getD i .dflt).F j:=a;rw[<-KC u (Nat.le_refl n.s.ls.length),Mg u _ _ _ b,if_pos b]at e;exact e
  ·exact .inr (.inr a)
def My{n:Ap}(a:i<n.s.ls.length):(n.each u).s.ls.getD i .dflt=Dg u (n.s.ls.getD i .dflt):=by
 show(n.s.ls.map (Dg u)).getD i .dflt=_;rw[<-KC u (Nat.le_refl n.s.ls.length),Mg u _ _ _ a,if_pos a]
def Fi{n:Ap}:(n.each u).s.ls.length=n.s.ls.length:=by
 show(n.s.ls.map (Dg u)).length=_;rw[List.length_map]
def Hb(id:Nat)(kd:Int)(s:ByteArray):Prop:=∃f:Br,f.ok/\Ac f.p.r.xs/\f.enc=s/\f.fr=(id:Int)/\(f.kd=2->kd≠3)
def Hb.size{id:Nat}{kd:Int}{s:ByteArray}(h:Hb id kd s):s.size<=1048576:=by
 obtain⟨f,a,_,rfl,_⟩:=h;exact Br.enc_size a
def Cz(n:Ap):Prop:=∀i,i<n.s.ls.length->∀s∈(n.s.ls.getD i .dflt).L,Hb n.id n.p.kd s
def Cz.each{n:Ap}(h:Cz n)(f:∀l,∀s∈(u l).2.1,s∈l.L\/Hb n.id n.p.kd s):Cz (n.each u):=fun i a s c=>by
 rw[Fi]at a;rw[My a]at c;have b:s∈(u (n.s.ls.getD i .dflt)).2.1:=c;rcases f _ s b with e|e
 ·exact h i a s e
 ·exact e
def Cz.act{n:Ap}(h:Cz n){q:Int}{e:ByteArray}(c:Hb n.id n.p.kd e):Cz (n.each (FU q e)):=h.each fun l s b=>by
 unfold FU at b;split at b
 ·rcases List.mem_append.1 b with a|a
  ·exact .inl a
  ·rw[List.mem_singleton.1 a];exact .inr c
 ·exact .inl b
def Cz.tick{n:Ap}(h:Cz n){M q k:Int}:Cz (n.each (II M q k)):=h.each fun l s a=>.inl a
def Cz.pump{n:Ap}(h:Cz n):Cz (n.each Co):=h.each fun l s a=>.inl (List.mem_of_mem_drop a)
def Cz.recv{n b:Ap}{s:ByteArray}{now:Int}{en:Nat}(h:Cz n)(a:GZ n s now en b):Cz b/\b.id=n.id/\b.p=n.p/\b.src=n.src:=by
 obtain⟨kd,fr,ic,q,c,⟨_,a⟩|⟨_,N,rl,dc,a,_⟩⟩:=a
 ·subst a;exact⟨h,rfl,rfl,rfl⟩
 ·subst a;exact⟨h,rfl,rfl,rfl⟩
def Yj{g:Nat}{n:Ap}{L:List Nat}{f:Br}(h:Al w g B n)(k:n.id<=7)(l:∀r,n.src=some r->Ci n.id r)(j:Fc n L f)(v:Ac f.p.r.xs):Hb n.id n.p.kd f.enc:=by
 refine⟨f,(Fc.ok h k l j).1,v,rfl,j.1,fun e x=>?_⟩;have m:=j.2.2.1;rcases h.kd with⟨a,_⟩|⟨a,_⟩|⟨_,b,c,_⟩
 ·omega
 ·omega
 ·rw[Zm b c]at m
  have o:f.kd=1:=m;omega
def W4{n:Ap}(h:Cz n):∀(k:Nat),k<=n.s.ls.length->∀x∈flyTo n k,x.fr=(n.id:Int)/\Hb n.id n.p.kd x.s/\∃i,i<k/\x.dst=n.p.tos.getD i 0
 |0,_,x,b=>by cases b
 |k+1,m,x,b=>by
  have c:x∈flyTo n k++Di n k (ED n k):=b;rcases List.mem_append.1 c with a|a
  ·obtain⟨e,f,i,l,g⟩:=W4 h k (by omega) x a
   exact⟨e,f,i,by omega,g⟩
  ·unfold Di at a
   obtain⟨s,j,rfl⟩:=List.mem_map.1 a;exact⟨rfl,h k (by omega) s (List.mem_of_mem_take j),k,by omega,rfl⟩
def cM{l z K s g:Nat}{v:Value}{xs:List Nat}(f:i<=7)(a:1<=z/\z<=64)(b:1<=K/\K<=128)(e:l<=K*z):Ci i ⟨g,v,(l:Int),(z:Int),min s K,Bo xs z K⟩:=by
 have c:(Bo xs z K).length=K:=IX _ _ _;refine⟨by show 1<=(Bo xs z K).length;omega,by show(Bo xs z K).length<=128;omega,by show min s K<=(Bo xs z K).length;omega,eG xs z K a.2,fun L=>Gp.2 ?_⟩;have:=YF i l z K (min s K) xs L 0 (by omega) a.1 a.2 b.1 b.2 (by omega) e;show Cd (i:Int) (l:Int) ((Bo xs z K).length:Int) (z:Int) 0 (De (Bo xs z K).length (min s K) L 0) (st (Bl (Bo xs z K) (De (Bo xs z K).length (min s K) L 0) (Bo xs z K).length)).size;rw[c];exact this
def bU{f:A1}{g:Nat}{n:Ap}(k:Hc w f i)(l:i<=7)(h:F9 f i n)(o:Al w' g B n):∀r,n.src=some r->Ci n.id r:=fun r c=>by
 have m:n.p.kd=1:=by
  rcases o.kd with⟨a,_⟩|⟨_,b,_⟩|⟨_,b,_⟩
  ·exact a
  ·rw[b]at c;cases c
  ·rw[b]at c;cases c
 obtain⟨g,v,e⟩:=h.src m;rw[e]at c;cases c;obtain⟨s1,s2,y,j⟩:=k.size;obtain⟨z,x⟩:∃z:Nat,f.size=(z:Int):=⟨f.size.toNat,by omega⟩;rw[x]at j⊢;rw[h.id];exact cM l ⟨by omega,by omega⟩ ⟨J0 _ _,j⟩ (Ky _ _ (by show 0<(z:Int).toNat;omega))
def Cz.new{n:Ap}(h:Gx n.p n.s):Cz n:=fun i b s a=>by
 rw[(h.1.1 i b).2.1]at a;cases a
def Al.mono{g B':Nat}{n:Ap}(h:Al w g B n)(a:B'<=B):Al w g B' n:=
 ⟨h.blk,Nat.le_trans a h.lo,NY h.tos a,fun r b=>(h.src r b).mono a,h.st.mono a,h.kd,h.num,h.tm⟩
structure Bg where
 g:Nat
 n:Ap
structure Az where
 nv:Value
 ns:List Bg
 now:Int
 wv:Value
 fs:List AE
def Ev(ns:List Bg):List Value:=ns.map fun x=>.pointer (some ⟨x.g,0,none⟩)
structure Aw(w:World)(q B:Nat)(T:Az):Prop where
 blk:BkA 89 w q [T.nv,.int .i64 T.now,T.wv]
 lo:B<=q
 own:w.ownsRow B 90 1 T.nv T.ns.length (Ev T.ns)
 each:∀(i:Nat) (x:Bg),T.ns[i]? =some x->Al w x.g B x.n
 apart:∀(i k:Nat) (x y:Bg),T.ns[i]? =some x->T.ns[k]? =some y->i≠k->∀j,A9 x.g x.n j->¬A9 y.g y.n j
 fly:An w B T.wv T.fs
 few:T.ns.length<=8/\T.fs.length<=512
 now0:0<=T.now/\T.now<=1099511627776
def EK(q:Nat)(T:Az)(j:Nat):Prop:=j=q\/T.nv.ownBlock=some j\/T.wv.ownBlock=some j\/∃(i:Nat) (x:Bg),T.ns[i]? =some x/\A9 x.g x.n j
def Aw.tu{F:Nat->Prop}{T:Az}(h:Aw w q B T)(ht:Tu F w w')(b:∀j,EK q T j->¬F j)(e:∀j,kdB w j=265+2->¬F j):Aw w' q B T:=
 ⟨h.blk.tu ht (b q (.inl rfl)),h.lo,Cj h.own ht fun j a=>b j (.inr (.inl a)),fun i x c=>(h.each i x c).tu ht (fun j a=>b j (.inr (.inr (.inr ⟨i,x,c,a⟩)))) e,h.apart,Cj h.fly ht fun j a=>b j (.inr (.inr (.inl a))),h.few,h.now0⟩
def Aw.below{T:Az}(h:Aw w q B T)(a:Below w.heap.size w w'):Aw w' q B T:=h.tu (F:=fun _=>False) (Tu.of_below a) (fun _ _=>id) fun _ _=>id
def Aw.low{T:Az}(h:Aw w q B T):∀j,EK q T j->B<=j:=fun j a=>by
 rcases a with rfl|a|a|⟨i,x,b,a⟩
 ·exact h.lo
 ·exact(C9 h.own a).1
 ·exact(C9 h.fly a).1
 ·exact(h.each i x b).low j a
def RI{tmps:Array Value}{W:World}{g:Nat}{cs:List Value}(c:tmps.getD 4 undef=.pointer (some ⟨g,0,none⟩))(f:BkA 44 W g cs)(e:cs.length=7):(results Tryz.f14 tmps).run Tryz.prog W=.ok (.agg cs.toArray) W:=by
 have b:=f.load underlying44 rfl JQ e;have a:tmps[4]?.getD undef=.pointer (some ⟨g,0,none⟩):=by simpa using c
 simp[results,Tryz.results14,asAddr,a,b]
def nJ(q B:Nat)(T:Az)(w:World)(h:Aw w q B T):Calls Tryz.prog 20 #[.pointer (some ⟨q,0,none⟩)] w fun e w'=>e=.returned (.int .i64 T.now)/\w'=w:=by
 have c1:=h.blk.at 1 rfl;clear h;go_enter func20,ntmps20;go_wp2;go_ret;exact⟨rfl,rfl⟩
def modZ(n m:Int):Int:=if n.tmod m<0 then n.tmod m+m else n.tmod m
def Xd{n m:Int}(a:0<m):0<=modZ n m/\modZ n m<m:=by
 have c:=U n a;have b:=U (-n) a;rw[Int.neg_tmod]at b;unfold modZ;split<;>omega
def TC(n m:Int)(w:World)(a:0<m/\m<=1048576):Calls Tryz.prog 52 #[.int .i64 n,.int .i64 m] w fun e w'=>e=.returned (.int .i64 (modZ n m))/\w'=w:=by
 have j:=U n a.1;have b:=U (-n) a.1;rw[Int.neg_tmod]at b;have f:m≠0:=by omega
 have k:IntKind.i64.wrap (n.tmod m)=n.tmod m:=by rw[IntKind.wrap_i64];omega
 have g:IntKind.i64.wrap (n.tmod m+m)=n.tmod m+m:=by rw[IntKind.wrap_i64];omega
 unfold modZ;by_cases h:n.tmod m<0
 ·rw[if_pos h]
  have c:decide (n.tmod m<0)=true:=decide_eq_true h;go_enter func52,ntmps52;go_wp2;go_ret;exact⟨rfl,rfl⟩
 ·rw[if_neg h]
  have c:decide (n.tmod m<0)=false:=decide_eq_false h;go_enter func52,ntmps52;go_wp2;go_ret;exact⟨rfl,rfl⟩
def Mh(q B:Nat)(T:Az)(id:Int)(w:World)(h:Aw w q B T):Calls Tryz.prog 30 #[.pointer (some ⟨q,0,none⟩),.int .i64 id] w fun e w'=>((e=.returned (.bool true)/\(0<=id/\id<T.ns.length))\/(e=.returned (.bool false)/\¬(0<=id/\id<T.ns.length)))/\w'=w:=by
 have m:=h.few.1;obtain⟨a,c,j⟩:∃a c,T.nv=.slice a T.ns.length c:=by
  rcases h.own.2 with⟨e,l⟩|⟨g,cap,k,e,_⟩
  ·exact⟨none,0,by rw[e,l]⟩
  ·exact⟨_,_,e⟩
 have c0:=h.blk.at 0 rfl;rw[j]at c0;have n:IntKind.i64.wrap ((T.ns.length:Int)-1)=(T.ns.length:Int)-1:=by rw[IntKind.wrap_i64];omega
 clear h j;by_cases f:0<=id/\id<=(T.ns.length:Int)-1
 ·go_enter func30,ntmps30
  go_wp2_with (first
   |(go_at_call 41;refine(Fj _ _ _ _ f).mono ?_;rintro e w1 ⟨rfl,b⟩;obtain rfl:=b.symm;clear b)
   |fail)
  go_ret;exact⟨.inl ⟨rfl,by omega⟩,rfl⟩
 ·go_enter func30,ntmps30
  go_wp2_with (first
   |(go_at_call 41;refine(GU _ _ _ _ f).mono ?_;rintro e w1 ⟨rfl,b⟩;obtain rfl:=b.symm;clear b)
   |fail)
  go_ret;exact⟨.inr ⟨rfl,by omega⟩,rfl⟩
end Go.Proofs.YtfpmnekaockodaaGreatDoor
