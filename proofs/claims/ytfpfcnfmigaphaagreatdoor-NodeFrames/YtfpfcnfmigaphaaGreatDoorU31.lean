/-
  Laws that the proof stands on.
-/
import Derived.Test.YtfpfcnfmigaphaaGreatDoorU30
namespace Go.Proofs.YtfpfcnfmigaphaaGreatDoor
open Go.RowKit Go.Sort
set_option linter.unusedVariables false
set_option linter.unusedSimpArgs false
set_option maxRecDepth 4000
set_option maxHeartbeats 8000000
variable {a:ByteArray}{M:Int}{bs:List ByteArray}{kn:List Nat}{x:List Nat×ByteArray}{rs:List RV}{m g B gs gs1:Nat}{p:PKV}{v v1:Value}{w w' w1:World}
theorem SC(p:List Nat×ByteArray->Bool){rs b:List RV}(h:rs.map core=b.map core):(rs.find? (fun r=>p (core r))).map core=(b.find? (fun r=>p (core r))).map core:=by
 have:=congrArg (List.find? p) h;rw[List.find?_map,List.find?_map]at this;exact this
def MS(k:Int)(kn:List Nat)(x:List Nat×ByteArray):Bool:=AR k x.1&&decide (cnt (dropL x.1 kn)=1)
theorem RM(k:Int)(kn:List Nat):Cy k kn=fun r=>MS k kn (core r):=rfl
theorem UO{k:Int}{rs c:List RV}(h:rs.map core=c.map core):∀{j:Nat} {kn:List Nat} {bs:List ByteArray},Run k rs j kn bs->Run k c j kn bs
 |0,_,_,A=>A
 |j+1,kn,bs,⟨b,d,r,u,l,y,z⟩=>by
  have o:=SC (MS k b) h;rw[RM]at l;rw[l]at o;obtain⟨f,e,n⟩:=Option.map_eq_some_iff.1 o.symm;have i:f.xs=r.xs:=congrArg Prod.fst n;have q:f.s=r.s:=congrArg Prod.snd n;refine⟨b,d,f,UO h u,e,?_,?_⟩
  ·rw[y];unfold blkOf;rw[i]
  ·rw[z];unfold blkOf;rw[i,q]
theorem ky{k:Int}{b:List RV}(h:rs.map core=b.map core)(e:AI k rs kn bs):AI k b kn bs:=by
 obtain⟨⟨j,f⟩,d⟩:=e;refine⟨⟨j,UO h f⟩,?_⟩;have c:=SC (MS k kn) h;rw[RM]at d;rw[d]at c;exact Option.map_eq_none_iff.1 c.symm
def Z9(k:Int)(kn:List Nat)(x:List Nat×ByteArray):Bool:=AR k x.1&& !decide (cnt (dropL x.1 kn)=0)&& !decide (cnt (dropL x.1 kn)=1)
theorem VB(k:Int)(b:List RV)(kn:List Nat)(bs:List ByteArray):restL k b kn bs=((b.map core).filter (Z9 k kn)).map fun x=>(dropL x.1 kn,Ds bs x.1 x.2):=by
 unfold restL;rw[List.filter_map,List.map_map];rfl
theorem fc{k:Int}{b:List RV}(h:rs.map core=b.map core):peelC k rs kn bs=peelC k b kn bs:=by
 unfold peelC;rw[VB,VB,h]
def Cq(k l:Int)(L:List (List Nat×ByteArray))(ob:ByteArray):Prop:=∃rs kn bs,rs.map core=L/\AI k rs kn bs/\ob=st ((joinL (solveC k (peelC k rs kn bs))).take l.toNat)
theorem Cq.uniq{k l:Int}{L:List (List Nat×ByteArray)}{b:ByteArray}(h:Cq k l L a)(g:Cq k l L b):a=b:=by
 obtain⟨rs,kn,bs,i,j,rfl⟩:=h;obtain⟨c,n,e,f,g2,rfl⟩:=g;have d:rs.map core=c.map core:=i.trans f.symm;obtain⟨rfl,rfl⟩:=(ky d j).uniq g2;rw[fc d]
theorem Cq.size{k l:Int}{L:List (List Nat×ByteArray)}(h:Cq k l L a):a.size<=l.toNat:=by
 obtain⟨rs,kn,bs,_,_,rfl⟩:=h;rw[Dz];exact List.length_take_le _ _
theorem R1{m:Nat}:∀{ss:List ByteArray},(∀s∈ss,s.size=m)->(joinL ss).length=ss.length*m
 |[],_=>by simp[joinL]
 |s::ss,h=>by
  have b:=R1 (ss:=ss) fun t ht=>h t (List.mem_cons_of_mem _ ht);have c:=h s List.mem_cons_self;unfold joinL at*;rw[List.flatMap_cons,List.length_append,b,AQ,c,List.length_cons,Nat.add_mul,Nat.one_mul,Nat.add_comm]
theorem U0{m:Nat}{L:List (List Nat×ByteArray)}:∀(ps:List Nat) (a:List Nat),(∀i∈ps,(L.getD i zC).2.size=m)->a.length=m\/(a.length<=m/\ps≠ [])->((F2 L ps).foldl (fun a s=>xorL a (tx s)) a).length=m
 |[],a,_,h=>by
  rcases h with h|h
  ·exact h
  ·exact absurd rfl h.2
 |i::ps,a,hp,h=>by
  unfold F2;rw[List.map_cons,List.foldl_cons];refine U0 ps _ (fun q b=>hp q (List.mem_cons_of_mem _ b)) (.inl ?_);have:=hp i List.mem_cons_self;rw[BV,AQ,this];rcases h with h|h<;>omega
theorem ex{K:Nat}{L:List (List Nat×ByteArray)}(O:0<sizeOfK (K:Int))(s:Dh 1048576 L)(P:L.length<=100000)(J:∀x∈L,AR (K:Int) x.1=true)(H:∀x∈L,x.2.size=m)
  (I:(Ci (vecsC L)).length=K) {b:Nat} (E:b<K):(blockC (K:Int) L b).size=m:=by
 have d:((b:Nat):Int)<(K:Int):=by omega
 have C:val (unitL (K:Int) (b:Int))=2^b:=Ky (Ff d) (IG O d);have y:(unitL (K:Int) (b:Int)).length<=1048576:=by rw[Jm d];have:=DL (K:Int);omega
 have l:Ech.Sp ((vecsC (CI L)).map val) (val (unitL (K:Int) (b:Int))):=by
  rw[Oa,Mk s,C]
  have A:∀v∈vecsC L,AR (K:Int) v=true:=fun v z=>by
   obtain⟨x,N,rfl⟩:=List.mem_map.1 z;exact J x N
  exact(Oj s A).2 (by rw[Int.toNat_natCast];exact I) b (by rw[Int.toNat_natCast];exact E)
 have e:=s.kept;have j:(vecsC (CI L)).length<=100000:=by
  rw[Iw,QW];have:=Gj (vecsC L) L.length;omega
 obtain⟨c,o⟩:=SW e l;have n:firstI (reduceL (broughtL (vecsC (CI L))) (unitL (K:Int) (b:Int)))<0:=(Lg e (Ff d) y).2 l;have r:exL (vecsC (CI L)) (unitL (K:Int) (b:Int))=exprL (vecsC (CI L)) (unitL (K:Int) (b:Int)):=by unfold exL;rw[if_pos n]
 unfold blockC;rw[r,Dz];have q:=Nf e j (Ff d) o;have h:val (Er (vecsC (CI L)) (exprL (vecsC (CI L)) (unitL (K:Int) (b:Int))))=2^b:=by
  rw[q,<-C];exact o.sum e
 have f:=VS _ e j (Ff d) o;refine U0 _ [] (fun i G=>?_) (.inr ⟨Nat.zero_le _,fun u=>?_⟩)
 ·have f:=f i G
  rw[Iw]at f;rw[List.getD_eq_getElem?_getD,List.getElem?_eq_getElem f];exact H _ (Uj (List.getElem_mem f))
 ·rw[u]at h
  have D:val (Er (vecsC (CI L)) [])=0:=by simp[Er,val]
  rw[D]at h;have:=Nat.two_pow_pos b;omega
theorem ju{K:Nat}(n:AI (K:Int) rs kn bs)(e:Dq rs)(L:∀r∈rs,r.xs.length<=10)(S:rs.length<=300)(l:0<sizeOfK (K:Int))(I:∀r∈rs,AR (K:Int) r.xs=true)(N:∀r∈rs,r.s.size=m)(P:CJ (rs.map core)=K):
  Ef (K:Int) (peelC (K:Int) rs kn bs)=true/\(solveC (K:Int) (peelC (K:Int) rs kn bs)).length=K/\∀s∈solveC (K:Int) (peelC (K:Int) rs kn bs),s.size=m:=by
 have d:=Sb n e;have Q:=DL (K:Int);have H:=D8 l;obtain⟨j,J⟩:=n.kn e l
 have u:Dh 1048576 (peelC (K:Int) rs kn bs):=fun v I=>by
  obtain⟨x,c,rfl⟩:=List.mem_map.1 I;refine⟨?_,by have:=(FV (d x c)).2.1;omega⟩;unfold peelC at c;rcases List.mem_append.1 c with c|c
  ·obtain⟨b,q,_,rfl⟩:=Hv J c
   exact Ff (by omega)
  ·unfold restL at c
   obtain⟨r,f,rfl⟩:=List.mem_map.1 c;exact GK (e r (List.mem_filter.1 f).1).1 _
 have E:(peelC (K:Int) rs kn bs).length<=100000:=by
  unfold peelC toldTo restL;rw[List.length_append,List.length_map,List.length_map];have o:=List.length_filter_le (fun b=>Ah kn b) (List.range (K:Int).toNat);have R:=List.length_filter_le (Fv (K:Int) kn) rs;rw[List.length_range]at o;omega
 have z:Az 1048576 (vecsL rs):=by
  have:=Lj e L (fun _=>true);rwa[List.filter_eq_self.2 (fun _ _=>rfl)]at this
 have y:(rs.filter fun r=>AR (K:Int) r.xs)=rs:=List.filter_eq_self.2 I;have f:(Ci (vecsC (peelC (K:Int) rs kn bs))).length=K:=by
  have o:(Ci (vecsC (peelC (K:Int) rs kn bs))).length=GT (K:Int) rs:=Wu u (Lj e L _) (Ts n e);rw[o];unfold GT;rw[y,<-LF z,Kg,<-P,<-Lm];rfl
 have D:(keepL (vecsC (peelC (K:Int) rs kn bs)) (peelC (K:Int) rs kn bs).length).length=K:=by
  have:=LF u;rw[Iw]at this;exact this.trans f
 have h:Ef (K:Int) (peelC (K:Int) rs kn bs)=true:=by
  unfold Ef;rw[decide_eq_true l,Bool.true_and,D];exact decide_eq_true (Int.le_refl _)
 obtain⟨⟨T,C⟩,_⟩:=id n;obtain⟨s1,s2⟩:=Om l e N C
 have G:∀x∈peelC (K:Int) rs kn bs,x.2.size=m:=fun x c=>by
  unfold peelC at c;rcases List.mem_append.1 c with c|c
  ·obtain⟨b,q,A,rfl⟩:=Hv J c
   exact s1 b A
  ·unfold restL at c
   obtain⟨r,f,rfl⟩:=List.mem_map.1 c;exact Ot s2 (N r (List.mem_filter.1 f).1)
 have O:solveC (K:Int) (peelC (K:Int) rs kn bs)=(List.range K).map (blockC (K:Int) (peelC (K:Int) rs kn bs)):=by
  unfold solveC;rw[if_pos h,Int.toNat_natCast]
 refine⟨h,by rw[O,List.length_map,List.length_range],fun s i=>?_⟩;rw[O]at i;obtain⟨b,q,rfl⟩:=List.mem_map.1 i;exact ex l u E d G f (List.mem_range.1 q)
structure DS where
 bg:Bool
 o:Int
 l:Int
 k:Int
 z:Int
 L:List (List Nat×ByteArray)
 ov:Bool
 dn:Bool
 ob:ByteArray
def zDS:DS:=⟨false,0,0,0,0,[],false,false,⟨#[]⟩⟩
def DF(p:PKV):Bool:=decide (((1<=p.k/\p.k<=128)/\1<=p.z/\p.z<=64)/\(0<=p.o/\p.o<=4294967295)/\(0<=p.l/\p.l<=p.k*p.z)/\0<=p.h/\p.h<=15)&&BW p.k p.z (p.r.xs,p.r.s)
theorem mr{k z:Int}:BW k z x=true↔Jx k z x.1 x.2.size:=by
 unfold BW Jx;rw[Bool.and_eq_true,Bool.and_eq_true,GD,decide_eq_true_iff,decide_eq_true_iff,and_assoc]
theorem V1:DF p=true↔BS p.o p.l p.k p.z p.h p.r.xs p.r.s.size:=by
 unfold DF BS;rw[Bool.and_eq_true,decide_eq_true_iff,mr];rfl
theorem PQ(p:PKV):Ev (if DF p=true then 0 else 1) (BS p.o p.l p.k p.z p.h p.r.xs p.r.s.size):=by
 by_cases h:DF p=true
 ·rw[if_pos h];exact .inl ⟨V1.1 h,rfl⟩
 ·rw[if_neg h];exact .inr ⟨fun b=>h (V1.2 b),rfl⟩
def KF(s:DS)(p:PKV):Bool:=decide (p.o=s.o/\p.l=s.l/\p.k=s.k/\p.z=s.z)
def Dr(s:DS)(p:PKV):Bool:=DF p&&(!s.bg||KF s p)
def CB(s:DS)(p:PKV):DS:=if s.bg=true then s else⟨true,p.o,p.l,p.k,p.z,[],false,false,⟨#[]⟩⟩
def F1(M:Int)(s:DS)(x:List Nat×ByteArray):Bool:= !s.dn&&(decide (s.L.length<capN M)&&decide ((CJ (s.L++[x]):Int)=s.k))
def DT(M:Int)(s:DS)(x:List Nat×ByteArray)(ob:ByteArray):DS:=
 if s.dn=true then s
 else if s.L.length<capN M then(if (CJ (s.L++[x]):Int)=s.k then{s with L:=s.L++[x],dn:=true,ob:=ob}else{s with L:=s.L++[x]})
 else{s with ov:=true}
def Ft(M:Int)(s:DS):Int:=if s.dn=true then 0 else if s.L.length<capN M then 0 else 5
def F5(M:Int)(s:DS)(p:PKV)(ob:ByteArray):DS:=if Dr s p=true then DT M (CB s p) (p.r.xs,p.r.s) ob else s
def KN(M:Int)(s:DS)(p:PKV):Int:=if Dr s p=true then Ft M (CB s p)else 1
def AP(M:Int)(s:DS)(x:List Nat×ByteArray)(ob:ByteArray):Prop:=F1 M s x=true->Cq s.k s.l (s.L++[x]) ob
theorem Kl{s:DS}{ob:ByteArray}(h:s.dn=true):DT M s x ob=s/\Ft M s=0:=by
 unfold DT Ft;rw[if_pos h,if_pos h];exact⟨rfl,rfl⟩
theorem Je{s:DS}{ob:ByteArray}(h:s.dn=false)(b:s.L.length<capN M)(c:(CJ (s.L++[x]):Int)=s.k):DT M s x ob={s with L:=s.L++[x],dn:=true,ob:=ob}/\Ft M s=0/\F1 M s x=true:=by
 unfold DT Ft F1;rw[h,if_neg (by decide),if_pos b,if_pos c,if_neg (by decide),if_pos b,decide_eq_true b,decide_eq_true c];exact⟨rfl,rfl,rfl⟩
theorem Km{s:DS}{ob:ByteArray}(h:s.dn=false)(b:s.L.length<capN M)(c:¬(CJ (s.L++[x]):Int)=s.k):DT M s x ob={s with L:=s.L++[x]}/\Ft M s=0/\F1 M s x=false:=by
 unfold DT Ft F1;rw[h,if_neg (by decide),if_pos b,if_neg c,if_neg (by decide),if_pos b,decide_eq_true b,decide_eq_false c];exact⟨rfl,rfl,rfl⟩
theorem J1{s:DS}{ob:ByteArray}(h:s.dn=false)(b:¬s.L.length<capN M):DT M s x ob={s with ov:=true}/\Ft M s=5/\F1 M s x=false:=by
 unfold DT Ft F1;rw[h,if_neg (by decide),if_neg b,if_neg (by decide),if_neg b,decide_eq_false b];exact⟨rfl,rfl,rfl⟩
theorem jr{s:DS}(h:s.dn=true):F1 M s x=false:=by
 unfold F1;rw[h];rfl
theorem gH{s:DS}(h:F1 M s x=false)(a b:ByteArray):DT M s x a=DT M s x b:=by
 cases c:s.dn
 ·by_cases d:s.L.length<capN M
  ·by_cases e:(CJ (s.L++[x]):Int)=s.k
   ·rw[(Je (ob:=a) c d e).2.2]at h;cases h
   ·rw[(Km (ob:=a) c d e).1,(Km (ob:=b) c d e).1]
  ·rw[(J1 (x:=x) (ob:=a) c d).1,(J1 (x:=x) (ob:=b) c d).1]
 ·rw[(Kl c).1,(Kl c).1]
theorem AP.uniq{s:DS}{b:ByteArray}(c:AP M s x a)(d:AP M s x b):DT M s x a=DT M s x b:=by
 cases h:F1 M s x
 ·exact gH h a b
 ·rw[(c h).uniq (d h)]
structure BO(s:DS):Prop where
 bg:s.bg=true
 sh:((1<=s.k/\s.k<=128)/\1<=s.z/\s.z<=64)/\0<=s.l/\s.l<=s.k*s.z
 fit:∀x∈s.L,BW s.k s.z x=true
 dn:s.dn=true↔(CJ s.L:Int)=s.k
 ob:s.dn=false->s.ob=⟨#[]⟩
 obs:s.ob.size<=8192
theorem BO.lz{s:DS}(h:BO s):s.l.toNat<=8192:=by
 have:=MC (k:=s.k) (z:=s.z) h.sh.1;have:=h.sh.2;omega
theorem BO.keep{s:DS}(h:BO s){x:List Nat×ByteArray}(n:BW s.k s.z x=true){ob:ByteArray}(l:AP M s x ob):BO (DT M s x ob):=by
 have b:∀y∈s.L++[x],BW s.k s.z y=true:=fun y f=>by
  rcases List.mem_append.1 f with f|f
  ·exact h.fit y f
  ·rw[List.mem_singleton.1 f];exact n
 cases c:s.dn
 ·by_cases i:s.L.length<capN M
  ·by_cases d:(CJ (s.L++[x]):Int)=s.k
   ·have o:=(l (Je (ob:=ob) c i d).2.2).size
    rw[(Je c i d).1];exact⟨h.bg,h.sh,b,⟨fun _=>d,fun _=>rfl⟩,(fun e=>by cases e),Nat.le_trans o h.lz⟩
   ·rw[(Km c i d).1]
    exact⟨h.bg,h.sh,b,⟨(fun e=>by have j:s.dn=true:=e;rw[c]at j;cases j),fun e=>absurd e d⟩,h.ob,h.obs⟩
  ·rw[(J1 c i).1]
   exact⟨h.bg,h.sh,h.fit,h.dn,h.ob,h.obs⟩
 ·rw[(Kl c).1];exact h
theorem lF:CJ []=0:=rfl
theorem O3{s:DS}(h:Dr s p=true):DF p=true/\BW (CB s p).k (CB s p).z (p.r.xs,p.r.s)=true/\(CB s p).bg=true:=by
 unfold Dr at h;rw[Bool.and_eq_true,Bool.or_eq_true]at h;obtain⟨d,b⟩:=h;have c:=d;unfold DF at c;rw[Bool.and_eq_true]at c;refine⟨d,?_⟩;unfold CB;cases e:s.bg
 ·rw[if_neg (by decide)];exact⟨c.2,rfl⟩
 ·rw[if_pos rfl]
  rw[e]at b;rcases b with b|b
  ·cases b
  ·unfold KF at b
   obtain⟨_,_,f,i⟩:=decide_eq_true_iff.1 b;rw[<-f,<-i];exact⟨c.2,e⟩
theorem BO.beg{s:DS}(h:s.bg=true->BO s)(hp:DF p=true):BO (CB s p):=by
 unfold CB;cases d:s.bg
 ·rw[if_neg (by decide)]
  unfold DF at hp;rw[Bool.and_eq_true]at hp;obtain⟨b,i,a3,a4⟩:=decide_eq_true_iff.1 hp.1;exact⟨rfl,⟨b,a3⟩,(fun x f=>by cases f),⟨(fun e=>by cases e),(fun e=>by have c:(CJ []:Int)=p.k:=e;rw[lF]at c;omega)⟩,(fun _=>rfl),Nat.zero_le _⟩
 ·rw[if_pos rfl];exact h d
theorem As.tu{F:Nat->Prop}{k z:Int}{ov:Bool}(h:As w g B k z m v rs ov)(ht:Tu F w w')(c:∀j,C2 g v j->¬F j)(e:∀j b,w.heap[j]? =some (.cells b 69 (0,0))->¬F j):As w' g B k z m v rs ov:=
 ⟨h.blk.tu ht (c g (.inl rfl)),h.lo,h.own.tu ht (fun j d=>c j (.inr d)),h.rows.tu ht e,h.le,h.most,h.short⟩
def IY(M:Int)(s:DS)(p:Option Addr):List Value:=[.int .i64 M,.int .i64 s.o,.int .i64 s.l,.int .i64 s.k,.int .i64 s.z,.pointer p,.bool s.dn,.string s.ob]
def Fx(b:Bool)(gs:Nat):Option Addr:=if b=true then some ⟨gs,0,none⟩else none
def CM(g gs:Nat)(v:Value)(k:Nat):Prop:=k=g\/C2 gs v k
structure An(w:World)(g B:Nat)(M:Int)(s:DS)(gs:Nat)(v:Value)(rs:List RV):Prop where
 blk:BkA 179 w g (IY M s (Fx s.bg gs))
 lo:B<=g
 begun:s.bg=true->As w gs B s.k s.z (capN M) v rs s.ov/\BO s
 fresh:s.bg=false->s=zDS/\v=.slice none 0 0/\gs=g
 co:rs.map core=s.L
theorem An.below{s:DS}(h:An w g B M s gs v rs)(b:Below w.heap.size w w'):An w' g B M s gs v rs:=
 ⟨h.blk.below b,h.lo,fun e=>⟨(h.begun e).1.below b,(h.begun e).2⟩,h.fresh,h.co⟩
theorem An.lt{s:DS}(h:An w g B M s gs v rs):g<w.heap.size:=h.blk.lt
theorem An.lob{s:DS}(h:An w g B M s gs v rs):B<=w.heap.size:=Nat.le_of_lt (Nat.lt_of_le_of_lt h.lo h.lt)
theorem An.mono{B':Nat}{s:DS}(h:An w g B M s gs v rs)(b:B'<=B):An w g B' M s gs v rs:=
 ⟨h.blk,Nat.le_trans b h.lo,fun e=>⟨(h.begun e).1.mono b,(h.begun e).2⟩,h.fresh,h.co⟩
theorem An.low{s:DS}(h:An w g B M s gs v rs):∀j,j<B->¬CM g gs v j:=fun j d b=>by
 have e:=h.lo;rcases b with rfl|b
 ·omega
 ·cases c:s.bg
  ·obtain⟨_,rfl,rfl⟩:=h.fresh c
   rcases b with rfl|b
   ·omega
   ·cases b
  ·exact(h.begun c).1.low j d b
theorem An.keeps{s:DS}(h:An w g B M s gs v rs)(ht:Tu (CM g gs v) w w'):Below B w w':=ht.below h.lob h.low
theorem An.step{w0:World}{s:DS}(h:An w g B M s gs v rs)(b:Below B w0 w)(ht:Tu (CM g gs v) w w'):Below B w0 w':=b.trans (h.keeps ht)
theorem An.words{s:DS}(h:An w g B M s gs v rs):∀j b,w.heap[j]? =some (.cells b 69 (0,0))->¬CM g gs v j:=fun j b d c=>by
 rcases c with rfl|c
 ·exact h.blk.ne d (by decide) rfl
 ·cases e:s.bg
  ·obtain⟨_,rfl,rfl⟩:=h.fresh e
   rcases c with rfl|c
   ·exact h.blk.ne d (by decide) rfl
   ·cases c
  ·exact(h.begun e).1.words j b d c
theorem An.out{s:DS}(h:An w g B M s gs v rs){T:TypeId}{p:Nat}{c:Array Value}{l:Nat×Nat}(hp:w.heap[p]? =some (.cells c T l))(f:179≠T)(n:255≠T)(o:57≠T):¬CM g gs v p:=fun b=>by
 rcases b with rfl|b
 ·exact h.blk.ne hp f rfl
 ·cases i:s.bg
  ·obtain⟨_,rfl,rfl⟩:=h.fresh i
   rcases b with rfl|b
   ·exact h.blk.ne hp f rfl
   ·cases b
  ·have j:=(h.begun i).1
   rcases b with rfl|b
   ·have:=j.blk
    unfold Bc at this;rw[this]at hp;simp only[Option.some.injEq,Obj.cells.injEq]at hp;exact n hp.2.1
   ·obtain⟨e,d⟩:=j.own.blk5 b
    rw[d]at hp;simp only[Option.some.injEq,Obj.cells.injEq]at hp;exact o hp.2.1
def Mv(w:World)(gs:Nat)(v:Value)(b:Nat)(v':Value):Prop:=(b=gs\/w.heap.size<=b)/\(v'.ownBlock=v.ownBlock\/∀j,v'.ownBlock=some j->w.heap.size<=j)
theorem Mv.refl(w:World)(gs:Nat)(v:Value):Mv w gs v gs v:=⟨.inl rfl,.inl rfl⟩
theorem Mv.at{b:Nat}{v':Value}(h:Mv w gs v b v')(g j:Nat)(d:j<w.heap.size)(c:CM g b v' j):CM g gs v j:=by
 rcases c with rfl|rfl|c
 ·exact .inl rfl
 ·rcases h.1 with e|e
  ·exact .inr (.inl e)
  ·omega
 ·rcases h.2 with e|e
  ·exact .inr (.inr (e▸c))
  ·have:=e j c;omega
theorem Mv.trans{b:Nat}{c:Value}(h:Mv w gs v gs1 v1)(k:Mv w1 gs1 v1 b c)(f:w.heap.size<=w1.heap.size):Mv w gs v b c:=by
 refine⟨?_,?_⟩
 ·rcases k.1 with e|e
  ·rw[e];exact h.1
  ·exact .inr (by omega)
 ·rcases k.2 with e|e
  ·rw[e];exact h.2
  ·exact .inr fun j d=>Nat.le_trans f (e j d)
theorem Mv.new(h:Mv w1 gs v gs1 v1)(b:w.heap.size<=w1.heap.size):Mv w gs v gs1 v1:=(Mv.refl w gs v).trans h b
theorem py{w2:World}(h:Tu (CM g gs v) w w1)(k:Tu (CM g gs1 v1) w1 w2)(d:Mv w gs v gs1 v1):Tu (CM g gs v) w w2:=h.trans k fun j c b=>d.at g j c b
theorem YQ(w:World)(M:Int):An (w.alloc (.cells #[.int .i64 M,.int .i64 0,.int .i64 0,.int .i64 0,.int .i64 0,.pointer none,.bool false,.string ⟨#[]⟩] 179)) w.heap.size w.heap.size M zDS w.heap.size (.slice none 0 0) []:=
 ⟨AV 179 w (IY M zDS none),Nat.le_refl _,(fun e=>by cases e),(fun _=>⟨rfl,rfl,rfl⟩),rfl⟩
theorem An.cells{s:DS}(h:An w g B M s gs v rs):
  w.cell? ⟨g,0,none⟩=some (.int .i64 M)/\w.cell? ⟨g,1,none⟩=some (.int .i64 s.o)/\w.cell? ⟨g,2,none⟩=some (.int .i64 s.l)/\w.cell? ⟨g,3,none⟩=some (.int .i64 s.k)/\w.cell? ⟨g,4,none⟩=some (.int .i64 s.z)/\
   w.cell? ⟨g,5,none⟩=some (.pointer (Fx s.bg gs))/\w.cell? ⟨g,6,none⟩=some (.bool s.dn)/\w.cell? ⟨g,7,none⟩=some (.string s.ob):=
 ⟨h.blk.at 0 rfl,h.blk.at 1 rfl,h.blk.at 2 rfl,h.blk.at 3 rfl,h.blk.at 4 rfl,h.blk.at 5 rfl,h.blk.at 6 rfl,h.blk.at 7 rfl⟩
variable {k:Nat}
theorem eE(xs:List Nat)(i j:Nat)(h:i<64*xs.length):Ah (Bw xs i true) j=(decide (j=i)||Ah xs j):=by
 have f:i/64<xs.length:=by omega
 unfold Ah Bw setW;rw[D7];by_cases d:j/64=i/64
 ·rw[if_pos ⟨d,f⟩,d]
  by_cases l:j%64=i%64
  ·have b:j=i:=by omega
   subst b;split
   ·rename_i c;rw[c];simp
   ·rename_i c;rw[Nat.testBit_xor,Nat.testBit_two_pow];simp at c;simp[c]
  ·have b:decide (j=i)=false:=by simp;omega
   have e:decide (i%64=j%64)=false:=by simp;omega
   split
   ·rw[b];rfl
   ·rw[Nat.testBit_xor,Nat.testBit_two_pow,b,e];simp
 ·have b:decide (j=i)=false:=by simp;omega
  rw[if_neg (fun k=>d k.1),b];rfl
theorem du(n i:Nat):Ah (List.replicate n 0) i=false:=by
 unfold Ah;have:(List.replicate n 0).getD (i/64) 0=0:=by
  rw[List.getD_eq_getElem?_getD,List.getElem?_replicate];split<;>rfl
 rw[this];simp
def Ep(k:Nat)(b:List Nat):List Nat:=b.foldl (fun v i=>Bw v i true) (List.replicate (sizeOfK (k:Int)) 0)
theorem nv(k:Nat):Ep k []=List.replicate (sizeOfK (k:Int)) 0:=rfl
theorem kU(k:Nat)(b:List Nat)(i:Nat):Ep k (b++[i])=Bw (Ep k b) i true:=by simp[Ep,List.foldl_append]
theorem kV(k:Nat)(b:List Nat)(j:Nat)(h:j<b.length):Ep k (b.take (j+1))=Bw (Ep k (b.take j)) (b.getD j 0) true:=by
 rw[List.take_succ_eq_append_getElem h,kU];simp[List.getD_eq_getElem?_getD,List.getElem?_eq_getElem h]
theorem Rv(b:1<=k)(c:k<=128):sizeOfK (k:Int)=(k+63)/64:=by
 unfold sizeOfK;rw[if_neg (by omega)];omega
theorem T5:∀(b v:List Nat),(b.foldl (fun v i=>Bw v i true) v).length=v.length
 |[],_=>rfl
 |i::b,v=>by rw[List.foldl_cons,T5 b,Hl]
theorem Lc(k:Nat)(b:List Nat):(Ep k b).length=sizeOfK (k:Int):=by rw[Ep,T5,List.length_replicate]
theorem cL(n:Nat):Ac (List.replicate n 0):=by
 intro x b;rw[(List.mem_replicate.1 b).2];show 0<18446744073709551616;decide
theorem T3:∀(b v:List Nat) (j:Nat),(∀i∈b,i<64*v.length)->Ah (b.foldl (fun v i=>Bw v i true) v) j=(decide (j∈b)||Ah v j)
 |[],v,j,_=>by simp
 |i::b,v,j,h=>by
  rw[List.foldl_cons,T3 b _ j (fun x e=>by rw[Hl];exact h x (by simp[e])),eE v i j (h i (by simp))];by_cases c:j∈b<;>by_cases d:j=i<;>simp[c,d]
theorem UN{b:List Nat}(c:1<=k)(d:k<=128)(h:∀i∈b,i<k)(j:Nat):Ah (Ep k b) j=decide (j∈b):=by
 rw[Ep,T3 b _ j (fun i e=>by have:=h i e;rw[List.length_replicate,Rv c d];omega),du];simp
theorem gC{d:List Nat}(b:1<=k)(c:k<=128)(h:∀i∈d,i<k):BU (k:Int) (Ep k d):=by
 refine⟨by rw[Lc,Rv b c];omega,Lc _ _,fun i f=>?_⟩;rw[UN b c h,decide_eq_false_iff_not];intro e;have:=h i e;omega
theorem nN{xs:List Nat}{i:Nat}(h:Ah xs i=true):0<cnt xs:=by
 rcases Nat.eq_zero_or_pos (cnt xs)with b|b
 ·exfalso
  have c:BB xs 0=cnt xs:=by rw[b];rfl
  rw[(OM xs 0).1 c i (Nat.zero_le _)]at h;cases h
 ·exact b
def MV(k s x:Nat):Nat:=pickD (tableL k s) x
theorem XA(k s x:Nat)(b:1<=k)(c:s<=128):1<=MV k s x/\MV k s x<=k:=by
 have:=oL (fX k s b c) x;rw[GC]at this;exact this
def degL(k s:Nat)(L:List Nat)(N:Nat):Nat:=MV k s (BE L (N+1))
def C1(k s:Nat)(L:List Nat)(N:Nat):List Nat:=Ep k (Dm L (N+1) k (degL k s L N))
def MM(k s:Nat)(L:List Nat)(N:Nat):Nat:=N+1+degL k s L N
theorem O0(k s:Nat)(L:List Nat)(N:Nat)(b:1<=k)(c:s<=128):1<=degL k s L N/\degL k s L N<=k:=XA k s _ b c
theorem XB(k s:Nat)(L:List Nat)(N:Nat)(b:1<=k)(c:s<=128):min ((degL k s L N:Nat):Int).toNat k=degL k s L N:=by
 have:=O0 k s L N b c;omega
theorem OQ(L:List Nat)(N n k i:Nat)(h:i∈Dm L N n k):i<n:=by
 unfold Dm at h;exact List.mem_range.1 (List.mem_filter.1 h).1
theorem dA(k s:Nat)(L:List Nat)(N:Nat):(C1 k s L N).length=sizeOfK (k:Int):=Lc _ _
theorem RP(k s:Nat)(L:List Nat)(N:Nat)(b:1<=k)(c:k<=128):BU (k:Int) (C1 k s L N):=gC b c fun i d=>OQ _ _ _ _ i d
theorem Tk(k s:Nat)(L:List Nat)(N:Nat)(b:1<=k)(f:k<=128)(n:s<=128):∃i,i<k/\Ah (C1 k s L N) i=true:=by
 have h:=O0 k s L N b n;have c:=QR L (N+1) k (degL k s L N) h.2;obtain⟨i,o,j⟩:=List.exists_cons_of_ne_nil (show Dm L (N+1) k (degL k s L N)≠ [] from fun e=>by rw[e]at c;simp at c;omega);have d:i∈Dm L (N+1) k (degL k s L N):=by rw[j];simp
 refine⟨i,OQ _ _ _ _ i d,?_⟩;rw[C1,UN b f (fun i l=>OQ _ _ _ _ i l)];exact decide_eq_true d
theorem UH(k s:Nat)(L:List Nat)(N:Nat)(b:1<=k)(c:k<=128)(e:s<=128):0<cnt (C1 k s L N):=by
 obtain⟨i,_,d⟩:=Tk k s L N b c e;exact nN d
theorem Sr(ss:List ByteArray)(vs:List Nat)(z:Nat)(h:∀i,i<ss.length->(ss.getD i ByteArray.empty).size=z):∀n,n<=ss.length->((∃i,i<n/\Ah vs i=true)->(Bj ss vs n).length=z)/\((Bj ss vs n).length=0\/(Bj ss vs n).length=z)
 |0,_=>⟨fun⟨i,l,_⟩=>by omega,.inl rfl⟩
 |n+1,o=>by
  obtain⟨f,b⟩:=Sr ss vs z h n (by omega);cases d:Ah vs n
  ·rw[PO d]
   refine⟨fun⟨i,l,c⟩=>f ⟨i,?_,c⟩,b⟩;rcases Nat.lt_or_ge i n with e|j
   ·exact e
   ·obtain rfl:i=n:=by omega
    rw[d]at c;cases c
  ·rw[Wb d,BV,AQ,h n (by omega)]
   have:max (Bj ss vs n).length z=z:=by rcases b with b|b<;>omega
   exact⟨fun _=>this,.inr this⟩
theorem nH(xs:List Nat)(z k i:Nat)(h:i<k):((Be xs z k).getD i ByteArray.empty).size=z:=by rw[Rk xs z k i h,Dz,NA]
theorem V0(xs:List Nat)(z k s:Nat)(L:List Nat)(N:Nat)(c:1<=k)(d:k<=128)(e:s<=128):(st (Bj (Be xs z k) (C1 k s L N) k)).size=z:=by
 rw[Dz];refine(Sr (Be xs z k) (C1 k s L N) z (fun i b=>?_) k (by rw[Ip];exact Nat.le_refl _)).1 (Tk k s L N c d e);rw[Ip]at b;exact nH xs z k i b
theorem W8(o len z k s:Nat)(xs:List Nat)(L:List Nat)(N:Nat)(i:o<=4294967295)(e:1<=z)(f:z<=64)(b:1<=k)(c:k<=128)(d:s<=128)(h:len<=k*z):
  BS (o:Int) (len:Int) (k:Int) (z:Int) 0 (C1 k s L N) (st (Bj (Be xs z k) (C1 k s L N) k)).size:=by
 refine⟨⟨⟨⟨by omega,by omega⟩,by omega,by omega⟩,⟨by omega,by omega⟩,⟨by omega,?_⟩,by omega,by omega⟩,RP k s L N b c,UH k s L N b c d,?_⟩
 ·have:((k:Int)*(z:Int))=((k*z:Nat):Int):=by simp
  rw[this];omega
 ·rw[V0 xs z k s L N b c d]
end Go.Proofs.YtfpfcnfmigaphaaGreatDoor
