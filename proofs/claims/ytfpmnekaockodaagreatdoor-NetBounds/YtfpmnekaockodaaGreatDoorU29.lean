/- Laws for the proof. -/
import Derived.Test.YtfpmnekaockodaaGreatDoorU28
namespace Go.Proofs.YtfpmnekaockodaaGreatDoor
open Go.RowKit Go.Sort
set_option linter.all false
set_option maxRecDepth 4000
set_option maxHeartbeats 8000000
variable {a:ByteArray}{M:Int}{bs:List ByteArray}{kn:List Nat}{x:List Nat×ByteArray}{rs:List RV}{m g B gs gs1:Nat}{p:PKV}{v v1:Value}{w w' w1:World}
theorem TL(p:List Nat×ByteArray->Bool){rs b:List RV}(h:rs.map core=b.map core):(rs.find? (fun r=>p (core r))).map core=(b.find? (fun r=>p (core r))).map core:=by
 have:=congrArg (List.find? p) h;rw[List.find?_map,List.find?_map]at this;exact this
def Nu(k:Int)(kn:List Nat)(x:List Nat×ByteArray):Bool:=AV k x.1&&decide (cnt (dropL x.1 kn)=1)
theorem SR(k:Int)(kn:List Nat):Cv k kn=fun r=>Nu k kn (core r):=rfl
theorem Wx{k:Int}{rs c:List RV}(h:rs.map core=c.map core):∀{j:Nat} {kn:List Nat} {bs:List ByteArray},Run k rs j kn bs->Run k c j kn bs
 |0,_,_,A=>A
 |j+1,kn,bs,⟨b,d,r,u,l,y,z⟩=>by
  have o:=TL (Nu k b) h;rw[SR]at l;rw[l]at o;obtain⟨f,e,n⟩:=Option.map_eq_some_iff.1 o.symm;have i:f.xs=r.xs:=congrArg Prod.fst n;have q:f.s=r.s:=congrArg Prod.snd n;refine⟨b,d,f,Wx h u,e,?_,?_⟩
  ·rw[y];unfold blkOf;rw[i]
  ·rw[z];unfold blkOf;rw[i,q]
theorem mu{k:Int}{b:List RV}(h:rs.map core=b.map core)(e:AM k rs kn bs):AM k b kn bs:=by
 obtain⟨⟨j,f⟩,d⟩:=e;refine⟨⟨j,Wx h f⟩,?_⟩;have c:=TL (Nu k kn) h;rw[SR]at d;rw[d]at c;exact Option.map_eq_none_iff.1 c.symm
def aV(k:Int)(kn:List Nat)(x:List Nat×ByteArray):Bool:=AV k x.1&& !decide (cnt (dropL x.1 kn)=0)&& !decide (cnt (dropL x.1 kn)=1)
theorem Wt(k:Int)(b:List RV)(kn:List Nat)(bs:List ByteArray):restL k b kn bs=((b.map core).filter (aV k kn)).map fun x=>(dropL x.1 kn,Do bs x.1 x.2):=by
 unfold restL;rw[List.filter_map,List.map_map];rfl
theorem iT{k:Int}{b:List RV}(h:rs.map core=b.map core):peelC k rs kn bs=peelC k b kn bs:=by
 unfold peelC;rw[Wt,Wt,h]
def Cp(k l:Int)(L:List (List Nat×ByteArray))(ob:ByteArray):Prop:=∃rs kn bs,rs.map core=L/\AM k rs kn bs/\ob=st ((joinL (solveC k (peelC k rs kn bs))).take l.toNat)
theorem Cp.uniq{k l:Int}{L:List (List Nat×ByteArray)}{b:ByteArray}(h:Cp k l L a)(g:Cp k l L b):a=b:=by
 obtain⟨rs,kn,bs,i,j,rfl⟩:=h;obtain⟨c,n,e,f,g2,rfl⟩:=g;have d:rs.map core=c.map core:=i.trans f.symm;obtain⟨rfl,rfl⟩:=(mu d j).uniq g2;rw[iT d]
theorem Cp.size{k l:Int}{L:List (List Nat×ByteArray)}(h:Cp k l L a):a.size<=l.toNat:=by
 obtain⟨rs,kn,bs,_,_,rfl⟩:=h;rw[Dw];exact List.length_take_le _ _
theorem SY{m:Nat}:∀{ss:List ByteArray},(∀s∈ss,s.size=m)->(joinL ss).length=ss.length*m
 |[],_=>by simp[joinL]
 |s::ss,h=>by
  have b:=SY (ss:=ss) fun t ht=>h t (List.mem_cons_of_mem _ ht);have c:=h s List.mem_cons_self;unfold joinL at*;rw[List.flatMap_cons,List.length_append,b,AU,c,List.length_cons,Nat.add_mul,Nat.one_mul,Nat.add_comm]
theorem VT{m:Nat}{L:List (List Nat×ByteArray)}:∀(ps:List Nat) (a:List Nat),(∀i∈ps,(L.getD i zC).2.size=m)->a.length=m\/(a.length<=m/\ps≠ [])->((Gv L ps).foldl (fun a s=>xorL a (tx s)) a).length=m
 |[],a,_,h=>by
  rcases h with h|h
  ·exact h
  ·exact absurd rfl h.2
 |i::ps,a,hp,h=>by
  unfold Gv;rw[List.map_cons,List.foldl_cons];refine VT ps _ (fun q b=>hp q (List.mem_cons_of_mem _ b)) (.inl ?_);have:=hp i List.mem_cons_self;rw[BY,AU,this];rcases h with h|h<;>omega
theorem fa{K:Nat}{L:List (List Nat×ByteArray)}(P:0<sizeOfK (K:Int))(s:Dc 1048576 L)(Q:L.length<=100000)(N:∀x∈L,AV (K:Int) x.1=true)(I:∀x∈L,x.2.size=m)
  (J:(Cj (vecsC L)).length=K) {b:Nat} (E:b<K):(blockC (K:Int) L b).size=m:=by
 have d:((b:Nat):Int)<(K:Int):=by omega
 have C:val (unitL (K:Int) (b:Int))=2^b:=La (Fm d) (I7 P d);have y:(unitL (K:Int) (b:Int)).length<=1048576:=by rw[JN d];have:=D6 (K:Int);omega
 have l:Ech.Sp ((vecsC (CE L)).map val) (val (unitL (K:Int) (b:Int))):=by
  rw[O1,MT s,C]
  have A:∀v∈vecsC L,AV (K:Int) v=true:=fun v z=>by
   obtain⟨x,O,rfl⟩:=List.mem_map.1 z;exact N x O
  exact(OS s A).2 (by rw[Int.toNat_natCast];exact J) b (by rw[Int.toNat_natCast];exact E)
 have e:=s.kept;have j:(vecsC (CE L)).length<=100000:=by
  rw[I6,Sg];have:=GM (vecsC L) L.length;omega
 obtain⟨c,o⟩:=Ud e l;have n:firstI (reduceL (broughtL (vecsC (CE L))) (unitL (K:Int) (b:Int)))<0:=(L1 e (Fm d) y).2 l;have r:exL (vecsC (CE L)) (unitL (K:Int) (b:Int))=exprL (vecsC (CE L)) (unitL (K:Int) (b:Int)):=by unfold exL;rw[if_pos n]
 unfold blockC;rw[r,Dw];have q:=NO e j (Fm d) o;have h:val (En (vecsC (CE L)) (exprL (vecsC (CE L)) (unitL (K:Int) (b:Int))))=2^b:=by
  rw[q,<-C];exact o.sum e
 have f:=WQ _ e j (Fm d) o;refine VT _ [] (fun i H=>?_) (.inr ⟨Nat.zero_le _,fun u=>?_⟩)
 ·have f:=f i H
  rw[I6]at f;rw[List.getD_eq_getElem?_getD,List.getElem?_eq_getElem f];exact I _ (Vk (List.getElem_mem f))
 ·rw[u]at h
  have D:val (En (vecsC (CE L)) [])=0:=by simp[En,val]
  rw[D]at h;have:=Nat.two_pow_pos b;omega
theorem ln{K:Nat}(n:AM (K:Int) rs kn bs)(e:Dm rs)(N:∀r∈rs,r.xs.length<=10)(T:rs.length<=300)(l:0<sizeOfK (K:Int))(J:∀r∈rs,AV (K:Int) r.xs=true)(O:∀r∈rs,r.s.size=m)(Q:CZ (rs.map core)=K):
  Ef (K:Int) (peelC (K:Int) rs kn bs)=true/\(solveC (K:Int) (peelC (K:Int) rs kn bs)).length=K/\∀s∈solveC (K:Int) (peelC (K:Int) rs kn bs),s.size=m:=by
 have d:=S9 n e;have R:=D6 (K:Int);have I:=D8 l;obtain⟨j,L⟩:=n.kn e l
 have u:Dc 1048576 (peelC (K:Int) rs kn bs):=fun v J=>by
  obtain⟨x,c,rfl⟩:=List.mem_map.1 J;refine⟨?_,by have:=(Gg (d x c)).2.1;omega⟩;unfold peelC at c;rcases List.mem_append.1 c with c|c
  ·obtain⟨b,q,_,rfl⟩:=Iu L c
   exact Fm (by omega)
  ·unfold restL at c
   obtain⟨r,f,rfl⟩:=List.mem_map.1 c;exact Hj (e r (List.mem_filter.1 f).1).1 _
 have E:(peelC (K:Int) rs kn bs).length<=100000:=by
  unfold peelC toldTo restL;rw[List.length_append,List.length_map,List.length_map];have o:=List.length_filter_le (fun b=>Ai kn b) (List.range (K:Int).toNat);have S:=List.length_filter_le (FU (K:Int) kn) rs;rw[List.length_range]at o;omega
 have z:AC 1048576 (vecsL rs):=by
  have:=L4 e N (fun _=>true);rwa[List.filter_eq_self.2 (fun _ _=>rfl)]at this
 have y:(rs.filter fun r=>AV (K:Int) r.xs)=rs:=List.filter_eq_self.2 J;have f:(Cj (vecsC (peelC (K:Int) rs kn bs))).length=K:=by
  have o:(Cj (vecsC (peelC (K:Int) rs kn bs))).length=Hv (K:Int) rs:=Xd u (L4 e N _) (TE n e);rw[o];unfold Hv;rw[y,<-Me z,KO,<-Q,<-LU];rfl
 have D:(keepL (vecsC (peelC (K:Int) rs kn bs)) (peelC (K:Int) rs kn bs).length).length=K:=by
  have:=Me u;rw[I6]at this;exact this.trans f
 have h:Ef (K:Int) (peelC (K:Int) rs kn bs)=true:=by
  unfold Ef;rw[decide_eq_true l,Bool.true_and,D];exact decide_eq_true (Int.le_refl _)
 obtain⟨⟨V,C⟩,_⟩:=id n;obtain⟨s1,s2⟩:=OU l e O C
 have H:∀x∈peelC (K:Int) rs kn bs,x.2.size=m:=fun x c=>by
  unfold peelC at c;rcases List.mem_append.1 c with c|c
  ·obtain⟨b,q,A,rfl⟩:=Iu L c
   exact s1 b A
  ·unfold restL at c
   obtain⟨r,f,rfl⟩:=List.mem_map.1 c;exact OY s2 (O r (List.mem_filter.1 f).1)
 have P:solveC (K:Int) (peelC (K:Int) rs kn bs)=(List.range K).map (blockC (K:Int) (peelC (K:Int) rs kn bs)):=by
  unfold solveC;rw[if_pos h,Int.toNat_natCast]
 refine⟨h,by rw[P,List.length_map,List.length_range],fun s i=>?_⟩;rw[P]at i;obtain⟨b,q,rfl⟩:=List.mem_map.1 i;exact fa l u E d H f (List.mem_range.1 q)
structure DS where
 bg:Bool
 o:Int
 l:Int
 k:Int
 z:Int
 L:List (List Nat×ByteArray)
 ov:Bool
 dn:Bool
 ob:ByteArray
def C9:DS:=⟨false,0,0,0,0,[],false,false,⟨#[]⟩⟩
def DG(p:PKV):Bool:=decide (((1<=p.k/\p.k<=128)/\1<=p.z/\p.z<=64)/\(0<=p.o/\p.o<=4294967295)/\(0<=p.l/\p.l<=p.k*p.z)/\0<=p.h/\p.h<=15)&&Cb p.k p.z (p.r.xs,p.r.s)
theorem oM{k z:Int}:Cb k z x=true↔JZ k z x.1 x.2.size:=by
 unfold Cb JZ;rw[Bool.and_eq_true,Bool.and_eq_true,Hc,decide_eq_true_iff,decide_eq_true_iff,and_assoc]
theorem Xk:DG p=true↔Ci p.o p.l p.k p.z p.h p.r.xs p.r.s.size:=by
 unfold DG Ci;rw[Bool.and_eq_true,decide_eq_true_iff,oM];rfl
theorem QS(p:PKV):ER (if DG p=true then 0 else 1) (Ci p.o p.l p.k p.z p.h p.r.xs p.r.s.size):=by
 by_cases h:DG p=true
 ·rw[if_pos h];exact .inl ⟨Xk.1 h,rfl⟩
 ·rw[if_neg h];exact .inr ⟨fun b=>h (Xk.2 b),rfl⟩
def Le(s:DS)(p:PKV):Bool:=decide (p.o=s.o/\p.l=s.l/\p.k=s.k/\p.z=s.z)
def Dn(s:DS)(p:PKV):Bool:=DG p&&(!s.bg||Le s p)
def Cy(s:DS)(p:PKV):DS:=if s.bg=true then s else⟨true,p.o,p.l,p.k,p.z,[],false,false,⟨#[]⟩⟩
def Gu(M:Int)(s:DS)(x:List Nat×ByteArray):Bool:= !s.dn&&(decide (s.L.length<capN M)&&decide ((CZ (s.L++[x]):Int)=s.k))
def DT(M:Int)(s:DS)(x:List Nat×ByteArray)(ob:ByteArray):DS:=
 if s.dn=true then s
 else if s.L.length<capN M then(if (CZ (s.L++[x]):Int)=s.k then{s with L:=s.L++[x],dn:=true,ob:=ob}else{s with L:=s.L++[x]})
 else{s with ov:=true}
def FS(M:Int)(s:DS):Int:=if s.dn=true then 0 else if s.L.length<capN M then 0 else 5
def FX(M:Int)(s:DS)(p:PKV)(ob:ByteArray):DS:=if Dn s p=true then DT M (Cy s p) (p.r.xs,p.r.s) ob else s
def Ln(M:Int)(s:DS)(p:PKV):Int:=if Dn s p=true then FS M (Cy s p)else 1
def AT(M:Int)(s:DS)(x:List Nat×ByteArray)(ob:ByteArray):Prop:=Gu M s x=true->Cp s.k s.l (s.L++[x]) ob
theorem KX{s:DS}{ob:ByteArray}(h:s.dn=true):DT M s x ob=s/\FS M s=0:=by
 unfold DT FS;rw[if_pos h,if_pos h];exact⟨rfl,rfl⟩
theorem JF{s:DS}{ob:ByteArray}(h:s.dn=false)(b:s.L.length<capN M)(c:(CZ (s.L++[x]):Int)=s.k):DT M s x ob={s with L:=s.L++[x],dn:=true,ob:=ob}/\FS M s=0/\Gu M s x=true:=by
 unfold DT FS Gu;rw[h,if_neg (by decide),if_pos b,if_pos c,if_neg (by decide),if_pos b,decide_eq_true b,decide_eq_true c];exact⟨rfl,rfl,rfl⟩
theorem KY{s:DS}{ob:ByteArray}(h:s.dn=false)(b:s.L.length<capN M)(c:¬(CZ (s.L++[x]):Int)=s.k):DT M s x ob={s with L:=s.L++[x]}/\FS M s=0/\Gu M s x=false:=by
 unfold DT FS Gu;rw[h,if_neg (by decide),if_pos b,if_neg c,if_neg (by decide),if_pos b,decide_eq_true b,decide_eq_false c];exact⟨rfl,rfl,rfl⟩
theorem KC{s:DS}{ob:ByteArray}(h:s.dn=false)(b:¬s.L.length<capN M):DT M s x ob={s with ov:=true}/\FS M s=5/\Gu M s x=false:=by
 unfold DT FS Gu;rw[h,if_neg (by decide),if_neg b,if_neg (by decide),if_neg b,decide_eq_false b];exact⟨rfl,rfl,rfl⟩
theorem md{s:DS}(h:s.dn=true):Gu M s x=false:=by
 unfold Gu;rw[h];rfl
theorem iq{s:DS}(h:Gu M s x=false)(a b:ByteArray):DT M s x a=DT M s x b:=by
 cases c:s.dn
 ·by_cases d:s.L.length<capN M
  ·by_cases e:(CZ (s.L++[x]):Int)=s.k
   ·rw[(JF (ob:=a) c d e).2.2]at h;cases h
   ·rw[(KY (ob:=a) c d e).1,(KY (ob:=b) c d e).1]
  ·rw[(KC (x:=x) (ob:=a) c d).1,(KC (x:=x) (ob:=b) c d).1]
 ·rw[(KX c).1,(KX c).1]
theorem AT.uniq{s:DS}{b:ByteArray}(c:AT M s x a)(d:AT M s x b):DT M s x a=DT M s x b:=by
 cases h:Gu M s x
 ·exact iq h a b
 ·rw[(c h).uniq (d h)]
structure BZ(s:DS):Prop where
 bg:s.bg=true
 sh:((1<=s.k/\s.k<=128)/\1<=s.z/\s.z<=64)/\0<=s.l/\s.l<=s.k*s.z
 fit:∀x∈s.L,Cb s.k s.z x=true
 dn:s.dn=true↔(CZ s.L:Int)=s.k
 ob:s.dn=false->s.ob=⟨#[]⟩
 obs:s.ob.size<=8192
theorem BZ.lz{s:DS}(h:BZ s):s.l.toNat<=8192:=by
 have:=Qo (k:=s.k) (z:=s.z) h.sh.1;have:=h.sh.2;omega
theorem BZ.keep{s:DS}(h:BZ s){x:List Nat×ByteArray}(n:Cb s.k s.z x=true){ob:ByteArray}(l:AT M s x ob):BZ (DT M s x ob):=by
 have b:∀y∈s.L++[x],Cb s.k s.z y=true:=fun y f=>by
  rcases List.mem_append.1 f with f|f
  ·exact h.fit y f
  ·rw[List.mem_singleton.1 f];exact n
 cases c:s.dn
 ·by_cases i:s.L.length<capN M
  ·by_cases d:(CZ (s.L++[x]):Int)=s.k
   ·have o:=(l (JF (ob:=ob) c i d).2.2).size
    rw[(JF c i d).1];exact⟨h.bg,h.sh,b,⟨fun _=>d,fun _=>rfl⟩,(fun e=>by cases e),Nat.le_trans o h.lz⟩
   ·rw[(KY c i d).1]
    exact⟨h.bg,h.sh,b,⟨(fun e=>by have j:s.dn=true:=e;rw[c]at j;cases j),fun e=>absurd e d⟩,h.ob,h.obs⟩
  ·rw[(KC c i).1]
   exact⟨h.bg,h.sh,h.fit,h.dn,h.ob,h.obs⟩
 ·rw[(KX c).1];exact h
theorem mM:CZ []=0:=rfl
theorem PG{s:DS}(h:Dn s p=true):DG p=true/\Cb (Cy s p).k (Cy s p).z (p.r.xs,p.r.s)=true/\(Cy s p).bg=true:=by
 unfold Dn at h;rw[Bool.and_eq_true,Bool.or_eq_true]at h;obtain⟨d,b⟩:=h;have c:=d;unfold DG at c;rw[Bool.and_eq_true]at c;refine⟨d,?_⟩;unfold Cy;cases e:s.bg
 ·rw[if_neg (by decide)];exact⟨c.2,rfl⟩
 ·rw[if_pos rfl]
  rw[e]at b;rcases b with b|b
  ·cases b
  ·unfold Le at b
   obtain⟨_,_,f,i⟩:=decide_eq_true_iff.1 b;rw[<-f,<-i];exact⟨c.2,e⟩
theorem BZ.beg{s:DS}(h:s.bg=true->BZ s)(hp:DG p=true):BZ (Cy s p):=by
 unfold Cy;cases d:s.bg
 ·rw[if_neg (by decide)]
  unfold DG at hp;rw[Bool.and_eq_true]at hp;obtain⟨b,i,a3,a4⟩:=decide_eq_true_iff.1 hp.1;exact⟨rfl,⟨b,a3⟩,(fun x f=>by cases f),⟨(fun e=>by cases e),(fun e=>by have c:(CZ []:Int)=p.k:=e;rw[mM]at c;omega)⟩,(fun _=>rfl),Nat.zero_le _⟩
 ·rw[if_pos rfl];exact h d
theorem Aw.tu{F:Nat->Prop}{k z:Int}{ov:Bool}(h:Aw w g B k z m v rs ov)(ht:Tu F w w')(c:∀j,C1 g v j->¬F j)(e:∀j b,w.heap[j]? =some (.cells b 265 (0,0))->¬F j):Aw w' g B k z m v rs ov:=
 ⟨h.blk.tu ht (c g (.inl rfl)),h.lo,h.own.tu ht (fun j d=>c j (.inr d)),h.rows.tu ht e,h.le,h.most,h.short⟩
def Jo(M:Int)(s:DS)(p:Option Addr):List Value:=[.int .i64 M,.int .i64 s.o,.int .i64 s.l,.int .i64 s.k,.int .i64 s.z,.pointer p,.bool s.dn,.string s.ob]
def F0(b:Bool)(gs:Nat):Option Addr:=if b=true then some ⟨gs,0,none⟩else none
def CH(g gs:Nat)(v:Value)(k:Nat):Prop:=k=g\/C1 gs v k
structure An(w:World)(g B:Nat)(M:Int)(s:DS)(gs:Nat)(v:Value)(rs:List RV):Prop where
 blk:BkA 174 w g (Jo M s (F0 s.bg gs))
 lo:B<=g
 begun:s.bg=true->Aw w gs B s.k s.z (capN M) v rs s.ov/\BZ s
 fresh:s.bg=false->s=C9/\v=.slice none 0 0/\gs=g
 co:rs.map core=s.L
theorem An.below{s:DS}(h:An w g B M s gs v rs)(b:Below w.heap.size w w'):An w' g B M s gs v rs:=
 ⟨h.blk.below b,h.lo,fun e=>⟨(h.begun e).1.below b,(h.begun e).2⟩,h.fresh,h.co⟩
theorem An.lt{s:DS}(h:An w g B M s gs v rs):g<w.heap.size:=h.blk.lt
theorem An.lob{s:DS}(h:An w g B M s gs v rs):B<=w.heap.size:=Nat.le_of_lt (Nat.lt_of_le_of_lt h.lo h.lt)
theorem An.mono{B':Nat}{s:DS}(h:An w g B M s gs v rs)(b:B'<=B):An w g B' M s gs v rs:=
 ⟨h.blk,Nat.le_trans b h.lo,fun e=>⟨(h.begun e).1.mono b,(h.begun e).2⟩,h.fresh,h.co⟩
theorem An.low{s:DS}(h:An w g B M s gs v rs):∀j,j<B->¬CH g gs v j:=fun j d b=>by
 have e:=h.lo;rcases b with rfl|b
 ·omega
 ·cases c:s.bg
  ·obtain⟨_,rfl,rfl⟩:=h.fresh c
   rcases b with rfl|b
   ·omega
   ·cases b
  ·exact(h.begun c).1.low j d b
theorem An.keeps{s:DS}(h:An w g B M s gs v rs)(ht:Tu (CH g gs v) w w'):Below B w w':=ht.below h.lob h.low
theorem An.step{w0:World}{s:DS}(h:An w g B M s gs v rs)(b:Below B w0 w)(ht:Tu (CH g gs v) w w'):Below B w0 w':=b.trans (h.keeps ht)
theorem An.words{s:DS}(h:An w g B M s gs v rs):∀j b,w.heap[j]? =some (.cells b 265 (0,0))->¬CH g gs v j:=fun j b d c=>by
 rcases c with rfl|c
 ·exact h.blk.ne d (by decide) rfl
 ·cases e:s.bg
  ·obtain⟨_,rfl,rfl⟩:=h.fresh e
   rcases c with rfl|c
   ·exact h.blk.ne d (by decide) rfl
   ·cases c
  ·exact(h.begun e).1.words j b d c
theorem An.out{s:DS}(h:An w g B M s gs v rs){T:TypeId}{p:Nat}{c:Array Value}{l:Nat×Nat}(hp:w.heap[p]? =some (.cells c T l))(f:174≠T)(n:225≠T)(o:73≠T):¬CH g gs v p:=fun b=>by
 rcases b with rfl|b
 ·exact h.blk.ne hp f rfl
 ·cases i:s.bg
  ·obtain⟨_,rfl,rfl⟩:=h.fresh i
   rcases b with rfl|b
   ·exact h.blk.ne hp f rfl
   ·cases b
  ·have j:=(h.begun i).1
   rcases b with rfl|b
   ·have:=j.blk
    unfold Bj at this;rw[this]at hp;simp only[Option.some.injEq,Obj.cells.injEq]at hp;exact n hp.2.1
   ·obtain⟨e,d⟩:=j.own.blk5 b
    rw[d]at hp;simp only[Option.some.injEq,Obj.cells.injEq]at hp;exact o hp.2.1
def Mv(w:World)(gs:Nat)(v:Value)(b:Nat)(v':Value):Prop:=(b=gs\/w.heap.size<=b)/\(v'.ownBlock=v.ownBlock\/∀j,v'.ownBlock=some j->w.heap.size<=j)
theorem Mv.refl(w:World)(gs:Nat)(v:Value):Mv w gs v gs v:=⟨.inl rfl,.inl rfl⟩
theorem Mv.at{b:Nat}{v':Value}(h:Mv w gs v b v')(g j:Nat)(d:j<w.heap.size)(c:CH g b v' j):CH g gs v j:=by
 rcases c with rfl|rfl|c
 ·exact .inl rfl
 ·rcases h.1 with e|e
  ·exact .inr (.inl e)
  ·omega
 ·rcases h.2 with e|e
  ·exact .inr (.inr (e▸c))
  ·have:=e j c;omega
theorem Mv.trans{b:Nat}{c:Value}(h:Mv w gs v gs1 v1)(k:Mv w1 gs1 v1 b c)(f:w.heap.size<=w1.heap.size):Mv w gs v b c:=by
 refine⟨?_,?_⟩
 ·rcases k.1 with e|e
  ·rw[e];exact h.1
  ·exact .inr (by omega)
 ·rcases k.2 with e|e
  ·rw[e];exact h.2
  ·exact .inr fun j d=>Nat.le_trans f (e j d)
theorem Mv.new(h:Mv w1 gs v gs1 v1)(b:w.heap.size<=w1.heap.size):Mv w gs v gs1 v1:=(Mv.refl w gs v).trans h b
theorem qp{w2:World}(h:Tu (CH g gs v) w w1)(k:Tu (CH g gs1 v1) w1 w2)(d:Mv w gs v gs1 v1):Tu (CH g gs v) w w2:=h.trans k fun j c b=>d.at g j c b
theorem aO(w:World)(M:Int):An (w.alloc (.cells #[.int .i64 M,.int .i64 0,.int .i64 0,.int .i64 0,.int .i64 0,.pointer none,.bool false,.string ⟨#[]⟩] 174)) w.heap.size w.heap.size M C9 w.heap.size (.slice none 0 0) []:=
 ⟨AN 174 w (Jo M C9 none),Nat.le_refl _,(fun e=>by cases e),(fun _=>⟨rfl,rfl,rfl⟩),rfl⟩
theorem An.cells{s:DS}(h:An w g B M s gs v rs):
  w.cell? ⟨g,0,none⟩=some (.int .i64 M)/\w.cell? ⟨g,1,none⟩=some (.int .i64 s.o)/\w.cell? ⟨g,2,none⟩=some (.int .i64 s.l)/\w.cell? ⟨g,3,none⟩=some (.int .i64 s.k)/\w.cell? ⟨g,4,none⟩=some (.int .i64 s.z)/\
   w.cell? ⟨g,5,none⟩=some (.pointer (F0 s.bg gs))/\w.cell? ⟨g,6,none⟩=some (.bool s.dn)/\w.cell? ⟨g,7,none⟩=some (.string s.ob):=
 ⟨h.blk.at 0 rfl,h.blk.at 1 rfl,h.blk.at 2 rfl,h.blk.at 3 rfl,h.blk.at 4 rfl,h.blk.at 5 rfl,h.blk.at 6 rfl,h.blk.at 7 rfl⟩
variable {k:Nat}
theorem gQ(xs:List Nat)(i j:Nat)(h:i<64*xs.length):Ai (BE xs i true) j=(decide (j=i)||Ai xs j):=by
 have f:i/64<xs.length:=by omega
 unfold Ai BE setW;rw[DZ];by_cases d:j/64=i/64
 ·rw[if_pos ⟨d,f⟩,d]
  by_cases l:j%64=i%64
  ·have b:j=i:=by omega
   subst b;split
   ·rename_i c;rw[c];simp
   ·rename_i c;rw[Nat.testBit_xor,Nat.testBit_two_pow];simp at c;simp[c]
  ·have b:decide (j=i)=false:=by simp;omega
   have e:decide (i%64=j%64)=false:=by simp;omega
   split
   ·rw[b];rfl
   ·rw[Nat.testBit_xor,Nat.testBit_two_pow,b,e];simp
 ·have b:decide (j=i)=false:=by simp;omega
  rw[if_neg (fun k=>d k.1),b];rfl
theorem fF(n i:Nat):Ai (List.replicate n 0) i=false:=by
 unfold Ai;have:(List.replicate n 0).getD (i/64) 0=0:=by
  rw[List.getD_eq_getElem?_getD,List.getElem?_replicate];split<;>rfl
 rw[this];simp
def Em(k:Nat)(ns:List Nat):List Nat:=ns.foldl (fun v i=>BE v i true) (List.replicate (sizeOfK (k:Int)) 0)
theorem qz(k:Nat):Em k []=List.replicate (sizeOfK (k:Int)) 0:=rfl
theorem mT(k:Nat)(ns:List Nat)(i:Nat):Em k (ns++[i])=BE (Em k ns) i true:=by simp[Em,List.foldl_append]
theorem mU(k:Nat)(ns:List Nat)(j:Nat)(h:j<ns.length):Em k (ns.take (j+1))=BE (Em k (ns.take j)) (ns.getD j 0) true:=by
 rw[List.take_succ_eq_append_getElem h,mT];simp[List.getD_eq_getElem?_getD,List.getElem?_eq_getElem h]
theorem SM(b:1<=k)(c:k<=128):sizeOfK (k:Int)=(k+63)/64:=by
 unfold sizeOfK;rw[if_neg (by omega)];omega
theorem U8:∀(ns v:List Nat),(ns.foldl (fun v i=>BE v i true) v).length=v.length
 |[],_=>rfl
 |i::ns,v=>by rw[List.foldl_cons,U8 ns,Ir]
theorem LP(k:Nat)(ns:List Nat):(Em k ns).length=sizeOfK (k:Int):=by rw[Em,U8,List.length_replicate]
theorem eQ(n:Nat):Ac (List.replicate n 0):=by
 intro x b;rw[(List.mem_replicate.1 b).2];show 0<18446744073709551616;decide
theorem VO:∀(ns v:List Nat) (j:Nat),(∀i∈ns,i<64*v.length)->Ai (ns.foldl (fun v i=>BE v i true) v) j=(decide (j∈ns)||Ai v j)
 |[],v,j,_=>by simp
 |i::ns,v,j,h=>by
  rw[List.foldl_cons,VO ns _ j (fun x d=>by rw[Ir];exact h x (by simp[d])),gQ v i j (h i (by simp))];by_cases b:j∈ns<;>by_cases c:j=i<;>simp[b,c]
theorem Ww{ns:List Nat}(b:1<=k)(c:k<=128)(h:∀i∈ns,i<k)(j:Nat):Ai (Em k ns) j=decide (j∈ns):=by
 rw[Em,VO ns _ j (fun i d=>by have:=h i d;rw[List.length_replicate,SM b c];omega),fF];simp
theorem iF{ns:List Nat}(b:1<=k)(c:k<=128)(h:∀i∈ns,i<k):Cq (k:Int) (Em k ns):=by
 refine⟨by rw[LP,SM b c];omega,LP _ _,fun i e=>?_⟩;rw[Ww b c h,decide_eq_false_iff_not];intro d;have:=h i d;omega
theorem pT{xs:List Nat}{i:Nat}(h:Ai xs i=true):0<cnt xs:=by
 rcases Nat.eq_zero_or_pos (cnt xs)with b|b
 ·exfalso
  have c:BJ xs 0=cnt xs:=by rw[b];rfl
  rw[(Pl xs 0).1 c i (Nat.zero_le _)]at h;cases h
 ·exact b
def NB(k s x:Nat):Nat:=pickD (tableL k s) x
theorem YQ(k s x:Nat)(b:1<=k)(c:s<=128):1<=NB k s x/\NB k s x<=k:=by
 have:=rh (jl k s b c) x;rw[Hb]at this;exact this
def degL(k s:Nat)(L:List Nat)(N:Nat):Nat:=NB k s (BN L (N+1))
def Dj(k s:Nat)(L:List Nat)(N:Nat):List Nat:=Em k (Di L (N+1) k (degL k s L N))
def Nv(k s:Nat)(L:List Nat)(N:Nat):Nat:=N+1+degL k s L N
theorem PA(k s:Nat)(L:List Nat)(N:Nat)(b:1<=k)(c:s<=128):1<=degL k s L N/\degL k s L N<=k:=YQ k s _ b c
theorem YR(k s:Nat)(L:List Nat)(N:Nat)(b:1<=k)(c:s<=128):min ((degL k s L N:Nat):Int).toNat k=degL k s L N:=by
 have:=PA k s L N b c;omega
theorem O7(L:List Nat)(N n k i:Nat)(h:i∈Di L N n k):i<n:=by
 unfold Di at h;exact List.mem_range.1 (List.mem_filter.1 h).1
theorem fC(k s:Nat)(L:List Nat)(N:Nat):(Dj k s L N).length=sizeOfK (k:Int):=LP _ _
theorem jx(k s:Nat)(L:List Nat)(N:Nat)(b:1<=k)(c:k<=128):Cq (k:Int) (Dj k s L N):=iF b c fun i d=>O7 _ _ _ _ i d
theorem Uw(k s:Nat)(L:List Nat)(N:Nat)(b:1<=k)(f:k<=128)(n:s<=128):∃i,i<k/\Ai (Dj k s L N) i=true:=by
 have h:=PA k s L N b n;have c:=RU L (N+1) k (degL k s L N) h.2;obtain⟨i,o,j⟩:=List.exists_cons_of_ne_nil (show Di L (N+1) k (degL k s L N)≠ [] from fun e=>by rw[e]at c;simp at c;omega);have d:i∈Di L (N+1) k (degL k s L N):=by rw[j];simp
 refine⟨i,O7 _ _ _ _ i d,?_⟩;rw[Dj,Ww b f (fun i l=>O7 _ _ _ _ i l)];exact decide_eq_true d
theorem XM(k s:Nat)(L:List Nat)(N:Nat)(b:1<=k)(c:k<=128)(e:s<=128):0<cnt (Dj k s L N):=by
 obtain⟨i,_,d⟩:=Uw k s L N b c e;exact pT d
theorem Uc(ss:List ByteArray)(vs:List Nat)(z:Nat)(h:∀i,i<ss.length->(ss.getD i ByteArray.empty).size=z):∀n,n<=ss.length->((∃i,i<n/\Ai vs i=true)->(Br ss vs n).length=z)/\((Br ss vs n).length=0\/(Br ss vs n).length=z)
 |0,_=>⟨fun⟨i,l,_⟩=>by omega,.inl rfl⟩
 |n+1,o=>by
  obtain⟨f,b⟩:=Uc ss vs z h n (by omega);cases d:Ai vs n
  ·rw[QQ d]
   refine⟨fun⟨i,l,c⟩=>f ⟨i,?_,c⟩,b⟩;rcases Nat.lt_or_ge i n with e|j
   ·exact e
   ·obtain rfl:i=n:=by omega
    rw[d]at c;cases c
  ·rw[Xh d,BY,AU,h n (by omega)]
   have:max (Br ss vs n).length z=z:=by rcases b with b|b<;>omega
   exact⟨fun _=>this,.inr this⟩
theorem pM(xs:List Nat)(z k i:Nat)(h:i<k):((Bw xs z k).getD i ByteArray.empty).size=z:=by rw[Su xs z k i h,Dw,Og]
theorem Zz(xs:List Nat)(z k s:Nat)(L:List Nat)(N:Nat)(c:1<=k)(d:k<=128)(e:s<=128):(st (Br (Bw xs z k) (Dj k s L N) k)).size=z:=by
 rw[Dw];refine(Uc (Bw xs z k) (Dj k s L N) z (fun i b=>?_) k (by rw[IX];exact Nat.le_refl _)).1 (Uw k s L N c d e);rw[IX]at b;exact pM xs z k i b
theorem Yc(o len z k s:Nat)(xs:List Nat)(L:List Nat)(N:Nat)(i:o<=4294967295)(e:1<=z)(f:z<=64)(b:1<=k)(c:k<=128)(d:s<=128)(h:len<=k*z):
  Ci (o:Int) (len:Int) (k:Int) (z:Int) 0 (Dj k s L N) (st (Br (Bw xs z k) (Dj k s L N) k)).size:=by
 refine⟨⟨⟨⟨by omega,by omega⟩,by omega,by omega⟩,⟨by omega,by omega⟩,⟨by omega,?_⟩,by omega,by omega⟩,jx k s L N b c,XM k s L N b c d,?_⟩
 ·have:((k:Int)*(z:Int))=((k*z:Nat):Int):=by simp
  rw[this];omega
 ·rw[Zz xs z k s L N b c d]
end Go.Proofs.YtfpmnekaockodaaGreatDoor
