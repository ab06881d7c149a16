/-
  Laws that the proof stands on.
-/
import Derived.Test.YtfpmnekaockodaaGreatDoorU28
namespace Go.Proofs.YtfpmnekaockodaaGreatDoor
open Go.RowKit Go.Sort
set_option linter.unusedVariables false
set_option linter.unusedSimpArgs false
set_option maxRecDepth 4000
set_option maxHeartbeats 8000000
variable {a:ByteArray}{M:Int}{bs:List ByteArray}{kn:List Nat}{x:List Nat×ByteArray}{rs:List RV}{m g B gs gs1:Nat}{p:PKV}{v v1:Value}{w w' w1:World}
theorem Uo(p:List Nat×ByteArray->Bool){rs b:List RV}(h:rs.map core=b.map core):(rs.find? (fun r=>p (core r))).map core=(b.find? (fun r=>p (core r))).map core:=by
 have:=congrArg (List.find? p) h;rw[List.find?_map,List.find?_map]at this;exact this
def Nn(k:Int)(kn:List Nat)(x:List Nat×ByteArray):Bool:=AU k x.1&&decide (cnt (dropL x.1 kn)=1)
theorem Tl(k:Int)(kn:List Nat):Cv k kn=fun r=>Nn k kn (core r):=rfl
theorem Wj{k:Int}{rs c:List RV}(h:rs.map core=c.map core):∀{j:Nat} {kn:List Nat} {bs:List ByteArray},Run k rs j kn bs->Run k c j kn bs
 |0,_,_,A=>A
 |j+1,kn,bs,⟨b,d,r,u,l,y,z⟩=>by
  have o:=Uo (Nn k b) h;rw[Tl]at l;rw[l]at o;obtain⟨f,e,n⟩:=Option.map_eq_some_iff.1 o.symm;have i:f.xs=r.xs:=congrArg Prod.fst n;have q:f.s=r.s:=congrArg Prod.snd n;refine⟨b,d,f,Wj h u,e,?_,?_⟩
  ·rw[y];unfold blkOf;rw[i]
  ·rw[z];unfold blkOf;rw[i,q]
theorem mS{k:Int}{b:List RV}(h:rs.map core=b.map core)(e:AM k rs kn bs):AM k b kn bs:=by
 obtain⟨⟨j,f⟩,d⟩:=e;refine⟨⟨j,Wj h f⟩,?_⟩;have c:=Uo (Nn k kn) h;rw[Tl]at d;rw[d]at c;exact Option.map_eq_none_iff.1 c.symm
def bF(k:Int)(kn:List Nat)(x:List Nat×ByteArray):Bool:=AU k x.1&& !decide (cnt (dropL x.1 kn)=0)&& !decide (cnt (dropL x.1 kn)=1)
theorem Wf(k:Int)(b:List RV)(kn:List Nat)(bs:List ByteArray):restL k b kn bs=((b.map core).filter (bF k kn)).map fun x=>(dropL x.1 kn,Do bs x.1 x.2):=by
 unfold restL;rw[List.filter_map,List.map_map];rfl
theorem gv{k:Int}{b:List RV}(h:rs.map core=b.map core):peelC k rs kn bs=peelC k b kn bs:=by
 unfold peelC;rw[Wf,Wf,h]
def Cq(k l:Int)(L:List (List Nat×ByteArray))(ob:ByteArray):Prop:=∃rs kn bs,rs.map core=L/\AM k rs kn bs/\ob=st ((joinL (solveC k (peelC k rs kn bs))).take l.toNat)
theorem Cq.uniq{k l:Int}{L:List (List Nat×ByteArray)}{b:ByteArray}(h:Cq k l L a)(g:Cq k l L b):a=b:=by
 obtain⟨rs,kn,bs,i,j,rfl⟩:=h;obtain⟨c,n,e,f,g2,rfl⟩:=g;have d:rs.map core=c.map core:=i.trans f.symm;obtain⟨rfl,rfl⟩:=(mS d j).uniq g2;rw[gv d]
theorem Cq.size{k l:Int}{L:List (List Nat×ByteArray)}(h:Cq k l L a):a.size<=l.toNat:=by
 obtain⟨rs,kn,bs,_,_,rfl⟩:=h;rw[Dx];exact List.length_take_le _ _
theorem Sn{m:Nat}:∀{ss:List ByteArray},(∀s∈ss,s.size=m)->(joinL ss).length=ss.length*m
 |[],_=>by simp[joinL]
 |s::ss,h=>by
  have b:=Sn (ss:=ss) fun t ht=>h t (List.mem_cons_of_mem _ ht);have c:=h s List.mem_cons_self;unfold joinL at*;rw[List.flatMap_cons,List.length_append,b,AT,c,List.length_cons,Nat.add_mul,Nat.one_mul,Nat.add_comm]
theorem Wu{m:Nat}{L:List (List Nat×ByteArray)}:∀(ps:List Nat) (a:List Nat),(∀i∈ps,(L.getD i zC).2.size=m)->a.length=m\/(a.length<=m/\ps≠ [])->((Gp L ps).foldl (fun a s=>xorL a (tx s)) a).length=m
 |[],a,_,h=>by
  rcases h with h|h
  ·exact h
  ·exact absurd rfl h.2
 |i::ps,a,hp,h=>by
  unfold Gp;rw[List.map_cons,List.foldl_cons];refine Wu ps _ (fun q b=>hp q (List.mem_cons_of_mem _ b)) (.inl ?_);have:=hp i List.mem_cons_self;rw[BY,AT,this];rcases h with h|h<;>omega
theorem ey{K:Nat}{L:List (List Nat×ByteArray)}(P:0<sizeOfK (K:Int))(s:Dc 1048576 L)(Q:L.length<=100000)(N:∀x∈L,AU (K:Int) x.1=true)(I:∀x∈L,x.2.size=m)
  (J:(Ck (vecsC L)).length=K) {b:Nat} (E:b<K):(blockC (K:Int) L b).size=m:=by
 have d:((b:Nat):Int)<(K:Int):=by omega
 have C:val (unitL (K:Int) (b:Int))=2^b:=K5 (Ff d) (I3 P d);have y:(unitL (K:Int) (b:Int)).length<=1048576:=by rw[JG d];have:=DY (K:Int);omega
 have l:Ech.Sp ((vecsC (CE L)).map val) (val (unitL (K:Int) (b:Int))):=by
  rw[OX,MM s,C]
  have A:∀v∈vecsC L,AU (K:Int) v=true:=fun v z=>by
   obtain⟨x,O,rfl⟩:=List.mem_map.1 z;exact N x O
  exact(OO s A).2 (by rw[Int.toNat_natCast];exact J) b (by rw[Int.toNat_natCast];exact E)
 have e:=s.kept;have j:(vecsC (CE L)).length<=100000:=by
  rw[I2,Sa];have:=GC (vecsC L) L.length;omega
 obtain⟨c,o⟩:=Tp e l;have n:firstI (reduceL (broughtL (vecsC (CE L))) (unitL (K:Int) (b:Int)))<0:=(LW e (Ff d) y).2 l;have r:exL (vecsC (CE L)) (unitL (K:Int) (b:Int))=exprL (vecsC (CE L)) (unitL (K:Int) (b:Int)):=by unfold exL;rw[if_pos n]
 unfold blockC;rw[r,Dx];have q:=NQ e j (Ff d) o;have h:val (Ek (vecsC (CE L)) (exprL (vecsC (CE L)) (unitL (K:Int) (b:Int))))=2^b:=by
  rw[q,<-C];exact o.sum e
 have f:=WK _ e j (Ff d) o;refine Wu _ [] (fun i H=>?_) (.inr ⟨Nat.zero_le _,fun u=>?_⟩)
 ·have f:=f i H
  rw[I2]at f;rw[List.getD_eq_getElem?_getD,List.getElem?_eq_getElem f];exact I _ (Vd (List.getElem_mem f))
 ·rw[u]at h
  have D:val (Ek (vecsC (CE L)) [])=0:=by simp[Ek,val]
  rw[D]at h;have:=Nat.two_pow_pos b;omega
theorem lK{K:Nat}(n:AM (K:Int) rs kn bs)(e:Dm rs)(N:∀r∈rs,r.xs.length<=10)(T:rs.length<=300)(l:0<sizeOfK (K:Int))(J:∀r∈rs,AU (K:Int) r.xs=true)(O:∀r∈rs,r.s.size=m)(Q:CY (rs.map core)=K):
  Ed (K:Int) (peelC (K:Int) rs kn bs)=true/\(solveC (K:Int) (peelC (K:Int) rs kn bs)).length=K/\∀s∈solveC (K:Int) (peelC (K:Int) rs kn bs),s.size=m:=by
 have d:=SY n e;have R:=DY (K:Int);have I:=DZ l;obtain⟨j,L⟩:=n.kn e l
 have u:Dc 1048576 (peelC (K:Int) rs kn bs):=fun v J=>by
  obtain⟨x,c,rfl⟩:=List.mem_map.1 J;refine⟨?_,by have:=(Gf (d x c)).2.1;omega⟩;unfold peelC at c;rcases List.mem_append.1 c with c|c
  ·obtain⟨b,q,_,rfl⟩:=Iq L c
   exact Ff (by omega)
  ·unfold restL at c
   obtain⟨r,f,rfl⟩:=List.mem_map.1 c;exact Ha (e r (List.mem_filter.1 f).1).1 _
 have E:(peelC (K:Int) rs kn bs).length<=100000:=by
  unfold peelC toldTo restL;rw[List.length_append,List.length_map,List.length_map];have o:=List.length_filter_le (fun b=>Ai kn b) (List.range (K:Int).toNat);have S:=List.length_filter_le (Fv (K:Int) kn) rs;rw[List.length_range]at o;omega
 have z:AC 1048576 (vecsL rs):=by
  have:=LZ e N (fun _=>true);rwa[List.filter_eq_self.2 (fun _ _=>rfl)]at this
 have y:(rs.filter fun r=>AU (K:Int) r.xs)=rs:=List.filter_eq_self.2 J;have f:(Ck (vecsC (peelC (K:Int) rs kn bs))).length=K:=by
  have o:(Ck (vecsC (peelC (K:Int) rs kn bs))).length=Ho (K:Int) rs:=Xg u (LZ e N _) (TZ n e);rw[o];unfold Ho;rw[y,<-L5 z,KJ,<-Q,<-LO];rfl
 have D:(keepL (vecsC (peelC (K:Int) rs kn bs)) (peelC (K:Int) rs kn bs).length).length=K:=by
  have:=L5 u;rw[I2]at this;exact this.trans f
 have h:Ed (K:Int) (peelC (K:Int) rs kn bs)=true:=by
  unfold Ed;rw[decide_eq_true l,Bool.true_and,D];exact decide_eq_true (Int.le_refl _)
 obtain⟨⟨V,C⟩,_⟩:=id n;obtain⟨s1,s2⟩:=OQ l e O C
 have H:∀x∈peelC (K:Int) rs kn bs,x.2.size=m:=fun x c=>by
  unfold peelC at c;rcases List.mem_append.1 c with c|c
  ·obtain⟨b,q,A,rfl⟩:=Iq L c
   exact s1 b A
  ·unfold restL at c
   obtain⟨r,f,rfl⟩:=List.mem_map.1 c;exact OU s2 (O r (List.mem_filter.1 f).1)
 have P:solveC (K:Int) (peelC (K:Int) rs kn bs)=(List.range K).map (blockC (K:Int) (peelC (K:Int) rs kn bs)):=by
  unfold solveC;rw[if_pos h,Int.toNat_natCast]
 refine⟨h,by rw[P,List.length_map,List.length_range],fun s i=>?_⟩;rw[P]at i;obtain⟨b,q,rfl⟩:=List.mem_map.1 i;exact ey l u E d H f (List.mem_range.1 q)
structure DS where
 bg:Bool
 o:Int
 l:Int
 k:Int
 z:Int
 L:List (List Nat×ByteArray)
 ov:Bool
 dn:Bool
 ob:ByteArray
def C9:DS:=⟨false,0,0,0,0,[],false,false,⟨#[]⟩⟩
def DF(p:PKV):Bool:=decide (((1<=p.k/\p.k<=128)/\1<=p.z/\p.z<=64)/\(0<=p.o/\p.o<=4294967295)/\(0<=p.l/\p.l<=p.k*p.z)/\0<=p.h/\p.h<=15)&&Cb p.k p.z (p.r.xs,p.r.s)
theorem oU{k z:Int}:Cb k z x=true↔JU k z x.1 x.2.size:=by
 unfold Cb JU;rw[Bool.and_eq_true,Bool.and_eq_true,G1,decide_eq_true_iff,decide_eq_true_iff,and_assoc]
theorem Xc:DF p=true↔Cj p.o p.l p.k p.z p.h p.r.xs p.r.s.size:=by
 unfold DF Cj;rw[Bool.and_eq_true,decide_eq_true_iff,oU];rfl
theorem QA(p:PKV):EM (if DF p=true then 0 else 1) (Cj p.o p.l p.k p.z p.h p.r.xs p.r.s.size):=by
 by_cases h:DF p=true
 ·rw[if_pos h];exact .inl ⟨Xc.1 h,rfl⟩
 ·rw[if_neg h];exact .inr ⟨fun b=>h (Xc.2 b),rfl⟩
def K9(s:DS)(p:PKV):Bool:=decide (p.o=s.o/\p.l=s.l/\p.k=s.k/\p.z=s.z)
def Dn(s:DS)(p:PKV):Bool:=DF p&&(!s.bg||K9 s p)
def Cy(s:DS)(p:PKV):DS:=if s.bg=true then s else⟨true,p.o,p.l,p.k,p.z,[],false,false,⟨#[]⟩⟩
def Gn(M:Int)(s:DS)(x:List Nat×ByteArray):Bool:= !s.dn&&(decide (s.L.length<capN M)&&decide ((CY (s.L++[x]):Int)=s.k))
def DP(M:Int)(s:DS)(x:List Nat×ByteArray)(ob:ByteArray):DS:=
 if s.dn=true then s
 else if s.L.length<capN M then(if (CY (s.L++[x]):Int)=s.k then{s with L:=s.L++[x],dn:=true,ob:=ob}else{s with L:=s.L++[x]})
 else{s with ov:=true}
def Ft(M:Int)(s:DS):Int:=if s.dn=true then 0 else if s.L.length<capN M then 0 else 5
def FS(M:Int)(s:DS)(p:PKV)(ob:ByteArray):DS:=if Dn s p=true then DP M (Cy s p) (p.r.xs,p.r.s) ob else s
def Li(M:Int)(s:DS)(p:PKV):Int:=if Dn s p=true then Ft M (Cy s p)else 1
def AS(M:Int)(s:DS)(x:List Nat×ByteArray)(ob:ByteArray):Prop:=Gn M s x=true->Cq s.k s.l (s.L++[x]) ob
theorem KS{s:DS}{ob:ByteArray}(h:s.dn=true):DP M s x ob=s/\Ft M s=0:=by
 unfold DP Ft;rw[if_pos h,if_pos h];exact⟨rfl,rfl⟩
theorem JB{s:DS}{ob:ByteArray}(h:s.dn=false)(b:s.L.length<capN M)(c:(CY (s.L++[x]):Int)=s.k):DP M s x ob={s with L:=s.L++[x],dn:=true,ob:=ob}/\Ft M s=0/\Gn M s x=true:=by
 unfold DP Ft Gn;rw[h,if_neg (by decide),if_pos b,if_pos c,if_neg (by decide),if_pos b,decide_eq_true b,decide_eq_true c];exact⟨rfl,rfl,rfl⟩
theorem KT{s:DS}{ob:ByteArray}(h:s.dn=false)(b:s.L.length<capN M)(c:¬(CY (s.L++[x]):Int)=s.k):DP M s x ob={s with L:=s.L++[x]}/\Ft M s=0/\Gn M s x=false:=by
 unfold DP Ft Gn;rw[h,if_neg (by decide),if_pos b,if_neg c,if_neg (by decide),if_pos b,decide_eq_true b,decide_eq_false c];exact⟨rfl,rfl,rfl⟩
theorem Kw{s:DS}{ob:ByteArray}(h:s.dn=false)(b:¬s.L.length<capN M):DP M s x ob={s with ov:=true}/\Ft M s=5/\Gn M s x=false:=by
 unfold DP Ft Gn;rw[h,if_neg (by decide),if_neg b,if_neg (by decide),if_neg b,decide_eq_false b];exact⟨rfl,rfl,rfl⟩
theorem lJ{s:DS}(h:s.dn=true):Gn M s x=false:=by
 unfold Gn;rw[h];rfl
theorem fP{s:DS}(h:Gn M s x=false)(a b:ByteArray):DP M s x a=DP M s x b:=by
 cases c:s.dn
 ·by_cases d:s.L.length<capN M
  ·by_cases e:(CY (s.L++[x]):Int)=s.k
   ·rw[(JB (ob:=a) c d e).2.2]at h;cases h
   ·rw[(KT (ob:=a) c d e).1,(KT (ob:=b) c d e).1]
  ·rw[(Kw (x:=x) (ob:=a) c d).1,(Kw (x:=x) (ob:=b) c d).1]
 ·rw[(KS c).1,(KS c).1]
theorem AS.uniq{s:DS}{b:ByteArray}(c:AS M s x a)(d:AS M s x b):DP M s x a=DP M s x b:=by
 cases h:Gn M s x
 ·exact fP h a b
 ·rw[(c h).uniq (d h)]
structure BZ(s:DS):Prop where
 bg:s.bg=true
 sh:((1<=s.k/\s.k<=128)/\1<=s.z/\s.z<=64)/\0<=s.l/\s.l<=s.k*s.z
 fit:∀x∈s.L,Cb s.k s.z x=true
 dn:s.dn=true↔(CY s.L:Int)=s.k
 ob:s.dn=false->s.ob=⟨#[]⟩
 obs:s.ob.size<=8192
theorem BZ.lz{s:DS}(h:BZ s):s.l.toNat<=8192:=by
 have:=Qm (k:=s.k) (z:=s.z) h.sh.1;have:=h.sh.2;omega
theorem BZ.keep{s:DS}(h:BZ s){x:List Nat×ByteArray}(n:Cb s.k s.z x=true){ob:ByteArray}(l:AS M s x ob):BZ (DP M s x ob):=by
 have b:∀y∈s.L++[x],Cb s.k s.z y=true:=fun y f=>by
  rcases List.mem_append.1 f with f|f
  ·exact h.fit y f
  ·rw[List.mem_singleton.1 f];exact n
 cases c:s.dn
 ·by_cases i:s.L.length<capN M
  ·by_cases d:(CY (s.L++[x]):Int)=s.k
   ·have o:=(l (JB (ob:=ob) c i d).2.2).size
    rw[(JB c i d).1];exact⟨h.bg,h.sh,b,⟨fun _=>d,fun _=>rfl⟩,(fun e=>by cases e),Nat.le_trans o h.lz⟩
   ·rw[(KT c i d).1]
    exact⟨h.bg,h.sh,b,⟨(fun e=>by have j:s.dn=true:=e;rw[c]at j;cases j),fun e=>absurd e d⟩,h.ob,h.obs⟩
  ·rw[(Kw c i).1]
   exact⟨h.bg,h.sh,h.fit,h.dn,h.ob,h.obs⟩
 ·rw[(KS c).1];exact h
theorem mZ:CY []=0:=rfl
theorem Pz{s:DS}(h:Dn s p=true):DF p=true/\Cb (Cy s p).k (Cy s p).z (p.r.xs,p.r.s)=true/\(Cy s p).bg=true:=by
 unfold Dn at h;rw[Bool.and_eq_true,Bool.or_eq_true]at h;obtain⟨d,b⟩:=h;have c:=d;unfold DF at c;rw[Bool.and_eq_true]at c;refine⟨d,?_⟩;unfold Cy;cases e:s.bg
 ·rw[if_neg (by decide)];exact⟨c.2,rfl⟩
 ·rw[if_pos rfl]
  rw[e]at b;rcases b with b|b
  ·cases b
  ·unfold K9 at b
   obtain⟨_,_,f,i⟩:=decide_eq_true_iff.1 b;rw[<-f,<-i];exact⟨c.2,e⟩
theorem BZ.beg{s:DS}(h:s.bg=true->BZ s)(hp:DF p=true):BZ (Cy s p):=by
 unfold Cy;cases d:s.bg
 ·rw[if_neg (by decide)]
  unfold DF at hp;rw[Bool.and_eq_true]at hp;obtain⟨b,i,a3,a4⟩:=decide_eq_true_iff.1 hp.1;exact⟨rfl,⟨b,a3⟩,(fun x f=>by cases f),⟨(fun e=>by cases e),(fun e=>by have c:(CY []:Int)=p.k:=e;rw[mZ]at c;omega)⟩,(fun _=>rfl),Nat.zero_le _⟩
 ·rw[if_pos rfl];exact h d
theorem Av.tu{F:Nat->Prop}{k z:Int}{ov:Bool}(h:Av w g B k z m v rs ov)(ht:Tu F w w')(c:∀j,C0 g v j->¬F j)(e:∀j b,w.heap[j]? =some (.cells b 265 (0,0))->¬F j):Av w' g B k z m v rs ov:=
 ⟨h.blk.tu ht (c g (.inl rfl)),h.lo,h.own.tu ht (fun j d=>c j (.inr d)),h.rows.tu ht e,h.le,h.most,h.short⟩
def Jk(M:Int)(s:DS)(p:Option Addr):List Value:=[.int .i64 M,.int .i64 s.o,.int .i64 s.l,.int .i64 s.k,.int .i64 s.z,.pointer p,.bool s.dn,.string s.ob]
def FU(b:Bool)(gs:Nat):Option Addr:=if b=true then some ⟨gs,0,none⟩else none
def CH(g gs:Nat)(v:Value)(k:Nat):Prop:=k=g\/C0 gs v k
structure An(w:World)(g B:Nat)(M:Int)(s:DS)(gs:Nat)(v:Value)(rs:List RV):Prop where
 blk:BkA 174 w g (Jk M s (FU s.bg gs))
 lo:B<=g
 begun:s.bg=true->Av w gs B s.k s.z (capN M) v rs s.ov/\BZ s
 fresh:s.bg=false->s=C9/\v=.slice none 0 0/\gs=g
 co:rs.map core=s.L
theorem An.below{s:DS}(h:An w g B M s gs v rs)(b:Below w.heap.size w w'):An w' g B M s gs v rs:=
 ⟨h.blk.below b,h.lo,fun e=>⟨(h.begun e).1.below b,(h.begun e).2⟩,h.fresh,h.co⟩
theorem An.lt{s:DS}(h:An w g B M s gs v rs):g<w.heap.size:=h.blk.lt
theorem An.lob{s:DS}(h:An w g B M s gs v rs):B<=w.heap.size:=Nat.le_of_lt (Nat.lt_of_le_of_lt h.lo h.lt)
theorem An.mono{B':Nat}{s:DS}(h:An w g B M s gs v rs)(b:B'<=B):An w g B' M s gs v rs:=
 ⟨h.blk,Nat.le_trans b h.lo,fun e=>⟨(h.begun e).1.mono b,(h.begun e).2⟩,h.fresh,h.co⟩
theorem An.low{s:DS}(h:An w g B M s gs v rs):∀j,j<B->¬CH g gs v j:=fun j d b=>by
 have e:=h.lo;rcases b with rfl|b
 ·omega
 ·cases c:s.bg
  ·obtain⟨_,rfl,rfl⟩:=h.fresh c
   rcases b with rfl|b
   ·omega
   ·cases b
  ·exact(h.begun c).1.low j d b
theorem An.keeps{s:DS}(h:An w g B M s gs v rs)(ht:Tu (CH g gs v) w w'):Below B w w':=ht.below h.lob h.low
theorem An.step{w0:World}{s:DS}(h:An w g B M s gs v rs)(b:Below B w0 w)(ht:Tu (CH g gs v) w w'):Below B w0 w':=b.trans (h.keeps ht)
theorem An.words{s:DS}(h:An w g B M s gs v rs):∀j b,w.heap[j]? =some (.cells b 265 (0,0))->¬CH g gs v j:=fun j b d c=>by
 rcases c with rfl|c
 ·exact h.blk.ne d (by decide) rfl
 ·cases e:s.bg
  ·obtain⟨_,rfl,rfl⟩:=h.fresh e
   rcases c with rfl|c
   ·exact h.blk.ne d (by decide) rfl
   ·cases c
  ·exact(h.begun e).1.words j b d c
theorem An.out{s:DS}(h:An w g B M s gs v rs){T:TypeId}{p:Nat}{c:Array Value}{l:Nat×Nat}(hp:w.heap[p]? =some (.cells c T l))(f:174≠T)(n:225≠T)(o:73≠T):¬CH g gs v p:=fun b=>by
 rcases b with rfl|b
 ·exact h.blk.ne hp f rfl
 ·cases i:s.bg
  ·obtain⟨_,rfl,rfl⟩:=h.fresh i
   rcases b with rfl|b
   ·exact h.blk.ne hp f rfl
   ·cases b
  ·have j:=(h.begun i).1
   rcases b with rfl|b
   ·have:=j.blk
    unfold Bj at this;rw[this]at hp;simp only[Option.some.injEq,Obj.cells.injEq]at hp;exact n hp.2.1
   ·obtain⟨e,d⟩:=j.own.blk5 b
    rw[d]at hp;simp only[Option.some.injEq,Obj.cells.injEq]at hp;exact o hp.2.1
def Mv(w:World)(gs:Nat)(v:Value)(b:Nat)(v':Value):Prop:=(b=gs\/w.heap.size<=b)/\(v'.ownBlock=v.ownBlock\/∀j,v'.ownBlock=some j->w.heap.size<=j)
theorem Mv.refl(w:World)(gs:Nat)(v:Value):Mv w gs v gs v:=⟨.inl rfl,.inl rfl⟩
theorem Mv.at{b:Nat}{v':Value}(h:Mv w gs v b v')(g j:Nat)(d:j<w.heap.size)(c:CH g b v' j):CH g gs v j:=by
 rcases c with rfl|rfl|c
 ·exact .inl rfl
 ·rcases h.1 with e|e
  ·exact .inr (.inl e)
  ·omega
 ·rcases h.2 with e|e
  ·exact .inr (.inr (e▸c))
  ·have:=e j c;omega
theorem Mv.trans{b:Nat}{c:Value}(h:Mv w gs v gs1 v1)(k:Mv w1 gs1 v1 b c)(f:w.heap.size<=w1.heap.size):Mv w gs v b c:=by
 refine⟨?_,?_⟩
 ·rcases k.1 with e|e
  ·rw[e];exact h.1
  ·exact .inr (by omega)
 ·rcases k.2 with e|e
  ·rw[e];exact h.2
  ·exact .inr fun j d=>Nat.le_trans f (e j d)
theorem Mv.new(h:Mv w1 gs v gs1 v1)(b:w.heap.size<=w1.heap.size):Mv w gs v gs1 v1:=(Mv.refl w gs v).trans h b
theorem rB{w2:World}(h:Tu (CH g gs v) w w1)(k:Tu (CH g gs1 v1) w1 w2)(d:Mv w gs v gs1 v1):Tu (CH g gs v) w w2:=h.trans k fun j c b=>d.at g j c b
theorem Z0(w:World)(M:Int):An (w.alloc (.cells #[.int .i64 M,.int .i64 0,.int .i64 0,.int .i64 0,.int .i64 0,.pointer none,.bool false,.string ⟨#[]⟩] 174)) w.heap.size w.heap.size M C9 w.heap.size (.slice none 0 0) []:=
 ⟨AN 174 w (Jk M C9 none),Nat.le_refl _,(fun e=>by cases e),(fun _=>⟨rfl,rfl,rfl⟩),rfl⟩
theorem An.cells{s:DS}(h:An w g B M s gs v rs):
  w.cell? ⟨g,0,none⟩=some (.int .i64 M)/\w.cell? ⟨g,1,none⟩=some (.int .i64 s.o)/\w.cell? ⟨g,2,none⟩=some (.int .i64 s.l)/\w.cell? ⟨g,3,none⟩=some (.int .i64 s.k)/\w.cell? ⟨g,4,none⟩=some (.int .i64 s.z)/\
   w.cell? ⟨g,5,none⟩=some (.pointer (FU s.bg gs))/\w.cell? ⟨g,6,none⟩=some (.bool s.dn)/\w.cell? ⟨g,7,none⟩=some (.string s.ob):=
 ⟨h.blk.at 0 rfl,h.blk.at 1 rfl,h.blk.at 2 rfl,h.blk.at 3 rfl,h.blk.at 4 rfl,h.blk.at 5 rfl,h.blk.at 6 rfl,h.blk.at 7 rfl⟩
variable {k:Nat}
theorem fm(xs:List Nat)(i j:Nat)(h:i<64*xs.length):Ai (BC xs i true) j=(decide (j=i)||Ai xs j):=by
 have f:i/64<xs.length:=by omega
 unfold Ai BC setW;rw[DX];by_cases d:j/64=i/64
 ·rw[if_pos ⟨d,f⟩,d]
  by_cases l:j%64=i%64
  ·have b:j=i:=by omega
   subst b;split
   ·rename_i c;rw[c];simp
   ·rename_i c;rw[Nat.testBit_xor,Nat.testBit_two_pow];simp at c;simp[c]
  ·have b:decide (j=i)=false:=by simp;omega
   have e:decide (i%64=j%64)=false:=by simp;omega
   split
   ·rw[b];rfl
   ·rw[Nat.testBit_xor,Nat.testBit_two_pow,b,e];simp
 ·have b:decide (j=i)=false:=by simp;omega
  rw[if_neg (fun k=>d k.1),b];rfl
theorem dw(n i:Nat):Ai (List.replicate n 0) i=false:=by
 unfold Ai;have:(List.replicate n 0).getD (i/64) 0=0:=by
  rw[List.getD_eq_getElem?_getD,List.getElem?_replicate];split<;>rfl
 rw[this];simp
def Ej(k:Nat)(ns:List Nat):List Nat:=ns.foldl (fun v i=>BC v i true) (List.replicate (sizeOfK (k:Int)) 0)
theorem rY(k:Nat):Ej k []=List.replicate (sizeOfK (k:Int)) 0:=rfl
theorem lu(k:Nat)(ns:List Nat)(i:Nat):Ej k (ns++[i])=BC (Ej k ns) i true:=by simp[Ej,List.foldl_append]
theorem lw(k:Nat)(ns:List Nat)(j:Nat)(h:j<ns.length):Ej k (ns.take (j+1))=BC (Ej k (ns.take j)) (ns.getD j 0) true:=by
 rw[List.take_succ_eq_append_getElem h,lu];simp[List.getD_eq_getElem?_getD,List.getElem?_eq_getElem h]
theorem SJ(b:1<=k)(c:k<=128):sizeOfK (k:Int)=(k+63)/64:=by
 unfold sizeOfK;rw[if_neg (by omega)];omega
theorem VJ:∀(ns v:List Nat),(ns.foldl (fun v i=>BC v i true) v).length=v.length
 |[],_=>rfl
 |i::ns,v=>by rw[List.foldl_cons,VJ ns,Io]
theorem LJ(k:Nat)(ns:List Nat):(Ej k ns).length=sizeOfK (k:Int):=by rw[Ej,VJ,List.length_replicate]
theorem dy(n:Nat):Ac (List.replicate n 0):=by
 intro x b;rw[(List.mem_replicate.1 b).2];show 0<18446744073709551616;decide
theorem VI:∀(ns v:List Nat) (j:Nat),(∀i∈ns,i<64*v.length)->Ai (ns.foldl (fun v i=>BC v i true) v) j=(decide (j∈ns)||Ai v j)
 |[],v,j,_=>by simp
 |i::ns,v,j,h=>by
  rw[List.foldl_cons,VI ns _ j (fun x d=>by rw[Io];exact h x (by simp[d])),fm v i j (h i (by simp))];by_cases b:j∈ns<;>by_cases c:j=i<;>simp[b,c]
theorem Wi{ns:List Nat}(b:1<=k)(c:k<=128)(h:∀i∈ns,i<k)(j:Nat):Ai (Ej k ns) j=decide (j∈ns):=by
 rw[Ej,VI ns _ j (fun i d=>by have:=h i d;rw[List.length_replicate,SJ b c];omega),dw];simp
theorem iP{ns:List Nat}(b:1<=k)(c:k<=128)(h:∀i∈ns,i<k):Cr (k:Int) (Ej k ns):=by
 refine⟨by rw[LJ,SJ b c];omega,LJ _ _,fun i e=>?_⟩;rw[Wi b c h,decide_eq_false_iff_not];intro d;have:=h i d;omega
theorem ot{xs:List Nat}{i:Nat}(h:Ai xs i=true):0<cnt xs:=by
 rcases Nat.eq_zero_or_pos (cnt xs)with b|b
 ·exfalso
  have c:BH xs 0=cnt xs:=by rw[b];rfl
  rw[(Pg xs 0).1 c i (Nat.zero_le _)]at h;cases h
 ·exact b
def Nu(k s x:Nat):Nat:=pickD (tableL k s) x
theorem Yv(k s x:Nat)(b:1<=k)(c:s<=128):1<=Nu k s x/\Nu k s x<=k:=by
 have:=pM (gn k s b c) x;rw[Hd]at this;exact this
def degL(k s:Nat)(L:List Nat)(N:Nat):Nat:=Nu k s (BM L (N+1))
def Dj(k s:Nat)(L:List Nat)(N:Nat):List Nat:=Ej k (Di L (N+1) k (degL k s L N))
def Nh(k s:Nat)(L:List Nat)(N:Nat):Nat:=N+1+degL k s L N
theorem PE(k s:Nat)(L:List Nat)(N:Nat)(b:1<=k)(c:s<=128):1<=degL k s L N/\degL k s L N<=k:=Yv k s _ b c
theorem Yw(k s:Nat)(L:List Nat)(N:Nat)(b:1<=k)(c:s<=128):min ((degL k s L N:Nat):Int).toNat k=degL k s L N:=by
 have:=PE k s L N b c;omega
theorem O2(L:List Nat)(N n k i:Nat)(h:i∈Di L N n k):i<n:=by
 unfold Di at h;exact List.mem_range.1 (List.mem_filter.1 h).1
theorem ea(k s:Nat)(L:List Nat)(N:Nat):(Dj k s L N).length=sizeOfK (k:Int):=LJ _ _
theorem jg(k s:Nat)(L:List Nat)(N:Nat)(b:1<=k)(c:k<=128):Cr (k:Int) (Dj k s L N):=iP b c fun i d=>O2 _ _ _ _ i d
theorem UI(k s:Nat)(L:List Nat)(N:Nat)(b:1<=k)(f:k<=128)(n:s<=128):∃i,i<k/\Ai (Dj k s L N) i=true:=by
 have h:=PE k s L N b n;have c:=RM L (N+1) k (degL k s L N) h.2;obtain⟨i,o,j⟩:=List.exists_cons_of_ne_nil (show Di L (N+1) k (degL k s L N)≠ [] from fun e=>by rw[e]at c;simp at c;omega);have d:i∈Di L (N+1) k (degL k s L N):=by rw[j];simp
 refine⟨i,O2 _ _ _ _ i d,?_⟩;rw[Dj,Wi b f (fun i l=>O2 _ _ _ _ i l)];exact decide_eq_true d
theorem qX(k s:Nat)(L:List Nat)(N:Nat)(b:1<=k)(c:k<=128)(e:s<=128):0<cnt (Dj k s L N):=by
 obtain⟨i,_,d⟩:=UI k s L N b c e;exact ot d
theorem TV(ss:List ByteArray)(vs:List Nat)(z:Nat)(h:∀i,i<ss.length->(ss.getD i ByteArray.empty).size=z):∀n,n<=ss.length->((∃i,i<n/\Ai vs i=true)->(Bq ss vs n).length=z)/\((Bq ss vs n).length=0\/(Bq ss vs n).length=z)
 |0,_=>⟨fun⟨i,l,_⟩=>by omega,.inl rfl⟩
 |n+1,o=>by
  obtain⟨f,b⟩:=TV ss vs z h n (by omega);cases d:Ai vs n
  ·rw[Qy d]
   refine⟨fun⟨i,l,c⟩=>f ⟨i,?_,c⟩,b⟩;rcases Nat.lt_or_ge i n with e|j
   ·exact e
   ·obtain rfl:i=n:=by omega
    rw[d]at c;cases c
  ·rw[WU d,BY,AT,h n (by omega)]
   have:max (Bq ss vs n).length z=z:=by rcases b with b|b<;>omega
   exact⟨fun _=>this,.inr this⟩
theorem oh(xs:List Nat)(z k i:Nat)(h:i<k):((Bw xs z k).getD i ByteArray.empty).size=z:=by rw[Sr xs z k i h,Dx,NV]
theorem Za(xs:List Nat)(z k s:Nat)(L:List Nat)(N:Nat)(c:1<=k)(d:k<=128)(e:s<=128):(st (Bq (Bw xs z k) (Dj k s L N) k)).size=z:=by
 rw[Dx];refine(TV (Bw xs z k) (Dj k s L N) z (fun i b=>?_) k (by rw[IT];exact Nat.le_refl _)).1 (UI k s L N c d e);rw[IT]at b;exact oh xs z k i b
theorem YB(o len z k s:Nat)(xs:List Nat)(L:List Nat)(N:Nat)(i:o<=4294967295)(e:1<=z)(f:z<=64)(b:1<=k)(c:k<=128)(d:s<=128)(h:len<=k*z):
  Cj (o:Int) (len:Int) (k:Int) (z:Int) 0 (Dj k s L N) (st (Bq (Bw xs z k) (Dj k s L N) k)).size:=by
 refine⟨⟨⟨⟨by omega,by omega⟩,by omega,by omega⟩,⟨by omega,by omega⟩,⟨by omega,?_⟩,by omega,by omega⟩,jg k s L N b c,qX k s L N b c d,?_⟩
 ·have:((k:Int)*(z:Int))=((k*z:Nat):Int):=by simp
  rw[this];omega
 ·rw[Za xs z k s L N b c d]
end Go.Proofs.YtfpmnekaockodaaGreatDoor
