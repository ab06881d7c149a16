/- Laws for the proof. -/
import Derived.Test.YtfpmnekaockodaaGreatDoorU2
import Derived.Lib.AppendZeros
import Derived.Lib.AppendZerosOnto
namespace Go.Proofs.YtfpmnekaockodaaGreatDoor
open Go.RowKit Go.Sort
set_option linter.all false
set_option maxRecDepth 4000
set_option maxHeartbeats 8000000
variable {k:Int}{bs:List ByteArray}{xs kn:List Nat}{rs:List RV}{b j B g n:Nat}{v:Value}{w:World}
def anW(x y:Nat):Nat:=x^^^(x&&&y)
theorem WF(x y i:Nat):(anW x y).testBit i=(x.testBit i&& !y.testBit i):=by
 unfold anW;rw[Nat.testBit_xor,Nat.testBit_and];cases x.testBit i<;>cases y.testBit i<;>rfl
theorem Q1(x y:Nat)(a:x<18446744073709551616):anW x y<18446744073709551616:=by
 unfold anW;have:x&&&y<=x:=Nat.and_le_left;exact Nat.xor_lt_two_pow (n:=64) (by omega) (by omega)
theorem oy(x:Nat):anW x 0=x:=by simp[anW]
theorem XG(x y:Nat)(c:x<18446744073709551616)(d:y<18446744073709551616):bits .andNot .u64 (x:Int) (y:Int)=((anW x y:Nat):Int):=by
 rw[u64_andNot_nat x y c d];congr 1;apply Nat.eq_of_testBit_eq;intro i;rw[WF,Nat.testBit_and,show 18446744073709551615-y=2^64-(y+1) by omega,Nat.testBit_two_pow_sub_succ (by omega)];by_cases a:i<64
 ·simp[a]
 ·have e:x.testBit i=false:=Nat.testBit_lt_two_pow (Nat.lt_of_lt_of_le (show x<2^64 by omega) (Nat.pow_le_pow_right (by decide) (by omega)))
  simp[e]
theorem oG{a b:List Nat}(f:a.length=b.length)(d:Ac a)(e:Ac b)(h:∀i,Ai a i=Ai b i):a=b:=by
 apply Ei f;intro i _;apply Nat.eq_of_testBit_eq;intro j;by_cases c:j<64
 ·have:=h (64*i+j)
  rwa[MQ a i j c,MQ b i j c]at this
 ·have hp:(2:Nat)^64<=2^j:=Nat.pow_le_pow_right (by decide) (by omega)
  have l:=d.get i;have m:=e.get i;rw[Nat.testBit_lt_two_pow (by omega),Nat.testBit_lt_two_pow (by omega)]
theorem JG{vs:List Nat}:∀n,BJ vs n=0↔∀i,i<n->Ai vs i=false
 |0=>by simp[BJ]
 |n+1=>by
  unfold BJ;constructor
  ·intro h i d
   have a:=(JG (vs:=vs) n).1 (by omega);by_cases e:i=n
   ·subst e;cases c:Ai vs i
    ·rfl
    ·rw[c]at h;simp at h
   ·exact a i (by omega)
  ·intro h
   rw[(JG n).2 (fun i d=>h i (by omega)),h n (by omega)];rfl
theorem V5{vs:List Nat}:∀n,BJ vs n=1↔∃b,b<n/\Ai vs b=true/\∀i,i<n->i≠b->Ai vs i=false
 |0=>by simp[BJ]
 |n+1=>by
  unfold BJ;cases f:Ai vs n
  ·simp only[Bool.false_eq_true,if_false,Nat.add_zero]
   rw[V5 n];constructor
   ·rintro⟨b,o,c,d⟩
    refine⟨b,by omega,c,fun i m a=>?_⟩;by_cases e:i=n
    ·rw[e];exact f
    ·exact d i (by omega) a
   ·rintro⟨b,o,c,d⟩
    have:b≠n:=fun e=>by rw[e,f]at c;cases c
    exact⟨b,by omega,c,fun i m a=>d i (by omega) a⟩
  ·simp only[if_true]
   constructor
   ·intro h
    have c:=(JG n).1 (show BJ vs n=0 by omega);exact⟨n,by omega,f,fun i m a=>c i (by omega)⟩
   ·rintro⟨b,o,c,d⟩
    have l:b=n:=by
     by_cases e:b=n
     ·exact e
     ·have:=d n (by omega) (Ne.symm e);rw[f]at this;cases this
    subst l;rw[(JG b).2 (fun i m=>d i (by omega) (by omega))]
theorem O6:cnt xs=0↔∀i,Ai xs i=false:=by
 rw[Mx,JG];constructor
 ·intro h i
  by_cases a:i<64*xs.length
  ·exact h i a
  ·exact E1 xs i (by omega)
 ·exact fun h i _=>h i
theorem YN:cnt xs=1↔∃b,∀i,Ai xs i=decide (i=b):=by
 rw[Mx,V5];constructor
 ·rintro⟨b,a,f,l⟩
  refine⟨b,fun i=>?_⟩;by_cases e:i=b
  ·rw[e,f];simp
  ·rw[decide_eq_false e]
   by_cases m:i<64*xs.length
   ·exact l i m e
   ·exact E1 xs i (by omega)
 ·rintro⟨b,h⟩
  have a:Ai xs b=true:=by rw[h b];simp
  refine⟨b,?_,a,fun i _ d=>by rw[h i,decide_eq_false d]⟩;rcases Nat.lt_or_ge b (64*xs.length)with c|c
  ·exact c
  ·rw[E1 xs b c]at a;cases a
theorem Sn:∀{xs:List Nat},Ac xs->(∃i,Ai xs i=true)->∃f:Nat,firstI xs=(f:Int)/\Ai xs f=true/\∀j,j<f->Ai xs j=false
 |[],_,h=>by
  obtain⟨i,c⟩:=h;rw[Vb]at c;cases c
 |x::r,o,h=>by
  have e:x<18446744073709551616:=o x List.mem_cons_self;by_cases a:x=0
  ·subst a
   obtain⟨i,c⟩:=h;have l:64<=i:=by
    rcases Nat.lt_or_ge i 64 with d|d
    ·rw[Kq 0 r i d]at c;simp at c
    ·exact d
   obtain⟨f,p,q,s⟩:=Sn (xs:=r) (fun y u=>o y (List.mem_cons_of_mem _ u)) ⟨i-64,by rw[<-LL 0 r (i-64),show 64+(i-64)=i by omega];exact c⟩;refine⟨64+f,?_,by rw[LL];exact q,fun j m=>?_⟩
   ·simp only[firstI]
    rw[p];simp;omega
   ·rcases Nat.lt_or_ge j 64 with d|d
    ·rw[Kq 0 r j d];simp
    ·have:=s (j-64) (by omega)
     rw[<-LL 0 r (j-64),show 64+(j-64)=j by omega]at this;exact this
  ·refine⟨Lib.ctz 64 x,by simp[firstI,a],?_,fun j m=>?_⟩
   ·rw[Kq x r _ (M6 x a e)];exact WW x a e
   ·rw[Kq x r _ (by have:=M6 x a e;omega)];exact WX x j a e m
theorem gH(d:Ac xs)(h:∀i,Ai xs i=decide (i=b)):firstI xs=(b:Int):=by
 obtain⟨f,c,a,_⟩:=Sn d ⟨b,by rw[h b];simp⟩;rw[h f]at a;rw[c,of_decide_eq_true a]
theorem Iw(xs:List Nat)(i j:Nat)(on:Bool)(h:i<64*xs.length):Ai (BE xs i on) j=if j=i then on else Ai xs j:=by
 unfold Ai BE;rw[DZ];by_cases e:j/64=i/64
 ·rw[if_pos ⟨e,by omega⟩,e]
  unfold setW;by_cases a:j=i
  ·subst a
   rw[if_pos rfl];split
   ·assumption
   ·rename_i d
    rw[Nat.testBit_xor,Nat.testBit_two_pow];simp only[decide_true];cases f:(xs.getD (j/64) 0).testBit (j%64)<;>rw[f]at d<;>cases on<;>simp_all
  ·rw[if_neg a]
   have c:¬i%64=j%64:=by omega
   split
   ·rfl
   ·rw[Nat.testBit_xor,Nat.testBit_two_pow]
    simp[c]
 ·rw[if_neg (by omega),if_neg (fun a=>e (by rw[a]))]
theorem Jw(n i:Nat):Ai (List.replicate n 0) i=false:=by
 unfold Ai;rw[show(List.replicate n 0).getD (i/64) 0=0 from ?_]
 ·simp
 ·rw[List.getD_eq_getElem?_getD]
  by_cases h:i/64<n
  ·simp[h]
  ·simp[h]
theorem SN(h:Ac xs)(i:Nat)(on:Bool):Ac (BE xs i on):=h.set _ _ (MZ _ _ _ (h.get _) (by omega))
theorem PY(a:(b:Int)<k):unitL k b=BE (List.replicate (sizeOfK k) 0) b true:=by
 unfold unitL Fa;rw[if_neg (by omega),if_neg (by omega),Int.toNat_natCast]
theorem JN(a:(b:Int)<k):(unitL k b).length=sizeOfK k:=by
 rw[PY a,Ir,List.length_replicate]
theorem I7(c:0<sizeOfK k)(a:(b:Int)<k)(i:Nat):Ai (unitL k b) i=decide (i=b):=by
 have:=D8 c;rw[PY a,Iw _ _ _ _ (by rw[List.length_replicate];omega),Jw];by_cases e:i=b
 ·simp[e]
 ·simp[e]
theorem Fm(a:(b:Int)<k):Ac (unitL k b):=by rw[PY a];exact SN (NZ _) _ _
def dropL(v kn:List Nat):List Nat:=(List.range v.length).map fun i=>anW (v.getD i 0) (kn.getD i 0)
theorem Ju(v kn:List Nat):(dropL v kn).length=v.length:=by simp[dropL]
theorem Oq(v kn:List Nat)(i:Nat):(dropL v kn).getD i 0=anW (v.getD i 0) (kn.getD i 0):=by
 unfold dropL;rw[LJ];split
 ·rfl
 ·rw[Ge (a:=v) (by omega)];simp[anW]
theorem Hf(v kn:List Nat)(i:Nat):Ai (dropL v kn) i=(Ai v i&& !Ai kn i):=by
 unfold Ai;rw[Oq,WF]
theorem Hj{v:List Nat}(h:Ac v)(kn:List Nat):Ac (dropL v kn):=by
 intro x c;obtain⟨i,a,rfl⟩:=List.getElem_of_mem c;have:=Oq v kn i;rw[List.getD_eq_getElem?_getD,List.getElem?_eq_getElem a]at this;simp only[Option.getD_some]at this;rw[this];exact Q1 _ _ (h.get i)
def Gr(v kn:List Nat)(k:Nat):List Nat:=(List.range v.length).map fun i=>if i<k then anW (v.getD i 0) (kn.getD i 0)else v.getD i 0
theorem Gj(v kn:List Nat)(k:Nat):(Gr v kn k).length=v.length:=by simp[Gr]
theorem Kk(v kn:List Nat)(k i:Nat)(h:i<v.length):(Gr v kn k).getD i 0=if i<k then anW (v.getD i 0) (kn.getD i 0)else v.getD i 0:=by
 unfold Gr;rw[LJ,if_pos h]
theorem eM(v kn:List Nat):Gr v kn 0=v:=by
 apply Ei (Gj v kn 0);intro i h;rw[Kk v kn 0 i (by rwa[Gj]at h)];simp
theorem eL(v kn:List Nat)(k:Nat)(d:k<v.length):(Gr v kn k).set k (anW (v.getD k 0) (kn.getD k 0))=Gr v kn (k+1):=by
 apply Ei
 ·simp[Gj]
 ·intro i h
  have c:i<v.length:=by simpa [Gj]using h
  rw[DZ,Kk v kn k i c,Kk v kn (k+1) i c,Gj];by_cases e:i=k
  ·subst e;simp[d]
  ·simp only[e,false_and,if_false]
   by_cases a:i<k
   ·simp[a,Nat.lt_succ_of_lt a]
   ·simp[a,show¬i<k+1 by omega]
theorem fp(v kn:List Nat)(k:Nat)(h:min v.length kn.length<=k):Gr v kn k=dropL v kn:=by
 apply Ei
 ·rw[Gj,Ju]
 ·intro i d
  have c:i<v.length:=by rwa[Gj]at d
  rw[Kk v kn _ i c,Oq];split
  ·rfl
  ·rw[Ge (a:=kn) (by omega),oy]
theorem eK(v a b:List Nat)(h:∀i,Ai a i=true->Ai b i=true)(c:Ac v):dropL (dropL v a) b=dropL v b:=by
 refine oG (by simp[Ju]) (Hj (Hj c _) _) (Hj c _) fun i=>?_;rw[Hf,Hf,Hf];cases d:Ai a i
 ·simp
 ·rw[h i d];simp
def Do(bs:List ByteArray)(xs:List Nat)(s:ByteArray):ByteArray:=Jt s (st (Br bs xs bs.length))
def Cv(k:Int)(kn:List Nat)(r:RV):Bool:=AV k r.xs&&decide (cnt (dropL r.xs kn)=1)
def blkOf(kn:List Nat)(r:RV):Nat:=(firstI (dropL r.xs kn)).toNat
def Run(k:Int)(rs:List RV):Nat->List Nat->List ByteArray->Prop
 |0,kn,bs=>kn=List.replicate (sizeOfK k) 0/\bs=List.replicate k.toNat ByteArray.empty
 |j+1,kn,bs=> ∃a c r,Run k rs j a c/\rs.find? (Cv k a)=some r/\kn=BE a (blkOf a r) true/\bs=c.set (blkOf a r) (Do c r.xs r.s)
def AM(k:Int)(rs:List RV)(kn:List Nat)(bs:List ByteArray):Prop:=(∃j,Run k rs j kn bs)/\rs.find? (Cv k kn)=none
theorem Run.uniq{k:Int}{rs:List RV}:∀{j:Nat} {kn d:List Nat} {bs c:List ByteArray},Run k rs j kn bs->Run k rs j d c->kn=d/\bs=c
 |0,_,_,_,_,⟨e,f⟩,⟨h,i⟩=>⟨by rw[e,h],by rw[f,i]⟩
 |j+1,_,_,_,_,⟨a,b,r,e,f,h,i⟩,⟨p,q,s,l,g2,m,o⟩=>by
  obtain⟨rfl,rfl⟩:=Run.uniq e l;rw[f]at g2;obtain rfl:=Option.some.inj g2;exact⟨by rw[h,m],by rw[i,o]⟩
theorem Run.before{k:Int}{rs:List RV}:∀{d i:Nat} {kn:List Nat} {bs:List ByteArray},Run k rs (i+d+1) kn bs->∃c e r,Run k rs i c e/\rs.find? (Cv k c)=some r
 |0,i,_,_,⟨a,b,r,f,h,_⟩=>⟨a,b,r,f,h⟩
 |d+1,i,_,_,⟨a,b,r,f,h,_⟩=>Run.before (d:=d) f
theorem AM.uniq{f:List Nat}{c:List ByteArray}(h:AM k rs kn bs)(g:AM k rs f c):kn=f/\bs=c:=by
 obtain⟨⟨j,m⟩,C⟩:=h;obtain⟨⟨i,l⟩,z⟩:=g;have e:∀{a b:Nat} {x q:List Nat} {y s:List ByteArray},Run k rs a x y->rs.find? (Cv k x)=none->Run k rs b q s->¬a<b:=by
  intro a b x q y s o p A D;obtain⟨E,H,r,u,g2⟩:=Run.before (d:=b-a-1) (i:=a) (by rw[show a+(b-a-1)+1=b by omega];exact A);obtain⟨rfl, -⟩:=Run.uniq o u;rw[p]at g2;cases g2
 have o:=e m C l;have p:=e l z m;obtain rfl:i=j:=by omega
 exact m.uniq l
theorem Yk{f:RV->Bool}{p:Nat}(hp:p<rs.length)(h:f (rs.getD p .dflt)=true)(c:∀j,j<p->f (rs.getD j .dflt)=false):rs.find? f=some (rs.getD p .dflt):=by
 rw[List.find?_eq_some_iff_getElem];rw[List.getD_eq_getElem?_getD,List.getElem?_eq_getElem hp]at h⊢;refine⟨h,p,hp,rfl,fun j a=>?_⟩;have:=c j a;rw[List.getD_eq_getElem?_getD,List.getElem?_eq_getElem (by omega)]at this;simpa using this
theorem Yl{f:RV->Bool}(c:∀j,j<rs.length->f (rs.getD j .dflt)=false):rs.find? f=none:=by
 rw[List.find?_eq_none];intro r d;obtain⟨i,a,rfl⟩:=List.mem_iff_getElem.1 d;have:=c i a;rw[List.getD_eq_getElem?_getD,List.getElem?_eq_getElem a]at this;simpa using this
theorem KL{r:RV}(l:Ac r.xs)(h:Cv k kn r=true):
  AV k r.xs=true/\(∀i,Ai (dropL r.xs kn) i=decide (i=blkOf kn r))/\Ai kn (blkOf kn r)=false/\Ai r.xs (blkOf kn r)=true/\blkOf kn r<k.toNat/\firstI (dropL r.xs kn)=(blkOf kn r:Int):=by
 unfold Cv at h;rw[Bool.and_eq_true,decide_eq_true_eq,YN]at h;obtain⟨f,b,c⟩:=h;have d:=gH (Hj l kn) c;have e:blkOf kn r=b:=by unfold blkOf;rw[d,Int.toNat_natCast]
 rw[e];have a:=c b;rw[Hf]at a;simp at a;exact⟨f,c,a.2,a.1,(Gg f).2.2 b a.1,d⟩
structure Kn(k:Int)(j:Nat)(kn:List Nat)(bs:List ByteArray):Prop where
 size:0<sizeOfK k
 len:kn.length=sizeOfK k
 small:Ac kn
 lenb:bs.length=k.toNat
 below:∀i,Ai kn i=true->i<k.toNat
 none:∀i,Ai kn i=false->bs.getD i ByteArray.empty=ByteArray.empty
 many:BJ kn k.toNat=j
 short:∀i,(bs.getD i ByteArray.empty).size<=1000
theorem Kl(ss:List ByteArray)(k i:Nat)(z:ByteArray):(ss.set k z).getD i ByteArray.empty=if i=k/\k<ss.length then z else ss.getD i ByteArray.empty:=by
 rw[List.getD_eq_getElem?_getD,List.getD_eq_getElem?_getD,List.getElem?_set];by_cases h:k=i
 ·subst h
  by_cases a:k<ss.length
  ·simp[a]
  ·simp[a]
 ·have c:¬i=k:=fun e=>h e.symm
  simp[h,c]
theorem V6{xs:List Nat}{b:Nat}(c:b<64*xs.length)(h:Ai xs b=false):∀n,BJ (BE xs b true) n=BJ xs n+if b<n then 1 else 0
 |0=>by simp[BJ]
 |n+1=>by
  unfold BJ;rw[V6 c h n,Iw _ _ _ _ c];by_cases e:n=b
  ·subst e;simp[h]
  ·rw[if_neg e]
   have d:(if b<n+1 then 1 else 0:Nat)=if b<n then 1 else 0:=by
    by_cases a:b<n
    ·rw[if_pos a,if_pos (by omega)]
    ·rw[if_neg a,if_neg (by omega)]
   rw[d];omega
theorem QP{ss:List ByteArray}(h:∀i,(ss.getD i ByteArray.empty).size<=1000)(vs:List Nat):∀n,(Br ss vs n).length<=1000
 |0=>by simp[Br]
 |n+1=>by
  have:=QP h vs n;have:=h n;unfold Br;split
  ·rw[BY,AU];omega
  ·assumption
theorem UN{s:ByteArray}(h:∀i,(bs.getD i ByteArray.empty).size<=1000)(a:s.size<=1000):(Do bs xs s).size<=1000:=by
 unfold Do;rw[UB,Xu (I4 _ _ _)];have:=QP h xs bs.length;omega
def Dm(rs:List RV):Prop:=∀r∈rs,Ac r.xs/\r.s.size<=1000
theorem Kn.start(d:0<sizeOfK k):Kn k 0 (List.replicate (sizeOfK k) 0) (List.replicate k.toNat ByteArray.empty):=by
 have a:∀i,(List.replicate k.toNat ByteArray.empty).getD i ByteArray.empty=ByteArray.empty:=fun i=>by
  rw[List.getD_eq_getElem?_getD];by_cases h:i<k.toNat
  ·simp[h]
  ·simp[h]
 exact⟨d,by simp,NZ _,by simp,(fun i c=>by rw[Jw]at c;cases c),fun i _=>a i,(JG _).2 (fun i _=>Jw _ _),fun i=>by rw[a];decide⟩
theorem Kn.step(h:Kn k j kn bs){r:RV}(m:Ac r.xs)(o:r.s.size<=1000)(ht:Cv k kn r=true):
  Kn k (j+1) (BE kn (blkOf kn r) true) (bs.set (blkOf kn r) (Do bs r.xs r.s)):=by
 obtain⟨u,p,l,x,d,q⟩:=KL m ht;have f:=D8 h.size;have c:blkOf kn r<64*kn.length:=by rw[h.len];omega
 refine⟨h.size,by rw[Ir];exact h.len,SN h.small _ _,by rw[List.length_set];exact h.lenb,fun i a=>?_,fun i a=>?_,?_,fun i=>?_⟩
 ·rw[Iw _ _ _ _ c]at a
  by_cases e:i=blkOf kn r
  ·rw[e];exact d
  ·rw[if_neg e]at a;exact h.below i a
 ·rw[Iw _ _ _ _ c]at a
  by_cases e:i=blkOf kn r
  ·rw[if_pos e]at a;cases a
  ·rw[if_neg e]at a
   rw[Kl,if_neg (fun h=>e h.1)];exact h.none i a
 ·rw[V6 c l,if_pos d,h.many]
 ·rw[Kl]
  split
  ·exact UN h.short o
  ·exact h.short i
theorem Run.known{k:Int}{rs:List RV}(h:0<sizeOfK k)(e:Dm rs):∀{j:Nat} {kn:List Nat} {bs:List ByteArray},Run k rs j kn bs->Kn k j kn bs
 |0,_,_,⟨d,c⟩=>by rw[d,c];exact .start h
 |j+1,_,_,⟨a,b,r,d,c,i,l⟩=>by
  have f:=e r (List.mem_of_find?_eq_some c);rw[i,l];exact(Run.known h e d).step f.1 f.2 (List.find?_some c)
theorem Kn.le(h:Kn k j kn bs):j<=k.toNat:=by
 rw[<-h.many];exact PZ _ _
theorem Kn.shorts(h:Kn k j kn bs):shorts bs:=by
 intro s c;obtain⟨i,a,rfl⟩:=List.mem_iff_getElem.1 c;have:=h.short i;rw[List.getD_eq_getElem?_getD,List.getElem?_eq_getElem a]at this;simp only[Option.getD_some]at this;omega
theorem rr(B g cap:Nat)(xs:List Nat)(b:Nat)(w:World)(d:Own w B (.slice (some ⟨g,0,none⟩) xs.length cap) xs)(E:b/64<xs.length)(O:xs.length<=1048576):
  Calls Tryz.prog 308 #[.slice (some ⟨g,0,none⟩) xs.length cap,.int .i64 (b:Int)] w fun e w'=>e=.returned (.tuple #[])/\Own w' B (.slice (some ⟨g,0,none⟩) xs.length cap) (BE xs b true)/\w.grownBy w' (some g):=by
 obtain⟨i,l⟩:∃i:Int,i=(b:Int):=⟨_,rfl⟩;rw[<-l];have r:0<=i:=by omega
 have m:i<=9223372036854775807:=by omega
 obtain⟨q,z⟩:=Int.eq_ofNat_of_zero_le (show 0<=i/64 by omega);have o:q<xs.length:=by omega
 have A:(q:Int)<(xs.length:Int):=by omega
 have L:=My i q r m z;obtain⟨g',p,s,f,I,a,c⟩:=d.at (by omega);simp only[Value.slice.injEq,Option.some.injEq,Addr.mk.injEq,true_and,and_true]at s;obtain⟨rfl,rfl⟩:=s;have h:=a q o;have H:=c q;have N:=d.1.get q;have J:=Pr i;have K:=QU (xs.getD q 0) i N;have R:=Ab (UH (on:=true) r z d.1 f d (Below.refl B w)).1;have D:=Ab (fun u=>BF w g q u);have C:Hid (Fa xs i true=BE xs b true):=Ab (by unfold Fa;rw[if_neg (by omega),l,Int.toNat_natCast]);generalize (2^(i%64).toNat:Nat)=mk at*;generalize xs.getD q 0=x at*;generalize setW x (i%64).toNat true=y at*;clear a c d E l;go_enter Tryz.func308,Tryz.ntmps308;go_wp2;go_end0;exact⟨rfl,by rw[<-Aa C];exact Aa R,Aa D _⟩
theorem ft{wr:World}{cap:Nat}{a:List Nat}{k:Nat}(f:Ac xs)(e:k<xs.length)(d:Own wr B (.slice (some ⟨g,0,none⟩) xs.length cap) (Gr xs a k)):
  Own (wr.setCell ⟨g,k,none⟩ (.int .u64 ((anW (xs.getD k 0) (a.getD k 0):Nat):Int))) B (.slice (some ⟨g,0,none⟩) xs.length cap) (Gr xs a (k+1)):=by
 have c:=Gj xs a k;rw[<-c]at d;have:=d.stored k (anW (xs.getD k 0) (a.getD k 0)) (Q1 _ _ (f.get k));rw[eL xs a k e,c]at this;exact this
theorem oi(B:Nat)(a:Option Addr)(c:Nat)(xs:List Nat)(J:Option Addr)(m T:Nat)(d:List Nat)(w:World)(D:Own w B (.slice a xs.length c) xs)(q:RowAt w J m d)
  (h:m=0\/∀O,J=some O->some O.block≠(Value.slice a xs.length c).ownBlock) (hn:xs.length<=1048576) (hm:m<=1048576):
  Calls Tryz.prog 306 #[.slice a xs.length c,.slice J m T] w fun e w'=>e=.returned (.tuple #[])/\Own w' B (.slice a xs.length c) (dropL xs d)/\w.grownBy w' (Value.slice a xs.length c).ownBlock:=by
 obtain rfl:m=d.length:=q.1.symm;have C:=fun wx ts t=>Jc xs.length d.length ts t wx;obtain⟨f,o⟩:∃f,f=min xs.length d.length:=⟨_,rfl⟩;rw[<-o]at C;have ab:f<=xs.length/\f<=d.length:=by omega
 have I:=Ab o;clear o;go_enter Tryz.func306,Tryz.ntmps306;go_wp2;go_loopw [10] (fun i wr=> ∃k:Nat,k<=f/\i=.int .i64 k/\Hid (Own wr B (.slice a xs.length c) (Gr xs d k))/\Hid (w.grownBy wr (Value.slice a xs.length c).ownBlock)) (fun i _=>f-(intOf i).toNat)
 case atStart=>exact⟨0,Nat.zero_le _,rfl,Ab (by rw[eM];exact D),Ab (Gn _ _)⟩
 case round=>
  obtain⟨k,hk,rfl,p,H⟩:=hrel;by_cases aa:k<f
  ·obtain⟨b',Q,rfl,r⟩:=(q.kept (Aa H) h).at (i:=k) (by omega)
   have N:k<xs.length:=by omega
   have Z:(k:Int)<(d.length:Int):=by omega
   have Y:(k:Int)<(xs.length:Int):=by omega
   obtain⟨g,cap,K,V,X,s,A⟩:=(Aa p).at (by rw[Gj];omega);rw[Gj]at K;simp only[Value.slice.injEq,true_and]at K;obtain⟨rfl,rfl⟩:=K;have E:=r k (by omega);have l:=s k (by rw[Gj];omega);have W:=A k;rw[Kk xs d k k (by omega),if_neg (by omega)]at l;have ac:=XG (xs.getD k 0) (d.getD k 0) (D.1.get k) (q.2.1.get k);have R:=Ab (ft D.1 N (Aa p));have S:=Ab (fun u=>BD (Aa H) (BF _ g k u) (.inl rfl));generalize anW (xs.getD k 0) (d.getD k 0)=z at*;generalize xs.getD k 0=x at*;generalize d.getD k 0=y at*;clear r s A q p D h;have P:(k:Int)<(f:Int):=by omega
   go_wp2;go_region
   all_goals go_wp2
   all_goals go_roundw
   all_goals first|exact⟨k+1,by omega,by go_num,Ab (Aa R).drew,Ab (JS (Aa S _))⟩|(simp[intOf];omega)
  ·have L:k=f:=by omega
   subst L;rw[fp xs d _ (by have:=Aa I;omega)]at p;clear q h D;go_wp2;go_end0;exact⟨rfl,Aa p,Aa H⟩
theorem Ku:(Tryz.prog.info? 73).map (fun i=>(i.zero,i.size,i.bytes))=some (some (.agg #[.slice none 0 0,.string ⟨#[]⟩]),2,40):=by kernel_rfl
def cellsR:List RV->List Value
 |[]=>[]
 |r::rs=>.slice r.a r.n r.c::.string r.s::cellsR rs
theorem LM:∀rs:List RV,(cellsR rs).length=rs.length*2
 |[]=>rfl
 |r::rs=>by simp[cellsR,LM rs];omega
theorem Kh:∀(a b:List RV),cellsR (a++b)=cellsR a++cellsR b
 |[],b=>rfl
 |r::a,b=>by simp[cellsR,Kh a b]
theorem Il:∀(rs:List RV) (i:Nat),i<rs.length->(cellsR rs)[i*2]? =some (.slice (rs.getD i .dflt).a (rs.getD i .dflt).n (rs.getD i .dflt).c)/\(cellsR rs)[i*2+1]? =some (.string (rs.getD i .dflt).s)
 |[],i,h=>by simp at h
 |r::rs,0,_=>by simp[cellsR]
 |r::rs,i+1,h=>by
  have:=Il rs i (by simpa using h);rw[show(i+1)*2=i*2+1+1 by omega];simpa [cellsR]using this
theorem SA:∀(rs:List RV),∀u∈cellsR rs,u.oneCell'=true
 |[],u,h=>by cases h
 |r::rs,u,h=>by
  rcases List.mem_cons.1 h with rfl|h
  ·rfl
  ·rcases List.mem_cons.1 h with rfl|h
   ·rfl
   ·exact SA rs u h
def Ak(w:World)(B:Nat)(v:Value)(rs:List RV):Prop:=w.ownsRow B 73 2 v rs.length (cellsR rs)
theorem Ak.nil(w:World)(B:Nat):Ak w B (.slice none 0 0) []:=World.ownsRow_nil _ _ _ _
theorem Ak.cellAt{c:Nat}(h:Ak w B (.slice (some ⟨g,0,none⟩) n c) rs){j:Nat}{u:Value}(a:(cellsR rs)[j]? =some u):w.cell? ⟨g,j,none⟩=some u:=by
 have:=World.ownsRow.cells h (g:=g) rfl j u a;rwa[show(⟨g,0,none⟩:Addr).add j=⟨g,j,none⟩ by unfold Addr.add;split<;>simp_all]at this
theorem Ak.rows(h:Ak w B v rs)(p:Ae w rs):∃a c,v=.slice a rs.length c/\Aj w a rs.length rs/\rs.length<=c/\c<=9223372036854775807:=by
 have e:=h;rcases h.2 with⟨rfl,f⟩|⟨g,cap,l,rfl,r,s,o,m,q,ht⟩
 ·exact⟨none,0,by rw[f],⟨rfl,fun i d=>by omega,.inl f⟩,by omega,by omega⟩
 ·refine⟨_,cap,rfl,⟨rfl,fun i d=>(p.get d).1,.inr ⟨g,0,rfl,fun i d=>?_⟩⟩,o,by simpa [maxLen]using m⟩
  rw[Nat.zero_add];exact⟨e.cellAt (Il rs i d).1,e.cellAt (Il rs i d).2⟩
theorem Ak.mono{B':Nat}(h:Ak w B v rs)(e:B'<=B):Ak w B' v rs:=by
 refine⟨h.1,?_⟩;rcases h.2 with c|⟨g,cap,a,d,f,r⟩
 ·exact .inl c
 ·exact .inr ⟨g,cap,a,d,Nat.le_trans e f,r⟩
theorem Ak.below{w':World}(h:Ak w B v rs)(f:Below w.heap.size w w'):Ak w' B v rs:=by
 refine⟨h.1,?_⟩;rcases h.2 with d|⟨g,cap,c,e,i,a,r⟩
 ·exact .inl d
 ·exact .inr ⟨g,cap,c,e,i,(f.block g (Array.getElem?_eq_some_iff.1 a).1).trans a,r⟩
theorem Ak.kept{w':World}{B' c:Nat}(h:Ak w B v rs)(o:w.grownBy w' (some g))(p:Own w B' (.slice (some ⟨g,0,none⟩) n c) xs):Ak w' B v rs:=by
 refine World.ownsRow.kept h o ?_;rcases h.2 with⟨rfl,s⟩|⟨q,cap,l,rfl,u,d,r⟩
 ·exact .inl rfl
 ·refine .inr fun e=>?_
  simp only[Value.ownBlock,Option.some.injEq]at e;subst e;rcases p.2.2 with⟨e,_⟩|⟨g2,f,i,e,m,a,r2⟩
  ·cases e
  ·simp only[Value.slice.injEq,Option.some.injEq,Addr.mk.injEq,and_true]at e
   rw[<-e.1,d]at a;simp only[Option.some.injEq,Obj.cells.injEq]at a;exact absurd a.2.1 (by decide)
theorem RI{ops:Array Oper}{rest:List Oper}{o:Oper}{act:Act}{Q:Exit->Act->World->Prop}(m:o.guard=none)(s x:Operand)
  (J:o.op=.call {callee:=.builtin .append,args:=#[s,x],argTypes:=#[76,76]}) (B:Nat) (v:Value) (rs:List RV) (r:RV)
  (K:act.eval s=v) (L:act.eval x=.slice (some ⟨w.heap.size,0,none⟩) 1 1) (h:Ak w B v rs) (l:B<=w.heap.size) (O:rs.length<=1048576)
  (E:∀D w',Ak w' B D (rs++[r])->w.grownBy w' v.ownBlock->Below B w w'->wpList Tryz.prog ops Q rest (act.put o.dst D) w'):wpList Tryz.prog ops Q (o::rest) act (w.alloc (.cells #[.slice r.a r.n r.c,.string r.s] 73)):=by
 obtain⟨N,H,y,z,A⟩:=info_parts Ku;have i:Below w.heap.size w (w.alloc (.cells #[.slice r.a r.n r.c,.string r.s] 73)):=(Below.refl _ _).alloc (Nat.le_refl _) _;have C:(w.alloc (.cells #[.slice r.a r.n r.c,.string r.s] 73)).ownsRow B 73 2 v rs.length (cellsR rs):=h.below i
 refine wpList_append_own _ m s x 76 J B 73 N (.agg #[.slice none 0 0,.string ⟨#[]⟩]) 2 40 Tryz.underlying76 H y z A rfl (by decide) v rs.length (cellsR rs) K C ⟨w.heap.size,0,none⟩ 1 1 [.slice r.a r.n r.c,.string r.s] L rfl (fun j u p=>?_)
  (fun u q=>by rcases List.mem_cons.1 q with rfl|q<;>first|rfl|(rw[List.mem_singleton.1 q];rfl)) (by unfold maxLen;omega) (by omega) (Nat.le_trans l i.size) ?_
 ·have e:(⟨w.heap.size,0,none⟩:Addr).add j=⟨w.heap.size,j,none⟩:=by unfold Addr.add;split<;>simp_all
  rw[e,World.cell?_alloc_at _ _ _ _ rfl]
  match j with
  |0=>simpa using p
  |1=>simpa using p
  |j+2=>simp at p
 ·intro v' w' f d _
  refine E v' w' ?_ (BD (CN i _) d (.inl rfl)) ((i.mono l).grown d (Nat.le_trans l i.size) fun k I=>(C.lt k I).1);rw[show cellsR rs++[.slice r.a r.n r.c,.string r.s]=cellsR (rs++[r]) by rw[Kh];rfl]at f;show w'.ownsRow B 73 2 v' (rs++[r]).length (cellsR (rs++[r]));rw[List.length_append];exact f
def AO(rs:List RV):List Nat:=rs.foldl (fun a r=>xorL a r.xs) []
theorem Uv(rs:List RV):∀a,rs.foldl (fun a r=>xorL a r.xs) a=xorL a (AO rs):=by
 induction rs with
 |nil=>intro a;exact(MI a).symm
 |cons r rs c=>
  intro a;show rs.foldl _ (xorL a r.xs)=xorL a (rs.foldl _ (xorL [] r.xs));rw[c,c (xorL [] r.xs),Ps,jz]
theorem UR(r:RV)(rs:List RV):AO (r::rs)=xorL r.xs (AO rs):=by
 show rs.foldl _ (xorL [] r.xs)=_;rw[Uv,Ps]
theorem fB(ps bs:List RV):AO (ps++bs)=xorL (AO ps) (AO bs):=by
 unfold AO;rw[List.foldl_append];exact Uv bs _
theorem Pm(rs:List RV)(h:∀r∈rs,r.xs.length<=10):(AO rs).length<=10:=by
 induction rs with
 |nil=>simp[AO]
 |cons r rs c=>
  rw[UR,BY];have d:=h r List.mem_cons_self;have e:=c (fun r a=>h r (List.mem_cons_of_mem _ a));omega
theorem RZ(rs:List RV)(q i:Nat)(h:i<q):(rs.take q).getD i .dflt=rs.getD i .dflt:=by
 simp[List.getD_eq_getElem?_getD,h]
theorem RY(rs:List RV)(q i:Nat):(rs.drop q).getD i .dflt=rs.getD (q+i) .dflt:=by
 simp[List.getD_eq_getElem?_getD,List.getElem?_drop]
theorem Aj.take{a:Option Addr}(h:Aj w a n rs)(q:Nat)(f:q<=n):Aj w a q (rs.take q):=by
 refine⟨by rw[List.length_take,h.1];omega,fun i c=>by rw[RZ rs q i c];exact h.2.1 i (by omega),?_⟩;rcases h.2.2 with e|⟨b,off,rfl,d⟩
 ·exact .inl (by omega)
 ·exact .inr ⟨b,off,rfl,fun i c=>by rw[RZ rs q i c];exact d i (by omega)⟩
theorem Aj.drop{off:Nat}(h:Aj w (some ⟨b,off,none⟩) n rs)(q:Nat)(m:q<=n):Aj w (some ⟨b,off+q*2,none⟩) (n-q) (rs.drop q):=by
 refine⟨by rw[List.length_drop,h.1],fun i e=>by rw[RY];exact h.2.1 _ (by omega),?_⟩;rcases h.2.2 with l|⟨f,c,a,d⟩
 ·exact .inl (by omega)
 ·simp only[Option.some.injEq,Addr.mk.injEq,and_true]at a
  obtain⟨rfl,rfl⟩:=a;refine .inr ⟨b,_,rfl,fun i e=>?_⟩;rw[RY,show off+q*2+i*2=off+(q+i)*2 from by omega];exact d (q+i) (by omega)
theorem Vg:(Tryz.prog.info? 73).map (fun i=>(i.size,i.bytes))=some (2,40):=by kernel_rfl
theorem Ph(w:World):(sizeOf 73).run Tryz.prog w=.ok 2 w:=by
 cases h:Tryz.prog.info? 73 with
 |none=>have:=Vg;rw[h]at this;cases this
 |some i=>
  have:=Vg;rw[h]at this;simp only[Option.map_some,Option.some.injEq,Prod.mk.injEq]at this;simp[sizeOf,typeInfo,h,this.1]
theorem JD:Tryz.prog.underlying 76=some (.slice (Tryz.prog.elem 76)):=by kernel_rfl
theorem Ot:Tryz.prog.elem 76=73:=by kernel_rfl
theorem rN(b off n c q:Nat)(d:q<=n)(a:q<c)(w:World):
  (Instr.sliceAt 76 (.slice (some ⟨b,off,none⟩) n c) (some (.int .i64 (q:Int))) none none).run Tryz.prog w=.ok (.slice (some ⟨b,off+q*2,none⟩) (n-q) (c-q)) w:=by
 rw[run_sliceAt_slice _ _ _ _ _ _ JD,run_slice_l _ _ _ _ _ JD _ _ (by omega) (by omega),Ot,Ph];have e:¬c=q:=by omega
 simp[Result.andThen,sliced,e,Addr.add]
theorem VP(b off n c q:Nat)(a:q<=c)(w:World):
  (Instr.sliceAt 76 (.slice (some ⟨b,off,none⟩) n c) none (some (.int .i64 (q:Int))) none).run Tryz.prog w=.ok (.slice (some ⟨b,off,none⟩) q c) w:=by
 rw[run_sliceAt_slice _ _ _ _ _ _ JD,run_slice_h _ _ _ _ _ JD _ _ (by omega) (by omega),Ot,Ph];simp[Result.andThen,sliced,Addr.add]
theorem XN(N:Nat):∀(a:Option Addr) (n c:Nat) (rs:List RV) (w:World),n<=N->Aj w a n rs->(∀r∈rs,r.xs.length<=10)->n<=1048576->n<=c->c<=9223372036854775807->
  Calls Tryz.prog 305 #[.slice a n c] w fun e w'=> ∃v,e=.returned v/\Own w' w.heap.size v (AO rs)/\Below w.heap.size w w':=by
 induction N with
 |zero=>
  intro a n c rs w hN h D hn hc P;obtain rfl:n=0:=by omega
  obtain rfl:rs=[]:=List.eq_nil_of_length_eq_zero h.1;go_enter Tryz.func305,Tryz.ntmps305;go_wp2;go_ret;exact⟨_,rfl,Own.nil _ _,Below.refl _ _⟩
 |succ N ih=>
  intro a n c rs w hN h D hn hc P;by_cases h0:n=0
  ·subst h0
   obtain rfl:rs=[]:=List.eq_nil_of_length_eq_zero h.1;go_enter Tryz.func305,Tryz.ntmps305;go_wp2;go_ret;exact⟨_,rfl,Own.nil _ _,Below.refl _ _⟩
  by_cases h1:n=1
  ·subst h1
   obtain⟨r,rfl⟩:∃r,rs=[r]:=by
    match rs,h.1 with
    |[r],_=>exact⟨r,rfl⟩
   have s:=h.2.1 0 (by omega);obtain⟨b,off,rfl,f⟩:=h.at (i:=0) (by omega);obtain⟨ae,_⟩:=f 0 (by omega);have hl:=D r List.mem_cons_self;have hv:=Ab (show xorL r.xs []=AO [r] from by rw[UR];rfl);simp only[List.getD_cons_zero,Nat.zero_mul,Nat.add_zero]at s ae;have aj:r.n<=10:=by rw[<-s.1];exact hl
   have HR:=Ab s;clear h f D s ih;go_enter Tryz.func305,Tryz.ntmps305;go_wp2_with fail;refine(Jf r.a r.n r.c r.xs none 0 0 [] _ (Aa HR) (Dv _) (by omega) (by omega)).mono ?_;rintro e w1 ⟨v,rfl,ho,hb⟩;rw[Aa hv]at ho;have HO:=Ab ho;have HB:=Ab hb;clear ho hb;go_wp2;go_ret;exact⟨_,rfl,Aa HO,Aa HB⟩
  have e0:((n:Int)==0)=false:=by simp;omega
  have e1:((n:Int)==1)=false:=by simp;omega
  obtain⟨q,hq⟩:∃q,n/2=q:=⟨_,rfl⟩;have ag:(n:Int)/2=(q:Int):=by omega
  have ai:IntKind.i64.wrap ((n:Int).tdiv 2)=(q:Int):=by rw[Int.tdiv_eq_ediv_of_nonneg (by omega),ag,IntKind.wrap_i64];omega
  have S:q<=N:=by omega
  have T:n-q<=N:=by omega
  have z:q<=n:=by omega
  have af:(q:Int)<=(c:Int):=by omega
  obtain⟨b,off,rfl,f⟩:=h.at (i:=0) (by omega);have d:=(Below.refl w.heap.size w).drew;have HT:=Ab ((h.take q z).below d);have HD:=Ab ((h.drop q z).below d);have ab:=Ab d;have p:q<=c:=by omega
  have ak:=VP b off n c q p;have al:=rN b off n c q z (by omega);have V:q<=1048576:=by omega
  have W:n-q<=1048576:=by omega
  have X:n-q<=c-q:=by omega
  have Y:c-q<=9223372036854775807:=by omega
  have C:Hid (∀r∈rs.take q,r.xs.length<=10):=Ab (fun r s=>D r (List.mem_of_mem_take s));have A:Hid (∀r∈rs.drop q,r.xs.length<=10):=Ab (fun r s=>D r (List.mem_of_mem_drop s));have HV:=Ab (show xorL (AO (rs.take q)) (AO (rs.drop q))=AO rs from by rw[<-fB,List.take_append_drop]);have E:Hid ((AO (rs.take q)).length<=1048576):=Ab (by have:=Pm _ (Aa C);omega);have H:Hid ((AO (rs.drop q)).length<=1048576):=Ab (by have:=Pm _ (Aa A);omega);have KA:=Ab (ih (some ⟨b,off,none⟩) q c (rs.take q) w.drew S (Aa HT) (Aa C) V p P)
  have KB:Hid (∀w1,Below w.drew.heap.size w.drew w1->Calls Tryz.prog 305 #[.slice (some ⟨b,off+q*2,none⟩) (n-q) (c-q)] w1 fun e w'=> ∃v,e=.returned v/\Own w' w1.heap.size v (AO (rs.drop q))/\Below w1.heap.size w1 w'):=
   Ab (fun w1 hb=>ih (some ⟨b,off+q*2,none⟩) (n-q) (c-q) (rs.drop q) w1 T ((Aa HD).below hb) (Aa A) W X Y)
  clear h f D ih hq af d HT HD C A V W X Y S T;go_enter Tryz.func305,Tryz.ntmps305;go_wp2_with fail;refine wp_region_any (by kernel_rfl) ?_;change wpAny _ _ _ _ _ _ _ (World.drew _);refine wpAny_take (i:=0) (v:=?_) rfl (by kernel_rfl) (by kernel_rfl) (by kernel_rfl) (fun _ _ _ h=>h) (Or.inl ⟨by rfl,?f0⟩) ?_
  case f0=>(intro w;go_simp;try with_reducible rfl)
  refine wpAny_take (i:=1) (v:=?_) rfl (by kernel_rfl) (by kernel_rfl) (by kernel_rfl) (fun _ _ _ h=>h) (Or.inl ⟨by rfl,?f1⟩) ?_
  case f1=>(intro w;go_simp;try with_reducible rfl)
  refine wpAny_take (i:=2) (v:=?_) rfl (by kernel_rfl) (by kernel_rfl) (by kernel_rfl) (fun _ _ _ h=>h) (Or.inl ⟨by rfl,?f2⟩) ?_
  case f2=>(intro w;go_simp;try with_reducible rfl)
  refine wpAny_take (i:=4) (v:=?_) rfl (by kernel_rfl) (by kernel_rfl) (by kernel_rfl) (fun _ _ _ h=>h) (Or.inl ⟨by rfl,?f4⟩) ?_
  case f4=>(intro w;go_simp;try with_reducible rfl)
  refine wpAny_take (i:=5) (v:=?_) rfl (by kernel_rfl) (by kernel_rfl) (by kernel_rfl) (fun _ _ _ h=>h) (Or.inl ⟨by rfl,?f5⟩) ?_
  case f5=>(intro w;go_simp;try with_reducible rfl)
  refine wpAny_take (i:=6) (v:=?_) rfl (by kernel_rfl) (by kernel_rfl) (by kernel_rfl) (fun _ _ _ h=>h) (Or.inl ⟨by rfl,?f6⟩) ?_
  case f6=>(intro w;go_simp;try with_reducible rfl)
  refine wpAny_ready (rs:=[3]) (by kernel_rfl) (by simp) ?_;refine AllReady.cons rfl (fun K o=>?_) AllReady.nil;go_simp;refine(Aa KA).mono ?_;rintro e w1 ⟨v1,rfl,Q,L⟩;obtain⟨a1,c1,rfl,Z⟩:=Q.row;have I:=Ab Z;have u:=Ab L;clear Q Z L KA;refine o _ _ ?_;clear o K;refine wpAny_ready (rs:=[7]) (by kernel_rfl) (by simp) ?_;refine AllReady.cons rfl (fun K o=>?_) AllReady.nil;go_simp;refine(Aa KB _ (Aa u)).mono ?_;rintro e w2 ⟨v2,rfl,R,y⟩;obtain⟨a2,c2,rfl,aa⟩:=R.row;have J:=Ab aa;have m:=Ab ((Aa I).below y);have x:=Ab (Ad (Ad (Aa ab) (Aa u)) y);clear R aa y u I KB;refine o _ _ ?_;clear o K;refine wpAny_ready (rs:=[8]) (by kernel_rfl) (by simp) ?_;refine AllReady.cons rfl (fun K o=>?_) AllReady.nil;go_simp;refine(Jf _ _ _ _ _ _ _ _ _ (Aa m) (Aa J) (Aa E) (Aa H)).mono ?_;rintro e w3 ⟨v3,rfl,l,O⟩;rw[Aa HV]at l;have ad:=Ab (l.mono (Aa x).size);have ac:=Ab (Ad (Aa x) O);obtain⟨a3,c3,rfl,ah⟩:=l.row;clear l O ah J m x HV E H;refine o _ _ ?_;clear o K;refine wpAny_take (i:=9) (v:=?_) rfl (by kernel_rfl) (by kernel_rfl) (by kernel_rfl) (fun _ _ _ h=>h) (Or.inl ⟨by rfl,?f9⟩) ?_
  case f9=>(intro w;go_simp;try with_reducible rfl)
  refine wpAny_done (by kernel_rfl) ?_ _;go_wp2;go_ret;exact⟨_,rfl,Aa ad,Aa ac⟩
end Go.Proofs.YtfpmnekaockodaaGreatDoor
