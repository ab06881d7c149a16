/-
  What span's calls and the reference's tell of rows of words, on plain lists: the places that are kept, and the choice whose xor a row is. Of no program; words below 2^64.
  Slices of ints in memory: what can be read ('IntsAt'), and what is the call's own ('OwnI'). Contracts of span.sift, Keep, Fresh: for rows of at most 2^20 words, in every world that holds the table of math/bits.
  How many rows bring something anew: contracts of gauss.vecs, gauss.Rank, bucketlineref14.Vecs, Rank; one row more.
  Contracts of internal/stringslite.Clone and strings.Clone: for every text of at most 2^20 bytes.
  A block of five cells; rows of one's own; the store in memory ('StAt'); what a put makes of rows. No condition.
-/
import Derived.Test.YtlhhinlghhjghaaGreatDoorU10
import Derived.Test.YtlhhinlghhjghaaGreatDoorU11
import Derived.Test.YtlhhinlghhjghaaGreatDoorU4
import Derived.Test.YtlhhinlghhjghaaGreatDoorU1
import Derived.Lib.UnsafeStr
import Derived.Laws.Concat
import Derived.Test.YtlhhinlghhjghaaGreatDoorU9
import Derived.Deep.RegionHeld3
import Derived.Deep.AppendLies
import Derived.BigQuiet
namespace Go.Proofs.YtlhhinlghhjghaaGreatDoor
open Go.RowKit
set_option linter.unusedVariables false
set_option linter.unusedSimpArgs false
set_option maxRecDepth 4000
set_option maxHeartbeats 8000000
variable {l rs:List (List Nat)}{M n:Nat}
def Zdf(B:List (List Nat))(v:List Nat):List (List Nat):=if firstI (reduceL B v)<0 then B else B++[reduceL B v]
def broughtL(l:List (List Nat)):List (List Nat):=l.foldl Zdf []
theorem Fit.addT{B:List (List Nat)}(h:Fit M B){v:List Nat}(hv:smalls v)(hl:v.length≤M):Fit M (Zdf B v):=by
 unfold Zdf
 split
 ·exact h
 ·intro x hx
  rcases List.mem_append.1 hx with hx|hx
  ·exact h x hx
  ·rw[List.mem_singleton.1 hx];exact Zao h hv hl
theorem Zwp{B:List (List Nat)}(h:Fit M B){v:List Nat}(hv:smalls v)(hl:v.length≤M):(Zdf B v).map val=Ech.addT (B.map val) (val v):=by
 obtain⟨h1,h2⟩:=Zao h hv hl
 unfold Zdf Ech.addT
 rw[←ZbA h hv]
 by_cases h0:val (reduceL B v)=0
 ·rw[if_pos ((ZbO h1).2 h0),if_pos h0]
 ·rw[if_neg (fun k=>h0 ((ZbO h1).1 k)),if_neg h0];simp
theorem ZxK(B:List (List Nat))(v:List Nat):(Zdf B v).length≤B.length+1:=by
 unfold Zdf
 split
 ·omega
 ·simp
theorem Zc6:∀(l B:List (List Nat)),Fit M l→Fit M B→Fit M (l.foldl Zdf B)∧(l.foldl Zdf B).map val=(l.map val).foldl Ech.addT (B.map val)∧(l.foldl Zdf B).length≤B.length+l.length
 |[],B,_,hB=>⟨hB,rfl,by simp⟩
 |v::l,B,hl,hB=>by
  have hv:=hl v List.mem_cons_self
  obtain⟨h1,h2,h3⟩:=Zc6 l (Zdf B v) hl.tail (hB.addT hv.1 hv.2)
  refine⟨h1,?_,?_⟩
  ·show(l.foldl Zdf (Zdf B v)).map val=_
   rw[h2,Zwp hB hv.1 hv.2];rfl
  ·show(l.foldl Zdf (Zdf B v)).length≤_
   have:=ZxK B v
   simp only[List.length_cons]
   omega
theorem ZaB(h:Fit M l):Fit M (broughtL l):=(Zc6 l [] h (.nil M)).1
theorem Zho(h:Fit M l):(broughtL l).map val=(l.map val).foldl Ech.addT []:=(Zc6 l [] h (.nil M)).2.1
theorem Zct(h:Fit M l):(broughtL l).length≤l.length:=by
 have h1:(l.foldl Zdf []).length≤l.length:=by simpa using(Zc6 l [] h (.nil M)).2.2
 exact h1
theorem Zcy(h:Fit M l):Ech.Tri ((broughtL l).map val):=by rw[Zho h];exact(Ech.foldl_addT _ _ .nil).1
theorem ZfE(h:Fit M l)(x:Nat):Ech.Sp ((broughtL l).map val) x↔Ech.Sp (l.map val) x:=by rw[Zho h];exact(Ech.foldl_addT _ _ .nil).2 x
theorem Zf9{k:Nat}(h:k<l.length):broughtL (l.take (k+1))=Zdf (broughtL (l.take k)) (l.getD k []):=by
 unfold broughtL
 rw[List.take_succ_eq_append_getElem h,List.foldl_append]
 simp[List.getD_eq_getElem?_getD,List.getElem?_eq_getElem h]
theorem ZdY(h:Fit M l){v:List Nat}(hv:smalls v)(hl:v.length≤M):firstI (reduceL (broughtL l) v)<0↔Ech.Sp (l.map val) (val v):=by
 rw[ZbO (Zao (ZaB h) hv hl).1,ZbA (ZaB h) hv,Ech.tri_zero (Zcy h),ZfE h]
theorem Zk8(h:Fit M l){v:List Nat}(hv:smalls v)(hl:v.length≤M):firstI (reduceL (ZaW l) v)<0↔Ech.Sp (l.map val) (val v):=by
 rw[ZbO (Zao (Zkx h) hv hl).1,ZbA (Zkx h) hv,Ech.red_zero (ZuF h),ZdJ h,Ech.sp_basis]
def keepL(rs:List (List Nat)):Nat→List Nat
 |0=>[]
 |k+1=>if firstI (reduceL (broughtL (rs.take k)) (rs.getD k []))<0 then keepL rs k else keepL rs k++[k]
def ZgW(rs:List (List Nat)):Nat→List Nat
 |0=>[]
 |k+1=>if firstI (reduceL (ZaW (rs.take k)) (rs.getD k []))<0 then ZgW rs k else ZgW rs k++[k]
theorem ZtU(h:Fit M rs):∀k,ZgW rs k=keepL rs k
 |0=>rfl
 |k+1=>by
  have h1:=ZdY (h.take k) (h.getD k).1 (h.getD k).2
  have h2:=Zk8 (h.take k) (h.getD k).1 (h.getD k).2
  simp only[ZgW,keepL,ZtU h k]
  by_cases hs:Ech.Sp ((rs.take k).map val) (val (rs.getD k []))
  ·rw[if_pos (h1.2 hs),if_pos (h2.2 hs)]
  ·rw[if_neg (fun e=>hs (h1.1 e)),if_neg (fun e=>hs (h2.1 e))]
theorem ZfY(rs:List (List Nat)):∀k,∀i∈keepL rs k,i<k
 |0,i,h=>by cases h
 |k+1,i,h=>by
  simp only[keepL]at h
  split at h
  ·have:=ZfY rs k i h;omega
  ·rcases List.mem_append.1 h with h|h
   ·have:=ZfY rs k i h;omega
   ·rw[List.mem_singleton.1 h];omega
theorem ZbR(rs:List (List Nat)):∀k,(keepL rs k).length≤k
 |0=>Nat.le_refl _
 |k+1=>by
  have:=ZbR rs k
  simp only[keepL]
  split
  ·omega
  ·simp;omega
theorem ZdD(rs:List (List Nat)):∀k,k≤rs.length→(keepL rs k).length=(broughtL (rs.take k)).length
 |0,_=>by simp[keepL,broughtL]
 |k+1,h=>by
  rw[Zf9 (by omega)]
  simp only[keepL,Zdf]
  have:=ZdD rs k (by omega)
  split<;>simp[this]
theorem ZhD(rs:List (List Nat)):∀k,k≤rs.length→(ZgW rs k).length=(ZaW (rs.take k)).length
 |0,_=>by simp[ZgW,ZaW]
 |k+1,h=>by
  rw[ZoZ (by omega)]
  simp only[ZgW,ZaH]
  have:=ZhD rs k (by omega)
  split
  ·exact this
  ·rw[ZdU _ _ _ (Zmi _ _)]
   simp[this]
def ZcE(rs:List (List Nat))(ps:List Nat):List (List Nat):=ps.map fun i=>rs.getD i []
def ZhT(rs:List (List Nat)):List (List Nat):=ZcE rs (keepL rs rs.length)
theorem ZqE(h:Fit M rs)(ps:List Nat):Fit M (ZcE rs ps):=by
 intro x hx
 obtain⟨i,_,rfl⟩:=List.mem_map.1 hx
 exact h.getD i
theorem Zhi(h:Fit M rs):∀k,k≤rs.length→(∀x,Ech.Sp ((ZcE rs (keepL rs k)).map val) x↔Ech.Sp ((rs.take k).map val) x)∧Ech.Ind ((ZcE rs (keepL rs k)).map val)
 |0,_=>⟨fun x=>by simp[keepL,ZcE],Ech.Ind.nil⟩
 |k+1,hk=>by
  obtain⟨h1,h2⟩:=Zhi h k (by omega)
  have hin:=ZdY (h.take k) (h.getD k).1 (h.getD k).2
  have ht:(rs.take (k+1)).map val=(rs.take k).map val++[val (rs.getD k [])]:=by
   rw[List.take_succ_eq_append_getElem (show k<rs.length by omega),List.map_append,List.getD_eq_getElem?_getD,List.getElem?_eq_getElem (show k<rs.length by omega)]
   rfl
  rw[ht]
  simp only[keepL]
  split
  ·rename_i h0
   refine⟨fun x=>?_,h2⟩
   rw[h1]
   refine⟨fun e=>e.mono fun a ha=>List.mem_append_left _ ha,fun e=>e.of fun a ha=>?_⟩
   rcases List.mem_append.1 ha with ha|ha
   ·exact .of_mem ha
   ·rw[List.mem_singleton.1 ha];exact hin.1 h0
  ·rename_i h0
   have he:(ZcE rs (keepL rs k++[k])).map val=(ZcE rs (keepL rs k)).map val++[val (rs.getD k [])]:=by simp[ZcE]
   rw[he]
   refine⟨fun x=>⟨fun e=>e.of fun a ha=>?_,fun e=>e.of fun a ha=>?_⟩,h2.snoc fun e=>h0 (hin.2 ((h1 _).1 e))⟩
   ·rcases List.mem_append.1 ha with ha|ha
    ·exact((h1 a).1 (.of_mem ha)).mono fun c hc=>List.mem_append_left _ hc
    ·exact .of_mem (List.mem_append_right _ ha)
   ·rcases List.mem_append.1 ha with ha|ha
    ·exact((h1 a).2 (.of_mem ha)).mono fun c hc=>List.mem_append_left _ hc
    ·exact .of_mem (List.mem_append_right _ ha)
theorem Zju(h:Fit M rs)(x:Nat):Ech.Sp ((ZhT rs).map val) x↔Ech.Sp (rs.map val) x:=by
 have:=(Zhi h rs.length (Nat.le_refl _)).1 x
 rwa[List.take_length]at this
theorem Zxr(h:Fit M rs):Ech.Ind ((ZhT rs).map val):=(Zhi h rs.length (Nat.le_refl _)).2
theorem ZeT(rs:List (List Nat)):((ZhT rs).map val).length=(keepL rs rs.length).length:=by simp[ZhT,ZcE]
theorem Zvb(rs:List (List Nat))(i:Nat)(hi:i<(keepL rs rs.length).length):((ZhT rs).map val).getD i 0=val (rs.getD ((keepL rs rs.length).getD i 0) []):=by
 simp[ZhT,ZcE,List.getD_eq_getElem?_getD,List.getElem?_eq_getElem hi]
theorem Ze6(h:Fit M rs):(keepL rs rs.length).length=(ZaW rs).length:=by
 rw[←ZtU h,ZhD rs _ (Nat.le_refl _),List.take_length]
def chosenL(ps:List Nat)(p:Nat→Bool):Nat→List Nat
 |0=>[]
 |n+1=>if p n=true then chosenL ps p n++[ps.getD n 0]else chosenL ps p n
theorem Zf8(ps:List Nat){p q:Nat→Bool}:∀n,(∀i,i<n→p i=q i)→chosenL ps p n=chosenL ps q n
 |0,_=>rfl
 |n+1,h=>by simp only[chosenL];rw[Zf8 ps n fun i hi=>h i (by omega),h n (by omega)]
theorem Zfy(ps:List Nat)(p:Nat→Bool):∀n,(chosenL ps p n).length≤n
 |0=>Nat.le_refl _
 |n+1=>by
  have:=Zfy ps p n
  simp only[chosenL]
  split
  ·simp;omega
  ·omega
theorem Zft(ps:List Nat)(p:Nat→Bool):∀n,n≤ps.length→List.Sublist (chosenL ps p n) (ps.take n)
 |0,_=>by simp[chosenL]
 |n+1,h=>by
  rw[List.take_succ_eq_append_getElem (show n<ps.length by omega)]
  simp only[chosenL]
  split
  ·refine(Zft ps p n (by omega)).append ?_
   simp[List.getD_eq_getElem?_getD,List.getElem?_eq_getElem (show n<ps.length by omega)]
  ·exact(Zft ps p n (by omega)).trans (List.sublist_append_left _ _)
theorem Zkt{p:Nat→Bool}(hn:n≤(keepL rs rs.length).length):∀i∈chosenL (keepL rs rs.length) p n,i<rs.length:=fun i hi=>
 ZfY rs _ i (List.mem_of_mem_take ((Zft _ p n hn).subset hi))
def sumV(rs:List (List Nat))(ps:List Nat):List Nat:=ps.foldl (fun x i=>xorL x (rs.getD i [])) []
theorem Zoi(h:Fit M rs):∀(ps:List Nat) (x:List Nat),smalls x→x.length≤M→smalls (ps.foldl (fun x i=>xorL x (rs.getD i [])) x)∧(ps.foldl (fun x i=>xorL x (rs.getD i [])) x).length≤M
 |[],x,hx,hl=>⟨hx,hl⟩
 |i::ps,x,hx,hl=>Zoi h ps _ (Zd8 hx (h.getD i).1) (by rw[Zae];have:=(h.getD i).2;omega)
theorem ZkH(h:Fit M rs)(ps:List Nat):smalls (sumV rs ps)∧(sumV rs ps).length≤M:=Zoi h ps [] smalls.nil (Nat.zero_le _)
theorem Zxb(rs:List (List Nat))(ps:List Nat)(i:Nat):sumV rs (ps++[i])=xorL (sumV rs ps) (rs.getD i []):=by simp[sumV]
theorem ZlO(h:Fit M rs)(ps:List Nat)(c:Nat):∀n,n≤ps.length→val (sumV rs (chosenL ps (fun i=>c.testBit i) n))=Ech.lin ((ZcE rs ps).map val) c n
 |0,_=>rfl
 |n+1,hn=>by
  have hg:((ZcE rs ps).map val).getD n 0=val (rs.getD (ps.getD n 0) []):=by simp[ZcE,List.getD_eq_getElem?_getD,List.getElem?_eq_getElem (show n<ps.length by omega)]
  simp only[chosenL,Ech.lin]
  rw[hg]
  split
  ·rw[Zxb,ZrN (ZkH h _).1 (h.getD _).1,ZlO h ps c n (by omega)]
  ·rw[ZlO h ps c n (by omega),Nat.xor_zero]
def Choice(rs:List (List Nat))(v:List Nat)(c:Nat):Prop:=c<2^(keepL rs rs.length).length∧Ech.lin ((ZhT rs).map val) c (keepL rs rs.length).length=val v
theorem Zkn(h:Fit M rs){v:List Nat}(hv:Ech.Sp (rs.map val) (val v)):∃c,Choice rs v c:=by
 obtain⟨c,h1,h2⟩:=Ech.lin_of_sp ((Zju h _).2 hv)
 rw[ZeT]at h1 h2
 exact⟨c,h1,h2⟩
theorem Choice.sum(h:Fit M rs){v:List Nat}{c:Nat}(hc:Choice rs v c):val (sumV rs (chosenL (keepL rs rs.length) (fun i=>c.testBit i) (keepL rs rs.length).length))=val v:=by
 rw[ZlO h _ _ _ (Nat.le_refl _)]
 exact hc.2
theorem Zhb(xs:List Nat)(i j:Nat)(h:i<64*xs.length):getB (setB xs i true) j=(decide (j=i)||getB xs j):=by
 have hi:i/64<xs.length:=by omega
 unfold getB setB setW
 rw[ZaP]
 by_cases h1:j/64=i/64
 ·rw[if_pos ⟨h1,hi⟩,h1]
  by_cases h2:j%64=i%64
  ·have h3:j=i:=by omega
   subst h3
   split
   ·rename_i hb;rw[hb];simp
   ·rename_i hb;rw[Nat.testBit_xor,Nat.testBit_two_pow];simp at hb;simp[hb]
  ·have h3:decide (j=i)=false:=by simp;omega
   have h4:decide (i%64=j%64)=false:=by simp;omega
   split
   ·rw[h3];rfl
   ·rw[Nat.testBit_xor,Nat.testBit_two_pow,h3,h4];simp
 ·have h3:decide (j=i)=false:=by simp;omega
  rw[if_neg (fun k=>h1 k.1),h3];rfl
theorem ZfW{xs:List Nat}(h:smalls xs)(i:Nat)(on:Bool):smalls (setB xs i on):=h.set _ _ (ZjI _ _ _ (h.get _) (by omega))
def ZbK(row v fs:List Nat):Nat→List Nat
 |0=>row
 |k+1=>if getB v (fs.getD k 0)=true then setB (ZbK row v fs k) k true else ZbK row v fs k
theorem ZcF(row v fs:List Nat):∀k,(ZbK row v fs k).length=row.length
 |0=>rfl
 |k+1=>by
  simp only[ZbK]
  split
  ·rw[Zbh,ZcF row v fs k]
  ·exact ZcF row v fs k
theorem ZbP{row:List Nat}(h:smalls row)(v fs:List Nat):∀k,smalls (ZbK row v fs k)
 |0=>h
 |k+1=>by
  simp only[ZbK]
  split
  ·exact ZfW (ZbP h v fs k) _ _
  ·exact ZbP h v fs k
theorem ZjG(row v fs:List Nat)(j:Nat):∀k,k≤64*row.length→getB (ZbK row v fs k) j=(getB row j||(decide (j<k)&&getB v (fs.getD j 0)))
 |0,_=>by simp[ZbK]
 |k+1,h=>by
  have ih:=ZjG row v fs j k (by omega)
  simp only[ZbK]
  by_cases h1:j=k
  ·subst h1
   have h0:decide (j<j)=false:=by simp
   have h2:decide (j<j+1)=true:=by simp
   rw[h0]at ih
   rw[h2]
   split
   ·rename_i hb
    rw[Zhb _ _ _ (by rw[ZcF];omega),ih,hb];simp
   ·rename_i hb
    rw[ih,show getB v (fs.getD j 0)=false by simpa using hb];simp
  ·have h2:decide (j<k+1)=decide (j<k):=by by_cases h5:j<k<;>simp[h5]<;>omega
   rw[h2]
   split
   ·rw[Zhb _ _ _ (by rw[ZcF];omega),ih];simp[h1]
   ·exact ih
def Zba(n:Nat):List Nat:=List.replicate n 0
theorem Zbe(n:Nat):smalls (Zba n):=fun x hx=>by rw[List.eq_of_mem_replicate hx];show 0<18446744073709551616;decide
theorem Zbk(n:Nat):(Zba n).length=n:=by simp[Zba]
theorem Zli(n j:Nat):getB (Zba n) j=false:=by
 unfold getB Zba
 rw[List.getD_eq_getElem?_getD,List.getElem?_replicate]
 split<;>simp
theorem Zwj{s:Nat}{v fs:List Nat}(hv:smalls v)(hn:n≤64*s):val (ZbK (Zba s) v fs n)=Ech.proj fs (val v) n:=by
 apply Nat.eq_of_testBit_eq
 intro j
 rw[ZaN (ZbP (Zbe s) v fs n),ZjG _ _ _ _ _ (by rw[Zbk];exact hn),Zli,Ech.proj_bit,ZaN hv]
 simp
theorem ZwX{s i:Nat}{v fs:List Nat}(hv:smalls v)(hn:n≤64*s)(hi:n+i<64*s):val (setB (ZbK (Zba s) v fs n) (n+i) true)=Ech.proj fs (val v) n^^^2^(n+i):=by
 apply Nat.eq_of_testBit_eq
 intro j
 rw[ZaN (ZfW (ZbP (Zbe s) v fs n) _ _),Zhb _ _ _ (by rw[ZcF,Zbk];exact hi),Nat.testBit_xor,Nat.testBit_two_pow,
  ZjG _ _ _ _ _ (by rw[Zbk];exact hn),Zli,Ech.proj_bit,ZaN hv]
 by_cases h1:j=n+i
 ·have h2:decide (j<n)=false:=by simp;omega
  rw[h2];simp[h1]
 ·have h2:decide (n+i=j)=false:=by simp;omega
  have h3:decide (j=n+i)=false:=by simpa using h1
  rw[h2,h3];simp
theorem Zkq{M':Nat}(hf:Fit M rs){v fs q:List Nat}{R:List (List Nat)}(hfs:fs=(broughtL rs).map fun b=>Ech.low (val b))(hR:R.length=(keepL rs rs.length).length)(hRf:Fit M' R)
  (hRi:∀i,i<(keepL rs rs.length).length→val (R.getD i [])=Ech.proj fs (val (rs.getD ((keepL rs rs.length).getD i 0) [])) (keepL rs rs.length).length^^^2^((keepL rs rs.length).length+i))
  (hq:smalls q) (hqv:val q=Ech.proj fs (val v) (keepL rs rs.length).length) (hql:q.length≤M') {c:Nat} (hc:Choice rs v c) (i:Nat):getB (reduceL (broughtL R) q) ((keepL rs rs.length).length+i)=c.testBit i:=by
 have hbl:((broughtL rs).map val).length=(keepL rs rs.length).length:=by rw[List.length_map,ZdD rs _ (Nat.le_refl _),List.take_length]
 have hm:=Ech.mark_red (ks:=(ZhT rs).map val) (R:=R.map val) (B:=(broughtL R).map val) (P:=fun x=>Ech.proj fs x (keepL rs rs.length).length) (W:=(keepL rs rs.length).length) (c:=c) (Ech.proj_xor fs _) (fun x _=>Ech.proj_lt fs x _)
  (fun x hx h0=>by
   refine Ech.proj_inj (Zcy hf) (fs:=fs) (by rw[hfs];simp) ((ZfE hf x).2 ((Zju hf x).1 hx)) ?_
   rw[hbl];exact h0) (Zxr hf) (by rw[ZeT,List.length_map,hR])
  (fun i hi=>by
   rw[ZeT]at hi
   rw[Zvb rs i hi,←hRi i hi]
   simp[List.getD_eq_getElem?_getD,List.getElem?_eq_getElem (show i<R.length by omega)]) (Zcy hRf) (ZfE hRf) (by rw[ZeT];exact hc.1)
 rw[ZeT,hc.2,←hqv,←ZbA (ZaB hRf) hq]at hm
 rw[←ZaN (Zao (ZaB hRf) hq hql).1,hm,Ech.shift_high]
end Go.Proofs.YtlhhinlghhjghaaGreatDoor
namespace Go.Proofs.YtlhhinlghhjghaaGreatDoor
open Go.RowKit Go.Sort
set_option linter.unusedVariables false
set_option linter.unusedSimpArgs false
set_option maxRecDepth 4000
set_option maxHeartbeats 8000000
variable {rs:List (List Nat)}{xs:List Nat}{vs:List Value}{n B B':Nat}{v u:Value}{w w':World}
def Zb8(xs:List Nat):List Value:=xs.map fun(x:Nat)=>Value.int .i64 (x:Int)
theorem Zii(xs:List Nat)(i:Nat)(h:i<xs.length):(Zb8 xs)[i]? =some (.int .i64 ((xs.getD i 0:Nat):Int)):=by
 simp[Zb8,List.getElem?_eq_getElem h,List.getD_eq_getElem?_getD]
theorem ZoT(xs:List Nat)(i x:Nat):(Zb8 xs).set i (.int .i64 (x:Int))=Zb8 (xs.set i x):=by
 simp[Zb8,List.map_set]
def IntsAt(w:World)(a:Option Addr)(n:Nat)(xs:List Nat):Prop:=
 xs.length=n∧(n=0∨∃b off,a=some ⟨b,off,none⟩∧∀i,i<n→w.cell? ⟨b,off+i,none⟩=some (.int .i64 ((xs.getD i 0:Nat):Int)))
theorem IntsAt.at{a:Option Addr}(h:IntsAt w a n xs){i:Nat}(hi:i<n):
  ∃b off,a=some ⟨b,off,none⟩∧∀i,i<n→w.cell? ⟨b,off+i,none⟩=some (.int .i64 ((xs.getD i 0:Nat):Int)):=by
 rcases h.2 with h0|h0
 ·omega
 ·exact h0
theorem IntsAt.below{a:Option Addr}(h:IntsAt w a n xs)(hb:Below w.heap.size w w'):IntsAt w' a n xs:=by
 refine⟨h.1,?_⟩
 rcases h.2 with h0|⟨b,off,rfl,hc⟩
 ·exact .inl h0
 ·exact .inr ⟨b,off,rfl,fun i hi=>(hb.cell (World.block_lt_of_cell? w _ (hc i hi))).trans (hc i hi)⟩
def OwnI(w:World)(B:Nat)(v:Value)(xs:List Nat):Prop:=w.ownsRow B 3 1 v xs.length (Zb8 xs)
theorem OwnI.ints(h:OwnI w B v xs):∃a c,v=.slice a xs.length c∧IntsAt w a xs.length xs:=by
 have ho':w.ownsRow B 3 1 v xs.length (Zb8 xs):=h
 rcases h.2 with⟨rfl,h0⟩|⟨g,cap,cur,rfl,hb,hg,hn,hm,hsz,ht⟩
 ·exact⟨none,0,by rw[h0],rfl,.inl h0⟩
 ·refine⟨_,cap,rfl,rfl,.inr ⟨g,0,rfl,fun i hi=>?_⟩⟩
  rw[Nat.zero_add,ho'.cellAt i (by omega),Zii xs i hi]
theorem OwnI.nil(w:World)(B:Nat):OwnI w B (.slice none 0 0) []:=World.ownsRow_nil _ _ _ _
theorem OwnI.mono(h:OwnI w B v xs)(hB:B'≤B):OwnI w B' v xs:=by
 refine⟨h.1,?_⟩
 rcases h.2 with h0|⟨g,cap,cur,h1,hb,r⟩
 ·exact .inl h0
 ·exact .inr ⟨g,cap,cur,h1,Nat.le_trans hB hb,r⟩
theorem OwnI.below(h:OwnI w B v xs)(hb:Below w.heap.size w w'):OwnI w' B v xs:=Zcg h hb
theorem ZlZ{e e':TypeId}{m:Nat}{cs ds:List Value}(hne:e≠e')(h:w.ownsRow B e 1 v n cs)(k:w.ownsRow B' e' 1 u m ds):Dis u v:=by
 rcases h.2 with⟨rfl,_⟩|⟨g,cap,cur,rfl,hb,hg,_⟩
 ·by_cases e:u.ownBlock=none
  ·exact .inl e
  ·exact .inr e
 ·rcases k.2 with⟨rfl,_⟩|⟨g',cap',cur',rfl,hb',hg',_⟩
  ·exact .inl rfl
  ·right
   intro e
   simp only[Value.ownBlock,Option.some.injEq]at e
   rw[e]at hg'
   rw[hg]at hg'
   simp at hg'
   exact hne hg'.2
theorem OwnI.keptV(h:OwnI w B v xs)(k:OwnV w B' u vs rs)(hg:w.grownBy w' u.ownBlock):OwnI w' B v xs:=
 World.ownsRow.kept h hg (ZlZ (by decide) k.top h)
theorem Own.keptI{ys:List Nat}(h:Own w B v xs)(k:OwnI w B' u ys)(hg:w.grownBy w' u.ownBlock):Own w' B v xs:=
 h.kept hg (ZlZ (by decide) k h.2)
theorem OwnV.keptI{ys:List Nat}(h:OwnV w B v vs rs)(k:OwnI w B' u ys)(hg:w.grownBy w' u.ownBlock):OwnV w' B v vs rs:=
 ⟨h.top.kept hg (ZlZ (by decide) k h.top),fun i u hu=>(h.rows i u hu).keptI k hg,h.apart⟩
theorem ZnW:(Tryz.prog.info? 3).map (fun i=>(i.zero,i.size,i.bytes))=some (some (.int .i64 0),1,8):=by kernel_rfl
theorem Zgc{ops:Array Oper}{rest:List Oper}{o:Oper}{act:Act}{Q:Exit→Act→World→Prop}(hgd:o.guard=none)(s x:Operand)
  (ho:o.op=.call {callee:=.builtin .append,args:=#[s,x],argTypes:=#[83,83]}) (B:Nat) (v:Value) (xs:List Nat) (y:Nat)
  (hs:act.eval s=v) (hx:act.eval x=.slice (some ⟨w.heap.size,0,none⟩) 1 1) (h:OwnI w B v xs) (hB:B≤w.heap.size) (hn:xs.length≤1048576)
  (hK:∀s' w',OwnI w' B s' (xs++[y])→w.grownBy w' v.ownBlock→wpList Tryz.prog ops Q rest (act.put o.dst s') w'):wpList Tryz.prog ops Q (o::rest) act (w.alloc (.cells #[.int .i64 (y:Int)] 3)):=by
 obtain⟨i0,hi,hz0,hz1,hz2⟩:=info_parts ZnW
 have hb:Below w.heap.size w (w.alloc (.cells #[.int .i64 (y:Int)] 3)):=(Below.refl _ _).alloc (Nat.le_refl _) _
 have h1:=h.below hb
 refine wpList_append_own _ hgd s x 83 ho B 3 i0 (.int .i64 0) 1 8 Tryz.underlying83 hi hz0 hz1 hz2 rfl (by decide) v xs.length (Zb8 xs) hs h1 ⟨w.heap.size,0,none⟩ 1 1 [.int .i64 (y:Int)] hx rfl (fun j u hj=>?_)
  (fun u hu=>by rw[List.mem_singleton.1 hu];rfl) (by unfold maxLen;omega) (by omega) (Nat.le_trans hB hb.size) ?_
 ·match j with
  |0=>
   have hc:(w.alloc (.cells #[.int .i64 (y:Int)] 3)).cell? ⟨w.heap.size,0,none⟩=some (.int .i64 (y:Int)):=by rw[World.cell?_alloc_at _ _ _ _ rfl];rfl
   simpa [Addr.add,hc]using hj
  |j+1=>simp at hj
 ·intro v' w' hown hgrow _
  refine hK v' w' ?_ (gb_trans (Zai hb _) hgrow (.inl rfl))
  have e:Zb8 xs++[.int .i64 (y:Int)]=Zb8 (xs++[y]):=by simp[Zb8]
  rw[e]at hown
  show w'.ownsRow B 3 1 v' (xs++[y]).length (Zb8 (xs++[y]))
  rw[List.length_append]
  exact hown
theorem OwnI.grown(h:OwnI w B v xs)(hg:w.grownBy w' v.ownBlock)(hB:B≤w.heap.size):Below B w w':=Zat hg hB fun k hk=>(World.ownsRow.lt h k hk).1
theorem OwnV.grown(h:OwnV w B v vs rs)(hg:w.grownBy w' v.ownBlock)(hB:B≤w.heap.size):Below B w w':=Zat hg hB fun k hk=>(h.top.lt k hk).1
theorem ZsD(rs:List (List Nat))(k:Nat)(hk:k<rs.length):(firstI (reduceL (broughtL (rs.take k)) (rs.getD k []))<0→keepL rs (k+1)=keepL rs k∧broughtL (rs.take (k+1))=broughtL (rs.take k))∧
  (0≤firstI (reduceL (broughtL (rs.take k)) (rs.getD k []))→keepL rs (k+1)=keepL rs k++[k]∧broughtL (rs.take (k+1))=broughtL (rs.take k)++[reduceL (broughtL (rs.take k)) (rs.getD k [])]):=by
 rw[Zf9 hk]
 unfold Zdf
 simp only[keepL]
 constructor
 ·intro h
  rw[if_pos h,if_pos h]
  exact⟨rfl,rfl⟩
 ·intro h
  rw[if_neg (by omega),if_neg (by omega)]
  exact⟨rfl,rfl⟩
theorem ZeV(a:Option Addr)(n c:Nat)(rs:List (List Nat))(w:World)(ht:Tab w)(h:VecsAt w a n rs)(hf:Fit 1048576 rs)(hn:n≤100000):
  Calls Tryz.prog 231 #[.slice a n c] w fun e w'=> ∃vk vb vs,e=.returned (.tuple #[vk,vb])∧OwnI w' w.heap.size vk (keepL rs rs.length)∧OwnV w' w.heap.size vb vs (broughtL rs)∧Below w.heap.size w w':=by
 obtain rfl:n=rs.length:=h.1.symm
 go_enter Tryz.func231,Tryz.ntmps231
 go_wp2
 go_loopw [2,3,9] (fun kv bv i wr=> ∃k:Nat,k≤rs.length∧i=.int .i64 k∧∃ak ck ab cb vs,kv=.slice ak (keepL rs k).length ck∧bv=.slice ab (broughtL (rs.take k)).length cb∧
  Hid (OwnI wr w.heap.size (.slice ak (keepL rs k).length ck) (keepL rs k))∧Hid (OwnV wr w.heap.size (.slice ab (broughtL (rs.take k)).length cb) vs (broughtL (rs.take k)))∧Hid (Below w.heap.size w wr)) (fun _ _ i _=>rs.length-(intOf i).toNat)
 case atStart=>exact⟨0,Nat.zero_le _,rfl,none,0,none,0,[],rfl,rfl,hide (OwnI.nil _ _),hide (OwnV.nil _ _),hide (Below.refl _ _)⟩
 case round=>
  obtain⟨k,hk,rfl,ak,ck,ab,cb,vs,rfl,rfl,HI,HV,HB⟩:=hrel
  by_cases hlt:k<rs.length
  ·have hB:=unhide HB
   obtain⟨b,off,rfl,hc⟩:=(h.below hB).at hlt
   obtain⟨ai,ci,hcell,hrow⟩:=hc k hlt
   obtain⟨_,_,e1,hvec⟩:=(unhide HV).vecs
   simp only[Value.slice.injEq,true_and]at e1
   obtain⟨rfl,rfl⟩:=e1
   have hfk:=ZaB (hf.take k)
   have hbl:=Zct (hf.take k)
   have htk:(rs.take k).length≤k:=List.length_take_le _ _
   have hkl:=ZbR rs k
   have HR:=hide (Zfr ab _ cb (broughtL (rs.take k)) ai _ ci (rs.getD k []) wr (ht.below hB) hvec hfk hrow (by omega) (hf.getD k).2)
   have hrl:=(Zao hfk (hf.getD k).1 (hf.getD k).2).2
   have HF:=hide (fun(w1:World) (ar:Option Addr) (cr:Nat) (hb:Below wr.heap.size wr w1) (hr:RowAt w1 ar (reduceL (broughtL (rs.take k)) (rs.getD k [])).length (reduceL (broughtL (rs.take k)) (rs.getD k [])))=>Zc0 ar _ cr (reduceL (broughtL (rs.take k)) (rs.getD k [])) w1 (ht.below (below0 hB hb)) hr hrl)
   obtain⟨hs1,hs2⟩:=ZsD rs k hlt
   have HS1:=hide hs1
   have HS2:=hide hs2
   clear hc hrow h hfk hvec hs1 hs2
   generalize rs.getD k []=y at*
   generalize broughtL (rs.take k)=bk at*
   generalize keepL rs k=kk at*
   generalize reduceL bk y=r at*
   have hbk:bk.length≤1048576:=by omega
   have hkk:kk.length≤1048576:=by omega
   by_cases hneg:firstI r<0
   ·obtain⟨hk1,hk2⟩:=unhide HS1 hneg
    have hdn:decide (0≤firstI r)=false:=by rw[decide_eq_false_iff_not];omega
    have HK1:=hide hk1
    have HK2:=hide hk2
    clear hneg hk1 hk2 HS1 HS2
    generalize firstI r=f at*
    go_wp2_with fail
    refine(unhide HR).mono ?_
    rintro e w1 ⟨v,rfl,ho,hb1⟩
    obtain⟨ar,cr,rfl,hr⟩:=ho.row
    have HF1:=hide (unhide HF w1 ar cr hb1 hr)
    have hI1:=(unhide HI).below hb1
    have hV1:=(unhide HV).below hb1
    have HB1:=hide (below0 hB hb1)
    clear hb1 ho hr HF HR HB HI HV hB hcell
    go_wp2_with fail
    refine(unhide HF1).mono ?_
    rintro e w2 ⟨rfl,hw⟩
    obtain rfl:=hw.symm
    rw[←unhide HK1]
    rw[←unhide HK2]
    rw[←unhide HK1]at hI1
    rw[←unhide HK2]at hV1
    have HI1:=hide hI1
    have HV1:=hide hV1
    clear hI1 hV1 HK1 HK2 HF1
    go_wp2
    go_roundw
    case rel=>exact⟨k+1,by omega,by go_num,ak,ck,ab,cb,vs,rfl,rfl,HI1,HV1,HB1⟩
    case measure=>simp[intOf];omega
   ·obtain⟨hk1,hk2⟩:=unhide HS2 (by omega)
    have hdn:decide (0≤firstI r)=true:=by rw[decide_eq_true_iff];omega
    have HK1:=hide hk1
    have HK2:=hide hk2
    clear hneg hk1 hk2 HS1 HS2
    generalize firstI r=f at*
    go_wp2_with fail
    refine(unhide HR).mono ?_
    rintro e w1 ⟨v,rfl,ho,hb1⟩
    obtain⟨ar,cr,rfl,hr⟩:=ho.row
    have HF1:=hide (unhide HF w1 ar cr hb1 hr)
    have HD1:=hide ((unhide HV).dis_new ho)
    have HI1:=hide ((unhide HI).below hb1)
    have HV1:=hide ((unhide HV).below hb1)
    have HB1:=hide (below0 hB hb1)
    have HO1:=hide (ho.mono hB.size)
    clear hb1 ho hr HF HR HB HI HV hB hcell
    go_wp2_with fail
    refine(unhide HF1).mono ?_
    rintro e w2 ⟨rfl,hw⟩
    obtain rfl:=hw.symm
    clear HF1
    go_wp2_with (first
     |(at_builtin;refine Zgc rfl _ _ rfl w.heap.size (.slice ak kk.length ck) kk k rfl rfl (unhide HI1) (unhide HB1).size hkk ?_;intro s4 w4 hI4 hg4;have hV4:=(unhide HV1).keptI (unhide HI1) hg4;have hO4:=(unhide HO1).keptI (unhide HI1) hg4;have hB4:=(unhide HB1).trans ((unhide HI1).grown hg4 (unhide HB1).size);rw[←unhide HK1]at hI4;obtain⟨a4,c4,rfl,_⟩:=hI4.ints;clear hg4)
     |(at_builtin;refine ZlH rfl _ _ rfl w.heap.size (.slice ab bk.length cb) vs bk (.slice ar r.length cr) r rfl rfl hV4 hB4.size hO4 (unhide HD1) hbk ?_;intro s5 w5 hV5 hg5;have hI5:=hI4.keptV hV4 hg5;have hB5:=hB4.trans (hV4.grown hg5 hB4.size);rw[←unhide HK2]at hV5;obtain⟨a5,c5,rfl⟩:=hV5.shape;have HV5:=hide hV5;have HI5:=hide hI5;have HB5:=hide hB5;clear hV5 hI5 hB5 hg5 hI4 hV4 hO4 hB4 HI1 HV1 HO1 HD1 HB1 HK1 HK2))
    go_roundw
    case rel=>exact⟨k+1,by omega,by go_num,a4,c4,a5,c5,_,rfl,rfl,HI5,HV5,HB5⟩
    case measure=>simp[intOf];omega
  ·obtain rfl:k=rs.length:=by omega
   rw[List.take_length]at HV
   rw[List.take_length]
   clear h
   go_wp2
   go_ret2
   exact⟨_,_,_,rfl,unhide HI,unhide HV,unhide HB⟩
theorem Znu(a:Option Addr)(n c:Nat)(rs:List (List Nat))(w:World)(ht:Tab w)(h:VecsAt w a n rs)(hf:Fit 1048576 rs)(hn:n≤100000):
  Calls Tryz.prog 195 #[.slice a n c] w fun e w'=> ∃vk,e=.returned vk∧OwnI w' w.heap.size vk (keepL rs rs.length)∧Below w.heap.size w w':=by
 have HX:=hide (ZeV a n c rs w ht h hf hn)
 clear h hf
 generalize keepL rs rs.length=kk at*
 generalize broughtL rs=bb at*
 go_enter Tryz.func195,Tryz.ntmps195
 go_wp2_with fail
 refine(unhide HX).mono ?_
 rintro e w1 ⟨vk,vb,vs,rfl,hI,hV,hb⟩
 obtain⟨a1,c1,rfl,_⟩:=hI.ints
 obtain⟨a2,c2,rfl⟩:=hV.shape
 have HI:=hide hI
 have HB:=hide hb
 clear hI hV hb HX
 go_wp2
 go_ret
 exact⟨_,rfl,unhide HI,unhide HB⟩
def ZdM(rs:List (List Nat))(xs:List Nat):Bool:= !decide (firstI (reduceL (broughtL rs) xs)<0)
theorem Zut(a:Option Addr)(n c:Nat)(rs:List (List Nat))(a':Option Addr)(m c':Nat)(xs:List Nat)(w:World)(ht:Tab w)(h:VecsAt w a n rs)(hf:Fit 1048576 rs)(h':RowAt w a' m xs)(hn:n≤100000)(hm:m≤1048576):
  Calls Tryz.prog 368 #[.slice a n c,.slice a' m c'] w fun e w'=>e=.returned (.bool (ZdM rs xs))∧Below w.heap.size w w':=by
 have HX:=hide (ZeV a n c rs w ht h hf hn)
 have hbf:=ZaB hf
 have hbl:=Zct hf
 have hrl:=h.1
 have hE:ZdM rs xs= !decide (firstI (reduceL (broughtL rs) xs)<0):=rfl
 rw[hE]
 clear h hf hE
 have HY:=hide (fun(w1:World) (a1:Option Addr) (c1:Nat) (hb:Below w.heap.size w w1) (hv:VecsAt w1 a1 (broughtL rs).length (broughtL rs))=>ZsJ a1 _ c1 (broughtL rs) a' m c' xs w1 (ht.below hb) hv hbf (h'.below hb) (by omega) hm)
 generalize keepL rs rs.length=kk at*
 generalize broughtL rs=bb at*
 generalize decide (firstI (reduceL bb xs)<0)=bo at*
 clear h'
 go_enter Tryz.func368,Tryz.ntmps368
 go_wp2_with fail
 refine(unhide HX).mono ?_
 rintro e w1 ⟨vk,vb,vs,rfl,hI,hV,hb⟩
 obtain⟨a1,c1,rfl,_⟩:=hI.ints
 obtain⟨a2,c2,rfl,hvec⟩:=hV.vecs
 have HY1:=hide (unhide HY w1 a2 c2 hb hvec)
 have HB:=hide hb
 clear hI hV hb HX HY hvec
 go_wp2_with fail
 refine(unhide HY1).mono ?_
 rintro e w2 ⟨rfl,hb2⟩
 go_wp2
 go_ret
 exact⟨rfl,below0 (unhide HB) hb2⟩
theorem Zhw(a:Option Addr)(n c:Nat)(ts:List RV)(w:World)(h:RowsAt w a n ts)(hn:n≤1048576):
  Calls Tryz.prog 196 #[.slice a n c] w fun e w'=> ∃v,e=.returned v∧OwnW w' w.heap.size v ts∧Below w.heap.size w w':=by
 obtain rfl:=h.1
 have Hh:=hide h
 have hmk:=Zye ts.length hn
 have HM:=Zyb w ts.length hn
 rw[←Zik]at HM
 have HM:=hide HM
 have HBM:Hid (Below w.heap.size w (w.alloc (.cells (madeCells #[.slice none 0 0] ts.length) 32))):=hide ((Below.refl _ _).alloc (Nat.le_refl _) _)
 clear h
 go_enter Tryz.func196,Tryz.ntmps196
 go_wp2
 go_loopw [11] (fun i wr=> ∃k:Nat,k≤ts.length∧i=.int .i64 k∧Hid (wr.ownsRow w.heap.size 32 1 (.slice (some ⟨w.heap.size,0,none⟩) ts.length ts.length) ts.length (ZfR ts k))∧Hid (Below w.heap.size w wr)) (fun i _=>ts.length-(intOf i).toNat)
 case atStart=>exact⟨0,Nat.zero_le _,rfl,HM,HBM⟩
 case round=>
  obtain⟨k,hk,rfl,HI,HB⟩:=hrel
  clear HM HBM
  by_cases hlt:k<ts.length
  ·obtain⟨b,off,rfl,hcl⟩:=((unhide Hh).below (unhide HB)).at hlt
   obtain⟨hc0,hc1⟩:=hcl k hlt
   have hlt':(k:Int)<(ts.length:Int):=by omega
   have hS:=ZiS ts k hlt
   have hfk:(ZfR ts k)[k]? =some (.slice none 0 0):=by
    unfold ZfR
    have hl:((ts.take k).map fun r=>Value.slice r.a r.n r.c).length=k:=by simp;omega
    rw[List.getElem?_append_right (by omega),hl,Nat.sub_self,List.getElem?_replicate,if_pos (by omega)]
   generalize ts.getD k .dflt=r at*
   have hb1:Below wr.heap.size wr (wr.alloc (.cells #[.slice r.a r.n r.c,.string r.s] 57)):=(Below.refl _ _).alloc (Nat.le_refl _) _
   have hI:=Zcg (unhide HI) hb1
   have hcell:=hI.cellAt k (by omega)
   rw[hfk]at hcell
   have hfz:=hI.frozenAt k
   have hs2:=(hI.stored k (.slice r.a r.n r.c)).1
   rw[hS]at hs2
   have hB2:=(below0 (unhide HB) hb1).setCell (p:=⟨w.heap.size,k,none⟩) (Nat.le_refl _) (.slice r.a r.n r.c)
   obtain⟨hx0,hx1⟩:=ZcM wr (.slice r.a r.n r.c) (.string r.s)
   have HS:=hide hs2
   have HB2:=hide hB2
   clear hcl hI hs2 hB2 hb1 hS hfk HI HB
   go_wp2
   go_roundw
   case rel=>exact⟨k+1,by omega,by go_num,HS,HB2⟩
   case measure=>simp[intOf];omega
  ·obtain rfl:k=ts.length:=by omega
   rw[Zj4]at HI
   go_wp2
   go_ret
   exact⟨_,rfl,unhide HI,unhide HB⟩
theorem Zdq(ts:List RV):(vecsL ts).length=ts.length:=by simp[vecsL]
theorem Zun(a:Option Addr)(n c:Nat)(ts:List RV)(w:World)(ht:Tab w)(h:RowsAt w a n ts)(hr:RowsIn w ts)(hs:shortR ts)(hn:n≤100000):
  Calls Tryz.prog 145 #[.slice a n c] w fun e w'=>e=.returned (.int .i64 ((keepL (vecsL ts) ts.length).length:Int))∧Below w.heap.size w w':=by
 obtain rfl:=h.1
 have HV:=hide (Zhw a ts.length c ts w h (by omega))
 have HK:=hide (fun(w1:World) (a1:Option Addr) (c1:Nat) (hb:Below w.heap.size w w1) (hv:VecsAt w1 a1 ts.length (vecsL ts))=>Znu a1 ts.length c1 (vecsL ts) w1 (ht.below hb) hv (Zrb hr hs) hn)
 have HR:=hide hr
 clear h hr hs ht
 go_enter Tryz.func145,Tryz.ntmps145
 go_wp2_with fail
 refine(unhide HV).mono ?_
 rintro e w1 ⟨v1,rfl,ho1,hb1⟩
 obtain⟨a1,c1,rfl,hv1⟩:=ho1.vecs ((unhide HR).below hb1)
 have HK1:=unhide HK w1 a1 c1 hb1 hv1
 rw[Zdq]at HK1
 have HK1:=hide HK1
 have HB1:=hide hb1
 clear ho1 hb1 hv1 HV HK
 go_wp2_with fail
 refine(unhide HK1).mono ?_
 rintro e w2 ⟨v2,rfl,ho2,hb2⟩
 obtain⟨a2,c2,rfl,hi2⟩:=ho2.ints
 have HB2:=hide (below0 (unhide HB1) hb2)
 clear ho2 hb2 hi2 HK1 HB1
 go_wp2
 go_ret
 exact⟨rfl,unhide HB2⟩
end Go.Proofs.YtlhhinlghhjghaaGreatDoor
namespace Go.Proofs.YtlhhinlghhjghaaGreatDoor
open Go.RowKit
set_option linter.unusedVariables false
set_option linter.unusedSimpArgs false
set_option maxRecDepth 4000
set_option maxHeartbeats 8000000
theorem Zm7{s:ByteArray}(h:s.size=0):s=⟨#[]⟩:=by
 apply ZhO
 have h1:(tx s).length=0:=by rw[Zaa];exact h
 rw[List.eq_nil_of_length_eq_zero h1]
 rfl
theorem Zqo(s:ByteArray)(w:World)(hn:s.size≤1048576):
  Calls Tryz.prog 150 #[.string s] w fun e w'=>e=.returned (.string s)∧Below w.heap.size w w':=by
 by_cases h0:s.size=0
 ·obtain rfl:=Zm7 h0
  go_enter Tryz.func150,Tryz.ntmps150
  go_wp2
  go_ret
  exact⟨rfl,Below.refl _ _⟩
 ·have h0':¬((s.size:Int)=0):=by omega
  obtain⟨i0,hi0,hz0,hz1,hz2⟩:=info_parts ZmK
  have hco:Tryz.prog.cellsOf 5=1:=by simp[Program.cellsOf,hi0,hz1]
  have hrun:=fun W=>run_make (P:=Tryz.prog) W 260 5 i0 (.int .u8 0) Tryz.underlying260 hi0 hz0 .i64 .i64 (s.size:Int) (s.size:Int) (by omega) (by omega) (by rw[hz2];omega) (by omega)
  simp only[Int.toNat_natCast]at hrun
  have hcs:(madeCells (Value.int .u8 0).cells (s.size*i0.size)).size=s.size:=by rw[size_madeCells,hz1,Nat.mul_one]
  generalize madeCells (Value.int .u8 0).cells (s.size*i0.size)=cur at*
  have hgw:(w.alloc (.cells cur 5)).heap[w.heap.size]? =some (.cells cur 5 (0,0)):=by
   show(w.heap.push _)[w.heap.size]? =_
   simp
  have hbw:Below w.heap.size w (w.alloc (.cells cur 5)):=(Below.refl _ _).alloc (Nat.le_refl _) _
  have hcp:=Zdk (P:=Tryz.prog) (w.alloc (.cells cur 5)) 260 9 3 5 w.heap.size s.size s.size s cur 5 Tryz.underlying260 (by rw[hi0];simp[hz1]) hgw hcs rfl
  have hgY:=setRow_heap (w.alloc (.cells cur 5)) w.heap.size cur (s.data.map fun b=>Value.int .u8 (b.toNat:Int)) 5 (0,0) hgw
  have hY:(s.data.map fun b=>Value.int .u8 (b.toNat:Int)).size=s.size:=by rw[Array.size_map];rfl
  have hl:s.data.toList.length=s.size:=Array.length_toList
  have hb2:Below w.heap.size w ((w.alloc (.cells cur 5)).setRow w.heap.size (s.data.map fun b=>Value.int .u8 (b.toNat:Int))):=hbw.trans ⟨rfl,rfl,rfl,by simp,fun k hk=>setRow_other _ _ k _ (by omega)⟩
  have hcl:∀(j:Nat) (x:UInt8),s.data.toList[j]? =some x→((w.alloc (.cells cur 5)).setRow w.heap.size (s.data.map fun b=>Value.int .u8 (b.toNat:Int))).cell? ((⟨w.heap.size,0,none⟩:Addr).add j)=some (.int .u8 x.toNat):=by
   intro j x hx
   have e:(⟨w.heap.size,0,none⟩:Addr).add j=⟨w.heap.size,j,none⟩:=by unfold Addr.add;split<;>simp_all
   rw[e,cell_setRow_same _ _ j _ _ _ _ hgw]
   rw[Array.getElem?_toList]at hx
   simp[hx]
  have hUS:=Lib.run_unsafeString_row (P:=Tryz.prog) ((w.alloc (.cells cur 5)).setRow w.heap.size (s.data.map fun b=>Value.int .u8 (b.toNat:Int))) 300 3 9 5 Tryz.underlying300 hco w.heap.size s.size (by unfold World.shape?;rw[hgY];exact congrArg (fun n=>some (5,n)) hY) s.data.toList
   (fun e=>h0 (by rw[←hl,e];rfl)) (by rw[hl];omega) (by rw[hl];omega) hcl
  rw[hl]at hUS
  have e2:(⟨s.data.toList.toArray⟩:ByteArray)=s:=by cases s;simp
  rw[e2]at hUS
  generalize (w.alloc (.cells cur 5)).setRow w.heap.size (s.data.map fun b=>Value.int .u8 (b.toNat:Int))=w1 at*
  have HB:=hide (Lib.below_freeze hb2 (p:=⟨w.heap.size,0,none⟩) (Nat.le_refl _) s.size)
  clear hcl hb2 hY hgY hbw hgw hcs hl e2 hco
  go_enter Tryz.func150,Tryz.ntmps150
  go_wp2
  go_ret
  exact⟨rfl,unhide HB⟩
theorem Zbp(s:ByteArray)(w:World)(hn:s.size≤1048576):
  Calls Tryz.prog 89 #[.string s] w fun e w'=>e=.returned (.string s)∧Below w.heap.size w w':=by
 go_enter Tryz.func89,Tryz.ntmps89
 go_wp2_with fail
 refine(Zqo s w hn).mono ?_
 rintro e w1 ⟨rfl,hb⟩
 have HB:=hide hb
 clear hb
 go_wp2
 go_ret
 exact⟨rfl,unhide HB⟩
end Go.Proofs.YtlhhinlghhjghaaGreatDoor
namespace Go.Proofs.YtlhhinlghhjghaaGreatDoor
open Go.RowKit Go.Sort
set_option linter.unusedVariables false
set_option linter.unusedSimpArgs false
set_option maxRecDepth 4000
set_option maxHeartbeats 8000000
variable {ov:Bool}{k z:Int}{rs:List RV}{g B m:Nat}{F:Nat→Prop}{T:TypeId}{v0 v1 v2 v3 v4 v:Value}{w w':World}
def Bk5(T:TypeId)(w:World)(g:Nat)(v0 v1 v2 v3 v4:Value):Prop:=w.heap[g]? =some (.cells #[v0,v1,v2,v3,v4] T (0,0))
theorem Zzb(T:TypeId)(w:World)(v0 v1 v2 v3 v4:Value):Bk5 T (w.alloc (.cells #[v0,v1,v2,v3,v4] T)) w.heap.size v0 v1 v2 v3 v4:=by
 show(w.heap.push _)[w.heap.size]? =_
 simp
theorem Bk5.lt(h:Bk5 T w g v0 v1 v2 v3 v4):g<w.heap.size:=(Array.getElem?_eq_some_iff.1 h).1
theorem Bk5.belowB(h:Bk5 T w g v0 v1 v2 v3 v4)(hb:Below B w w')(hg:g<B):Bk5 T w' g v0 v1 v2 v3 v4:=(hb.block g hg).trans h
theorem Bk5.below(h:Bk5 T w g v0 v1 v2 v3 v4)(hb:Below w.heap.size w w'):Bk5 T w' g v0 v1 v2 v3 v4:=h.belowB hb h.lt
theorem Bk5.tu(h:Bk5 T w g v0 v1 v2 v3 v4)(ht:Tu F w w')(hF:¬F g):Bk5 T w' g v0 v1 v2 v3 v4:=(ht.block g h.lt hF).trans h
theorem Bk5.kept{row:Option Nat}(h:Bk5 T w g v0 v1 v2 v3 v4)(hg:w.grownBy w' row)(hne:some g≠row):Bk5 T w' g v0 v1 v2 v3 v4:=(hg.block g h.lt hne).trans h
theorem Bk5.at(h:Bk5 T w g v0 v1 v2 v3 v4):w.cell? ⟨g,0,none⟩=some v0∧w.cell? ⟨g,1,none⟩=some v1∧w.cell? ⟨g,2,none⟩=some v2∧w.cell? ⟨g,3,none⟩=some v3∧w.cell? ⟨g,4,none⟩=some v4:=by
 unfold Bk5 at h
 refine⟨?_,?_,?_,?_,?_⟩<;>(rw[cell_of_row w g _ _ _ _ h];rfl)
theorem Bk5.frz(h:Bk5 T w g v0 v1 v2 v3 v4)(i:Nat):w.frozen? ⟨g,i,none⟩=false:=by
 unfold Bk5 at h
 simp[World.frozen?,h]
theorem Bk5.set3(h:Bk5 T w g v0 v1 v2 v3 v4)(u:Value):Bk5 T (w.setCell ⟨g,3,none⟩ u) g v0 v1 v2 u v4:=heap_setCell_same w g 3 _ _ u h
theorem Bk5.set4(h:Bk5 T w g v0 v1 v2 v3 v4)(u:Value):Bk5 T (w.setCell ⟨g,4,none⟩ u) g v0 v1 v2 v3 u:=heap_setCell_same w g 4 _ _ u h
theorem OwnS.tu(h:OwnS w B v rs)(ht:Tu F w w')(hF:∀j,v.ownBlock=some j→¬F j):OwnS w' B v rs:=by
 refine⟨h.1,?_⟩
 rcases h.2 with h0|⟨g,cap,cur,h1,hg,hgg,r⟩
 ·exact .inl h0
 ·exact .inr ⟨g,cap,cur,h1,hg,(ht.block g (Array.getElem?_eq_some_iff.1 hgg).1 (hF g (by rw[h1];rfl))).trans hgg,r⟩
theorem OwnS.blk5(h:OwnS w B v rs)(hk:v.ownBlock=some g):∃cur,w.heap[g]? =some (.cells cur 57 (0,0)):=by
 rcases h.2 with⟨rfl,_⟩|⟨g',cap,cur,rfl,_,hg,_⟩
 ·cases hk
 ·simp only[Value.ownBlock,Option.some.injEq]at hk
  exact⟨cur,hk▸hg⟩
def OwnRs(w:World)(B:Nat)(rs:List RV):Prop:=∀r∈rs,Own w B (.slice r.a r.n r.c) r.xs
theorem OwnRs.nil(w:World)(B:Nat):OwnRs w B []:=fun r hr=>by cases hr
theorem OwnRs.below(h:OwnRs w B rs)(hb:Below w.heap.size w w'):OwnRs w' B rs:=fun r hr=>(h r hr).below hb
theorem OwnRs.mono{B':Nat}(h:OwnRs w B rs)(hB:B'≤B):OwnRs w B' rs:=fun r hr=>(h r hr).mono hB
theorem OwnRs.snoc{r:RV}(h:OwnRs w B rs)(hr:Own w B (.slice r.a r.n r.c) r.xs):OwnRs w B (rs++[r]):=fun x hx=>by
 rcases List.mem_append.1 hx with hx|hx
 ·exact h x hx
 ·rw[List.mem_singleton.1 hx];exact hr
theorem OwnRs.rows(h:OwnRs w B rs):RowsIn w rs:=fun r hr=>by
 obtain⟨a,c,e,h1⟩:=(h r hr).row
 simp only[Value.slice.injEq]at e
 obtain⟨e1,e2,e3⟩:=e
 exact⟨by rw[e1,e2];exact h1,(h r hr).cap⟩
theorem OwnRs.tu(h:OwnRs w B rs)(ht:Tu F w w')(hF:∀j cur,w.heap[j]? =some (.cells cur 69 (0,0))→¬F j):OwnRs w' B rs:=fun r hr=>
 (h r hr).tu ht fun j hj=>by
  obtain⟨cur,hc⟩:=(h r hr).blkU hj
  exact hF j cur hc
def stF(g:Nat)(v:Value)(k:Nat):Prop:=k=g∨v.ownBlock=some k
structure StAt(w:World)(g B:Nat)(k z:Int)(m:Nat)(v:Value)(rs:List RV)(ov:Bool):Prop where
 blk:Bk5 255 w g (.int .i64 k) (.int .i64 z) (.int .i64 (m:Int)) v (.bool ov)
 lo:B≤g
 own:OwnS w B v rs
 rows:OwnRs w B rs
 le:rs.length≤m
 most:m≤256
 short:shortR rs
theorem StAt.below(h:StAt w g B k z m v rs ov)(hb:Below w.heap.size w w'):StAt w' g B k z m v rs ov:=
 ⟨h.blk.below hb,h.lo,h.own.below hb,h.rows.below hb,h.le,h.most,h.short⟩
theorem StAt.lt(h:StAt w g B k z m v rs ov):g<w.heap.size:=h.blk.lt
theorem StAt.low(h:StAt w g B k z m v rs ov):∀j,j<B→¬stF g v j:=fun j hj hf=>by
 rcases hf with rfl|hf
 ·have:=h.lo;omega
 ·have:=(World.ownsRow.lt h.own j hf).1;omega
theorem StAt.words(h:StAt w g B k z m v rs ov):∀j cur,w.heap[j]? =some (.cells cur 69 (0,0))→¬stF g v j:=fun j cur hc hf=>by
 rcases hf with rfl|hf
 ·have:=h.blk
  unfold Bk5 at this
  rw[this]at hc
  simp only[Option.some.injEq,Obj.cells.injEq]at hc
  exact absurd hc.2.1 (by decide)
 ·obtain⟨cur2,h2⟩:=h.own.blk5 hf
  rw[h2]at hc
  simp only[Option.some.injEq,Obj.cells.injEq]at hc
  exact absurd hc.2.1 (by decide)
theorem StAt.keeps(h:StAt w g B k z m v rs ov)(ht:Tu (stF g v) w w')(hB:B≤w.heap.size):Below B w w':=ht.below hB h.low
theorem StAt.lob(h:StAt w g B k z m v rs ov):B≤w.heap.size:=Nat.le_of_lt (Nat.lt_of_le_of_lt h.lo h.lt)
theorem StAt.at(h:StAt w g B k z m v rs ov):∃a c,v=.slice a rs.length c∧RowsAt w a rs.length rs∧rs.length≤c∧c≤9223372036854775807:=h.own.rows h.rows.rows
def fitB(k z:Int)(x:List Nat×ByteArray):Bool:=Zaj k x.1&&decide (0<cnt x.1)&&decide ((x.2.size:Int)=z)
def putL(k z:Int)(m:Nat)(L:List (List Nat×ByteArray))(x:List Nat×ByteArray):List (List Nat×ByteArray):=if fitB k z x=true∧L.length<m then L++[x]else L
def putO(k z:Int)(m:Nat)(L:List (List Nat×ByteArray))(o:Bool)(x:List Nat×ByteArray):Bool:=if fitB k z x=true∧¬L.length<m then true else o
def putE(k z:Int)(m:Nat)(L:List (List Nat×ByteArray))(x:List Nat×ByteArray):Int:=if fitB k z x=true then(if L.length<m then 0 else 5)else 1
theorem shortR.snoc{r:RV}(h:shortR rs)(hn:r.n≤10)(hs:r.s.size≤1000):shortR (rs++[r]):=fun i=>by
 by_cases hi:i<rs.length
 ·rw[List.getD_eq_getElem?_getD,List.getElem?_append_left hi,←List.getD_eq_getElem?_getD];exact h i
 ·by_cases he:i=rs.length
  ·rw[he,List.getD_eq_getElem?_getD,List.getElem?_append_right (Nat.le_refl _),Nat.sub_self];exact⟨hn,hs⟩
  ·rw[List.getD_eq_getElem?_getD,List.getElem?_eq_none (by rw[List.length_append,List.length_singleton];omega)];exact⟨Nat.zero_le _,Nat.zero_le _⟩
end Go.Proofs.YtlhhinlghhjghaaGreatDoor
