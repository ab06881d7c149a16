/-
  A relay in memory ('RlAt'): its block and the buffer's behind an interface. No condition.
  Contract of bucketlineref13.Peel.
  The walks of PeelPeels and PeelRipples: for every input each tells true and writes nothing that was there.
  The walk of PeelRank: for every input it tells true and writes nothing that was there.
  Contracts of span.firsts, cut, set: for rows of at most 2^20 words, at most 100000 of them. Rows that are cut out of one piece ('CutAt').
-/
import Derived.Test.YtlhhinlghhjghaaGreatDoorU23
import Derived.Test.YtlhhinlghhjghaaGreatDoorU20
import Derived.Test.YtlhhinlghhjghaaGreatDoorU16
import Derived.BigQuiet
import Derived.Test.YtlhhinlghhjghaaGreatDoorU27
import Derived.Test.YtlhhinlghhjghaaGreatDoorU7
import Derived.Test.YtlhhinlghhjghaaGreatDoorU10
import Derived.Test.YtlhhinlghhjghaaGreatDoorU4
import Derived.Test.YtlhhinlghhjghaaGreatDoorU11
import Derived.Test.YtlhhinlghhjghaaGreatDoorU12
namespace Go.Proofs.YtlhhinlghhjghaaGreatDoor
open Go.RowKit Go.Sort
set_option linter.unusedVariables false
set_option linter.unusedSimpArgs false
set_option maxRecDepth 4000
set_option maxHeartbeats 8000000
variable {t i k:Int}{rs:List (List Nat)}{bs:List ByteArray}{xs:List Nat}{ps:List PKV}{ts:List RV}{g gb B m j s N P R:Nat}{v:Value}{w w':World}
def rlC(gb:Nat)(t i:Int):List Value:=[.iface 229 (.pointer (some ⟨gb,0,none⟩)),.int .i64 t,.int .i64 i]
def rlF(g gb:Nat)(v:Value)(k:Nat):Prop:=k=g∨bfF gb v k
structure RlAt(w:World)(g gb B m:Nat)(t i:Int)(v:Value)(ps:List PKV):Prop where
 blk:BkA 173 w g (rlC gb t i)
 lo:B≤g
 buf:BfAt w gb B m v ps
theorem RlAt.below(h:RlAt w g gb B m t i v ps)(hb:Below w.heap.size w w'):RlAt w' g gb B m t i v ps:=⟨h.blk.below hb,h.lo,h.buf.below hb⟩
theorem RlAt.mono{B':Nat}(h:RlAt w g gb B m t i v ps)(hB:B'≤B):RlAt w g gb B' m t i v ps:=⟨h.blk,Nat.le_trans hB h.lo,h.buf.mono hB⟩
theorem RlAt.cells(h:RlAt w g gb B m t i v ps):w.cell? ⟨g,0,none⟩=some (.iface 229 (.pointer (some ⟨gb,0,none⟩)))∧w.cell? ⟨g,1,none⟩=some (.int .i64 t)∧w.cell? ⟨g,2,none⟩=some (.int .i64 i):=
 ⟨h.blk.at 0 rfl,h.blk.at 1 rfl,h.blk.at 2 rfl⟩
theorem RlAt.out(h:RlAt w g gb B m t i v ps):¬bfF gb v g:=fun hf=>by
 rcases hf with e|e
 ·exact h.blk.ne h.buf.blk (by decide) e
 ·exact h.blk.neP h.buf.own (by decide) e
theorem RlAt.low(h:RlAt w g gb B m t i v ps):∀j,j<B→¬rlF g gb v j:=fun j hj hf=>by
 rcases hf with rfl|hf
 ·have:=h.lo;omega
 ·exact h.buf.low j hj hf
theorem RlAt.tu{F:Nat→Prop}(h:RlAt w g gb B m t i v ps)(ht:Tu F w w')(hs:∀j,rlF g gb v j→¬F j)(hw:∀j cur,w.heap[j]? =some (.cells cur 69 (0,0))→¬F j):RlAt w' g gb B m t i v ps:=
 ⟨h.blk.tu ht (hs g (.inl rfl)),h.lo,h.buf.tu ht (fun j hj=>hs j (.inr hj)) hw⟩
theorem tuR(h:Tu (bfF gb v) w w'):Tu (rlF g gb v) w w':=(Tu.refl (rlF g gb v) w).trans h fun _ _ e=>.inr e
theorem RlAt.bufs{v':Value}{ps':List PKV}(h:RlAt w g gb B m t i v ps)(hd:BfAt w' gb B m v' ps')(ht:Tu (bfF gb v) w w'):RlAt w' g gb B m t i v' ps':=
 ⟨h.blk.tu ht h.out,h.lo,hd⟩
theorem ZAJ(t:Int)(h:BfAt w gb B m v ps):RlAt (w.alloc (.cells #[.iface 229 (.pointer (some ⟨gb,0,none⟩)),.int .i64 t,.int .i64 0] 173)) w.heap.size gb B m t 0 v ps:=
 ⟨Zag 173 w (rlC gb t 0),h.lob,h.below ((Below.refl _ _).alloc (Nat.le_refl _) _)⟩
theorem RlAt.apart{T:TypeId}{gd:Nat}{u0 u1:Value}(h:RlAt w g gb B m t i v ps)(hd:Bk2 T w gd u0 u1)(h1:T≠173)(h2:T≠280)(h3:T≠59):¬rlF g gb v gd:=fun hf=>by
 rcases hf with e|e|e
 ·exact h.blk.ne hd (Ne.symm h1) e.symm
 ·exact h.buf.blk.ne hd (Ne.symm h2) e.symm
 ·obtain⟨cur,hc⟩:=h.buf.own.blk e
  unfold Bk2 at hd
  rw[hc]at hd
  simp only[Option.some.injEq,Obj.cells.injEq]at hd
  exact h3 hd.2.1.symm
theorem RlAt.drawn{T:TypeId}{gd:Nat}{u0 u1:Value}(h:RlAt w g gb B m t i v ps)(hd:Bk2 T w gd u0 u1)(h1:T≠173)(h2:T≠280)(h3:T≠59)(h4:T≠69)(hg:w.grownBy w' (some gd)):RlAt w' g gb B m t i v ps:=
 h.tu (Tu.of_gb (F:=fun j=>j=gd) hg fun j _ e=>(Option.some.inj e).symm) (fun j hj e=>h.apart hd h1 h2 h3 (e▸hj)) fun j cur hc e=>by
  subst e
  unfold Bk2 at hd
  rw[hc]at hd
  simp only[Option.some.injEq,Obj.cells.injEq]at hd
  exact h4 hd.2.1.symm
theorem Zxl{kn:List Nat}(h:ts.map core=toldTo k kn bs k.toNat):ts.length≤k.toNat:=by
 have:=congrArg List.length h
 rw[List.length_map]at this
 have:=Zif k kn bs k.toNat
 omega
theorem ZcC{kn:List Nat}(hK:Kn k j kn bs){x:List Nat×ByteArray}(hx:x∈toldTo k kn bs k.toNat):∃b:Nat,b<k.toNat∧getB kn b=true∧x=(unitL k (b:Int),bs.getD b ByteArray.empty):=by
 unfold toldTo at hx
 rw[List.mem_map]at hx
 obtain⟨b,hb,rfl⟩:=hx
 rw[List.mem_filter,List.mem_range]at hb
 exact⟨b,hb.1,hb.2,rfl⟩
theorem Zpl{kn:List Nat}(hK:Kn k j kn bs)(hr:RowsIn w ts)(h:ts.map core=toldTo k kn bs k.toNat):shortR ts:=fun i=>by
 by_cases hi:i<ts.length
 ·have hm:core (ts.getD i .dflt)∈toldTo k kn bs k.toNat:=by
   rw[←h,List.getD_eq_getElem?_getD,List.getElem?_eq_getElem hi]
   exact List.mem_map.2 ⟨_,List.getElem_mem hi,rfl⟩
  obtain⟨b,hb,_,e⟩:=ZcC hK hm
  have hroom:=ZaC hK.size
  have hl:=(hr.get hi).1.1
  have e1:(ts.getD i .dflt).xs=unitL k (b:Int):=congrArg Prod.fst e
  have e2:(ts.getD i .dflt).s=bs.getD b ByteArray.empty:=congrArg Prod.snd e
  have:=Zea (k:=k) (b:=b) (by omega)
  have:=Zas k
  refine⟨by rw[←hl,e1];omega,by rw[e2];exact hK.short b⟩
 ·rw[List.getD_eq_getElem?_getD,List.getElem?_eq_none (by omega)]
  exact⟨Nat.zero_le _,Nat.zero_le _⟩
theorem PeelP.kn{rs:List RV}{kn:List Nat}(h:PeelP k rs kn bs)(hg:Good rs)(hz:0<sizeOfK k):∃j,Kn k j kn bs:=by
 obtain⟨⟨j,hj⟩,_⟩:=h
 exact⟨j,Run.known hz hg hj⟩
theorem PeelR.short{rs:List RV}{a1:Option Addr}{m1 c1:Nat}{ts1:List RV}{a2:Option Addr}{m2 c2:Nat}{ts2:List RV}(h:PeelR w w' k rs a1 m1 c1 ts1 a2 m2 c2 ts2)(hg:Good rs)(hs:shortR rs)(hl:∀r∈rs,r.xs.length≤10):shortR ts1∧shortR ts2∧ts1.length≤128∧ts2.length≤rs.length:=by
 obtain⟨kn,bs,hP,o1,i1,e1,o2,i2,e2,hb⟩:=h
 have hrl:ts2.length≤rs.length:=by
  have:=congrArg List.length e2
  unfold restL at this
  rw[List.length_map,List.length_map]at this
  have:=List.length_filter_le (Zgk k kn) rs
  omega
 by_cases hz:sizeOfK k=0
 ·obtain⟨p1,p2,p3⟩:=ZbN (rs:=rs) hz
  obtain⟨rfl,rfl⟩:=hP.uniq p1
  rw[p2]at e1
  rw[p3]at e2
  rw[List.map_eq_nil_iff]at e1 e2
  subst e1 e2
  exact⟨Ze0,Ze0,by simp,hrl⟩
 ·obtain⟨j,hK⟩:=hP.kn hg (by omega)
  have hroom:=ZaC hK.size
  refine⟨Zpl hK i1 e1,Zia i2 e2 fun x hx=>?_,by have:=Zxl e1;omega,hrl⟩
  unfold restL at hx
  rw[List.mem_map]at hx
  obtain⟨r,hr,rfl⟩:=hx
  have hm:=(List.mem_filter.1 hr).1
  exact⟨by rw[ZbB];exact hl r hm,Zkp hK.short (hg r hm).2⟩
theorem Zyf{a:Option Addr}{n:Nat}{rs:List RV}(h:RowsAt w a n rs)(hs:shortR rs):∀r∈rs,r.xs.length≤10:=fun r hr=>by
 obtain⟨i,hi,rfl⟩:=List.mem_iff_getElem.1 hr
 have h1:=h.2.1 i (by rw[←h.1];exact hi)
 have h2:=hs i
 rw[List.getD_eq_getElem?_getD,List.getElem?_eq_getElem hi]at h1 h2
 simp only[Option.getD_some]at h1 h2
 rw[h1.1];exact h2.1
def clr(x:Nat)(kn:List Nat):Nat→Nat
 |0=>x
 |n+1=>if (getB kn n&&(clr x kn n).testBit n)=true then clr x kn n^^^2^n else clr x kn n
theorem ZqN(x:Nat)(kn:List Nat):∀n i,(clr x kn n).testBit i=(x.testBit i&& !(getB kn i&&decide (i<n)))
 |0,i=>by simp[clr]
 |n+1,i=>by
  have ih:=ZqN x kn n
  unfold clr
  by_cases e:i=n
  ·subst e
   split
   ·rename_i h
    rw[Bool.and_eq_true]at h
    rw[Nat.testBit_xor,Nat.testBit_two_pow,h.2,h.1]
    simp
   ·rename_i h
    rw[ih]
    rw[ih]at h
    cases hg:getB kn i<;>cases hx:x.testBit i<;>simp_all
  ·have hlt:(i<n+1)=(i<n):=propext (by omega)
   split
   ·have hni:decide (n=i)=false:=decide_eq_false (fun h=>e h.symm)
    rw[Nat.testBit_xor,Nat.testBit_two_pow,ih,hni,Bool.xor_false]
    simp only[hlt]
   ·rw[ih]
    simp only[hlt]
theorem Zyg{S:List Nat}{kn:List Nat}(h:∀b,getB kn b=true→Ech.Sp S (2^b))(x:Nat):∀n,Ech.Sp S (clr x kn n)↔Ech.Sp S x
 |0=>Iff.rfl
 |n+1=>by
  rw[←Zyg h x n,show clr x kn (n+1)=(if (getB kn n&&(clr x kn n).testBit n)=true then clr x kn n^^^2^n else clr x kn n) from rfl]
  split
  ·rename_i hc
   rw[Bool.and_eq_true]at hc
   have hb:=h n hc.1
   constructor
   ·intro hs
    have:=hs.xor hb
    rwa[Nat.xor_assoc,Nat.xor_self,Nat.xor_zero]at this
   ·intro hs
    exact hs.xor hb
  ·exact Iff.rfl
theorem ZuY{kn:List Nat}(hx:smalls xs):val (dropL xs kn)=clr (val xs) kn (64*xs.length):=by
 apply Nat.eq_of_testBit_eq
 intro i
 rw[ZaN (Za4 hx _),ZbC,ZqN,ZaN hx]
 by_cases hi:i<64*xs.length
 ·simp[hi]
 ·rw[Zbn xs i (by omega)];simp
theorem ZlQ{S:List Nat}{kn:List Nat}(hx:smalls xs)(h:∀b,getB kn b=true→Ech.Sp S (2^b)):Ech.Sp S (val (dropL xs kn))↔Ech.Sp S (val xs):=by
 rw[ZuY hx,Zyg h]
theorem ZhJ{b:Nat}(hx:smalls xs)(h:∀i,getB xs i=decide (i=b)):val xs=2^b:=by
 apply Nat.eq_of_testBit_eq
 intro i
 rw[ZaN hx,h,Nat.testBit_two_pow]
 by_cases e:i=b
 ·simp[e]
 ·rw[decide_eq_false e,decide_eq_false (fun h=>e h.symm)]
theorem ZwW(hx:smalls xs)(h:cnt xs=0):val xs=0:=by
 apply Nat.eq_of_testBit_eq
 intro i
 rw[ZaN hx,Zjr.1 h,Nat.zero_testBit]
theorem Run.sp{k:Int}{rs:List RV}(hg:Good rs){S:List Nat}(hS:∀r∈rs,Zaj k r.xs=true→Ech.Sp S (val r.xs)):∀{j:Nat} {kn:List Nat} {bs:List ByteArray},Run k rs j kn bs→∀b,getB kn b=true→Ech.Sp S (2^b)
 |0,kn,bs,⟨h1,h2⟩,b,hb=>by rw[h1,ZcS]at hb;cases hb
 |j+1,kn,bs,⟨kn0,bs0,r,h1,h2,h3,h4⟩,b,hb=>by
  have ih:=Run.sp hg hS h1
  have hm:=List.mem_of_find?_eq_some h2
  obtain⟨hv,hbits,hk0,hx0,hbk,hfi⟩:=ZdH (hg r hm).1 (List.find?_some h2)
  have hK:=Run.known (Za7 hv).1 hg h1
  have hroom:=ZaC hK.size
  rw[h3,ZcH _ _ _ _ (by rw[hK.len];omega)]at hb
  by_cases e:b=blkOf kn0 r
  ·have:=(ZlQ (hg r hm).1 ih).2 (hS r hm hv)
   rw[ZhJ (Za4 (hg r hm).1 _) hbits]at this
   rw[e];exact this
  ·rw[if_neg e]at hb
   exact ih b hb
theorem ZkY{rs:List RV}{kn:List Nat}(hP:PeelP k rs kn bs)(hg:Good rs)(x:Nat):
  Ech.Sp (((toldTo k kn bs k.toNat++restL k rs kn bs).map Prod.fst).map val) x↔Ech.Sp ((vecsL (rs.filter fun r=>Zaj k r.xs)).map val) x:=by
 by_cases hz:sizeOfK k=0
 ·obtain⟨p1,p2,p3⟩:=ZbN (rs:=rs) hz
  obtain⟨rfl,rfl⟩:=hP.uniq p1
  have:(rs.filter fun r=>Zaj k r.xs)=[]:=List.filter_eq_nil_iff.2 fun r _ hv=>by have:=(Za7 hv).1;omega
  rw[p2,p3,this]
  exact Iff.rfl
 ·obtain⟨j,hK⟩:=hP.kn hg (by omega)
  have hroom:=ZaC hK.size
  have hmV:∀r∈rs,Zaj k r.xs=true→val r.xs∈(vecsL (rs.filter fun r=>Zaj k r.xs)).map val:=fun r hr hv=>
   List.mem_map.2 ⟨r.xs,List.mem_map.2 ⟨r,List.mem_filter.2 ⟨hr,hv⟩,rfl⟩,rfl⟩
  have hV:∀b,getB kn b=true→Ech.Sp ((vecsL (rs.filter fun r=>Zaj k r.xs)).map val) (2^b):=by
   obtain⟨⟨j',hj'⟩,_⟩:=hP
   exact Run.sp hg (fun r hr hv=>.of_mem (hmV r hr hv)) hj'
  have hA:∀b,getB kn b=true→Ech.Sp (((toldTo k kn bs k.toNat++restL k rs kn bs).map Prod.fst).map val) (2^b):=fun b hb=>by
   have hbk:=hK.below b hb
   refine .of_mem (List.mem_map.2 ⟨unitL k (b:Int),List.mem_map.2 ⟨(unitL k (b:Int),bs.getD b ByteArray.empty),List.mem_append.2 (.inl ?_),rfl⟩,ZhJ (ZaI (by omega)) (Zde hK.size (by omega))⟩)
   unfold toldTo
   exact List.mem_map.2 ⟨b,List.mem_filter.2 ⟨List.mem_range.2 hbk,hb⟩,rfl⟩
  constructor
  ·refine fun h=>h.of fun y hy=>?_
   obtain⟨v,hv,rfl⟩:=List.mem_map.1 hy
   obtain⟨c,hc,rfl⟩:=List.mem_map.1 hv
   rcases List.mem_append.1 hc with hc|hc
   ·obtain⟨b,hb,hgb,rfl⟩:=ZcC hK hc
    show Ech.Sp _ (val (unitL k (b:Int)))
    rw[ZhJ (ZaI (by omega)) (Zde hK.size (by omega))]
    exact hV b hgb
   ·unfold restL at hc
    obtain⟨r,hr,rfl⟩:=List.mem_map.1 hc
    have hm:=List.mem_filter.1 hr
    have hv:Zaj k r.xs=true:=by
     have:=hm.2
     unfold Zgk at this
     rw[Bool.and_eq_true,Bool.and_eq_true]at this
     exact this.1.1
    exact(ZlQ (hg r hm.1).1 hV).2 (.of_mem (hmV r hm.1 hv))
  ·refine fun h=>h.of fun y hy=>?_
   obtain⟨v,hv,rfl⟩:=List.mem_map.1 hy
   obtain⟨r,hr,rfl⟩:=List.mem_map.1 hv
   have hm:=List.mem_filter.1 hr
   refine(ZlQ (hg r hm.1).1 hA).1 ?_
   by_cases h0:cnt (dropL r.xs kn)=0
   ·rw[ZwW (Za4 (hg r hm.1).1 _) h0];exact .zero
   ·have hno:=List.find?_eq_none.1 hP.2 r hm.1
    unfold Zbs at hno
    rw[hm.2,Bool.true_and,decide_eq_true_eq]at hno
    refine .of_mem (List.mem_map.2 ⟨dropL r.xs kn,List.mem_map.2 ⟨(dropL r.xs kn,txtL bs r.xs r.s),List.mem_append.2 (.inr ?_),rfl⟩,rfl⟩)
    unfold restL
    refine List.mem_map.2 ⟨r,List.mem_filter.2 ⟨hm.1,?_⟩,rfl⟩
    unfold Zgk
    rw[hm.2,decide_eq_false h0,decide_eq_false hno];rfl
theorem Zt6{A V:List (List Nat)}(hA:Fit 1048576 A)(hV:Fit 1048576 V)(h:∀x,Ech.Sp (A.map val) x↔Ech.Sp (V.map val) x):(ZaW A).length=(ZaW V).length:=by
 have h1:=ZdJ hA
 have h2:=ZdJ hV
 have e:Ech.basis (A.map val)=Ech.basis (V.map val):=Ech.uniq (Ech.red_basis _) (Ech.red_basis _) fun x=>by rw[Ech.sp_basis,Ech.sp_basis];exact h x
 have:=congrArg List.length (h1.trans (e.trans h2.symm))
 rwa[List.length_map,List.length_map]at this
theorem ZjS{us:List RV}(h1:shortR ts)(h2:shortR us):shortR (ts++us):=fun i=>by
 by_cases hi:i<ts.length
 ·rw[List.getD_eq_getElem?_getD,List.getElem?_append_left hi,←List.getD_eq_getElem?_getD];exact h1 i
 ·rw[List.getD_eq_getElem?_getD,List.getElem?_append_right (by omega),←List.getD_eq_getElem?_getD];exact h2 _
theorem OwnI.at(h:OwnI w B v xs)(hn:0<xs.length):
  ∃g cap,v=.slice (some ⟨g,0,none⟩) xs.length cap∧B≤g∧g<w.heap.size∧(∀i,i<xs.length→w.cell? ⟨g,i,none⟩=some (.int .i64 ((xs.getD i 0:Nat):Int)))∧∀i,w.frozen? ⟨g,i,none⟩=false:=by
 have ho':w.ownsRow B 3 1 v xs.length (Zb8 xs):=h
 rcases h.2 with⟨rfl,h0⟩|⟨g,cap,cur,rfl,hb,hg,hn,hm,hsz,ht⟩
 ·omega
 ·refine⟨g,cap,rfl,hb,(Array.getElem?_eq_some_iff.1 hg).1,fun i hi=>?_,fun i=>ho'.frozenAt i⟩
  rw[ho'.cellAt i (by omega),Zii xs i hi]
theorem OwnI.stored{cap n:Nat}(h:OwnI w B (.slice (some ⟨g,0,none⟩) n cap) xs)(i x:Nat):
  OwnI (w.setCell ⟨g,i,none⟩ (.int .i64 (x:Int))) B (.slice (some ⟨g,0,none⟩) n cap) (xs.set i x):=by
 obtain rfl:n=xs.length:=by
  obtain⟨a,c,e,_⟩:=h.ints
  simp only[Value.slice.injEq]at e
  exact e.2.1
 have ho:w.ownsRow B 3 1 (.slice (some ⟨g,0,none⟩) xs.length cap) xs.length (Zb8 xs):=h
 have:=(ho.stored i (.int .i64 (x:Int))).1
 rw[ZoT]at this
 show World.ownsRow _ B 3 1 _ (xs.set i x).length _
 rw[List.length_set]
 exact this
theorem Zr0(w:World)(n:Nat)(hn:n≤1048576)(xs:List Nat)(hxs:xs=List.replicate n 0):
  OwnI (w.alloc (.cells (madeCells #[.int .i64 0] n) 3)) w.heap.size (.slice (some ⟨w.heap.size,0,none⟩) n n) xs:=by
 subst hxs
 refine⟨by simp[Zb8],.inr ⟨w.heap.size,n,madeCells #[.int .i64 0] n,by simp,Nat.le_refl _,heap_alloc_new w _,by simp,by unfold maxLen;omega,by simp[size_madeCells],?_⟩⟩
 rw[toList_madeCells_one,List.take_of_length_le (by simp)]
 simp[Zb8]
def Zb7(fs:List Nat)(k:Nat):List Nat:=fs.take k++List.replicate (fs.length-k) 0
theorem Zkc(fs:List Nat):Zb7 fs 0=List.replicate fs.length 0:=by simp[Zb7]
theorem Zmw(fs:List Nat):Zb7 fs fs.length=fs:=by simp[Zb7]
theorem ZhR(fs:List Nat)(k:Nat)(hk:k≤fs.length):(Zb7 fs k).length=fs.length:=by simp[Zb7];omega
theorem Zku(fs:List Nat)(k:Nat)(hk:k<fs.length):(Zb7 fs k).set k (fs.getD k 0)=Zb7 fs (k+1):=by
 unfold Zb7
 have hl:(fs.take k).length=k:=by simp;omega
 rw[List.set_append_right _ _ (by omega),hl,Nat.sub_self,List.take_succ_eq_append_getElem hk,List.append_assoc,show fs.length-k=(fs.length-(k+1))+1 by omega,List.replicate_succ,List.set_cons_zero]
 simp[List.getD_eq_getElem?_getD,List.getElem?_eq_getElem hk]
def ZaT(rs:List (List Nat)):List Nat:=rs.map fun b=>(firstI b).toNat
theorem Zbj(rs:List (List Nat)):(ZaT rs).length=rs.length:=by simp[ZaT]
theorem ZeG(rs:List (List Nat))(i:Nat)(h:i<rs.length):(ZaT rs).getD i 0=(firstI (rs.getD i [])).toNat:=by
 simp[ZaT,List.getD_eq_getElem?_getD,List.getElem?_eq_getElem h]
theorem Zo9(a:Option Addr)(n c:Nat)(rs:List (List Nat))(w:World)(ht:Tab w)(h:VecsAt w a n rs)(hf:Fit 1048576 rs)(hn:n≤100000)(hp:∀i,i<n→0≤firstI (rs.getD i [])):
  Calls Tryz.prog 284 #[.slice a n c] w fun e w'=> ∃v,e=.returned v∧OwnI w' w.heap.size v (ZaT rs)∧Below w.heap.size w w':=by
 obtain rfl:n=rs.length:=h.1.symm
 obtain⟨i0,hi0,hz0,hzs,hzb⟩:=info_parts ZnW
 have hmk:∀wx:World,(Instr.makeSlice 83 (.int .i64 (rs.length:Int)) (.int .i64 (rs.length:Int))).run Tryz.prog wx=.ok (.slice (some ⟨wx.heap.size,0,none⟩) rs.length rs.length) (wx.alloc (.cells (madeCells #[.int .i64 0] rs.length) 3)):=fun wx=>by
  have:=run_make (P:=Tryz.prog) wx 83 3 i0 (.int .i64 0) Tryz.underlying83 hi0 hz0 .i64 .i64 (rs.length:Int) (rs.length:Int) (by omega) (Int.le_refl _) (by rw[hzb];omega) (by omega)
  rw[hzs]at this
  simpa [Value.cells]using this
 have HM:=hide (Zr0 w rs.length (by omega) (Zb7 (ZaT rs) 0) (by rw[Zkc,Zbj]))
 have HBM:Hid (Below w.heap.size w (w.alloc (.cells (madeCells #[.int .i64 0] rs.length) 3))):=hide ((Below.refl _ _).alloc (Nat.le_refl _) _)
 clear hi0 hz0 hzs hzb
 go_enter Tryz.func284,Tryz.ntmps284
 go_wp2
 go_loopw [11] (fun i wr=> ∃k:Nat,k≤rs.length∧i=.int .i64 k∧Hid (OwnI wr w.heap.size (.slice (some ⟨w.heap.size,0,none⟩) rs.length rs.length) (Zb7 (ZaT rs) k))∧Hid (Below w.heap.size w wr)) (fun i _=>rs.length-(intOf i).toNat)
 case atStart=>exact⟨0,Nat.zero_le _,rfl,HM,HBM⟩
 case round=>
  obtain⟨k,hk,rfl,HI,HB⟩:=hrel
  have hB:=unhide HB
  by_cases hlt:k<rs.length
  ·obtain⟨b,off,rfl,hc⟩:=(h.below hB).at hlt
   obtain⟨ai,ci,hcell,hrow⟩:=hc k hlt
   have hI:=unhide HI
   have hfl:(Zb7 (ZaT rs) k).length=rs.length:=by rw[ZhR _ _ (by rw[Zbj];exact hk),Zbj]
   obtain⟨g,cap,e1,_,_,hcg,hfg⟩:=hI.at (by omega)
   simp only[Value.slice.injEq,Option.some.injEq,Addr.mk.injEq,and_true]at e1
   obtain⟨rfl, -, -⟩:=e1
   have hcell2:=hcg k (by omega)
   have hfz:=hfg k
   obtain⟨f,hfe⟩:∃f:Nat,firstI (rs.getD k [])=(f:Int):=⟨_,(Int.toNat_of_nonneg (hp k hlt)).symm⟩
   have hF:=Zc0 ai _ ci (rs.getD k []) wr (ht.below hB) hrow (hf.getD k).2
   rw[hfe]at hF
   have HF:=hide hF
   have hs:=hI.stored k f
   rw[show f=(ZaT rs).getD k 0 by rw[ZeG rs k hlt,hfe];rfl,Zku _ _ (by rw[Zbj];exact hlt),show(ZaT rs).getD k 0=f by rw[ZeG rs k hlt,hfe];rfl]at hs
   have HS:=hide hs
   have HB2:=hide (hB.setCell (p:=⟨w.heap.size,k,none⟩) (by exact Nat.le_refl _) (.int .i64 (f:Int)))
   clear hc hrow h hI hfl hcg hfg hF hs hfe hB HB HI HM HBM hp
   generalize rs.getD k []=y at*
   go_wp2_with fail
   refine(unhide HF).mono ?_
   rintro e w1 ⟨rfl,hw⟩
   obtain rfl:=hw.symm
   go_wp2
   go_roundw
   case rel=>exact⟨k+1,by omega,by go_num,HS,HB2⟩
   case measure=>simp[intOf];omega
  ·obtain rfl:k=rs.length:=by omega
   rw[show rs.length=(ZaT rs).length from(Zbj rs).symm,Zmw,Zbj]at HI
   clear h HM HBM
   go_wp2
   go_ret
   exact⟨_,rfl,unhide HI,unhide HB⟩
def Flat(pc:List Nat)(s N:Nat)(rs:List (List Nat)):Prop:=pc.length=N*s∧rs.length=N∧∀i,i<N→(rs.getD i []).length=s∧∀j,j<s→pc.getD (i*s+j) 0=(rs.getD i []).getD j 0
theorem ZjF{i:Nat}(hi:i<N)(hj:j<s):i*s+j<N*s:=by
 have h:(i+1)*s≤N*s:=Nat.mul_le_mul_right s hi
 rw[Nat.add_mul,Nat.one_mul]at h
 omega
theorem Zvn{i i' j':Nat}(hj:j<s)(hj':j'<s)(h:i*s+j=i'*s+j'):i=i'∧j=j':=by
 rcases Nat.lt_trichotomy i i' with h1|h1|h1
 ·have h2:(i+1)*s≤i'*s:=Nat.mul_le_mul_right s h1
  rw[Nat.add_mul,Nat.one_mul]at h2
  omega
 ·subst h1;exact⟨rfl,by omega⟩
 ·have h2:(i'+1)*s≤i*s:=Nat.mul_le_mul_right s h1
  rw[Nat.add_mul,Nat.one_mul]at h2
  omega
theorem Zhs(rs:List (List Nat))(i j:Nat)(r:List Nat)(hi:i<rs.length):(rs.set i r).getD j []=if j=i then r else rs.getD j []:=by
 rw[List.getD_eq_getElem?_getD]
 by_cases h:j=i
 ·subst h;rw[List.getElem?_set_self hi,if_pos rfl];rfl
 ·rw[List.getElem?_set_ne (Ne.symm h),if_neg h,←List.getD_eq_getElem?_getD]
theorem Flat.set{pc:List Nat}(h:Flat pc s N rs){i q:Nat}(hi:i<N)(hq:q<s)(y:Nat):Flat (pc.set (i*s+q) y) s N (rs.set i ((rs.getD i []).set q y)):=by
 have hl:=ZjF hi hq
 refine⟨by rw[List.length_set];exact h.1,by rw[List.length_set];exact h.2.1,fun i' hi'=>?_⟩
 rw[Zhs rs i i' _ (by rw[h.2.1];exact hi)]
 obtain⟨h1,h2⟩:=h.2.2 i' hi'
 by_cases e:i'=i
 ·subst e
  rw[if_pos rfl]
  refine⟨by rw[List.length_set];exact h1,fun j hj=>?_⟩
  rw[ZaP,ZaP]
  by_cases e2:j=q
  ·subst e2;rw[if_pos ⟨rfl,by rw[h.1];exact hl⟩,if_pos ⟨rfl,by omega⟩]
  ·rw[if_neg (fun k=>e2 (by have:=k.1;omega)),if_neg (fun k=>e2 k.1)]
   exact h2 j hj
 ·rw[if_neg e]
  refine⟨h1,fun j hj=>?_⟩
  rw[ZaP,if_neg (fun k=>e (Zvn hj hq k.1).1)]
  exact h2 j hj
def CutAt(w:World)(B P R s N:Nat)(rs:List (List Nat)):Prop:=
 ∃pc,Flat pc s N rs∧Own w B (.slice (some ⟨P,0,none⟩) pc.length pc.length) pc∧(∀i,i<N→w.cell? ⟨R,i,none⟩=some (.slice (some ⟨P,i*s,none⟩) s s))∧R≠P
theorem CutAt.below(h:CutAt w B P R s N rs)(hb:Below w.heap.size w w'):CutAt w' B P R s N rs:=by
 obtain⟨pc,h1,h2,h3,h4⟩:=h
 exact⟨pc,h1,h2.below hb,fun i hi=>(hb.cell (World.block_lt_of_cell? w _ (h3 i hi))).trans (h3 i hi),h4⟩
theorem CutAt.len(h:CutAt w B P R s N rs):rs.length=N∧∀i,i<N→(rs.getD i []).length=s:=by
 obtain⟨pc,h1,_⟩:=h
 exact⟨h1.2.1,fun i hi=>(h1.2.2 i hi).1⟩
theorem CutAt.row(h:CutAt w B P R s N rs){i:Nat}(hi:i<N):RowAt w (some ⟨P,i*s,none⟩) s (rs.getD i [])∧w.cell? ⟨R,i,none⟩=some (.slice (some ⟨P,i*s,none⟩) s s)∧
  ∀j,j<s→w.frozen? ⟨P,i*s+j,none⟩=false:=by
 obtain⟨pc,h1,h2,h3,h4⟩:=h
 obtain⟨k1,k2⟩:=h1.2.2 i hi
 refine⟨⟨k1,fun x hx=>?_,?_⟩,h3 i hi,fun j hj=>?_⟩
 ·obtain⟨j,hj,rfl⟩:=List.getElem_of_mem hx
  have:=k2 j (by omega)
  rw[List.getD_eq_getElem?_getD (l:=rs.getD i []),List.getElem?_eq_getElem hj,Option.getD_some]at this
  rw[←this]
  exact h2.1.get _
 ·by_cases h0:s=0
  ·exact .inl h0
  ·refine .inr ⟨P,i*s,rfl,fun j hj=>?_⟩
   have hl:=ZjF hi hj
   obtain⟨g,cap,e,_,_,hc,_⟩:=h2.at (by rw[h1.1];omega)
   simp only[Value.slice.injEq,Option.some.injEq,Addr.mk.injEq,and_true]at e
   obtain⟨rfl,_⟩:=e
   rw[hc _ (by rw[h1.1];exact hl),k2 j hj]
 ·have hl:=ZjF hi hj
  obtain⟨g,cap,e,_,_,_,hf⟩:=h2.at (by rw[h1.1];omega)
  simp only[Value.slice.injEq,Option.some.injEq,Addr.mk.injEq,and_true]at e
  obtain⟨rfl,_⟩:=e
  exact hf _
theorem CutAt.stored(h:CutAt w B P R s N rs){i q:Nat}(hi:i<N)(hq:q<s)(y:Nat)(hy:y<18446744073709551616):
  CutAt (w.setCell ⟨P,i*s+q,none⟩ (.int .u64 (y:Int))) B P R s N (rs.set i ((rs.getD i []).set q y)):=by
 obtain⟨pc,h1,h2,h3,h4⟩:=h
 refine⟨pc.set (i*s+q) y,h1.set hi hq y,?_,fun i hi=>(Zad w P _ _).cell (h3 i hi) (fun e=>h4 (Option.some.inj e)),h4⟩
 rw[List.length_set]
 exact h2.stored _ y hy
theorem CutAt.vecs(h:CutAt w B P R s N rs){k:Nat}(hk:k≤N):VecsAt w (some ⟨R,0,none⟩) k (rs.take k):=by
 have hl:=h.len
 have hg:∀i,i<k→(rs.take k).getD i []=rs.getD i []:=fun i hi=>by rw[List.getD_eq_getElem?_getD,List.getElem?_take_of_lt hi,←List.getD_eq_getElem?_getD]
 refine⟨by rw[List.length_take,hl.1];omega,.inr ⟨R,0,rfl,fun i hi=>?_⟩,fun b off i ai n ci e hi hc=>?_⟩
 ·obtain⟨h1,h2,_⟩:=h.row (show i<N by omega)
  rw[hg i hi,Nat.zero_add,hl.2 i (by omega)]
  exact⟨_,s,h2,h1⟩
 ·simp only[Option.some.injEq,Addr.mk.injEq,and_true]at e
  obtain⟨rfl,rfl⟩:=e
  rw[Nat.zero_add,(h.row (show i<N by omega)).2.1]at hc
  simp only[Option.some.injEq,Value.slice.injEq]at hc
  omega
theorem Zzc(x k:Nat)(hx:x<18446744073709551616)(hk:k<64):bits .or .u64 (x:Int) ((2^k:Nat):Int)=((setW x k true:Nat):Int):=by
 have h2:2^k<2^64:=Nat.pow_lt_pow_right (by decide) hk
 rw[u64_or_nat x _ hx (by omega),ZsK]
theorem Zi2(P off s c i x:Nat)(w:World)(hi:i<64*s)(hs:s≤1048576)(hc:w.cell? ⟨P,off+i/64,none⟩=some (.int .u64 (x:Int)))(hx:x<18446744073709551616)(hfz:w.frozen? ⟨P,off+i/64,none⟩=false):
  Calls Tryz.prog 287 #[.slice (some ⟨P,off,none⟩) s c,.int .i64 (i:Int)] w fun e w'=>e=.returned (.tuple #[])∧w'=w.setCell ⟨P,off+i/64,none⟩ (.int .u64 ((setW x (i%64) true:Nat):Int)):=by
 obtain⟨q,hq⟩:∃q,i/64=q:=⟨_,rfl⟩
 have hqs:q<s:=by omega
 have hqw:IntKind.i64.wrap ((i:Int).tdiv 64)=(q:Int):=by
  rw[Int.tdiv_eq_ediv_of_nonneg (by omega)]
  simp[IntKind.wrap,IntKind.bits,IntKind.signed]
  omega
 have hmk:=Zjo (i:Int)
 have hor:=Zzc x (i%64) hx (by omega)
 rw[show((i:Int)%64).toNat=i%64 by omega]at hmk
 rw[hq]at hc hfz⊢
 generalize setW x (i%64) true=y at*
 rw[←hmk]at hor
 clear hmk
 go_enter Tryz.func287,Tryz.ntmps287
 go_wp2
 go_end0
 exact⟨rfl,rfl⟩
end Go.Proofs.YtlhhinlghhjghaaGreatDoor
