/-
  Contract of bucketlineref13.less.
  Contract of bucketlineref13.with.
  Contract of bucketlineref13.Peel.
  Contract of bucketlineref13.Peel: the walk.
  Slices of rows of one's own, as they are read; rows that are not too long.
  The walks of PeelPeels and PeelRipples: for every input each tells true and writes nothing that was there.
-/
import Derived.Test.YteamniigiogaeaaDoorYK
import Derived.Test.YteamniigiogaeaaDoorM7
namespace Go.Proofs.YteamniigiogaeaaDoor
open Go.RowKit Go.Sort
set_option linter.unusedVariables false
set_option maxRecDepth 4000

theorem rows_two {w : World} {r q : RV} (hr : RowAt w r.a r.n r.xs) (hq : RowAt w q.a q.n q.xs) : RowsAt (w.alloc (.cells #[.slice r.a r.n r.c, .string r.s, .slice q.a q.n q.c, .string q.s] 31)) (some ⟨w.heap.size, 0, none⟩) 2 [r, q] := by
  have hb : Below w.heap.size w (w.alloc (.cells #[.slice r.a r.n r.c, .string r.s, .slice q.a q.n q.c, .string q.s] 31)) := (Below.refl _ _).alloc (Nat.le_refl _) _
  refine ⟨rfl, fun i hi => ?_, .inr ⟨w.heap.size, 0, rfl, fun i hi => ?_⟩⟩
  · match i, hi with
    | 0, _ => exact hr.below hb
    | 1, _ => exact hq.below hb
  · match i, hi with
    | 0, _ => constructor <;> simp
    | 1, _ => constructor <;> simp

end Go.Proofs.YteamniigiogaeaaDoor
namespace Go.Proofs.YteamniigiogaeaaDoor
open Go.RowKit Go.Sort
set_option linter.unusedVariables false
set_option maxRecDepth 4000

/-- What is gathered of the first k known ones, with r at its place. -/
def WtP (ks : List RV) (r : RV) (k : Nat) (pl : Bool) (ts : List RV) : Prop :=
  (pl = false ∧ ts = ks.take k ∧ ∀ j, j < k → ¬ firstI r.xs < firstI (ks.getD j default).xs) ∨
  (pl = true ∧ ∃ p, p < k ∧ ts = ks.take p ++ r :: (ks.take k).drop p ∧ firstI r.xs < firstI (ks.getD p default).xs ∧ ∀ j, j < p → ¬ firstI r.xs < firstI (ks.getD j default).xs)
/-- .. and of all. -/
def WtE (ks : List RV) (r : RV) (ts : List RV) : Prop := ∃ p, p ≤ ks.length ∧ ts = ks.take p ++ r :: ks.drop p ∧ (p < ks.length → firstI r.xs < firstI (ks.getD p default).xs) ∧ ∀ j, j < p → ¬ firstI r.xs < firstI (ks.getD j default).xs
theorem WtP.no {ks : List RV} {r : RV} {k : Nat} {ts : List RV} (h : WtP ks r k false ts) (hk : k < ks.length) (hn : ¬ firstI r.xs < firstI (ks.getD k default).xs) : WtP ks r (k + 1) false (ts ++ [ks.getD k default]) := by
  rcases h with ⟨_, rfl, h⟩ | ⟨h, _⟩
  · refine .inl ⟨rfl, take_snocR ks k hk, fun j hj => ?_⟩
    by_cases e : j = k
    · rw [e]; exact hn
    · exact h j (by omega)
  · cases h
theorem WtP.at {ks : List RV} {r : RV} {k : Nat} {ts : List RV} (h : WtP ks r k false ts) (hk : k < ks.length) (hn : firstI r.xs < firstI (ks.getD k default).xs) : WtP ks r (k + 1) true ((ts ++ [r]) ++ [ks.getD k default]) := by
  rcases h with ⟨_, rfl, h⟩ | ⟨h, _⟩
  · refine .inr ⟨rfl, k, by omega, ?_, hn, h⟩
    rw [← take_snocR ks k hk, List.drop_append_of_le_length (by simp; omega), List.drop_of_length_le (by simp; omega)]
    simp
  · cases h
theorem WtP.behind {ks : List RV} {r : RV} {k : Nat} {ts : List RV} (h : WtP ks r k true ts) (hk : k < ks.length) : WtP ks r (k + 1) true (ts ++ [ks.getD k default]) := by
  rcases h with ⟨h, _⟩ | ⟨_, p, hp, rfl, h1, h2⟩
  · cases h
  · refine .inr ⟨rfl, p, by omega, ?_, h1, h2⟩
    rw [← take_snocR ks k hk, List.drop_append_of_le_length (by simp; omega)]
    simp
theorem WtP.last {ks : List RV} {r : RV} {ts : List RV} (h : WtP ks r ks.length false ts) : WtE ks r (ts ++ [r]) := by
  rcases h with ⟨_, rfl, h⟩ | ⟨h, _⟩
  · exact ⟨ks.length, Nat.le_refl _, by simp, fun h => by omega, h⟩
  · cases h
theorem WtP.done {ks : List RV} {r : RV} {ts : List RV} (h : WtP ks r ks.length true ts) : WtE ks r ts := by
  rcases h with ⟨h, _⟩ | ⟨_, p, hp, rfl, h1, h2⟩
  · cases h
  · exact ⟨p, by omega, by simp, fun _ => h1, h2⟩
theorem WtP.len {ks : List RV} {r : RV} {k : Nat} {pl : Bool} {ts : List RV} (h : WtP ks r k pl ts) : ts.length ≤ k + 1 := by
  rcases h with ⟨_, rfl, _⟩ | ⟨_, p, hp, rfl, _⟩
  · have := List.length_take_le k ks; omega
  · simp; omega
/-- What a round of with leaves. -/
def WtS (w wr : World) (r : RV) (a1 : Option Addr) (m1 c1 : Nat) (ts : List RV) : Prop :=
  OwnS wr (w.heap.size + 1) (.slice a1 m1 c1) ts ∧ BoxAt wr w.heap.size (.slice r.a r.n r.c) (.string r.s) ∧ Below w.heap.size w wr ∧ w.heap.size + 1 ≤ wr.heap.size
theorem WtS.below {w wr w1 : World} {r : RV} {a1 : Option Addr} {m1 c1 : Nat} {ts : List RV} (h : WtS w wr r a1 m1 c1 ts) (hb : Below wr.heap.size wr w1) : WtS w w1 r a1 m1 c1 ts := ⟨h.1.below hb, h.2.1.below hb, below0 h.2.2.1 hb, Nat.le_trans h.2.2.2 hb.size⟩
theorem WtS.push {w wr w1 : World} {r : RV} {a1 : Option Addr} {m1 c1 : Nat} {ts : List RV} {q : RV} {v : Value} (h : WtS w wr r a1 m1 c1 ts) (ho : OwnS w1 (w.heap.size + 1) v (ts ++ [q])) (hb : Below (w.heap.size + 1) wr w1) : ∃ a2 m2 c2, v = .slice a2 m2 c2 ∧ WtS w w1 r a2 m2 c2 (ts ++ [q]) := by
  obtain ⟨a2, c2, e⟩ := ho.shape
  refine ⟨a2, _, c2, e, by rw [← e]; exact ho, ?_, h.2.2.1.trans (hb.mono (Nat.le_succ _)), Nat.le_trans h.2.2.2 hb.size⟩
  exact ⟨(hb.cell (p := ⟨w.heap.size, 0, none⟩) (Nat.lt_succ_self _)).trans h.2.1.1, (hb.cell (p := ⟨w.heap.size, 1, none⟩) (Nat.lt_succ_self _)).trans h.2.1.2⟩

end Go.Proofs.YteamniigiogaeaaDoor
namespace Go.Proofs.YteamniigiogaeaaDoor
open Go.RowKit Go.Sort
set_option linter.unusedVariables false
set_option maxRecDepth 4000

theorem Run.le {k : Int} {rs : List RV} (hg : Good rs) {j : Nat} {kn : List Nat} {bs : List ByteArray} (h : Run k rs j kn bs) : j ≤ k.toNat := by
  cases j with
  | zero => exact Nat.zero_le _
  | succ j =>
    have h' := h
    obtain ⟨a, b, r, h1, h2, _⟩ := h
    have ht := List.find?_some h2
    unfold tellsB at ht
    rw [Bool.and_eq_true] at ht
    exact (Run.known (valid_size ht.1).1 hg h').le
/-- The known ones, as the reference keeps them. -/
def KnS (w1 wr : World) (k : Int) (kn : List Nat) (bs : List ByteArray) (a1 : Option Addr) (m1 c1 : Nat) (ts : List RV) : Prop :=
  OwnS wr w1.heap.size (.slice a1 m1 c1) ts ∧ RowsIn wr ts ∧ ts.map core = toldTo k kn bs k.toNat ∧ Below w1.heap.size w1 wr
theorem KnS.below {w1 wr w2 : World} {k : Int} {kn : List Nat} {bs : List ByteArray} {a1 : Option Addr} {m1 c1 : Nat} {ts : List RV} (h : KnS w1 wr k kn bs a1 m1 c1 ts) (hb : Below wr.heap.size wr w2) : KnS w1 w2 k kn bs a1 m1 c1 ts := ⟨h.1.below hb, h.2.1.below hb, h.2.2.1, below0 h.2.2.2 hb⟩
theorem KnS.rows {w1 wr : World} {k : Int} {kn : List Nat} {bs : List ByteArray} {a1 : Option Addr} {m1 c1 : Nat} {ts : List RV} (h : KnS w1 wr k kn bs a1 m1 c1 ts) : RowsAt wr a1 m1 ts ∧ m1 = ts.length := by
  obtain ⟨a, c, e, hr, _⟩ := h.1.rows h.2.1
  simp only [Value.slice.injEq] at e
  obtain ⟨rfl, rfl, rfl⟩ := e
  exact ⟨hr, rfl⟩
theorem told_len {k : Int} {kn : List Nat} {bs : List ByteArray} {ts : List RV} (h : ts.map core = toldTo k kn bs k.toNat) : ts.length ≤ k.toNat := by
  have := congrArg List.length h
  rw [List.length_map] at this
  have := toldTo_len k kn bs k.toNat
  omega
theorem told_mem {k : Int} {j : Nat} {kn : List Nat} {bs : List ByteArray} (hK : Kn k j kn bs) {x : List Nat × ByteArray} (hx : x ∈ toldTo k kn bs k.toNat) : ∃ b : Nat, b < k.toNat ∧ getB kn b = true ∧ x = (unitL k (b : Int), bs.getD b ByteArray.empty) := by
  unfold toldTo at hx
  rw [List.mem_map] at hx
  obtain ⟨b, hb, rfl⟩ := hx
  rw [List.mem_filter, List.mem_range] at hb
  exact ⟨b, hb.1, hb.2, rfl⟩
theorem told_short {w : World} {k : Int} {j : Nat} {kn : List Nat} {bs : List ByteArray} {ts : List RV} (hK : Kn k j kn bs) (hr : RowsIn w ts) (h : ts.map core = toldTo k kn bs k.toNat) : shortR ts := fun i => by
  by_cases hi : i < ts.length
  · have hm : core (ts.getD i default) ∈ toldTo k kn bs k.toNat := by
      rw [← h, List.getD_eq_getElem?_getD, List.getElem?_eq_getElem hi]
      exact List.mem_map.2 ⟨_, List.getElem_mem hi, rfl⟩
    obtain ⟨b, hb, _, e⟩ := told_mem hK hm
    have hroom := size_room hK.size
    have hl := (hr.get hi).1.1
    have e1 : (ts.getD i default).xs = unitL k (b : Int) := congrArg Prod.fst e
    have e2 : (ts.getD i default).s = bs.getD b ByteArray.empty := congrArg Prod.snd e
    have := unit_len (k := k) (b := b) (by omega)
    have := sizeOfK_le k
    refine ⟨by rw [← hl, e1]; omega, by rw [e2]; exact hK.short b⟩
  · rw [List.getD_eq_getElem?_getD, List.getElem?_eq_none (by omega)]
    exact ⟨Nat.zero_le _, Nat.zero_le _⟩
/-- One more is known. -/
theorem KnS.with {w1 wr w2 : World} {k : Int} {j : Nat} {kn : List Nat} {bs : List ByteArray} {a1 : Option Addr} {m1 c1 : Nat} {ts ts2 : List RV} {a2 : Option Addr} {m2 c2 : Nat} {r r' : RV} (h : KnS w1 wr k kn bs a1 m1 c1 ts) (hK : Kn k j kn bs) (hrs : smalls r.xs) (ht : tellsB k kn r = true) (hc : core r' = (dropL r.xs kn, txtL bs r.xs r.s)) (hr' : RowAt wr r'.a r'.n r'.xs) (hcap : r'.n ≤ r'.c)
    (ho : OwnS w2 wr.heap.size (.slice a2 m2 c2) ts2) (hW : WtE ts r' ts2) (hb : Below wr.heap.size wr w2) : KnS w1 w2 k (setB kn (blkOf kn r) true) (bs.set (blkOf kn r) (txtL bs r.xs r.s)) a2 m2 c2 ts2 := by
  obtain ⟨p, hp, rfl, h1, h2⟩ := hW
  obtain ⟨hv, hbits, hk0, hx0, hbk, hfi⟩ := tells_bit hrs ht
  have hroom := size_room hK.size
  have hxs : r'.xs = unitL k (blkOf kn r : Int) := by
    rw [show r'.xs = dropL r.xs kn from congrArg Prod.fst hc]
    exact ext_bits (by rw [dropL_length, unit_len (by omega), (valid_size hv).2.1]) (dropL_small hrs _) (unit_small (by omega)) fun i => by rw [hbits, unit_bit hK.size (by omega)]
  have hs : r'.s = txtL bs r.xs r.s := congrArg Prod.snd hc
  have hf : firstI r'.xs = (blkOf kn r : Int) := by rw [show r'.xs = dropL r.xs kn from congrArg Prod.fst hc]; exact hfi
  have hl : ts.length = (toldTo k kn bs k.toNat).length := by rw [← h.2.2.1, List.length_map]
  refine ⟨ho.mono h.2.2.2.size, fun x hx => ?_, ?_, below0 h.2.2.2 hb⟩
  · rcases List.mem_append.1 hx with hx | hx
    · have := h.2.1 x (List.mem_of_mem_take hx)
      exact ⟨this.1.below hb, this.2⟩
    · rcases List.mem_cons.1 hx with rfl | hx
      · exact ⟨hr'.below hb, hcap⟩
      · have := h.2.1 x (List.mem_of_mem_drop hx)
        exact ⟨this.1.below hb, this.2⟩
  · rw [List.map_append, List.map_cons, List.map_take, List.map_drop, h.2.2.1, show core r' = (unitL k (blkOf kn r : Int), txtL bs r.xs r.s) from Prod.ext hxs hs]
    refine told_with hK hbk hk0 _ (by omega) (fun i hi => ?_) (fun hlt => ?_)
    · have := h2 i hi
      rw [hf] at this
      rw [core_at h.2.2.1 (by omega)]
      exact this
    · have := h1 (by omega)
      rw [hf] at this
      rw [core_at h.2.2.1 (by omega)]
      exact this
/-- What a round of the inner loop leaves. -/
def InS (w1 wr : World) (k : Int) (vs : List RV) (j i : Nat) (ag : Bool) (a1 : Option Addr) (m1 c1 : Nat) (ts : List RV) (kn : List Nat) (bs : List ByteArray) : Prop :=
  KnS w1 wr k kn bs a1 m1 c1 ts ∧ ((ag = false ∧ Run k vs j kn bs ∧ ∀ q, q < i → tellsB k kn (vs.getD q default) = false) ∨ (ag = true ∧ Run k vs (j + 1) kn bs))
theorem filter_rest {k : Int} {rs : List RV} {kn : List Nat} : (rs.filter fun r => validB k r.xs).filter (restB k kn) = rs.filter (restB k kn) := by
  rw [List.filter_filter]
  congr 1
  funext r
  unfold restB
  cases validB k r.xs <;> simp
end Go.Proofs.YteamniigiogaeaaDoor
namespace Go.Proofs.YteamniigiogaeaaDoor
open Go.RowKit Go.Sort
set_option linter.unusedVariables false
set_option maxRecDepth 4000

theorem told_zero (k : Int) (bs : List ByteArray) (m : Nat) : toldTo k (List.replicate (sizeOfK k) 0) bs m = [] := by
  unfold toldTo
  rw [List.filter_eq_nil_iff.2 (fun b _ => by rw [bit_zeros]; simp)]
  rfl
/-- The valid rows, where they lie. -/
structure VsAt (w1 : World) (k : Int) (av : Option Addr) (mv : Nat) (vs : List RV) : Prop where
  rows : RowsAt w1 av mv vs
  inn : RowsIn w1 vs
  good : Good vs
  short : shortR vs
  all : ∀ q, q < mv → validB k (vs.getD q default).xs = true
theorem good_filter {rs : List RV} (h : Good rs) (q : RV → Bool) : Good (rs.filter q) := fun r hr => h r (List.mem_filter.1 hr).1
theorem short_filter {rs : List RV} (h : shortR rs) (q : RV → Bool) : shortR (rs.filter q) := fun i => by
  by_cases hi : i < (rs.filter q).length
  · have hm := (List.mem_filter.1 (List.getElem_mem hi)).1
    obtain ⟨j, hj, e⟩ := List.mem_iff_getElem.1 hm
    have := h j
    rw [List.getD_eq_getElem?_getD, List.getElem?_eq_getElem hj, Option.getD_some, e] at this
    rw [List.getD_eq_getElem?_getD, List.getElem?_eq_getElem hi]
    exact this
  · rw [List.getD_eq_getElem?_getD, List.getElem?_eq_none (by omega)]
    exact ⟨Nat.zero_le _, Nat.zero_le _⟩
theorem VsAt.of {w w1 : World} {k : Int} {a av : Option Addr} {n mv cv : Nat} {rs : List RV} (h : RowsAt w a n rs) (hs : shortR rs) (hG : GaS w w1 av mv cv ((rs.filter fun r => validB k r.xs).map core) (rs.filter fun r => validB k r.xs)) : VsAt w1 k av mv (rs.filter fun r => validB k r.xs) := by
  obtain ⟨a', c', e, hr, _⟩ := hG.1.rows hG.2.1
  simp only [Value.slice.injEq] at e
  obtain ⟨rfl, rfl, rfl⟩ := e
  refine ⟨hr, hG.2.1, good_filter (good_of h hs) _, short_filter hs _, fun q hq => ?_⟩
  have := List.getElem_mem hq
  rw [List.mem_filter] at this
  rw [List.getD_eq_getElem?_getD, List.getElem?_eq_getElem hq]
  exact this.2

theorem InS.yes {w1 wr : World} {k : Int} {vs : List RV} {j i : Nat} {a1 : Option Addr} {m1 c1 : Nat} {ts : List RV} {kn : List Nat} {bs : List ByteArray} (h : InS w1 wr k vs j i true a1 m1 c1 ts kn bs) : KnS w1 wr k kn bs a1 m1 c1 ts ∧ Run k vs (j + 1) kn bs := by
  rcases h.2 with ⟨h2, _⟩ | ⟨_, h2⟩
  · cases h2
  · exact ⟨h.1, h2⟩
theorem InS.no {w1 wr : World} {k : Int} {vs : List RV} {j i : Nat} {a1 : Option Addr} {m1 c1 : Nat} {ts : List RV} {kn : List Nat} {bs : List ByteArray} (h : InS w1 wr k vs j i false a1 m1 c1 ts kn bs) : KnS w1 wr k kn bs a1 m1 c1 ts ∧ Run k vs j kn bs ∧ ∀ q, q < i → tellsB k kn (vs.getD q default) = false := by
  rcases h.2 with ⟨_, h2, h3⟩ | ⟨h2, _⟩
  · exact ⟨h.1, h2, h3⟩
  · cases h2
theorem tag_yes {p q : Prop} (h : (true = true ∧ p) ∨ (true = false ∧ q)) : p := by
  rcases h with ⟨_, h⟩ | ⟨h, _⟩
  · exact h
  · cases h
theorem tag_no {p q : Prop} (h : (false = true ∧ p) ∨ (false = false ∧ q)) : q := by
  rcases h with ⟨h, _⟩ | ⟨_, h⟩
  · cases h
  · exact h

end Go.Proofs.YteamniigiogaeaaDoor
namespace Go.Proofs.YteamniigiogaeaaDoor
open Go.RowKit Go.Sort
set_option linter.unusedVariables false
set_option maxRecDepth 4000

end Go.Proofs.YteamniigiogaeaaDoor
namespace Go.Proofs.YteamniigiogaeaaDoor
open Go.RowKit Go.Sort
set_option linter.unusedVariables false
set_option maxRecDepth 4000

theorem PeelP.kn {k : Int} {rs : List RV} {kn : List Nat} {bs : List ByteArray} (h : PeelP k rs kn bs) (hg : Good rs) (hz : 0 < sizeOfK k) : ∃ j, Kn k j kn bs := by
  obtain ⟨⟨j, hj⟩, _⟩ := h
  exact ⟨j, Run.known hz hg hj⟩
/-- Few rows, short ones: so are the answers. -/
theorem PeelR.short {w w' : World} {k : Int} {rs : List RV} {a1 : Option Addr} {m1 c1 : Nat} {ts1 : List RV} {a2 : Option Addr} {m2 c2 : Nat} {ts2 : List RV} (h : PeelR w w' k rs a1 m1 c1 ts1 a2 m2 c2 ts2) (hg : Good rs) (hs : shortR rs) (hl : ∀ r ∈ rs, r.xs.length ≤ 10) : shortR ts1 ∧ shortR ts2 ∧ ts1.length ≤ 128 ∧ ts2.length ≤ rs.length := by
  obtain ⟨kn, bs, hP, o1, i1, e1, o2, i2, e2, hb⟩ := h
  have hrl : ts2.length ≤ rs.length := by
    have := congrArg List.length e2
    unfold restL at this
    rw [List.length_map, List.length_map] at this
    have := List.length_filter_le (restB k kn) rs
    omega
  by_cases hz : sizeOfK k = 0
  · obtain ⟨p1, p2, p3⟩ := peelP_none (rs := rs) hz
    obtain ⟨rfl, rfl⟩ := hP.uniq p1
    rw [p2] at e1
    rw [p3] at e2
    rw [List.map_eq_nil_iff] at e1 e2
    subst e1 e2
    exact ⟨short_nil, short_nil, by simp, hrl⟩
  · obtain ⟨j, hK⟩ := hP.kn hg (by omega)
    have hroom := size_room hK.size
    refine ⟨told_short hK i1 e1, short_core i2 e2 fun x hx => ?_, by have := told_len e1; omega, hrl⟩
    unfold restL at hx
    rw [List.mem_map] at hx
    obtain ⟨r, hr, rfl⟩ := hx
    have hm := (List.mem_filter.1 hr).1
    exact ⟨by rw [dropL_length]; exact hl r hm, txtL_size hK.short (hg r hm).2⟩
theorem len_of {w : World} {a : Option Addr} {n : Nat} {rs : List RV} (h : RowsAt w a n rs) (hs : shortR rs) : ∀ r ∈ rs, r.xs.length ≤ 10 := fun r hr => by
  obtain ⟨i, hi, rfl⟩ := List.mem_iff_getElem.1 hr
  have h1 := h.2.1 i (by rw [← h.1]; exact hi)
  have h2 := hs i
  rw [List.getD_eq_getElem?_getD, List.getElem?_eq_getElem hi] at h1 h2
  simp only [Option.getD_some] at h1 h2
  rw [h1.1]; exact h2.1


end Go.Proofs.YteamniigiogaeaaDoor
