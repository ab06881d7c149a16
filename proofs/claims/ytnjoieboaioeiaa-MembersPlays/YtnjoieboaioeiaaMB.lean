/-
  Members in memory ('MbAt'); contracts of members.New, member, isNode, isTime, and of the array's own methods. No condition.
-/
import Derived.Test.YtnjoieboaioeiaaMA
import Derived.Test.YtnjoieboaioeiaaBa
import Derived.Test.YtnjoieboaioeiaaQb
import Derived.ChangeKeysEq
import Derived.Deep.RegionHeld3
import Derived.Deep.CutRange
import Derived.BigQuiet
namespace Go.Proofs.Ytnjoieboaioeiaa
open Go.RowKit Go.Sort
set_option linter.unusedVariables false
set_option maxRecDepth 4000

/-- The cells of members. -/
def mbC (T : Int) (Z : List Int) : List Value := .int .i64 T :: cellsZ Z
theorem mbC_at (T : Int) {Z : List Int} {i : Nat} (h : i < Z.length) : (mbC T Z)[1 + i]? = some (.int .i64 (Z.getD i 0)) := by
  unfold mbC
  rw [Nat.add_comm, List.getElem?_cons_succ, cellsZ_get Z i h]
theorem mbC_set (T : Int) (Z : List Int) (i : Nat) (x : Int) : (mbC T Z).set (1 + i) (.int .i64 x) = mbC T (Z.set i x) := by
  unfold mbC
  rw [Nat.add_comm, List.set_cons_succ, cellsZ_set]
/-- Members at block g. -/
structure MbAt (w : World) (g : Nat) (T : Int) (Z : List Int) : Prop where
  blk : BkA 52 w g (mbC T Z)
  inv : InvM Z
  tm : 0 ≤ T ∧ T ≤ 1048576
theorem MbAt.below {w w' : World} {g : Nat} {T : Int} {Z : List Int} (h : MbAt w g T Z) (hb : Below w.heap.size w w') : MbAt w' g T Z := ⟨h.blk.below hb, h.inv, h.tm⟩
theorem MbAt.tu {F : Nat → Prop} {w w' : World} {g : Nat} {T : Int} {Z : List Int} (h : MbAt w g T Z) (ht : Tu F w w') (hF : ¬ F g) : MbAt w' g T Z := ⟨h.blk.tu ht hF, h.inv, h.tm⟩
theorem MbAt.t {w : World} {g : Nat} {T : Int} {Z : List Int} (h : MbAt w g T Z) : w.cell? ⟨g, 0, none⟩ = some (.int .i64 T) := h.blk.at 0 rfl
theorem MbAt.at {w : World} {g : Nat} {T : Int} {Z : List Int} (h : MbAt w g T Z) {n : Nat} (hn : n < 8) : w.cell? ⟨g, 1 + n * 2, none⟩ = some (.int .i64 (Z.getD (n * 2) 0)) ∧ w.cell? ⟨g, 1 + n * 2 + 1, none⟩ = some (.int .i64 (Z.getD (n * 2 + 1) 0)) :=
  ⟨h.blk.at _ (mbC_at T (by have := h.inv.1; omega)), by rw [Nat.add_assoc]; exact h.blk.at _ (mbC_at T (by have := h.inv.1; omega))⟩
theorem isnode_any (x : Int) (w : World) : Calls Try.prog 23 #[.int .i64 x] w fun e w' => e = .returned (.bool (nodeB x)) ∧ w' = w := by
  unfold nodeB
  by_cases h0 : 0 ≤ x
  · have d0 : decide (0 ≤ x) = true := decide_eq_true h0
    go_enter Try.func23, Try.ntmps23
    go_wp2
    go_ret
    exact ⟨ret_bool (by simp [h0]), rfl⟩
  · have d0 : decide (0 ≤ x) = false := decide_eq_false h0
    go_enter Try.func23, Try.ntmps23
    go_wp2
    go_ret
    exact ⟨ret_bool (by simp), rfl⟩
theorem istime_any (x : Int) (w : World) : Calls Try.prog 24 #[.int .i64 x] w fun e w' => e = .returned (.bool (timeB x)) ∧ w' = w := by
  unfold timeB
  by_cases h0 : 0 ≤ x
  · have d0 : decide (0 ≤ x) = true := decide_eq_true h0
    go_enter Try.func24, Try.ntmps24
    go_wp2
    go_ret
    exact ⟨ret_bool (by simp [h0]), rfl⟩
  · have d0 : decide (0 ≤ x) = false := decide_eq_false h0
    go_enter Try.func24, Try.ntmps24
    go_wp2
    go_ret
    exact ⟨ret_bool (by simp), rfl⟩
theorem neq_mem (a b : Int) (W : World) :
    (binOp .neq 49 (.agg #[.int .i64 a, .int .i64 b]) (.agg #[.int .i64 0, .int .i64 0])).run Try.prog W = .ok (.bool (hdB (a, b))) W := by
  obtain ⟨i, hi⟩ : ∃ i, Try.prog.info? 3 = some i := by
    cases h : Try.prog.info? 3 with
    | none => exact absurd h (by decide +kernel)
    | some i => exact ⟨i, rfl⟩
  have hc : Try.prog.cellsOf 3 = 1 := by kernel_rfl
  rw [run_neq_struct, run_equalIn_array W 9999 _ _ Try.underlying49 hi, hc]
  by_cases h1 : a = 0
  · by_cases h2 : b = 0
    · simp [Op.eqItems, List.range_succ, part, go_sem, Try.underlying3, h1, h2, hdB]
    · simp [Op.eqItems, List.range_succ, part, go_sem, Try.underlying3, h1, h2, hdB]
  · simp [Op.eqItems, List.range_succ, part, go_sem, Try.underlying3, h1, hdB]
theorem heard_any (a b : Int) (w : World) : Calls Try.prog 28 #[.agg #[.int .i64 a, .int .i64 b]] w fun e w' => e = .returned (.bool (hdB (a, b))) ∧ Below w.heap.size w w' := by
  have hq := neq_mem a b
  have hg : Try.prog.eqGuardType Try.prog.depth 49 = false := by kernel_rfl
  go_enter Try.func28, Try.ntmps28
  go_wp2
  go_ret
  exact ⟨rfl, (Below.refl _ _).alloc (Nat.le_refl _) _⟩
theorem minc_any (a b : Int) (w : World) : Calls Try.prog 25 #[.agg #[.int .i64 a, .int .i64 b]] w fun e w' => e = .returned (.int .i64 a) ∧ Below w.heap.size w w' := by
  go_enter Try.func25, Try.ntmps25
  go_wp2
  go_ret
  exact ⟨rfl, (Below.refl _ _).alloc (Nat.le_refl _) _⟩
theorem mlast_any (a b : Int) (hb : 0 ≤ b ∧ b ≤ 1099511627777) (w : World) : Calls Try.prog 29 #[.agg #[.int .i64 a, .int .i64 b]] w fun e w' => e = .returned (.int .i64 (b - 1)) ∧ Below w.heap.size w w' := by
  have hw : IntKind.i64.wrap (b - 1) = b - 1 := by rw [IntKind.wrap_i64]; omega
  go_enter Try.func29, Try.ntmps29
  go_wp2
  go_ret
  exact ⟨rfl, (Below.refl _ _).alloc (Nat.le_refl _) _⟩
theorem noted_any (i t : Int) (ht : 0 ≤ t ∧ t ≤ 1099511627776) (w : World) : Calls Try.prog 26 #[.int .i64 i, .int .i64 t] w fun e w' => e = .returned (.agg #[.int .i64 i, .int .i64 (t + 1)]) ∧ Below w.heap.size w w' := by
  have hw : IntKind.i64.wrap (t + 1) = t + 1 := by rw [IntKind.wrap_i64]; omega
  go_enter Try.func26, Try.ntmps26
  go_wp2
  exact bodyPost_ret (v := .agg #[.int .i64 i, .int .i64 (t + 1)]) (by simp [results, Try.results26, go_sem]) rfl ⟨rfl, (Below.refl _ _).alloc (Nat.le_refl _) _⟩
set_option maxHeartbeats 1000000 in
theorem member_any (g : Nat) (T : Int) (Z : List Int) (x : Int) (w : World) (h : MbAt w g T Z) :
    Calls Try.prog 27 #[.pointer (some ⟨g, 0, none⟩), .int .i64 x] w fun e w' => e = .returned (.agg #[.int .i64 (memO Z x).1, .int .i64 (memO Z x).2]) ∧ Below w.heap.size w w' := by
  by_cases hx : nodeB x = true
  · obtain ⟨n, hn, rfl⟩ := node_nat hx
    rw [memO_in Z hn]
    have hw := alloc_low w (.cells #[.int .i64 0, .int .i64 0] 49)
    obtain ⟨c0, c1⟩ := (h.below hw).at hn
    have hn' : (n : Int) < 8 := by omega
    have HW := hide hw
    clear h hw
    generalize Z.getD (n * 2) 0 = a at *
    generalize Z.getD (n * 2 + 1) 0 = b at *
    go_enter Try.func27, Try.ntmps27
    go_wp2_with (go_at_call 23; refine (isnode_any _ _).mono ?_; rintro e w1 ⟨rfl, hw1⟩; obtain rfl := hw1.symm; clear hw1; rw [hx])
    exact bodyPost_ret (v := .agg #[.int .i64 a, .int .i64 b]) (by simp [results, Try.results27, go_sem]) rfl ⟨rfl, alloc_low _ _⟩
  · have hx' : nodeB x = false := by simpa using hx
    rw [memO_out Z hx']
    clear h
    go_enter Try.func27, Try.ntmps27
    go_wp2_with (go_at_call 23; refine (isnode_any _ _).mono ?_; rintro e w1 ⟨rfl, hw1⟩; obtain rfl := hw1.symm; clear hw1; rw [hx'])
    exact bodyPost_ret (v := .agg #[.int .i64 0, .int .i64 0]) (by simp [results, Try.results27, go_sem]) rfl ⟨rfl, alloc_low _ _⟩
theorem member_nil (x : Int) (w : World) : Calls Try.prog 27 #[.pointer none, .int .i64 x] w fun e w' => e = .returned (.agg #[.int .i64 0, .int .i64 0]) ∧ Below w.heap.size w w' := by
  go_enter Try.func27, Try.ntmps27
  go_wp2
  exact bodyPost_ret (v := .agg #[.int .i64 0, .int .i64 0]) (by simp [results, Try.results27, go_sem]) rfl ⟨rfl, alloc_low _ _⟩
theorem mbnew_any (t : Int) (w : World) :
    Calls Try.prog 9 #[.int .i64 t] w fun e w' => e = .returned (.pointer (some ⟨w.heap.size, 0, none⟩)) ∧ MbAt w' w.heap.size (tickZ t) (List.replicate 16 0) ∧ Below w.heap.size w w' := by
  have hmx := max_runZ t 0
  have hmn := min_runZ (max t 0) 1048576
  have htk := tick_in t
  rw [show min (max t 0) 1048576 = tickZ t from rfl] at hmn
  generalize tickZ t = T at *
  generalize max t 0 = t1 at *
  go_enter Try.func9, Try.ntmps9
  go_wp2
  go_ret
  exact ⟨rfl, ⟨bkA_new 52 w (mbC T (List.replicate 16 0)), InvM.zero, htk⟩, alloc_low _ _⟩
end Go.Proofs.Ytnjoieboaioeiaa
