/-
  What is chosen, in memory ('CcAt': thirty-two places, how many, the xor, its degree); contracts of choice.has, degreeWith, add. Conditions: at most 10 words.
-/
import Derived.Test.YtfimbbiholllhaaDoorVF
import Derived.Test.YtfimbbiholllhaaDoorM9
import Derived.Test.YtfimbbiholllhaaDoorM2
import Derived.Test.YtfimbbiholllhaaDoorM1
namespace Go.Proofs.YtfimbbiholllhaaDoor
open Go.RowKit
set_option linter.unusedVariables false
set_option maxRecDepth 4000

/-- The cells of a choice. -/
def ccL (L : List Int) (k : Nat) (sv : Value) (d : Nat) : List Value := cellsZ L ++ [.int .i64 (k : Int), sv, .int .i64 (d : Int)]
theorem ccL_low {L : List Int} {k : Nat} {sv : Value} {d : Nat} (hl : L.length = 32) {i : Nat} (hi : i < 32) : (ccL L k sv d)[i]? = some (.int .i64 (L.getD i 0)) := by
  unfold ccL
  rw [List.getElem?_append_left (by rw [cellsZ_length]; omega), cellsZ_get L i (by omega)]
theorem ccL_hi {L : List Int} {k : Nat} {sv : Value} {d : Nat} (hl : L.length = 32) (j : Nat) : (ccL L k sv d)[32 + j]? = [Value.int .i64 (k : Int), sv, .int .i64 (d : Int)][j]? := by
  unfold ccL
  rw [List.getElem?_append_right (by rw [cellsZ_length]; omega), cellsZ_length, hl, Nat.add_sub_cancel_left]
theorem ccL_set {L : List Int} {k : Nat} {sv : Value} {d : Nat} (hl : L.length = 32) {i : Nat} (hi : i < 32) (x : Int) : (ccL L k sv d).set i (.int .i64 x) = ccL (L.set i x) k sv d := by
  unfold ccL
  rw [List.set_append_left _ _ (by rw [cellsZ_length]; omega), cellsZ_set]
theorem ccL_setH {L : List Int} {k : Nat} {sv : Value} {d : Nat} (hl : L.length = 32) (j : Nat) (x : Value) : (ccL L k sv d).set (32 + j) x = cellsZ L ++ [Value.int .i64 (k : Int), sv, .int .i64 (d : Int)].set j x := by
  unfold ccL
  rw [List.set_append_right _ _ (by rw [cellsZ_length]; omega), cellsZ_length, hl, Nat.add_sub_cancel_left]
/-- A choice at block g: its xor lies behind it. -/
structure CcAt (w : World) (g : Nat) (L : List Int) (k : Nat) (sv : Value) (xs : List Nat) (d : Nat) : Prop where
  blk : BkA 50 w g (ccL L k sv d)
  len : L.length = 32
  own : Own w (g + 1) sv xs
theorem CcAt.below {w w' : World} {g : Nat} {L : List Int} {k : Nat} {sv : Value} {xs : List Nat} {d : Nat} (h : CcAt w g L k sv xs d) (hb : Below w.heap.size w w') : CcAt w' g L k sv xs d := ⟨h.blk.below hb, h.len, h.own.below hb⟩
theorem CcAt.at {w : World} {g : Nat} {L : List Int} {k : Nat} {sv : Value} {xs : List Nat} {d : Nat} (h : CcAt w g L k sv xs d) : w.cell? ⟨g, 32, none⟩ = some (.int .i64 (k : Int)) ∧ w.cell? ⟨g, 33, none⟩ = some sv ∧ w.cell? ⟨g, 34, none⟩ = some (.int .i64 (d : Int)) :=
  ⟨h.blk.at 32 (ccL_hi h.len 0), h.blk.at 33 (ccL_hi h.len 1), h.blk.at 34 (ccL_hi h.len 2)⟩
theorem CcAt.ints {w : World} {g : Nat} {L : List Int} {k : Nat} {sv : Value} {xs : List Nat} {d : Nat} (h : CcAt w g L k sv xs d) (hk : k ≤ 32) : IntzAt w (some ⟨g, 0, none⟩) k (L.take k) := by
  refine ⟨by rw [List.length_take, h.len]; omega, .inr ⟨g, 0, rfl, fun i hi => ?_⟩⟩
  rw [Nat.zero_add, h.blk.at i (ccL_low h.len (by omega)), List.getD_eq_getElem?_getD, List.getD_eq_getElem?_getD, List.getElem?_take, if_pos hi]
theorem CcAt.new (w : World) : CcAt (w.alloc (.cells (ccL (List.replicate 32 0) 0 (.slice none 0 0) 0).toArray 50)) w.heap.size (List.replicate 32 0) 0 (.slice none 0 0) [] 0 :=
  ⟨bkA_new _ _ _, by simp, Own.nil _ _⟩
theorem CcAt.place {w : World} {g : Nat} {L : List Int} {k : Nat} {sv : Value} {xs : List Nat} {d : Nat} (h : CcAt w g L k sv xs d) {i : Nat} (hi : i < 32) (x : Int) : CcAt (w.setCell ⟨g, i, none⟩ (.int .i64 x)) g (L.set i x) k sv xs d := by
  refine ⟨?_, by rw [List.length_set]; exact h.len, h.own.other _ _ (Nat.lt_succ_self _)⟩
  have := h.blk.set i (.int .i64 x)
  rwa [ccL_set h.len hi] at this
theorem CcAt.count {w : World} {g : Nat} {L : List Int} {k : Nat} {sv : Value} {xs : List Nat} {d : Nat} (h : CcAt w g L k sv xs d) (k' : Nat) : CcAt (w.setCell ⟨g, 32, none⟩ (.int .i64 (k' : Int))) g L k' sv xs d := by
  refine ⟨?_, h.len, h.own.other _ _ (Nat.lt_succ_self _)⟩
  have := h.blk.set 32 (.int .i64 (k' : Int))
  rwa [show (32 : Nat) = 32 + 0 from rfl, ccL_setH h.len 0] at this
theorem CcAt.sum {w : World} {g : Nat} {L : List Int} {k : Nat} {sv : Value} {xs : List Nat} {d : Nat} (h : CcAt w g L k sv xs d) {u : Value} {ys : List Nat} (ho : Own w (g + 1) u ys) : CcAt (w.setCell ⟨g, 33, none⟩ u) g L k u ys d := by
  refine ⟨?_, h.len, ho.other _ _ (Nat.lt_succ_self _)⟩
  have := h.blk.set 33 u
  rwa [show (33 : Nat) = 32 + 1 from rfl, ccL_setH h.len 1] at this
theorem CcAt.deg {w : World} {g : Nat} {L : List Int} {k : Nat} {sv : Value} {xs : List Nat} {d : Nat} (h : CcAt w g L k sv xs d) (d' : Nat) : CcAt (w.setCell ⟨g, 34, none⟩ (.int .i64 (d' : Int))) g L k sv xs d' := by
  refine ⟨?_, h.len, h.own.other _ _ (Nat.lt_succ_self _)⟩
  have := h.blk.set 34 (.int .i64 (d' : Int))
  rwa [show (34 : Nat) = 32 + 2 from rfl, ccL_setH h.len 2] at this

set_option maxHeartbeats 1000000 in
theorem has_any (g : Nat) (L : List Int) (k : Nat) (sv : Value) (xs : List Nat) (d : Nat) (x : Int) (w : World) (h : CcAt w g L k sv xs d) (hk : k ≤ 32) :
    Calls Tryd.prog 47 #[.pointer (some ⟨g, 0, none⟩), .int .i64 x] w fun e w' => e = .returned (.bool (decide (x ∈ L.take k))) ∧ Below w.heap.size w w' := by
  have hk' : (k : Int) ≤ 32 := by omega
  have k0 := cell_regrown h.at.1
  have cC := quietB (W := w) (fun w' hb => same_below (containsI_any (some ⟨g, 0, none⟩) k 32 (L.take k) x w' ((h.below hb).ints hk) (by omega)))
  generalize decide (x ∈ L.take k) = b at *
  clear h
  go_enter Tryd.func47, Tryd.ntmps47
  go_wp2_with fail
  refine wp_region_quiet_below (by kernel_rfl) (by kernel_rfl) ?_
  repeat (with_reducible refine wpQuiet_step (fun K hK => ?_); go_simp; first | (with_reducible refine hK _ ?_; clear hK K) | (apply Exists.intro; apply And.intro; (intro _; first | (go_at_call 59; exact cC _ _)); with_reducible refine hK _ ?_; clear hK K))
  refine wpQuiet_nil ?_
  intro _ hw'
  obtain ⟨⟨dq, osq⟩, hw''⟩ := hw'
  subst hw''
  go_wp2
  go_ret
  exact ⟨rfl, below_regrown _ dq osq⟩
end Go.Proofs.YtfimbbiholllhaaDoor
