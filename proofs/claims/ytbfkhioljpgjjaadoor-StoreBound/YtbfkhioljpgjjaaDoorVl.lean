/-
  Whether a row is one of k blocks, as a Bool.
-/
import Derived.Test.YtbfkhioljpgjjaaDoorVB
namespace Go.Proofs.YtbfkhioljpgjjaaDoor
open Go.RowKit
set_option linter.unusedVariables false
set_option maxRecDepth 4000

theorem smalls_zeros (n : Nat) : smalls (List.replicate n 0) := fun x hx => by rw [(List.mem_replicate.1 hx).2]; show 0 < 18446744073709551616; decide
theorem size_room {k : Int} (hs : 0 < sizeOfK k) : k.toNat ≤ 64 * sizeOfK k ∧ 1 ≤ k ∧ k ≤ 128 := by
  obtain ⟨h1, h2, h3⟩ := sizeOfK_pos hs
  omega
/-- Is it a row of k blocks? -/
def validB (k : Int) (xs : List Nat) : Bool := decide (0 < xs.length) && decide (xs.length = sizeOfK k) && (List.range (64 * xs.length)).all fun i => decide (i < k.toNat) || !getB xs i
theorem validB_iff {k : Int} {xs : List Nat} : validB k xs = true ↔ ValidP k xs := by
  unfold validB ValidP
  rw [Bool.and_eq_true, Bool.and_eq_true, decide_eq_true_eq, decide_eq_true_eq, List.all_eq_true, and_assoc]
  refine and_congr_right fun _ => and_congr_right fun _ => ?_
  constructor
  · intro h i hi
    by_cases hl : i < 64 * xs.length
    · have := h i (List.mem_range.2 hl)
      rw [decide_eq_false (by omega)] at this
      simpa using this
    · exact getB_out xs i (by omega)
  · intro h i _
    by_cases hi : i < k.toNat
    · simp [hi]
    · rw [h i (by omega)]; simp
theorem valid_size {k : Int} {xs : List Nat} (h : validB k xs = true) : 0 < sizeOfK k ∧ xs.length = sizeOfK k ∧ ∀ i, getB xs i = true → i < k.toNat := by
  obtain ⟨h1, h2, h3⟩ := validB_iff.1 h
  refine ⟨by omega, h2, fun i hi => ?_⟩
  rcases Nat.lt_or_ge i k.toNat with h0 | h0
  · exact h0
  · rw [h3 i h0] at hi; cases hi
theorem retV {e : Ending} {k : Int} {xs : List Nat} (h : RetB e (ValidP k xs)) : e = .returned (.bool (validB k xs)) := by
  obtain ⟨b, rfl, hb⟩ := h
  have : b = validB k xs := by
    cases hv : validB k xs
    · rw [← Bool.not_eq_true]
      intro h
      rw [validB_iff.2 (hb.1 h)] at hv
      cases hv
    · exact hb.2 (validB_iff.1 hv)
  rw [this]
end Go.Proofs.YtbfkhioljpgjjaaDoor
