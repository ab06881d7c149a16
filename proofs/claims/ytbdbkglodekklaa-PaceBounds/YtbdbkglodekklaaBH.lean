/-
  The walk of PaceBounds: a rate's thousandths are from 0 to the greatest, and rise with the rate. No condition.
-/
import Derived.Test.YtbdbkglodekklaaBG
namespace Go.Proofs.Ytbdbkglodekklaa
open Go.RowKit
set_option linter.unusedVariables false
set_option maxRecDepth 4000

set_option maxHeartbeats 4000000 in
theorem pcbounds_at (a b X Y : Nat) (p g l : Bool) (ha : ∀ w, Calls Try.prog 8 #[.float .f64 a] w fun e w' => e = .returned (.int .i64 (X : Int)) ∧ w' = w)
    (hb : ∀ w, Calls Try.prog 8 #[.float .f64 b] w fun e w' => e = .returned (.int .i64 (Y : Int)) ∧ w' = w)
    (hp : (FloatKind.f64.format.order a a != some .eq) = p) (hg : (FloatKind.f64.format.order a 0 == some .gt) = g)
    (hl : (FloatKind.f64.format.order a b == some .lt || FloatKind.f64.format.order a b == some .eq) = l)
    (hX : X ≤ 1000000) (h0 : g = false → X = 0) (h1 : l = true → X ≤ Y) (hpg : p = true → g = false) (w : World) :
    Calls Try.prog 3 #[.float .f64 a, .float .f64 b] w fun e w' => e = .returned (.bool true) ∧ Below w.heap.size w w' := by
  have HF1 : Hid True := hide trivial
  have HA := hide (awake_any w)
  cases g
  · obtain rfl := h0 rfl
    have hxy : (0 : Int) ≤ (Y : Int) := by omega
    clear h0 h1 hpg
    cases p <;> cases l
    all_goals
      go_enter Try.func3, Try.ntmps3
      go_wp2_with (first
        | (clear HF1; go_at_call 8; refine (ha _).mono ?_; rintro e w1 ⟨rfl, hw1⟩; obtain rfl := hw1.symm; clear hw1)
        | (go_at_call 8; refine (hb _).mono ?_; rintro e w1 ⟨rfl, hw1⟩; obtain rfl := hw1.symm; clear hw1)
        | (go_at_call 9; refine (unhide HA).mono ?_; rintro e w1 ⟨rfl, hb1⟩; have HB := hide hb1; clear hb1)
        | fail)
      go_ret
      exact ⟨rfl, unhide HB⟩
  · cases p
    case true => exact absurd (hpg rfl) (by decide)
    clear h0 hpg
    cases l
    · clear h1
      go_enter Try.func3, Try.ntmps3
      go_wp2_with (first
        | (clear HF1; go_at_call 8; refine (ha _).mono ?_; rintro e w1 ⟨rfl, hw1⟩; obtain rfl := hw1.symm; clear hw1)
        | (go_at_call 8; refine (hb _).mono ?_; rintro e w1 ⟨rfl, hw1⟩; obtain rfl := hw1.symm; clear hw1)
        | (go_at_call 9; refine (unhide HA).mono ?_; rintro e w1 ⟨rfl, hb1⟩; have HB := hide hb1; clear hb1)
        | fail)
      go_ret
      exact ⟨rfl, unhide HB⟩
    · have hxy : (X : Int) ≤ (Y : Int) := by have := h1 rfl; omega
      clear h1
      go_enter Try.func3, Try.ntmps3
      go_wp2_with (first
        | (clear HF1; go_at_call 8; refine (ha _).mono ?_; rintro e w1 ⟨rfl, hw1⟩; obtain rfl := hw1.symm; clear hw1)
        | (go_at_call 8; refine (hb _).mono ?_; rintro e w1 ⟨rfl, hw1⟩; obtain rfl := hw1.symm; clear hw1)
        | (go_at_call 9; refine (unhide HA).mono ?_; rintro e w1 ⟨rfl, hb1⟩; have HB := hide hb1; clear hb1)
        | fail)
      go_ret
      exact ⟨rfl, unhide HB⟩
theorem pcbounds_walk (a b : Nat) (w : World) (ha : a < 18446744073709551616) (hb : b < 18446744073709551616) :
    Calls Try.prog 3 #[.float .f64 a, .float .f64 b] w fun e w' => e = .returned (.bool true) ∧ Below w.heap.size w w' := by
  refine pcbounds_at a b (milZ a) (milZ b) _ (gtB a) _ (milli_any a ha) (milli_any b hb) rfl (fl_gt0 a ha) rfl (milZ_le a) (fun h => by rw [milZ, h]; rfl) (fun h => ?_) (fl_self a ha) w
  cases hg : gtB a
  · rw [milZ, hg]; exact Nat.zero_le _
  · obtain ⟨h1, h2⟩ := fl_le a b hg hb h
    exact milZ_mono a b hg h1 h2
end Go.Proofs.Ytbdbkglodekklaa
