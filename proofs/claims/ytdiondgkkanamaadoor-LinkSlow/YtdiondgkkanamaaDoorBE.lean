/-
  Contract of Bucket.Tick. No condition.
-/
import Derived.Test.YtdiondgkkanamaaDoorBD
import Derived.Deep.RegionLaw
namespace Go.Proofs.YtdiondgkkanamaaDoor
open Go.RowKit
set_option linter.unusedVariables false
set_option maxRecDepth 4000

theorem tu_setD (w : World) (g i : Nat) (u : Value) : Tu (fun j => j = g) w (w.setCell ⟨g, i, none⟩ u).drew := Tu.of_gb (gb_drew (gb_setCell _ _ _ _)) fun j _ e => (Option.some.inj e).symm
set_option maxHeartbeats 1000000 in
theorem pctick_any (g : Nat) (M T L n : Int) (w : World) (h : BtAt w g M T L) :
    Calls Tryd.prog 20 #[.pointer (some ⟨g, 0, none⟩), .int .i64 n] w fun e w' => e = .returned (.tuple #[]) ∧ BtAt w' g M T (tickL M T L n) ∧ Tu (fun j => j = g) w w' := by
  have h0 := h.blk.at 0 rfl
  have h1 := h.blk.at 1 rfl
  have h2 := h.blk.at 2 rfl
  have hf := h.blk.frz 2
  have hb := h.lev
  have ht := h.top
  have hm := h.mil
  have hN := within_any n 0 1048576
  have hw := wiZ_in n (show (0 : Int) ≤ 1048576 by decide)
  have hi := tickL_in n hm.1 (by omega : 0 ≤ T) hb.1
  have hmn := min_runZ (L + wiZ n 0 1048576 * M) T
  rw [show min (L + wiZ n 0 1048576 * M) T = tickL M T L n from rfl] at hmn
  generalize tickL M T L n = Z at *
  generalize wiZ n 0 1048576 = N at *
  have hp0 : 0 ≤ N * M := Int.mul_nonneg hw.1 hm.1
  have hp1 : N * M ≤ 1048576 * 1000000 := Int.mul_le_mul hw.2 hm.2 hm.1 (by decide)
  have hw1 : IntKind.i64.wrap (N * M) = N * M := by rw [IntKind.wrap_i64]; omega
  have hw2 : IntKind.i64.wrap (L + N * M) = L + N * M := by rw [IntKind.wrap_i64]; omega
  have H := hide h
  clear h
  go_enter Tryd.func20, Tryd.ntmps20
  go_wp2_with fail
  go_region_law (first
    | (go_simp; go_at_call 34; refine (hN _).mono ?_; rintro e w1 ⟨rfl, hw1⟩; obtain rfl := hw1.symm; clear hw1))
  all_goals go_wp2
  all_goals go_end0
  all_goals exact ⟨rfl, ⟨(unhide H).blk.set 2 _, hm, ht, hi⟩, tu_setD _ _ _ _⟩
end Go.Proofs.YtdiondgkkanamaaDoor
