/-
  A slice of words cut at its end. No condition.
-/
import Derived.Test.YtbfkhioljpgjjaaDoorMem
namespace Go.Proofs.YtbfkhioljpgjjaaDoor
open Go.RowKit
set_option linter.unusedVariables false
set_option maxRecDepth 4000

theorem elem_u64s : Tryd.prog.underlying 34 = some (.slice (Tryd.prog.elem 34)) := by kernel_rfl
theorem elem_u64s' : Tryd.prog.elem 34 = 46 := by kernel_rfl
theorem uslice_hi (a : Option Addr) (n c q : Nat) (hc : q ≤ c) (w : World) :
    (Instr.sliceAt 34 (.slice a n c) none (some (.int .i64 (q : Int))) none).run Tryd.prog w = .ok (.slice a q c) w := by
  have hz : ∀ w : World, (sizeOf 46).run Tryd.prog w = .ok 1 w := fun w => by kernel_rfl
  rw [run_sliceAt_slice _ _ _ _ _ _ elem_u64s, run_slice_h _ _ _ _ _ elem_u64s _ _ (by omega) (by omega), elem_u64s', hz]
  cases a <;> simp [Result.andThen, sliced, Addr.add]
theorem RowAt.take {w : World} {a : Option Addr} {n : Nat} {xs : List Nat} (h : RowAt w a n xs) {k : Nat} (hk : k ≤ n) : RowAt w a k (xs.take k) := by
  refine ⟨by rw [List.length_take, h.1]; omega, fun x hx => h.2.1 x (List.mem_of_mem_take hx), ?_⟩
  rcases h.2.2 with h0 | ⟨b, off, rfl, hc⟩
  · left; omega
  · refine .inr ⟨b, off, rfl, fun i hi => ?_⟩
    rw [hc i (by omega), List.getD_eq_getElem?_getD, List.getD_eq_getElem?_getD, List.getElem?_take_of_lt hi]
end Go.Proofs.YtbfkhioljpgjjaaDoor
