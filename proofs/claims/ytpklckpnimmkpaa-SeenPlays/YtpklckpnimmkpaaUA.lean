/-
  Contracts of words.Unit, bucketlineref01.Unit: for all ints.
-/
import Derived.Test.YtpklckpnimmkpaaVB
namespace Go.Proofs.Ytpklckpnimmkpaa
open Go.RowKit
set_option linter.unusedVariables false
set_option maxRecDepth 4000

/-- The row of one block. -/
def unitL (k i : Int) : List Nat := if i < 0 ∨ k ≤ i then [] else setI (List.replicate (sizeOfK k) 0) i true

theorem own_made {w w' : World} {n : Nat} (h : w'.ownsRow w.heap.size 47 1 (.slice (some ⟨w.heap.size, 0, none⟩) n n) n (madeCells (Value.int .u64 0).cells (n * 1)).toList) :
    Own w' w.heap.size (.slice (some ⟨w.heap.size, 0, none⟩) n n) (List.replicate n 0) := by
  refine ⟨fun x hx => ?_, ?_⟩
  · rw [(List.mem_replicate.1 hx).2]; show 0 < 18446744073709551616; decide
  · have e : cellsU (List.replicate n 0) = (madeCells (Value.int .u64 0).cells (n * 1)).toList := by
      rw [show (Value.int .u64 0).cells = #[Value.int .u64 0] from rfl, toList_madeCells_one]
      simp [cellsU]
    rw [e, List.length_replicate]
    exact h
theorem sizeOfK_le (k : Int) : sizeOfK k ≤ 2 := by
  unfold sizeOfK
  split
  · omega
  · omega


end Go.Proofs.Ytpklckpnimmkpaa
