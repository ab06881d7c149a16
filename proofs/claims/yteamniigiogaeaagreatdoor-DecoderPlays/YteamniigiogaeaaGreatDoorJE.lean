/-
  Contracts of the method blocks of gauss.solver, with either way; gauss.Solve.
-/
import Derived.Test.YteamniigiogaeaaGreatDoorM13
namespace Go.Proofs.YteamniigiogaeaaGreatDoor
open Go.RowKit Go.Sort
set_option linter.unusedVariables false
set_option maxRecDepth 4000

theorem ex_sub (rs : List (List Nat)) (xs : List Nat) : (∀ i ∈ exL rs xs, i < rs.length) ∧ (exL rs xs).length ≤ rs.length := by
  have hkl := keep_len rs rs.length
  unfold exL
  split
  · unfold exprL
    exact ⟨chosen_lt (Nat.le_refl _), Nat.le_trans (chosen_len _ _ _) hkl⟩
  · exact ⟨(fun i hi => by cases hi), Nat.zero_le _⟩
/-- What a way gives: rows of one's own, with their bits and texts. -/
def WayR (w w' : World) (L : List (List Nat × ByteArray)) (a1 : Option Addr) (m1 c1 : Nat) (us : List RV) : Prop :=
  OwnS w' w.heap.size (.slice a1 m1 c1) us ∧ RowsIn w' us ∧ shortR us ∧ us.length ≤ 1000 ∧ us.map core = L ∧ Below w.heap.size w w'
theorem block_text (K : Nat) (us : List RV) (b : Nat) : st (sumL (textsR (atR (keptR us) (exL (vecsL (keptR us)) (unitL (K : Int) (b : Int)))))) = blockC (K : Int) (us.map core) b := by
  unfold blockC
  rw [textsR_core, keptR_core, vecsL_core, keptR_core]

end Go.Proofs.YteamniigiogaeaaGreatDoor
