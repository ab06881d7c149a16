/-
  Contract of bucketlineref16.New.
-/
import Derived.Test.YteamniigiogaeaaGreatDoorOB
namespace Go.Proofs.YteamniigiogaeaaGreatDoor
open Go.RowKit Go.Sort
set_option linter.unusedVariables false
set_option maxRecDepth 4000

theorem rnew16_any (M : Int) (w : World) : Calls Tryz.prog 9 #[.int .i64 M] w fun e w' => e = .returned (.agg (rdC M zDS zPK (.slice none 0 0)).toArray) ∧ Below w.heap.size w w' := by
  go_enter Tryz.func9, Tryz.ntmps9
  go_wp2
  exact bodyPost_ret (v := .agg (rdC M zDS zPK (.slice none 0 0)).toArray) (by simp [results, Tryz.results9, go_sem, rdC, zDS, zPK, m2N, rankC_nil]) rfl ⟨rfl, (Below.refl _ _).alloc (Nat.le_refl _) _⟩
end Go.Proofs.YteamniigiogaeaaGreatDoor
