/-
  What the rows' frames share: the table of soliton as the rows list it, what a slice of words that came in holds, and what a struct of three ints and a text. No condition.
-/
import Derived.Test.YtakoaadimhpclaaGreatDoorU5
import Derived.ProofKit
import Derived.OpenShut
import Derived.ShutString
import Derived.ChangeOld
import Derived.ChangeMaps5
import Derived.SizedLaws
import Derived.Below
import Derived.Deep.DeepHandedRow
import Derived.Lib.LaidTab
import Derived.Lib.SmallJoins
namespace Go.Proofs.YtakoaadimhpclaaGreatDoor
open Go.ChangeShapes Go.WideShapes Go.ChangeAt Go.RowKit
set_option linter.unusedVariables false
set_option linter.unusedSimpArgs false
set_option maxRecDepth 4000

theorem gTab : Tryz.prog.globalNamed "bucketline/soliton.plain" = some 0 := by kernel_rfl
theorem gTabType : (Tryz.prog.globals[0]?).map (·.type) = some 115 := by kernel_rfl
theorem cellsTab : Tryz.prog.cellsOf 115 = 127 := by kernel_rfl
theorem cells32 : Tryz.prog.cellsOf 114 = 1 := by kernel_rfl
def plainL : List Int := [524288, 174762, 87381, 52428, 34952, 24966, 18724, 14563, 11650, 9532, 7943, 6721, 5761, 4993, 4369, 3855, 3426, 3066, 2759, 2496, 2269, 2072, 1899, 1747, 1613, 1493, 1387, 1291, 1205, 1127, 1057, 992, 934, 881, 832, 787, 745, 707, 672, 639, 608, 580, 554, 529, 506, 485, 464, 445, 427, 411, 395, 380, 366, 353, 340, 328, 317, 306, 296, 286, 277, 268, 260, 252, 244, 237, 230, 223, 217, 210, 205, 199, 194, 188, 183, 179, 174, 170, 165, 161, 157, 154, 150, 146, 143, 140, 136, 133, 130, 128, 125, 122, 119, 117, 114, 112, 110, 108, 105, 103, 101, 99, 97, 96, 94, 92, 90, 89, 87, 85, 84, 82, 81, 79, 78, 77, 75, 74, 73, 72, 71, 69, 68, 67, 66, 65, 64]
theorem plainL_len : plainL.length = 127 := by decide +kernel
theorem plainL_get (i : Nat) (hi : i < 127) : plainL.getD i 0 = ((1048576 / ((i + 2) * (i + 1)) : Nat) : Int) := by
  have h : ∀ j : Fin 127, plainL.getD j.val 0 = ((1048576 / ((j.val + 2) * (j.val + 1)) : Nat) : Int) := by decide +kernel
  exact h ⟨i, hi⟩
set_option maxRecDepth 100000 in
theorem table {W : World} (h : laidMetH Tryz.prog Rows.calmDrawsRow.laid W) : Lib.TabIs Tryz.prog W "bucketline/soliton.plain" .u32 plainL :=
  Lib.tabIs_of_head (rest := []) gTab gTabType Tryz.underlying115 Tryz.underlying114 cells32 cellsTab h
theorem tab_of {W : World} (h : laidMetH Tryz.prog Rows.calmDrawsRow.laid W) : PTab W := by
  intro i hi
  have := (table h).cell gTab i (by rw [plainL_len]; exact hi)
  rw [this, plainL_get i hi]

end Go.Proofs.YtakoaadimhpclaaGreatDoor
