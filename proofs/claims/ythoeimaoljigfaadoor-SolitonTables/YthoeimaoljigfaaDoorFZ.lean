/-
  What the rows' frames share: the table of soliton as the rows list it, and what a slice of ints that came in holds. No condition.
-/
import Derived.Test.YthoeimaoljigfaaDoorZB
import Derived.ProofKit
import Derived.OpenShut
import Derived.ShutString
import Derived.ChangeOld
import Derived.Below
import Derived.Deep.DeepHandedRow
import Derived.Lib.LaidTab
namespace Go.Proofs.YthoeimaoljigfaaDoor
open Go.ChangeShapes Go.WideShapes Go.ChangeAt Go.RowKit
set_option linter.unusedVariables false
set_option maxRecDepth 4000

theorem own : ownKnob Tryd.prog.godebug = none := by kernel_rfl
theorem laidOut : laidOutB Tryd.prog = true := by kernel_rfl
theorem gTab : Tryd.prog.globalNamed "bucketline/soliton.plain" = some 0 := by kernel_rfl
theorem gTabType : (Tryd.prog.globals[0]?).map (·.type) = some 38 := by kernel_rfl
theorem cellsTab : Tryd.prog.cellsOf 38 = 127 := by kernel_rfl
theorem cells32 : Tryd.prog.cellsOf 34 = 1 := by kernel_rfl
def plainL : List Int := [524288, 174762, 87381, 52428, 34952, 24966, 18724, 14563, 11650, 9532, 7943, 6721, 5761, 4993, 4369, 3855, 3426, 3066, 2759, 2496, 2269, 2072, 1899, 1747, 1613, 1493, 1387, 1291, 1205, 1127, 1057, 992, 934, 881, 832, 787, 745, 707, 672, 639, 608, 580, 554, 529, 506, 485, 464, 445, 427, 411, 395, 380, 366, 353, 340, 328, 317, 306, 296, 286, 277, 268, 260, 252, 244, 237, 230, 223, 217, 210, 205, 199, 194, 188, 183, 179, 174, 170, 165, 161, 157, 154, 150, 146, 143, 140, 136, 133, 130, 128, 125, 122, 119, 117, 114, 112, 110, 108, 105, 103, 101, 99, 97, 96, 94, 92, 90, 89, 87, 85, 84, 82, 81, 79, 78, 77, 75, 74, 73, 72, 71, 69, 68, 67, 66, 65, 64]
theorem plainL_len : plainL.length = 127 := by decide +kernel
theorem plainL_get (i : Nat) (hi : i < 127) : plainL.getD i 0 = ((1048576 / ((i + 2) * (i + 1)) : Nat) : Int) := by
  have h : ∀ j : Fin 127, plainL.getD j.val 0 = ((1048576 / ((j.val + 2) * (j.val + 1)) : Nat) : Int) := by decide +kernel
  exact h ⟨i, hi⟩
set_option maxRecDepth 100000 in
theorem table {W : World} (h : laidMetH Tryd.prog Rows.solitonTablesRow.laid W) : Lib.TabIs Tryd.prog W "bucketline/soliton.plain" .u32 plainL :=
  Lib.tabIs_of_head (rest := []) gTab gTabType Tryd.underlying38 Tryd.underlying34 cells32 cellsTab h
theorem tab_of {W : World} (h : laidMetH Tryd.prog Rows.solitonTablesRow.laid W) : PTab W := by
  intro i hi
  have := (table h).cell gTab i (by rw [plainL_len]; exact hi)
  rw [this, plainL_get i hi]

theorem max_len {n : Nat} (h : n ≤ maxLen) : n ≤ 9223372036854775807 := by simpa [maxLen] using h
/-- A slice of ints that came in can be read. -/
theorem intz_of {W : World} {H : Type} {enc : TypeId × Value → H} {a : Option Addr} {len cap : Nat} {d : DataW H} {ps : List MemPlace}
    (h : DataW.Trod enc Tryd.prog W 0 (fun _ => true) true 23 (.slice a len cap) d ps) : ∃ xs, IntzAt W a len xs ∧ len ≤ 9223372036854775807 := by
  obtain ⟨fuel, hf⟩ := h
  rcases open_ints Tryd.underlying23 Tryd.underlying3 (by kernel_rfl) hf with ⟨hcs, _⟩ | ⟨x, l, c, zs, hcs, _, hl, hm, hz, _, hcell, hwz⟩
  · simp [Value.cells] at hcs
    obtain ⟨rfl, rfl, rfl⟩ := hcs
    exact ⟨[], ⟨rfl, .inl rfl⟩, by decide⟩
  · simp [Value.cells] at hcs
    obtain ⟨rfl, rfl, rfl⟩ := hcs
    have hzl : zs.length = cap := by simpa using hz
    refine ⟨zs.take len, ⟨by simp; omega, ?_⟩, Nat.le_trans hl (max_len hm)⟩
    by_cases h0 : len = 0
    · exact .inl h0
    · obtain ⟨b, off, spot⟩ := x
      have hc := hcell 0 (by omega)
      have hspot : spot = none := by simpa [Addr.add] using World.cell?_spot hc
      subst hspot
      refine .inr ⟨b, off, rfl, fun i hi => ?_⟩
      have hci := hcell i (by omega)
      have hadd : (⟨b, off, none⟩ : Addr).add i = ⟨b, off + i, none⟩ := by
        unfold Addr.add
        split
        · rename_i h; simp_all
        · rfl
      rw [hadd] at hci
      rw [hci]
      have e2 : (zs.take len).getD i 0 = zs.getD i 0 := by
        simp [List.getD_eq_getElem?_getD, hi]
      rw [e2]
end Go.Proofs.YthoeimaoljigfaaDoor
