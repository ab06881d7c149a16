/-
  Contracts of words.from, words.Valid and bucketlineref01.Valid: for every int and every row.
  Contracts of words.Unit, bucketlineref01.Unit: for all ints.
-/
import Derived.Test.YtakoaadimhpclaaGreatDoorU9
import Derived.Lib.SliceRun
namespace Go.Proofs.YtakoaadimhpclaaGreatDoor
open Go.RowKit
set_option linter.unusedVariables false
set_option linter.unusedSimpArgs false
set_option maxRecDepth 4000

theorem Below.cells {B g : Nat} {w0 : World} (hg : B ≤ g) : ∀ (vs : List Value) (o : Nat) (w : World), Below B w0 w → Below B w0 (w.setCells g o vs)
  | [], _, _, h => h
  | v :: r, o, w, h => Below.cells hg r (o + 1) (w.setCell ⟨g, o, none⟩ v) (h.setCell (by exact hg) v)

end Go.Proofs.YtakoaadimhpclaaGreatDoor
namespace Go.Proofs.YtakoaadimhpclaaGreatDoor
open Go.RowKit
set_option linter.unusedVariables false
set_option linter.unusedSimpArgs false
set_option maxRecDepth 4000

/-- The row of one block. -/
def unitL (k i : Int) : List Nat := if i < 0 ∨ k ≤ i then [] else setI (List.replicate (sizeOfK k) 0) i true

theorem own_made {w w' : World} {n : Nat} (h : w'.ownsRow w.heap.size 53 1 (.slice (some ⟨w.heap.size, 0, none⟩) n n) n (madeCells (Value.int .u64 0).cells (n * 1)).toList) :
    Own w' w.heap.size (.slice (some ⟨w.heap.size, 0, none⟩) n n) (List.replicate n 0) := by
  refine ⟨fun x hx => ?_, ?_⟩
  · rw [(List.mem_replicate.1 hx).2]; show 0 < 18446744073709551616; decide
  · have e : cellsU (List.replicate n 0) = (madeCells (Value.int .u64 0).cells (n * 1)).toList := by
      rw [show (Value.int .u64 0).cells = #[Value.int .u64 0] from rfl, toList_madeCells_one]
      simp [cellsU]
    rw [e, List.length_replicate]
    exact h
theorem sizeOfK_le (k : Int) : sizeOfK k ≤ 2 := by
  unfold sizeOfK
  split
  · omega
  · omega

set_option maxHeartbeats 1000000 in
theorem runit_any (k i : Int) (w : World) (hi : i ≤ 9223372036854775807) :
    Calls Tryz.prog 11 #[.int .i64 k, .int .i64 i] w fun e w' => ∃ v, e = .returned v ∧ Own w' w.heap.size v (unitL k i) ∧ Below w.heap.size w w' := by
  have HZ := hide (rsize_any k)
  by_cases h00 : sizeOfK k = 0
  · have hb0 : (((sizeOfK k : Nat) : Int) == 0) = true := by rw [h00]; rfl
    have HU := hide (show unitL k i = [] from by
      unfold unitL
      split
      · rfl
      · rw [h00]; unfold setI; split
        · rfl
        · simp [setB])
    clear h00
    go_enter Tryz.func11, Tryz.ntmps11
    go_wp2_with (go_at_call 27; refine (unhide HZ _).mono ?_; rintro e w' ⟨rfl, hw⟩; obtain rfl := hw.symm)
    go_ret
    exact ⟨_, rfl, by rw [unhide HU]; exact Own.nil _ _, Below.refl _ _⟩
  · have hb0 : (((sizeOfK k : Nat) : Int) == 0) = false := by simp only [beq_eq_false_iff_ne, ne_eq]; omega
    by_cases hin : i < 0 ∨ k ≤ i
    · have HU := hide (show unitL k i = [] from by unfold unitL; rw [if_pos hin])
      by_cases h1 : i < 0
      · have hd1 : decide (i < 0) = true := by simp; omega
        clear hin
        go_enter Tryz.func11, Tryz.ntmps11
        go_wp2_with (go_at_call 27; refine (unhide HZ _).mono ?_; rintro e w' ⟨rfl, hw⟩; obtain rfl := hw.symm)
        go_ret
        exact ⟨_, rfl, by rw [unhide HU]; exact Own.nil _ _, Below.refl _ _⟩
      · have hd1 : decide (i < 0) = false := by simp; omega
        have hd2 : decide (k ≤ i) = true := by simp; omega
        clear hin
        go_enter Tryz.func11, Tryz.ntmps11
        go_wp2_with (go_at_call 27; refine (unhide HZ _).mono ?_; rintro e w' ⟨rfl, hw⟩; obtain rfl := hw.symm)
        go_ret
        exact ⟨_, rfl, by rw [unhide HU]; exact Own.nil _ _, Below.refl _ _⟩
    · have HU := hide (show unitL k i = setI (List.replicate (sizeOfK k) 0) i true from by unfold unitL; rw [if_neg hin])
      have hd1 : decide (i < 0) = false := by simp; omega
      have hd2 : decide (k ≤ i) = false := by simp; omega
      have hs := sizeOfK_le k
      obtain ⟨i0, hi0, hz0, hz1, hz2⟩ := info_parts info_u64
      obtain ⟨wm, hrun, hown, hgrow⟩ := run_make_full (P := Tryz.prog) w w.heap.size 28 53 i0 (.int .u64 0) 1 Tryz.underlying28 hi0 hz0 hz1 .i64 .i64 (sizeOfK k) (by rw [hz2]; omega) (by unfold maxLen; omega) (Nat.le_refl _)
      have ho := own_made hown
      have hb : Below w.heap.size w wm := (Below.refl _ _).grown hgrow (Nat.le_refl _) (fun k hk => by cases hk)
      obtain ⟨a1, c1, hv, hr⟩ := ho.row
      rw [List.length_replicate] at hv hr
      have hr1 : RowAt wm (some ⟨w.heap.size, 0, none⟩) (sizeOfK k) (List.replicate (sizeOfK k) 0) := by
        simp only [Value.slice.injEq] at hv
        rw [hv.1]; exact hr
      clear hin hown hgrow ho hv hr
      go_enter Tryz.func11, Tryz.ntmps11
      go_wp2_with (go_at_call 27; refine (unhide HZ _).mono ?_; rintro e w' ⟨rfl, hw⟩; obtain rfl := hw.symm)
      refine (rset_any _ _ _ _ _ _ _ hr1 (by omega) hi).mono ?_
      rintro e w2 ⟨v, rfl, ho2, hb2⟩
      have HO := hide ho2
      have HB := hide (hb.trans (hb2.mono hb.size))
      clear ho2 hb2 hr1
      have hbs := hb.size
      go_wp2
      go_ret
      exact ⟨_, rfl, by rw [unhide HU]; exact (unhide HO).mono hbs, unhide HB⟩
end Go.Proofs.YtakoaadimhpclaaGreatDoor
