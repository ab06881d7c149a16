/-
  Contract of Buffer.toGo: the first of the greatest degree.
-/
import Derived.Test.YtbppanebpfpioaaDoorUF
import Derived.WalkMore
import Derived.Deep.LoopGhost
namespace Go.Proofs.YtbppanebpfpioaaDoor
open Go.RowKit Go.Sort
set_option linter.unusedVariables false
set_option maxRecDepth 4000

set_option maxHeartbeats 2000000 in
theorem butogo_any (g B m : Nat) (v : Value) (ps : List PKV) (w : World) (h : BfAt w g B m v ps) (h0 : 0 < ps.length) :
    Calls Tryd.prog 28 #[.pointer (some ⟨g, 0, none⟩)] w fun e w' => e = .returned (.int .i64 (goesTo (ps.map PKV.pd) ps.length : Int)) ∧ Below w.heap.size w w' := by
  have hln := h.len.2
  obtain ⟨a, c, rfl, hP, -, -⟩ := h.at
  have HD := hide (budegs_any g B m _ ps w h)
  have HC := hide (fun (w' : World) (hb : Below w.heap.size w w') => h.cells hb)
  have HP := hide hP
  have HL : Hid (∀ i, i < ps.length → (degD (ps.map PKV.pd) i : Int) ≤ (ps.getD 0 .dflt).k ∧ (ps.getD 0 .dflt).k ≤ 128) := hide fun i hi => by
    have := h.inv.deg (i := i) (by rw [List.length_map]; exact hi)
    rw [pdGet h0] at this
    exact this
  have HW : Hid (∀ (w1 : World) (v1 : Value), OwnZ w1 w.heap.size v1 (degsZ ps) → ∃ g1 cap1, v1 = .slice (some ⟨g1, 0, none⟩) ps.length cap1 ∧ ∀ i, i < ps.length → w1.cell? ⟨g1, i, none⟩ = some (.int .i64 (degD (ps.map PKV.pd) i : Int))) := hide fun w1 v1 ho1 => by
    obtain ⟨g1, cap1, e1, -, -, hcw, -⟩ := ho1.at (by rw [degsZ_len]; exact h0)
    rw [degsZ_len] at hcw e1
    exact ⟨g1, cap1, e1, fun i hi => by rw [hcw i hi, degsZ_deg hi]⟩
  clear h hP
  generalize ps.map PKV.pd = L at *
  generalize ps.length = n at *
  go_enter Tryd.func28, Tryd.ntmps28
  go_wp2_with fail
  go_step3
  go_wp2_with fail
  refine (unhide HD).mono ?_
  rintro e w1 ⟨v1, rfl, ho1, hb1⟩
  obtain ⟨g1, cap1, rfl, hcz⟩ := unhide HW w1 v1 ho1
  obtain ⟨k0, k1⟩ := unhide HC w1 hb1
  obtain ⟨b, off, rfl, hcl⟩ := ((unhide HP).below hb1).at h0
  obtain ⟨-, -, hk, -, -, -, -⟩ := hcl 0 h0
  rw [Nat.zero_mul, Nat.add_zero] at hk
  have HB1 := hide hb1
  have HCZ := hide hcz
  have h0' : (0 : Int) < (n : Int) := by omega
  obtain ⟨hk0, hk1⟩ := unhide HL 0 h0
  obtain ⟨D, hD⟩ : ∃ D : Nat, (ps.getD 0 .dflt).k = (D : Int) := ⟨(ps.getD 0 .dflt).k.toNat, by omega⟩
  have hDb : D ≤ 128 := by omega
  have HL2 : Hid (∀ j, j < n → degD L j ≤ D) := hide fun j hj => by have := (unhide HL j hj).1; omega
  rw [hD] at hk
  clear hcl HD HC HP HL ho1 hb1 hcz hk0 hk1 hD HW
  go_wp2
  go_step3
  go_wp2
  go_loop [4, 5] (fun pl i => ∃ d : Nat, d ≤ 128 ∧ pl = .int .i64 0 ∧ i = .int .i64 d ∧ Hid (∀ j, j < n → degD L j ≤ d)) (fun _ i => (intOf i).toNat)
  case atStart => exact ⟨D, hDb, rfl, rfl, HL2⟩
  case round =>
    obtain ⟨d, hd, rfl, rfl, HLd⟩ := hrel
    clear HL2
    by_cases hd0 : 0 < d
    · have hd0' : (0 : Int) < (d : Int) := by omega
      go_wp2
      go_loop [4, 22] (fun pl i => ∃ k : Nat, k ≤ n ∧ pl = .int .i64 0 ∧ i = .int .i64 k ∧ Hid (∀ j, j < k → degD L j ≠ d)) (fun _ i => n - (intOf i).toNat)
      case atStart => exact ⟨0, Nat.zero_le _, rfl, rfl, hide (fun j hj => by omega)⟩
      case round =>
        obtain ⟨k, hkn, rfl, rfl, HN⟩ := hrel
        by_cases hlt : k < n
        · have hlt' : (k : Int) < (n : Int) := by omega
          have hc := unhide HCZ k hlt
          by_cases he : degD L k = d
          · have hde : ((degD L k : Int) == (d : Int)) = true := by rw [beq_iff_eq]; omega
            have HG : Hid (goesTo L n = k) := hide (goesTo_uniq hlt (fun j hj => by rw [he]; exact unhide HLd j hj) fun j hj => by
              have h1 := unhide HLd j (by omega)
              have h2 := unhide HN j hj
              omega)
            clear he HLd HN
            go_wp2
            (try rw [Exit.noGoto_ret])
            go_ret
            exact ⟨by rw [unhide HG]; rfl, unhide HB1⟩
          · have hde : ((degD L k : Int) == (d : Int)) = false := by rw [beq_eq_false_iff_ne]; omega
            have HN2 : Hid (∀ j, j < k + 1 → degD L j ≠ d) := hide fun j hj => by
              by_cases e : j = k
              · rw [e]; exact he
              · exact unhide HN j (by omega)
            clear he HN
            go_wp2
            go_round
            case rel => exact ⟨k + 1, by omega, rfl, by go_num, HN2⟩
            case measure => simp [intOf]; omega
        · have HL3 : Hid (∀ j, j < n → degD L j ≤ d - 1) := hide fun j hj => by
            have h1 := unhide HLd j hj
            have h2 := unhide HN j (by omega)
            omega
          clear HLd HN
          go_wp2
          go_round
          case rel => exact ⟨d - 1, by omega, rfl, by go_num, HL3⟩
          case measure => simp [intOf]; omega
    · obtain rfl : d = 0 := by omega
      have HG : Hid (goesTo L n = 0) := hide (goesTo_uniq h0 (fun j hj => by have := unhide HLd j hj; omega) fun j hj => by omega)
      clear HLd
      go_wp2
      (try rw [Exit.noGoto_ret])
      go_ret
      exact ⟨by rw [unhide HG]; rfl, unhide HB1⟩
end Go.Proofs.YtbppanebpfpioaaDoor
