/-
  Contract of bucketlinelaw06.awake: in every world it tells true. The walks of NumsPuts, NumsGets, NumsVecs.
-/
import Derived.Test.YtkhillhingpalaaNV
namespace Go.Proofs.Ytkhillhingpalaa
open Go.RowKit
set_option linter.unusedVariables false

theorem v5_yes : ValidP 3 [5] := by
  refine ⟨by decide, by decide, fun i hi => ?_⟩
  by_cases h : 64 ≤ i
  · exact getB_out _ _ (by simpa using h)
  · have : ∀ j : Fin 64, 3 ≤ j.val → getB [5] j.val = false := by decide
    exact this ⟨i, by omega⟩ hi
theorem v5_no : ¬ ValidP 2 [5] := fun h => by
  have := h.2.2 2 (by decide)
  revert this
  decide
theorem got5_yes : GotP ⟨#[0, 0, 0, 0, 0, 0, 0, 5]⟩ 3 [5] 0 :=
  .inr (.inr (.inr ⟨by decide, by decide, by rw [show wsL (tx ⟨#[0, 0, 0, 0, 0, 0, 0, 5]⟩) (sizeOfK 3) = [5] by decide +kernel]; exact v5_yes, rfl, by decide +kernel⟩))
theorem got5_no : GotP ⟨#[0, 0, 0, 0, 0, 0, 0, 5]⟩ 2 [] 3 :=
  .inr (.inr (.inl ⟨by decide, by decide, by rw [show wsL (tx ⟨#[0, 0, 0, 0, 0, 0, 0, 5]⟩) (sizeOfK 2) = [5] by decide +kernel]; exact v5_no, rfl, rfl⟩))
theorem y_put : st (putL 258 2) = ⟨#[1, 2]⟩ := by decide +kernel
theorem y_vec : st (beV [5]) = ⟨#[0, 0, 0, 0, 0, 0, 0, 5]⟩ := by decide +kernel
theorem y_get : gN ⟨#[1, 2, 3]⟩ 2 = 258 ∧ gE ⟨#[1, 2, 3]⟩ 2 = 0 := by decide +kernel
theorem y_arg : gN ⟨#[]⟩ 3 = 0 ∧ gE ⟨#[]⟩ 3 = 1 := by decide +kernel
theorem y_size : gN ⟨#[]⟩ 1 = 0 ∧ gE ⟨#[]⟩ 1 = 2 := by decide +kernel
theorem q_eq (s : ByteArray) : (s.toList == s.toList) = true := by simp

set_option maxHeartbeats 2000000 in
theorem awake_any (w : World) :
    Calls Try.prog 12 #[] w fun e w' => e = .returned (.bool true) ∧ Below w.heap.size w w' := by
  have K1 := hide (fun w' => get_num_any ⟨#[1, 2, 3]⟩ 2 w')
  rw [y_get.1, y_get.2] at K1
  have K2 := hide (fun w' => get_num_any ⟨#[]⟩ 3 w')
  rw [y_arg.1, y_arg.2] at K2
  have K3 := hide (fun w' => get_num_any ⟨#[]⟩ 1 w')
  rw [y_size.1, y_size.2] at K3
  have K4 := hide (fun w' => getvec_any ⟨#[0, 0, 0, 0, 0, 0, 0, 5]⟩ 3 w' (by decide))
  have K5 := hide (fun w' => getvec_any ⟨#[0, 0, 0, 0, 0, 0, 0, 5]⟩ 2 w' (by decide))
  have K6 := hide (fun w' => put_any 258 2 w')
  rw [y_put] at K6
  have q1 := q_eq ⟨#[1, 2]⟩
  have q2 := q_eq ⟨#[0, 0, 0, 0, 0, 0, 0, 5]⟩
  go_enter Try.func12, Try.ntmps12
  go_wp2_with fail
  refine (unhide K1 _).mono ?_
  rintro e w' ⟨rfl, hw⟩
  obtain rfl := hw.symm
  go_wp2_with fail
  refine (unhide K2 _).mono ?_
  rintro e w' ⟨rfl, hw⟩
  obtain rfl := hw.symm
  go_wp2_with fail
  refine (unhide K3 _).mono ?_
  rintro e w' ⟨rfl, hw⟩
  obtain rfl := hw.symm
  go_wp2_with fail
  refine (unhide K4 _).mono ?_
  rintro e w1 ⟨v, xs, en, rfl, ho1, hg, hb1⟩
  obtain ⟨rfl, rfl⟩ := hg.uniq got5_yes
  obtain ⟨a1, c1, rfl, hr⟩ := ho1.row
  have HR1 := hide hr
  have B1 := hide hb1
  clear hg ho1 hr hb1
  go_wp2_with fail
  refine (unhide K5 _).mono ?_
  rintro e w2 ⟨v2, xs2, en2, rfl, ho2, hg, hb2⟩
  obtain ⟨rfl, rfl⟩ := hg.uniq got5_no
  obtain ⟨a2, c2, rfl, -⟩ := ho2.row
  have HR2 := hide ((unhide HR1).below hb2)
  have B2 := hide (below0 (unhide B1) hb2)
  clear hg ho2 hb2 B1 HR1
  go_wp2_with fail
  refine (unhide K6 _).mono ?_
  rintro e w3 ⟨rfl, hb3⟩
  have HR3 := hide ((unhide HR2).below hb3)
  have B3 := hide (below0 (unhide B2) hb3)
  clear hb3 B2 HR2
  go_wp2_with fail
  have hr1 := row_alloc (unhide HR3) (.cells #[.int .u64 ((5 : Nat) : Int)] 44)
  have hr2 := row_new1 w3 5 (by decide)
  refine (rwords_any _ _ _ _ _ _ _ _ _ hr1 hr2 (by simp) (by omega) rfl).mono ?_
  rintro e w4 ⟨rfl, hb⟩
  have B4 := hide (below1 (unhide B3) hb)
  clear hr1 hr2 hb B3 HR3
  go_wp2_with fail
  have hp := putvec_any _ 1 1 [5] _ (row_new1 w4 5 (by decide)) (by decide)
  rw [y_vec] at hp
  refine hp.mono ?_
  rintro e w5 ⟨rfl, hb⟩
  have B5 := hide (below1 (unhide B4) hb)
  clear hb B4 hp
  go_wp2
  go_ret
  exact ⟨rfl, unhide B5⟩
end Go.Proofs.Ytkhillhingpalaa
