/-
  bucketlinelaw09.awake, and the walks of the five laws: for every input.
-/
import Derived.Test.YtmegeoiilpciiaaTJ
namespace Go.Proofs.Ytmegeoiilpciiaa
open Go.RowKit
set_option linter.unusedVariables false
set_option maxRecDepth 4000

def abc : ByteArray := ⟨#[97, 98, 99]⟩
def abL : List ByteArray := [⟨#[97, 98]⟩, ⟨#[99, 0]⟩]
theorem abc_kc : kc abc.size 2 = 2 := by decide
theorem abc_blocks : blocksL (tx abc) 2 2 = abL := by rfl
theorem abc_join : st ((joinL abL).take 3) = abc := by rfl
theorem plan_0 : planK 0 5 = 1 ∧ planE 0 5 = 0 := by decide
theorem plan_8193 : planK 8193 64 = 0 ∧ planE 8193 64 = 2 := by decide

set_option maxHeartbeats 1000000 in
theorem awake_any (w : World) : Calls Try.prog 10 #[] w fun e w' => e = .returned (.bool true) ∧ Below w.heap.size w w' := by
  have h1 := fun wx => split_yes abc 2 wx (by decide) (by decide) (by rw [abc_kc]; decide)
  rw [abc_kc, abc_blocks] at h1
  have H1 := hide h1
  have H3 := hide (fun wx => plan_any 0 5 wx (by decide))
  rw [plan_0.1, plan_0.2] at H3
  have H4 := hide (fun wx => plan_any 8193 64 wx (by decide))
  rw [plan_8193.1, plan_8193.2] at H4
  unfold abc at H1
  clear h1
  go_enter Try.func10, Try.ntmps10
  go_wp2_with fail
  refine (unhide H1 _).mono ?_
  rintro e w1 ⟨v, rfl, ho, hb1⟩
  obtain ⟨a, c, hv, ht⟩ := ho.texts
  change _ = Value.slice a 2 c at hv
  change TextsAt w1 a 2 abL at ht
  subst hv
  have HT := hide ht
  have HB1 := hide hb1
  clear ho ht hb1 H1
  go_wp2_with fail
  have h2 := join_yes a 2 c abL 3 w1 (unhide HT) (by decide) (by decide) (by decide)
  rw [abc_join] at h2
  refine h2.mono ?_
  rintro e w2 ⟨rfl, hb2⟩
  have HT2 := hide ((unhide HT).below hb2)
  have HB2 := hide (below0 (unhide HB1) hb2)
  clear h2 hb2 HT HB1
  unfold abc
  go_wp2_with fail
  refine (unhide H3 _).mono ?_
  rintro e w3 ⟨rfl, hw⟩
  obtain rfl := hw.symm
  clear hw
  go_wp2_with fail
  refine (unhide H4 _).mono ?_
  rintro e w4 ⟨rfl, hw⟩
  obtain rfl := hw.symm
  clear hw
  go_wp2_with fail
  refine (join_no a 2 c abL 5 _ (unhide HT2) (by decide) (by decide) (by decide)).mono ?_
  rintro e w5 ⟨rfl, hw⟩
  obtain rfl := hw.symm
  clear hw
  go_wp2_with fail
  refine (texts_any a 2 c abL _ 2 2 abL _ ((unhide HT2).below ((Below.refl _ _).alloc (Nat.le_refl _) _)) (texts_lit2 _ _ _) (by decide) (by decide)).mono ?_
  rw [decide_eq_true rfl]
  rintro e w6 ⟨rfl, d, hw⟩
  have HB6 := hide (show Below w.heap.size w w6 by rw [hw]; exact below_drewN ((unhide HB2).alloc (unhide HB2).size _) d)
  clear hw HT2
  go_wp2
  go_ret
  exact ⟨rfl, unhide HB6⟩
end Go.Proofs.Ytmegeoiilpciiaa
