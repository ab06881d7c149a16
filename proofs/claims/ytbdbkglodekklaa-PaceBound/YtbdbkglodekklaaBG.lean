/-
  The chapter's examples (awake); the walk of PaceNone. No condition.
-/
import Derived.Test.YtbdbkglodekklaaBE
import Derived.Test.YtbdbkglodekklaaBC
namespace Go.Proofs.Ytbdbkglodekklaa
open Go.RowKit
set_option linter.unusedVariables false
set_option maxRecDepth 4000

theorem pcnew_ex (m k : Int) (w : World) :
    Calls Try.prog 10 #[.int .i64 m, .int .i64 k] w fun e w' => ∃ g, e = .returned (.pointer (some ⟨g, 0, none⟩)) ∧ w.heap.size ≤ g ∧ BtAt w' g (wiZ m 0 1000000) (1000 * wiZ k 1 256) (1000 * wiZ k 1 256) ∧ Below w.heap.size w w' :=
  (pcnew_any m k w).mono fun e w' ⟨h1, h2, h3⟩ => ⟨_, h1, Nat.le_refl _, h2, h3⟩
set_option maxHeartbeats 4000000 in
theorem awake_any (w : World) : Calls Try.prog 9 #[] w fun e w' => e = .returned (.bool true) ∧ Below w.heap.size w w' := by
  have m1 : milZ 4602678819172646912 = 500 := by decide
  have m2 : milZ 13830554455654793216 = 0 := by decide
  have m3 : milZ 4656510908468559872 = 1000000 := by decide
  have HN := hide (pcnew_any 500 1 w)
  rw [show wiZ 500 0 1000000 = 500 by decide, show 1000 * wiZ 1 1 256 = 1000 by decide] at HN
  have HT1 := hide (fun wx (h : BtAt wx w.heap.size 500 1000 1000) => pctake_yes _ _ _ _ wx h (by decide))
  have HT2 := hide (fun wx (h : BtAt wx w.heap.size 500 1000 0) => pctake_no _ _ _ _ wx h (by decide))
  have HT3 := hide (fun wx (h : BtAt wx w.heap.size 500 1000 500) => pctake_no _ _ _ _ wx h (by decide))
  have HK1 := hide (fun wx (h : BtAt wx w.heap.size 500 1000 0) => pctick_any _ _ _ _ 1 wx h)
  rw [show tickL 500 1000 0 1 = 500 by decide] at HK1
  have HK2 := hide (fun wx (h : BtAt wx w.heap.size 500 1000 500) => pctick_any _ _ _ _ 1 wx h)
  rw [show tickL 500 1000 500 1 = 1000 by decide] at HK2
  rw [show (1000 : Int) - 1000 = 0 by decide] at HT1
  go_enter Try.func9, Try.ntmps9
  go_wp2_with (first
    | (go_at_call 10; refine (unhide HN).mono ?_; rintro e w1 ⟨rfl, hm1, hb1⟩; have HM := hide hm1; have HB := hide hb1; clear hm1 hb1)
    | (go_at_call 13; refine (unhide HT1 _ (unhide HM)).mono ?_; rintro e w2 ⟨rfl, hm2, ht2⟩; have HM := hide hm2; have HB := hide (tu_low (unhide HB) ht2 (Nat.le_refl _)); clear hm2 ht2)
    | (go_at_call 13; refine (unhide HT2 _ (unhide HM)).mono ?_; rintro e w2 ⟨rfl, hw2⟩; obtain rfl := hw2.symm; clear hw2)
    | (go_at_call 13; refine (unhide HT3 _ (unhide HM)).mono ?_; rintro e w2 ⟨rfl, hw2⟩; obtain rfl := hw2.symm; clear hw2)
    | (go_at_call 14; refine (unhide HK1 _ (unhide HM)).mono ?_; rintro e w2 ⟨rfl, hm2, ht2⟩; have HM := hide hm2; have HB := hide (tu_low (unhide HB) ht2 (Nat.le_refl _)); clear hm2 ht2)
    | (go_at_call 14; refine (unhide HK2 _ (unhide HM)).mono ?_; rintro e w2 ⟨rfl, hm2, ht2⟩; have HM := hide hm2; have HB := hide (tu_low (unhide HB) ht2 (Nat.le_refl _)); clear hm2 ht2)
    | (go_at_call 16; refine (pclevel_any _ _ _ _ _ (unhide HM)).mono ?_; rintro e w2 ⟨rfl, hw2⟩; obtain rfl := hw2.symm; clear hw2)
    | (go_at_call 8; refine (milli_any _ (by decide) _).mono ?_; rintro e w2 ⟨rfl, hw2⟩; obtain rfl := hw2.symm; clear hw2; first | rw [m1] | rw [m2] | rw [m3])
    | fail)
  go_ret
  exact ⟨rfl, unhide HB⟩
set_option maxHeartbeats 1000000 in
theorem pcnone_walk (n : Int) (w : World) : Calls Try.prog 7 #[.int .i64 n] w fun e w' => e = .returned (.bool true) ∧ Below w.heap.size w w' := by
  have HA := hide (awake_any w)
  go_enter Try.func7, Try.ntmps7
  go_wp2_with (first
    | (go_at_call 14; refine (pctick_nil _ _).mono ?_; rintro e w1 ⟨rfl, hw1⟩; obtain rfl := hw1.symm; clear hw1)
    | (go_at_call 13; refine (pctake_nil _).mono ?_; rintro e w1 ⟨rfl, hw1⟩; obtain rfl := hw1.symm; clear hw1)
    | (go_at_call 16; refine (pclevel_nil _).mono ?_; rintro e w1 ⟨rfl, hw1⟩; obtain rfl := hw1.symm; clear hw1)
    | (go_at_call 9; refine (unhide HA).mono ?_; rintro e w1 ⟨rfl, hb1⟩; have HB := hide hb1; clear hb1)
    | fail)
  go_ret
  exact ⟨rfl, unhide HB⟩
end Go.Proofs.Ytbdbkglodekklaa
