/-
  Contract of bucketlinelaw22.few; the chapter's example (awake); the walk of QueueNone. No condition.
-/
import Derived.Test.YtongbbianelfmaaQuC
namespace Go.Proofs.Ytongbbianelfmaa
open Go.RowKit Go.Conc
set_option linter.unusedVariables false
set_option maxRecDepth 4000

/-- Texts that are not too many nor too long. -/
def FewQ (ss : List ByteArray) : Prop := ss.length ≤ 600 ∧ ∀ i, (ss.getD i ByteArray.empty).size ≤ 1000
/-- A bool that tells it, behind a name. -/
def RetQ (e : Ending) (P : Prop) : Prop := ∃ b : Bool, e = .returned (.bool b) ∧ (b = true ↔ P)
set_option maxHeartbeats 400000 in
theorem few22_any (a : Option Addr) (n c : Nat) (ss : List ByteArray) (w : World) (h : TextsAt w a n ss) (hn : n ≤ 9223372036854775807) :
    Calls Try.prog 8 #[.slice a n c] w fun e w' => RetQ e (FewQ ss) ∧ w' = w := by
  obtain rfl := h.1
  by_cases h3 : 600 < ss.length
  · have hd : decide (600 < (ss.length : Int)) = true := by simp; omega
    clear h
    go_enter Try.func8, Try.ntmps8
    go_wp2
    go_ret
    exact ⟨⟨false, rfl, by constructor; (intro h; cases h); (intro h; have := h.1; omega)⟩, rfl⟩
  · have hd : decide (600 < (ss.length : Int)) = false := by simp; omega
    go_enter Try.func8, Try.ntmps8
    go_wp2
    go_loop [3] (fun i => ∃ k : Nat, k ≤ ss.length ∧ i = .int .i64 k ∧ Hid (∀ j, j < k → (ss.getD j ByteArray.empty).size ≤ 1000)) (fun i => ss.length - (intOf i).toNat)
    case atStart => exact ⟨0, Nat.zero_le _, rfl, hide (fun j hj => by omega)⟩
    case round =>
      obtain ⟨k, hk, rfl, HZ⟩ := hrel
      by_cases hlt : k < ss.length
      · obtain ⟨b, off, rfl, hc⟩ := h.at hlt
        have hcell := hc k hlt
        have hlt' : (k : Int) < (ss.length : Int) := by omega
        clear hc h
        by_cases h1 : 1000 < (ss.getD k ByteArray.empty).size
        · have hd1 : decide (1000 < ((ss.getD k ByteArray.empty).size : Int)) = true := by simp only [decide_eq_true_eq]; omega
          have HF : Hid (¬ FewQ ss) := hide (fun h => by have := h.2 k; omega)
          generalize ss.getD k ByteArray.empty = x at *
          go_wp2
          go_ret
          exact ⟨⟨false, rfl, by constructor; (intro h; cases h); (intro h; exact absurd h (unhide HF))⟩, rfl⟩
        · have hd1 : decide (1000 < ((ss.getD k ByteArray.empty).size : Int)) = false := by simp only [decide_eq_false_iff_not]; omega
          have HS := hide (show ∀ j, j < k + 1 → (ss.getD j ByteArray.empty).size ≤ 1000 from fun j hj => by
            by_cases e : j = k
            · rw [e]; omega
            · exact unhide HZ j (by omega))
          generalize ss.getD k ByteArray.empty = x at *
          clear HZ
          go_wp2
          go_round
          case rel => exact ⟨k + 1, by omega, by go_num, HS⟩
          case measure => simp [intOf]; omega
      · have HF : Hid (FewQ ss) := hide ⟨by omega, fun i => by
          by_cases hi : i < k
          · exact unhide HZ i hi
          · rw [List.getD_eq_getElem?_getD, List.getElem?_eq_none (by omega)]; simp⟩
        clear h HZ
        go_wp2
        go_ret
        exact ⟨⟨true, rfl, by constructor; (intro _; exact unhide HF); (intro _; rfl)⟩, rfl⟩
/-- What few tells. -/
theorem few22_yes (a : Option Addr) (n c : Nat) (ss : List ByteArray) (w : World) (h : TextsAt w a n ss) (hn : n ≤ 9223372036854775807) (hf : FewQ ss) :
    Calls Try.prog 8 #[.slice a n c] w fun e w' => e = .returned (.bool true) ∧ w' = w :=
  (few22_any a n c ss w h hn).mono fun e w' ⟨⟨b, he, hb⟩, hw⟩ => ⟨by rw [he, hb.2 hf], hw⟩
theorem few22_no (a : Option Addr) (n c : Nat) (ss : List ByteArray) (w : World) (h : TextsAt w a n ss) (hn : n ≤ 9223372036854775807) (hf : ¬ FewQ ss) :
    Calls Try.prog 8 #[.slice a n c] w fun e w' => e = .returned (.bool false) ∧ w' = w :=
  (few22_any a n c ss w h hn).mono fun e w' ⟨⟨b, he, hb⟩, hw⟩ => ⟨by
    rw [he]
    cases b with
    | false => rfl
    | true => exact absurd (hb.1 rfl) hf, hw⟩
set_option maxHeartbeats 4000000 in
theorem awake_any (w : World) : Calls Try.prog 9 #[] w fun e w' => e = .returned (.bool true) ∧ Below w.heap.size w w' := by
  have HN := hide (qunew_any 1 w)
  rw [show capN 1 = 1 by decide] at HN
  have HP1 := hide (fun g c wx (h : QuAt wx g c 1 [] 0) => quput_yes g c 1 0 [] ⟨#[97]⟩ wx h (by decide) (by decide))
  have HP2 := hide (fun g c wx (h : QuAt wx g c 1 [⟨#[97]⟩] 0) => quput_no g c 1 0 [⟨#[97]⟩] ⟨#[98]⟩ wx h (by decide) (by decide) (by decide))
  have HT1 := hide (fun g c wx (h : QuAt wx g c 1 [⟨#[97]⟩] 1) => qutake_yes g c 1 1 ⟨#[97]⟩ [] wx h)
  have HT2 := hide (fun g c wx (h : QuAt wx g c 1 [] 1) => qutake_no g c 1 1 wx h)
  have HL1 := hide (fun g c wx (h : QuAt wx g c 1 [⟨#[97]⟩] 1) => qulen_any g c 1 1 [⟨#[97]⟩] wx h)
  have HL2 := hide (fun g c wx (h : QuAt wx g c 1 [] 1) => qulen_any g c 1 1 [] wx h)
  have HO := hide (fun g c wx (h : QuAt wx g c 1 [⟨#[97]⟩] 1) => qulost_any g c 1 1 [⟨#[97]⟩] wx h)
  go_enter Try.func9, Try.ntmps9
  go_wp2_with (first
    | (go_at_call 10; refine (unhide HN).mono ?_; rintro e w1 ⟨g, c, rfl, hg, hc, hm1, hb1⟩; have HM := hide hm1; have HB := hide hb1; have HG := hide hg; have HC := hide hc; clear hm1 hb1 hg hc)
    | (go_at_call 15; refine (unhide HP1 _ _ _ (unhide HM)).mono ?_; rintro e w2 ⟨rfl, hm2, ht2⟩; have HM := hide hm2; have HB := hide (tu_lowQ (unhide HB) ht2 (unhide HG) (unhide HC)); clear hm2 ht2 HP1)
    | (go_at_call 15; refine (unhide HP2 _ _ _ (unhide HM)).mono ?_; rintro e w2 ⟨rfl, hm2, ht2⟩; have HM := hide hm2; have HB := hide (tu_lowQ (unhide HB) ht2 (unhide HG) (unhide HC)); clear hm2 ht2 HP2)
    | (go_at_call 13; refine (unhide HT1 _ _ _ (unhide HM)).mono ?_; rintro e w2 ⟨rfl, hm2, ht2⟩; have HM := hide hm2; have HB := hide (tu_lowQ (unhide HB) ht2 (unhide HG) (unhide HC)); clear hm2 ht2 HT1)
    | (go_at_call 13; refine (unhide HT2 _ _ _ (unhide HM)).mono ?_; rintro e w2 ⟨rfl, hw2⟩; obtain rfl := hw2.symm; clear hw2)
    | (go_at_call 16; refine (unhide HL1 _ _ _ (unhide HM)).mono ?_; rintro e w2 ⟨rfl, hw2⟩; obtain rfl := hw2.symm; clear hw2)
    | (go_at_call 16; refine (unhide HL2 _ _ _ (unhide HM)).mono ?_; rintro e w2 ⟨rfl, hw2⟩; obtain rfl := hw2.symm; clear hw2)
    | (go_at_call 17; refine (unhide HO _ _ _ (unhide HM)).mono ?_; rintro e w2 ⟨rfl, hw2⟩; obtain rfl := hw2.symm; clear hw2)
    | fail)
  go_ret
  exact ⟨rfl, unhide HB⟩
set_option maxHeartbeats 1000000 in
theorem qunone_walk (s : ByteArray) (w : World) : Calls Try.prog 6 #[.string s] w fun e w' => e = .returned (.bool true) ∧ Below w.heap.size w w' := by
  have HA := hide (awake_any w)
  go_enter Try.func6, Try.ntmps6
  go_wp2_with (first
    | (go_at_call 18; refine (quclear_nil _).mono ?_; rintro e w1 ⟨rfl, hw1⟩; obtain rfl := hw1.symm; clear hw1)
    | (go_at_call 13; refine (qutake_nil _).mono ?_; rintro e w1 ⟨rfl, hw1⟩; obtain rfl := hw1.symm; clear hw1)
    | (go_at_call 15; refine (quput_nil _ _).mono ?_; rintro e w1 ⟨rfl, hw1⟩; obtain rfl := hw1.symm; clear hw1)
    | (go_at_call 16; refine (qulen_nil _).mono ?_; rintro e w1 ⟨rfl, hw1⟩; obtain rfl := hw1.symm; clear hw1)
    | (go_at_call 17; refine (qulost_nil _).mono ?_; rintro e w1 ⟨rfl, hw1⟩; obtain rfl := hw1.symm; clear hw1)
    | (go_at_call 9; refine (unhide HA).mono ?_; rintro e w1 ⟨rfl, hb1⟩; have HB := hide hb1; clear hb1)
    | fail)
  go_ret
  exact ⟨rfl, unhide HB⟩
end Go.Proofs.Ytongbbianelfmaa
