/-
  The walk of QueueBound: never more wait than may; how many wait and how many were lost are told, at every step. No condition.
-/
import Derived.Test.YtongbbianelfmaaQuD
namespace Go.Proofs.Ytongbbianelfmaa
open Go.RowKit Go.Conc
set_option linter.unusedVariables false
set_option maxRecDepth 4000

/-- A queue of the call's own. -/
structure QuJ (w wr : World) (g c m : Nat) (L : List ByteArray) (lo : Nat) : Prop where
  qu : QuAt wr g c m L lo
  low : Below w.heap.size w wr
  lg : w.heap.size ≤ g
  lc : w.heap.size ≤ c
theorem QuJ.tu {w wr wx : World} {g c m lo lo' : Nat} {L L' : List ByteArray} (h : QuJ w wr g c m L lo) (hq : QuAt wx g c m L' lo') (ht : Tu (quF g c) wr wx) : QuJ w wx g c m L' lo' :=
  ⟨hq, tu_lowQ h.low ht h.lg h.lc, h.lg, h.lc⟩
theorem QuJ.below {w wr wx : World} {g c m lo : Nat} {L : List ByteArray} (h : QuJ w wr g c m L lo) (hb : Below wr.heap.size wr wx) : QuJ w wx g c m L lo :=
  ⟨h.qu.below hb, below0 h.low hb, h.lg, h.lc⟩
theorem qulen_is (g c m lo k : Nat) (L : List ByteArray) (w : World) (h : QuAt w g c m L lo) (hk : L.length = k) : Calls Try.prog 16 #[.pointer (some ⟨g, 0, none⟩)] w fun e w' => e = .returned (.int .i64 (k : Int)) ∧ w' = w := by
  subst hk
  exact qulen_any g c m lo L w h
theorem qulost_is (g c m lo k : Nat) (L : List ByteArray) (w : World) (h : QuAt w g c m L lo) (hk : lo = k) : Calls Try.prog 17 #[.pointer (some ⟨g, 0, none⟩)] w fun e w' => e = .returned (.int .i64 (k : Int)) ∧ w' = w := by
  subst hk
  exact qulost_any g c m lo L w h
theorem FewQ.at {ss : List ByteArray} (h : FewQ ss) (i : Nat) : (ss.getD i ByteArray.empty).size ≤ 1048576 := by have := h.2 i; omega
set_option maxHeartbeats 8000000 in
theorem qubound_walk (most : Int) (a : Option Addr) (n cp : Nat) (ss : List ByteArray) (w : World) (h : TextsAt w a n ss) (hn : n ≤ 9223372036854775807) :
    Calls Try.prog 7 #[.int .i64 most, .slice a n cp] w fun e w' => e = .returned (.bool true) ∧ Below w.heap.size w w' := by
  by_cases hf : FewQ ss
  case neg =>
    have HF := hide (few22_no a n cp ss w h hn hf)
    clear h hf
    go_enter Try.func7, Try.ntmps7
    go_wp2_with (first
      | (go_at_call 8; refine (unhide HF).mono ?_; rintro e w1 ⟨rfl, hw1⟩; obtain rfl := hw1.symm; clear hw1)
      | (go_at_call 9; refine (awake_any _).mono ?_; rintro e w1 ⟨rfl, hb1⟩; have HB := hide hb1; clear hb1)
      | fail)
    go_ret
    exact ⟨rfl, unhide HB⟩
  have HF := hide (few22_yes a n cp ss w h hn hf)
  have hl : n ≤ 600 := by have := hf.1; rw [h.1] at this; exact this
  have HW := hide hf
  have HH := hide h
  have HN := hide (qunew_any most w)
  have hcm := max_run most
  have hcr := cap_run most
  have hm := capN_le most
  generalize capN most = m at *
  clear h hf hn
  go_enter Try.func7, Try.ntmps7
  go_wp2_with (first
    | (go_at_call 8; refine (unhide HF).mono ?_; rintro e w1 ⟨rfl, hw1⟩; obtain rfl := hw1.symm; clear hw1)
    | (go_at_call 10; refine (unhide HN).mono ?_; rintro e w1 ⟨g, c, rfl, hg, hc, hm1, hb1⟩; have HJ0 := hide (show QuJ w w1 g c m [] 0 from ⟨hm1, hb1, hg, hc⟩); clear hm1 hb1 hg hc HN)
    | fail)
  clear HF
  go_loopw [6, 7, 8] (fun u v i wr => ∃ (j t lo : Nat) (L : List ByteArray), j ≤ n ∧ u = .int .i64 t ∧ v = .int .i64 lo ∧ i = .int .i64 j ∧ lo ≤ j ∧ t ≤ m ∧ Hid (L.length = t) ∧ Hid (QuJ w wr g c m L lo)) (fun _ _ i _ => n - (intOf i).toNat)
  case atStart => exact ⟨0, 0, 0, [], Nat.zero_le _, rfl, rfl, rfl, Nat.le_refl _, Nat.zero_le _, hide rfl, HJ0⟩
  case round =>
    obtain ⟨j, t, lo, L, hj, rfl, rfl, rfl, hlo, htm, HL, HJ⟩ := hrel
    clear HJ0
    by_cases hlt : j < n
    case neg =>
      obtain rfl : j = n := by omega
      go_wp2_with (first
        | (go_at_call 9; refine (awake_any _).mono ?_; rintro e w9 ⟨rfl, hb9⟩; have HB := hide (below0 (unhide HJ).low hb9); clear hb9)
        | fail)
      go_ret
      exact ⟨rfl, unhide HB⟩
    have hlt' : (j : Int) < (n : Int) := by omega
    obtain ⟨b, off, rfl, hc⟩ := (unhide HH).at hlt
    have c0 := ((unhide HJ).low.cell (World.block_lt_of_cell? w _ (hc j hlt))).trans (hc j hlt)
    have HC := hide (fun wx (hx : Below w.heap.size w wx) => (hx.cell (World.block_lt_of_cell? w _ (hc j hlt))).trans (hc j hlt))
    have HX := hide ((unhide HW).at j)
    clear hc HH HW
    generalize ss.getD j ByteArray.empty = x at *
    obtain ⟨y, hy⟩ : ∃ y : Int, bits .and .i64 (x.size : Int) 1 = y := ⟨_, rfl⟩
    by_cases hy1 : y = 1
    case neg =>
      have e1 : (y == 1) = false := by rw [beq_eq_false_iff_ne]; exact hy1
      by_cases hr : t < m
      case pos =>
        have d1 : decide ((t : Int) + 1 < 0) = false := decide_eq_false (by omega)
        have d2 : decide ((m : Int) < (t : Int) + 1) = false := decide_eq_false (by omega)
        have HP := hide (fun wx (h : QuAt wx g c m L lo) => quput_yes g c m lo L x wx h (unhide HX) (by rw [unhide HL]; exact hr))
        have HL2 := hide (show (L ++ [x]).length = t + 1 by rw [List.length_append, unhide HL]; rfl)
        generalize L ++ [x] = L2 at *
        have HJ4 := HJ
        go_wp2_with (first
          | (go_at_call 15; refine (unhide HP _ (unhide HJ4).qu).mono ?_; rintro e w5 ⟨rfl, hm5, ht5⟩; have HJ5 := hide ((unhide HJ4).tu hm5 ht5); clear hm5 ht5)
          | (go_at_call 16; refine (qulen_is _ _ _ _ (t + 1) _ _ (unhide HJ5).qu (unhide HL2)).mono ?_; rintro e w6 ⟨rfl, hw6⟩; obtain rfl := hw6.symm; clear hw6)
          | (go_at_call 17; refine (qulost_is _ _ _ _ (lo) _ _ (unhide HJ5).qu rfl).mono ?_; rintro e w6 ⟨rfl, hw6⟩; obtain rfl := hw6.symm; clear hw6)
          | fail)
        go_roundw
        case rel => exact ⟨j + 1, t + 1, lo, L2, by omega, by go_num, by go_num, by go_num, by omega, by omega, HL2, HJ5⟩
        case measure => simp [intOf]; omega
      case neg =>
        have hr : m ≤ t := by omega
        have d1 : decide ((t : Int) < 0) = false := decide_eq_false (by omega)
        have d2 : decide ((m : Int) < (t : Int)) = false := decide_eq_false (by omega)
        have HP := hide (fun wx (h : QuAt wx g c m L lo) => quput_no g c m lo L x wx h (unhide HX) (by rw [unhide HL]; exact hr) (by omega))
        have HL2 := HL
        have HJ4 := HJ
        go_wp2_with (first
          | (go_at_call 15; refine (unhide HP _ (unhide HJ4).qu).mono ?_; rintro e w5 ⟨rfl, hm5, ht5⟩; have HJ5 := hide ((unhide HJ4).tu hm5 ht5); clear hm5 ht5)
          | (go_at_call 16; refine (qulen_is _ _ _ _ (t) _ _ (unhide HJ5).qu (unhide HL2)).mono ?_; rintro e w6 ⟨rfl, hw6⟩; obtain rfl := hw6.symm; clear hw6)
          | (go_at_call 17; refine (qulost_is _ _ _ _ (lo + 1) _ _ (unhide HJ5).qu rfl).mono ?_; rintro e w6 ⟨rfl, hw6⟩; obtain rfl := hw6.symm; clear hw6)
          | fail)
        go_roundw
        case rel => exact ⟨j + 1, t, lo + 1, L, by omega, by go_num, by go_num, by go_num, by omega, by omega, HL2, HJ5⟩
        case measure => simp [intOf]; omega
    subst hy1
    cases L with
    | nil =>
      obtain rfl : t = 0 := (unhide HL).symm
      by_cases hr : 0 < m
      case pos =>
        have d1 : decide ((0 : Int) + 1 < 0) = false := decide_eq_false (by omega)
        have d2 : decide ((m : Int) < (0 : Int) + 1) = false := decide_eq_false (by omega)
        have HP := hide (fun wx (h : QuAt wx g c m [] lo) => quput_yes g c m lo [] x wx h (unhide HX) (by rw [unhide HL]; exact hr))
        have HL2 := hide (show ([] ++ [x]).length = 0 + 1 by rw [List.length_append, unhide HL]; rfl)
        generalize [] ++ [x] = L2 at *
        go_wp2_with (first
          | (go_at_call 13; refine (qutake_no _ _ _ _ _ (unhide HJ).qu).mono ?_; rintro e w4 ⟨rfl, hw4⟩; obtain rfl := hw4.symm; clear hw4; have HJ4 := HJ)
          | (go_at_call 15; refine (unhide HP _ (unhide HJ4).qu).mono ?_; rintro e w5 ⟨rfl, hm5, ht5⟩; have HJ5 := hide ((unhide HJ4).tu hm5 ht5); clear hm5 ht5)
          | (go_at_call 16; refine (qulen_is _ _ _ _ (0 + 1) _ _ (unhide HJ5).qu (unhide HL2)).mono ?_; rintro e w6 ⟨rfl, hw6⟩; obtain rfl := hw6.symm; clear hw6)
          | (go_at_call 17; refine (qulost_is _ _ _ _ (lo) _ _ (unhide HJ5).qu rfl).mono ?_; rintro e w6 ⟨rfl, hw6⟩; obtain rfl := hw6.symm; clear hw6)
          | fail)
        go_roundw
        case rel => exact ⟨j + 1, 0 + 1, lo, L2, by omega, by go_num, by go_num, by go_num, by omega, by omega, HL2, HJ5⟩
        case measure => simp [intOf]; omega
      case neg =>
        have hr : m ≤ 0 := by omega
        have d1 : decide ((0 : Int) < 0) = false := decide_eq_false (by omega)
        have d2 : decide ((m : Int) < (0 : Int)) = false := decide_eq_false (by omega)
        have HP := hide (fun wx (h : QuAt wx g c m [] lo) => quput_no g c m lo [] x wx h (unhide HX) (by rw [unhide HL]; exact hr) (by omega))
        have HL2 := HL
        go_wp2_with (first
          | (go_at_call 13; refine (qutake_no _ _ _ _ _ (unhide HJ).qu).mono ?_; rintro e w4 ⟨rfl, hw4⟩; obtain rfl := hw4.symm; clear hw4; have HJ4 := HJ)
          | (go_at_call 15; refine (unhide HP _ (unhide HJ4).qu).mono ?_; rintro e w5 ⟨rfl, hm5, ht5⟩; have HJ5 := hide ((unhide HJ4).tu hm5 ht5); clear hm5 ht5)
          | (go_at_call 16; refine (qulen_is _ _ _ _ (0) _ _ (unhide HJ5).qu (unhide HL2)).mono ?_; rintro e w6 ⟨rfl, hw6⟩; obtain rfl := hw6.symm; clear hw6)
          | (go_at_call 17; refine (qulost_is _ _ _ _ (lo + 1) _ _ (unhide HJ5).qu rfl).mono ?_; rintro e w6 ⟨rfl, hw6⟩; obtain rfl := hw6.symm; clear hw6)
          | fail)
        go_roundw
        case rel => exact ⟨j + 1, 0, lo + 1, [], by omega, by go_num, by go_num, by go_num, by omega, by omega, HL2, HJ5⟩
        case measure => simp [intOf]; omega
    | cons s1 L1 =>
      obtain ⟨t1, ht1⟩ : ∃ t1, L1.length = t1 := ⟨_, rfl⟩
      have hL := unhide HL
      rw [List.length_cons, ht1] at hL
      obtain rfl := hL
      have HL := hide ht1
      clear ht1
      by_cases hr : t1 < m
      case pos =>
        have d1 : decide ((t1 : Int) + 1 < 0) = false := decide_eq_false (by omega)
        have d2 : decide ((m : Int) < (t1 : Int) + 1) = false := decide_eq_false (by omega)
        have HP := hide (fun wx (h : QuAt wx g c m L1 lo) => quput_yes g c m lo L1 x wx h (unhide HX) (by rw [unhide HL]; exact hr))
        have HL2 := hide (show (L1 ++ [x]).length = t1 + 1 by rw [List.length_append, unhide HL]; rfl)
        generalize L1 ++ [x] = L2 at *
        go_wp2_with (first
          | (go_at_call 13; refine (qutake_yes _ _ _ _ _ _ _ (unhide HJ).qu).mono ?_; rintro e w4 ⟨rfl, hm4, ht4⟩; have HJ4 := hide ((unhide HJ).tu hm4 ht4); have c1 := unhide HC w4 (unhide HJ4).low; clear hm4 ht4)
          | (go_at_call 15; refine (unhide HP _ (unhide HJ4).qu).mono ?_; rintro e w5 ⟨rfl, hm5, ht5⟩; have HJ5 := hide ((unhide HJ4).tu hm5 ht5); clear hm5 ht5)
          | (go_at_call 16; refine (qulen_is _ _ _ _ (t1 + 1) _ _ (unhide HJ5).qu (unhide HL2)).mono ?_; rintro e w6 ⟨rfl, hw6⟩; obtain rfl := hw6.symm; clear hw6)
          | (go_at_call 17; refine (qulost_is _ _ _ _ (lo) _ _ (unhide HJ5).qu rfl).mono ?_; rintro e w6 ⟨rfl, hw6⟩; obtain rfl := hw6.symm; clear hw6)
          | fail)
        go_roundw
        case rel => exact ⟨j + 1, t1 + 1, lo, L2, by omega, by go_num, by go_num, by go_num, by omega, by omega, HL2, HJ5⟩
        case measure => simp [intOf]; omega
      case neg =>
        exfalso; omega
end Go.Proofs.Ytongbbianelfmaa
