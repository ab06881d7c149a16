/-
  The walk of QueueClear: a queue that was cleared is as a new one. No condition.
-/
import Derived.Test.YtongbbianelfmaaQuE
import Derived.Deep.RegionHeld3
import Derived.Deep.CutRange
import Derived.BigQuiet
namespace Go.Proofs.Ytongbbianelfmaa
open Go.RowKit Go.Conc
set_option linter.unusedVariables false
set_option maxRecDepth 4000

/-- Two queues of the call's own. -/
structure QuT (w wr : World) (g c g' c' m : Nat) (L : List ByteArray) (lo : Nat) (L' : List ByteArray) (lo' : Nat) : Prop where
  qa : QuAt wr g c m L lo
  qb : QuAt wr g' c' m L' lo'
  low : Below w.heap.size w wr
  lg : w.heap.size ≤ g
  lc : w.heap.size ≤ c
  lg' : w.heap.size ≤ g'
  lc' : w.heap.size ≤ c'
  gg : g ≠ g'
  cc : c ≠ c'
theorem QuT.tuA {w wr wx : World} {g c g' c' m lo lo' l1 : Nat} {L L' L1 : List ByteArray} (h : QuT w wr g c g' c' m L lo L' lo') (hq : QuAt wx g c m L1 l1) (ht : Tu (quF g c) wr wx) : QuT w wx g c g' c' m L1 l1 L' lo' :=
  ⟨hq, h.qb.tu ht (fun e => by rcases e with e | e; exact h.gg e.symm; exact h.qb.apart h.qa e) (fun e => by rcases e with e | e; exact h.qa.apart h.qb e.symm; exact h.cc e.symm), tu_lowQ h.low ht h.lg h.lc, h.lg, h.lc, h.lg', h.lc', h.gg, h.cc⟩
theorem QuT.tuB {w wr wx : World} {g c g' c' m lo lo' l1 : Nat} {L L' L1 : List ByteArray} (h : QuT w wr g c g' c' m L lo L' lo') (hq : QuAt wx g' c' m L1 l1) (ht : Tu (quF g' c') wr wx) : QuT w wx g c g' c' m L lo L1 l1 :=
  ⟨h.qa.tu ht (fun e => by rcases e with e | e; exact h.gg e; exact h.qa.apart h.qb e) (fun e => by rcases e with e | e; exact h.qb.apart h.qa e.symm; exact h.cc e), hq, tu_lowQ h.low ht h.lg' h.lc', h.lg, h.lc, h.lg', h.lc', h.gg, h.cc⟩
theorem QuT.below {w wr wx : World} {g c g' c' m lo lo' : Nat} {L L' : List ByteArray} (h : QuT w wr g c g' c' m L lo L' lo') (hb : Below wr.heap.size wr wx) : QuT w wx g c g' c' m L lo L' lo' :=
  ⟨h.qa.below hb, h.qb.below hb, below0 h.low hb, h.lg, h.lc, h.lg', h.lc', h.gg, h.cc⟩
set_option maxHeartbeats 8000000 in
theorem quclear_walk (most : Int) (a : Option Addr) (n cp : Nat) (ss : List ByteArray) (a' : Option Addr) (n' cp' : Nat) (ss' : List ByteArray) (w : World) (h : TextsAt w a n ss) (hn : n ≤ 9223372036854775807) (h' : TextsAt w a' n' ss') (hn' : n' ≤ 9223372036854775807) :
    Calls Try.prog 5 #[.int .i64 most, .slice a n cp, .slice a' n' cp'] w fun e w' => e = .returned (.bool true) ∧ Below w.heap.size w w' := by
  by_cases hf : FewQ ss
  case neg =>
    have HF := hide (few22_no a n cp ss w h hn hf)
    clear h hf h' hn hn'
    go_enter Try.func5, Try.ntmps5
    go_wp2_with (first
      | (go_at_call 8; refine (unhide HF).mono ?_; rintro e w1 ⟨rfl, hw1⟩; obtain rfl := hw1.symm; clear hw1)
      | (go_at_call 9; refine (awake_any _).mono ?_; rintro e w1 ⟨rfl, hb1⟩; have HB := hide hb1; clear hb1)
      | fail)
    go_ret
    exact ⟨rfl, unhide HB⟩
  have HF := hide (few22_yes a n cp ss w h hn hf)
  by_cases hf' : FewQ ss'
  case neg =>
    have HF0 : Hid True := hide trivial
    have HF' := hide (few22_no a' n' cp' ss' w h' hn' hf')
    clear h hf h' hn hn' hf'
    go_enter Try.func5, Try.ntmps5
    go_wp2_with (first
      | (clear HF0; go_at_call 8; refine (unhide HF).mono ?_; rintro e w1 ⟨rfl, hw1⟩; obtain rfl := hw1.symm; clear hw1)
      | (go_at_call 8; refine (unhide HF').mono ?_; rintro e w1 ⟨rfl, hw1⟩; obtain rfl := hw1.symm; clear hw1)
      | (go_at_call 9; refine (awake_any _).mono ?_; rintro e w1 ⟨rfl, hb1⟩; have HB := hide hb1; clear hb1)
      | fail)
    go_ret
    exact ⟨rfl, unhide HB⟩
  have HF' := hide (few22_yes a' n' cp' ss' w h' hn' hf')
  have hl : n ≤ 600 := by have := hf.1; rw [h.1] at this; exact this
  have hl' : n' ≤ 600 := by have := hf'.1; rw [h'.1] at this; exact this
  have HW := hide hf
  have HW' := hide hf'
  have HH := hide h
  have HH' := hide h'
  have HF0 : Hid True := hide trivial
  have HF1 : Hid True := hide trivial
  have HN := hide (fun wx => qunew_any most wx)
  have hm := capN_le most
  generalize capN most = m at *
  clear h hf hn h' hf' hn'
  go_enter Try.func5, Try.ntmps5
  go_wp2_with (first
    | (clear HF0; go_at_call 8; refine (unhide HF).mono ?_; rintro e w1 ⟨rfl, hw1⟩; obtain rfl := hw1.symm; clear hw1)
    | (go_at_call 8; refine (unhide HF').mono ?_; rintro e w1 ⟨rfl, hw1⟩; obtain rfl := hw1.symm; clear hw1)
    | (clear HF1; go_at_call 10; refine (unhide HN w).mono ?_; rintro e w1 ⟨g, c, rfl, hg, hc, hm1, hb1⟩; have HQ1 := hide hm1; have HB1 := hide hb1; have HG := hide hg; have HC := hide hc; clear hm1 hb1 hg hc)
    | (go_at_call 10; refine (unhide HN w1).mono ?_; rintro e w2 ⟨g', c', rfl, hg, hc, hm2, hb2⟩; have HJ0 := hide (show QuT w w2 g c g' c' m [] 0 [] 0 from ⟨(unhide HQ1).below hb2, hm2, below0 (unhide HB1) hb2, unhide HG, unhide HC, Nat.le_trans (unhide HB1).size hg, Nat.le_trans (unhide HB1).size hc, Nat.ne_of_lt (Nat.lt_of_lt_of_le (unhide HQ1).lt.1 hg), Nat.ne_of_lt (Nat.lt_of_lt_of_le (unhide HQ1).lt.2 hc)⟩); clear hm2 hb2 hg hc HQ1 HB1 HG HC)
    | fail)
  clear HF HF' HN
  go_loopw [9] (fun i wr => ∃ (j lo : Nat) (L : List ByteArray), j ≤ n ∧ i = .int .i64 j ∧ lo ≤ j ∧ Hid (QuT w wr g c g' c' m L lo [] 0)) (fun i _ => n - (intOf i).toNat)
  case atStart => exact ⟨0, 0, [], Nat.zero_le _, rfl, Nat.le_refl _, HJ0⟩
  case round =>
    obtain ⟨j, lo, L, hj, rfl, hlo, HJ⟩ := hrel
    clear HJ0
    by_cases hlt : j < n
    case pos =>
      have hlt' : (j : Int) < (n : Int) := by omega
      obtain ⟨bl, off, rfl, hc⟩ := (unhide HH).at hlt
      have c0 := ((unhide HJ).low.cell (World.block_lt_of_cell? w _ (hc j hlt))).trans (hc j hlt)
      have HX := hide ((unhide HW).at j)
      clear hc HH HW HH' HW'
      generalize ss.getD j ByteArray.empty = x at *
      have HP := hide (fun wx (h : QuAt wx g c m L lo) => quput_any g c m lo L x wx h (unhide HX) (by omega))
      have hl2 := lostQ_le m L lo
      generalize roomQ m L = b1 at *
      generalize putQ m L x = L2 at *
      generalize lostQ m L lo = lo2 at *
      go_wp2_with (first
        | (go_at_call 15; refine (unhide HP _ (unhide HJ).qa).mono ?_; rintro e w5 ⟨rfl, hm5, ht5⟩; have HJ5 := hide ((unhide HJ).tuA hm5 ht5); clear hm5 ht5)
        | fail)
      go_roundw
      case rel => exact ⟨j + 1, lo2, L2, by omega, by go_num, by omega, HJ5⟩
      case measure => simp [intOf]; omega
    obtain rfl : j = n := by omega
    go_wp2_with (first
      | (go_at_call 18; refine (quclear_any _ _ _ _ _ _ (unhide HJ).qa).mono ?_; rintro e w5 ⟨rfl, hm5, ht5⟩; have HJ5 := hide ((unhide HJ).tuA hm5 ht5); clear hm5 ht5)
      | (go_at_call 16; refine (qulen_is _ _ _ _ 0 _ _ (unhide HJ5).qa rfl).mono ?_; rintro e w6 ⟨rfl, hw6⟩; obtain rfl := hw6.symm; clear hw6)
      | (go_at_call 17; refine (qulost_is _ _ _ _ 0 _ _ (unhide HJ5).qa rfl).mono ?_; rintro e w6 ⟨rfl, hw6⟩; obtain rfl := hw6.symm; clear hw6)
      | fail)
    clear HJ HH HW
    go_loopw [10] (fun i wr => ∃ (q lo : Nat) (L : List ByteArray), q ≤ n' ∧ i = .int .i64 q ∧ lo ≤ q ∧ Hid (QuT w wr g c g' c' m L lo L lo)) (fun i _ => n' - (intOf i).toNat)
    case atStart => exact ⟨0, 0, [], Nat.zero_le _, rfl, Nat.le_refl _, HJ5⟩
    case round =>
      obtain ⟨q, l1, L1, hq, rfl, hl1, HJ⟩ := hrel
      clear HJ5
      by_cases hlt2 : q < n'
      case neg =>
        obtain rfl : q = n' := by omega
        have HF1 : Hid True := hide trivial
        have HF2 : Hid True := hide trivial
        have HLa := hide (fun wx (h : QuAt wx g c m L1 l1) => qulen_any g c m l1 L1 wx h)
        have HLb := hide (fun wx (h : QuAt wx g' c' m L1 l1) => qulen_any g' c' m l1 L1 wx h)
        generalize L1.length = k at *
        go_wp2_with (first
          | (clear HF1; go_at_call 16; refine (unhide HLa _ (unhide HJ).qa).mono ?_; rintro e w6 ⟨rfl, hw6⟩; obtain rfl := hw6.symm; clear hw6)
          | (go_at_call 16; refine (unhide HLb _ (unhide HJ).qb).mono ?_; rintro e w6 ⟨rfl, hw6⟩; obtain rfl := hw6.symm; clear hw6)
          | (clear HF2; go_at_call 17; refine (qulost_any _ _ _ _ _ _ (unhide HJ).qa).mono ?_; rintro e w6 ⟨rfl, hw6⟩; obtain rfl := hw6.symm; clear hw6)
          | (go_at_call 17; refine (qulost_any _ _ _ _ _ _ (unhide HJ).qb).mono ?_; rintro e w6 ⟨rfl, hw6⟩; obtain rfl := hw6.symm; clear hw6)
          | (go_at_call 9; refine (awake_any _).mono ?_; rintro e w9 ⟨rfl, hb9⟩; have HB := hide (below0 (unhide HJ).low hb9); clear hb9)
          | fail)
        go_ret
        exact ⟨rfl, unhide HB⟩
      have hlt' : (q : Int) < (n' : Int) := by omega
      obtain ⟨bl, off, rfl, hc⟩ := (unhide HH').at hlt2
      have c0 := ((unhide HJ).low.cell (World.block_lt_of_cell? w _ (hc q hlt2))).trans (hc q hlt2)
      have HC := hide (fun wx (hx : Below w.heap.size w wx) => (hx.cell (World.block_lt_of_cell? w _ (hc q hlt2))).trans (hc q hlt2))
      have HX := hide ((unhide HW').at q)
      clear hc HH' HW'
      generalize ss'.getD q ByteArray.empty = x at *
      have HF1 : Hid True := hide trivial
      have HPa := hide (fun wx (h : QuAt wx g c m L1 l1) => quput_any g c m l1 L1 x wx h (unhide HX) (by omega))
      have HPb := hide (fun wx (h : QuAt wx g' c' m L1 l1) => quput_any g' c' m l1 L1 x wx h (unhide HX) (by omega))
      have hl2 := lostQ_le m L1 l1
      generalize roomQ m L1 = b1 at *
      generalize putQ m L1 x = L2 at *
      generalize lostQ m L1 l1 = l2 at *
      go_wp2_with fail
      go_region_held3 (fun w' => w'.cell? ⟨bl, off + q, none⟩ = some (.string x)) (go_keep) (first
        | (clear HF1; go_at_call 15; refine (unhide HPa _ ((unhide HJ).below (Below.refl _ _).drew).qa).mono ?_; rintro e w5 ⟨rfl, hm5, ht5⟩; have HJ5 := hide (((unhide HJ).below (Below.refl _ _).drew).tuA hm5 ht5); have c5 := unhide HC w5 (unhide HJ5).low; clear hm5 ht5)
        | (go_at_call 15; refine (unhide HPb _ (unhide HJ5).qb).mono ?_; rintro e w6 ⟨rfl, hm6, ht6⟩; have HJ6 := hide ((unhide HJ5).tuB hm6 ht6); have c6 := unhide HC w6 (unhide HJ6).low; clear hm6 ht6)
        | fail)
      all_goals go_wp2_with fail
      all_goals
        go_roundw
        case rel => exact ⟨q + 1, l2, L2, by omega, by go_num, by omega, HJ6⟩
        case measure => simp [intOf]; omega
end Go.Proofs.Ytongbbianelfmaa
