/-
  The walk of PaceBound: over any ticks no more is taken than the bucket held, and the ticks' thousandths. No condition.
-/
import Derived.Test.YtbdbkglodekklaaBG
import Derived.Laws.BitsAllLaws
import Derived.Deep.RegionHeld3
import Derived.Deep.CutRange
import Derived.BigQuiet
namespace Go.Proofs.Ytbdbkglodekklaa
open Go.RowKit
set_option linter.unusedVariables false
set_option maxRecDepth 4000

theorem and15 (x : Int) (h0 : 0 ≤ x) (h1 : x < 65536) : ∃ y : Int, bits .and .u16 x 15 = y ∧ 0 ≤ y ∧ y ≤ 15 := by
  obtain ⟨n, rfl⟩ := Int.eq_ofNat_of_zero_le h0
  have := u16_and_nat n 15 (by omega) (by decide)
  refine ⟨((n &&& 15 : Nat) : Int), this, by omega, ?_⟩
  have : n &&& 15 ≤ 15 := Nat.and_le_right
  omega
theorem U16At.in {w : World} {a : Option Addr} {n : Nat} {xs : List Int} (h : U16At w a n xs) {i : Nat} (hi : i < n) : 0 ≤ xs.getD i 0 ∧ xs.getD i 0 < 65536 := by
  have h1 := h.1
  rw [List.getD_eq_getElem?_getD, List.getElem?_eq_getElem (by omega)]
  exact h.2.1 _ (List.getElem_mem _)
/-- A bucket, and what it was made of; all that was there is as it was. -/
def BdJ (w wr : World) (g : Nat) (M T L : Int) (k z : Int) : Prop := BtAt wr g M T L ∧ BkA 27 wr w.heap.size [.int .i64 k, .int .i64 z] ∧ Below w.heap.size w wr ∧ w.heap.size < g
theorem BdJ.tu {w wr wx : World} {g : Nat} {M T L L1 k z : Int} (h : BdJ w wr g M T L k z) (hm : BtAt wx g M T L1) (ht : Tu (fun j => j = g) wr wx) : BdJ w wx g M T L1 k z :=
  ⟨hm, h.2.1.tu ht (Nat.ne_of_lt h.2.2.2), tu_low h.2.2.1 ht (Nat.le_of_lt h.2.2.2), h.2.2.2⟩
theorem BdJ.below {w wr wx : World} {g : Nat} {M T L k z : Int} (h : BdJ w wr g M T L k z) (hb : Below wr.heap.size wr wx) : BdJ w wx g M T L k z :=
  ⟨h.1.below hb, h.2.1.below hb, below0 h.2.2.1 hb, h.2.2.2⟩
set_option maxHeartbeats 8000000 in
theorem pcbound_walk (k z : Int) (a : Option Addr) (n c : Nat) (xs : List Int) (w : World) (h : U16At w a n xs) (hn : n ≤ 9223372036854775807) :
    Calls Try.prog 5 #[.agg #[.int .i64 k, .int .i64 z], .slice a n c] w fun e w' => e = .returned (.bool true) ∧ Below w.heap.size w w' := by
  by_cases h1 : 300 < n
  case pos =>
    have d1 : decide ((300 : Int) < (n : Int)) = true := by rw [decide_eq_true_iff]; omega
    clear h
    go_enter Try.func5, Try.ntmps5
    go_wp2_with (go_at_call 9; refine (awake_any _).mono ?_; rintro e w1 ⟨rfl, hb1⟩)
    go_ret
    exact ⟨rfl, below0 (alloc_low _ _) hb1⟩
  have d1 : decide ((300 : Int) < (n : Int)) = false := by rw [decide_eq_false_iff_not]; omega
  by_cases h2 : k < 0
  case pos =>
    have d2 : decide (k < 0) = true := decide_eq_true h2
    clear h
    go_enter Try.func5, Try.ntmps5
    go_wp2_with (go_at_call 9; refine (awake_any _).mono ?_; rintro e w1 ⟨rfl, hb1⟩)
    go_ret
    exact ⟨rfl, below0 (alloc_low _ _) hb1⟩
  have d2 : decide (k < 0) = false := decide_eq_false h2
  by_cases h3 : 5000 < k
  case pos =>
    have d3 : decide (5000 < k) = true := decide_eq_true h3
    clear h
    go_enter Try.func5, Try.ntmps5
    go_wp2_with (go_at_call 9; refine (awake_any _).mono ?_; rintro e w1 ⟨rfl, hb1⟩)
    go_ret
    exact ⟨rfl, below0 (alloc_low _ _) hb1⟩
  have d3 : decide (5000 < k) = false := decide_eq_false h3
  by_cases h4 : z < 1
  case pos =>
    have d4 : decide (z < 1) = true := decide_eq_true h4
    clear h
    go_enter Try.func5, Try.ntmps5
    go_wp2_with (go_at_call 9; refine (awake_any _).mono ?_; rintro e w1 ⟨rfl, hb1⟩)
    go_ret
    exact ⟨rfl, below0 (alloc_low _ _) hb1⟩
  have d4 : decide (z < 1) = false := decide_eq_false h4
  by_cases h5 : 20 < z
  case pos =>
    have d5 : decide (20 < z) = true := decide_eq_true h5
    clear h
    go_enter Try.func5, Try.ntmps5
    go_wp2_with (go_at_call 9; refine (awake_any _).mono ?_; rintro e w1 ⟨rfl, hb1⟩)
    go_ret
    exact ⟨rfl, below0 (alloc_low _ _) hb1⟩
  have d5 : decide (20 < z) = false := decide_eq_false h5
  have hk : 0 ≤ k ∧ k ≤ 5000 := by omega
  have hz : 1 ≤ z ∧ z ≤ 20 := by omega
  have hn3 : n ≤ 300 := by omega
  clear h1 h2 h3 h4 h5 hn
  have hq : BkA 27 (w.alloc (.cells #[.int .i64 k, .int .i64 z] 27)) w.heap.size [.int .i64 k, .int .i64 z] := bkA_new _ _ _
  have hw := alloc_low w (.cells #[.int .i64 k, .int .i64 z] 27)
  have hs : w.heap.size < (w.alloc (.cells #[.int .i64 k, .int .i64 z] 27)).heap.size := by rw [alloc_size]; omega
  generalize hW : w.alloc (.cells #[.int .i64 k, .int .i64 z] 27) = W at *
  have HN := hide (pcnew_ex k z W)
  rw [wiZ_id (x := k) (by omega) (by omega), wiZ_id (x := z) (by omega) (by omega)] at HN
  have HQ := hide hq
  have HW := hide hw
  have HH := hide h
  have HS := hide hs
  have q0 := hq.at 0 rfl
  have q1 := hq.at 1 rfl
  clear hq hw h hs
  go_enter Try.func5, Try.ntmps5
  go_wp2_with (first
    | (go_at_call 10; refine (unhide HN).mono ?_; rintro e w1 ⟨g, rfl, hg1, hm1, hb1⟩; have HJ0 := hide (show BdJ w w1 g k (1000 * z) (1000 * z) k z from ⟨hm1, (unhide HQ).below hb1, below0 (unhide HW) hb1, Nat.lt_of_lt_of_le (unhide HS) hg1⟩); clear hm1 hb1 hg1 q0 q1 HN)
    | fail)
  go_loopw [6, 7, 8] (fun t s i wr => ∃ (j : Nat) (t' s' L : Int), j ≤ n ∧ t = .int .i64 t' ∧ s = .int .i64 s' ∧ i = .int .i64 j ∧ (0 ≤ t' ∧ t' ≤ 100 * j) ∧ (0 ≤ s' ∧ s' ≤ 15 * j) ∧ Hid (1000 * t' + L ≤ 1000 * z + s' * k) ∧ Hid (BdJ w wr g k (1000 * z) L k z)) (fun _ _ i _ => n - (intOf i).toNat)
  case atStart => exact ⟨0, 0, 0, 1000 * z, Nat.zero_le _, rfl, rfl, rfl, by omega, by omega, hide (by omega), HJ0⟩
  case round =>
    obtain ⟨j, t, s, L, hj, rfl, rfl, rfl, ht, hs, HL, HJ⟩ := hrel
    clear HJ0
    have HF1 : Hid True := hide trivial
    have HF2 : Hid True := hide trivial
    by_cases hlt : j < n
    case neg =>
      obtain rfl : j = n := by omega
      have hp0 : 0 ≤ s * k := Int.mul_nonneg hs.1 hk.1
      have hp1 : s * k ≤ 4500 * 5000 := Int.mul_le_mul (by omega) hk.2 hk.1 (by omega)
      have hle := unhide HL
      have hlev := (unhide HJ).1.lev
      have g1 : IntKind.i64.wrap (1000 * t) = 1000 * t := by rw [IntKind.wrap_i64]; omega
      have g2 : IntKind.i64.wrap (1000 * z) = 1000 * z := by rw [IntKind.wrap_i64]; omega
      have g3 : IntKind.i64.wrap (s * k) = s * k := by rw [IntKind.wrap_i64]; omega
      have g4 : IntKind.i64.wrap (1000 * z + s * k) = 1000 * z + s * k := by rw [IntKind.wrap_i64]; omega
      have g5 : decide (1000 * t ≤ 1000 * z + s * k) = true := decide_eq_true (by omega)
      have g6 : decide (0 ≤ L) = true := decide_eq_true hlev.1
      have g7 : decide (L ≤ 1000 * z) = true := decide_eq_true hlev.2
      have q0 := (unhide HJ).2.1.at 0 rfl
      have q1 := (unhide HJ).2.1.at 1 rfl
      go_wp2_with fail
      go_region_held3 (fun w' => w'.cell? ⟨w.heap.size, 0, none⟩ = some (.int .i64 k) ∧ w'.cell? ⟨w.heap.size, 1, none⟩ = some (.int .i64 z)) (go_keep) (first
        | (go_at_call 16; refine (pclevel_any _ _ _ _ _ ((unhide HJ).1.below (Below.refl _ _).drew)).mono ?_; rintro e w8 ⟨rfl, hw8⟩; obtain rfl := hw8.symm; clear hw8)
        | (go_at_call 9; refine (awake_any _).mono ?_; rintro e w9 ⟨rfl, hb9⟩; have hJ9 := ((unhide HJ).below (Below.refl _ _).drew).below hb9; have HB := hide hJ9.2.2.1; have r0 := hJ9.2.1.at 0 rfl; have r1 := hJ9.2.1.at 1 rfl; clear hb9 hJ9)
        | fail)
      go_wp2_with fail
      go_ret
      exact ⟨rfl, unhide HB⟩
    have hlt' : (j : Int) < (n : Int) := by omega
    obtain ⟨b, off, rfl, hc⟩ := (unhide HH).at hlt
    have hx := (unhide HH).in hlt
    obtain ⟨y, hy, hy0, hy1⟩ := and15 _ hx.1 hx.2
    have c0 := ((unhide HJ).2.2.1.cell (World.block_lt_of_cell? w _ hc)).trans hc
    clear hc
    generalize xs.getD j 0 = x at *
    have hyk : 0 ≤ y * k := Int.mul_nonneg hy0 hk.1
    have HL1 := hide (show 1000 * t + tickL k (1000 * z) L y ≤ 1000 * z + (s + y) * k by
      have h1 := unhide HL
      have h2 : tickL k (1000 * z) L y ≤ L + y * k := by unfold tickL; rw [wiZ_id (x := y) hy0 (by omega)]; omega
      rw [Int.add_mul]; omega)
    have HT := hide (pctick_any g k (1000 * z) L y wr (unhide HJ).1)
    generalize tickL k (1000 * z) L y = L1 at *
    go_wp2_with (first
      | (go_at_call 14; refine (unhide HT).mono ?_; rintro e w2 ⟨rfl, hm2, ht2⟩; have HJ2 := hide ((unhide HJ).tu hm2 ht2); clear hm2 ht2)
      | fail)
    clear HT c0
    go_loopw [6, 10] (fun u i wr => ∃ (q : Nat) (t' L' : Int), q ≤ 100 ∧ u = .int .i64 t' ∧ i = .int .i64 q ∧ (t ≤ t' ∧ t' ≤ t + q) ∧ Hid (1000 * t' + L' ≤ 1000 * z + (s + y) * k) ∧ Hid (BdJ w wr g k (1000 * z) L' k z)) (fun _ i _ => 100 - (intOf i).toNat)
    case atStart => exact ⟨0, t, L1, Nat.zero_le _, rfl, rfl, by omega, HL1, HJ2⟩
    case round =>
      obtain ⟨q, t1, L2, hq, rfl, rfl, ht1, HL2, HK⟩ := hrel
      clear HJ2 HL1 HJ
      by_cases hq1 : q < 100
      case neg =>
        obtain rfl : q = 100 := by omega
        go_wp2_with fail
        go_roundw
        case rel => exact ⟨j + 1, t1, s + y, L2, by omega, rfl, by go_num, by go_num, by omega, by omega, HL2, HK⟩
        case measure => simp [intOf]; omega
      have hq2 : (q : Int) < 100 := by omega
      by_cases hL2 : 1000 ≤ L2
      case neg =>
        go_wp2_with (first
          | (go_at_call 13; refine (pctake_no _ _ _ _ _ (unhide HK).1 (by omega)).mono ?_; rintro e w4 ⟨rfl, hw4⟩; obtain rfl := hw4.symm; clear hw4)
          | fail)
        go_roundw
        case rel => exact ⟨j + 1, t1, s + y, L2, by omega, rfl, by go_num, by go_num, by omega, by omega, HL2, HK⟩
        case measure => simp [intOf]; omega
      go_wp2_with (first
        | (go_at_call 13; refine (pctake_yes _ _ _ _ _ (unhide HK).1 hL2).mono ?_; rintro e w4 ⟨rfl, hm4, ht4⟩; have HK2 := hide ((unhide HK).tu hm4 ht4); clear hm4 ht4)
        | fail)
      go_roundw
      case rel => exact ⟨q + 1, t1 + 1, L2 - 1000, by omega, by go_num, by go_num, by omega, hide (by have := unhide HL2; omega), HK2⟩
      case measure => simp [intOf]; omega
end Go.Proofs.Ytbdbkglodekklaa
