/-
  The walk of PaceSplits: some ticks and some more are so many ticks. No condition.
-/
import Derived.Test.YtbdbkglodekklaaBG
import Derived.Deep.RegionHeld3
import Derived.Deep.CutRange
import Derived.BigQuiet
namespace Go.Proofs.Ytbdbkglodekklaa
open Go.RowKit
set_option linter.unusedVariables false
set_option maxRecDepth 4000

/-- Two buckets side by side; all that was there is as it was. -/
def TwT (w wr : World) (gx gy : Nat) (M T L L' : Int) : Prop := BtAt wr gx M T L ∧ BtAt wr gy M T L' ∧ Below w.heap.size w wr ∧ w.heap.size ≤ gx ∧ w.heap.size ≤ gy ∧ gx ≠ gy
theorem TwT.tuX {w wr wx : World} {gx gy : Nat} {M T L L' L1 : Int} (h : TwT w wr gx gy M T L L') (hm : BtAt wx gx M T L1) (ht : Tu (fun j => j = gx) wr wx) : TwT w wx gx gy M T L1 L' :=
  ⟨hm, h.2.1.tu ht (fun e => h.2.2.2.2.2 e.symm), tu_low h.2.2.1 ht h.2.2.2.1, h.2.2.2⟩
theorem TwT.tuY {w wr wx : World} {gx gy : Nat} {M T L L' L1 : Int} (h : TwT w wr gx gy M T L L') (hm : BtAt wx gy M T L1) (ht : Tu (fun j => j = gy) wr wx) : TwT w wx gx gy M T L L1 :=
  ⟨h.1.tu ht (fun e => h.2.2.2.2.2 e), hm, tu_low h.2.2.1 ht h.2.2.2.2.1, h.2.2.2⟩
theorem tick_split {M T L a b : Int} (hM : 0 ≤ M) (hL : L ≤ T) (ha : 0 ≤ a ∧ a ≤ 524288) (hb : 0 ≤ b ∧ b ≤ 524288) : tickL M T (tickL M T L a) b = tickL M T L (a + b) := by
  unfold tickL
  rw [wiZ_id ha.1 (by omega), wiZ_id hb.1 (by omega), wiZ_id (by omega) (by omega), Int.add_mul]
  have := Int.mul_nonneg ha.1 hM
  have := Int.mul_nonneg hb.1 hM
  omega
set_option maxHeartbeats 4000000 in
theorem pcsplits_walk (k z a b : Int) (w : World) : Calls Try.prog 6 #[.agg #[.int .i64 k, .int .i64 z], .int .i64 a, .int .i64 b] w fun e w' => e = .returned (.bool true) ∧ Below w.heap.size w w' := by
  by_cases h1 : a < 0
  case pos =>
    have d1 : decide (a < 0) = true := decide_eq_true h1
    go_enter Try.func6, Try.ntmps6
    go_wp2_with (go_at_call 9; refine (awake_any _).mono ?_; rintro e w1 ⟨rfl, hb1⟩)
    go_ret
    exact ⟨rfl, below0 (alloc_low _ _) hb1⟩
  have d1 : decide (a < 0) = false := decide_eq_false h1
  by_cases h2 : b < 0
  case pos =>
    have d2 : decide (b < 0) = true := decide_eq_true h2
    go_enter Try.func6, Try.ntmps6
    go_wp2_with (go_at_call 9; refine (awake_any _).mono ?_; rintro e w1 ⟨rfl, hb1⟩)
    go_ret
    exact ⟨rfl, below0 (alloc_low _ _) hb1⟩
  have d2 : decide (b < 0) = false := decide_eq_false h2
  by_cases h3 : 524288 < a
  case pos =>
    have d3 : decide (524288 < a) = true := decide_eq_true h3
    go_enter Try.func6, Try.ntmps6
    go_wp2_with (go_at_call 9; refine (awake_any _).mono ?_; rintro e w1 ⟨rfl, hb1⟩)
    go_ret
    exact ⟨rfl, below0 (alloc_low _ _) hb1⟩
  have d3 : decide (524288 < a) = false := decide_eq_false h3
  by_cases h4 : 524288 < b
  case pos =>
    have d4 : decide (524288 < b) = true := decide_eq_true h4
    go_enter Try.func6, Try.ntmps6
    go_wp2_with (go_at_call 9; refine (awake_any _).mono ?_; rintro e w1 ⟨rfl, hb1⟩)
    go_ret
    exact ⟨rfl, below0 (alloc_low _ _) hb1⟩
  have d4 : decide (524288 < b) = false := decide_eq_false h4
  have ha : 0 ≤ a ∧ a ≤ 524288 := by omega
  have hb : 0 ≤ b ∧ b ≤ 524288 := by omega
  clear h1 h2 h3 h4
  have hq : BkA 27 (w.alloc (.cells #[.int .i64 k, .int .i64 z] 27)) w.heap.size [.int .i64 k, .int .i64 z] := bkA_new _ _ _
  have hw := alloc_low w (.cells #[.int .i64 k, .int .i64 z] 27)
  generalize hW : w.alloc (.cells #[.int .i64 k, .int .i64 z] 27) = W at *
  have hz : w.heap.size ≤ W.heap.size := hw.size
  have HQ := hide hq
  have HW := hide hw
  have q0 := hq.at 0 rfl
  have q1 := hq.at 1 rfl
  clear hq hw
  have HN := hide (fun wx => pcnew_ex k z wx)
  generalize wiZ k 0 1000000 = M at *
  generalize 1000 * wiZ z 1 256 = T at *
  have HF1 : Hid True := hide trivial
  have HF2 : Hid True := hide trivial
  have HF3 : Hid True := hide trivial
  have HF4 : Hid True := hide trivial
  have HF5 : Hid True := hide trivial
  go_enter Try.func6, Try.ntmps6
  go_wp2_with fail
  go_region_held3 (fun w' => w'.cell? ⟨w.heap.size, 0, none⟩ = some (.int .i64 k) ∧ w'.cell? ⟨w.heap.size, 1, none⟩ = some (.int .i64 z)) (go_keep) (first
    | (clear HF1; go_at_call 10; refine (unhide HN _).mono ?_; rintro e w1 ⟨gx, rfl, hgx, hm1, hb1⟩; have HB1 := hide (show Below W.heap.size W w1 from below0 (Below.refl _ _).drew hb1); have hq1 := (unhide HQ).below (unhide HB1); have e0 := hq1.at 0 rfl; have e1 := hq1.at 1 rfl; have HX1 := hide hm1; have HGX := hide (Nat.le_trans hz hgx); clear hb1 hm1 hq1 hgx)
    | (go_at_call 10; refine (unhide HN _).mono ?_; rintro e w2 ⟨gy, rfl, hgy, hm2, hb2⟩; have HB2 := hide (show Below W.heap.size W w2 from below0 (unhide HB1) hb2); have hq2 := (unhide HQ).below (unhide HB2); have f0 := hq2.at 0 rfl; have f1 := hq2.at 1 rfl; have HJ0 := hide (show TwT w w2 gx gy M T T T from ⟨(unhide HX1).below hb2, hm2, below0 (unhide HW) (unhide HB2), unhide HGX, Nat.le_trans (unhide HGX) (Nat.le_trans (Nat.le_of_lt (unhide HX1).blk.lt) hgy), fun e => by have := (unhide HX1).blk.lt; omega⟩); clear hb2 hm2 hq2 hgy)
    | fail)
  go_wp2_with fail
  go_loopw [9] (fun i wr => ∃ (j : Nat) (L : Int), j ≤ 300 ∧ i = .int .i64 j ∧ Hid (TwT w wr gx gy M T L L)) (fun i _ => 300 - (intOf i).toNat)
  case atStart => exact ⟨0, _, Nat.zero_le _, rfl, HJ0⟩
  case round =>
    obtain ⟨j, L, hj, rfl, HJ⟩ := hrel
    clear HJ0
    have hs := tick_split (a := a) (b := b) (unhide HJ).1.mil.1 (unhide HJ).1.lev.2 ha hb
    have HT1 := hide (fun wx (h : BtAt wx gx M T L) => pctick_any gx M T L a wx h)
    have HT2 := hide (fun wx (h : BtAt wx gx M T (tickL M T L a)) => pctick_any gx M T (tickL M T L a) b wx h)
    have HT3 := hide (fun wx (h : BtAt wx gy M T L) => pctick_any gy M T L (a + b) wx h)
    rw [hs] at HT2
    clear hs
    by_cases hlt : j < 300
    case neg =>
      obtain rfl : j = 300 := by omega
      go_wp2_with (first
        | (clear HF2; go_at_call 14; refine (unhide HT1 _ (unhide HJ).1).mono ?_; rintro e w5 ⟨rfl, hm5, ht5⟩; have HK := hide ((unhide HJ).tuX hm5 ht5); clear hm5 ht5)
        | (clear HF3; go_at_call 14; refine (unhide HT2 _ (unhide HK).1).mono ?_; rintro e w6 ⟨rfl, hm6, ht6⟩; have HK2 := hide ((unhide HK).tuX hm6 ht6); clear hm6 ht6)
        | (go_at_call 14; refine (unhide HT3 _ (unhide HK2).2.1).mono ?_; rintro e w7 ⟨rfl, hm7, ht7⟩; have HK3 := hide ((unhide HK2).tuY hm7 ht7); clear hm7 ht7)
        | (clear HF4; go_at_call 16; refine (pclevel_any _ _ _ _ _ (unhide HK3).1).mono ?_; rintro e w8 ⟨rfl, hw8⟩; obtain rfl := hw8.symm; clear hw8)
        | (go_at_call 16; refine (pclevel_any _ _ _ _ _ (unhide HK3).2.1).mono ?_; rintro e w8 ⟨rfl, hw8⟩; obtain rfl := hw8.symm; clear hw8)
        | (go_at_call 9; refine (awake_any _).mono ?_; rintro e w9 ⟨rfl, hb9⟩; have HB := hide hb9; clear hb9)
        
        | fail)
      go_ret
      exact ⟨rfl, below0 (unhide HK3).2.2.1 (unhide HB)⟩
    have hlt' : (j : Int) < 300 := by omega
    by_cases hL : 1000 ≤ L
    case neg =>
      go_wp2_with (first
        | (clear HF2; go_at_call 14; refine (unhide HT1 _ (unhide HJ).1).mono ?_; rintro e w5 ⟨rfl, hm5, ht5⟩; have HK := hide ((unhide HJ).tuX hm5 ht5); clear hm5 ht5)
        | (clear HF3; go_at_call 14; refine (unhide HT2 _ (unhide HK).1).mono ?_; rintro e w6 ⟨rfl, hm6, ht6⟩; have HK2 := hide ((unhide HK).tuX hm6 ht6); clear hm6 ht6)
        | (go_at_call 14; refine (unhide HT3 _ (unhide HK2).2.1).mono ?_; rintro e w7 ⟨rfl, hm7, ht7⟩; have HK3 := hide ((unhide HK2).tuY hm7 ht7); clear hm7 ht7)
        | (clear HF4; go_at_call 16; refine (pclevel_any _ _ _ _ _ (unhide HK3).1).mono ?_; rintro e w8 ⟨rfl, hw8⟩; obtain rfl := hw8.symm; clear hw8)
        | (go_at_call 16; refine (pclevel_any _ _ _ _ _ (unhide HK3).2.1).mono ?_; rintro e w8 ⟨rfl, hw8⟩; obtain rfl := hw8.symm; clear hw8)
        | (go_at_call 9; refine (awake_any _).mono ?_; rintro e w9 ⟨rfl, hb9⟩; have HB := hide hb9; clear hb9)
        | (clear HF5; go_at_call 13; refine (pctake_no _ _ _ _ _ (unhide HJ).1 (by omega)).mono ?_; rintro e w4 ⟨rfl, hw4⟩; obtain rfl := hw4.symm; clear hw4)
        | fail)
      go_ret
      exact ⟨rfl, below0 (unhide HK3).2.2.1 (unhide HB)⟩
    go_wp2_with (first
      | (clear HF5; go_at_call 13; refine (pctake_yes _ _ _ _ _ (unhide HJ).1 hL).mono ?_; rintro e w3 ⟨rfl, hm3, ht3⟩; have HK := hide ((unhide HJ).tuX hm3 ht3); clear hm3 ht3)
      | (go_at_call 13; refine (pctake_yes _ _ _ _ _ (unhide HK).2.1 hL).mono ?_; rintro e w4 ⟨rfl, hm4, ht4⟩; have HK2 := hide ((unhide HK).tuY hm4 ht4); clear hm4 ht4)
      | fail)
    go_roundw
    case rel => exact ⟨j + 1, _, by omega, by go_num, HK2⟩
    case measure => simp [intOf]; omega
end Go.Proofs.Ytbdbkglodekklaa
