/-
  The walk of PacePlays: any ticks and takes of a bucket are as the reference's. No condition.
-/
import Derived.Test.YtbdbkglodekklaaBF
import Derived.Test.YtbdbkglodekklaaBG
import Derived.Deep.RegionHeld3
import Derived.Deep.CutRange
import Derived.BigQuiet
namespace Go.Proofs.Ytbdbkglodekklaa
open Go.RowKit
set_option linter.unusedVariables false
set_option maxRecDepth 4000

def rbC (M T L : Int) : List Value := [.int .i64 M, .int .i64 T, .int .i64 L]
/-- A bucket and the reference's; all that was there is as it was. -/
structure PlT (w wr : World) (g cb : Nat) (M T L L' : Int) : Prop where
  bt : BtAt wr g M T L
  rb : BkA 32 wr cb (rbC M T L')
  low : Below w.heap.size w wr
  lg : w.heap.size ≤ g
  lc : w.heap.size ≤ cb
theorem PlT.ne {w wr : World} {g cb : Nat} {M T L L' : Int} (h : PlT w wr g cb M T L L') : g ≠ cb := h.bt.blk.ne h.rb (by decide)
theorem PlT.below {w wr wx : World} {g cb : Nat} {M T L L' : Int} (h : PlT w wr g cb M T L L') (hb : Below wr.heap.size wr wx) : PlT w wx g cb M T L L' := ⟨h.bt.below hb, h.rb.below hb, below0 h.low hb, h.lg, h.lc⟩
theorem PlT.tuB {w wr wx : World} {g cb : Nat} {M T L L' L1 : Int} (h : PlT w wr g cb M T L L') (hm : BtAt wx g M T L1) (ht : Tu (fun j => j = g) wr wx) : PlT w wx g cb M T L1 L' := ⟨hm, h.rb.tu ht (fun e => h.ne e.symm), tu_low h.low ht h.lg, h.lg, h.lc⟩
theorem rb_sets {w : World} {p : Nat} {a b c : Value} (x y v : Value) (h : BkA 32 w p [a, b, c]) : BkA 32 (((w.setCell ⟨p, 0, none⟩ x).setCell ⟨p, 1, none⟩ y).setCell ⟨p, 2, none⟩ v) p [x, y, v] := ((h.set 0 x).set 1 y).set 2 v
theorem tu_sets (w : World) (p : Nat) (x y v : Value) : Tu (fun j => j = p) w (((w.setCell ⟨p, 0, none⟩ x).setCell ⟨p, 1, none⟩ y).setCell ⟨p, 2, none⟩ v) :=
  ((tu_set w p 0 x).trans (tu_set _ p 1 y) fun _ _ e => e).trans (tu_set _ p 2 v) fun _ _ e => e
theorem plt_set {w w2 : World} {g p : Nat} {M T L : Int} {a b c : Value} (L1 : Int) (h2 : BtAt w2 g M T L) (hz : BkA 32 w2 p [a, b, c]) (hb : Below w.heap.size w w2) (hg : w.heap.size ≤ g) (hp : w.heap.size ≤ p) :
    PlT w (((w2.setCell ⟨p, 0, none⟩ (.int .i64 M)).setCell ⟨p, 1, none⟩ (.int .i64 T)).setCell ⟨p, 2, none⟩ (.int .i64 L1)) g p M T L L1 :=
  ⟨h2.tu (tu_sets _ _ _ _ _) (fun e => h2.blk.ne hz (by decide) e), rb_sets _ _ _ hz, tu_low hb (tu_sets _ _ _ _ _) hp, hg, hp⟩
theorem PlT.setR {w wr : World} {g cb : Nat} {M T L L' : Int} (h : PlT w wr g cb M T L L') (L1 : Int) :
    PlT w (((wr.setCell ⟨cb, 0, none⟩ (.int .i64 M)).setCell ⟨cb, 1, none⟩ (.int .i64 T)).setCell ⟨cb, 2, none⟩ (.int .i64 L1)) g cb M T L L1 := plt_set L1 h.bt h.rb h.low h.lg h.lc
theorem plt_new {w w2 : World} {g : Nat} {M T L : Int} (h2 : BtAt w2 g M T L) (hb : Below w.heap.size w w2) (hg : w.heap.size ≤ g) :
    PlT w (w2.alloc (.cells #[.int .i64 M, .int .i64 T, .int .i64 L] 32)) g w2.heap.size M T L L :=
  ⟨h2.below (alloc_low _ _), bkA_new 32 w2 [.int .i64 M, .int .i64 T, .int .i64 L], below0 hb (alloc_low _ _), hg, hb.size⟩
set_option maxHeartbeats 8000000 in
theorem pcplays_walk (k z : Int) (a : Option Addr) (n c : Nat) (xs : List Int) (w : World) (h : IntzAt w a n xs) (hn : n ≤ 9223372036854775807) :
    Calls Try.prog 4 #[.agg #[.int .i64 k, .int .i64 z], .slice a n c] w fun e w' => e = .returned (.bool true) ∧ Below w.heap.size w w' := by
  by_cases h1 : 1000 < n
  case pos =>
    have d1 : decide ((1000 : Int) < (n : Int)) = true := by rw [decide_eq_true_iff]; omega
    clear h
    go_enter Try.func4, Try.ntmps4
    go_wp2_with (go_at_call 9; refine (awake_any _).mono ?_; rintro e w1 ⟨rfl, hb1⟩)
    go_ret
    exact ⟨rfl, below0 (alloc_low _ _) hb1⟩
  have d1 : decide ((1000 : Int) < (n : Int)) = false := by rw [decide_eq_false_iff_not]; omega
  have hl' : n ≤ 1000 := by omega
  clear h1 hn
  have hq : BkA 27 (w.alloc (.cells #[.int .i64 k, .int .i64 z] 27)) w.heap.size [.int .i64 k, .int .i64 z] := bkA_new _ _ _
  have hw := alloc_low w (.cells #[.int .i64 k, .int .i64 z] 27)
  generalize hW : w.alloc (.cells #[.int .i64 k, .int .i64 z] 27) = W at *
  have hzz : w.heap.size < W.heap.size := by rw [← hW, alloc_size]; omega
  have hz : w.heap.size ≤ W.heap.size := hw.size
  have n1 : w.heap.size ≠ W.heap.size := Nat.ne_of_lt hzz
  have n2 : W.heap.size ≠ w.heap.size := Nat.ne_of_gt hzz
  have HQ := hide hq
  have HW := hide hw
  have HH := hide h
  have q0 := hq.at 0 rfl
  have q1 := hq.at 1 rfl
  clear hq hw h
  have HN := hide (fun wx => pcnew_ex k z wx)
  have HR := hide (fun wx => rpnew_any k z wx)
  have HI := hide (wiZ_in z (show (1 : Int) ≤ 256 by decide))
  have HI2 := hide (wiZ_in k (show (0 : Int) ≤ 1000000 by decide))
  generalize wiZ k 0 1000000 = M at *
  generalize 1000 * wiZ z 1 256 = T at *
  go_enter Try.func4, Try.ntmps4
  go_wp2_with fail
  go_region_held3 (fun w' => w'.cell? ⟨w.heap.size, 0, none⟩ = some (.int .i64 k) ∧ w'.cell? ⟨w.heap.size, 1, none⟩ = some (.int .i64 z)) (go_keep) (first
    | (go_at_call 10; refine (unhide HN W.drew).mono ?_; rintro e w1 ⟨gx, rfl, hgx, hm1, hb1⟩; have HB1 := hide (show Below W.heap.size W w1 from below0 (Below.refl _ _).drew hb1); have hq1 := (unhide HQ).below (unhide HB1); have e0 := hq1.at 0 rfl; have e1 := hq1.at 1 rfl; have n3 : w.heap.size ≠ w1.heap.size := Nat.ne_of_lt (Nat.lt_of_lt_of_le hzz (unhide HB1).size); have n4 : w1.heap.size ≠ w.heap.size := Ne.symm n3; have HX1 := hide hm1; have HGX := hide (Nat.le_trans hz hgx); clear hb1 hm1 hq1 hgx)
    | (go_at_call 10; refine (unhide HN (W.drew.alloc (.cells #[.int .i64 0, .int .i64 0, .int .i64 0] 32))).mono ?_; rintro e w1 ⟨gx, rfl, hgx, hm1, hb1⟩; have HZ1 := hide (show BkA 32 w1 W.heap.size [.int .i64 0, .int .i64 0, .int .i64 0] from (bkA_new 32 W.drew [.int .i64 0, .int .i64 0, .int .i64 0]).below hb1); have HB1 := hide (show Below W.heap.size W w1 from below0 (below0 (Below.refl _ _).drew (alloc_low W.drew _)) hb1); have hq1 := (unhide HQ).below (unhide HB1); have e0 := hq1.at 0 rfl; have e1 := hq1.at 1 rfl; have n3 : w.heap.size ≠ w1.heap.size := Nat.ne_of_lt (Nat.lt_of_lt_of_le hzz (unhide HB1).size); have n4 : w1.heap.size ≠ w.heap.size := Ne.symm n3; have HX1 := hide hm1; have HGX := hide (Nat.le_trans hz (Nat.le_trans (alloc_low W.drew (.cells #[.int .i64 0, .int .i64 0, .int .i64 0] 32)).size hgx)); clear hb1 hm1 hq1 hgx)
    | (go_at_call 11; refine (unhide HR w1).mono ?_; rintro e w2 ⟨rfl, hb2⟩; have hz2 := (unhide HZ1).below hb2; have z0 := hz2.at 0 rfl; have z1 := hz2.at 1 rfl; have z2 := hz2.at 2 rfl; have y0 := hz2.frz 0; have y1 := hz2.frz 1; have y2 := hz2.frz 2; have HZ2 := hide hz2; have HB2 := hide (show Below W.heap.size W w2 from below0 (unhide HB1) hb2); have hq2 := (unhide HQ).below (unhide HB2); have f0 := hq2.at 0 rfl; have f1 := hq2.at 1 rfl; have HX2 := hide ((unhide HX1).below hb2); clear hb2 hq2 hz2)
    | (go_at_call 11; refine (unhide HR w1).mono ?_; rintro e w2 ⟨rfl, hb2⟩; have HB2 := hide (show Below W.heap.size W w2 from below0 (unhide HB1) hb2); have hq2 := (unhide HQ).below (unhide HB2); have f0 := hq2.at 0 rfl; have f1 := hq2.at 1 rfl; have HX2 := hide ((unhide HX1).below hb2); clear hb2 hq2)
    | (go_at_call 11; refine (unhide HR (w1.alloc (.cells #[.int .i64 0, .int .i64 0, .int .i64 0] 32))).mono ?_; rintro e w2 ⟨rfl, hb2⟩; have hz2 : BkA 32 w2 w1.heap.size [.int .i64 0, .int .i64 0, .int .i64 0] := (bkA_new 32 w1 [.int .i64 0, .int .i64 0, .int .i64 0]).below hb2; have z0 := hz2.at 0 rfl; have z1 := hz2.at 1 rfl; have z2 := hz2.at 2 rfl; have y0 := hz2.frz 0; have y1 := hz2.frz 1; have y2 := hz2.frz 2; have HZ2 := hide hz2; have HB2 := hide (show Below W.heap.size W w2 from below0 (below0 (unhide HB1) (alloc_low w1 _)) hb2); have hq2 := (unhide HQ).below (unhide HB2); have f0 := hq2.at 0 rfl; have f1 := hq2.at 1 rfl; have HX2 := hide (((unhide HX1).below (alloc_low w1 _)).below hb2); clear hb2 hq2 hz2)
    | fail)
  all_goals (first
    | (have HJ1 := hide (plt_set (p := w1.heap.size) T (unhide HX2) (unhide HZ2) (below0 (unhide HW) (unhide HB2)) (unhide HGX) (Nat.le_trans hz (unhide HB1).size)); generalize w1.heap.size = cb at *)
    | (have HJ1 := hide (plt_set (p := W.heap.size) T (unhide HX2) (unhide HZ2) (below0 (unhide HW) (unhide HB2)) (unhide HGX) hz); generalize W.heap.size = cb at *)
    | (have HJ1 := hide (plt_new (unhide HX2) (below0 (unhide HW) (unhide HB2)) (unhide HGX)); generalize w2.heap.size = cb at *))
  all_goals clear HQ HW q0 q1 HN HR
  all_goals
    go_wp2_with fail
    go_loopw [7] (fun i wr => ∃ (j : Nat) (L : Int), j ≤ n ∧ i = .int .i64 j ∧ Hid (PlT w wr gx cb M T L L)) (fun i _ => n - (intOf i).toNat)
    case atStart => exact ⟨0, _, Nat.zero_le _, rfl, HJ1⟩
    case round =>
      obtain ⟨j, L, hj, rfl, HJ⟩ := hrel
      clear HJ1
      by_cases hlt : j < n
      case neg =>
        obtain rfl : j = n := by omega
        go_wp2_with (first
          | (go_at_call 9; refine (awake_any _).mono ?_; rintro e w9 ⟨rfl, hb9⟩; have HB := hide (below0 (unhide HJ).low hb9); clear hb9)
          | fail)
        go_ret
        exact ⟨rfl, unhide HB⟩
      have hlt' : (j : Int) < (n : Int) := by omega
      obtain ⟨b, off, rfl, hc⟩ := (unhide HH).at hlt
      have c0 := ((unhide HJ).low.cell (World.block_lt_of_cell? w _ (hc j hlt))).trans (hc j hlt)
      have HC := hide (fun wx (hx : Below w.heap.size w wx) => (hx.cell (World.block_lt_of_cell? w _ (hc j hlt))).trans (hc j hlt))
      clear hc HH
      generalize xs.getD j 0 = x at *
      have r0 := (unhide HJ).rb.at 0 rfl
      have r1 := (unhide HJ).rb.at 1 rfl
      have r2 := (unhide HJ).rb.at 2 rfl
      by_cases hx : x < 0
      · have hLm : L ≤ 1000000 := by have := (unhide HJ).bt.lev; have := (unhide HJ).bt.top; omega
        by_cases hL : 1000 ≤ L
        case neg =>
          have hL : L < 1000 := by omega
          go_wp2_with (first
            | (go_at_call 12; refine (rptake_no M T L _ hL).mono ?_; rintro e w4 ⟨rfl, hb4⟩; have hJ5 := ((unhide HJ).below hb4).below (alloc_low w4 (.cells #[.int .i64 M, .int .i64 T, .int .i64 L] 32)); have u0 := hJ5.rb.at 0 rfl; have u1 := hJ5.rb.at 1 rfl; have u2 := hJ5.rb.at 2 rfl; have v0 := hJ5.rb.frz 0; have v1 := hJ5.rb.frz 1; have v2 := hJ5.rb.frz 2; have hlc : cb < w4.heap.size := ((unhide HJ).below hb4).rb.lt; have n7 : cb ≠ w4.heap.size := Nat.ne_of_lt hlc; have n8 : w4.heap.size ≠ cb := Nat.ne_of_gt hlc; have HJ6 := hide (hJ5.setR L); clear hb4 hJ5 hlc r0 r1 r2)
            | (go_at_call 13; refine (pctake_no _ _ _ _ _ (unhide HJ6).bt hL).mono ?_; rintro e w7 ⟨rfl, hw7⟩; obtain rfl := hw7.symm; clear hw7; have HJ7 := HJ6)
            | fail)
          have x2 := (unhide HJ7).rb.at 2 rfl
          go_region_held3 (fun w' => w'.cell? ⟨cb, 2, none⟩ = some (.int .i64 L)) (go_keep) (first
            | (go_at_call 16; refine (pclevel_any _ _ _ _ _ ((unhide HJ7).below (Below.refl _ _).drew).bt).mono ?_; rintro e w8 ⟨rfl, hw8⟩; obtain rfl := hw8.symm; clear hw8)
            | fail)
          go_wp2_with fail
          go_roundw
          case rel => exact ⟨j + 1, _, by omega, by go_num, hide ((unhide HJ7).below (Below.refl _ _).drew)⟩
          case measure => simp [intOf]; omega
        go_wp2_with (first
          | (go_at_call 12; refine (rptake_yes M T L _ hL hLm).mono ?_; rintro e w4 ⟨rfl, hb4⟩; have hJ5 := ((unhide HJ).below hb4).below (alloc_low w4 (.cells #[.int .i64 M, .int .i64 T, .int .i64 (L - 1000)] 32)); have u0 := hJ5.rb.at 0 rfl; have u1 := hJ5.rb.at 1 rfl; have u2 := hJ5.rb.at 2 rfl; have v0 := hJ5.rb.frz 0; have v1 := hJ5.rb.frz 1; have v2 := hJ5.rb.frz 2; have hlc : cb < w4.heap.size := ((unhide HJ).below hb4).rb.lt; have n7 : cb ≠ w4.heap.size := Nat.ne_of_lt hlc; have n8 : w4.heap.size ≠ cb := Nat.ne_of_gt hlc; have HJ6 := hide (hJ5.setR (L - 1000)); clear hb4 hJ5 hlc r0 r1 r2)
          | (go_at_call 13; refine (pctake_yes _ _ _ _ _ (unhide HJ6).bt hL).mono ?_; rintro e w7 ⟨rfl, hm7, ht7⟩; have HJ7 := hide ((unhide HJ6).tuB hm7 ht7); clear hm7 ht7)
          | fail)
        have x2 := (unhide HJ7).rb.at 2 rfl
        go_region_held3 (fun w' => w'.cell? ⟨cb, 2, none⟩ = some (.int .i64 (L - 1000))) (go_keep) (first
          | (go_at_call 16; refine (pclevel_any _ _ _ _ _ ((unhide HJ7).below (Below.refl _ _).drew).bt).mono ?_; rintro e w8 ⟨rfl, hw8⟩; obtain rfl := hw8.symm; clear hw8)
          | fail)
        go_wp2_with fail
        go_roundw
        case rel => exact ⟨j + 1, _, by omega, by go_num, hide ((unhide HJ7).below (Below.refl _ _).drew)⟩
        case measure => simp [intOf]; omega
      · have hx0 : ¬ x < 0 := hx
        have HTK := hide (fun wx (h : BtAt wx gx M T L) => pctick_any gx M T L x wx h)
        have HRK := hide (fun wx => rptick_any M T L x wx (unhide HJ).bt.mil ⟨by have := (unhide HJ).bt.top; omega, (unhide HJ).bt.top.2⟩ (unhide HJ).bt.lev)
        generalize tickL M T L x = L1 at *
        go_wp2_with (first
          | (go_at_call 14; refine (unhide HTK _ (unhide HJ).bt).mono ?_; rintro e w4 ⟨rfl, hm4, ht4⟩; have hJ4 := (unhide HJ).tuB hm4 ht4; have s0 := hJ4.rb.at 0 rfl; have s1 := hJ4.rb.at 1 rfl; have s2 := hJ4.rb.at 2 rfl; have c1 := unhide HC w4 hJ4.low; have HJ4 := hide hJ4; clear hm4 ht4 hJ4 c0 r0 r1 r2)
          | fail)
        go_region_law (first
          | (go_simp; go_at_call 15; refine (unhide HRK _).mono ?_; rintro e w5 ⟨rfl, hb5⟩; have hJ5 := ((unhide HJ4).below (Below.refl _ _).drew).below hb5; have u0 := hJ5.rb.at 0 rfl; have u1 := hJ5.rb.at 1 rfl; have u2 := hJ5.rb.at 2 rfl; have v0 := hJ5.rb.frz 0; have v1 := hJ5.rb.frz 1; have v2 := hJ5.rb.frz 2; have HJ6 := hide (hJ5.setR L1); clear hb5 hJ5))
        all_goals have x2 := (unhide HJ6).rb.at 2 rfl
        all_goals go_wp2_with fail
        all_goals go_region_held3 (fun w' => w'.cell? ⟨cb, 2, none⟩ = some (.int .i64 L1)) (go_keep) (first
          | (go_at_call 16; refine (pclevel_any _ _ _ _ _ ((unhide HJ6).below (Below.refl _ _).drew).bt).mono ?_; rintro e w8 ⟨rfl, hw8⟩; obtain rfl := hw8.symm; clear hw8)
          | fail)
        all_goals go_wp2_with fail
        all_goals
          go_roundw
          case rel => exact ⟨j + 1, _, by omega, by go_num, hide ((unhide HJ6).below (Below.refl _ _).drew)⟩
          case measure => simp [intOf]; omega
end Go.Proofs.Ytbdbkglodekklaa
