/-
  The walk of the law DrawsDistinct: for every input it tells true and writes nothing that was there. No condition.
-/
import Derived.Test.YtmodllifgdhmiaaDF
import Derived.Lib.QuietBelow
namespace Go.Proofs.Ytmodllifgdhmiaa
open Go.RowKit
set_option linter.unusedVariables false
set_option maxRecDepth 4000

theorem min_nat (x y : Nat) (ts : Array TypeId) (t : TypeId) (w : World) : (Builtin.min_ ts t #[.int .i64 (x : Int), .int .i64 (y : Int)]).run Try.prog w = .ok (.int .i64 ((min x y : Nat) : Int)) w := by
  rw [run_min_int2]
  congr 2
  split <;> omega
theorem max_any (k : Int) : ∃ m : Int, ∀ (ts : Array TypeId) (t : TypeId) (w : World), (Builtin.max_ ts t #[.int .i64 k, .int .i64 0]).run Try.prog w = .ok (.int .i64 m) w := ⟨_, fun ts t w => max0_run' k ts t w⟩
theorem min_any (m n : Int) : ∃ q : Int, ∀ (ts : Array TypeId) (t : TypeId) (w : World), (Builtin.min_ ts t #[.int .i64 m, .int .i64 n]).run Try.prog w = .ok (.int .i64 q) w := ⟨_, fun ts t w => by rw [run_min_int2]⟩

set_option maxHeartbeats 2000000 in
theorem distinct_walk (a : Option Addr) (len cap : Nat) (xs : List Nat) (n k : Int) (w : World) (h : RowAt w a len xs) (hm : len ≤ 9223372036854775807) : Calls Try.prog 4 #[.slice a len cap, .int .i64 n, .int .i64 k] w fun e w' => e = .returned (.bool true) ∧ Below w.heap.size w w' := by
  have HA := hide (fun wx => awake_any wx)
  by_cases hl : 1000 < len
  · clear h
    go_enter Try.func4, Try.ntmps4
    go_wp2_with (go_at_call 8; refine (unhide HA _).mono ?_; rintro e w6 ⟨rfl, hb6⟩)
    go_ret
    exact ⟨rfl, hb6⟩
  · have HN := hide (new_any a len cap xs w h (by omega))
    have hl' : ¬ ((1000 : Int) < (len : Int)) := by omega
    clear h
    by_cases ho : n < 0 ∨ 128 < n
    · obtain ⟨m, hmax⟩ := max_any k
      obtain ⟨q, hmin⟩ := min_any m n
      have HX := hide (fun g wx => distinct_no (.pointer (some g)) (.inr ⟨_, rfl⟩) n k ho wx)
      rcases ho with ho | ho
      · go_enter Try.func4, Try.ntmps4
        go_wp2_with (first | (go_at_call 9; refine (unhide HN).mono ?_; rintro e w1 ⟨g, rfl, hg, hD1, hb1⟩; have HD1 := hide hD1; have HB1 := hide hb1; clear hD1 hb1 hg) | (go_at_call 13; refine (unhide HX _ _).mono ?_; rintro e w2 ⟨rfl, hw⟩; obtain rfl := hw.symm; clear hw) | (go_at_call 15; refine (used_any _ _ _ _ _ (unhide HD1)).mono ?_; rintro e w2 ⟨rfl, hw⟩; obtain rfl := hw.symm; clear hw) | (go_at_call 8; refine (unhide HA _).mono ?_; rintro e w6 ⟨rfl, hb6⟩; have HB6 := hide (below0 (unhide HB1) hb6); clear hb6))
        go_ret
        exact ⟨rfl, unhide HB6⟩
      · have ho' : ¬ n < 0 := by omega
        go_enter Try.func4, Try.ntmps4
        go_wp2_with (first | (go_at_call 9; refine (unhide HN).mono ?_; rintro e w1 ⟨g, rfl, hg, hD1, hb1⟩; have HD1 := hide hD1; have HB1 := hide hb1; clear hD1 hb1 hg) | (go_at_call 13; refine (unhide HX _ _).mono ?_; rintro e w2 ⟨rfl, hw⟩; obtain rfl := hw.symm; clear hw) | (go_at_call 15; refine (used_any _ _ _ _ _ (unhide HD1)).mono ?_; rintro e w2 ⟨rfl, hw⟩; obtain rfl := hw.symm; clear hw) | (go_at_call 8; refine (unhide HA _).mono ?_; rintro e w6 ⟨rfl, hb6⟩; have HB6 := hide (below0 (unhide HB1) hb6); clear hb6))
        go_ret
        exact ⟨rfl, unhide HB6⟩
    · obtain ⟨n, rfl⟩ : ∃ m : Nat, n = (m : Int) := ⟨n.toNat, by omega⟩
      have hn : n ≤ 128 := by omega
      have h0 : ¬ ((n : Int) < 0) := by omega
      have h1 : ¬ ((128 : Int) < (n : Int)) := by omega
      have hmax := max0_run' k
      have hmin := min_nat k.toNat n
      have hXl := distL_length xs 0 n (min k.toNat n) (Nat.min_le_right _ _)
      have HXr := hide (fun i (hi : i + 1 < min k.toNat n) => distL_rise xs 0 n (min k.toNat n) i (by rw [hXl]; exact hi))
      have HXn := hide (fun i (hi : i < min k.toNat n) => distL_lt xs 0 n (min k.toNat n) i (by rw [hXl]; exact hi))
      have HX := hide (fun g B wx hd hB => distinct_any g B xs 0 n k wx hd hB (by omega) hn)
      have hrn : min k.toNat n ≤ n := Nat.min_le_right _ _
      generalize k.toNat = k2 at *
      generalize min k2 n = r at *
      have HXl := hide hXl
      clear hXl ho
      generalize distL xs 0 n r = X at *
      go_enter Try.func4, Try.ntmps4
      go_wp2_with (first | (go_at_call 9; refine (unhide HN).mono ?_; rintro e w1 ⟨g, rfl, hg, hD1, hb1⟩; have HD1 := hide hD1; have HB1 := hide hb1; have HG := hide hg; clear hD1 hb1 hg) | (go_at_call 13; refine (unhide HX g _ _ (unhide HD1) (Nat.le_refl _)).mono ?_; rintro e w2 ⟨v, rfl, hO2, hD2, hG2⟩; obtain ⟨a2, c2, rfl, hI2⟩ := hO2.ints; rw [castZ_length, unhide HXl] at hI2; rw [castZ_length, unhide HXl]; have HI2 := hide hI2; have HD2 := hide hD2; have HB2 := hide (below_gb (unhide HB1) hG2 (unhide HB1).size (unhide HG)); have HZ2 := hide hG2.size; clear hD2 hG2 hO2 hI2))
      have HDB := hide (show ∀ wx, Below w2.heap.size w2 wx → Below w.heap.size w wx ∧ DrAt wx g w1.heap.size xs r from fun wx hb => ⟨(unhide HB2).trans (hb.mono (unhide HB2).size), by have := (unhide HD2).below (hb.mono (unhide HZ2)); rwa [Nat.zero_add] at this⟩)
      go_loopw [10] (fun i wr => ∃ q : Nat, q ≤ r ∧ i = .int .i64 q ∧ Hid (Below w2.heap.size w2 wr)) (fun i _ => r - (intOf i).toNat)
      case atStart => exact ⟨0, Nat.zero_le _, rfl, hide (Below.refl _ _)⟩
      case round =>
        obtain ⟨q, hq, rfl, HR⟩ := hrel
        clear HX HN
        by_cases hlt : q < r
        · have hI := (unhide HI2).below (unhide HR)
          obtain ⟨b, off, rfl, hc⟩ := hI.at hlt
          have hcell := hc q hlt
          rw [castZ_getD] at hcell
          have hxn := unhide HXn q hlt
          cases q with
          | zero =>
            rw [Nat.add_zero] at hcell
            clear hc hI
            generalize X.getD 0 0 = x at *
            have q0 := cell_regrown hcell
            have hd1 : decide ((x : Int) < 0) = false := by rw [decide_eq_false_iff_not]; omega
            have hd2 : decide ((n : Int) ≤ (x : Int)) = false := by rw [decide_eq_false_iff_not]; omega
            go_wp2_with fail
            refine wp_region_quiet_below (by kernel_rfl) (by kernel_rfl) ?_
            repeat (with_reducible refine wpQuiet_step (fun K hK => ?_); go_simp; (with_reducible refine hK _ ?_; clear hK K))
            refine wpQuiet_nil ?_
            intro _ hw'
            obtain ⟨⟨dq, osq⟩, hw''⟩ := hw'
            subst hw''
            have HRR := hide ((unhide HR).trans ((below_regrown wr dq osq).mono (unhide HR).size))
            clear hcell HR q0
            generalize Sort.grow (redrawn wr dq) osq = w3 at *
            go_wp2
            go_roundw
            case rel => exact ⟨0 + 1, by omega, by go_num, HRR⟩
            case measure => simp [intOf]; omega
          | succ p =>
            have hcell2 := hc p (by omega)
            rw [castZ_getD] at hcell2
            have hrise := unhide HXr p (by omega)
            clear hc hI
            generalize X.getD (p + 1) 0 = x at *
            generalize X.getD p 0 = y at *
            have q0 := cell_regrown hcell
            have q1 := cell_regrown hcell2
            have hd1 : decide ((x : Int) < 0) = false := by rw [decide_eq_false_iff_not]; omega
            have hd2 : decide ((n : Int) ≤ (x : Int)) = false := by rw [decide_eq_false_iff_not]; omega
            have hd3 : decide ((x : Int) ≤ (y : Int)) = false := by rw [decide_eq_false_iff_not]; omega
            have hkI : (p : Int) + 1 < (r : Int) := by omega
            have hkJ : (p : Int) < (r : Int) := by omega
            have hkN : (0 : Int) ≤ (p : Int) + 1 := by omega
            have hwr1 : wrap64 (p : Int) = (p : Int) := by unfold wrap64; omega
            have hwr2 : IntKind.i64.wrap (p : Int) = (p : Int) := by rw [IntKind.wrap_i64]; omega
            have hd4 : decide ((0 : Int) < (p : Int) + 1) = true := by rw [decide_eq_true_iff]; omega
            go_wp2_with fail
            refine wp_region_quiet_below (by kernel_rfl) (by kernel_rfl) ?_
            repeat (with_reducible refine wpQuiet_step (fun K hK => ?_); go_simp; (with_reducible refine hK _ ?_; clear hK K))
            refine wpQuiet_nil ?_
            intro _ hw'
            obtain ⟨⟨dq, osq⟩, hw''⟩ := hw'
            subst hw''
            have HRR := hide ((unhide HR).trans ((below_regrown wr dq osq).mono (unhide HR).size))
            clear hcell hcell2 HR q0 q1
            generalize Sort.grow (redrawn wr dq) osq = w3 at *
            go_wp2
            go_roundw
            case rel => exact ⟨p + 1 + 1, by omega, by go_num, HRR⟩
            case measure => simp [intOf]; omega
        · obtain rfl : q = r := by omega
          obtain ⟨hbw, hd⟩ := unhide HDB _ (unhide HR)
          have HBW := hide hbw
          have HDr := hide hd
          clear hbw hd
          go_wp2_with (first | (go_at_call 15; refine (used_any _ _ _ _ _ (unhide HDr)).mono ?_; rintro e w3 ⟨rfl, hw⟩; obtain rfl := hw.symm; clear hw) | (go_at_call 8; refine (unhide HA _).mono ?_; rintro e w6 ⟨rfl, hb6⟩; have HB6 := hide (below0 (unhide HBW) hb6); clear hb6))
          go_ret
          exact ⟨rfl, unhide HB6⟩
end Go.Proofs.Ytmodllifgdhmiaa
