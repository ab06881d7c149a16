/-
  The walk of bucketlinelaw10.SolitonAll: for every input, in every world that holds the table of soliton.
-/
import Derived.Test.YthoeimaoljigfaaDoorZD
namespace Go.Proofs.YthoeimaoljigfaaDoor
open Go.RowKit
set_option linter.unusedVariables false
set_option maxRecDepth 4000

/-- What the round at place j asks. -/
theorem all_round (k s j : Nat) (hs : s ≤ 128) (hj : j < k) : pickD (tableL k s) (sumZ ((tableL k s).take j)) = j + 1 ∧ pickD (tableL k s) (sumZ ((tableL k s).take j) + shareN k s (j + 1) - 1) = j + 1 ∧
    sumZ ((tableL k s).take (j + 1)) = sumZ ((tableL k s).take j) + shareN k s (j + 1) := by
  have hl : j < (tableL k s).length := by rw [tableL_len]; exact hj
  have hg := tableL_get k s j hj
  have h1 := (shareN_le k s (j + 1) hs).1
  have a1 := pickD_at (tableL k s) j 0 hl (by rw [hg]; omega)
  have a2 := pickD_at (tableL k s) j (shareN k s (j + 1) - 1) hl (by rw [hg]; omega)
  have a3 := sumZ_take (tableL k s) j hl
  rw [hg, Int.toNat_natCast] at a3
  refine ⟨by simpa using a1, ?_, a3⟩
  rw [show sumZ ((tableL k s).take j) + shareN k s (j + 1) - 1 = sumZ ((tableL k s).take j) + (shareN k s (j + 1) - 1) by omega]
  exact a2
set_option maxHeartbeats 400000 in
theorem all_no (k s : Int) (draw : Nat) (hd : draw < 18446744073709551616) (h : TableBad k s) (w : World) (ht : PTab w) : Calls Tryd.prog 5 #[.int .i64 k, .int .i64 s, .int .u64 (draw : Int)] w fun e w' => e = .returned (.bool true) ∧ Below w.heap.size w w' := by
  have H1 := hide (table_no k s h w)
  have H4 := hide (awake_any w ht)
  rcases h with h | h | h | h
  · go_enter Tryd.func5, Tryd.ntmps5
    go_wp2_with (first | (go_at_call 9; refine (unhide H1).mono ?_; rintro e w1 ⟨rfl, hw⟩; obtain rfl := hw.symm) | (go_at_call 11; refine (unhide H4).mono ?_; rintro e w4 ⟨rfl, hb4⟩))
    all_goals (go_ret; exact ⟨rfl, hb4⟩)
  · go_enter Tryd.func5, Tryd.ntmps5
    go_wp2_with (first | (go_at_call 9; refine (unhide H1).mono ?_; rintro e w1 ⟨rfl, hw⟩; obtain rfl := hw.symm) | (go_at_call 11; refine (unhide H4).mono ?_; rintro e w4 ⟨rfl, hb4⟩))
    all_goals (go_ret; exact ⟨rfl, hb4⟩)
  · go_enter Tryd.func5, Tryd.ntmps5
    go_wp2_with (first | (go_at_call 9; refine (unhide H1).mono ?_; rintro e w1 ⟨rfl, hw⟩; obtain rfl := hw.symm) | (go_at_call 11; refine (unhide H4).mono ?_; rintro e w4 ⟨rfl, hb4⟩))
    all_goals (go_ret; exact ⟨rfl, hb4⟩)
  · go_enter Tryd.func5, Tryd.ntmps5
    go_wp2_with (first | (go_at_call 9; refine (unhide H1).mono ?_; rintro e w1 ⟨rfl, hw⟩; obtain rfl := hw.symm) | (go_at_call 11; refine (unhide H4).mono ?_; rintro e w4 ⟨rfl, hb4⟩))
    all_goals (go_ret; exact ⟨rfl, hb4⟩)

set_option maxHeartbeats 1000000 in
theorem all_yes (k s draw : Nat) (hk : 1 ≤ k) (hk2 : k ≤ 128) (hs : s ≤ k) (hd : draw < 18446744073709551616) (w : World) (ht : PTab w) : Calls Tryd.prog 5 #[.int .i64 (k : Int), .int .i64 (s : Int), .int .u64 (draw : Int)] w fun e w' => e = .returned (.bool true) ∧ Below w.heap.size w w' := by
  have e1 : decide ((k : Int) < 1) = false := by rw [decide_eq_false_iff_not]; omega
  have e2 : decide (128 < (k : Int)) = false := by rw [decide_eq_false_iff_not]; omega
  have e3 : decide ((s : Int) < 0) = false := by rw [decide_eq_false_iff_not]; omega
  have e4 : decide (k < s) = false := by rw [decide_eq_false_iff_not]; omega
  have hs1 : s ≤ 128 := by omega
  have H1 := hide (table_any k s hk hk2 hs w ht)
  have hlen := tableL_len k s
  have hsm := tableL_sum k s hk2 hs1
  have hpos := tableL_pos k s hk hs1
  have HR := hide (fun j (hj : j < k) => all_round k s j hs1 hj)
  have HG := hide (fun j (hj : j < k) => tableL_get k s j hj)
  have HV := hide (fun j => shareN_le k s j hs1)
  have HT := hide (fun j => sumZ_take_le (tableL k s) j)
  have HE := hide (show sumZ ((tableL k s).take k) = sumZ (tableL k s) by rw [List.take_of_length_le (by rw [tableL_len]; exact Nat.le_refl _)])
  have hpd := pickD_in hpos draw
  rw [hlen] at hpd
  have HP := hide (fun (wx : World) (ax : Option Addr) (cx : Nat) (hx : IntzAt wx ax k (tableL k s)) (dr : Nat) (hdr : dr < 18446744073709551616) => pick_any ax k cx (tableL k s) dr wx hx (by omega) (by omega) hdr)
  have HS := hide (fun (wx : World) (ax : Option Addr) (cx : Nat) (hx : IntzAt wx ax k (tableL k s)) => sum_any ax k cx (tableL k s) wx hx (by omega) (by omega))
  have HK := hide hk
  have HL := hide hlen
  obtain ⟨R, hR⟩ : ∃ R, pickD (tableL k s) draw = R := ⟨_, rfl⟩
  rw [hR] at hpd
  have HRR := hide hR
  clear hR hlen hs hk hpos
  obtain ⟨p1, p2⟩ := hpd
  go_enter Tryd.func5, Tryd.ntmps5
  go_wp2_with fail
  refine (unhide H1).mono ?_
  rintro e w1 ⟨v, rfl, ho, hb1⟩
  obtain ⟨a, c, hv, hi⟩ := ho.ints
  rw [unhide HL] at hv hi
  subst hv
  have HI := hide hi
  have HB1 := hide hb1
  have H4 := hide (awake_any w1 (ht.below hb1))
  have HP1 := hide (unhide HP w1 a c hi)
  have HS1 := hide (unhide HS w1 a c hi)
  clear ho hi hb1 H1 HP HS HL
  generalize tableL k s = L at *
  go_wp2_with fail
  go_loop [8, 9] (fun t i => ∃ j q : Nat, j ≤ k ∧ i = .int .i64 ((j : Int) + 1) ∧ t = .int .i64 (q : Int) ∧ Hid (q = sumZ (L.take j))) (fun _ i => k + 1 - (intOf i).toNat)
  case atStart => exact ⟨0, 0, Nat.zero_le _, rfl, rfl, hide rfl⟩
  case round =>
    obtain ⟨j, q, hj, rfl, rfl, HQ⟩ := hrel
    by_cases hlt : j < k
    · obtain ⟨b, off, rfl, hc⟩ := (unhide HI).at hlt
      have hcell := hc j hlt
      rw [unhide HG j hlt] at hcell
      obtain ⟨r1, r2, r3⟩ := unhide HR j hlt
      obtain ⟨v1, v2⟩ := unhide HV (j + 1)
      have ht2 := unhide HT (j + 1)
      rw [r3] at ht2
      rw [← unhide HQ] at r1 r2 r3 ht2
      have hp1 := unhide HP1 q (by omega)
      rw [r1, Int.natCast_add] at hp1
      generalize shareN k s (j + 1) = y at *
      have hp2 := unhide HP1 (q + y - 1) (by omega)
      rw [r2, Int.natCast_add, show ((q + y - 1 : Nat) : Int) = (q : Int) + (y : Int) - 1 by omega] at hp2
      have HPa := hide hp1
      have HPb := hide hp2
      have HR3 := hide r3.symm
      have hqb : q + y ≤ 137573171200 := by omega
      clear hc r1 r2 r3 hp1 hp2 HR HG HV HT HP1 HS1 HE HRR HQ ht2 ht hsm HI
      go_wp2_with fail
      refine (unhide HPa).mono ?_
      rintro e w2 ⟨rfl, hw⟩
      obtain rfl := hw.symm
      go_wp2_with fail
      refine (unhide HPb).mono ?_
      rintro e w2 ⟨rfl, hw⟩
      obtain rfl := hw.symm
      go_wp2
      go_round
      case rel => exact ⟨j + 1, q + y, by omega, by go_num, by go_num, HR3⟩
      case measure => simp [intOf]; omega
    · obtain rfl : j = k := by omega
      have hp := unhide HP1 draw hd
      rw [unhide HRR] at hp
      have HPa := hide hp
      have hq := (unhide HQ).trans (unhide HE)
      have hs2 := unhide HS1
      rw [← hq] at hs2 hsm
      have HSa := hide hs2
      clear hp hs2 hq HR HG HV HT HP1 HS1 HE HRR HQ ht HI
      go_wp2_with (first | (go_at_call 15; refine (unhide HPa).mono ?_; rintro e w2 ⟨rfl, hw⟩; obtain rfl := hw.symm) | (go_at_call 13; refine (unhide HSa).mono ?_; rintro e w2 ⟨rfl, hw⟩; obtain rfl := hw.symm) | (go_at_call 11; refine (unhide H4).mono ?_; rintro e w4 ⟨rfl, hb4⟩))
      go_ret
      exact ⟨rfl, below0 (unhide HB1) hb4⟩
theorem all_any (k s : Int) (draw : Nat) (hd : draw < 18446744073709551616) (w : World) (ht : PTab w) : Calls Tryd.prog 5 #[.int .i64 k, .int .i64 s, .int .u64 (draw : Int)] w fun e w' => e = .returned (.bool true) ∧ Below w.heap.size w w' := by
  by_cases h : TableBad k s
  · exact all_no k s draw hd h w ht
  · unfold TableBad at h
    obtain ⟨K, rfl⟩ : ∃ K : Nat, k = (K : Int) := ⟨k.toNat, by omega⟩
    obtain ⟨S, rfl⟩ : ∃ S : Nat, s = (S : Int) := ⟨s.toNat, by omega⟩
    exact all_yes K S draw (by omega) (by omega) (by omega) hd w ht
end Go.Proofs.YthoeimaoljigfaaDoor
