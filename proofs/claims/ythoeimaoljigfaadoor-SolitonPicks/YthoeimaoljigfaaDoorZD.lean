/-
  bucketlinelaw10.awake, and the walks of the five laws: for every input, in every world that holds the table of soliton.
-/
import Derived.Test.YthoeimaoljigfaaDoorZC
namespace Go.Proofs.YthoeimaoljigfaaDoor
open Go.RowKit
set_option linter.unusedVariables false
set_option maxRecDepth 4000

theorem aw_8 : pickD [3, 0, 2] 8 = 3 := by decide
theorem aw_2 : pickD [3, 0, 2] 2 = 1 := by decide
theorem aw_s : sumZ [3, -1, 2] = 5 := by decide
theorem aw_n : pickD [] 1 = 0 := by decide
set_option maxHeartbeats 1000000 in
theorem awake_any (w : World) (ht : PTab w) : Calls Tryd.prog 11 #[] w fun e w' => e = .returned (.bool true) ∧ Below w.heap.size w w' := by
  have H1 := hide (table_any 2 0 (by decide) (by decide) (by decide) w ht)
  rw [table_two] at H1
  go_enter Tryd.func11, Tryd.ntmps11
  go_wp2_with fail
  refine (unhide H1).mono ?_
  rintro e w1 ⟨v, rfl, ho, hb1⟩
  obtain ⟨a, c, hv, hi⟩ := ho.ints
  change _ = Value.slice a 2 c at hv
  change IntzAt w1 a 2 _ at hi
  subst hv
  have HI := hide hi
  have HB1 := hide hb1
  clear ho hi hb1 H1
  go_wp2_with fail
  refine (intz_any a 2 c _ _ 2 2 _ _ ((unhide HI).below ((Below.refl _ _).alloc (Nat.le_refl _) _)) (intz_lit2 _ _ _) rfl (by decide)).mono ?_
  rintro e w2 ⟨rfl, hb2⟩
  have HB2 := hide (below1 (unhide HB1) hb2)
  clear HI HB1 hb2
  go_wp2_with fail
  have h3 := pick_any _ 3 3 _ 8 _ (intz_lit3 w2 3 0 2) (by decide) (by decide) (by decide)
  rw [aw_8] at h3
  refine h3.mono ?_
  rintro e w3 ⟨rfl, hw⟩
  have HB3 := hide (show Below w.heap.size w w3 by rw [hw]; exact (unhide HB2).alloc (unhide HB2).size _)
  clear h3 hw HB2
  go_wp2_with fail
  have h4 := pick_any _ 3 3 _ 2 _ (intz_lit3 w3 3 0 2) (by decide) (by decide) (by decide)
  rw [aw_2] at h4
  refine h4.mono ?_
  rintro e w4 ⟨rfl, hw⟩
  have HB4 := hide (show Below w.heap.size w w4 by rw [hw]; exact (unhide HB3).alloc (unhide HB3).size _)
  clear h4 hw HB3
  go_wp2_with fail
  have h5 := sum_any _ 3 3 _ _ (intz_lit3 w4 3 (-1) 2) (by decide) (by decide)
  rw [aw_s] at h5
  refine h5.mono ?_
  rintro e w5 ⟨rfl, hw⟩
  have HB5 := hide (show Below w.heap.size w w5 by rw [hw]; exact (unhide HB4).alloc (unhide HB4).size _)
  clear h5 hw HB4
  go_wp2_with fail
  have h6 := pick_any none 0 0 [] 1 w5 (IntzAt.none _ _) (by decide) (by decide) (by decide)
  rw [aw_n] at h6
  refine h6.mono ?_
  rintro e w6 ⟨rfl, hw⟩
  obtain rfl := hw.symm
  clear h6 hw
  go_wp2_with fail
  refine (table_no 0 0 (.inl (by decide)) _).mono ?_
  rintro e w7 ⟨rfl, hw⟩
  obtain rfl := hw.symm
  clear hw
  go_wp2
  go_ret
  exact ⟨rfl, unhide HB5⟩

set_option maxHeartbeats 400000 in
theorem tables_any (k s : Int) (w : World) (ht : PTab w) : Calls Tryd.prog 3 #[.int .i64 k, .int .i64 s] w fun e w' => e = .returned (.bool true) ∧ Below w.heap.size w w' := by
  by_cases h : TableBad k s
  · have H1 := hide (table_no k s h)
    have H2 := hide (table10_no k s h)
    have H3 := hide (intz_any none 0 0 [] none 0 0 [] w (IntzAt.none _ _) (IntzAt.none _ _) rfl (by decide))
    clear h
    go_enter Tryd.func3, Tryd.ntmps3
    go_wp2_with fail
    refine (unhide H1 w).mono ?_
    rintro e w1 ⟨rfl, hw⟩
    obtain rfl := hw.symm
    go_wp2_with fail
    refine (unhide H2 w).mono ?_
    rintro e w2 ⟨rfl, hw⟩
    obtain rfl := hw.symm
    go_wp2_with fail
    refine (unhide H3).mono ?_
    rintro e w3 ⟨rfl, hb3⟩
    have H4 := hide (awake_any w3 (ht.below hb3))
    have HB3 := hide hb3
    clear H1 H2 H3 hb3
    go_wp2_with (go_at_call 11; refine (unhide H4).mono ?_; rintro e w4 ⟨rfl, hb4⟩)
    go_ret
    exact ⟨rfl, below0 (unhide HB3) hb4⟩
  · unfold TableBad at h
    obtain ⟨K, rfl⟩ : ∃ K : Nat, k = (K : Int) := ⟨k.toNat, by omega⟩
    obtain ⟨S, rfl⟩ : ∃ S : Nat, s = (S : Int) := ⟨s.toNat, by omega⟩
    have hlen := tableL_len K S
    have HL := hide (show (tableL K S).length ≤ 128 by omega)
    have H1 := hide (table_any K S (by omega) (by omega) (by omega) w ht)
    have H2 := hide (fun wx => table10_any K S (by omega) (by omega) (by omega) wx)
    clear h hlen
    generalize tableL K S = L at *
    go_enter Tryd.func3, Tryd.ntmps3
    go_wp2_with fail
    refine (unhide H1).mono ?_
    rintro e w1 ⟨v, rfl, ho, hb1⟩
    obtain ⟨a, c, rfl, hi⟩ := ho.ints
    have HI := hide hi
    have HB1 := hide hb1
    clear ho hi hb1 H1
    go_wp2_with fail
    refine (unhide H2 w1).mono ?_
    rintro e w2 ⟨v, rfl, ho, hb2⟩
    obtain ⟨a', c', rfl, hi'⟩ := ho.ints
    have HI2 := hide ((unhide HI).below hb2)
    have HI3 := hide hi'
    have HB2 := hide (below0 (unhide HB1) hb2)
    clear ho hi' hb2 H2 HI HB1
    go_wp2_with fail
    refine (intz_any a _ c L a' _ c' L w2 (unhide HI2) (unhide HI3) rfl (Nat.le_trans (unhide HL) (by decide))).mono ?_
    rintro e w3 ⟨rfl, hb3⟩
    have HB3 := hide (below0 (unhide HB2) hb3)
    have H4 := hide (awake_any w3 (ht.below (unhide HB3)))
    clear hb3 HB2 HI2 HI3
    go_wp2_with (go_at_call 11; refine (unhide H4).mono ?_; rintro e w4 ⟨rfl, hb4⟩)
    go_ret
    exact ⟨rfl, below0 (unhide HB3) hb4⟩

set_option maxHeartbeats 400000 in
theorem picks_any (a : Option Addr) (n c : Nat) (xs : List Int) (draw : Nat) (w : World) (ht : PTab w) (h : IntzAt w a n xs) (hn : n ≤ 9223372036854775807) (hd : draw < 18446744073709551616) :
    Calls Tryd.prog 4 #[.slice a n c, .int .u64 (draw : Int)] w fun e w' => e = .returned (.bool true) ∧ Below w.heap.size w w' := by
  have H0 := hide (few10_any a n c xs w h hn)
  have H4 := hide (awake_any w ht)
  by_cases hf : fewZ xs = true
  · obtain ⟨hl, hs⟩ := fewZ_sum hf
    rw [h.1] at hl
    rw [hf] at H0
    have H1 := hide (sum_any a n c xs w h (by omega) (by omega))
    have H2 := hide (pick_any a n c xs draw w h (by omega) (by omega) hd)
    have H1' := hide (sum10_any a n c xs w h (by omega) (by omega))
    have H2' := hide (pick10_any a n c xs draw w h (by omega) (by omega) hd)
    clear h hf
    generalize sumZ xs = S at *
    generalize pickD xs draw = R at *
    go_enter Tryd.func4, Tryd.ntmps4
    go_wp2_with (first | (go_at_call 12; refine (unhide H0).mono ?_; rintro e w1 ⟨rfl, hw⟩; obtain rfl := hw.symm) | (go_at_call 13; refine (unhide H1).mono ?_; rintro e w1 ⟨rfl, hw⟩; obtain rfl := hw.symm) | (go_at_call 14; refine (unhide H1').mono ?_; rintro e w1 ⟨rfl, hw⟩; obtain rfl := hw.symm) | (go_at_call 15; refine (unhide H2).mono ?_; rintro e w1 ⟨rfl, hw⟩; obtain rfl := hw.symm) | (go_at_call 16; refine (unhide H2').mono ?_; rintro e w1 ⟨rfl, hw⟩; obtain rfl := hw.symm) | (go_at_call 11; refine (unhide H4).mono ?_; rintro e w4 ⟨rfl, hb4⟩))
    go_ret
    exact ⟨rfl, hb4⟩
  · rw [Bool.not_eq_true] at hf
    rw [hf] at H0
    clear h hf
    go_enter Tryd.func4, Tryd.ntmps4
    go_wp2_with (first | (go_at_call 12; refine (unhide H0).mono ?_; rintro e w1 ⟨rfl, hw⟩; obtain rfl := hw.symm) | (go_at_call 11; refine (unhide H4).mono ?_; rintro e w4 ⟨rfl, hb4⟩))
    go_ret
    exact ⟨rfl, hb4⟩

set_option maxHeartbeats 400000 in
theorem turns_any (a : Option Addr) (n c : Nat) (xs : List Int) (draw : Nat) (w : World) (ht : PTab w) (h : IntzAt w a n xs) (hn : n ≤ 9223372036854775807) (hd : draw < 4294967296) :
    Calls Tryd.prog 7 #[.slice a n c, .int .u32 (draw : Int)] w fun e w' => e = .returned (.bool true) ∧ Below w.heap.size w w' := by
  have H0 := hide (few10_any a n c xs w h hn)
  have H4 := hide (awake_any w ht)
  by_cases hf : fewZ xs = true
  · obtain ⟨hl, hs⟩ := fewZ_sum hf
    rw [h.1] at hl
    rw [hf] at H0
    have H1 := hide (sum_any a n c xs w h (by omega) (by omega))
    have H2 := hide (pick_any a n c xs draw w h (by omega) (by omega) (by omega))
    have h3 := pick_any a n c xs (draw + sumZ xs) w h (by omega) (by omega) (by omega)
    rw [pickD_turn, Int.natCast_add] at h3
    have H3 := hide h3
    clear h hf h3
    generalize sumZ xs = S at *
    generalize pickD xs draw = R at *
    go_enter Tryd.func7, Tryd.ntmps7
    go_wp2_with (first | (go_at_call 12; refine (unhide H0).mono ?_; rintro e w1 ⟨rfl, hw⟩; obtain rfl := hw.symm) | (go_at_call 13; refine (unhide H1).mono ?_; rintro e w1 ⟨rfl, hw⟩; obtain rfl := hw.symm))
    refine (unhide H2).mono ?_
    rintro e w1 ⟨rfl, hw⟩
    obtain rfl := hw.symm
    go_wp2_with fail
    refine (unhide H3).mono ?_
    rintro e w1 ⟨rfl, hw⟩
    obtain rfl := hw.symm
    go_wp2_with (go_at_call 11; refine (unhide H4).mono ?_; rintro e w4 ⟨rfl, hb4⟩)
    go_ret
    exact ⟨rfl, hb4⟩
  · rw [Bool.not_eq_true] at hf
    rw [hf] at H0
    clear h hf
    go_enter Tryd.func7, Tryd.ntmps7
    go_wp2_with (first | (go_at_call 12; refine (unhide H0).mono ?_; rintro e w1 ⟨rfl, hw⟩; obtain rfl := hw.symm) | (go_at_call 11; refine (unhide H4).mono ?_; rintro e w4 ⟨rfl, hb4⟩))
    go_ret
    exact ⟨rfl, hb4⟩

set_option maxHeartbeats 400000 in
theorem ideal_any (k : Int) (w : World) (ht : PTab w) : Calls Tryd.prog 6 #[.int .i64 k] w fun e w' => e = .returned (.bool true) ∧ Below w.heap.size w w' := by
  have H4 := hide (fun w1 (hb : Below w.heap.size w w1) => awake_any w1 (ht.below hb))
  by_cases h : k < 1 ∨ 128 < k
  · have H5 := hide (unhide H4 w (Below.refl _ _))
    clear H4
    rcases h with h | h
    · go_enter Tryd.func6, Tryd.ntmps6
      go_wp2_with (go_at_call 11; refine (unhide H5).mono ?_; rintro e w4 ⟨rfl, hb4⟩)
      go_ret
      exact ⟨rfl, hb4⟩
    · go_enter Tryd.func6, Tryd.ntmps6
      go_wp2_with (go_at_call 11; refine (unhide H5).mono ?_; rintro e w4 ⟨rfl, hb4⟩)
      all_goals (go_ret; exact ⟨rfl, hb4⟩)
  · obtain ⟨K, rfl⟩ : ∃ K : Nat, k = (K : Int) := ⟨k.toNat, by omega⟩
    have hk1 : 1 ≤ K := by omega
    have hk2 : K ≤ 128 := by omega
    obtain ⟨i1, i2⟩ := ideal K hk1 hk2
    have hlen := tableL_len K 0
    have hsm := tableL_sum K 0 hk2 (by decide)
    have H1 := hide (table_any K 0 hk1 hk2 (by omega) w ht)
    have H2 := hide (fun wx (ax : Option Addr) (cx : Nat) (hx : IntzAt wx ax (tableL K 0).length (tableL K 0)) => sum_any ax _ cx (tableL K 0) wx hx (by omega) (by omega))
    clear hlen h
    generalize tableL K 0 = L at *
    generalize sumZ L = S at *
    go_enter Tryd.func6, Tryd.ntmps6
    go_wp2_with fail
    refine (unhide H1).mono ?_
    rintro e w1 ⟨v, rfl, ho, hb1⟩
    obtain ⟨a, c, rfl, hi⟩ := ho.ints
    have H3 := hide (unhide H2 w1 a c hi)
    have HB1 := hide hb1
    have H5 := hide (unhide H4 w1 hb1)
    clear ho hi hb1 H1 H2 H4
    go_wp2_with (first | (go_at_call 13; refine (unhide H3).mono ?_; rintro e w2 ⟨rfl, hw⟩; obtain rfl := hw.symm) | (go_at_call 11; refine (unhide H5).mono ?_; rintro e w4 ⟨rfl, hb4⟩))
    go_ret
    exact ⟨rfl, below0 (unhide HB1) hb4⟩
end Go.Proofs.YthoeimaoljigfaaDoor
