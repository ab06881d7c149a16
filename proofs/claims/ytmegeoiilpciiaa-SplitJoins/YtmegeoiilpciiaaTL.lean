/-
  The walks of the five laws of bucketlinelaw09: for every input.
-/
import Derived.Test.YtmegeoiilpciiaaTA
namespace Go.Proofs.Ytmegeoiilpciiaa
open Go.RowKit
set_option linter.unusedVariables false
set_option maxRecDepth 4000

set_option maxHeartbeats 400000 in
theorem plans_walk (n z : Int) (w : World) (hn : n ≤ 9223372036854775807) :
    Calls Try.prog 3 #[.int .i64 n, .int .i64 z] w fun e w' => e = .returned (.bool true) ∧ Below w.heap.size w w' := by
  have H1 := hide (plan_any n z w hn)
  have H2 := hide (rplan_any n z w hn)
  have H3 := hide (awake_any w)
  generalize planE n z = E0 at *
  generalize planK n z = K0 at *
  go_enter Try.func3, Try.ntmps3
  go_wp2_with (first | (go_at_call 8; refine (unhide H1).mono ?_; rintro e w1 ⟨rfl, hw⟩; obtain rfl := hw.symm) | (go_at_call 9; refine (unhide H2).mono ?_; rintro e w1 ⟨rfl, hw⟩; obtain rfl := hw.symm) | (go_at_call 10; refine (unhide H3).mono ?_; rintro e w1 ⟨rfl, hb⟩))
  go_ret
  exact ⟨rfl, hb⟩

theorem below_d {w wk : World} (hB : Below w.heap.size w wk) (d : Nat) : Below w.heap.size w (wk.drewN d) := below_drewN hB d

set_option maxHeartbeats 1000000 in
theorem splits_walk (s : ByteArray) (z : Int) (w : World) (hs : s.size ≤ 9223372036854775807) :
    Calls Try.prog 4 #[.string s, .int .i64 z] w fun e w' => e = .returned (.bool true) ∧ Below w.heap.size w w' := by
  by_cases h : planE (s.size : Int) z = 0
  · obtain ⟨Z, rfl, hz1, hz2, hk2⟩ := plan_yes h
    have H1 := hide (split_yes s Z w hz1 hz2 hk2)
    have H2 := hide (fun wx => rsplit_yes s Z wx hz1 hz2 hk2)
    have HL := hide (blocksL_length (tx s) Z (kc s.size Z))
    clear h
    generalize blocksL (tx s) Z (kc s.size Z) = L at *
    generalize kc s.size Z = k at *
    go_enter Try.func4, Try.ntmps4
    go_wp2_with fail
    refine (unhide H1).mono ?_
    rintro e w1 ⟨v, rfl, ho, hb1⟩
    obtain ⟨a, c, rfl, ht⟩ := ho.texts
    rw [unhide HL] at ht ⊢
    have HT := hide ht
    have HB1 := hide hb1
    clear ho ht hb1 H1
    go_wp2_with fail
    refine (unhide H2 _).mono ?_
    rintro e w2 ⟨v, rfl, ho, hb2⟩
    obtain ⟨a', c', rfl, ht'⟩ := ho.texts
    rw [unhide HL] at ht' ⊢
    have HT2 := hide ((unhide HT).below hb2)
    have HT3 := hide ht'
    have HB2 := hide (below0 (unhide HB1) hb2)
    clear ho ht' hb2 H2 HT HB1
    go_wp2_with fail
    refine (texts_any a k c L a' k c' L _ (unhide HT2) (unhide HT3) (by omega) (by omega)).mono ?_
    rw [decide_eq_true rfl]
    rintro e w3 ⟨rfl, d, hw⟩
    have HB3 := hide (show Below w.heap.size w w3 by rw [hw]; exact below_d (unhide HB2) d)
    clear hw HT2 HT3 HB2
    have H3 := hide (awake_any w3)
    go_wp2_with (go_at_call 10; refine (unhide H3).mono ?_; rintro e w4 ⟨rfl, hb4⟩)
    go_ret
    exact ⟨rfl, below0 (unhide HB3) hb4⟩
  · have H1 := hide (split_no s z w hs h)
    have H2 := hide (rsplit_no s z w hs h)
    have H3 := hide (awake_any w)
    generalize planE (s.size : Int) z = E0 at *
    go_enter Try.func4, Try.ntmps4
    go_wp2_with fail
    refine (unhide H1).mono ?_
    rintro e w1 ⟨rfl, hw⟩
    obtain rfl := hw.symm
    clear hw
    go_wp2_with fail
    refine (unhide H2).mono ?_
    rintro e w1 ⟨rfl, hw⟩
    obtain rfl := hw.symm
    clear hw
    go_wp2_with fail
    refine (texts_any none 0 0 [] none 0 0 [] _ (TextsAt.none _) (TextsAt.none _) (by decide) (by decide)).mono ?_
    rw [decide_eq_true rfl]
    rintro e w3 ⟨rfl, d, hw⟩
    have HB3 := hide (show Below w.heap.size w w3 by rw [hw]; exact below_d (Below.refl _ _) d)
    clear hw H3
    have H3 := hide (awake_any w3)
    go_wp2_with (go_at_call 10; refine (unhide H3).mono ?_; rintro e w4 ⟨rfl, hb4⟩)
    go_ret
    exact ⟨rfl, below0 (unhide HB3) hb4⟩

theorem joinL_len (ss : List ByteArray) (h : ∀ i, i < ss.length → (ss.getD i ByteArray.empty).size ≤ 300) : ∀ k, k ≤ ss.length → (joinL (ss.take k)).length ≤ 300 * k
  | 0, _ => by simp [joinL]
  | k + 1, hk => by
    have h1 := joinL_len ss h k (by omega)
    rw [joinL_take ss k (by omega), List.length_append, tx_length]
    have h2 := h k (by omega)
    omega

set_option maxHeartbeats 1000000 in
theorem joins_walk (a : Option Addr) (l c : Nat) (ss : List ByteArray) (n : Int) (w : World) (h : TextsAt w a l ss) (hl : l ≤ 9223372036854775807) (hn : n ≤ 9223372036854775807) (hn0 : -9223372036854775808 ≤ n) :
    Calls Try.prog 5 #[.slice a l c, .int .i64 n] w fun e w' => e = .returned (.bool true) ∧ Below w.heap.size w w' := by
  obtain rfl := h.1
  by_cases hbig : 300 < ss.length
  · have H3 := hide (awake_any w)
    clear h
    go_enter Try.func5, Try.ntmps5
    go_wp2_with (go_at_call 10; refine (unhide H3).mono ?_; rintro e w4 ⟨rfl, hb4⟩)
    go_ret
    exact ⟨rfl, hb4⟩
  · have hle : ss.length ≤ 300 := by omega
    go_enter Try.func5, Try.ntmps5
    go_wp2_with fail
    go_loop [5] (fun i => ∃ k : Nat, k ≤ ss.length ∧ i = .int .i64 k ∧ Hid (∀ j, j < k → (ss.getD j ByteArray.empty).size ≤ 300)) (fun i => ss.length - (intOf i).toNat)
    case atStart => exact ⟨0, Nat.zero_le _, rfl, hide (fun j hj => by omega)⟩
    case round =>
      obtain ⟨k, hk, rfl, HA⟩ := hrel
      by_cases hlt : k < ss.length
      · obtain ⟨b, off, rfl, hc⟩ := h.at hlt
        have hcell := hc k hlt
        have HN := hide (show (ss.getD k ByteArray.empty).size ≤ 300 → ∀ j, j < k + 1 → (ss.getD j ByteArray.empty).size ≤ 300 from fun h0 j hj => by
          by_cases e : j = k
          · subst e; exact h0
          · exact unhide HA j (by omega))
        have hlt' : (k : Int) < (ss.length : Int) := by omega
        generalize ss.getD k ByteArray.empty = t at *
        by_cases ht : t.size ≤ 300
        · have ht' : (t.size : Int) ≤ 300 := by omega
          have HN2 := hide (unhide HN ht)
          clear HN HA hc h
          go_wp2_with fail
          go_round
          case rel => exact ⟨k + 1, by omega, by go_num, HN2⟩
          case measure => simp [intOf]; omega
        · have ht' : 300 < (t.size : Int) := by omega
          have H3 := hide (awake_any w)
          clear HN HA hc h
          go_wp2_with (go_at_call 10; refine (unhide H3).mono ?_; rintro e w4 ⟨rfl, hb4⟩)
          go_ret
          exact ⟨rfl, hb4⟩
      · obtain rfl : k = ss.length := by omega
        have hjl := joinL_len ss (unhide HA) ss.length (Nat.le_refl _)
        rw [List.take_length] at hjl
        have H2 := hide (fun wx hx => rjoin_any a ss.length c ss n wx (h.below hx) (by omega) (by omega))
        by_cases hb : n < 0 ∨ ((joinL ss).length : Int) < n
        · have H1 := hide (join_no a ss.length c ss n w h (by omega) hn hb)
          rw [if_pos hb] at H2
          have H3 := hide (awake_any w)
          clear hb h HA
          go_wp2_with (first | (go_at_call 14; refine (unhide H1).mono ?_; rintro e w1 ⟨rfl, hw⟩; obtain rfl := hw.symm) | (go_at_call 15; refine (unhide H2 _ (Below.refl _ _)).mono ?_; rintro e w1 ⟨rfl, hw⟩; obtain rfl := hw.symm) | (go_at_call 10; refine (unhide H3).mono ?_; rintro e w4 ⟨rfl, hb4⟩))
          go_ret
          exact ⟨rfl, hb4⟩
        · rw [if_neg hb] at H2
          obtain ⟨N, rfl⟩ : ∃ N : Nat, n = (N : Int) := ⟨n.toNat, by omega⟩
          have H1 := hide (join_yes a ss.length c ss N w h (by omega) (by omega) (by omega))
          rw [Int.toNat_natCast] at H2
          generalize st ((joinL ss).take N) = t at *
          clear hb h HA
          go_wp2_with fail
          refine (unhide H1).mono ?_
          rintro e w1 ⟨rfl, hb1⟩
          have H2' := hide (unhide H2 _ hb1)
          have H3 := hide (awake_any w1)
          have HB1 := hide hb1
          clear H2 H1 hb1
          go_wp2_with (first | (go_at_call 15; refine (unhide H2').mono ?_; rintro e w1 ⟨rfl, hw⟩; obtain rfl := hw.symm) | (go_at_call 10; refine (unhide H3).mono ?_; rintro e w4 ⟨rfl, hb4⟩))
          go_ret
          exact ⟨rfl, below0 (unhide HB1) hb4⟩

set_option maxHeartbeats 1000000 in
theorem back_walk (s : ByteArray) (z : Int) (w : World) (hs : s.size ≤ 9223372036854775807) :
    Calls Try.prog 6 #[.string s, .int .i64 z] w fun e w' => e = .returned (.bool true) ∧ Below w.heap.size w w' := by
  by_cases h : planE (s.size : Int) z = 0
  · obtain ⟨Z, rfl, hz1, hz2, hk2⟩ := plan_yes h
    have H1 := hide (split_yes s Z w hz1 hz2 hk2)
    have hp := fun wx => plan_any (s.size : Int) (Z : Int) wx (by omega)
    rw [(plan_ok hz1 hz2 hk2).1, (plan_ok hz1 hz2 hk2).2] at hp
    have H2 := hide hp
    have HL := hide (blocksL_length (tx s) Z (kc s.size Z))
    have hke := kc_enough s.size Z hz1
    have hk1 := kc_pos s.size Z
    have hs8 : s.size ≤ 8192 := by
      have h2 : kc s.size Z * Z ≤ 128 * 64 := Nat.mul_le_mul hk2 hz2
      omega
    have HG := hide (fun i (hi : i < kc s.size Z) => show ((blocksL (tx s) Z (kc s.size Z)).getD i ByteArray.empty).size = Z by rw [blocks_get _ _ _ _ hi, st_len, blk_length])
    have HJ := hide (show st ((joinL (blocksL (tx s) Z (kc s.size Z))).take s.size) = s by
      have h1 := join_back (tx_bytes s) Z (kc s.size Z) hk1 (by rw [tx_length]; exact hke) (by
        rw [tx_length]
        by_cases e : kc s.size Z = 1
        · exact .inl e
        · exact .inr ((kc_great s.size Z (kc s.size Z - 1) hz1 (by omega)).1 (by omega)))
      rw [tx_length] at h1
      rw [h1, st_tx])
    have HJT := hide (show s.size ≤ (joinL (blocksL (tx s) Z (kc s.size Z))).length by rw [joinL_total]; exact hke)
    clear h hp hke
    generalize blocksL (tx s) Z (kc s.size Z) = L at *
    generalize kc s.size Z = k at *
    go_enter Try.func6, Try.ntmps6
    go_wp2_with fail
    refine (unhide H1).mono ?_
    rintro e w1 ⟨v, rfl, ho, hb1⟩
    obtain ⟨a, c, rfl, ht⟩ := ho.texts
    rw [unhide HL] at ht ⊢
    have HT := hide ht
    have HB1 := hide hb1
    clear ho ht hb1 H1
    go_wp2_with (go_at_call 8; refine (unhide H2 _).mono ?_; rintro e w2 ⟨rfl, hw⟩; obtain rfl := hw.symm)
    go_loop [9] (fun i => ∃ j : Nat, j ≤ k ∧ i = .int .i64 j) (fun i => k - (intOf i).toNat)
    case atStart => exact ⟨0, Nat.zero_le _, rfl⟩
    case round =>
      obtain ⟨j, hj, rfl⟩ := hrel
      by_cases hlt : j < k
      · obtain ⟨b, off, rfl, hc⟩ := (unhide HT).at hlt
        have hcell := hc j hlt
        have hg := unhide HG j hlt
        have hlt' : (j : Int) < (k : Int) := by omega
        generalize L.getD j ByteArray.empty = t at *
        have hgi : (t.size : Int) = (Z : Int) := by omega
        clear hc hg HG
        go_wp2_with fail
        go_round
        case rel => exact ⟨j + 1, by omega, by go_num⟩
        case measure => simp [intOf]; omega
      · obtain rfl : j = k := by omega
        have hj2 := join_yes a j c L s.size w1 (unhide HT) (by omega) (by omega) (unhide HJT)
        rw [unhide HJ] at hj2
        have H3 := hide hj2
        clear hj2 HT HG
        go_wp2_with fail
        refine (unhide H3).mono ?_
        rintro e w3 ⟨rfl, hb3⟩
        have HB3 := hide (below0 (unhide HB1) hb3)
        have H4 := hide (awake_any w3)
        have hk1i : (1 : Int) ≤ (j : Int) := by omega
        have hk2i : (j : Int) ≤ 128 := by omega
        clear H3 hb3 HB1
        go_wp2_with (go_at_call 10; refine (unhide H4).mono ?_; rintro e w4 ⟨rfl, hb4⟩)
        go_ret
        exact ⟨rfl, below0 (unhide HB3) hb4⟩
  · have H1 := hide (split_no s z w hs h)
    have H2 := hide (plan_any (s.size : Int) z w (by omega))
    have H3 := hide (awake_any w)
    generalize planE (s.size : Int) z = E0 at *
    generalize planK (s.size : Int) z = K0 at *
    go_enter Try.func6, Try.ntmps6
    go_wp2_with (first | (go_at_call 11; refine (unhide H1).mono ?_; rintro e w1 ⟨rfl, hw⟩; obtain rfl := hw.symm) | (go_at_call 8; refine (unhide H2).mono ?_; rintro e w1 ⟨rfl, hw⟩; obtain rfl := hw.symm) | (go_at_call 10; refine (unhide H3).mono ?_; rintro e w4 ⟨rfl, hb4⟩))
    go_ret
    exact ⟨rfl, hb4⟩

set_option maxHeartbeats 1000000 in
theorem more_walk (s : ByteArray) (z : Int) (w : World) (hs : s.size ≤ 9223372036854775807) :
    Calls Try.prog 7 #[.string s, .int .i64 z] w fun e w' => e = .returned (.bool true) ∧ Below w.heap.size w w' := by
  by_cases h : planE (s.size : Int) z = 0
  · obtain ⟨Z, rfl, hz1, hz2, hk2⟩ := plan_yes h
    have H1 := hide (split_yes s Z w hz1 hz2 hk2)
    have HL := hide (blocksL_length (tx s) Z (kc s.size Z))
    have hke := kc_enough s.size Z hz1
    have hkz : kc s.size Z * Z ≤ 128 * 64 := Nat.mul_le_mul hk2 hz2
    have emul : ((kc s.size Z : Nat) : Int) * (Z : Int) = ((kc s.size Z * Z : Nat) : Int) := by simp
    have hadd : (9223372036854775807 < s.size + (ByteArray.mk #[0]).size) = False := by
      have : (ByteArray.mk #[0]).size = 1 := rfl
      rw [this]
      simp
      omega
    have H2 : Hid (s.size < kc s.size Z * Z → ∀ wx, Calls Try.prog 11 #[.string (s ++ ⟨#[0]⟩), .int .i64 (Z : Int)] wx fun e w' => ∃ v, e = .returned (.tuple #[v, .int .i64 0]) ∧ OwnT w' wx.heap.size v (blocksL (tx s) Z (kc s.size Z)) ∧ Below wx.heap.size wx w') := hide (fun hr wx => by
      have e1 : (s ++ ⟨#[0]⟩ : ByteArray).size = s.size + 1 := by rw [ByteArray.size_append]; rfl
      have e2 : tx (s ++ ⟨#[0]⟩) = tx s ++ [0] := by rw [tx_append]; rfl
      have e3 := kc_more s.size Z hz1 hr
      have := split_yes (s ++ ⟨#[0]⟩) Z wx hz1 hz2 (by rw [e1, e3]; exact hk2)
      rw [e1, e2, e3, blocks_more] at this
      exact this)
    clear h
    generalize blocksL (tx s) Z (kc s.size Z) = L at *
    generalize kc s.size Z = k at *
    go_enter Try.func7, Try.ntmps7
    go_wp2_with fail
    refine (unhide H1).mono ?_
    rintro e w1 ⟨v, rfl, ho, hb1⟩
    obtain ⟨a, c, rfl, ht⟩ := ho.texts
    rw [unhide HL] at ht ⊢
    have HT := hide ht
    have HB1 := hide hb1
    clear ho ht hb1 H1
    by_cases hr : s.size < k * Z
    · have H2' := hide (unhide H2 hr w1)
      have hri : (s.size : Int) < ((k * Z : Nat) : Int) := by omega
      generalize k * Z = m at *
      clear H2 hr
      go_wp2_with fail
      refine (unhide H2').mono ?_
      rintro e w2 ⟨v, rfl, ho, hb2⟩
      obtain ⟨a', c', rfl, ht'⟩ := ho.texts
      rw [unhide HL] at ht' ⊢
      have HT2 := hide ((unhide HT).below hb2)
      have HT3 := hide ht'
      have HB2 := hide (below0 (unhide HB1) hb2)
      clear ho ht' hb2 H2' HT HB1
      go_wp2_with fail
      refine (texts_any a k c L a' k c' L _ (unhide HT2) (unhide HT3) (by omega) (by omega)).mono ?_
      rw [decide_eq_true rfl]
      rintro e w3 ⟨rfl, d, hw⟩
      have HB3 := hide (show Below w.heap.size w w3 by rw [hw]; exact below_d (unhide HB2) d)
      clear hw HT2 HT3 HB2
      have H3 := hide (awake_any w3)
      go_wp2_with (go_at_call 10; refine (unhide H3).mono ?_; rintro e w4 ⟨rfl, hb4⟩)
      go_ret
      exact ⟨rfl, below0 (unhide HB3) hb4⟩
    · have hri : ((k * Z : Nat) : Int) ≤ (s.size : Int) := by omega
      generalize k * Z = m at *
      clear H2 HT hr
      have H3 := hide (awake_any w1)
      go_wp2_with (go_at_call 10; refine (unhide H3).mono ?_; rintro e w4 ⟨rfl, hb4⟩)
      go_ret
      exact ⟨rfl, below0 (unhide HB1) hb4⟩
  · have H1 := hide (split_no s z w hs h)
    have H3 := hide (awake_any w)
    generalize planE (s.size : Int) z = E0 at *
    go_enter Try.func7, Try.ntmps7
    go_wp2_with (first | (go_at_call 11; refine (unhide H1).mono ?_; rintro e w1 ⟨rfl, hw⟩; obtain rfl := hw.symm) | (go_at_call 10; refine (unhide H3).mono ?_; rintro e w4 ⟨rfl, hb4⟩))
    go_ret
    exact ⟨rfl, hb4⟩
end Go.Proofs.Ytmegeoiilpciiaa
