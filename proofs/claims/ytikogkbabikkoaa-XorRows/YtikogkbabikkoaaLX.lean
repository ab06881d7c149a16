/-
  The walks of the laws XorTwice, XorTexts, XorOf, XorTrue: for every input each tells true and writes nothing that was there.
-/
import Derived.Test.YtikogkbabikkoaaAX
import Derived.Test.YtikogkbabikkoaaHo
namespace Go.Proofs.Ytikogkbabikkoaa
open Go.RowKit Go.Sort
set_option linter.unusedVariables false
set_option maxRecDepth 4000

theorem xorS_twice (a b : ByteArray) (h : b.size ≤ a.size) : xorS (xorS a b) b = a := by
  apply tx_inj
  rw [tx_xorS, tx_xorS]
  apply ext_getD
  · rw [xorL_length, xorL_length, tx_length, tx_length]; omega
  · intro i _
    rw [xorL_getD, xorL_getD, Nat.xor_assoc, Nat.xor_self, Nat.xor_zero]
theorem xorS_none (a : ByteArray) : xorS a ⟨#[]⟩ = a := by
  apply tx_inj
  rw [tx_xorS]
  exact xorL_nil _

set_option maxHeartbeats 1000000 in
theorem twice_walk (a b : ByteArray) (w : World) (ha : a.size ≤ 9223372036854775807) (hb : b.size ≤ 9223372036854775807) :
    Calls Try.prog 6 #[.string a, .string b] w fun e w' => e = .returned (.bool true) ∧ Below w.heap.size w w' := by
  by_cases h1 : 10000 < a.size
  · have hd1 : decide (10000 < (a.size : Int)) = true := by simp; omega
    go_enter Try.func6, Try.ntmps6
    go_wp2_with fail
    refine (awake_any _).mono ?_
    rintro e w1 ⟨rfl, hb1⟩
    go_wp2
    go_ret
    exact ⟨rfl, hb1⟩
  have hd1 : decide (10000 < (a.size : Int)) = false := by simp; omega
  by_cases h2 : a.size < b.size
  · have hd2 : decide ((a.size : Int) < (b.size : Int)) = true := by simp; omega
    go_enter Try.func6, Try.ntmps6
    go_wp2_with fail
    refine (awake_any _).mono ?_
    rintro e w1 ⟨rfl, hb1⟩
    go_wp2
    go_ret
    exact ⟨rfl, hb1⟩
  have hd2 : decide ((a.size : Int) < (b.size : Int)) = false := by simp; omega
  have hA : a.size ≤ 1048576 := by omega
  have hB : b.size ≤ 1048576 := by omega
  have hx : Hid ((xorS a b).size ≤ 1048576) := hide (by rw [xorS_size]; omega)
  have e1 := hide (xorS_twice a b (by omega))
  have q1 := q_same a
  have q2 := q_same (xorS a b)
  go_enter Try.func6, Try.ntmps6
  go_wp2_with fail
  refine (xx_any _ _ _ hA hB).mono ?_
  rintro e w1 ⟨rfl, hb1⟩
  go_wp2_with fail
  refine (xx_any _ _ _ (unhide hx) hB).mono ?_
  rintro e w2 ⟨rfl, hb2⟩
  rw [unhide e1]
  have B2 := hide (below0 hb1 hb2)
  clear hb1 hb2
  go_wp2_with fail
  refine (xx_any _ _ _ hA hB).mono ?_
  rintro e w3 ⟨rfl, hb3⟩
  go_wp2_with fail
  refine (xx_any _ _ _ hB hA).mono ?_
  rintro e w4 ⟨rfl, hb4⟩
  rw [rx_swap b a]
  have B4 := hide (below0 (below0 (unhide B2) hb3) hb4)
  clear hb3 hb4 B2
  go_wp2_with fail
  refine (xx_any _ _ _ hA (by decide)).mono ?_
  rintro e w5 ⟨rfl, hb5⟩
  rw [xorS_none]
  have B5 := hide (below0 (unhide B4) hb5)
  clear hb5 B4
  go_wp2_with fail
  refine (awake_any _).mono ?_
  rintro e w6 ⟨rfl, hb6⟩
  have B6 := hide (below0 (unhide B5) hb6)
  clear hb6 B5
  go_wp2
  go_ret
  exact ⟨rfl, unhide B6⟩

set_option maxHeartbeats 1000000 in
theorem texts_walk (a b : ByteArray) (l : Option Addr) (n c : Nat) (ss : List ByteArray) (w : World) (ha : a.size ≤ 9223372036854775807) (hb : b.size ≤ 9223372036854775807) (h : TextsAt w l n ss) (hn : n ≤ 9223372036854775807) :
    Calls Try.prog 3 #[.string a, .string b, .slice l n c] w fun e w' => e = .returned (.bool true) ∧ Below w.heap.size w w' := by
  by_cases h1 : 10000 < a.size
  · have hd1 : decide (10000 < (a.size : Int)) = true := by simp; omega
    go_enter Try.func3, Try.ntmps3
    go_wp2_with fail
    refine (awake_any _).mono ?_
    rintro e w1 ⟨rfl, hb1⟩
    go_wp2
    go_ret
    exact ⟨rfl, hb1⟩
  have hd1 : decide (10000 < (a.size : Int)) = false := by simp; omega
  by_cases h2 : 10000 < b.size
  · have hd2 : decide (10000 < (b.size : Int)) = true := by simp; omega
    go_enter Try.func3, Try.ntmps3
    go_wp2_with fail
    refine (awake_any _).mono ?_
    rintro e w1 ⟨rfl, hb1⟩
    go_wp2
    go_ret
    exact ⟨rfl, hb1⟩
  have hd2 : decide (10000 < (b.size : Int)) = false := by simp; omega
  have hA : a.size ≤ 1048576 := by omega
  have hB : b.size ≤ 1048576 := by omega
  have q1 := q_same (xorS a b)
  have q2 := q_same (st (sumL ss))
  have H := hide h
  clear h
  go_enter Try.func3, Try.ntmps3
  go_wp2_with fail
  refine (few_any _ _ _ ss _ (unhide H) hn).mono ?_
  rintro e w0 ⟨⟨bf, rfl, hf⟩, hw⟩
  subst hw
  cases bf
  · clear hf
    go_wp2_with fail
    refine (awake_any _).mono ?_
    rintro e w1 ⟨rfl, hb1⟩
    go_wp2
    go_ret
    exact ⟨rfl, hb1⟩
  · have F := hide (hf.1 rfl)
    have hn1 : n ≤ 1048576 := by rw [← (unhide H).1]; have := (unhide F).1; omega
    clear hf
    go_wp2_with fail
    refine (xx_any _ _ _ hA hB).mono ?_
    rintro e w1 ⟨rfl, hb1⟩
    go_wp2_with fail
    refine (rx_any _ _ _ hA hB).mono ?_
    rintro e w2 ⟨rfl, hb2⟩
    have B2 := hide (below0 hb1 hb2)
    have H2 := hide ((unhide H).below (unhide B2))
    clear hb1 hb2
    go_wp2_with fail
    refine (sum_any _ _ _ ss _ (unhide H2) (unhide F).shorts hn1).mono ?_
    rintro e w3 ⟨rfl, hb3⟩
    have H3 := hide ((unhide H2).below hb3)
    have B3 := hide (below0 (unhide B2) hb3)
    clear H2 B2 hb3
    go_wp2_with fail
    refine (rsum_any _ _ _ ss _ (unhide H3) (unhide F).shorts hn1).mono ?_
    rintro e w4 ⟨rfl, hb4⟩
    have B4 := hide (below0 (unhide B3) hb4)
    clear H3 B3 hb4
    go_wp2_with fail
    refine (awake_any _).mono ?_
    rintro e w6 ⟨rfl, hb6⟩
    have B6 := hide (below0 (unhide B4) hb6)
    clear hb6 B4
    go_wp2
    go_ret
    exact ⟨rfl, unhide B6⟩

set_option maxHeartbeats 1000000 in
theorem of_walk (l : Option Addr) (n c : Nat) (ss : List ByteArray) (a' : Option Addr) (m c' : Nat) (vs : List Nat) (w : World) (h : TextsAt w l n ss) (hn : n ≤ 9223372036854775807) (h' : RowAt w a' m vs) (hm : m ≤ 9223372036854775807) :
    Calls Try.prog 4 #[.slice l n c, .slice a' m c'] w fun e w' => e = .returned (.bool true) ∧ Below w.heap.size w w' := by
  have q1 := q_same (st (ofL ss vs n))
  have H := hide h
  have H' := hide h'
  clear h h'
  go_enter Try.func4, Try.ntmps4
  go_wp2_with fail
  refine (few_any _ _ _ ss _ (unhide H) hn).mono ?_
  rintro e w0 ⟨⟨bf, rfl, hf⟩, hw⟩
  subst hw
  cases bf
  · clear hf
    go_wp2_with fail
    refine (awake_any _).mono ?_
    rintro e w1 ⟨rfl, hb1⟩
    go_wp2
    go_ret
    exact ⟨rfl, hb1⟩
  · have F := hide (hf.1 rfl)
    have hn1 : n ≤ 1048576 := by rw [← (unhide H).1]; have := (unhide F).1; omega
    clear hf
    by_cases h2 : 100 < m
    · have hd2 : decide (100 < (m : Int)) = true := by simp; omega
      go_wp2_with fail
      refine (awake_any _).mono ?_
      rintro e w1 ⟨rfl, hb1⟩
      go_wp2
      go_ret
      exact ⟨rfl, hb1⟩
    · have hd2 : decide (100 < (m : Int)) = false := by simp; omega
      go_wp2_with fail
      refine (of_any _ _ _ ss _ _ _ vs _ (unhide H) (unhide F).shorts hn1 (unhide H') (by omega)).mono ?_
      rintro e w1 ⟨rfl, hb1⟩
      have B1 := hide hb1
      have H1 := hide ((unhide H).below hb1)
      have H1' := hide ((unhide H').below hb1)
      clear hb1
      go_wp2_with fail
      refine (rof_any _ _ _ ss _ _ _ vs _ (unhide H1) (unhide F).shorts hn1 (unhide H1') (by omega)).mono ?_
      rintro e w2 ⟨rfl, hb2⟩
      have B2 := hide (below0 (unhide B1) hb2)
      clear hb2 B1 H1 H1'
      go_wp2_with fail
      refine (awake_any _).mono ?_
      rintro e w6 ⟨rfl, hb6⟩
      have B6 := hide (below0 (unhide B2) hb6)
      clear hb6 B2
      go_wp2
      go_ret
      exact ⟨rfl, unhide B6⟩

end Go.Proofs.Ytikogkbabikkoaa
