/-
  The walks of the laws WordsXors and WordsTwice: for every input, in every world that holds the table of math/bits, each tells true and writes nothing that was there.
-/
import Derived.Test.YtjpkbkihnkaidaaDoorLA
namespace Go.Proofs.YtjpkbkihnkaidaaDoor
open Go.RowKit
set_option linter.unusedVariables false

theorem same_eq (xs ys : List Nat) (hx : smalls xs) (hy : smalls ys) : decide (firstI (xorL xs ys) < 0) = decide (cnt (xorL xs ys) = 0) := by
  have h1 := firstI_nonneg_iff (xorL xs ys)
  have h2 : cnt (xorL xs ys) = 0 ↔ ∀ x ∈ xorL xs ys, x = 0 := ⟨fun h => zero_of_cnt _ (xorL_small hx hy) h, fun h => cnt_of_zero _ h⟩
  rw [Bool.eq_iff_iff]
  simp only [decide_eq_true_eq]
  rw [h1, h2]
theorem xorL_len {xs ys : List Nat} {n m : Nat} (h : xs.length = n) (h' : ys.length = m) (hn : n ≤ 1000) (hm : m ≤ 1000) : (xorL xs ys).length ≤ 1000 := by
  rw [xorL_length, h, h']; omega
theorem xor_twice (xs ys : List Nat) : decide (firstI (xorL (xorL (xorL xs ys) ys) xs) < 0) = true := by
  rw [decide_eq_true_eq, firstI_nonneg_iff, all_zero_iff]
  intro i
  rw [xorL_getD, xorL_getD, xorL_getD]
  rw [Nat.xor_assoc, Nat.xor_comm (ys.getD i 0) (xs.getD i 0), Nat.xor_self]
theorem xor_swap (xs ys : List Nat) : decide (firstI (xorL (xorL xs ys) (xorL ys xs)) < 0) = true := by
  rw [decide_eq_true_eq, firstI_nonneg_iff, xorL_comm ys xs]
  exact xorL_self_zero _

set_option maxHeartbeats 2000000 in
theorem xors_walk (a : Option Addr) (n c : Nat) (xs : List Nat) (a' : Option Addr) (m c' : Nat) (ys : List Nat) (w : World) (ht : Tab w) (h : RowAt w a n xs) (h' : RowAt w a' m ys) :
    Calls Tryd.prog 5 #[.slice a n c, .slice a' m c'] w fun e w' => e = .returned (.bool true) ∧ Below w.heap.size w w' := by
  by_cases hn : 1000 < n
  · have hd : decide ((1000 : Int) < (n : Int)) = true := by simp; omega
    clear h h'
    go_enter Tryd.func5, Tryd.ntmps5
    go_wp2_with (go_at_call 16; refine (awake_any _ ht).mono ?_; rintro e w5 ⟨rfl, hb⟩)
    go_ret
    exact ⟨rfl, hb⟩
  by_cases hm : 1000 < m
  · have hd : decide ((1000 : Int) < (n : Int)) = false := by simp; omega
    have hd2 : decide ((1000 : Int) < (m : Int)) = true := by simp; omega
    clear h h'
    go_enter Tryd.func5, Tryd.ntmps5
    go_wp2_with (go_at_call 16; refine (awake_any _ ht).mono ?_; rintro e w5 ⟨rfl, hb⟩)
    go_ret
    exact ⟨rfl, hb⟩
  have hd : decide ((1000 : Int) < (n : Int)) = false := by simp; omega
  have hd2 : decide ((1000 : Int) < (m : Int)) = false := by simp; omega
  have hn1 : n ≤ 1000 := by omega
  have hm1 : m ≤ 1000 := by omega
  have hn2 : n ≤ 1048576 := by omega
  have hm2 : m ≤ 1048576 := by omega
  clear hn hm
  go_enter Tryd.func5, Tryd.ntmps5
  go_wp2_with fail
  refine (xor_any a n c xs a' m c' ys _ h h' hn2 hm2).mono ?_
  rintro e w1 ⟨v, rfl, ho, hB1⟩
  obtain ⟨a1, c1, rfl, hr⟩ := ho.row
  clear ho
  go_wp2_with fail
  refine (rxor_any a n c xs a' m c' ys _ (h.below hB1) (h'.below hB1) hn2 hm2).mono ?_
  rintro e w2 ⟨v, rfl, ho, hb⟩
  have hB2 := below0 hB1 hb
  have hr1 := hr.below hb
  obtain ⟨a2, c2, rfl, hr2⟩ := ho.row
  have hl := xorL_len h.1 h'.1 hn1 hm1
  clear ho hb hr hB1
  go_wp2_with fail
  refine (rwords_any _ _ _ _ _ _ _ _ _ hr1 hr2 (by omega) (by omega) rfl).mono ?_
  rintro e w3 ⟨rfl, hb⟩
  have hB3 := below0 hB2 hb
  clear hb hB2 hr1 hr2
  go_wp2_with fail
  refine (same_any a n c xs a' m c' ys _ (ht.below hB3) (h.below hB3) (h'.below hB3) hn2 hm2).mono ?_
  rintro e w4 ⟨rfl, hb⟩
  rw [same_eq xs ys h.2.1 h'.2.1]
  have hB4 := below0 hB3 hb
  clear hb hB3
  go_wp2_with fail
  refine (rsame_any a n c xs a' m c' ys _ (h.below hB4) (h'.below hB4) hn2 hm2).mono ?_
  rintro e w5 ⟨rfl, hb⟩
  have hB5 := below0 hB4 hb
  clear hb hB4
  generalize decide (cnt (xorL xs ys) = 0) = bq at *
  have hbb : (bq == bq) = true := by simp
  go_wp2_with fail
  refine (count_any a n c xs _ (h.below hB5) hn2).mono ?_
  rintro e w' ⟨rfl, hw⟩
  obtain rfl := hw.symm
  go_wp2_with fail
  refine (rcount_any a n c xs _ (h.below hB5) hn2).mono ?_
  rintro e w' ⟨rfl, hw⟩
  obtain rfl := hw.symm
  have hq := beq_int ((cnt xs : Nat) : Int)
  go_wp2_with fail
  refine (first_any a n c xs _ (ht.below hB5) (h.below hB5) hn2).mono ?_
  rintro e w' ⟨rfl, hw⟩
  obtain rfl := hw.symm
  go_wp2_with fail
  refine (rfirst_any a n c xs _ (h.below hB5) hn2).mono ?_
  rintro e w' ⟨rfl, hw⟩
  obtain rfl := hw.symm
  have hf := beq_int (firstI xs)
  go_wp2_with fail
  refine (awake_any _ (ht.below hB5)).mono ?_
  rintro e w6 ⟨rfl, hb⟩
  have HB := hide (below0 hB5 hb)
  clear hb hB5 h h'
  go_wp2
  go_ret
  exact ⟨rfl, unhide HB⟩

set_option maxHeartbeats 2000000 in
theorem twice_walk (a : Option Addr) (n c : Nat) (xs : List Nat) (a' : Option Addr) (m c' : Nat) (ys : List Nat) (w : World) (ht : Tab w) (h : RowAt w a n xs) (h' : RowAt w a' m ys) :
    Calls Tryd.prog 6 #[.slice a n c, .slice a' m c'] w fun e w' => e = .returned (.bool true) ∧ Below w.heap.size w w' := by
  by_cases hn : 1000 < n
  · have hd : decide ((1000 : Int) < (n : Int)) = true := by simp; omega
    clear h h'
    go_enter Tryd.func6, Tryd.ntmps6
    go_wp2_with (go_at_call 16; refine (awake_any _ ht).mono ?_; rintro e w5 ⟨rfl, hb⟩)
    go_ret
    exact ⟨rfl, hb⟩
  by_cases hm : 1000 < m
  · have hd : decide ((1000 : Int) < (n : Int)) = false := by simp; omega
    have hd2 : decide ((1000 : Int) < (m : Int)) = true := by simp; omega
    clear h h'
    go_enter Tryd.func6, Tryd.ntmps6
    go_wp2_with (go_at_call 16; refine (awake_any _ ht).mono ?_; rintro e w5 ⟨rfl, hb⟩)
    go_ret
    exact ⟨rfl, hb⟩
  have hd : decide ((1000 : Int) < (n : Int)) = false := by simp; omega
  have hd2 : decide ((1000 : Int) < (m : Int)) = false := by simp; omega
  have hn1 : n ≤ 1000 := by omega
  have hm1 : m ≤ 1000 := by omega
  have hn2 : n ≤ 1048576 := by omega
  have hm2 : m ≤ 1048576 := by omega
  clear hn hm
  have hl := xorL_len h.1 h'.1 hn1 hm1
  have hl2 := xorL_len (xs := xorL xs ys) rfl h'.1 hl hm1
  have hl3 := xorL_len h'.1 h.1 hm1 hn1
  have hl4 := xorL_len h.1 h.1 hn1 hn1
  go_enter Tryd.func6, Tryd.ntmps6
  go_wp2_with fail
  refine (xor_any a n c xs a' m c' ys _ h h' hn2 hm2).mono ?_
  rintro e w1 ⟨v, rfl, ho, hB1⟩
  obtain ⟨a1, c1, rfl, hr⟩ := ho.row
  clear ho
  go_wp2_with fail
  refine (xor_any _ _ _ _ a' m c' ys _ hr (h'.below hB1) (by omega) hm2).mono ?_
  rintro e w2 ⟨v, rfl, ho, hb⟩
  have hB2 := below0 hB1 hb
  obtain ⟨a2, c2, rfl, hr2⟩ := ho.row
  clear ho hb hr hB1
  go_wp2_with fail
  have hc := same_any _ _ c2 _ a n c xs _ (ht.below hB2) hr2 (h.below hB2) (by omega) hn2
  rw [xor_twice] at hc
  refine hc.mono ?_
  rintro e w3 ⟨rfl, hb⟩
  have hB3 := below0 hB2 hb
  clear hb hB2 hr2 hc
  go_wp2_with fail
  refine (xor_any a n c xs a' m c' ys _ (h.below hB3) (h'.below hB3) hn2 hm2).mono ?_
  rintro e w4 ⟨v, rfl, ho, hb⟩
  have hB4 := below0 hB3 hb
  obtain ⟨a4, c4, rfl, hr⟩ := ho.row
  clear ho hb hB3
  go_wp2_with fail
  refine (xor_any a' m c' ys a n c xs _ (h'.below hB4) (h.below hB4) hm2 hn2).mono ?_
  rintro e w5 ⟨v, rfl, ho, hb⟩
  have hB5 := below0 hB4 hb
  have hr1 := hr.below hb
  obtain ⟨a5, c5, rfl, hr2⟩ := ho.row
  clear ho hb hB4 hr
  go_wp2_with fail
  have hc := same_any _ _ c4 _ _ _ c5 _ _ (ht.below hB5) hr1 hr2 (by omega) (by omega)
  rw [xor_swap] at hc
  refine hc.mono ?_
  rintro e w6 ⟨rfl, hb⟩
  have hB6 := below0 hB5 hb
  clear hb hB5 hr1 hr2 hc
  go_wp2_with fail
  refine (xor_any a n c xs a n c xs _ (h.below hB6) (h.below hB6) hn2 hn2).mono ?_
  rintro e w7 ⟨v, rfl, ho, hb⟩
  have hB7 := below0 hB6 hb
  obtain ⟨a7, c7, rfl, hr⟩ := ho.row
  clear ho hb hB6
  go_wp2_with fail
  have hc := count_any _ _ c7 _ _ hr (by omega)
  rw [cnt_of_zero _ (xorL_self_zero xs)] at hc
  refine hc.mono ?_
  rintro e w' ⟨rfl, hw⟩
  obtain rfl := hw.symm
  clear hr hc
  go_wp2_with fail
  refine (awake_any _ (ht.below hB7)).mono ?_
  rintro e w8 ⟨rfl, hb⟩
  have HB := hide (below0 hB7 hb)
  clear hb hB7 h h'
  go_wp2
  go_ret
  exact ⟨rfl, unhide HB⟩
end Go.Proofs.YtjpkbkihnkaidaaDoor
