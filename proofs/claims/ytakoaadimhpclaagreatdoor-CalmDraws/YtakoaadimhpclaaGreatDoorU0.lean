/-
  Plain mathematics of rows of words: bits, xors, counts, the first bit. Of no program. No condition but that words are below 2^64 where it is said.
-/
import Derived.Lib.TrailingZeros
import Derived.Laws.BitsAllLaws
namespace Go.Proofs.YtakoaadimhpclaaGreatDoor

theorem ext_getD {a b : List Nat} (hl : a.length = b.length) (h : ∀ i, i < a.length → a.getD i 0 = b.getD i 0) : a = b := by
  apply List.ext_getElem hl
  intro i h1 h2
  have := h i h1
  simpa [List.getD_eq_getElem?_getD, List.getElem?_eq_getElem h1, List.getElem?_eq_getElem h2] using this
theorem getD_of_le {a : List Nat} {i : Nat} (h : a.length ≤ i) : a.getD i 0 = 0 := by
  simp [List.getD_eq_getElem?_getD, List.getElem?_eq_none h]
theorem getD_range_map (n : Nat) (f : Nat → Nat) (i : Nat) : ((List.range n).map f).getD i 0 = if i < n then f i else 0 := by
  rw [List.getD_eq_getElem?_getD]
  by_cases h : i < n
  · simp [h]
  · simp [h]
theorem getD_set (a : List Nat) (j i x : Nat) : (a.set j x).getD i 0 = if i = j ∧ j < a.length then x else a.getD i 0 := by
  rw [List.getD_eq_getElem?_getD, List.getD_eq_getElem?_getD, List.getElem?_set]
  by_cases h : j = i
  · subst h
    by_cases h2 : j < a.length
    · simp [h2]
    · simp [h2]
  · have h' : ¬ i = j := fun e => h e.symm
    simp [h, h']

/-- The xor of two rows, as long as the longer one. -/
def xorL (a b : List Nat) : List Nat := (List.range (max a.length b.length)).map fun i => a.getD i 0 ^^^ b.getD i 0
theorem xorL_length (a b : List Nat) : (xorL a b).length = max a.length b.length := by simp [xorL]
theorem xorL_getD (a b : List Nat) (i : Nat) : (xorL a b).getD i 0 = a.getD i 0 ^^^ b.getD i 0 := by
  unfold xorL
  rw [getD_range_map]
  split
  · rfl
  · rw [getD_of_le (a := a) (by omega), getD_of_le (a := b) (by omega)]; rfl
theorem xorL_comm (a b : List Nat) : xorL a b = xorL b a := by
  apply ext_getD
  · simp [xorL_length, Nat.max_comm]
  · intro i _; rw [xorL_getD, xorL_getD, Nat.xor_comm]
/-- So far. -/
def xorTo (a b : List Nat) (k : Nat) : List Nat := (List.range a.length).map fun i => if i < k then a.getD i 0 ^^^ b.getD i 0 else a.getD i 0
theorem xorTo_length (a b : List Nat) (k : Nat) : (xorTo a b k).length = a.length := by simp [xorTo]
theorem xorTo_getD (a b : List Nat) (k i : Nat) (h : i < a.length) : (xorTo a b k).getD i 0 = if i < k then a.getD i 0 ^^^ b.getD i 0 else a.getD i 0 := by
  unfold xorTo; rw [getD_range_map, if_pos h]
theorem xorTo_zero (a b : List Nat) : xorTo a b 0 = a := by
  apply ext_getD (xorTo_length a b 0)
  intro i h; rw [xorTo_getD a b 0 i (by rwa [xorTo_length] at h)]; simp
theorem xorTo_succ (a b : List Nat) (k : Nat) (hk : k < a.length) : (xorTo a b k).set k (a.getD k 0 ^^^ b.getD k 0) = xorTo a b (k + 1) := by
  apply ext_getD
  · simp [xorTo_length]
  · intro i h
    have hi : i < a.length := by simpa [xorTo_length] using h
    rw [getD_set, xorTo_getD a b k i hi, xorTo_getD a b (k + 1) i hi, xorTo_length]
    by_cases e : i = k
    · subst e; simp [hk]
    · simp only [e, false_and, if_false]
      by_cases h1 : i < k
      · simp [h1, Nat.lt_succ_of_lt h1]
      · simp [h1, show ¬ i < k + 1 by omega]
theorem xorTo_all (a b : List Nat) (h : b.length ≤ a.length) : xorTo a b b.length = xorL a b := by
  apply ext_getD
  · rw [xorTo_length, xorL_length]; omega
  · intro i hi
    have hi' : i < a.length := by rwa [xorTo_length] at hi
    rw [xorTo_getD a b _ i hi', xorL_getD]
    split
    · rfl
    · rw [getD_of_le (a := b) (by omega)]; simp

/-- One bit of a word set or cleared. -/
def setW (x k : Nat) (on : Bool) : Nat := if x.testBit k = on then x else x ^^^ 2 ^ k
def setB (xs : List Nat) (i : Nat) (on : Bool) : List Nat := xs.set (i / 64) (setW (xs.getD (i / 64) 0) (i % 64) on)
/-- Bit i of a row. -/
def getB (xs : List Nat) (i : Nat) : Bool := (xs.getD (i / 64) 0).testBit (i % 64)
theorem setB_length (xs : List Nat) (i : Nat) (on : Bool) : (setB xs i on).length = xs.length := by simp [setB]
theorem setB_out (xs : List Nat) (i : Nat) (on : Bool) (h : xs.length ≤ i / 64) : setB xs i on = xs := by
  unfold setB; exact List.set_eq_of_length_le h
theorem or_setW (x k : Nat) : x ||| 2 ^ k = setW x k true := by
  unfold setW
  apply Nat.eq_of_testBit_eq
  intro i
  rw [Nat.testBit_or, Nat.testBit_two_pow]
  by_cases e : k = i
  · subst e
    cases h : x.testBit k <;> simp [h, Nat.testBit_xor]
  · split <;> simp [e, Nat.testBit_xor]
theorem andNot_setW (x k : Nat) (hx : x < 18446744073709551616) (hk : k < 64) : x &&& (18446744073709551615 - 2 ^ k) = setW x k false := by
  have h2 : 2 ^ k < 2 ^ 64 := Nat.pow_lt_pow_right (by decide) hk
  unfold setW
  apply Nat.eq_of_testBit_eq
  intro i
  have e1 : 18446744073709551615 - 2 ^ k = 2 ^ 64 - (2 ^ k + 1) := by omega
  rw [Nat.testBit_and, e1, Nat.testBit_two_pow_sub_succ h2, Nat.testBit_two_pow]
  by_cases hi : i < 64
  · by_cases e : k = i
    · subst e
      cases h : x.testBit k <;> simp [h, Nat.testBit_xor]
    · split <;> simp [e, hi, Nat.testBit_xor]
  · have hz : x.testBit i = false := Nat.testBit_lt_two_pow (Nat.lt_of_lt_of_le (show x < 2 ^ 64 by omega) (Nat.pow_le_pow_right (by decide) (by omega)))
    have e : ¬ k = i := by omega
    split <;> simp [hz, e, Nat.testBit_xor]
theorem setW_lt (x k : Nat) (on : Bool) (hx : x < 18446744073709551616) (hk : k < 64) : setW x k on < 18446744073709551616 := by
  have h2 : 2 ^ k < 2 ^ 64 := Nat.pow_lt_pow_right (by decide) hk
  unfold setW
  split
  · exact hx
  · exact Nat.xor_lt_two_pow (n := 64) (by omega) h2

/-- How many bits of a number below 2^f. -/
def popF : Nat → Nat → Nat
  | 0, _ => 0
  | f + 1, x => x % 2 + popF f (x / 2)
def pop (x : Nat) : Nat := popF 64 x
theorem popF_zero : ∀ f, popF f 0 = 0
  | 0 => rfl
  | f + 1 => by simp [popF, popF_zero f]
theorem popF_le : ∀ f x, popF f x ≤ f
  | 0, _ => Nat.le_refl _
  | f + 1, x => by have := popF_le f (x / 2); simp only [popF]; omega
theorem popF_more : ∀ f g x, x < 2 ^ f → popF (f + g) x = popF f x
  | 0, g, x, h => by
    have : x = 0 := by simpa using h
    subst this; rw [popF_zero, popF_zero]
  | f + 1, g, x, h => by
    rw [show f + 1 + g = (f + g) + 1 by omega]
    simp only [popF]
    rw [popF_more f g (x / 2) (by rw [Nat.pow_succ] at h; omega)]
theorem pop_step (x : Nat) (h : x < 18446744073709551616) : pop x = x % 2 + pop (x / 2) := by
  unfold pop
  rw [show (64 : Nat) = 63 + 1 from rfl]
  rw [popF_more 63 1 (x / 2) (by rw [show (2 : Nat) ^ 63 = 9223372036854775808 by decide]; omega)]
  rfl
theorem pop_le (x : Nat) : pop x ≤ 64 := popF_le 64 x
theorem pop_zero : pop 0 = 0 := popF_zero 64
def cnt (xs : List Nat) : Nat := (xs.map pop).sum
theorem cnt_nil : cnt [] = 0 := rfl
theorem cnt_cons (x : Nat) (xs : List Nat) : cnt (x :: xs) = pop x + cnt xs := by simp [cnt]
theorem cnt_append (a b : List Nat) : cnt (a ++ b) = cnt a + cnt b := by simp [cnt]
theorem cnt_le (xs : List Nat) : cnt xs ≤ 64 * xs.length := by
  induction xs with
  | nil => simp [cnt_nil]
  | cons x xs ih => rw [cnt_cons]; have := pop_le x; simp only [List.length_cons]; omega
theorem cnt_take (xs : List Nat) (k : Nat) (h : k < xs.length) : cnt (xs.take (k + 1)) = cnt (xs.take k) + pop (xs.getD k 0) := by
  rw [List.take_succ_eq_append_getElem h, cnt_append]
  simp [cnt, List.getD_eq_getElem?_getD, List.getElem?_eq_getElem h]
theorem cnt_zero_of (xs : List Nat) (h : ∀ i, i < xs.length → xs.getD i 0 = 0) : cnt xs = 0 := by
  induction xs with
  | nil => rfl
  | cons x xs ih =>
    have h0 := h 0 (by simp)
    have h1 : ∀ i, i < xs.length → xs.getD i 0 = 0 := fun i hi => by
      have := h (i + 1) (by simp; omega)
      simpa using this
    simp at h0
    rw [cnt_cons, ih h1, h0, pop_zero]

theorem all_zero_iff (xs : List Nat) : (∀ x ∈ xs, x = 0) ↔ ∀ i, xs.getD i 0 = 0 := by
  constructor
  · intro h i
    rw [List.getD_eq_getElem?_getD]
    cases hx : xs[i]? with
    | none => rfl
    | some x => exact h x (List.mem_of_getElem? hx)
  · intro h x hx
    obtain ⟨i, hi, rfl⟩ := List.getElem_of_mem hx
    have := h i
    simpa [List.getD_eq_getElem?_getD, List.getElem?_eq_getElem hi] using this
theorem xorL_self_zero (a : List Nat) : ∀ x ∈ xorL a a, x = 0 := by
  rw [all_zero_iff]; intro i; rw [xorL_getD]; simp
theorem cnt_of_zero (xs : List Nat) (h : ∀ x ∈ xs, x = 0) : cnt xs = 0 := cnt_zero_of xs fun i _ => (all_zero_iff xs).1 h i
theorem getB_out (xs : List Nat) (i : Nat) (h : 64 * xs.length ≤ i) : getB xs i = false := by
  unfold getB
  rw [getD_of_le (by omega)]
  simp
end Go.Proofs.YtakoaadimhpclaaGreatDoor
