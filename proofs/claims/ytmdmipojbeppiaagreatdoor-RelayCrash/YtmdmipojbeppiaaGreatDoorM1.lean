/-
  Plain mathematics of rows of words: bits, xors, counts, the first bit. Of no program. No condition but that words are below 2^64 where it is said.
  Rows of words in memory: what a slice of uint64 that can be read holds ('RowAt'), and what a slice of the call's own holds ('Own'). No condition.
  Contracts of slices.Clone at []uint64, words.within, words.mask, words.Get, bucketlineref01.Get: for every row of fewer than 2^47 bytes and every int.
  Plain mathematics of math/bits.OnesCount64: the sum of bits in parallel is how many bits there are, for every number below 2^64. Of no program.
  Contracts of math/bits.OnesCount64 and TrailingZeros64, words.Count, words.First, words.Xor, words.Same, words.Set: for every row of at most 2^20 words.
  Contracts of words.First, words.Xor, words.Same: for every row of at most 2^20 words.
  'append(nil, xs...)' and 'append(own, xs...)' of words, as steps of a walk: rows of the call's own. At most 2^20 words.
  Contracts of bucketlineref01.Count, Xor, First, Same, Words: for every row of at most 2^20 words.
  Contracts of bucketlineref01.First, Same, Words, Size, Set and of words.Size, Set: for every row of at most 2^20 words, every int.
-/
import Derived.Lib.TrailingZeros
import Derived.Laws.BitsAllLaws
import Derived.Test.YtmdmipojbeppiaaGreatDoorRows
import Derived.WalkKit
import Derived.WalkSpells
import Derived.WalkLawsBesides
import Derived.Laws.AppendOwnNone
import Derived.BigQuiet
import Derived.Deep.QuietTactic
import Derived.Laws.Bits128
import Derived.OwnWalk
import Derived.RegionTactic
import Derived.Deep.RegionWith
namespace Go.Proofs.YtmdmipojbeppiaaGreatDoor

theorem ext_getD {a b : List Nat} (hl : a.length = b.length) (h : ∀ i, i < a.length → a.getD i 0 = b.getD i 0) : a = b := by
  apply List.ext_getElem hl
  intro i h1 h2
  have := h i h1
  simpa [List.getD_eq_getElem?_getD, List.getElem?_eq_getElem h1, List.getElem?_eq_getElem h2] using this
theorem getD_of_le {a : List Nat} {i : Nat} (h : a.length ≤ i) : a.getD i 0 = 0 := by
  simp [List.getD_eq_getElem?_getD, List.getElem?_eq_none h]
theorem getD_range_map (n : Nat) (f : Nat → Nat) (i : Nat) : ((List.range n).map f).getD i 0 = if i < n then f i else 0 := by
  rw [List.getD_eq_getElem?_getD]
  by_cases h : i < n
  · simp [h]
  · simp [h]
theorem getD_set (a : List Nat) (j i x : Nat) : (a.set j x).getD i 0 = if i = j ∧ j < a.length then x else a.getD i 0 := by
  rw [List.getD_eq_getElem?_getD, List.getD_eq_getElem?_getD, List.getElem?_set]
  by_cases h : j = i
  · subst h
    by_cases h2 : j < a.length
    · simp [h2]
    · simp [h2]
  · have h' : ¬ i = j := fun e => h e.symm
    simp [h, h']

/-- The xor of two rows, as long as the longer one. -/
def xorL (a b : List Nat) : List Nat := (List.range (max a.length b.length)).map fun i => a.getD i 0 ^^^ b.getD i 0
theorem xorL_length (a b : List Nat) : (xorL a b).length = max a.length b.length := by simp [xorL]
theorem xorL_getD (a b : List Nat) (i : Nat) : (xorL a b).getD i 0 = a.getD i 0 ^^^ b.getD i 0 := by
  unfold xorL
  rw [getD_range_map]
  split
  · rfl
  · rw [getD_of_le (a := a) (by omega), getD_of_le (a := b) (by omega)]; rfl
theorem xorL_comm (a b : List Nat) : xorL a b = xorL b a := by
  apply ext_getD
  · simp [xorL_length, Nat.max_comm]
  · intro i _; rw [xorL_getD, xorL_getD, Nat.xor_comm]
/-- So far. -/
def xorTo (a b : List Nat) (k : Nat) : List Nat := (List.range a.length).map fun i => if i < k then a.getD i 0 ^^^ b.getD i 0 else a.getD i 0
theorem xorTo_length (a b : List Nat) (k : Nat) : (xorTo a b k).length = a.length := by simp [xorTo]
theorem xorTo_getD (a b : List Nat) (k i : Nat) (h : i < a.length) : (xorTo a b k).getD i 0 = if i < k then a.getD i 0 ^^^ b.getD i 0 else a.getD i 0 := by
  unfold xorTo; rw [getD_range_map, if_pos h]
theorem xorTo_zero (a b : List Nat) : xorTo a b 0 = a := by
  apply ext_getD (xorTo_length a b 0)
  intro i h; rw [xorTo_getD a b 0 i (by rwa [xorTo_length] at h)]; simp
theorem xorTo_succ (a b : List Nat) (k : Nat) (hk : k < a.length) : (xorTo a b k).set k (a.getD k 0 ^^^ b.getD k 0) = xorTo a b (k + 1) := by
  apply ext_getD
  · simp [xorTo_length]
  · intro i h
    have hi : i < a.length := by simpa [xorTo_length] using h
    rw [getD_set, xorTo_getD a b k i hi, xorTo_getD a b (k + 1) i hi, xorTo_length]
    by_cases e : i = k
    · subst e; simp [hk]
    · simp only [e, false_and, if_false]
      by_cases h1 : i < k
      · simp [h1, Nat.lt_succ_of_lt h1]
      · simp [h1, show ¬ i < k + 1 by omega]
theorem xorTo_all (a b : List Nat) (h : b.length ≤ a.length) : xorTo a b b.length = xorL a b := by
  apply ext_getD
  · rw [xorTo_length, xorL_length]; omega
  · intro i hi
    have hi' : i < a.length := by rwa [xorTo_length] at hi
    rw [xorTo_getD a b _ i hi', xorL_getD]
    split
    · rfl
    · rw [getD_of_le (a := b) (by omega)]; simp

/-- One bit of a word set or cleared. -/
def setW (x k : Nat) (on : Bool) : Nat := if x.testBit k = on then x else x ^^^ 2 ^ k
def setB (xs : List Nat) (i : Nat) (on : Bool) : List Nat := xs.set (i / 64) (setW (xs.getD (i / 64) 0) (i % 64) on)
/-- Bit i of a row. -/
def getB (xs : List Nat) (i : Nat) : Bool := (xs.getD (i / 64) 0).testBit (i % 64)
theorem setB_length (xs : List Nat) (i : Nat) (on : Bool) : (setB xs i on).length = xs.length := by simp [setB]
theorem setB_out (xs : List Nat) (i : Nat) (on : Bool) (h : xs.length ≤ i / 64) : setB xs i on = xs := by
  unfold setB; exact List.set_eq_of_length_le h
theorem or_setW (x k : Nat) : x ||| 2 ^ k = setW x k true := by
  unfold setW
  apply Nat.eq_of_testBit_eq
  intro i
  rw [Nat.testBit_or, Nat.testBit_two_pow]
  by_cases e : k = i
  · subst e
    cases h : x.testBit k <;> simp [h, Nat.testBit_xor]
  · split <;> simp [e, Nat.testBit_xor]
theorem andNot_setW (x k : Nat) (hx : x < 18446744073709551616) (hk : k < 64) : x &&& (18446744073709551615 - 2 ^ k) = setW x k false := by
  have h2 : 2 ^ k < 2 ^ 64 := Nat.pow_lt_pow_right (by decide) hk
  unfold setW
  apply Nat.eq_of_testBit_eq
  intro i
  have e1 : 18446744073709551615 - 2 ^ k = 2 ^ 64 - (2 ^ k + 1) := by omega
  rw [Nat.testBit_and, e1, Nat.testBit_two_pow_sub_succ h2, Nat.testBit_two_pow]
  by_cases hi : i < 64
  · by_cases e : k = i
    · subst e
      cases h : x.testBit k <;> simp [h, Nat.testBit_xor]
    · split <;> simp [e, hi, Nat.testBit_xor]
  · have hz : x.testBit i = false := Nat.testBit_lt_two_pow (Nat.lt_of_lt_of_le (show x < 2 ^ 64 by omega) (Nat.pow_le_pow_right (by decide) (by omega)))
    have e : ¬ k = i := by omega
    split <;> simp [hz, e, Nat.testBit_xor]
theorem setW_lt (x k : Nat) (on : Bool) (hx : x < 18446744073709551616) (hk : k < 64) : setW x k on < 18446744073709551616 := by
  have h2 : 2 ^ k < 2 ^ 64 := Nat.pow_lt_pow_right (by decide) hk
  unfold setW
  split
  · exact hx
  · exact Nat.xor_lt_two_pow (n := 64) (by omega) h2

/-- How many bits of a number below 2^f. -/
def popF : Nat → Nat → Nat
  | 0, _ => 0
  | f + 1, x => x % 2 + popF f (x / 2)
def pop (x : Nat) : Nat := popF 64 x
theorem popF_zero : ∀ f, popF f 0 = 0
  | 0 => rfl
  | f + 1 => by simp [popF, popF_zero f]
theorem popF_le : ∀ f x, popF f x ≤ f
  | 0, _ => Nat.le_refl _
  | f + 1, x => by have := popF_le f (x / 2); simp only [popF]; omega
theorem popF_more : ∀ f g x, x < 2 ^ f → popF (f + g) x = popF f x
  | 0, g, x, h => by
    have : x = 0 := by simpa using h
    subst this; rw [popF_zero, popF_zero]
  | f + 1, g, x, h => by
    rw [show f + 1 + g = (f + g) + 1 by omega]
    simp only [popF]
    rw [popF_more f g (x / 2) (by rw [Nat.pow_succ] at h; omega)]
theorem pop_step (x : Nat) (h : x < 18446744073709551616) : pop x = x % 2 + pop (x / 2) := by
  unfold pop
  rw [show (64 : Nat) = 63 + 1 from rfl]
  rw [popF_more 63 1 (x / 2) (by rw [show (2 : Nat) ^ 63 = 9223372036854775808 by decide]; omega)]
  rfl
theorem pop_le (x : Nat) : pop x ≤ 64 := popF_le 64 x
theorem pop_zero : pop 0 = 0 := popF_zero 64
theorem popF_eq_zero : ∀ f x, x < 2 ^ f → popF f x = 0 → x = 0
  | 0, x, h, _ => by simpa using h
  | f + 1, x, h, h0 => by
    simp only [popF] at h0
    have := popF_eq_zero f (x / 2) (by rw [Nat.pow_succ] at h; omega) (by omega)
    omega
theorem pop_eq_zero (x : Nat) (h : x < 18446744073709551616) (h0 : pop x = 0) : x = 0 :=
  popF_eq_zero 64 x (by rw [show (2 : Nat) ^ 64 = 18446744073709551616 by decide]; exact h) h0
def cnt (xs : List Nat) : Nat := (xs.map pop).sum
theorem cnt_nil : cnt [] = 0 := rfl
theorem cnt_cons (x : Nat) (xs : List Nat) : cnt (x :: xs) = pop x + cnt xs := by simp [cnt]
theorem cnt_append (a b : List Nat) : cnt (a ++ b) = cnt a + cnt b := by simp [cnt]
theorem cnt_le (xs : List Nat) : cnt xs ≤ 64 * xs.length := by
  induction xs with
  | nil => simp [cnt_nil]
  | cons x xs ih => rw [cnt_cons]; have := pop_le x; simp only [List.length_cons]; omega
theorem cnt_take (xs : List Nat) (k : Nat) (h : k < xs.length) : cnt (xs.take (k + 1)) = cnt (xs.take k) + pop (xs.getD k 0) := by
  rw [List.take_succ_eq_append_getElem h, cnt_append]
  simp [cnt, List.getD_eq_getElem?_getD, List.getElem?_eq_getElem h]
theorem cnt_zero_of (xs : List Nat) (h : ∀ i, i < xs.length → xs.getD i 0 = 0) : cnt xs = 0 := by
  induction xs with
  | nil => rfl
  | cons x xs ih =>
    have h0 := h 0 (by simp)
    have h1 : ∀ i, i < xs.length → xs.getD i 0 = 0 := fun i hi => by
      have := h (i + 1) (by simp; omega)
      simpa using this
    simp at h0
    rw [cnt_cons, ih h1, h0, pop_zero]
theorem zero_of_cnt (xs : List Nat) (hs : ∀ x ∈ xs, x < 18446744073709551616) (h : cnt xs = 0) : ∀ x ∈ xs, x = 0 := by
  induction xs with
  | nil => intro x hx; cases hx
  | cons y xs ih =>
    rw [cnt_cons] at h
    intro x hx
    rcases List.mem_cons.1 hx with rfl | hx
    · exact pop_eq_zero _ (hs _ (by simp)) (by omega)
    · exact ih (fun z hz => hs z (by simp [hz])) (by omega) x hx

/-- The first bit that is set; -1: none. -/
def firstI : List Nat → Int
  | [] => -1
  | x :: r => if x ≠ 0 then (Lib.ctz 64 x : Int) else if firstI r < 0 then -1 else 64 + firstI r
theorem firstI_cases : ∀ xs, firstI xs = -1 ∨ 0 ≤ firstI xs
  | [] => .inl rfl
  | x :: r => by
    simp only [firstI]
    split
    · right; omega
    · split
      · exact .inl rfl
      · right; omega
theorem firstI_zero (xs : List Nat) (h : ∀ x ∈ xs, x = 0) : firstI xs = -1 := by
  induction xs with
  | nil => rfl
  | cons x r ih =>
    have h0 := h x (by simp)
    have h1 := ih (fun y hy => h y (by simp [hy]))
    simp [firstI, h0, h1]
theorem firstI_at : ∀ (xs : List Nat) (k : Nat), k < xs.length → (∀ j, j < k → xs.getD j 0 = 0) → xs.getD k 0 ≠ 0 → firstI xs = (k : Int) * 64 + Lib.ctz 64 (xs.getD k 0)
  | [], k, h, _, _ => by simp at h
  | x :: r, 0, _, _, h => by
    simp at h
    simp [firstI, h]
  | x :: r, k + 1, hk, hz, h => by
    have h0 := hz 0 (by omega)
    simp at h0
    have ih := firstI_at r k (by simpa using hk) (fun j hj => by have := hz (j + 1) (by omega); simpa using this) (by simpa using h)
    have e : (x :: r).getD (k + 1) 0 = r.getD k 0 := by simp
    rw [e]
    simp only [firstI, h0]
    rw [ih]
    simp
    omega
theorem firstI_nonneg_iff (xs : List Nat) : firstI xs < 0 ↔ ∀ x ∈ xs, x = 0 := by
  constructor
  · induction xs with
    | nil => intro _ x hx; cases hx
    | cons y r ih =>
      intro h x hx
      simp only [firstI] at h
      split at h
      · omega
      · rename_i hy
        have hy0 : y = 0 := by omega
        rcases List.mem_cons.1 hx with rfl | hx
        · exact hy0
        · split at h
          · rename_i hr; exact ih hr x hx
          · omega
  · intro h; rw [firstI_zero xs h]; omega
theorem all_zero_iff (xs : List Nat) : (∀ x ∈ xs, x = 0) ↔ ∀ i, xs.getD i 0 = 0 := by
  constructor
  · intro h i
    rw [List.getD_eq_getElem?_getD]
    cases hx : xs[i]? with
    | none => rfl
    | some x => exact h x (List.mem_of_getElem? hx)
  · intro h x hx
    obtain ⟨i, hi, rfl⟩ := List.getElem_of_mem hx
    have := h i
    simpa [List.getD_eq_getElem?_getD, List.getElem?_eq_getElem hi] using this
theorem xorL_self_zero (a : List Nat) : ∀ x ∈ xorL a a, x = 0 := by
  rw [all_zero_iff]; intro i; rw [xorL_getD]; simp
theorem cnt_of_zero (xs : List Nat) (h : ∀ x ∈ xs, x = 0) : cnt xs = 0 := cnt_zero_of xs fun i _ => (all_zero_iff xs).1 h i
theorem ctz_lt (x : Nat) (h0 : x ≠ 0) (hx : x < 18446744073709551616) : Lib.ctz 64 x < 64 := (Lib.lowest_bit 64 x h0 (by omega)).2
theorem ctz_bit (x : Nat) (h0 : x ≠ 0) (hx : x < 18446744073709551616) : x.testBit (Lib.ctz 64 x) = true := by
  obtain ⟨m, hm, hk⟩ := Lib.ctzFrom_spec 64 x (by omega) (by omega)
  have e : Lib.ctz 64 x = Lib.ctzFrom 64 x := by simp [Lib.ctz, h0]
  rw [e]
  generalize Lib.ctzFrom 64 x = c at *
  rw [hm, Nat.mul_comm, Nat.testBit_mul_two_pow]
  simp [Nat.testBit_zero]
theorem ctz_low (x j : Nat) (h0 : x ≠ 0) (hx : x < 18446744073709551616) (hj : j < Lib.ctz 64 x) : x.testBit j = false := by
  obtain ⟨m, hm, hk⟩ := Lib.ctzFrom_spec 64 x (by omega) (by omega)
  have e : Lib.ctz 64 x = Lib.ctzFrom 64 x := by simp [Lib.ctz, h0]
  rw [e] at hj
  generalize Lib.ctzFrom 64 x = c at *
  rw [hm, Nat.mul_comm, Nat.testBit_mul_two_pow]
  simp; omega
theorem getB_at (xs : List Nat) (k j : Nat) (hj : j < 64) : getB xs (64 * k + j) = (xs.getD k 0).testBit j := by
  unfold getB
  rw [show (64 * k + j) / 64 = k by omega, show (64 * k + j) % 64 = j by omega]
theorem getB_out (xs : List Nat) (i : Nat) (h : 64 * xs.length ≤ i) : getB xs i = false := by
  unfold getB
  rw [getD_of_le (by omega)]
  simp
end Go.Proofs.YtmdmipojbeppiaaGreatDoor
namespace Go.Proofs.YtmdmipojbeppiaaGreatDoor
open Go.RowKit

theorem hide {p : Prop} (h : p) : Hid p := h
theorem unhide {p : Prop} (h : Hid p) : p := h

/-- The cells of a row of words. -/
def cellsU (xs : List Nat) : List Value := xs.map fun (x : Nat) => Value.int .u64 (x : Int)
theorem cellsU_length (xs : List Nat) : (cellsU xs).length = xs.length := by simp [cellsU]
theorem cellsU_get (xs : List Nat) (i : Nat) (h : i < xs.length) : (cellsU xs)[i]? = some (.int .u64 ((xs.getD i 0 : Nat) : Int)) := by
  simp [cellsU, List.getElem?_eq_getElem h, List.getD_eq_getElem?_getD]
theorem cellsU_one (xs : List Nat) : ∀ u ∈ cellsU xs, u.oneCell' = true := by
  intro u hu
  obtain ⟨_, _, rfl⟩ := List.mem_map.1 hu
  rfl
theorem cellsU_set (xs : List Nat) (i x : Nat) : (cellsU xs).set i (.int .u64 (x : Int)) = cellsU (xs.set i x) := by
  simp [cellsU, List.map_set]

def small (x : Nat) : Prop := x < 18446744073709551616
def smalls (xs : List Nat) : Prop := ∀ x ∈ xs, small x
theorem smalls.get {xs : List Nat} (h : smalls xs) (i : Nat) : xs.getD i 0 < 18446744073709551616 := by
  rw [List.getD_eq_getElem?_getD]
  cases hx : xs[i]? with
  | none => simp
  | some x => exact h x (List.mem_of_getElem? hx)
theorem smalls.set {xs : List Nat} (h : smalls xs) (i x : Nat) (hx : x < 18446744073709551616) : smalls (xs.set i x) := by
  intro y hy
  rcases List.mem_or_eq_of_mem_set hy with h1 | rfl
  · exact h y h1
  · exact hx

/-- A slice of n words that can be read: they are xs. -/
def RowAt (w : World) (a : Option Addr) (n : Nat) (xs : List Nat) : Prop :=
  xs.length = n ∧ smalls xs ∧ (n = 0 ∨ ∃ b off, a = some ⟨b, off, none⟩ ∧ ∀ i, i < n → w.cell? ⟨b, off + i, none⟩ = some (.int .u64 ((xs.getD i 0 : Nat) : Int)))

theorem RowAt.at {w : World} {a : Option Addr} {n : Nat} {xs : List Nat} (h : RowAt w a n xs) {i : Nat} (hi : i < n) :
    ∃ b off, a = some ⟨b, off, none⟩ ∧ ∀ i, i < n → w.cell? ⟨b, off + i, none⟩ = some (.int .u64 ((xs.getD i 0 : Nat) : Int)) := by
  rcases h.2.2 with h0 | h0
  · omega
  · exact h0
theorem RowAt.below {w w' : World} {a : Option Addr} {n : Nat} {xs : List Nat} (h : RowAt w a n xs) (hb : Below w.heap.size w w') : RowAt w' a n xs := by
  refine ⟨h.1, h.2.1, ?_⟩
  rcases h.2.2 with h0 | ⟨b, off, rfl, hc⟩
  · exact .inl h0
  · exact .inr ⟨b, off, rfl, fun i hi => (hb.cell (World.block_lt_of_cell? w _ (hc i hi))).trans (hc i hi)⟩
theorem RowAt.news {w : World} {ad : Addr} {n : Nat} {xs : List Nat} (h : RowAt w (some ad) n xs) : ∀ j u, (cellsU xs)[j]? = some u → w.cell? (ad.add j) = some u := by
  intro j u hj
  have hlt : j < xs.length := by
    have := (List.getElem?_eq_some_iff.1 hj).1
    rwa [cellsU_length] at this
  obtain ⟨b, off, he, hc⟩ := h.at (i := j) (by rw [← h.1]; exact hlt)
  simp only [Option.some.injEq] at he
  subst he
  rw [cellsU_get xs j hlt] at hj
  have := hc j (by rw [← h.1]; exact hlt)
  by_cases h0 : j = 0
  · subst h0; simpa [Addr.add] using this.trans hj
  · simpa [Addr.add, h0] using this.trans hj

/-- A new row: the call's own, its words are xs. -/
def Own (w : World) (B : Nat) (v : Value) (xs : List Nat) : Prop := smalls xs ∧ w.ownsRow B 65 1 v xs.length (cellsU xs)
theorem Own.row {w : World} {B : Nat} {v : Value} {xs : List Nat} (h : Own w B v xs) : ∃ a c, v = .slice a xs.length c ∧ RowAt w a xs.length xs := by
  obtain ⟨hs, ho⟩ := h
  have ho' := ho
  rcases ho.2 with ⟨rfl, h0⟩ | ⟨g, cap, cur, rfl, hb, hg, hn, hm, hsz, ht⟩
  · exact ⟨none, 0, by rw [h0], rfl, hs, .inl h0⟩
  · refine ⟨_, cap, rfl, rfl, hs, .inr ⟨g, 0, rfl, fun i hi => ?_⟩⟩
    rw [Nat.zero_add, ho'.cellAt i (by omega), cellsU_get xs i hi]
theorem Own.cap {w : World} {B : Nat} {a : Option Addr} {n c : Nat} {xs : List Nat} (h : Own w B (.slice a n c) xs) : n ≤ c := by
  rcases h.2.2 with ⟨e, h0⟩ | ⟨g, cap, cur, e, hb, hg, hn, hm, hsz, ht⟩
  · simp only [Value.slice.injEq] at e
    omega
  · simp only [Value.slice.injEq] at e
    omega
theorem Own.nil (w : World) (B : Nat) : Own w B (.slice none 0 0) [] := ⟨(fun _ h => by cases h), World.ownsRow_nil _ _ _ _⟩
theorem Own.mono {w : World} {B B' : Nat} {v : Value} {xs : List Nat} (h : Own w B v xs) (hB : B' ≤ B) : Own w B' v xs := by
  refine ⟨h.1, h.2.1, ?_⟩
  rcases h.2.2 with h0 | ⟨g, cap, cur, h1, hb, r⟩
  · exact .inl h0
  · exact .inr ⟨g, cap, cur, h1, Nat.le_trans hB hb, r⟩
/-- What another call leaves of a row of one's own. -/
theorem Own.below {w w' : World} {B : Nat} {v : Value} {xs : List Nat} (h : Own w B v xs) (hb : Below w.heap.size w w') : Own w' B v xs := by
  refine ⟨h.1, h.2.1, ?_⟩
  rcases h.2.2 with h0 | ⟨g, cap, cur, h1, hg, hgg, r⟩
  · exact .inl h0
  · exact .inr ⟨g, cap, cur, h1, hg, (hb.block g (Array.getElem?_eq_some_iff.1 hgg).1).trans hgg, r⟩
/-- A row of one's own, not empty: where it lies. -/
theorem Own.at {w : World} {B : Nat} {v : Value} {xs : List Nat} (h : Own w B v xs) (hn : 0 < xs.length) :
    ∃ g cap, v = .slice (some ⟨g, 0, none⟩) xs.length cap ∧ B ≤ g ∧ g < w.heap.size ∧ (∀ i, i < xs.length → w.cell? ⟨g, i, none⟩ = some (.int .u64 ((xs.getD i 0 : Nat) : Int))) ∧ ∀ i, w.frozen? ⟨g, i, none⟩ = false := by
  obtain ⟨hs, ho⟩ := h
  have ho' := ho
  rcases ho.2 with ⟨rfl, h0⟩ | ⟨g, cap, cur, rfl, hb, hg, hn, hm, hsz, ht⟩
  · omega
  · refine ⟨g, cap, rfl, hb, (Array.getElem?_eq_some_iff.1 hg).1, fun i hi => ?_, fun i => ho'.frozenAt i⟩
    rw [ho'.cellAt i (by omega), cellsU_get xs i hi]
/-- A word of it is written. -/
theorem Own.stored {w : World} {B g cap : Nat} {xs : List Nat} (h : Own w B (.slice (some ⟨g, 0, none⟩) xs.length cap) xs) (i x : Nat) (hx : x < 18446744073709551616) :
    Own (w.setCell ⟨g, i, none⟩ (.int .u64 (x : Int))) B (.slice (some ⟨g, 0, none⟩) xs.length cap) (xs.set i x) := by
  obtain ⟨hs, ho⟩ := h
  refine ⟨hs.set i x hx, ?_⟩
  have := (ho.stored i (.int .u64 (x : Int))).1
  rw [cellsU_set] at this
  simpa using this

theorem info_u64 : (Tryz.prog.info? 65).map (fun i => (i.zero, i.size, i.bytes)) = some (some (.int .u64 0), 1, 8) := by kernel_rfl

theorem ret_int {k : IntKind} {a b : Int} (h : a = b) : Ending.returned (.int k a) = .returned (.int k b) := by rw [h]
theorem ret_bool {a b : Bool} (h : a = b) : Ending.returned (.bool a) = .returned (.bool b) := by rw [h]

theorem bcell {W w1 : World} (hb : Below W.heap.size W w1) : (∀ b o, b < W.heap.size → w1.cell? ⟨b, o, none⟩ = W.cell? ⟨b, o, none⟩) ∧ (∀ b o, b < W.heap.size → w1.frozen? ⟨b, o, none⟩ = W.frozen? ⟨b, o, none⟩) :=
  ⟨fun b o h => hb.cell (p := ⟨b, o, none⟩) h, fun b o h => hb.frozen (p := ⟨b, o, none⟩) h⟩
theorem row_new1 (w : World) (x : Nat) (hx : x < 18446744073709551616) : RowAt (w.alloc (.cells #[.int .u64 (x : Int)] 65)) (some ⟨w.heap.size, 0, none⟩) 1 [x] := by
  refine ⟨rfl, fun y hy => by rw [List.mem_singleton.1 hy]; exact hx, .inr ⟨w.heap.size, 0, rfl, fun i hi => ?_⟩⟩
  obtain rfl : i = 0 := by omega
  simp
theorem row_new2 (w : World) (x y : Nat) (hx : x < 18446744073709551616) (hy : y < 18446744073709551616) : RowAt (w.alloc (.cells #[.int .u64 (x : Int), .int .u64 (y : Int)] 65)) (some ⟨w.heap.size, 0, none⟩) 2 [x, y] := by
  refine ⟨rfl, fun z hz => ?_, .inr ⟨w.heap.size, 0, rfl, fun i hi => ?_⟩⟩
  · rcases List.mem_cons.1 hz with rfl | hz
    · exact hx
    · rw [List.mem_singleton.1 hz]; exact hy
  · match i, hi with
    | 0, _ => simp
    | 1, _ => simp
theorem row_alloc {w : World} {a : Option Addr} {n : Nat} {xs : List Nat} (h : RowAt w a n xs) (o : Obj) : RowAt (w.alloc o) a n xs := h.below ((Below.refl _ _).alloc (Nat.le_refl _) _)
theorem below1 {w wk w' : World} {o : Obj} (hB : Below w.heap.size w wk) (hb : Below (wk.alloc o).heap.size (wk.alloc o) w') : Below w.heap.size w w' :=
  (hB.alloc hB.size o).trans (hb.mono (by have := hB.size; simp; omega))
theorem below2 {w wk w' : World} {o o' : Obj} (hB : Below w.heap.size w wk) (hb : Below ((wk.alloc o).alloc o').heap.size ((wk.alloc o).alloc o') w') : Below w.heap.size w w' :=
  below1 (hB.alloc hB.size o) hb
theorem below0 {w wk w' : World} (hB : Below w.heap.size w wk) (hb : Below wk.heap.size wk w') : Below w.heap.size w w' := hB.trans (hb.mono hB.size)
theorem alloc_size (w : World) (o : Obj) : (w.alloc o).heap.size = w.heap.size + 1 := by simp
theorem row_none (w : World) : RowAt w none 0 [] := ⟨rfl, (fun _ h => by cases h), .inl rfl⟩
theorem alloc_low (w : World) (o : Obj) : Below w.heap.size w (w.alloc o) := (Below.refl _ _).alloc (Nat.le_refl _) _
end Go.Proofs.YtmdmipojbeppiaaGreatDoor
namespace Go.Proofs.YtmdmipojbeppiaaGreatDoor
open Go.RowKit
set_option linter.unusedVariables false
set_option maxRecDepth 4000

set_option maxHeartbeats 400000 in
theorem clone_any (a : Option Addr) (n c : Nat) (xs : List Nat) (w : World) (h : RowAt w a n xs) (hn : n * 8 ≤ 140737488351232) :
    Calls Tryz.prog 82 #[.slice a n c] w fun e w' => ∃ v, e = .returned v ∧ Own w' w.heap.size v xs ∧ Below w.heap.size w w' := by
  have hnil := fun wx => Lib.run_eql_slice_nil (P := Tryz.prog) wx 25 65 a n c 0 0 Tryz.underlying25
  obtain ⟨i0, hi, hz0, hz1, hz2⟩ := info_parts info_u64
  cases a with
  | none =>
    have h0 : n = 0 := by
      rcases h.2.2 with h0 | ⟨b, off, h1, _⟩
      · exact h0
      · cases h1
    subst h0
    have hx : xs = [] := List.eq_nil_of_length_eq_zero h.1
    subst hx
    go_enter Tryz.func82, Tryz.ntmps82
    go_wp2
    go_ret
    exact ⟨_, rfl, Own.nil _ _, Below.refl _ _⟩
  | some ad =>
    go_enter Tryz.func82, Tryz.ntmps82
    go_wp2_with (first | (at_builtin; refine wpList_append_own _ rfl (.tmp 5) (.tmp 6) 25 rfl w.heap.size 65 i0 (.int .u64 0) 1 8 Tryz.underlying25 hi hz0 hz1 hz2 rfl (by decide) _ _ _ rfl (World.ownsRow_lit _ #[] 0 (Nat.le_refl _) (by decide) rfl) ad n c (cellsU xs) rfl ?c0 ?c1 ?c2 ?c3 ?c4 ?c5 ?_))
    case c0 => rw [cellsU_length, h.1, Nat.mul_one]
    case c1 => exact (h.below ((Below.refl _ _).alloc (Nat.le_refl _) _)).news
    case c2 => exact cellsU_one xs
    case c3 => unfold maxLen; omega
    case c4 => omega
    case c5 => simp
    intro v' w1 hown hgrow _
    have hb : Below w.heap.size w w1 := ((Below.refl _ _).alloc (Nat.le_refl _) _).grown hgrow (by simp) (fun k hk => by simp [Value.ownBlock] at hk; omega)
    have ho : Own w1 w.heap.size v' xs := ⟨h.2.1, by rw [h.1]; simpa using hown⟩
    have HO := hide ho
    have HB := hide hb
    clear hown hgrow hb ho hnil h
    go_wp2
    go_ret
    exact ⟨_, rfl, unhide HO, unhide HB⟩

set_option maxHeartbeats 400000 in
theorem within_pos (a : Option Addr) (n c : Nat) (i : Int) (h0 : 0 ≤ i) (hi : i ≤ 9223372036854775807) (w : World) :
    Calls Tryz.prog 158 #[.slice a n c, .int .i64 i] w fun e w' => e = .returned (.bool (decide (i / 64 < (n : Int)))) ∧ w' = w := by
  go_enter Tryz.func158, Tryz.ntmps158
  go_wp2
  go_ret
  exact ⟨rfl, rfl⟩
set_option maxHeartbeats 400000 in
theorem within_neg (a : Option Addr) (n c : Nat) (i : Int) (h0 : i < 0) (w : World) :
    Calls Tryz.prog 158 #[.slice a n c, .int .i64 i] w fun e w' => e = .returned (.bool false) ∧ w' = w := by
  have h1 : decide (0 ≤ i) = false := by simp; omega
  go_enter Tryz.func158, Tryz.ntmps158
  go_wp2
  go_ret
  exact ⟨rfl, rfl⟩

theorem mask_num (i : Int) : IntKind.u64.wrap (2 ^ (i % 64).toNat) = ((2 ^ (i % 64).toNat : Nat) : Int) := by
  have h : (i % 64).toNat < 64 := by omega
  have h2 : 2 ^ (i % 64).toNat < 2 ^ 64 := Nat.pow_lt_pow_right (by decide) h
  rw [IntKind.wrap_u64]
  have h3 : ((2 : Int) ^ (i % 64).toNat) = ((2 ^ (i % 64).toNat : Nat) : Int) := by simp
  rw [h3]
  exact Int.emod_eq_of_lt (Int.natCast_nonneg _) (by omega)
set_option maxHeartbeats 400000 in
theorem mask_any (i : Int) (h0 : 0 ≤ i) (hi : i ≤ 9223372036854775807) (w : World) :
    Calls Tryz.prog 159 #[.int .i64 i] w fun e w' => e = .returned (.int .u64 ((2 ^ (i % 64).toNat : Nat) : Int)) ∧ w' = w := by
  go_enter Tryz.func159, Tryz.ntmps159
  go_wp2
  go_ret
  exact ⟨ret_int (mask_num i), rfl⟩

theorem get_num (x : Nat) (i : Int) (hx : x < 18446744073709551616) : (bits .and .u64 (x : Int) ((2 ^ (i % 64).toNat : Nat) : Int) != 0) = x.testBit (i % 64).toNat := by
  have h : (i % 64).toNat < 64 := by omega
  have h2 : 2 ^ (i % 64).toNat < 2 ^ 64 := Nat.pow_lt_pow_right (by decide) h
  rw [u64_and_nat x _ hx (by omega), nat_bit, Nat.testBit_eq_decide_div_mod_eq]
  have hp : 0 < 2 ^ (i % 64).toNat := Nat.pow_pos (by decide)
  rcases Nat.mod_two_eq_zero_or_one (x / 2 ^ (i % 64).toNat) with e | e
  · rw [e]; simp
  · rw [e]
    rw [bne_iff_ne.2 (by omega)]
    simp

set_option maxHeartbeats 400000 in
theorem get_out (a : Option Addr) (n c : Nat) (i : Int) (w : World) (hi : i ≤ 9223372036854775807) (ho : i < 0 ∨ (n : Int) ≤ i / 64) :
    Calls Tryz.prog 156 #[.slice a n c, .int .i64 i] w fun e w' => e = .returned (.bool false) ∧ ∃ d, w' = w.drewN d := by
  have hc : ∀ wx : World, Calls Tryz.prog 158 #[.slice a n c, .int .i64 i] wx fun e w' => e = .returned (.bool false) ∧ w' = wx := by
    by_cases h0 : 0 ≤ i
    · have hd : decide (i / 64 < (n : Int)) = false := by simp; omega
      intro wx
      have := within_pos a n c i h0 hi wx
      rwa [hd] at this
    · exact fun wx => within_neg a n c i (by omega) wx
  have HC := hide hc
  clear hc
  go_enter Tryz.func156, Tryz.ntmps156
  go_wp2_with fail
  go_quiet ((go_at_call 158; exact Calls.quiet_of_same (unhide HC _)))
  go_wp2
  go_ret
  exact ⟨rfl, _, rfl⟩

set_option maxHeartbeats 400000 in
theorem get_in (a : Option Addr) (n c : Nat) (xs : List Nat) (i : Int) (w : World) (h : RowAt w a n xs) (h0 : 0 ≤ i) (hi : i ≤ 9223372036854775807) (hlt : i / 64 < (n : Int)) (hn : n * 8 ≤ 140737488351232) :
    Calls Tryz.prog 156 #[.slice a n c, .int .i64 i] w fun e w' => e = .returned (.bool (getB xs i.toNat)) ∧ ∃ d, w' = w.drewN d := by
  obtain ⟨b, off, rfl, hc⟩ := h.at (i := (i / 64).toNat) (by omega)
  have hcell := hc (i / 64).toNat (by omega)
  have hnum := get_num (xs.getD (i / 64).toNat 0) i (h.2.1.get _)
  have HN := hide hnum
  have hW : ∀ wx : World, Calls Tryz.prog 158 #[.slice (some ⟨b, off, none⟩) n c, .int .i64 i] wx fun e w' => e = .returned (.bool true) ∧ w' = wx := by
    intro wx
    have := within_pos (some ⟨b, off, none⟩) n c i h0 hi wx
    rwa [show decide (i / 64 < (n : Int)) = true by simp; omega] at this
  have HW := hide hW
  have hM := fun wx => mask_any i h0 hi wx
  have HM := hide hM
  have he : getB xs i.toNat = (xs.getD (i / 64).toNat 0).testBit (i % 64).toNat := by
    unfold getB
    rw [show i.toNat / 64 = (i / 64).toNat by omega, show i.toNat % 64 = (i % 64).toNat by omega]
  have HE := hide he
  generalize xs.getD (i / 64).toNat 0 = x at *
  clear hnum hW hM he hc h
  go_enter Tryz.func156, Tryz.ntmps156
  go_wp2_with fail
  go_quiet ((first | (go_at_call 158; exact Calls.quiet_of_same (unhide HW _)) | (go_at_call 159; exact Calls.quiet_of_same (unhide HM _))))
  go_wp2
  go_ret
  exact ⟨ret_bool ((unhide HN).trans (unhide HE).symm), _, rfl⟩

theorem rget_num (x k : Nat) (hx : x < 18446744073709551616) : (bits .and .u64 ((x : Int) / 2 ^ k) 1 == 1) = x.testBit k := by
  have e : ((x : Int) / 2 ^ k) = ((x / 2 ^ k : Nat) : Int) := by simp
  have h := u64_and_nat (x / 2 ^ k) 1 (Nat.lt_of_le_of_lt (Nat.div_le_self _ _) hx) (by omega)
  rw [nat_mask1] at h
  rw [e, show (1 : Int) = ((1 : Nat) : Int) from rfl, h, Nat.testBit_eq_decide_div_mod_eq]
  rcases Nat.mod_two_eq_zero_or_one (x / 2 ^ k) with e | e
  · rw [e]; rfl
  · rw [e]; rfl
set_option maxHeartbeats 400000 in
theorem rget_out (a : Option Addr) (n c : Nat) (i : Int) (w : World) (hi : i ≤ 9223372036854775807) (ho : i < 0 ∨ (n : Int) ≤ i / 64) :
    Calls Tryz.prog 48 #[.slice a n c, .int .i64 i] w fun e w' => e = .returned (.bool false) ∧ w' = w := by
  by_cases h0 : 0 ≤ i
  · have hd : decide (i / 64 < (n : Int)) = false := by simp; omega
    go_enter Tryz.func48, Tryz.ntmps48
    go_wp2
    go_ret
    exact ⟨rfl, rfl⟩
  · have hd : decide (0 ≤ i) = false := by simp; omega
    go_enter Tryz.func48, Tryz.ntmps48
    go_wp2
    go_ret
    exact ⟨rfl, rfl⟩
set_option maxHeartbeats 400000 in
theorem rget_in (a : Option Addr) (n c : Nat) (xs : List Nat) (i : Int) (w : World) (h : RowAt w a n xs) (h0 : 0 ≤ i) (hi : i ≤ 9223372036854775807) (hlt : i / 64 < (n : Int)) (hn : n * 8 ≤ 140737488351232) :
    Calls Tryz.prog 48 #[.slice a n c, .int .i64 i] w fun e w' => e = .returned (.bool (getB xs i.toNat)) ∧ w' = w := by
  obtain ⟨b, off, rfl, hc⟩ := h.at (i := (i / 64).toNat) (by omega)
  have hcell := hc (i / 64).toNat (by omega)
  have he : getB xs i.toNat = (xs.getD (i / 64).toNat 0).testBit (i % 64).toNat := by
    unfold getB
    rw [show i.toNat / 64 = (i / 64).toNat by omega, show i.toNat % 64 = (i % 64).toNat by omega]
  have HE := hide he
  have hnum := rget_num (xs.getD (i / 64).toNat 0) (i % 64).toNat (h.2.1.get _)
  have HN := hide hnum
  generalize xs.getD (i / 64).toNat 0 = x at *
  clear he hc h hnum
  go_enter Tryz.func48, Tryz.ntmps48
  go_wp2
  go_ret
  exact ⟨ret_bool ((unhide HN).trans (unhide HE).symm), rfl⟩
end Go.Proofs.YtmdmipojbeppiaaGreatDoor
namespace Go.Proofs.YtmdmipojbeppiaaGreatDoor
open Go.RowKit

def o1 (x : Int) : Int := IntKind.u64.wrap (bits .and .u64 (x / 2) 6148914691236517205 + bits .and .u64 x 6148914691236517205)
def o2 (x : Int) : Int := IntKind.u64.wrap (bits .and .u64 (x / 4) 3689348814741910323 + bits .and .u64 x 3689348814741910323)
def o3 (x : Int) : Int := bits .and .u64 (IntKind.u64.wrap (x / 16 + x)) 1085102592571150095
def o4 (x : Int) : Int := IntKind.u64.wrap (x + x / 256)
def o5 (x : Int) : Int := IntKind.u64.wrap (x + x / 65536)
def o6 (x : Int) : Int := IntKind.u64.wrap (x + x / 4294967296)
def o7 (x : Int) : Int := bits .and .i64 (wrap64 x) 127

theorem and_split (a b m n : Nat) (ha : a < 256) (hm : m < 256) : (a + 256 * b) &&& (m + 256 * n) = (a &&& m) + 256 * (b &&& n) := by
  have hx : a &&& m < 2 ^ 8 := Nat.lt_of_le_of_lt Nat.and_le_left ha
  apply Nat.eq_of_testBit_eq
  intro i
  rw [Nat.testBit_and, Nat.add_comm a, Nat.add_comm m, Nat.add_comm (a &&& m), show (256 : Nat) = 2 ^ 8 from rfl]
  rw [Nat.testBit_two_pow_mul_add b ha, Nat.testBit_two_pow_mul_add n hm, Nat.testBit_two_pow_mul_add (b &&& n) hx]
  split
  · rw [Nat.testBit_and]
  · rw [Nat.testBit_and]

/-- A byte's mask, k times. -/
def rep (m : Nat) : Nat → Nat
  | 0 => 0
  | k + 1 => m + 256 * rep m k
def y8 (x : Nat) : Nat := (x / 2 &&& 85) + (x &&& 85)
def z8 (x : Nat) : Nat := (x / 4 &&& 51) + (x &&& 51)
def yk (k x : Nat) : Nat := (x / 2 &&& rep 85 k) + (x &&& rep 85 k)
def zk (k x : Nat) : Nat := (x / 4 &&& rep 51 k) + (x &&& rep 51 k)
def gk (k x : Nat) : Nat := (x / 16 + x) &&& rep 15 k

theorem y8_dec : ∀ (a : Fin 256) (c : Fin 2), (a.val / 2 + 128 * c.val) &&& 85 = a.val / 2 &&& 85 := by decide +kernel
theorem z8_dec : ∀ (a : Fin 256) (c : Fin 4), (a.val / 4 + 64 * c.val) &&& 51 = a.val / 4 &&& 51 := by decide +kernel
theorem y8_lt : ∀ a : Fin 256, y8 a.val < 256 := by decide +kernel
theorem z8_lt : ∀ a : Fin 256, z8 a.val < 256 ∧ z8 a.val % 16 ≤ 6 := by decide +kernel
theorem g8_dec : ∀ (a : Fin 256) (c : Fin 7), z8 (y8 a.val) / 16 + 16 * c.val + z8 (y8 a.val) < 256 ∧ (z8 (y8 a.val) / 16 + 16 * c.val + z8 (y8 a.val)) &&& 15 = popF 8 a.val := by decide +kernel

theorem yk_split (k lo hi : Nat) (h : lo < 256) : yk (k + 1) (lo + 256 * hi) = y8 lo + 256 * yk k hi := by
  unfold yk y8
  have e : (lo + 256 * hi) / 2 = (lo / 2 + 128 * (hi % 2)) + 256 * (hi / 2) := by omega
  have d := y8_dec ⟨lo, h⟩ ⟨hi % 2, by omega⟩
  simp only at d
  rw [e, show rep 85 (k + 1) = 85 + 256 * rep 85 k from rfl, and_split _ _ _ _ (by omega) (by omega), and_split _ _ _ _ h (by omega), d]
  omega
theorem zk_split (k lo hi : Nat) (h : lo < 256) : zk (k + 1) (lo + 256 * hi) = z8 lo + 256 * zk k hi := by
  unfold zk z8
  have e : (lo + 256 * hi) / 4 = (lo / 4 + 64 * (hi % 4)) + 256 * (hi / 4) := by omega
  have d := z8_dec ⟨lo, h⟩ ⟨hi % 4, by omega⟩
  simp only at d
  rw [e, show rep 51 (k + 1) = 51 + 256 * rep 51 k from rfl, and_split _ _ _ _ (by omega) (by omega), and_split _ _ _ _ h (by omega), d]
  omega
theorem zk_low : ∀ k x, zk k x % 16 ≤ 6
  | 0, x => by simp [zk, rep]
  | k + 1, x => by
    have e : x = x % 256 + 256 * (x / 256) := by omega
    rw [e, zk_split k _ _ (by omega)]
    have := (z8_lt ⟨x % 256, by omega⟩).2
    simp only at this
    omega
theorem gk_split (k lo hi : Nat) (h : lo < 256) : gk (k + 1) (zk (k + 1) (yk (k + 1) (lo + 256 * hi))) = popF 8 lo + 256 * gk k (zk k (yk k hi)) := by
  rw [yk_split k lo hi h, zk_split k _ _ (y8_lt ⟨lo, h⟩)]
  have hl := zk_low k (yk k hi)
  generalize zk k (yk k hi) = t at *
  have d := g8_dec ⟨lo, h⟩ ⟨t % 16, by omega⟩
  simp only at d
  have hz := (z8_lt ⟨y8 lo, y8_lt ⟨lo, h⟩⟩).1
  simp only at hz
  generalize z8 (y8 lo) = s at *
  unfold gk
  have e : (s + 256 * t) / 16 + (s + 256 * t) = (s / 16 + 16 * (t % 16) + s) + 256 * (t / 16 + t) := by omega
  rw [e, show rep 15 (k + 1) = 15 + 256 * rep 15 k from rfl, and_split _ _ _ _ d.1 (by omega), d.2]

theorem popF_mod : ∀ f x, popF f x = popF f (x % 2 ^ f)
  | 0, x => rfl
  | f + 1, x => by
    simp only [popF]
    rw [popF_mod f (x / 2), popF_mod f (x % 2 ^ (f + 1) / 2)]
    have e1 : x % 2 ^ (f + 1) % 2 = x % 2 := Nat.mod_mod_of_dvd x ⟨2 ^ f, by rw [Nat.pow_succ, Nat.mul_comm]⟩
    have e2 : x % 2 ^ (f + 1) / 2 = x / 2 % 2 ^ f := by rw [Nat.pow_succ, Nat.mul_comm, Nat.mod_mul_right_div_self]
    rw [e1, e2, Nat.mod_mod]
theorem popF_add : ∀ a b x, popF (a + b) x = popF a x + popF b (x / 2 ^ a)
  | 0, b, x => by simp [popF]
  | a + 1, b, x => by
    rw [show a + 1 + b = (a + b) + 1 by omega]
    simp only [popF]
    rw [popF_add a b (x / 2), Nat.div_div_eq_div_mul, Nat.pow_succ, Nat.mul_comm 2]
    omega
theorem gk_pop : ∀ k x, ∃ p : List Nat, p.length = k ∧ (∀ q ∈ p, q ≤ 8) ∧ popF (8 * k) x = p.sum ∧ gk k (zk k (yk k x)) = p.foldr (fun q s => q + 256 * s) 0
  | 0, x => ⟨[], rfl, by simp, rfl, by simp [gk, rep]⟩
  | k + 1, x => by
    obtain ⟨p, h1, h2, h3, h4⟩ := gk_pop k (x / 256)
    refine ⟨popF 8 (x % 256) :: p, by simp [h1], ?_, ?_, ?_⟩
    · intro q hq
      rcases List.mem_cons.1 hq with rfl | hq
      · exact popF_le 8 _
      · exact h2 q hq
    · rw [show 8 * (k + 1) = 8 + 8 * k by omega, popF_add, List.sum_cons, ← h3, popF_mod 8 x]
    · have e : x = x % 256 + 256 * (x / 256) := by omega
      conv => lhs; rw [e]
      rw [gk_split k _ _ (by omega), h4]
      rfl

theorem rep85 : rep 85 8 = 6148914691236517205 := by decide +kernel
theorem rep51 : rep 51 8 = 3689348814741910323 := by decide +kernel
theorem rep15 : rep 15 8 = 1085102592571150095 := by decide +kernel

theorem o1_eq (x : Nat) (h : x < 18446744073709551616) : o1 (x : Int) = (yk 8 x : Nat) ∧ yk 8 x ≤ 12297829382473034410 := by
  unfold o1 yk
  rw [rep85]
  have e : ((x : Int) / 2) = ((x / 2 : Nat) : Int) := by omega
  have a1 := Nat.and_le_right (n := x / 2) (m := 6148914691236517205)
  have a2 := Nat.and_le_right (n := x) (m := 6148914691236517205)
  have b1 := u64_and_nat (x / 2) 6148914691236517205 (by omega) (by omega)
  have b2 := u64_and_nat x 6148914691236517205 (by omega) (by omega)
  have c : ((6148914691236517205 : Nat) : Int) = 6148914691236517205 := rfl
  rw [c] at b1 b2
  rw [e, b1, b2, IntKind.wrap_u64]
  omega
theorem o2_eq (x : Nat) (h : x < 18446744073709551616) : o2 (x : Int) = (zk 8 x : Nat) ∧ zk 8 x ≤ 7378697629483820646 := by
  unfold o2 zk
  rw [rep51]
  have e : ((x : Int) / 4) = ((x / 4 : Nat) : Int) := by omega
  have a1 := Nat.and_le_right (n := x / 4) (m := 3689348814741910323)
  have a2 := Nat.and_le_right (n := x) (m := 3689348814741910323)
  have b1 := u64_and_nat (x / 4) 3689348814741910323 (by omega) (by omega)
  have b2 := u64_and_nat x 3689348814741910323 (by omega) (by omega)
  have c : ((3689348814741910323 : Nat) : Int) = 3689348814741910323 := rfl
  rw [c] at b1 b2
  rw [e, b1, b2, IntKind.wrap_u64]
  omega
theorem o3_eq (x : Nat) (h : x ≤ 7378697629483820646) : o3 (x : Int) = (gk 8 x : Nat) := by
  unfold o3 gk
  rw [rep15]
  have e : IntKind.u64.wrap ((x : Int) / 16 + (x : Int)) = ((x / 16 + x : Nat) : Int) := by rw [IntKind.wrap_u64]; omega
  have b := u64_and_nat (x / 16 + x) 1085102592571150095 (by omega) (by omega)
  have c : ((1085102592571150095 : Nat) : Int) = 1085102592571150095 := rfl
  rw [c] at b
  rw [e, b]
theorem o7_eq (x : Nat) (h : x < 9223372036854775808) : o7 (x : Int) = ((x % 128 : Nat) : Int) := by
  unfold o7
  have e : wrap64 (x : Int) = (x : Int) := by unfold wrap64; omega
  rw [e, i64_and127]
  omega
theorem mod_help (P T : Nat) (h : P ≤ 64) : (P + 256 * T) % 128 = P := by omega
theorem tail4 (A A1 p0 : Nat) (hA : A = p0 + 256 * A1) (q : p0 ≤ 8) (hb : A ≤ 600000000000000000) : o4 (A : Int) = ((A + A1 : Nat) : Int) := by
  unfold o4; rw [IntKind.wrap_u64]; omega
theorem tail5 (A A1 A2 A3 u u1 : Nat) (hA : A = u + 65536 * A2) (hA1 : A1 = u1 + 65536 * A3) (q : u ≤ 2056) (q1 : u1 ≤ 2056) (hb : A ≤ 600000000000000000) (hb1 : A1 ≤ 600000000000000000) : o5 ((A + A1 : Nat) : Int) = ((A + A1 + A2 + A3 : Nat) : Int) := by
  unfold o5; rw [IntKind.wrap_u64]; omega
theorem tail6 (A A1 A2 A3 A4 A5 A6 A7 v v1 v2 v3 : Nat) (hA : A = v + 4294967296 * A4) (hA1 : A1 = v1 + 4294967296 * A5) (hA2 : A2 = v2 + 4294967296 * A6) (hA3 : A3 = v3 + 4294967296 * A7)
    (q : v + v1 + v2 + v3 < 4294967296) (hb : A ≤ 600000000000000000) (hb1 : A1 ≤ 600000000000000000) (hb2 : A2 ≤ 600000000000000000) (hb3 : A3 ≤ 600000000000000000) :
    o6 ((A + A1 + A2 + A3 : Nat) : Int) = ((A + A1 + A2 + A3 + (A4 + A5 + A6 + A7) : Nat) : Int) := by
  unfold o6; rw [IntKind.wrap_u64]; omega
theorem ones_tail (p0 p1 p2 p3 p4 p5 p6 p7 : Nat) (q0 : p0 ≤ 8) (q1 : p1 ≤ 8) (q2 : p2 ≤ 8) (q3 : p3 ≤ 8) (q4 : p4 ≤ 8) (q5 : p5 ≤ 8) (q6 : p6 ≤ 8) (q7 : p7 ≤ 8) :
    o7 (o6 (o5 (o4 ((p0 + 256 * (p1 + 256 * (p2 + 256 * (p3 + 256 * (p4 + 256 * (p5 + 256 * (p6 + 256 * (p7 + 256 * 0))))))) : Nat) : Int)))) = ((p0 + (p1 + (p2 + (p3 + (p4 + (p5 + (p6 + (p7 + 0))))))) : Nat) : Int) := by
  obtain ⟨A7, h7⟩ : ∃ A7, A7 = p7 + 256 * 0 := ⟨_, rfl⟩
  obtain ⟨A6, h6⟩ : ∃ A6, A6 = p6 + 256 * A7 := ⟨_, rfl⟩
  obtain ⟨A5, h5⟩ : ∃ A5, A5 = p5 + 256 * A6 := ⟨_, rfl⟩
  obtain ⟨A4, h4⟩ : ∃ A4, A4 = p4 + 256 * A5 := ⟨_, rfl⟩
  obtain ⟨A3, h3⟩ : ∃ A3, A3 = p3 + 256 * A4 := ⟨_, rfl⟩
  obtain ⟨A2, h2⟩ : ∃ A2, A2 = p2 + 256 * A3 := ⟨_, rfl⟩
  obtain ⟨A1, h1⟩ : ∃ A1, A1 = p1 + 256 * A2 := ⟨_, rfl⟩
  obtain ⟨A, h0⟩ : ∃ A, A = p0 + 256 * A1 := ⟨_, rfl⟩
  rw [← h7, ← h6, ← h5, ← h4, ← h3, ← h2, ← h1, ← h0]
  have b7 : A7 ≤ 8 := by omega
  have b6 : A6 ≤ 2056 := by omega
  have b5 : A5 ≤ 526344 := by omega
  have b4 : A4 ≤ 134744072 := by omega
  have b3 : A3 ≤ 34494482440 := by omega
  have b2 : A2 ≤ 8830587504648 := by omega
  have b1 : A1 ≤ 2260630401189896 := by omega
  have b0 : A ≤ 578721382704613384 := by omega
  rw [tail4 A A1 p0 h0 q0 (by omega)]
  have u0 : A = (p0 + 256 * p1) + 65536 * A2 := by omega
  have u1 : A1 = (p1 + 256 * p2) + 65536 * A3 := by omega
  have u2 : A2 = (p2 + 256 * p3) + 65536 * A4 := by omega
  have u3 : A3 = (p3 + 256 * p4) + 65536 * A5 := by omega
  have u4 : A4 = (p4 + 256 * p5) + 65536 * A6 := by omega
  have u5 : A5 = (p5 + 256 * p6) + 65536 * A7 := by omega
  rw [tail5 A A1 A2 A3 _ _ u0 u1 (by omega) (by omega) (by omega) (by omega)]
  have v0 : A = ((p0 + 256 * p1) + 65536 * (p2 + 256 * p3)) + 4294967296 * A4 := by rw [u0, u2]; omega
  have v1 : A1 = ((p1 + 256 * p2) + 65536 * (p3 + 256 * p4)) + 4294967296 * A5 := by rw [u1, u3]; omega
  have v2 : A2 = ((p2 + 256 * p3) + 65536 * (p4 + 256 * p5)) + 4294967296 * A6 := by rw [u2, u4]; omega
  have v3 : A3 = ((p3 + 256 * p4) + 65536 * (p5 + 256 * p6)) + 4294967296 * A7 := by rw [u3, u5]; omega
  rw [tail6 A A1 A2 A3 A4 A5 A6 A7 _ _ _ _ v0 v1 v2 v3 (by omega) (by omega) (by omega) (by omega) (by omega)]
  clear u0 u1 u2 u3 u4 u5 v0 v1 v2 v3
  rw [o7_eq _ (by omega)]
  have e : A + A1 + A2 + A3 + (A4 + A5 + A6 + A7) = (p0 + (p1 + (p2 + (p3 + (p4 + (p5 + (p6 + (p7 + 0)))))))) + 256 * (A1 + A2 + A3 + A4 + A5 + A6 + A7) := by omega
  rw [e]
  have hq : p0 + (p1 + (p2 + (p3 + (p4 + (p5 + (p6 + (p7 + 0))))))) ≤ 64 := by omega
  rw [mod_help _ _ hq]
  clear e hq
  omega
theorem ones_eq (x : Nat) (h : x < 18446744073709551616) : o7 (o6 (o5 (o4 (o3 (o2 (o1 (x : Int))))))) = (pop x : Nat) := by
  obtain ⟨e1, b1⟩ := o1_eq x h
  obtain ⟨e2, b2⟩ := o2_eq (yk 8 x) (by omega)
  have e3 := o3_eq (zk 8 (yk 8 x)) b2
  rw [e1, e2, e3]
  obtain ⟨p, hl, hp, hs, hg⟩ := gk_pop 8 x
  rw [hg]
  unfold pop
  rw [show (64 : Nat) = 8 * 8 from rfl, hs]
  match p, hl with
  | [p0, p1, p2, p3, p4, p5, p6, p7], _ =>
    have q0 := hp p0 (by simp)
    have q1 := hp p1 (by simp)
    have q2 := hp p2 (by simp)
    have q3 := hp p3 (by simp)
    have q4 := hp p4 (by simp)
    have q5 := hp p5 (by simp)
    have q6 := hp p6 (by simp)
    have q7 := hp p7 (by simp)
    clear hp hs hg e1 e2 e3 b1 b2 h
    simp only [List.foldr_cons, List.foldr_nil, List.sum_cons, List.sum_nil]
    exact ones_tail p0 p1 p2 p3 p4 p5 p6 p7 q0 q1 q2 q3 q4 q5 q6 q7
end Go.Proofs.YtmdmipojbeppiaaGreatDoor
namespace Go.Proofs.YtmdmipojbeppiaaGreatDoor
open Go.RowKit
set_option linter.unusedVariables false
set_option maxRecDepth 4000

set_option maxHeartbeats 400000 in
theorem ones_any (x : Nat) (hx : x < 18446744073709551616) (w : World) :
    Calls Tryz.prog 79 #[.int .u64 (x : Int)] w fun e w' => e = .returned (.int .i64 ((pop x : Nat) : Int)) ∧ w' = w := by
  have H := hide (ones_eq x hx)
  clear hx
  go_enter Tryz.func79, Tryz.ntmps79
  go_wp2
  go_ret
  exact ⟨ret_int (unhide H), rfl⟩

/-- The table of math/bits lies where its initialiser laid it. -/
def Tab (w : World) : Prop := ∀ i, i < 64 → w.cell? ⟨0, i, none⟩ = some (.int .u8 ((Lib.deBruijn64tab.getD i 0 : Nat) : Int))
theorem Tab.below {w w' : World} (h : Tab w) (hb : Below w.heap.size w w') : Tab w' := fun i hi => (hb.cell (World.block_lt_of_cell? w _ (h i hi))).trans (h i hi)

theorem tz_num (x : Nat) (h0 : x ≠ 0) (hx : x < 18446744073709551616) :
    ∃ q : Nat, q < 64 ∧ Lib.deBruijn64tab.getD q 0 = Lib.ctz 64 x ∧ IntKind.u64.wrap (bits .and .u64 (x : Int) (IntKind.u64.wrap (-(x : Int))) * 285870213051353865) / 288230376151711744 = (q : Int) := by
  obtain ⟨h1, h2⟩ := Lib.lowest_bit 64 x h0 (by omega)
  obtain ⟨h3, h4⟩ := Lib.deBruijn64_at (Lib.ctz 64 x) h2
  refine ⟨_, h3, h4, ?_⟩
  have e : IntKind.u64.wrap (-(x : Int)) = ((2 ^ 64 - x : Nat) : Int) := by rw [IntKind.wrap_u64]; omega
  rw [e, u64_and_nat x (2 ^ 64 - x) hx (by omega), h1, IntKind.wrap_u64]
  rw [show ((2 ^ Lib.ctz 64 x : Nat) : Int) * 285870213051353865 = ((2 ^ Lib.ctz 64 x * 285870213051353865 : Nat) : Int) from by rw [Int.natCast_mul]; rfl]
  generalize 2 ^ Lib.ctz 64 x * 285870213051353865 = z
  omega
set_option maxHeartbeats 400000 in
theorem tz_any (x : Nat) (h0 : x ≠ 0) (hx : x < 18446744073709551616) (w : World) (ht : Tab w) :
    Calls Tryz.prog 109 #[.int .u64 (x : Int)] w fun e w' => e = .returned (.int .i64 ((Lib.ctz 64 x : Nat) : Int)) ∧ w' = w := by
  have hne : ((x : Int) == 0) = false := by simp; omega
  obtain ⟨q, hq, hd, hz⟩ := tz_num x h0 hx
  have hcell := ht q hq
  rw [hd] at hcell
  have hlt : Lib.ctz 64 x < 64 := (Lib.lowest_bit 64 x h0 (by omega)).2
  generalize Lib.ctz 64 x = t at *
  clear ht hd h0
  go_enter Tryz.func109, Tryz.ntmps109
  go_wp2
  go_ret
  exact ⟨rfl, rfl⟩
set_option maxHeartbeats 400000 in
theorem count_any (a : Option Addr) (n c : Nat) (xs : List Nat) (w : World) (h : RowAt w a n xs) (hn : n ≤ 1048576) :
    Calls Tryz.prog 60 #[.slice a n c] w fun e w' => e = .returned (.int .i64 ((cnt xs : Nat) : Int)) ∧ w' = w := by
  go_enter Tryz.func60, Tryz.ntmps60
  go_wp2
  go_loop [3, 8] (fun t i => ∃ k : Nat, k ≤ n ∧ i = .int .i64 k ∧ t = .int .i64 ((cnt (xs.take k) : Nat) : Int)) (fun _ i => n - (intOf i).toNat)
  case atStart => exact ⟨0, Nat.zero_le _, rfl, rfl⟩
  case round =>
    obtain ⟨k, hk, rfl, rfl⟩ := hrel
    by_cases hlt : k < n
    · obtain ⟨b, off, rfl, hc⟩ := h.at hlt
      have hcell := hc k hlt
      have hx := h.2.1.get k
      have hs := cnt_take xs k (by rw [h.1]; exact hlt)
      have hb := cnt_le (xs.take k)
      have hlen : (xs.take k).length ≤ k := List.length_take_le _ _
      have hp := pop_le (xs.getD k 0)
      have HS := hide hs
      generalize xs.getD k 0 = x at *
      generalize cnt (xs.take k) = s at *
      clear hs hc h
      go_wp2_with (go_at_call 79; refine (ones_any x hx _).mono ?_; rintro e w' ⟨rfl, rfl⟩)
      go_round
      case rel => exact ⟨k + 1, by omega, by go_num, by rw [unhide HS]; go_num⟩
      case measure => simp [intOf]; omega
    · go_wp2
      go_ret
      exact ⟨ret_int (by rw [List.take_of_length_le (by rw [h.1]; omega)]), rfl⟩
end Go.Proofs.YtmdmipojbeppiaaGreatDoor
namespace Go.Proofs.YtmdmipojbeppiaaGreatDoor
open Go.RowKit
set_option linter.unusedVariables false
set_option maxRecDepth 4000

theorem first_step (xs : List Nat) (k : Nat) (h : ∀ j, j < k → xs.getD j 0 = 0) (h0 : xs.getD k 0 = 0) : ∀ j, j < k + 1 → xs.getD j 0 = 0 := by
  intro j hj
  by_cases e : j = k
  · rw [e]; exact h0
  · exact h j (by omega)
theorem first_none (xs : List Nat) (h : ∀ j, j < xs.length → xs.getD j 0 = 0) : firstI xs = -1 :=
  firstI_zero xs ((all_zero_iff xs).2 fun i => by
    by_cases hi : i < xs.length
    · exact h i hi
    · exact getD_of_le (by omega))

set_option maxHeartbeats 400000 in
theorem first_any (a : Option Addr) (n c : Nat) (xs : List Nat) (w : World) (ht : Tab w) (h : RowAt w a n xs) (hn : n ≤ 1048576) :
    Calls Tryz.prog 101 #[.slice a n c] w fun e w' => e = .returned (.int .i64 (firstI xs)) ∧ w' = w := by
  go_enter Tryz.func101, Tryz.ntmps101
  go_wp2
  go_loop [7] (fun i => ∃ k : Nat, k ≤ n ∧ i = .int .i64 k ∧ Hid (∀ j, j < k → xs.getD j 0 = 0)) (fun i => n - (intOf i).toNat)
  case atStart => exact ⟨0, Nat.zero_le _, rfl, hide (fun j hj => by omega)⟩
  case round =>
    obtain ⟨k, hk, rfl, HZ⟩ := hrel
    by_cases hlt : k < n
    · obtain ⟨b, off, rfl, hc⟩ := h.at hlt
      have hcell := hc k hlt
      have hx := h.2.1.get k
      by_cases h0 : xs.getD k 0 = 0
      · rw [h0] at hcell
        have HS := hide (first_step xs k (unhide HZ) h0)
        clear hc h h0 hx ht
        go_wp2
        go_round
        case rel => exact ⟨k + 1, by omega, by go_num, HS⟩
        case measure => simp [intOf]; omega
      · have HF := hide (firstI_at xs k (by rw [h.1]; exact hlt) (unhide HZ) h0)
        have hct := (Lib.lowest_bit 64 (xs.getD k 0) h0 (by omega)).2
        have hne : (((xs.getD k 0 : Nat) : Int) != 0) = true := by rw [bne_iff_ne]; omega
        generalize xs.getD k 0 = x at *
        clear hc h
        go_wp2_with (go_at_call 109; refine (tz_any x h0 hx _ ht).mono ?_; rintro e w' ⟨rfl, rfl⟩)
        go_ret
        exact ⟨ret_int (unhide HF).symm, rfl⟩
    · have HF := hide (first_none xs (fun j hj => unhide HZ j (by have := h.1; omega)))
      go_wp2
      go_ret
      exact ⟨ret_int (unhide HF).symm, rfl⟩

theorem xorTo_small {xs ys : List Nat} (hx : smalls xs) (hy : smalls ys) (k : Nat) : smalls (xorTo xs ys k) := by
  intro z hz
  unfold xorTo at hz
  obtain ⟨i, _, rfl⟩ := List.mem_map.1 hz
  have h1 := hx.get i
  have h2 := hy.get i
  show (if i < k then xs.getD i 0 ^^^ ys.getD i 0 else xs.getD i 0) < 18446744073709551616
  split
  · exact Nat.xor_lt_two_pow (n := 64) (by omega) (by omega)
  · exact h1

theorem xor_round {w wr : World} {B g cap : Nat} {xs ys : List Nat} {k : Nat} (hx : smalls xs) (hy : smalls ys) (hk : k < xs.length) (hB : B ≤ g)
    (ho : Own wr B (.slice (some ⟨g, 0, none⟩) xs.length cap) (xorTo xs ys k)) (hb : Below B w wr) :
    Own (wr.setCell ⟨g, k, none⟩ (.int .u64 ((xs.getD k 0 ^^^ ys.getD k 0 : Nat) : Int))) B (.slice (some ⟨g, 0, none⟩) xs.length cap) (xorTo xs ys (k + 1)) ∧
    Below B w (wr.setCell ⟨g, k, none⟩ (.int .u64 ((xs.getD k 0 ^^^ ys.getD k 0 : Nat) : Int))) := by
  have hl := xorTo_length xs ys k
  rw [← hl] at ho
  have h1 := ho.stored k (xs.getD k 0 ^^^ ys.getD k 0) (Nat.xor_lt_two_pow (n := 64) (by have := hx.get k; omega) (by have := hy.get k; omega))
  rw [xorTo_succ xs ys k hk, hl] at h1
  exact ⟨h1, hb.setCell (by exact hB) _⟩

set_option maxHeartbeats 1000000 in
theorem xor_any (a : Option Addr) (n c : Nat) (xs : List Nat) (a' : Option Addr) (m c' : Nat) (ys : List Nat) (w : World) (h : RowAt w a n xs) (h' : RowAt w a' m ys) (hn : n ≤ 1048576) (hm : m ≤ 1048576) :
    Calls Tryz.prog 73 #[.slice a n c, .slice a' m c'] w fun e w' => ∃ v, e = .returned v ∧ Own w' w.heap.size v (xorL xs ys) ∧ Below w.heap.size w w' := by
  obtain rfl : n = xs.length := h.1.symm
  obtain rfl : m = ys.length := h'.1.symm
  by_cases hsw : xs.length < ys.length
  · have hge : ((xs.length : Int) < (ys.length : Int)) := by omega
    go_enter Tryz.func73, Tryz.ntmps73
    go_wp2_with (go_at_call 82; refine (clone_any a' ys.length c' ys _ h' (by omega)).mono ?_; rintro e w1 ⟨v, rfl, ho, hb⟩)
    go_loopw [19] (fun i wr => ∃ k : Nat, k ≤ xs.length ∧ i = .int .i64 k ∧ Hid (Own wr w.heap.size v (xorTo ys xs k)) ∧ Hid (Below w.heap.size w wr)) (fun i _ => xs.length - (intOf i).toNat)
    case atStart => exact ⟨0, Nat.zero_le _, rfl, hide (by rw [xorTo_zero]; exact ho), hide hb⟩
    case round =>
      obtain ⟨k, hk, rfl, HO, HB⟩ := hrel
      clear ho hb
      by_cases hlt : k < xs.length
      · obtain ⟨b', off', rfl, hc'⟩ := (h.below (unhide HB)).at hlt
        have hkn : k < ys.length := by omega
        obtain ⟨g, cap, rfl, hBg, hgs, hcg, hfg⟩ := (unhide HO).at (by rw [xorTo_length]; omega)
        have hcell' := hc' k hlt
        have hcell := hcg k (by rw [xorTo_length]; omega)
        have hfz := hfg k
        rw [xorTo_getD ys xs k k (by omega), if_neg (by omega)] at hcell
        have hxo := u64_xor_nat (ys.getD k 0) (xs.getD k 0) (h'.2.1.get k) (h.2.1.get k)
        rw [xorTo_length] at HO
        have R := hide (xor_round h'.2.1 h.2.1 (by omega) hBg (unhide HO) (unhide HB))
        rw [xorTo_length]
        generalize ys.getD k 0 = x at *
        generalize xs.getD k 0 = y at *
        clear hc' hcg hfg h h' HO
        go_wp2
        go_roundw
        case rel => exact ⟨k + 1, by omega, by go_num, hide (unhide R).1, hide (unhide R).2⟩
        case measure => simp [intOf]; omega
      · have hke : k = xs.length := by omega
        subst hke
        rw [xorTo_all ys xs (by omega)] at HO
        clear h h'
        go_wp2
        go_ret
        exact ⟨_, rfl, by rw [xorL_comm]; exact unhide HO, unhide HB⟩
  · have hge : ¬ ((xs.length : Int) < (ys.length : Int)) := by omega
    go_enter Tryz.func73, Tryz.ntmps73
    go_wp2_with (go_at_call 82; refine (clone_any a xs.length c xs _ h (by omega)).mono ?_; rintro e w1 ⟨v, rfl, ho, hb⟩)
    go_loopw [19] (fun i wr => ∃ k : Nat, k ≤ ys.length ∧ i = .int .i64 k ∧ Hid (Own wr w.heap.size v (xorTo xs ys k)) ∧ Hid (Below w.heap.size w wr)) (fun i _ => ys.length - (intOf i).toNat)
    case atStart => exact ⟨0, Nat.zero_le _, rfl, hide (by rw [xorTo_zero]; exact ho), hide hb⟩
    case round =>
      obtain ⟨k, hk, rfl, HO, HB⟩ := hrel
      clear ho hb
      by_cases hlt : k < ys.length
      · obtain ⟨b', off', rfl, hc'⟩ := (h'.below (unhide HB)).at hlt
        have hkn : k < xs.length := by omega
        obtain ⟨g, cap, rfl, hBg, hgs, hcg, hfg⟩ := (unhide HO).at (by rw [xorTo_length]; omega)
        have hcell' := hc' k hlt
        have hcell := hcg k (by rw [xorTo_length]; omega)
        have hfz := hfg k
        rw [xorTo_getD xs ys k k (by omega), if_neg (by omega)] at hcell
        have hxo := u64_xor_nat (xs.getD k 0) (ys.getD k 0) (h.2.1.get k) (h'.2.1.get k)
        rw [xorTo_length] at HO
        have R := hide (xor_round h.2.1 h'.2.1 (by omega) hBg (unhide HO) (unhide HB))
        rw [xorTo_length]
        generalize xs.getD k 0 = x at *
        generalize ys.getD k 0 = y at *
        clear hc' hcg hfg h h' HO
        go_wp2
        go_roundw
        case rel => exact ⟨k + 1, by omega, by go_num, hide (unhide R).1, hide (unhide R).2⟩
        case measure => simp [intOf]; omega
      · have hke : k = ys.length := by omega
        subst hke
        rw [xorTo_all xs ys (by omega)] at HO
        clear h h'
        go_wp2
        go_ret
        exact ⟨_, rfl, unhide HO, unhide HB⟩

theorem xorL_small {xs ys : List Nat} (hx : smalls xs) (hy : smalls ys) : smalls (xorL xs ys) := by
  intro z hz
  unfold xorL at hz
  obtain ⟨i, _, rfl⟩ := List.mem_map.1 hz
  have h1 := hx.get i
  have h2 := hy.get i
  exact Nat.xor_lt_two_pow (n := 64) (by omega) (by omega)

set_option maxHeartbeats 400000 in
theorem same_any (a : Option Addr) (n c : Nat) (xs : List Nat) (a' : Option Addr) (m c' : Nat) (ys : List Nat) (w : World) (ht : Tab w) (h : RowAt w a n xs) (h' : RowAt w a' m ys) (hn : n ≤ 1048576) (hm : m ≤ 1048576) :
    Calls Tryz.prog 86 #[.slice a n c, .slice a' m c'] w fun e w' => e = .returned (.bool (decide (firstI (xorL xs ys) < 0))) ∧ Below w.heap.size w w' := by
  go_enter Tryz.func86, Tryz.ntmps86
  go_wp2_with fail
  refine (xor_any a n c xs a' m c' ys _ h h' hn hm).mono ?_
  rintro e w1 ⟨v, rfl, ho, hb⟩
  obtain ⟨a1, c1, rfl, hr⟩ := ho.row
  have hl : (xorL xs ys).length ≤ 1048576 := by rw [xorL_length, h.1, h'.1]; omega
  have ht1 := ht.below hb
  go_wp2_with fail
  refine (first_any a1 _ c1 _ _ ht1 hr hl).mono ?_
  rintro e w2 ⟨rfl, rfl⟩
  go_wp2
  go_ret
  exact ⟨rfl, hb⟩
end Go.Proofs.YtmdmipojbeppiaaGreatDoor
namespace Go.Proofs.YtmdmipojbeppiaaGreatDoor
open Go.RowKit
set_option linter.unusedVariables false
set_option maxRecDepth 4000

/-- append(nil, xs...): a row of the call's own, whatever xs is. -/
theorem run_append_nil_any (t ty e : TypeId) (ht : Tryz.prog.underlying t = some (.slice e)) (i : TypeInfo) (hi : Tryz.prog.info? e = some i) (c : Nat) (w : World) :
    (Builtin.append_ #[t, t] ty #[.slice none 0 0, .slice none 0 c]).run Tryz.prog w = .ok (.slice none 0 0) w := by
  simp [Builtin.append_, run_underlying ht, sizeOf, typeInfo, hi, Builtin.lenOf, Builtin.firstCells]
theorem wpList_append_nil {w : World} {ops : Array Oper} {rest : List Oper} {o : Oper} {act : Act} {Q : Exit → Act → World → Prop} (hgd : o.guard = none) (s x : Operand)
    (ho : o.op = .call { callee := .builtin .append, args := #[s, x], argTypes := #[25, 25] }) (a : Option Addr) (n c : Nat) (xs : List Nat)
    (hs : act.eval s = .slice none 0 0) (hx : act.eval x = .slice a n c) (h : RowAt w a n xs) (hn : n ≤ 1048576)
    (hK : ∀ v' w', Own w' w.heap.size v' xs → Below w.heap.size w w' → wpList Tryz.prog ops Q rest (act.put o.dst v') w') : wpList Tryz.prog ops Q (o :: rest) act w := by
  obtain ⟨i0, hi, hz0, hz1, hz2⟩ := info_parts info_u64
  cases a with
  | none =>
    have h0 : n = 0 := by
      rcases h.2.2 with h0 | ⟨b, off, h1, _⟩
      · exact h0
      · cases h1
    subst h0
    have hxs : xs = [] := List.eq_nil_of_length_eq_zero h.1
    subst hxs
    refine wpList_plain hgd fun K hK' => ?_
    have hrun := run_append_nil_any 25 o.type 65 Tryz.underlying25 i0 hi c w
    unfold Oper.wp
    simp [execOp, ho, resolve, invoke, builtin, hs, hx, hrun, Result.andThen]
    exact hK' _ _ (hK _ _ (Own.nil _ _) (Below.refl _ _))
  | some ad =>
    refine wpList_append_own w hgd s x 25 ho w.heap.size 65 i0 (.int .u64 0) 1 8 Tryz.underlying25 hi hz0 hz1 hz2 rfl (by decide) (.slice none 0 0) 0 [] hs (World.ownsRow_nil _ _ _ _) ad n c (cellsU xs) hx
      (by rw [cellsU_length, h.1, Nat.mul_one]) h.news (cellsU_one xs) (by unfold maxLen; omega) (by omega) (Nat.le_refl _) ?_
    intro v' w' hown hgrow _
    exact hK v' w' ⟨h.2.1, by rw [h.1]; simpa using hown⟩ ((Below.refl _ _).grown hgrow (Nat.le_refl _) (fun k hk => by simp [Value.ownBlock] at hk))
/-- Nothing is added: the same slice. -/
theorem run_append_onto_none (t ty e : TypeId) (ht : Tryz.prog.underlying t = some (.slice e)) (i : TypeInfo) (hi : Tryz.prog.info? e = some i) (a : Option Addr) (n cp c : Nat) (hn : n ≤ cp) (w : World) :
    (Builtin.append_ #[t, t] ty #[.slice a n cp, .slice none 0 c]).run Tryz.prog w = .ok (.slice a n cp) w := by
  cases a <;> simp [Builtin.append_, run_underlying ht, sizeOf, typeInfo, hi, Builtin.lenOf, Builtin.firstCells, hn, storeCells]
theorem wpList_append_row {w : World} {ops : Array Oper} {rest : List Oper} {o : Oper} {act : Act} {Q : Exit → Act → World → Prop} (hgd : o.guard = none) (s x : Operand)
    (ho : o.op = .call { callee := .builtin .append, args := #[s, x], argTypes := #[25, 25] }) (B : Nat) (a0 : Option Addr) (n0 c0 : Nat) (xs : List Nat) (a : Option Addr) (n c : Nat) (ys : List Nat)
    (hs : act.eval s = .slice a0 n0 c0) (hx : act.eval x = .slice a n c) (h : Own w B (.slice a0 n0 c0) xs) (h' : RowAt w a n ys) (hB : B ≤ w.heap.size) (hn : xs.length + n ≤ 1048576)
    (hK : ∀ v' w', Own w' B v' (xs ++ ys) → Below B w w' → wpList Tryz.prog ops Q rest (act.put o.dst v') w') : wpList Tryz.prog ops Q (o :: rest) act w := by
  obtain ⟨i0, hi, hz0, hz1, hz2⟩ := info_parts info_u64
  cases a with
  | none =>
    have h0 : n = 0 := by
      rcases h'.2.2 with h0 | ⟨b, off, h1, _⟩
      · exact h0
      · cases h1
    subst h0
    have hys : ys = [] := List.eq_nil_of_length_eq_zero h'.1
    subst hys
    refine wpList_plain hgd fun K hK' => ?_
    have hrun := run_append_onto_none 25 o.type 65 Tryz.underlying25 i0 hi a0 n0 c0 c h.cap w
    unfold Oper.wp
    simp [execOp, ho, resolve, invoke, builtin, hs, hx, hrun, Result.andThen]
    exact hK' _ _ (hK _ _ (by rw [List.append_nil]; exact h) (Below.refl _ _))
  | some ad =>
    refine wpList_append_own w hgd s x 25 ho B 65 i0 (.int .u64 0) 1 8 Tryz.underlying25 hi hz0 hz1 hz2 rfl (by decide) (.slice a0 n0 c0) xs.length (cellsU xs) hs h.2 ad n c (cellsU ys) hx
      (by rw [cellsU_length, h'.1, Nat.mul_one]) h'.news (cellsU_one ys) (by unfold maxLen; omega) (by omega) hB ?_
    intro v' w' hown hgrow _
    refine hK v' w' ⟨fun z hz => ?_, ?_⟩ ((Below.refl _ _).grown hgrow hB (fun k hk => (h.2.lt k hk).1))
    · rcases List.mem_append.1 hz with hz | hz
      · exact h.1 z hz
      · exact h'.2.1 z hz
    · rw [List.length_append, h'.1, show cellsU (xs ++ ys) = cellsU xs ++ cellsU ys by simp [cellsU]]
      exact hown
end Go.Proofs.YtmdmipojbeppiaaGreatDoor
namespace Go.Proofs.YtmdmipojbeppiaaGreatDoor
open Go.RowKit
set_option linter.unusedVariables false
set_option maxRecDepth 4000

theorem rcnt_num (x : Nat) (hx : x < 18446744073709551616) : bits .and .u64 (x : Int) 1 = ((x % 2 : Nat) : Int) := by
  have h := u64_and_nat x 1 hx (by omega)
  rwa [nat_mask1] at h

set_option maxHeartbeats 1000000 in
theorem rcount_any (a : Option Addr) (n c : Nat) (xs : List Nat) (w : World) (h : RowAt w a n xs) (hn : n ≤ 1048576) :
    Calls Tryz.prog 43 #[.slice a n c] w fun e w' => e = .returned (.int .i64 ((cnt xs : Nat) : Int)) ∧ w' = w := by
  go_enter Tryz.func43, Tryz.ntmps43
  go_wp2
  go_loop [3, 4] (fun t i => ∃ k : Nat, k ≤ n ∧ i = .int .i64 k ∧ t = .int .i64 ((cnt (xs.take k) : Nat) : Int)) (fun _ i => n - (intOf i).toNat)
  case atStart => exact ⟨0, Nat.zero_le _, rfl, rfl⟩
  case round =>
    obtain ⟨k, hk, rfl, rfl⟩ := hrel
    by_cases hlt : k < n
    · obtain ⟨b, off, rfl, hc⟩ := h.at hlt
      have hcell := hc k hlt
      have hx := h.2.1.get k
      have hs := cnt_take xs k (by rw [h.1]; exact hlt)
      have hb := cnt_le (xs.take k)
      have hlen : (xs.take k).length ≤ k := List.length_take_le _ _
      have hp := pop_le (xs.getD k 0)
      have HS := hide hs
      generalize xs.getD k 0 = x at *
      generalize cnt (xs.take k) = s at *
      clear hs hc h
      go_wp2
      go_loop [3, 5] (fun t y => ∃ z q : Nat, z < 18446744073709551616 ∧ y = .int .u64 (z : Int) ∧ t = .int .i64 (q : Int) ∧ q + pop z = s + pop x) (fun _ y => (intOf y).toNat)
      case atStart => exact ⟨x, s, hx, rfl, rfl, rfl⟩
      case round =>
        obtain ⟨z, q, hz, rfl, rfl, hq⟩ := hrel
        have HQ := hide hq
        have hqb : q ≤ 200000000 := by omega
        clear hq
        by_cases hz0 : 0 < z
        · have hb1 := rcnt_num z hz
          have HP := hide (pop_step z hz)
          go_wp2
          go_round
          case rel => exact ⟨z / 2, q + z % 2, by omega, by go_num, by go_num, by have := unhide HP; have := unhide HQ; omega⟩
          case measure => simp [intOf]; omega
        · have hz1 : z = 0 := by omega
          subst hz1
          have hfin : cnt (xs.take (k + 1)) = q := by
            have h1 := unhide HS
            have h2 := unhide HQ
            rw [pop_zero] at h2
            omega
          have HF := hide hfin
          clear hfin
          go_wp2
          go_round
          case rel => exact ⟨k + 1, by omega, by go_num, by rw [unhide HF]⟩
          case measure => simp [intOf]; omega
    · go_wp2
      go_ret
      exact ⟨ret_int (by rw [List.take_of_length_le (by rw [h.1]; omega)]), rfl⟩

theorem rxor_round {w wr : World} {B g cap : Nat} {xs ys : List Nat} {k : Nat} (hx : smalls xs) (hy : smalls ys) (hk : k < xs.length) (hB : B ≤ g)
    (ho : Own wr B (.slice (some ⟨g, 0, none⟩) xs.length cap) (xorTo xs ys k)) (hb : Below B w wr) :
    Own (wr.setCell ⟨g, k, none⟩ (.int .u64 ((xs.getD k 0 ^^^ ys.getD k 0 : Nat) : Int))).drew B (.slice (some ⟨g, 0, none⟩) xs.length cap) (xorTo xs ys (k + 1)) ∧
    Below B w (wr.setCell ⟨g, k, none⟩ (.int .u64 ((xs.getD k 0 ^^^ ys.getD k 0 : Nat) : Int))).drew := by
  obtain ⟨h1, h2⟩ := xor_round hx hy hk hB ho hb
  exact ⟨⟨h1.1, h1.2.drew⟩, h2.drew⟩

set_option maxHeartbeats 1000000 in
theorem rxor_any (a : Option Addr) (n c : Nat) (xs : List Nat) (a' : Option Addr) (m c' : Nat) (ys : List Nat) (w : World) (h : RowAt w a n xs) (h' : RowAt w a' m ys) (hn : n ≤ 1048576) (hm : m ≤ 1048576) :
    Calls Tryz.prog 65 #[.slice a n c, .slice a' m c'] w fun e w' => ∃ v, e = .returned v ∧ Own w' w.heap.size v (xorL xs ys) ∧ Below w.heap.size w w' := by
  obtain rfl : n = xs.length := h.1.symm
  obtain rfl : m = ys.length := h'.1.symm
  by_cases hsw : xs.length < ys.length
  · have hge : ((xs.length : Int) < (ys.length : Int)) := by omega
    go_enter Tryz.func65, Tryz.ntmps65
    go_wp2_with (first | (at_builtin; refine wpList_append_nil rfl _ _ rfl a' ys.length c' ys rfl rfl h' (by omega) ?_; intro v w1 ho hb))
    go_loopw [6] (fun i wr => ∃ k : Nat, k ≤ xs.length ∧ i = .int .i64 k ∧ Hid (Own wr w.heap.size v (xorTo ys xs k)) ∧ Hid (Below w.heap.size w wr)) (fun i _ => xs.length - (intOf i).toNat)
    case atStart => exact ⟨0, Nat.zero_le _, rfl, hide (by rw [xorTo_zero]; exact ho), hide hb⟩
    case round =>
      obtain ⟨k, hk, rfl, HO, HB⟩ := hrel
      clear ho hb
      by_cases hlt : k < xs.length
      · obtain ⟨b', off', rfl, hc'⟩ := (h.below (unhide HB)).at hlt
        have hkn : k < ys.length := by omega
        have hkn' : (k : Int) < (ys.length : Int) := by omega
        have hlt' : (k : Int) < (xs.length : Int) := by omega
        obtain ⟨g, cap, rfl, hBg, hgs, hcg, hfg⟩ := (unhide HO).at (by rw [xorTo_length]; omega)
        have hcell' := hc' k hlt
        have hcell := hcg k (by rw [xorTo_length]; omega)
        have hfz := hfg k
        rw [xorTo_getD ys xs k k (by omega), if_neg (by omega)] at hcell
        have hxo := u64_xor_nat (ys.getD k 0) (xs.getD k 0) (h'.2.1.get k) (h.2.1.get k)
        rw [xorTo_length] at HO
        have R := hide (rxor_round h'.2.1 h.2.1 (by omega) hBg (unhide HO) (unhide HB))
        rw [xorTo_length]
        generalize ys.getD k 0 = x at *
        generalize xs.getD k 0 = y at *
        clear hc' hcg hfg h h' HO
        go_wp2
        go_region
        all_goals go_wp2
        go_roundw
        case rel => exact ⟨k + 1, by omega, by go_num, hide (unhide R).1, hide (unhide R).2⟩
        case measure => simp [intOf]; omega
      · have hke : k = xs.length := by omega
        subst hke
        rw [xorTo_all ys xs (by omega)] at HO
        clear h h'
        go_wp2
        go_ret
        exact ⟨_, rfl, by rw [xorL_comm]; exact unhide HO, unhide HB⟩
  · have hge : ¬ ((xs.length : Int) < (ys.length : Int)) := by omega
    go_enter Tryz.func65, Tryz.ntmps65
    go_wp2_with (first | (at_builtin; refine wpList_append_nil rfl _ _ rfl a xs.length c xs rfl rfl h (by omega) ?_; intro v w1 ho hb))
    go_loopw [6] (fun i wr => ∃ k : Nat, k ≤ ys.length ∧ i = .int .i64 k ∧ Hid (Own wr w.heap.size v (xorTo xs ys k)) ∧ Hid (Below w.heap.size w wr)) (fun i _ => ys.length - (intOf i).toNat)
    case atStart => exact ⟨0, Nat.zero_le _, rfl, hide (by rw [xorTo_zero]; exact ho), hide hb⟩
    case round =>
      obtain ⟨k, hk, rfl, HO, HB⟩ := hrel
      clear ho hb
      by_cases hlt : k < ys.length
      · obtain ⟨b', off', rfl, hc'⟩ := (h'.below (unhide HB)).at hlt
        have hkn : k < xs.length := by omega
        have hkn' : (k : Int) < (xs.length : Int) := by omega
        have hlt' : (k : Int) < (ys.length : Int) := by omega
        obtain ⟨g, cap, rfl, hBg, hgs, hcg, hfg⟩ := (unhide HO).at (by rw [xorTo_length]; omega)
        have hcell' := hc' k hlt
        have hcell := hcg k (by rw [xorTo_length]; omega)
        have hfz := hfg k
        rw [xorTo_getD xs ys k k (by omega), if_neg (by omega)] at hcell
        have hxo := u64_xor_nat (xs.getD k 0) (ys.getD k 0) (h.2.1.get k) (h'.2.1.get k)
        rw [xorTo_length] at HO
        have R := hide (rxor_round h.2.1 h'.2.1 (by omega) hBg (unhide HO) (unhide HB))
        rw [xorTo_length]
        generalize xs.getD k 0 = x at *
        generalize ys.getD k 0 = y at *
        clear hc' hcg hfg h h' HO
        go_wp2
        go_region
        all_goals go_wp2
        go_roundw
        case rel => exact ⟨k + 1, by omega, by go_num, hide (unhide R).1, hide (unhide R).2⟩
        case measure => simp [intOf]; omega
      · have hke : k = ys.length := by omega
        subst hke
        rw [xorTo_all xs ys (by omega)] at HO
        clear h h'
        go_wp2
        go_ret
        exact ⟨_, rfl, unhide HO, unhide HB⟩

end Go.Proofs.YtmdmipojbeppiaaGreatDoor
namespace Go.Proofs.YtmdmipojbeppiaaGreatDoor
open Go.RowKit
set_option linter.unusedVariables false
set_option maxRecDepth 4000

set_option maxHeartbeats 1000000 in
theorem rfirst_any (a : Option Addr) (n c : Nat) (xs : List Nat) (w : World) (h : RowAt w a n xs) (hn : n ≤ 1048576) :
    Calls Tryz.prog 68 #[.slice a n c] w fun e w' => e = .returned (.int .i64 (firstI xs)) ∧ w' = w := by
  go_enter Tryz.func68, Tryz.ntmps68
  go_wp2
  go_loop [3] (fun i => ∃ k : Nat, k ≤ n ∧ i = .int .i64 k ∧ Hid (∀ j, j < k → xs.getD j 0 = 0)) (fun i => n - (intOf i).toNat)
  case atStart => exact ⟨0, Nat.zero_le _, rfl, hide (fun j hj => by omega)⟩
  case round =>
    obtain ⟨k, hk, rfl, HZ⟩ := hrel
    by_cases hlt : k < n
    · have hR := h
      obtain ⟨b, off, rfl, hc⟩ := h.at hlt
      have hcell := hc k hlt
      have hx := h.2.1.get k
      by_cases h0 : xs.getD k 0 = 0
      · rw [h0] at hcell
        have HS := hide (first_step xs k (unhide HZ) h0)
        clear hc h h0 hx hR
        go_wp2
        go_round
        case rel => exact ⟨k + 1, by omega, by go_num, HS⟩
        case measure => simp [intOf]; omega
      · have HF := hide (firstI_at xs k (by rw [h.1]; exact hlt) (unhide HZ) h0)
        have hct := ctz_lt (xs.getD k 0) h0 hx
        have HB := hide (ctz_bit (xs.getD k 0) h0 hx)
        have HL := hide (fun j (hj : j < Lib.ctz 64 (xs.getD k 0)) => ctz_low (xs.getD k 0) j h0 hx hj)
        have HG := hide (fun j (hj : j < 64) => getB_at xs k j hj)
        have hne : (((xs.getD k 0 : Nat) : Int) == 0) = false := by simp only [beq_eq_false_iff_ne, ne_eq]; omega
        generalize xs.getD k 0 = x at *
        generalize Lib.ctz 64 x = t at *
        clear hc h h0
        go_wp2
        go_loop [4] (fun y => ∃ j : Nat, j ≤ t ∧ y = .int .i64 (64 * (k : Int) + (j : Int))) (fun y => (64 * k + t) - (intOf y).toNat)
        case atStart => exact ⟨0, by omega, by go_num⟩
        case round =>
          obtain ⟨j, hj, rfl⟩ := hrel
          have hc := rget_in (some ⟨b, off, none⟩) n c xs (64 * (k : Int) + (j : Int)) w hR (by omega) (by omega) (by omega) (by omega)
          rw [show (64 * (k : Int) + (j : Int)).toNat = 64 * k + j by omega, unhide HG j (by omega)] at hc
          by_cases hjt : j < t
          · rw [unhide HL j hjt] at hc
            have HC := hide hc
            clear hc hR
            go_wp2_with (go_at_call 48; refine (unhide HC).mono ?_; rintro e w' ⟨rfl, rfl⟩)
            go_round
            case rel => exact ⟨j + 1, by omega, by go_num⟩
            case measure => simp [intOf]; omega
          · have hje : j = t := by omega
            subst hje
            rw [unhide HB] at hc
            have HC := hide hc
            clear hc hR
            go_wp2_with (go_at_call 48; refine (unhide HC).mono ?_; rintro e w' ⟨rfl, rfl⟩)
            go_ret
            exact ⟨ret_int (by rw [unhide HF]; omega), rfl⟩
    · have HF := hide (first_none xs (fun j hj => unhide HZ j (by have := h.1; omega)))
      go_wp2
      go_ret
      exact ⟨ret_int (unhide HF).symm, rfl⟩

set_option maxHeartbeats 400000 in
theorem rsame_any (a : Option Addr) (n c : Nat) (xs : List Nat) (a' : Option Addr) (m c' : Nat) (ys : List Nat) (w : World) (h : RowAt w a n xs) (h' : RowAt w a' m ys) (hn : n ≤ 1048576) (hm : m ≤ 1048576) :
    Calls Tryz.prog 66 #[.slice a n c, .slice a' m c'] w fun e w' => e = .returned (.bool (decide (cnt (xorL xs ys) = 0))) ∧ Below w.heap.size w w' := by
  go_enter Tryz.func66, Tryz.ntmps66
  go_wp2_with fail
  refine (rxor_any a n c xs a' m c' ys _ h h' hn hm).mono ?_
  rintro e w1 ⟨v, rfl, ho, hb⟩
  obtain ⟨a1, c1, rfl, hr⟩ := ho.row
  have hl : (xorL xs ys).length ≤ 1048576 := by rw [xorL_length, h.1, h'.1]; omega
  go_wp2_with fail
  refine (rcount_any a1 _ c1 _ _ hr hl).mono ?_
  rintro e w2 ⟨rfl, rfl⟩
  have he : ∀ q : Nat, ((q : Int) == 0) = decide (q = 0) := fun q => by
    by_cases e : q = 0
    · subst e; rfl
    · simp [e]
  have HE := hide (he (cnt (xorL xs ys)))
  clear he
  go_wp2
  go_ret
  exact ⟨ret_bool (unhide HE), hb⟩

def sizeOfK (k : Int) : Nat := if k < 1 ∨ 128 < k then 0 else ((k + 63) / 64).toNat
set_option maxHeartbeats 400000 in
theorem size_any (k : Int) (w : World) :
    Calls Tryz.prog 151 #[.int .i64 k] w fun e w' => e = .returned (.int .i64 ((sizeOfK k : Nat) : Int)) ∧ w' = w := by
  by_cases h1 : k < 1
  · have e : sizeOfK k = 0 := by unfold sizeOfK; rw [if_pos (.inl h1)]
    rw [e]
    go_enter Tryz.func151, Tryz.ntmps151
    go_wp2
    go_ret
    exact ⟨rfl, rfl⟩
  · by_cases h2 : 128 < k
    · have e : sizeOfK k = 0 := by unfold sizeOfK; rw [if_pos (.inr h2)]
      rw [e]
      go_enter Tryz.func151, Tryz.ntmps151
      go_wp2
      go_ret
      exact ⟨rfl, rfl⟩
    · have e : ((sizeOfK k : Nat) : Int) = (k + 64 - 1) / 64 := by unfold sizeOfK; rw [if_neg (by omega)]; omega
      have HE := hide e
      clear e
      go_enter Tryz.func151, Tryz.ntmps151
      go_wp2
      go_ret
      exact ⟨ret_int (unhide HE).symm, rfl⟩
set_option maxHeartbeats 400000 in
theorem rsize_any (k : Int) (w : World) :
    Calls Tryz.prog 69 #[.int .i64 k] w fun e w' => e = .returned (.int .i64 ((sizeOfK k : Nat) : Int)) ∧ w' = w := by
  by_cases h1 : k < 1
  · have e : sizeOfK k = 0 := by unfold sizeOfK; rw [if_pos (.inl h1)]
    rw [e]
    go_enter Tryz.func69, Tryz.ntmps69
    go_wp2
    go_ret
    exact ⟨rfl, rfl⟩
  · by_cases h2 : 128 < k
    · have e : sizeOfK k = 0 := by unfold sizeOfK; rw [if_pos (.inr h2)]
      rw [e]
      go_enter Tryz.func69, Tryz.ntmps69
      go_wp2
      go_ret
      exact ⟨rfl, rfl⟩
    · have e : ((sizeOfK k : Nat) : Int) = (k + 64 - 1) / 64 := by unfold sizeOfK; rw [if_neg (by omega)]; omega
      have HE := hide e
      clear e
      go_enter Tryz.func69, Tryz.ntmps69
      go_wp2
      go_loop [3] (fun t => ∃ q : Nat, 64 * ((q : Int) - 1) < k ∧ t = .int .i64 (q : Int)) (fun t => 10 - (intOf t).toNat)
      case atStart => exact ⟨0, by omega, rfl⟩
      case round =>
        obtain ⟨q, hq, rfl⟩ := hrel
        by_cases hl : 64 * (q : Int) < k
        · go_wp2
          go_round
          case rel => exact ⟨q + 1, by omega, by go_num⟩
          case measure => simp [intOf]; omega
        · go_wp2
          go_ret
          exact ⟨ret_int (by rw [unhide HE]; omega), rfl⟩
end Go.Proofs.YtmdmipojbeppiaaGreatDoor
