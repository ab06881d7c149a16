/-
  How many of the first k bits of a row are set; the xor of two rows bit by bit. Plain lists of words; no condition.
-/
import Derived.Test.YtbppanebpfpioaaDoorM1
namespace Go.Proofs.YtbppanebpfpioaaDoor

/-- How many of the first k bits are set. -/
def upTo (vs : List Nat) : Nat → Nat
  | 0 => 0
  | k + 1 => upTo vs k + if getB vs k then 1 else 0
theorem upTo_le (vs : List Nat) : ∀ k, upTo vs k ≤ k
  | 0 => Nat.le_refl _
  | k + 1 => by
    have := upTo_le vs k
    unfold upTo
    split <;> omega
theorem upTo_mono (vs : List Nat) (n : Nat) : ∀ d, upTo vs n ≤ upTo vs (n + d)
  | 0 => Nat.le_refl _
  | d + 1 => by
    have := upTo_mono vs n d
    show _ ≤ upTo vs (n + d) + _
    omega
theorem upTo_same (vs : List Nat) (n : Nat) (h : ∀ i, n ≤ i → getB vs i = false) : ∀ d, upTo vs (n + d) = upTo vs n
  | 0 => rfl
  | d + 1 => by
    show upTo vs (n + d) + (if getB vs (n + d) then 1 else 0) = _
    rw [upTo_same vs n h d, h (n + d) (by omega)]
    simp
theorem upTo_more (vs : List Nat) (n d i : Nat) (h1 : n ≤ i) (h2 : i < n + d) (hg : getB vs i = true) : upTo vs n < upTo vs (n + d) := by
  have a := upTo_mono vs n (i - n)
  have b := upTo_mono vs (i + 1) (n + d - (i + 1))
  rw [show n + (i - n) = i from by omega] at a
  rw [show i + 1 + (n + d - (i + 1)) = n + d from by omega] at b
  have c : upTo vs (i + 1) = upTo vs i + 1 := by simp [upTo, hg]
  omega
/-- The bits of one word. -/
def tbs (x : Nat) : Nat → Nat
  | 0 => 0
  | f + 1 => tbs x f + if x.testBit f then 1 else 0
theorem tbs_low (x : Nat) : ∀ f, tbs x (f + 1) = x % 2 + tbs (x / 2) f
  | 0 => by
    have : x.testBit 0 = decide (x % 2 = 1) := Nat.testBit_zero x
    simp only [tbs, this]
    by_cases h : x % 2 = 1
    · simp [h]
    · simp [h]; omega
  | f + 1 => by
    have e : x.testBit (f + 1) = (x / 2).testBit f := by rw [Nat.testBit_succ]
    show tbs x (f + 1) + (if x.testBit (f + 1) then 1 else 0) = x % 2 + (tbs (x / 2) f + if (x / 2).testBit f then 1 else 0)
    rw [tbs_low x f, e]
    omega
theorem popF_tbs : ∀ f x, popF f x = tbs x f
  | 0, x => rfl
  | f + 1, x => by
    rw [tbs_low, ← popF_tbs f (x / 2)]
    rfl
theorem getB_cons_lt (x : Nat) (xs : List Nat) (i : Nat) (h : i < 64) : getB (x :: xs) i = x.testBit i := by
  unfold getB
  rw [show i / 64 = 0 from by omega, show i % 64 = i from by omega]
  rfl
theorem getB_cons_ge (x : Nat) (xs : List Nat) (i : Nat) : getB (x :: xs) (64 + i) = getB xs i := by
  unfold getB
  rw [show (64 + i) / 64 = i / 64 + 1 from by omega, show (64 + i) % 64 = i % 64 from by omega]
  rfl
theorem upTo_head (x : Nat) (xs : List Nat) : ∀ f, f ≤ 64 → upTo (x :: xs) f = tbs x f
  | 0, _ => rfl
  | f + 1, h => by
    show upTo (x :: xs) f + _ = tbs x f + _
    rw [upTo_head x xs f (by omega), getB_cons_lt x xs f (by omega)]
theorem upTo_tail (x : Nat) (xs : List Nat) : ∀ k, upTo (x :: xs) (64 + k) = pop x + upTo xs k
  | 0 => by rw [Nat.add_zero, upTo_head x xs 64 (Nat.le_refl _)]; unfold pop; rw [popF_tbs]; rfl
  | k + 1 => by
    show upTo (x :: xs) (64 + k) + (if getB (x :: xs) (64 + k) then 1 else 0) = pop x + (upTo xs k + if getB xs k then 1 else 0)
    rw [upTo_tail x xs k, getB_cons_ge]
    omega
theorem cnt_upTo : ∀ xs, cnt xs = upTo xs (64 * xs.length)
  | [] => rfl
  | x :: xs => by
    rw [cnt_cons, List.length_cons, show 64 * (xs.length + 1) = 64 + 64 * xs.length from by omega, upTo_tail, cnt_upTo xs]
/-- All bits are among the first n just if no bit is set from n on. -/
theorem upTo_cnt (vs : List Nat) (n : Nat) : upTo vs n = cnt vs ↔ ∀ i, n ≤ i → getB vs i = false := by
  rw [cnt_upTo]
  constructor
  · intro h i hi
    by_cases hl : i < 64 * vs.length
    · cases hg : getB vs i with
      | false => rfl
      | true =>
        have := upTo_more vs n (64 * vs.length - n) i hi (by omega) hg
        rw [show n + (64 * vs.length - n) = 64 * vs.length from by omega] at this
        omega
    · exact getB_out vs i (by omega)
  · intro h
    by_cases hl : n ≤ 64 * vs.length
    · have := upTo_same vs n h (64 * vs.length - n)
      rw [show n + (64 * vs.length - n) = 64 * vs.length from by omega] at this
      omega
    · have := upTo_same vs (64 * vs.length) (fun i hi => getB_out vs i hi) (n - 64 * vs.length)
      rw [show 64 * vs.length + (n - 64 * vs.length) = n from by omega] at this
      omega
theorem getB_xorL (a b : List Nat) (i : Nat) : getB (xorL a b) i = (getB a i ^^ getB b i) := by
  unfold getB
  rw [xorL_getD, Nat.testBit_xor]
theorem getB_nil (i : Nat) : getB [] i = false := getB_out [] i (by simp)
end Go.Proofs.YtbppanebpfpioaaDoor
