/-
  Plain mathematics of the sum of bytes: the step on 32 bits, linear and one to one; the sum of a list of bytes; what other bytes do to it. Of no program. No condition but that numbers are below 2^32 where it is said.
-/
import Derived.Lib.TrailingZeros
namespace Go.Proofs.Ytpklckpnimmkpaa

/-- One bit goes out. -/
def step1 (c : Nat) : Nat := if c % 2 = 1 then (c / 2) ^^^ 3988292384 else c / 2
def stepN : Nat → Nat → Nat
  | 0, c => c
  | k + 1, c => step1 (stepN k c)
def byte1 (c b : Nat) : Nat := stepN 8 (c ^^^ b)
def crcF (c : Nat) (xs : List Nat) : Nat := xs.foldl byte1 c
def sumN (xs : List Nat) : Nat := crcF 4294967295 xs ^^^ 4294967295
/-- The bytes of a sum, the highest first. -/
def be4 (c : Nat) : List Nat := [c / 16777216 % 256, c / 65536 % 256, c / 256 % 256, c % 256]

theorem step1_lt {c : Nat} (h : c < 4294967296) : step1 c < 4294967296 := by
  unfold step1
  split
  · exact Nat.xor_lt_two_pow (n := 32) (by omega) (by decide)
  · omega
theorem stepN_lt {c : Nat} (h : c < 4294967296) (k : Nat) : stepN k c < 4294967296 := by
  induction k with
  | zero => exact h
  | succ k ih => exact step1_lt ih
theorem xor32_lt {a b : Nat} (ha : a < 4294967296) (hb : b < 4294967296) : a ^^^ b < 4294967296 := Nat.xor_lt_two_pow (n := 32) ha hb
theorem byte1_lt {c b : Nat} (h : c < 4294967296) (hb : b < 256) : byte1 c b < 4294967296 := stepN_lt (xor32_lt h (by omega)) 8
theorem crcF_lt {c : Nat} {xs : List Nat} (h : c < 4294967296) (hx : ∀ x ∈ xs, x < 256) : crcF c xs < 4294967296 := by
  induction xs generalizing c with
  | nil => exact h
  | cons x xs ih => exact ih (byte1_lt h (hx x (by simp))) (fun y hy => hx y (by simp [hy]))
theorem sumN_lt {xs : List Nat} (hx : ∀ x ∈ xs, x < 256) : sumN xs < 4294967296 := xor32_lt (crcF_lt (by decide) hx) (by decide)

theorem swap4 (a b c d : Nat) : (a ^^^ b) ^^^ (c ^^^ d) = (a ^^^ c) ^^^ (b ^^^ d) := by
  rw [Nat.xor_assoc, ← Nat.xor_assoc b, Nat.xor_comm b c, Nat.xor_assoc c, ← Nat.xor_assoc a]
theorem xor_twice (a b : Nat) : a ^^^ b ^^^ b = a := by rw [Nat.xor_assoc, Nat.xor_self, Nat.xor_zero]
theorem eq_of_xor {a b : Nat} (h : a ^^^ b = 0) : a = b := by
  have := congrArg (· ^^^ b) h
  simpa only [xor_twice, Nat.zero_xor] using this
theorem step1_xor (a b : Nat) : step1 (a ^^^ b) = step1 a ^^^ step1 b := by
  unfold step1
  rw [Nat.xor_div_two]
  by_cases ha : a % 2 = 1
  · by_cases hb : b % 2 = 1
    · rw [if_neg (by rw [Nat.xor_mod_two_eq_one]; simp [ha, hb]), if_pos ha, if_pos hb, swap4, Nat.xor_self, Nat.xor_zero]
    · rw [if_pos (by rw [Nat.xor_mod_two_eq_one]; simp [ha, hb]), if_pos ha, if_neg hb, Nat.xor_assoc, Nat.xor_assoc, Nat.xor_comm (b / 2)]
  · by_cases hb : b % 2 = 1
    · rw [if_pos (by rw [Nat.xor_mod_two_eq_one]; simp [ha, hb]), if_neg ha, if_pos hb, Nat.xor_assoc]
    · rw [if_neg (by rw [Nat.xor_mod_two_eq_one]; simp [ha, hb]), if_neg ha, if_neg hb]
theorem stepN_xor (k a b : Nat) : stepN k (a ^^^ b) = stepN k a ^^^ stepN k b := by
  induction k with
  | zero => rfl
  | succ k ih => show step1 _ = step1 _ ^^^ step1 _; rw [ih, step1_xor]
theorem byte1_xor (c d a b : Nat) : byte1 (c ^^^ d) (a ^^^ b) = byte1 c a ^^^ byte1 d b := by
  unfold byte1; rw [swap4, stepN_xor]
theorem step1_zero {c : Nat} (h : c < 4294967296) (h0 : step1 c = 0) : c = 0 := by
  unfold step1 at h0
  split at h0
  · have := eq_of_xor h0
    omega
  · omega
theorem stepN_zero {c : Nat} (h : c < 4294967296) (k : Nat) (h0 : stepN k c = 0) : c = 0 := by
  induction k with
  | zero => exact h0
  | succ k ih => exact ih (step1_zero (stepN_lt h k) h0)
theorem stepN_even (k z : Nat) : stepN k (2 ^ k * z) = z := by
  induction k generalizing z with
  | zero => show 2 ^ 0 * z = z; omega
  | succ k ih =>
    show step1 (stepN k (2 ^ (k + 1) * z)) = z
    rw [show 2 ^ (k + 1) * z = 2 ^ k * (2 * z) by rw [Nat.pow_succ]; exact Nat.mul_assoc ..]
    rw [ih]
    unfold step1
    rw [if_neg (by omega)]
    omega

/-- Two lists of one length. -/
def zipX (a b : List Nat) : List Nat := List.zipWith (fun x y => x ^^^ y) a b
theorem crcF_zip (c d : Nat) (xs ys : List Nat) (h : xs.length = ys.length) : crcF (c ^^^ d) (zipX xs ys) = crcF c xs ^^^ crcF d ys := by
  induction xs generalizing c d ys with
  | nil => cases ys with
    | nil => rfl
    | cons y ys => simp at h
  | cons x xs ih => cases ys with
    | nil => simp at h
    | cons y ys =>
      show crcF (byte1 (c ^^^ d) (x ^^^ y)) (zipX xs ys) = crcF (byte1 c x) xs ^^^ crcF (byte1 d y) ys
      rw [byte1_xor, ih]
      simpa using h
theorem zipX_length (a b : List Nat) (h : a.length = b.length) : (zipX a b).length = a.length := by simp [zipX, h]
/-- The sums of four texts. -/
theorem sum_linear (a b c : List Nat) (hb : a.length = b.length) (hc : a.length = c.length) : sumN a ^^^ sumN b ^^^ sumN c ^^^ sumN (zipX (zipX a b) c) = 0 := by
  unfold sumN
  have h1 := crcF_zip 4294967295 4294967295 a b hb
  have h2 := crcF_zip (4294967295 ^^^ 4294967295) 4294967295 (zipX a b) c (by rw [zipX_length a b hb]; exact hc)
  rw [h1, show (4294967295 ^^^ 4294967295 ^^^ 4294967295 : Nat) = 4294967295 by decide] at h2
  rw [h2, swap4 (crcF 4294967295 a), Nat.xor_self, Nat.xor_zero]
  generalize crcF 4294967295 a ^^^ crcF 4294967295 b = x
  generalize crcF 4294967295 c = y
  rw [← Nat.xor_assoc x y 4294967295, Nat.xor_self]

theorem crcF_append (c : Nat) (xs ys : List Nat) : crcF c (xs ++ ys) = crcF (crcF c xs) ys := List.foldl_append ..
theorem xor_eq_zero_of {a b : Nat} (h : a = b) : a ^^^ b = 0 := by rw [h, Nat.xor_self]
/-- What is behind keeps a difference. -/
theorem crcF_behind (c d : Nat) (q : List Nat) (hq : ∀ x ∈ q, x < 256) (hc : c < 4294967296) (hd : d < 4294967296) (h : crcF c q = crcF d q) : c = d := by
  induction q generalizing c d with
  | nil => exact h
  | cons x q ih =>
    have hx := hq x (by simp)
    have h1 : byte1 c x = byte1 d x := ih _ _ (fun y hy => hq y (by simp [hy])) (byte1_lt hc hx) (byte1_lt hd hx) h
    have h2 : byte1 (c ^^^ d) (x ^^^ x) = 0 := by rw [byte1_xor, h1, Nat.xor_self]
    unfold byte1 at h2
    rw [Nat.xor_self, Nat.xor_zero] at h2
    exact eq_of_xor (stepN_zero (xor32_lt hc hd) 8 h2)
theorem low_byte (y : Nat) : y = (256 * (y / 256)) ^^^ (y % 256) := by
  have h := Nat.two_pow_add_eq_or_of_lt (i := 8) (b := y % 256) (by omega) (y / 256)
  have h2 : 2 ^ 8 * (y / 256) ^^^ y % 256 = 2 ^ 8 * (y / 256) ||| y % 256 := by
    apply Nat.eq_of_testBit_eq
    intro i
    rw [Nat.testBit_xor, Nat.testBit_or, Nat.testBit_two_pow_mul]
    by_cases hi : 8 ≤ i
    · have : (y % 256).testBit i = false := by
        apply Nat.testBit_lt_two_pow
        calc y % 256 < 2 ^ 8 := by omega
          _ ≤ 2 ^ i := Nat.pow_le_pow_right (by decide) hi
      rw [this]; simp
    · simp [hi]
  have h3 : y = 2 ^ 8 * (y / 256) + y % 256 := by omega
  rw [← h, ← h3] at h2
  exact h2.symm
theorem byte1_low (c y : Nat) : stepN 8 (c ^^^ y) = byte1 c (y % 256) ^^^ y / 256 := by
  conv => lhs; rw [low_byte y]
  rw [Nat.xor_comm (256 * (y / 256)), ← Nat.xor_assoc, stepN_xor, show 256 * (y / 256) = 2 ^ 8 * (y / 256) from rfl, stepN_even]
  rfl
/-- The four bytes of a number of 32 bits, the lowest first. -/
def le4 (y : Nat) : List Nat := [y % 256, y / 256 % 256, y / 65536 % 256, y / 16777216 % 256]
theorem le4_zero {y : Nat} (hy : y < 4294967296) (h : crcF 0 (le4 y) = 0) : y = 0 := by
  have e : crcF 0 (le4 y) = stepN 8 (stepN 8 (stepN 8 (stepN 8 y))) := by
    have e0 := byte1_low 0 y
    rw [Nat.zero_xor] at e0
    rw [e0, byte1_low, byte1_low, byte1_low]
    simp only [Nat.div_div_eq_div_mul]
    rw [show y / (256 * 256 * 256 * 256) = 0 by omega, Nat.xor_zero]
    rfl
  rw [e] at h
  have l1 := stepN_lt hy 8
  have l2 := stepN_lt l1 8
  have l3 := stepN_lt l2 8
  exact stepN_zero hy 8 (stepN_zero l1 8 (stepN_zero l2 8 (stepN_zero l3 8 h)))
/-- Four bytes of a text that are others make another sum. -/
theorem sum_flip (p m q : List Nat) (y : Nat) (hm : m.length = 4) (hp : ∀ x ∈ p, x < 256) (hmb : ∀ x ∈ m, x < 256) (hq : ∀ x ∈ q, x < 256) (hy : y < 4294967296)
    (h : sumN (p ++ m ++ q) = sumN (p ++ zipX m (le4 y) ++ q)) : y = 0 := by
  have hz : ∀ x ∈ zipX m (le4 y), x < 256 := by
    intro x hx
    unfold zipX at hx
    obtain ⟨i, hi, rfl⟩ := List.getElem_of_mem hx
    rw [List.getElem_zipWith]
    refine Nat.xor_lt_two_pow (n := 8) (hmb _ (List.getElem_mem _)) ?_
    have : ∀ x ∈ le4 y, x < 256 := by
      intro x hx
      simp only [le4, List.mem_cons, List.mem_nil_iff, or_false] at hx
      rcases hx with rfl | rfl | rfl | rfl <;> omega
    exact this _ (List.getElem_mem _)
  have hc := crcF_lt (c := 4294967295) (by decide) hp
  unfold sumN at h
  have h1 : crcF 4294967295 (p ++ m ++ q) = crcF 4294967295 (p ++ zipX m (le4 y) ++ q) := by
    have := congrArg (· ^^^ 4294967295) h
    simp only [xor_twice] at this
    exact this
  rw [crcF_append, crcF_append, crcF_append, crcF_append] at h1
  have h2 := crcF_behind _ _ q hq (crcF_lt hc hmb) (crcF_lt hc hz) h1
  have h3 := crcF_zip (crcF 4294967295 p) 0 m (le4 y) (by rw [hm]; rfl)
  rw [Nat.xor_zero, ← h2] at h3
  apply le4_zero hy
  generalize crcF (crcF 4294967295 p) m = x at h3
  generalize crcF 0 (le4 y) = z at h3
  have h4 : x ^^^ x = x ^^^ (x ^^^ z) := by rw [← h3]
  rw [Nat.xor_self, ← Nat.xor_assoc, Nat.xor_self, Nat.zero_xor] at h4
  exact h4.symm
theorem be4_bytes (c : Nat) : ∀ x ∈ be4 c, x < 256 := by
  intro x hx
  simp only [be4, List.mem_cons, List.mem_nil_iff, or_false] at hx
  rcases hx with rfl | rfl | rfl | rfl <;> omega
/-- Four bytes xored by a number that is not 0 are others. -/
theorem zip_flip (m : List Nat) (y : Nat) (hm : m.length = 4) (hy : y < 4294967296) (h : zipX m (le4 y) = m) : y = 0 := by
  match m, hm with
  | [a, b, c, d], _ =>
    simp only [zipX, le4, List.zipWith_cons_cons, List.zipWith_nil_left, List.cons.injEq, and_true] at h
    obtain ⟨h1, h2, h3, h4⟩ := h
    have z : ∀ x t : Nat, x ^^^ t = x → t = 0 := by
      intro x t e
      have := congrArg (x ^^^ ·) e
      simp only [← Nat.xor_assoc, Nat.xor_self, Nat.zero_xor] at this
      exact this
    have := z _ _ h1
    have := z _ _ h2
    have := z _ _ h3
    have := z _ _ h4
    omega

theorem ex_sum : sumN [49, 50, 51, 52, 53, 54, 55, 56, 57] = 3421780262 := by decide +kernel
theorem ex_nil : sumN [] = 0 := by decide +kernel
end Go.Proofs.Ytpklckpnimmkpaa
