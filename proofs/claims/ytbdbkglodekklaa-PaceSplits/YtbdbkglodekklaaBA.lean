/-
  The words of float64: those of the numbers from 0 to infinity lie as the numbers do (fl_order); which are above 0 (fl_gt0), at least 1000 (fl_ge), at most another one (fl_le); milN: a rate's thousandths, rounded down, by its word; it rises (milN_mono). No condition.
-/
import Derived.WalkLawsBesides
namespace Go.Proofs.Ytbdbkglodekklaa
set_option linter.unusedVariables false
set_option maxRecDepth 4000

def mgF (x : Nat) : Nat := if x < 4503599627370496 then x else 4503599627370496 + x % 4503599627370496
def exF (x : Nat) : Nat := if x < 4503599627370496 then 0 else x / 4503599627370496 - 1
theorem d_sign : Ieee.double.signWeight = 9223372036854775808 := rfl
theorem d_bin : Ieee.double.binade = 4503599627370496 := rfl
theorem d_inf : Ieee.double.infRung = 9218868437227405312 := rfl
theorem d_least : Ieee.double.leastPlace = -1074 := rfl
theorem read_pos (x : Nat) (h : x < 9218868437227405312) : Ieee.double.read x = .number false (mgF x) (-1074 + (exF x : Int)) := by
  have h1 : x / 9223372036854775808 % 2 = 0 := by omega
  have h2 : x % 9223372036854775808 = x := by omega
  simp only [Ieee.Format.read, d_sign, d_bin, d_inf, d_least, h1, h2, mgF, exF]
  by_cases hb : x < 4503599627370496
  · simp [hb]
  · simp [hb, h]
theorem read_neg (x : Nat) (h : 9223372036854775808 ≤ x) (h2 : x < 18446744073709551616) :
    (∃ m i, Ieee.double.read x = .number true m i) ∨ Ieee.double.read x = .infinity true ∨ ∃ t, Ieee.double.read x = .nan true t := by
  have h1 : x / 9223372036854775808 % 2 = 1 := by omega
  simp only [Ieee.Format.read, d_sign, d_bin, d_inf, d_least, h1]
  split
  · exact .inl ⟨_, _, rfl⟩
  · split
    · exact .inl ⟨_, _, rfl⟩
    · split
      · exact .inr (.inl rfl)
      · exact .inr (.inr ⟨_, rfl⟩)
theorem read_inf : Ieee.double.read 9218868437227405312 = .infinity false := rfl
theorem read_nan (x : Nat) (h : 9218868437227405312 < x) (h2 : x < 9223372036854775808) : ∃ t, Ieee.double.read x = .nan false t := by
  have h1 : x / 9223372036854775808 % 2 = 0 := by omega
  have h3 : x % 9223372036854775808 = x := by omega
  simp only [Ieee.Format.read, d_sign, d_bin, d_inf, d_least, h1, h3]
  rw [if_neg (by omega), if_neg (by omega), if_neg (by omega)]
  exact ⟨_, rfl⟩

theorem mg_ex (x : Nat) : x = exF x * 4503599627370496 + mgF x ∧ mgF x < 9007199254740992 ∧ (0 < exF x → 4503599627370496 ≤ mgF x) := by
  unfold mgF exF
  by_cases h : x < 4503599627370496
  · rw [if_pos h, if_pos h]; omega
  · rw [if_neg h, if_neg h]; omega
theorem pow_ge2 (n : Nat) (h : 0 < n) : 2 ≤ 2 ^ n := by
  obtain ⟨m, rfl⟩ : ∃ m, n = m + 1 := ⟨n - 1, by omega⟩
  have := Nat.two_pow_pos m
  rw [Nat.pow_succ]; omega
theorem compare_nat_int (a b : Nat) : compare (a : Int) (b : Int) = compare a b := by
  rcases Nat.lt_trichotomy a b with h | h | h
  · rw [Nat.compare_eq_lt.2 h, Int.compare_eq_lt.2 (by omega)]
  · subst h; simp
  · rw [Nat.compare_eq_gt.2 h, Int.compare_eq_gt.2 (by omega)]
theorem fl_order (x y : Nat) (hx : x < 9218868437227405312) (hy : y < 9218868437227405312) : Ieee.double.order x y = some (compare x y) := by
  obtain ⟨ex, mx, gx⟩ := mg_ex x
  obtain ⟨ey, my, gy⟩ := mg_ex y
  rw [Ieee.Format.order, read_pos x hx, read_pos y hy]
  simp only [Ieee.Datum.order, Ieee.signed, Bool.false_eq_true, if_false, Nat.shiftLeft_eq, compare_nat_int]
  congr 1
  generalize exF x = a at *
  generalize exF y = c at *
  generalize mgF x = m at *
  generalize mgF y = n at *
  rcases Nat.lt_trichotomy a c with h | h | h
  · have e1 : (-1074 + (a : Int) - min (-1074 + (a : Int)) (-1074 + (c : Int))).toNat = 0 := by omega
    have e2 : (-1074 + (c : Int) - min (-1074 + (a : Int)) (-1074 + (c : Int))).toNat = c - a := by omega
    rw [e1, e2]
    have := gy (by omega)
    have p2 := pow_ge2 (c - a) (by omega)
    have : 4503599627370496 * 2 ≤ n * 2 ^ (c - a) := Nat.mul_le_mul this p2
    have l1 : m * 2 ^ 0 < n * 2 ^ (c - a) := by omega
    have l2 : x < y := by omega
    rw [Nat.compare_eq_lt.2 l1, Nat.compare_eq_lt.2 l2]
  · subst h
    have e1 : (-1074 + (a : Int) - min (-1074 + (a : Int)) (-1074 + (a : Int))).toNat = 0 := by omega
    rw [e1]
    rcases Nat.lt_trichotomy m n with l | l | l
    · rw [Nat.compare_eq_lt.2 (by omega), Nat.compare_eq_lt.2 (by omega)]
    · rw [Nat.compare_eq_eq.2 (by omega), Nat.compare_eq_eq.2 (by omega)]
    · rw [Nat.compare_eq_gt.2 (by omega), Nat.compare_eq_gt.2 (by omega)]
  · have e1 : (-1074 + (a : Int) - min (-1074 + (a : Int)) (-1074 + (c : Int))).toNat = a - c := by omega
    have e2 : (-1074 + (c : Int) - min (-1074 + (a : Int)) (-1074 + (c : Int))).toNat = 0 := by omega
    rw [e1, e2]
    have := gx (by omega)
    have p2 := pow_ge2 (a - c) (by omega)
    have : 4503599627370496 * 2 ≤ m * 2 ^ (a - c) := Nat.mul_le_mul this p2
    have l1 : n * 2 ^ 0 < m * 2 ^ (a - c) := by omega
    have l2 : y < x := by omega
    rw [Nat.compare_eq_gt.2 l1, Nat.compare_eq_gt.2 l2]

def gtB (b : Nat) : Bool := decide (0 < b ∧ b ≤ 9218868437227405312)
theorem fl_gt0 (b : Nat) (hb : b < 18446744073709551616) : (Ieee.double.order b 0 == some .gt) = gtB b := by
  rcases Nat.lt_or_ge b 9218868437227405312 with h | h
  · rw [fl_order b 0 h (by decide)]
    by_cases h0 : b = 0
    · subst h0; rfl
    · rw [Nat.compare_eq_gt.2 (by omega)]
      exact (decide_eq_true (by omega : 0 < b ∧ b ≤ 9218868437227405312)).symm
  · rcases Nat.lt_or_ge b 9223372036854775808 with h2 | h2
    · by_cases he : b = 9218868437227405312
      · subst he; rfl
      · obtain ⟨t, ht⟩ := read_nan b (by omega) h2
        rw [Ieee.Format.order, ht]
        exact (decide_eq_false (by omega : ¬(0 < b ∧ b ≤ 9218868437227405312))).symm
    · rw [Ieee.Format.order, read_pos 0 (by decide)]
      have hg : gtB b = false := decide_eq_false (by omega)
      rw [hg]
      rcases read_neg b h2 hb with ⟨m, i, hr⟩ | hr | ⟨t, hr⟩
      · rw [hr]
        simp only [Ieee.Datum.order, Ieee.signed, if_true, Bool.false_eq_true, if_false, Nat.shiftLeft_eq, show mgF 0 = 0 from rfl, Nat.zero_mul]
        generalize m * 2 ^ _ = k
        rcases Nat.eq_zero_or_pos k with h0 | h0
        · subst h0; rfl
        · rw [Int.compare_eq_lt.2 (by simp; omega)]; rfl
      · rw [hr]; rfl
      · rw [hr]; rfl
theorem fl_ge (b : Nat) (h : gtB b = true) : (Ieee.double.order b 4652007308841189376 == some .gt || Ieee.double.order b 4652007308841189376 == some .eq) = decide (4652007308841189376 ≤ b) := by
  have hb : 0 < b ∧ b ≤ 9218868437227405312 := of_decide_eq_true h
  by_cases he : b = 9218868437227405312
  · subst he; rfl
  · rw [fl_order b _ (by omega) (by decide)]
    rcases Nat.lt_trichotomy b 4652007308841189376 with l | l | l
    · rw [Nat.compare_eq_lt.2 l, decide_eq_false (by omega)]; rfl
    · rw [Nat.compare_eq_eq.2 l, decide_eq_true (by omega)]; rfl
    · rw [Nat.compare_eq_gt.2 l, decide_eq_true (by omega)]; rfl
theorem fl_le (a b : Nat) (h : gtB a = true) (hb : b < 18446744073709551616) (ho : (Ieee.double.order a b == some .lt || Ieee.double.order a b == some .eq) = true) : gtB b = true ∧ a ≤ b := by
  have ha : 0 < a ∧ a ≤ 9218868437227405312 := of_decide_eq_true h
  rcases Nat.lt_or_ge b 9218868437227405312 with h1 | h1
  · by_cases he : a = 9218868437227405312
    · subst he
      rw [Ieee.Format.order, read_inf, read_pos b h1] at ho
      exact absurd ho (by simp [Ieee.Datum.order])
    · rw [fl_order a b (by omega) h1] at ho
      rcases Nat.lt_or_ge b a with l | l
      · rw [Nat.compare_eq_gt.2 l] at ho; exact absurd ho (by decide)
      · exact ⟨decide_eq_true (by omega), l⟩
  · rcases Nat.lt_or_ge b 9223372036854775808 with h2 | h2
    · by_cases he : b = 9218868437227405312
      · subst he; exact ⟨rfl, ha.2⟩
      · obtain ⟨t, ht⟩ := read_nan b (by omega) h2
        rw [Ieee.Format.order, ht] at ho
        cases hr : Ieee.double.read a <;> rw [hr] at ho <;> exact absurd ho (by simp [Ieee.Datum.order])
    · exfalso
      by_cases he : a = 9218868437227405312
      · subst he
        rw [Ieee.Format.order, read_inf] at ho
        rcases read_neg b h2 hb with ⟨m, i, hr⟩ | hr | ⟨t, hr⟩ <;> rw [hr] at ho <;> exact absurd ho (by first | decide | simp [Ieee.Datum.order])
      · rw [Ieee.Format.order, read_pos a (by omega)] at ho
        rcases read_neg b h2 hb with ⟨m, i, hr⟩ | hr | ⟨t, hr⟩
        · rw [hr] at ho
          simp only [Ieee.Datum.order, Ieee.signed, if_true, Bool.false_eq_true, if_false, Nat.shiftLeft_eq] at ho
          have hm : 0 < mgF a := by
            have := mg_ex a
            rcases Nat.eq_zero_or_pos (exF a) with e | e <;> omega
          generalize hk : m * 2 ^ _ = k at ho
          generalize hl : (_ : Int).toNat = p at ho
          have : 0 < mgF a * 2 ^ p := Nat.mul_pos hm (Nat.two_pow_pos _)
          generalize mgF a * 2 ^ p = q at *
          rw [Int.compare_eq_gt.2 (by omega)] at ho
          exact absurd ho (by decide)
        · rw [hr] at ho; exact absurd ho (by simp [Ieee.Datum.order])
        · rw [hr] at ho; exact absurd ho (by simp [Ieee.Datum.order])
/-- What is no number is not above 0. -/
theorem fl_self (a : Nat) (ha : a < 18446744073709551616) (h : (Ieee.double.order a a != some .eq) = true) : gtB a = false := by
  rcases Nat.lt_or_ge a 9218868437227405312 with h1 | h1
  · rw [fl_order a a h1 h1, Nat.compare_eq_eq.2 rfl] at h; exact absurd h (by decide)
  · by_cases he : a = 9218868437227405312
    · subst he; exact absurd h (by decide)
    · exact decide_eq_false (by omega)

def milN (b : Nat) : Nat := if b < 4503599627370496 then 0 else (4503599627370496 + b % 4503599627370496) * 1000 / 2 ^ (1075 - b / 4503599627370496)
theorem milN_mono (a b : Nat) (h : a ≤ b) (hb : b < 4652007308841189376) : milN a ≤ milN b := by
  unfold milN
  by_cases ha : a < 4503599627370496
  · rw [if_pos ha]; exact Nat.zero_le _
  · rw [if_neg ha, if_neg (by omega)]
    rcases Nat.lt_or_ge (a / 4503599627370496) (b / 4503599627370496) with l | l
    · have hB : b / 4503599627370496 ≤ 1032 := by omega
      have e : 1075 - a / 4503599627370496 = (1075 - b / 4503599627370496) + (b / 4503599627370496 - a / 4503599627370496) := by omega
      have p2 := pow_ge2 (b / 4503599627370496 - a / 4503599627370496) (by omega)
      rw [e, Nat.pow_add, Nat.mul_comm (2 ^ (1075 - b / 4503599627370496)), ← Nat.div_div_eq_div_mul]
      refine Nat.div_le_div_right ?_
      refine Nat.le_trans (Nat.div_le_div_left p2 (by decide)) ?_
      omega
    · have e : a / 4503599627370496 = b / 4503599627370496 := by have := Nat.div_le_div_right (c := 4503599627370496) h; omega
      rw [e]
      refine Nat.div_le_div_right ?_
      have := Nat.div_add_mod a 4503599627370496
      have := Nat.div_add_mod b 4503599627370496
      omega
theorem milN_lt (b : Nat) (hb : b < 4652007308841189376) : milN b ≤ 999999 := by
  refine Nat.le_trans (milN_mono b 4652007308841189375 (by omega) (by decide)) ?_
  exact Nat.le_of_eq (by decide)
def milZ (b : Nat) : Nat := if gtB b then (if 4652007308841189376 ≤ b then 1000000 else milN b) else 0
theorem milZ_le (b : Nat) : milZ b ≤ 1000000 := by
  unfold milZ
  split
  · split
    · exact Nat.le_refl _
    · exact Nat.le_trans (milN_lt b (by omega)) (by decide)
  · decide
theorem milZ_mono (a b : Nat) (ha : gtB a = true) (hb : gtB b = true) (h : a ≤ b) : milZ a ≤ milZ b := by
  rw [milZ, milZ, if_pos ha, if_pos hb]
  split
  · rw [if_pos (by omega)]; exact Nat.le_refl _
  · split
    · exact Nat.le_trans (milN_lt a (by omega)) (by decide)
    · exact milN_mono a b h (by omega)
end Go.Proofs.Ytbdbkglodekklaa
