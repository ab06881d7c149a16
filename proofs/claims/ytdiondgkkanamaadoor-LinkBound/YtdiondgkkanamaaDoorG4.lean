/-
  The words of float64: those of the numbers from 0 to infinity lie as the numbers do (fl_order); which are above 0 (fl_gt0), at least 1000 (fl_ge), at most another one (fl_le); milN: a rate's thousandths, rounded down, by its word; it rises (milN_mono). No condition.
  Products of float64 words that math.Frexp and pace come to: a number below the least normal one times 2^52 (sub_mul), a fraction from 1/2 on times 2^53 (frac_mul), as an integer (frac_int); bits of words. No condition.
  Contracts of math.Float64bits, Float64frombits (the model's own entries), Abs, IsInf, IsNaN, normalize, frexp, Frexp of a number above 0; of pace.thousandths, pace.Milli of any float. No condition.
-/
import Derived.WalkLawsBesides
import Derived.Laws.BitsAllLaws
import Derived.Test.YtdiondgkkanamaaDoorG2
import Derived.Laws.Externs
namespace Go.Proofs.YtdiondgkkanamaaDoor
set_option linter.unusedVariables false
set_option maxRecDepth 4000

def mgF (x : Nat) : Nat := if x < 4503599627370496 then x else 4503599627370496 + x % 4503599627370496
def exF (x : Nat) : Nat := if x < 4503599627370496 then 0 else x / 4503599627370496 - 1
theorem d_sign : Ieee.double.signWeight = 9223372036854775808 := rfl
theorem d_bin : Ieee.double.binade = 4503599627370496 := rfl
theorem d_inf : Ieee.double.infRung = 9218868437227405312 := rfl
theorem d_least : Ieee.double.leastPlace = -1074 := rfl
theorem read_pos (x : Nat) (h : x < 9218868437227405312) : Ieee.double.read x = .number false (mgF x) (-1074 + (exF x : Int)) := by
  have h1 : x / 9223372036854775808 % 2 = 0 := by omega
  have h2 : x % 9223372036854775808 = x := by omega
  simp only [Ieee.Format.read, d_sign, d_bin, d_inf, d_least, h1, h2, mgF, exF]
  by_cases hb : x < 4503599627370496
  · simp [hb]
  · simp [hb, h]
theorem read_neg (x : Nat) (h : 9223372036854775808 ≤ x) (h2 : x < 18446744073709551616) :
    (∃ m i, Ieee.double.read x = .number true m i) ∨ Ieee.double.read x = .infinity true ∨ ∃ t, Ieee.double.read x = .nan true t := by
  have h1 : x / 9223372036854775808 % 2 = 1 := by omega
  simp only [Ieee.Format.read, d_sign, d_bin, d_inf, d_least, h1]
  split
  · exact .inl ⟨_, _, rfl⟩
  · split
    · exact .inl ⟨_, _, rfl⟩
    · split
      · exact .inr (.inl rfl)
      · exact .inr (.inr ⟨_, rfl⟩)
theorem read_inf : Ieee.double.read 9218868437227405312 = .infinity false := rfl
theorem read_nan (x : Nat) (h : 9218868437227405312 < x) (h2 : x < 9223372036854775808) : ∃ t, Ieee.double.read x = .nan false t := by
  have h1 : x / 9223372036854775808 % 2 = 0 := by omega
  have h3 : x % 9223372036854775808 = x := by omega
  simp only [Ieee.Format.read, d_sign, d_bin, d_inf, d_least, h1, h3]
  rw [if_neg (by omega), if_neg (by omega), if_neg (by omega)]
  exact ⟨_, rfl⟩

theorem mg_ex (x : Nat) : x = exF x * 4503599627370496 + mgF x ∧ mgF x < 9007199254740992 ∧ (0 < exF x → 4503599627370496 ≤ mgF x) := by
  unfold mgF exF
  by_cases h : x < 4503599627370496
  · rw [if_pos h, if_pos h]; omega
  · rw [if_neg h, if_neg h]; omega
theorem pow_ge2 (n : Nat) (h : 0 < n) : 2 ≤ 2 ^ n := by
  obtain ⟨m, rfl⟩ : ∃ m, n = m + 1 := ⟨n - 1, by omega⟩
  have := Nat.two_pow_pos m
  rw [Nat.pow_succ]; omega
theorem compare_nat_int (a b : Nat) : compare (a : Int) (b : Int) = compare a b := by
  rcases Nat.lt_trichotomy a b with h | h | h
  · rw [Nat.compare_eq_lt.2 h, Int.compare_eq_lt.2 (by omega)]
  · subst h; simp
  · rw [Nat.compare_eq_gt.2 h, Int.compare_eq_gt.2 (by omega)]
theorem fl_order (x y : Nat) (hx : x < 9218868437227405312) (hy : y < 9218868437227405312) : Ieee.double.order x y = some (compare x y) := by
  obtain ⟨ex, mx, gx⟩ := mg_ex x
  obtain ⟨ey, my, gy⟩ := mg_ex y
  rw [Ieee.Format.order, read_pos x hx, read_pos y hy]
  simp only [Ieee.Datum.order, Ieee.signed, Bool.false_eq_true, if_false, Nat.shiftLeft_eq, compare_nat_int]
  congr 1
  generalize exF x = a at *
  generalize exF y = c at *
  generalize mgF x = m at *
  generalize mgF y = n at *
  rcases Nat.lt_trichotomy a c with h | h | h
  · have e1 : (-1074 + (a : Int) - min (-1074 + (a : Int)) (-1074 + (c : Int))).toNat = 0 := by omega
    have e2 : (-1074 + (c : Int) - min (-1074 + (a : Int)) (-1074 + (c : Int))).toNat = c - a := by omega
    rw [e1, e2]
    have := gy (by omega)
    have p2 := pow_ge2 (c - a) (by omega)
    have : 4503599627370496 * 2 ≤ n * 2 ^ (c - a) := Nat.mul_le_mul this p2
    have l1 : m * 2 ^ 0 < n * 2 ^ (c - a) := by omega
    have l2 : x < y := by omega
    rw [Nat.compare_eq_lt.2 l1, Nat.compare_eq_lt.2 l2]
  · subst h
    have e1 : (-1074 + (a : Int) - min (-1074 + (a : Int)) (-1074 + (a : Int))).toNat = 0 := by omega
    rw [e1]
    rcases Nat.lt_trichotomy m n with l | l | l
    · rw [Nat.compare_eq_lt.2 (by omega), Nat.compare_eq_lt.2 (by omega)]
    · rw [Nat.compare_eq_eq.2 (by omega), Nat.compare_eq_eq.2 (by omega)]
    · rw [Nat.compare_eq_gt.2 (by omega), Nat.compare_eq_gt.2 (by omega)]
  · have e1 : (-1074 + (a : Int) - min (-1074 + (a : Int)) (-1074 + (c : Int))).toNat = a - c := by omega
    have e2 : (-1074 + (c : Int) - min (-1074 + (a : Int)) (-1074 + (c : Int))).toNat = 0 := by omega
    rw [e1, e2]
    have := gx (by omega)
    have p2 := pow_ge2 (a - c) (by omega)
    have : 4503599627370496 * 2 ≤ m * 2 ^ (a - c) := Nat.mul_le_mul this p2
    have l1 : n * 2 ^ 0 < m * 2 ^ (a - c) := by omega
    have l2 : y < x := by omega
    rw [Nat.compare_eq_gt.2 l1, Nat.compare_eq_gt.2 l2]

def gtB (b : Nat) : Bool := decide (0 < b ∧ b ≤ 9218868437227405312)
theorem fl_gt0 (b : Nat) (hb : b < 18446744073709551616) : (Ieee.double.order b 0 == some .gt) = gtB b := by
  rcases Nat.lt_or_ge b 9218868437227405312 with h | h
  · rw [fl_order b 0 h (by decide)]
    by_cases h0 : b = 0
    · subst h0; rfl
    · rw [Nat.compare_eq_gt.2 (by omega)]
      exact (decide_eq_true (by omega : 0 < b ∧ b ≤ 9218868437227405312)).symm
  · rcases Nat.lt_or_ge b 9223372036854775808 with h2 | h2
    · by_cases he : b = 9218868437227405312
      · subst he; rfl
      · obtain ⟨t, ht⟩ := read_nan b (by omega) h2
        rw [Ieee.Format.order, ht]
        exact (decide_eq_false (by omega : ¬(0 < b ∧ b ≤ 9218868437227405312))).symm
    · rw [Ieee.Format.order, read_pos 0 (by decide)]
      have hg : gtB b = false := decide_eq_false (by omega)
      rw [hg]
      rcases read_neg b h2 hb with ⟨m, i, hr⟩ | hr | ⟨t, hr⟩
      · rw [hr]
        simp only [Ieee.Datum.order, Ieee.signed, if_true, Bool.false_eq_true, if_false, Nat.shiftLeft_eq, show mgF 0 = 0 from rfl, Nat.zero_mul]
        generalize m * 2 ^ _ = k
        rcases Nat.eq_zero_or_pos k with h0 | h0
        · subst h0; rfl
        · rw [Int.compare_eq_lt.2 (by simp; omega)]; rfl
      · rw [hr]; rfl
      · rw [hr]; rfl
theorem fl_ge (b : Nat) (h : gtB b = true) : (Ieee.double.order b 4652007308841189376 == some .gt || Ieee.double.order b 4652007308841189376 == some .eq) = decide (4652007308841189376 ≤ b) := by
  have hb : 0 < b ∧ b ≤ 9218868437227405312 := of_decide_eq_true h
  by_cases he : b = 9218868437227405312
  · subst he; rfl
  · rw [fl_order b _ (by omega) (by decide)]
    rcases Nat.lt_trichotomy b 4652007308841189376 with l | l | l
    · rw [Nat.compare_eq_lt.2 l, decide_eq_false (by omega)]; rfl
    · rw [Nat.compare_eq_eq.2 l, decide_eq_true (by omega)]; rfl
    · rw [Nat.compare_eq_gt.2 l, decide_eq_true (by omega)]; rfl
theorem fl_le (a b : Nat) (h : gtB a = true) (hb : b < 18446744073709551616) (ho : (Ieee.double.order a b == some .lt || Ieee.double.order a b == some .eq) = true) : gtB b = true ∧ a ≤ b := by
  have ha : 0 < a ∧ a ≤ 9218868437227405312 := of_decide_eq_true h
  rcases Nat.lt_or_ge b 9218868437227405312 with h1 | h1
  · by_cases he : a = 9218868437227405312
    · subst he
      rw [Ieee.Format.order, read_inf, read_pos b h1] at ho
      exact absurd ho (by simp [Ieee.Datum.order])
    · rw [fl_order a b (by omega) h1] at ho
      rcases Nat.lt_or_ge b a with l | l
      · rw [Nat.compare_eq_gt.2 l] at ho; exact absurd ho (by decide)
      · exact ⟨decide_eq_true (by omega), l⟩
  · rcases Nat.lt_or_ge b 9223372036854775808 with h2 | h2
    · by_cases he : b = 9218868437227405312
      · subst he; exact ⟨rfl, ha.2⟩
      · obtain ⟨t, ht⟩ := read_nan b (by omega) h2
        rw [Ieee.Format.order, ht] at ho
        cases hr : Ieee.double.read a <;> rw [hr] at ho <;> exact absurd ho (by simp [Ieee.Datum.order])
    · exfalso
      by_cases he : a = 9218868437227405312
      · subst he
        rw [Ieee.Format.order, read_inf] at ho
        rcases read_neg b h2 hb with ⟨m, i, hr⟩ | hr | ⟨t, hr⟩ <;> rw [hr] at ho <;> exact absurd ho (by first | decide | simp [Ieee.Datum.order])
      · rw [Ieee.Format.order, read_pos a (by omega)] at ho
        rcases read_neg b h2 hb with ⟨m, i, hr⟩ | hr | ⟨t, hr⟩
        · rw [hr] at ho
          simp only [Ieee.Datum.order, Ieee.signed, if_true, Bool.false_eq_true, if_false, Nat.shiftLeft_eq] at ho
          have hm : 0 < mgF a := by
            have := mg_ex a
            rcases Nat.eq_zero_or_pos (exF a) with e | e <;> omega
          generalize hk : m * 2 ^ _ = k at ho
          generalize hl : (_ : Int).toNat = p at ho
          have : 0 < mgF a * 2 ^ p := Nat.mul_pos hm (Nat.two_pow_pos _)
          generalize mgF a * 2 ^ p = q at *
          rw [Int.compare_eq_gt.2 (by omega)] at ho
          exact absurd ho (by decide)
        · rw [hr] at ho; exact absurd ho (by simp [Ieee.Datum.order])
        · rw [hr] at ho; exact absurd ho (by simp [Ieee.Datum.order])
/-- What is no number is not above 0. -/
theorem fl_self (a : Nat) (ha : a < 18446744073709551616) (h : (Ieee.double.order a a != some .eq) = true) : gtB a = false := by
  rcases Nat.lt_or_ge a 9218868437227405312 with h1 | h1
  · rw [fl_order a a h1 h1, Nat.compare_eq_eq.2 rfl] at h; exact absurd h (by decide)
  · by_cases he : a = 9218868437227405312
    · subst he; exact absurd h (by decide)
    · exact decide_eq_false (by omega)

def milN (b : Nat) : Nat := if b < 4503599627370496 then 0 else (4503599627370496 + b % 4503599627370496) * 1000 / 2 ^ (1075 - b / 4503599627370496)
theorem milN_mono (a b : Nat) (h : a ≤ b) (hb : b < 4652007308841189376) : milN a ≤ milN b := by
  unfold milN
  by_cases ha : a < 4503599627370496
  · rw [if_pos ha]; exact Nat.zero_le _
  · rw [if_neg ha, if_neg (by omega)]
    rcases Nat.lt_or_ge (a / 4503599627370496) (b / 4503599627370496) with l | l
    · have hB : b / 4503599627370496 ≤ 1032 := by omega
      have e : 1075 - a / 4503599627370496 = (1075 - b / 4503599627370496) + (b / 4503599627370496 - a / 4503599627370496) := by omega
      have p2 := pow_ge2 (b / 4503599627370496 - a / 4503599627370496) (by omega)
      rw [e, Nat.pow_add, Nat.mul_comm (2 ^ (1075 - b / 4503599627370496)), ← Nat.div_div_eq_div_mul]
      refine Nat.div_le_div_right ?_
      refine Nat.le_trans (Nat.div_le_div_left p2 (by decide)) ?_
      omega
    · have e : a / 4503599627370496 = b / 4503599627370496 := by have := Nat.div_le_div_right (c := 4503599627370496) h; omega
      rw [e]
      refine Nat.div_le_div_right ?_
      have := Nat.div_add_mod a 4503599627370496
      have := Nat.div_add_mod b 4503599627370496
      omega
theorem milN_lt (b : Nat) (hb : b < 4652007308841189376) : milN b ≤ 999999 := by
  refine Nat.le_trans (milN_mono b 4652007308841189375 (by omega) (by decide)) ?_
  exact Nat.le_of_eq (by decide)
def milZ (b : Nat) : Nat := if gtB b then (if 4652007308841189376 ≤ b then 1000000 else milN b) else 0
theorem milZ_le (b : Nat) : milZ b ≤ 1000000 := by
  unfold milZ
  split
  · split
    · exact Nat.le_refl _
    · exact Nat.le_trans (milN_lt b (by omega)) (by decide)
  · decide
theorem milZ_mono (a b : Nat) (ha : gtB a = true) (hb : gtB b = true) (h : a ≤ b) : milZ a ≤ milZ b := by
  rw [milZ, milZ, if_pos ha, if_pos hb]
  split
  · rw [if_pos (by omega)]; exact Nat.le_refl _
  · split
    · exact Nat.le_trans (milN_lt a (by omega)) (by decide)
    · exact milN_mono a b h (by omega)
end Go.Proofs.YtdiondgkkanamaaDoor
namespace Go.Proofs.YtdiondgkkanamaaDoor
set_option linter.unusedVariables false
set_option maxRecDepth 4000

theorem log2_at (n k : Nat) (h1 : 2 ^ k ≤ n) (h2 : n < 2 ^ (k + 1)) : n.log2 = k := by
  have hn : n ≠ 0 := by have := Nat.two_pow_pos k; omega
  have a := (Nat.le_log2 hn).2 h1
  have b := (Nat.log2_lt hn).2 h2
  omega
theorem cut_zero (n : Nat) : Ieee.Toward.cut .zero false n 0 = n := by
  simp [Ieee.Toward.cut]
/-- A number below the least normal one, times 2^52. -/
theorem sub_mul (b : Nat) (h0 : 0 < b) (h : b < 4503599627370496) : ∃ y, floatBits .mul .f64 b 4841369599423283200 = some y ∧ y ≤ 238690780250636288 := by
  refine ⟨Ieee.double.nearest false (b * 4503599627370496) (-1074), ?_, ?_⟩
  · show Ieee.double.mul b 4841369599423283200 = _
    rw [Ieee.Format.mul, read_pos b (by omega), read_pos 4841369599423283200 (by decide)]
    have e1 : mgF b = b := by rw [mgF, if_pos h]
    have e2 : exF b = 0 := by rw [exF, if_pos h]
    rw [e1, e2, show mgF 4841369599423283200 = 4503599627370496 from rfl, show exF 4841369599423283200 = 1074 from rfl]
    rfl
  · have hn : b * 4503599627370496 ≠ 0 := by omega
    have l1 : 52 ≤ (b * 4503599627370496).log2 := (Nat.le_log2 hn).2 (by show 2 ^ 52 ≤ _; omega)
    have l2 : (b * 4503599627370496).log2 < 104 := (Nat.log2_lt hn).2 (by show _ < 2 ^ 104; omega)
    have l3 : b * 4503599627370496 < 2 ^ ((b * 4503599627370496).log2 + 1) := Nat.lt_log2_self
    generalize b * 4503599627370496 = n at *
    unfold Ieee.Format.nearest
    rw [if_neg hn]
    simp only [d_least, d_bin, d_inf, show Ieee.double.fractionBits = 52 from rfl]
    have hg : 1 <<< min (n.log2 - 52) (n.log2 + 2) = 2 ^ (n.log2 - 52) := by rw [Nat.min_eq_left (by omega), Nat.shiftLeft_eq, Nat.one_mul]
    have hlow : n / 2 ^ (n.log2 - 52) < 9007199254740992 := by
      refine Nat.div_lt_of_lt_mul (Nat.lt_of_lt_of_eq l3 ?_)
      rw [show (9007199254740992 : Nat) = 2 ^ 53 from rfl, ← Nat.pow_add]
      exact congrArg _ (by omega)
    have e1 : max (-1074 + (n.log2 : Int) - ((52 : Nat) : Int)) (-1074) = -1074 + (n.log2 : Int) - 52 := by omega
    rw [e1]
    have e2 : (-1074 - (-1074 + (n.log2 : Int) - 52)).toNat = 0 := by omega
    have e3 : (-1074 + (n.log2 : Int) - 52 - -1074).toNat = n.log2 - 52 := by omega
    rw [e2, e3, Nat.shiftLeft_zero]
    have hk : Ieee.Toward.cut .even false n (n.log2 - 52) ≤ 9007199254740992 := by
      simp only [Ieee.Toward.cut, hg]
      refine Nat.le_trans (Nat.add_le_add_left (Bool.toNat_le _) _) ?_
      omega
    rw [Ieee.Format.word]
    simp only [Bool.false_eq_true, if_false]
    refine Nat.le_trans (Nat.min_le_left _ _) ?_
    omega
/-- A fraction from 1/2 on, times 2^53. -/
theorem frac_mul (m : Nat) (h : m < 4503599627370496) : floatBits .mul .f64 (4602678819172646912 + m) 4845873199050653696 = some (4841369599423283200 + m) := by
  show Ieee.double.mul _ 4845873199050653696 = _
  rw [Ieee.Format.mul, read_pos (4602678819172646912 + m) (by omega), read_pos 4845873199050653696 (by decide)]
  have e1 : mgF (4602678819172646912 + m) = 4503599627370496 + m := by rw [mgF, if_neg (by omega)]; omega
  have e2 : exF (4602678819172646912 + m) = 1021 := by rw [exF, if_neg (by omega)]; omega
  rw [e1, e2, show mgF 4845873199050653696 = 4503599627370496 from rfl, show exF 4845873199050653696 = 1075 from rfl]
  show some (Ieee.double.nearest false ((4503599627370496 + m) * 4503599627370496) (-52)) = _
  have hl : ((4503599627370496 + m) * 4503599627370496).log2 = 104 := log2_at _ _ (by show 2 ^ 104 ≤ _; omega) (by show _ < 2 ^ 105; omega)
  unfold Ieee.Format.nearest
  rw [if_neg (by omega), hl]
  have hc : Ieee.Toward.cut .even false ((4503599627370496 + m) * 4503599627370496) 52 = 4503599627370496 + m := by
    have hg : 1 <<< min 52 (104 + 2) = 4503599627370496 := rfl
    simp only [Ieee.Toward.cut, hl, hg]
    rw [Nat.mul_div_cancel _ (by decide), Nat.mul_mod_left]
    rfl
  simp only [d_least, d_bin, d_inf, show Ieee.double.fractionBits = 52 from rfl]
  rw [show max (-52 + ((104 : Nat) : Int) - ((52 : Nat) : Int)) (-1074) = 0 from rfl, show (-52 - (0 : Int)).toNat = 0 from rfl, show ((0 : Int) - -52).toNat = 52 from rfl, show ((0 : Int) - -1074).toNat = 1074 from rfl, Nat.shiftLeft_zero, hc, Ieee.Format.word]
  simp only [Bool.false_eq_true, if_false]
  congr 1
  omega
/-- As an integer. -/
theorem frac_int (m : Nat) (h : m < 4503599627370496) : floatToIntVal .f64 (4841369599423283200 + m) .u64 = some ((4503599627370496 + m : Nat) : Int) := by
  have e1 : mgF (4841369599423283200 + m) = 4503599627370496 + m := by rw [mgF, if_neg (by omega)]; omega
  have e2 : exF (4841369599423283200 + m) = 1074 := by rw [exF, if_neg (by omega)]; omega
  have hd : FloatKind.f64.decode (4841369599423283200 + m) = .number false (4503599627370496 + m) 0 := by
    show Ieee.double.read _ = _
    rw [read_pos _ (by omega), e1, e2]
    rfl
  have ht : (Ieee.Datum.number false (4503599627370496 + m) 0).toInt .zero = some ((4503599627370496 + m : Nat) : Int) := by
    show some (Ieee.signed false (Ieee.Toward.cut .zero false ((4503599627370496 + m) <<< (0 : Int).toNat) (-(0 : Int)).toNat) 0) = _
    rw [show (0 : Int).toNat = 0 from rfl, show (-(0 : Int)).toNat = 0 from rfl, Nat.shiftLeft_zero, cut_zero, Ieee.signed]
    simp only [Bool.false_eq_true, if_false, Nat.shiftLeft_zero]
  rw [floatToIntVal, hd, ht]
  simp only
  rw [if_pos]
  have a : IntKind.u64.min = 0 := rfl
  have b : IntKind.u64.max = 18446744073709551615 := rfl
  omega

theorem and_low (k x : Nat) : x &&& (2 ^ k - 1) = x % 2 ^ k := Nat.and_two_pow_sub_one_eq_mod x k
theorem bits_sign (b : Nat) (h : b < 9223372036854775808) : bits .andNot .u64 (b : Int) 9223372036854775808 = (b : Int) := by
  have := u64_andNot_nat b 9223372036854775808 (by omega) (by decide)
  rw [show ((9223372036854775808 : Nat) : Int) = 9223372036854775808 from rfl] at this
  rw [this, show 18446744073709551615 - 9223372036854775808 = 2 ^ 63 - 1 from rfl, and_low, Nat.mod_eq_of_lt (by omega)]
theorem bits_exp (y : Nat) (h : y < 9223372036854775808) : bits .andNot .u64 (y : Int) 9218868437227405312 = ((y % 4503599627370496 : Nat) : Int) := by
  have := u64_andNot_nat y 9218868437227405312 (by omega) (by decide)
  rw [show ((9218868437227405312 : Nat) : Int) = 9218868437227405312 from rfl] at this
  rw [this, show 18446744073709551615 - 9218868437227405312 = 2 ^ 63 * 1 + (2 ^ 52 - 1) from rfl, Nat.two_pow_add_eq_or_of_lt (by decide), Nat.and_or_distrib_left, and_low]
  have : y &&& 2 ^ 63 * 1 = 0 := by
    rw [Nat.mul_one]
    apply Nat.eq_of_testBit_eq
    intro i
    rw [Nat.testBit_and, Nat.zero_testBit, Nat.testBit_two_pow]
    by_cases hi : 63 = i
    · subst hi
      rw [Nat.testBit_lt_two_pow (by omega : y < 2 ^ 63)]; rfl
    · rw [decide_eq_false hi, Bool.and_false]
  rw [this, Nat.zero_or]
theorem bits_half (m : Nat) (h : m < 4503599627370496) : bits .or .u64 (m : Int) 4602678819172646912 = ((4602678819172646912 + m : Nat) : Int) := by
  have := u64_or_nat m 4602678819172646912 (by omega) (by decide)
  rw [show ((4602678819172646912 : Nat) : Int) = 4602678819172646912 from rfl] at this
  rw [this, show (4602678819172646912 : Nat) = 2 ^ 52 * 1022 from rfl, Nat.two_pow_add_eq_or_of_lt h, Nat.or_comm]
theorem bits_mask (n : Nat) (h : n < 2048) : bits .and .u64 (n : Int) 2047 = (n : Int) := by
  have := u64_and_nat n 2047 (by omega) (by decide)
  rw [show ((2047 : Nat) : Int) = 2047 from rfl] at this
  rw [this, show (2047 : Nat) = 2 ^ 11 - 1 from rfl, and_low, Nat.mod_eq_of_lt (by omega)]
end Go.Proofs.YtdiondgkkanamaaDoor
namespace Go.Proofs.YtdiondgkkanamaaDoor
open Go.RowKit
set_option linter.unusedVariables false
set_option maxRecDepth 4000

theorem fbits_run (b : Nat) (w : World) : (callFunc 56 #[.float .f64 b]).run Tryd.prog w = .ok (.value (.int .u64 b)) w := by
  rw [run_callFunc_extern Tryd.func56 (by kernel_rfl) (by kernel_rfl) (by kernel_rfl) (e := Extern.MathFloatBits.float64bits) (by kernel_rfl)]
  rfl
theorem ffrom_run (n : Nat) (w : World) : (callFunc 57 #[.int .u64 n]).run Tryd.prog w = .ok (.value (.float .f64 n)) w := by
  rw [run_callFunc_extern Tryd.func57 (by kernel_rfl) (by kernel_rfl) (by kernel_rfl) (e := Extern.MathFloatBits.float64frombits) (by kernel_rfl)]
  rfl
theorem abs_any (b : Nat) (hb : b < 9223372036854775808) (w : World) : Calls Tryd.prog 65 #[.float .f64 b] w fun e w' => e = .returned (.float .f64 b) ∧ w' = w := by
  have h1 := fbits_run b w
  have h2 := ffrom_run b w
  have h3 := bits_sign b hb
  go_enter Tryd.func65, Tryd.ntmps65
  go_wp2
  go_ret
  exact ⟨rfl, rfl⟩
theorem isinf_any (b : Nat) (hb : b < 9218868437227405312) (w : World) : Calls Tryd.prog 53 #[.float .f64 b, .int .i64 0] w fun e w' => e = .returned (.bool false) ∧ w' = w := by
  have h1 : (FloatKind.f64.format.order b 9218868437227405311 == some .gt) = false := by
    show (Ieee.double.order b 9218868437227405311 == some .gt) = false
    rw [fl_order b _ hb (by decide)]
    rcases Nat.lt_or_ge b 9218868437227405311 with l | l
    · rw [Nat.compare_eq_lt.2 l]; rfl
    · rw [Nat.compare_eq_eq.2 (by omega)]; rfl
  go_enter Tryd.func53, Tryd.ntmps53
  go_wp2_with (first
    | (go_at_call 65; refine (abs_any b (by omega) _).mono ?_; rintro e w1 ⟨rfl, rfl⟩)
    | fail)
  go_ret
  exact ⟨rfl, rfl⟩
theorem isnan_any (b : Nat) (hb : b < 9218868437227405312) (w : World) : Calls Tryd.prog 54 #[.float .f64 b] w fun e w' => e = .returned (.bool false) ∧ w' = w := by
  have h1 : (FloatKind.f64.format.order b b != some .eq) = false := by
    show (Ieee.double.order b b != some .eq) = false
    rw [fl_order b _ hb hb, Nat.compare_eq_eq.2 rfl]; rfl
  go_enter Tryd.func54, Tryd.ntmps54
  go_wp2
  go_ret
  exact ⟨rfl, rfl⟩
theorem norm_big (b : Nat) (hb : b < 9218868437227405312) (h : 4503599627370496 ≤ b) (w : World) : Calls Tryd.prog 55 #[.float .f64 b] w fun e w' => e = .returned (.tuple #[.float .f64 b, .int .i64 0]) ∧ w' = w := by
  have h1 : (FloatKind.f64.format.order b 4503599627370496 == some .lt) = false := by
    show (Ieee.double.order b 4503599627370496 == some .lt) = false
    rw [fl_order b _ hb (by decide)]
    rcases Nat.lt_or_ge 4503599627370496 b with l | l
    · rw [Nat.compare_eq_gt.2 l]; rfl
    · rw [Nat.compare_eq_eq.2 (by omega)]; rfl
  go_enter Tryd.func55, Tryd.ntmps55
  go_wp2_with (first
    | (go_at_call 65; refine (abs_any b (by omega) _).mono ?_; rintro e w1 ⟨rfl, rfl⟩)
    | fail)
  go_ret2
  exact ⟨rfl, rfl⟩
theorem norm_sub (b y : Nat) (h : b < 4503599627370496) (hy : floatBits .mul .f64 b 4841369599423283200 = some y) (w : World) : Calls Tryd.prog 55 #[.float .f64 b] w fun e w' => e = .returned (.tuple #[.float .f64 y, .int .i64 (-52)]) ∧ w' = w := by
  have h1 : (FloatKind.f64.format.order b 4503599627370496 == some .lt) = true := by
    show (Ieee.double.order b 4503599627370496 == some .lt) = true
    rw [fl_order b _ (by omega) (by decide), Nat.compare_eq_lt.2 h]; rfl
  have h2 := run_float_arith (P := Tryd.prog) w .mul 27 .f64 b 4841369599423283200 y hy
  go_enter Tryd.func55, Tryd.ntmps55
  go_wp2_with (first
    | (go_at_call 65; refine (abs_any b (by omega) _).mono ?_; rintro e w1 ⟨rfl, rfl⟩)
    | fail)
  go_ret2
  exact ⟨rfl, rfl⟩
theorem frexp_of (b y : Nat) (d : Int) (h0 : 0 < b) (hb : b < 9218868437227405312) (hy : y < 9218868437227405312) (hd : -52 ≤ d ∧ d ≤ 0)
    (hn : ∀ w, Calls Tryd.prog 55 #[.float .f64 b] w fun e w' => e = .returned (.tuple #[.float .f64 y, .int .i64 d]) ∧ w' = w) (w : World) :
    Calls Tryd.prog 45 #[.float .f64 b] w fun e w' => e = .returned (.tuple #[.float .f64 (4602678819172646912 + y % 4503599627370496), .int .i64 (d + ((y / 4503599627370496 : Nat) : Int) - 1022)]) ∧ w' = w := by
  have h1 : (FloatKind.f64.format.order b 0 == some .eq) = false := by
    show (Ieee.double.order b 0 == some .eq) = false
    rw [fl_order b _ hb (by decide), Nat.compare_eq_gt.2 h0]; rfl
  have h2 := fbits_run y w
  have h3 := ffrom_run (4602678819172646912 + y % 4503599627370496) w
  have h4 := bits_exp y (by omega)
  have h5 := bits_half (y % 4503599627370496) (by omega)
  have h6 := bits_mask (y / 4503599627370496) (by omega)
  rw [show ((4602678819172646912 + y % 4503599627370496 : Nat) : Int) = 4602678819172646912 + (y : Int) % 4503599627370496 by omega] at h3 h5
  rw [show ((y % 4503599627370496 : Nat) : Int) = (y : Int) % 4503599627370496 by omega] at h4 h5
  rw [show ((y / 4503599627370496 : Nat) : Int) = (y : Int) / 4503599627370496 by omega] at h6
  have h7 : 0 ≤ (y : Int) / 4503599627370496 := by omega
  have h8 : (y : Int) / 4503599627370496 ≤ 2047 := by omega
  go_enter Tryd.func45, Tryd.ntmps45
  go_wp2_with (first
    | (go_at_call 53; refine (isinf_any b hb _).mono ?_; rintro e w1 ⟨rfl, rfl⟩)
    | (go_at_call 54; refine (isnan_any b hb _).mono ?_; rintro e w1 ⟨rfl, rfl⟩)
    | (go_at_call 55; refine (hn _).mono ?_; rintro e w1 ⟨rfl, rfl⟩)
    | fail)
  go_ret2
  rw [show d + ((y : Int) / 4503599627370496 - 1023 + 1) = d + ((y / 4503599627370496 : Nat) : Int) - 1022 by omega]
  exact ⟨rfl, rfl⟩
theorem Frexp_of (b f : Nat) (E : Int) (hn : ∀ w, Calls Tryd.prog 45 #[.float .f64 b] w fun e w' => e = .returned (.tuple #[.float .f64 f, .int .i64 E]) ∧ w' = w) (w : World) :
    Calls Tryd.prog 36 #[.float .f64 b] w fun e w' => e = .returned (.tuple #[.float .f64 f, .int .i64 E]) ∧ w' = w := by
  go_enter Tryd.func36, Tryd.ntmps36
  go_wp2_with (first
    | (go_at_call 45; refine (hn _).mono ?_; rintro e w1 ⟨rfl, rfl⟩)
    | fail)
  go_ret2
  exact ⟨rfl, rfl⟩
theorem thous_of (b m : Nat) (E : Int) (hm : m < 4503599627370496) (hE : -1200 ≤ E ∧ E ≤ 53)
    (hn : ∀ w, Calls Tryd.prog 36 #[.float .f64 b] w fun e w' => e = .returned (.tuple #[.float .f64 (4602678819172646912 + m), .int .i64 E]) ∧ w' = w) (w : World) :
    Calls Tryd.prog 26 #[.float .f64 b] w fun e w' => e = .returned (.int .i64 (((4503599627370496 + m) * 1000 / 2 ^ min (53 - E).toNat 64 : Nat) : Int)) ∧ w' = w := by
  have h1 := run_float_arith (P := Tryd.prog) w .mul 27 .f64 _ 4845873199050653696 _ (frac_mul m hm)
  have h2 := run_convert_float_int (P := Tryd.prog) w 27 72 .f64 .u64 _ _ (by rw [Tryd.underlying27]; rfl) Tryd.underlying72 (frac_int m hm)
  go_enter Tryd.func26, Tryd.ntmps26
  go_wp2_with (first
    | (go_at_call 36; refine (hn _).mono ?_; rintro e w1 ⟨rfl, rfl⟩)
    | fail)
  go_ret
  have hc : ((4503599627370496 + (m : Int)) * 1000 / 2 ^ min (53 - E).toNat 64) = (((4503599627370496 + m) * 1000 / 2 ^ min (53 - E).toNat 64 : Nat) : Int) := by
    generalize min (53 - E).toNat 64 = k
    rw [Int.natCast_ediv, Int.natCast_mul, Int.natCast_add, Int.natCast_pow]; rfl
  have hl : (4503599627370496 + m) * 1000 / 2 ^ min (53 - E).toNat 64 ≤ (4503599627370496 + m) * 1000 := Nat.div_le_self _ _
  rw [hc]
  generalize (4503599627370496 + m) * 1000 / 2 ^ min (53 - E).toNat 64 = q at *
  rw [show wrap64 (q : Int) = q by unfold wrap64; omega]
  exact ⟨rfl, rfl⟩
theorem thous_any (b : Nat) (h0 : 0 < b) (hb : b < 4652007308841189376) (w : World) : Calls Tryd.prog 26 #[.float .f64 b] w fun e w' => e = .returned (.int .i64 (milN b : Nat)) ∧ w' = w := by
  by_cases h : b < 4503599627370496
  · obtain ⟨y, hy, hl⟩ := sub_mul b h0 h
    have hm : y % 4503599627370496 < 4503599627370496 := Nat.mod_lt _ (by decide)
    refine (thous_of b (y % 4503599627370496) (-52 + ((y / 4503599627370496 : Nat) : Int) - 1022) hm (by omega) (Frexp_of b _ _ (frexp_of b y (-52) h0 (by omega) (by omega) (by omega) (norm_sub b y h hy))) w).mono ?_
    rintro e w' ⟨rfl, rfl⟩
    rw [milN, if_pos h, show min (53 - (-52 + ((y / 4503599627370496 : Nat) : Int) - 1022)).toNat 64 = 64 by omega, Nat.div_eq_of_lt (by omega)]
    exact ⟨rfl, rfl⟩
  · have hm : b % 4503599627370496 < 4503599627370496 := Nat.mod_lt _ (by decide)
    refine (thous_of b (b % 4503599627370496) (0 + ((b / 4503599627370496 : Nat) : Int) - 1022) hm (by omega) (Frexp_of b _ _ (frexp_of b b 0 h0 (by omega) (by omega) (by omega) (norm_big b (by omega) (by omega)))) w).mono ?_
    rintro e w' ⟨rfl, rfl⟩
    rw [milN, if_neg h]
    by_cases hk : b / 4503599627370496 ≤ 1011
    · rw [show min (53 - (0 + ((b / 4503599627370496 : Nat) : Int) - 1022)).toNat 64 = 64 by omega, Nat.div_eq_of_lt (by omega), Nat.div_eq_of_lt]
      · exact ⟨rfl, rfl⟩
      · refine Nat.lt_of_lt_of_le (m := 2 ^ 64) (by omega) (Nat.pow_le_pow_right (by decide) (by omega))
    · rw [show min (53 - (0 + ((b / 4503599627370496 : Nat) : Int) - 1022)).toNat 64 = 1075 - b / 4503599627370496 by omega]
      exact ⟨rfl, rfl⟩
theorem milli_any (b : Nat) (hb : b < 18446744073709551616) (w : World) : Calls Tryd.prog 15 #[.float .f64 b] w fun e w' => e = .returned (.int .i64 (milZ b : Nat)) ∧ w' = w := by
  have h1 : (FloatKind.f64.format.order b 0 == some .gt) = gtB b := fl_gt0 b hb
  unfold milZ
  cases hg : gtB b
  · rw [hg] at h1
    go_enter Tryd.func15, Tryd.ntmps15
    go_wp2
    go_ret
    exact ⟨rfl, rfl⟩
  · have h2 : (FloatKind.f64.format.order b 4652007308841189376 == some .gt || FloatKind.f64.format.order b 4652007308841189376 == some .eq) = decide (4652007308841189376 ≤ b) := fl_ge b hg
    rw [hg] at h1
    have hp : 0 < b := (of_decide_eq_true hg).1
    by_cases hk : 4652007308841189376 ≤ b
    · rw [decide_eq_true hk] at h2
      rw [if_pos rfl, if_pos hk]
      go_enter Tryd.func15, Tryd.ntmps15
      go_wp2
      go_ret
      exact ⟨rfl, rfl⟩
    · rw [decide_eq_false hk] at h2
      rw [if_pos rfl, if_neg hk]
      go_enter Tryd.func15, Tryd.ntmps15
      go_wp2_with (first
        | (go_at_call 26; refine (thous_any b hp (by omega) _).mono ?_; rintro e w1 ⟨rfl, rfl⟩)
        | fail)
      go_ret
      exact ⟨rfl, rfl⟩
end Go.Proofs.YtdiondgkkanamaaDoor
