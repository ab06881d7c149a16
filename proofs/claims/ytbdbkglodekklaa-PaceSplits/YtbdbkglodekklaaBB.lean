/-
  Products of float64 words that math.Frexp and pace come to: a number below the least normal one times 2^52 (sub_mul), a fraction from 1/2 on times 2^53 (frac_mul), as an integer (frac_int); bits of words. No condition.
-/
import Derived.Test.YtbdbkglodekklaaBA
import Derived.Laws.BitsAllLaws
namespace Go.Proofs.Ytbdbkglodekklaa
set_option linter.unusedVariables false
set_option maxRecDepth 4000

theorem log2_at (n k : Nat) (h1 : 2 ^ k ≤ n) (h2 : n < 2 ^ (k + 1)) : n.log2 = k := by
  have hn : n ≠ 0 := by have := Nat.two_pow_pos k; omega
  have a := (Nat.le_log2 hn).2 h1
  have b := (Nat.log2_lt hn).2 h2
  omega
theorem cut_zero (n : Nat) : Ieee.Toward.cut .zero false n 0 = n := by
  simp [Ieee.Toward.cut]
/-- A number below the least normal one, times 2^52. -/
theorem sub_mul (b : Nat) (h0 : 0 < b) (h : b < 4503599627370496) : ∃ y, floatBits .mul .f64 b 4841369599423283200 = some y ∧ y ≤ 238690780250636288 := by
  refine ⟨Ieee.double.nearest false (b * 4503599627370496) (-1074), ?_, ?_⟩
  · show Ieee.double.mul b 4841369599423283200 = _
    rw [Ieee.Format.mul, read_pos b (by omega), read_pos 4841369599423283200 (by decide)]
    have e1 : mgF b = b := by rw [mgF, if_pos h]
    have e2 : exF b = 0 := by rw [exF, if_pos h]
    rw [e1, e2, show mgF 4841369599423283200 = 4503599627370496 from rfl, show exF 4841369599423283200 = 1074 from rfl]
    rfl
  · have hn : b * 4503599627370496 ≠ 0 := by omega
    have l1 : 52 ≤ (b * 4503599627370496).log2 := (Nat.le_log2 hn).2 (by show 2 ^ 52 ≤ _; omega)
    have l2 : (b * 4503599627370496).log2 < 104 := (Nat.log2_lt hn).2 (by show _ < 2 ^ 104; omega)
    have l3 : b * 4503599627370496 < 2 ^ ((b * 4503599627370496).log2 + 1) := Nat.lt_log2_self
    generalize b * 4503599627370496 = n at *
    unfold Ieee.Format.nearest
    rw [if_neg hn]
    simp only [d_least, d_bin, d_inf, show Ieee.double.fractionBits = 52 from rfl]
    have hg : 1 <<< min (n.log2 - 52) (n.log2 + 2) = 2 ^ (n.log2 - 52) := by rw [Nat.min_eq_left (by omega), Nat.shiftLeft_eq, Nat.one_mul]
    have hlow : n / 2 ^ (n.log2 - 52) < 9007199254740992 := by
      refine Nat.div_lt_of_lt_mul (Nat.lt_of_lt_of_eq l3 ?_)
      rw [show (9007199254740992 : Nat) = 2 ^ 53 from rfl, ← Nat.pow_add]
      exact congrArg _ (by omega)
    have e1 : max (-1074 + (n.log2 : Int) - ((52 : Nat) : Int)) (-1074) = -1074 + (n.log2 : Int) - 52 := by omega
    rw [e1]
    have e2 : (-1074 - (-1074 + (n.log2 : Int) - 52)).toNat = 0 := by omega
    have e3 : (-1074 + (n.log2 : Int) - 52 - -1074).toNat = n.log2 - 52 := by omega
    rw [e2, e3, Nat.shiftLeft_zero]
    have hk : Ieee.Toward.cut .even false n (n.log2 - 52) ≤ 9007199254740992 := by
      simp only [Ieee.Toward.cut, hg]
      refine Nat.le_trans (Nat.add_le_add_left (Bool.toNat_le _) _) ?_
      omega
    rw [Ieee.Format.word]
    simp only [Bool.false_eq_true, if_false]
    refine Nat.le_trans (Nat.min_le_left _ _) ?_
    omega
/-- A fraction from 1/2 on, times 2^53. -/
theorem frac_mul (m : Nat) (h : m < 4503599627370496) : floatBits .mul .f64 (4602678819172646912 + m) 4845873199050653696 = some (4841369599423283200 + m) := by
  show Ieee.double.mul _ 4845873199050653696 = _
  rw [Ieee.Format.mul, read_pos (4602678819172646912 + m) (by omega), read_pos 4845873199050653696 (by decide)]
  have e1 : mgF (4602678819172646912 + m) = 4503599627370496 + m := by rw [mgF, if_neg (by omega)]; omega
  have e2 : exF (4602678819172646912 + m) = 1021 := by rw [exF, if_neg (by omega)]; omega
  rw [e1, e2, show mgF 4845873199050653696 = 4503599627370496 from rfl, show exF 4845873199050653696 = 1075 from rfl]
  show some (Ieee.double.nearest false ((4503599627370496 + m) * 4503599627370496) (-52)) = _
  have hl : ((4503599627370496 + m) * 4503599627370496).log2 = 104 := log2_at _ _ (by show 2 ^ 104 ≤ _; omega) (by show _ < 2 ^ 105; omega)
  unfold Ieee.Format.nearest
  rw [if_neg (by omega), hl]
  have hc : Ieee.Toward.cut .even false ((4503599627370496 + m) * 4503599627370496) 52 = 4503599627370496 + m := by
    have hg : 1 <<< min 52 (104 + 2) = 4503599627370496 := rfl
    simp only [Ieee.Toward.cut, hl, hg]
    rw [Nat.mul_div_cancel _ (by decide), Nat.mul_mod_left]
    rfl
  simp only [d_least, d_bin, d_inf, show Ieee.double.fractionBits = 52 from rfl]
  rw [show max (-52 + ((104 : Nat) : Int) - ((52 : Nat) : Int)) (-1074) = 0 from rfl, show (-52 - (0 : Int)).toNat = 0 from rfl, show ((0 : Int) - -52).toNat = 52 from rfl, show ((0 : Int) - -1074).toNat = 1074 from rfl, Nat.shiftLeft_zero, hc, Ieee.Format.word]
  simp only [Bool.false_eq_true, if_false]
  congr 1
  omega
/-- As an integer. -/
theorem frac_int (m : Nat) (h : m < 4503599627370496) : floatToIntVal .f64 (4841369599423283200 + m) .u64 = some ((4503599627370496 + m : Nat) : Int) := by
  have e1 : mgF (4841369599423283200 + m) = 4503599627370496 + m := by rw [mgF, if_neg (by omega)]; omega
  have e2 : exF (4841369599423283200 + m) = 1074 := by rw [exF, if_neg (by omega)]; omega
  have hd : FloatKind.f64.decode (4841369599423283200 + m) = .number false (4503599627370496 + m) 0 := by
    show Ieee.double.read _ = _
    rw [read_pos _ (by omega), e1, e2]
    rfl
  have ht : (Ieee.Datum.number false (4503599627370496 + m) 0).toInt .zero = some ((4503599627370496 + m : Nat) : Int) := by
    show some (Ieee.signed false (Ieee.Toward.cut .zero false ((4503599627370496 + m) <<< (0 : Int).toNat) (-(0 : Int)).toNat) 0) = _
    rw [show (0 : Int).toNat = 0 from rfl, show (-(0 : Int)).toNat = 0 from rfl, Nat.shiftLeft_zero, cut_zero, Ieee.signed]
    simp only [Bool.false_eq_true, if_false, Nat.shiftLeft_zero]
  rw [floatToIntVal, hd, ht]
  simp only
  rw [if_pos]
  have a : IntKind.u64.min = 0 := rfl
  have b : IntKind.u64.max = 18446744073709551615 := rfl
  omega

theorem and_low (k x : Nat) : x &&& (2 ^ k - 1) = x % 2 ^ k := Nat.and_two_pow_sub_one_eq_mod x k
theorem bits_sign (b : Nat) (h : b < 9223372036854775808) : bits .andNot .u64 (b : Int) 9223372036854775808 = (b : Int) := by
  have := u64_andNot_nat b 9223372036854775808 (by omega) (by decide)
  rw [show ((9223372036854775808 : Nat) : Int) = 9223372036854775808 from rfl] at this
  rw [this, show 18446744073709551615 - 9223372036854775808 = 2 ^ 63 - 1 from rfl, and_low, Nat.mod_eq_of_lt (by omega)]
theorem bits_exp (y : Nat) (h : y < 9223372036854775808) : bits .andNot .u64 (y : Int) 9218868437227405312 = ((y % 4503599627370496 : Nat) : Int) := by
  have := u64_andNot_nat y 9218868437227405312 (by omega) (by decide)
  rw [show ((9218868437227405312 : Nat) : Int) = 9218868437227405312 from rfl] at this
  rw [this, show 18446744073709551615 - 9218868437227405312 = 2 ^ 63 * 1 + (2 ^ 52 - 1) from rfl, Nat.two_pow_add_eq_or_of_lt (by decide), Nat.and_or_distrib_left, and_low]
  have : y &&& 2 ^ 63 * 1 = 0 := by
    rw [Nat.mul_one]
    apply Nat.eq_of_testBit_eq
    intro i
    rw [Nat.testBit_and, Nat.zero_testBit, Nat.testBit_two_pow]
    by_cases hi : 63 = i
    · subst hi
      rw [Nat.testBit_lt_two_pow (by omega : y < 2 ^ 63)]; rfl
    · rw [decide_eq_false hi, Bool.and_false]
  rw [this, Nat.zero_or]
theorem bits_half (m : Nat) (h : m < 4503599627370496) : bits .or .u64 (m : Int) 4602678819172646912 = ((4602678819172646912 + m : Nat) : Int) := by
  have := u64_or_nat m 4602678819172646912 (by omega) (by decide)
  rw [show ((4602678819172646912 : Nat) : Int) = 4602678819172646912 from rfl] at this
  rw [this, show (4602678819172646912 : Nat) = 2 ^ 52 * 1022 from rfl, Nat.two_pow_add_eq_or_of_lt h, Nat.or_comm]
theorem bits_mask (n : Nat) (h : n < 2048) : bits .and .u64 (n : Int) 2047 = (n : Int) := by
  have := u64_and_nat n 2047 (by omega) (by decide)
  rw [show ((2047 : Nat) : Int) = 2047 from rfl] at this
  rw [this, show (2047 : Nat) = 2 ^ 11 - 1 from rfl, and_low, Nat.mod_eq_of_lt (by omega)]
end Go.Proofs.Ytbdbkglodekklaa
