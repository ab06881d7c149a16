/-
  Contracts of math.Float64bits, Float64frombits (the model's own entries), Abs, IsInf, IsNaN, normalize, frexp, Frexp of a number above 0; of pace.thousandths, pace.Milli of any float. No condition.
-/
import Derived.Test.YtbdbkglodekklaaBB
import Derived.Test.YtbdbkglodekklaaBa
import Derived.Laws.Externs
namespace Go.Proofs.Ytbdbkglodekklaa
open Go.RowKit
set_option linter.unusedVariables false
set_option maxRecDepth 4000

theorem fbits_run (b : Nat) (w : World) : (callFunc 26 #[.float .f64 b]).run Try.prog w = .ok (.value (.int .u64 b)) w := by
  rw [run_callFunc_extern Try.func26 (by kernel_rfl) (by kernel_rfl) (by kernel_rfl) (e := Extern.MathFloatBits.float64bits) (by kernel_rfl)]
  rfl
theorem ffrom_run (n : Nat) (w : World) : (callFunc 27 #[.int .u64 n]).run Try.prog w = .ok (.value (.float .f64 n)) w := by
  rw [run_callFunc_extern Try.func27 (by kernel_rfl) (by kernel_rfl) (by kernel_rfl) (e := Extern.MathFloatBits.float64frombits) (by kernel_rfl)]
  rfl
theorem abs_any (b : Nat) (hb : b < 9223372036854775808) (w : World) : Calls Try.prog 28 #[.float .f64 b] w fun e w' => e = .returned (.float .f64 b) ∧ w' = w := by
  have h1 := fbits_run b w
  have h2 := ffrom_run b w
  have h3 := bits_sign b hb
  go_enter Try.func28, Try.ntmps28
  go_wp2
  go_ret
  exact ⟨rfl, rfl⟩
theorem isinf_any (b : Nat) (hb : b < 9218868437227405312) (w : World) : Calls Try.prog 23 #[.float .f64 b, .int .i64 0] w fun e w' => e = .returned (.bool false) ∧ w' = w := by
  have h1 : (FloatKind.f64.format.order b 9218868437227405311 == some .gt) = false := by
    show (Ieee.double.order b 9218868437227405311 == some .gt) = false
    rw [fl_order b _ hb (by decide)]
    rcases Nat.lt_or_ge b 9218868437227405311 with l | l
    · rw [Nat.compare_eq_lt.2 l]; rfl
    · rw [Nat.compare_eq_eq.2 (by omega)]; rfl
  go_enter Try.func23, Try.ntmps23
  go_wp2_with (first
    | (go_at_call 28; refine (abs_any b (by omega) _).mono ?_; rintro e w1 ⟨rfl, rfl⟩)
    | fail)
  go_ret
  exact ⟨rfl, rfl⟩
theorem isnan_any (b : Nat) (hb : b < 9218868437227405312) (w : World) : Calls Try.prog 24 #[.float .f64 b] w fun e w' => e = .returned (.bool false) ∧ w' = w := by
  have h1 : (FloatKind.f64.format.order b b != some .eq) = false := by
    show (Ieee.double.order b b != some .eq) = false
    rw [fl_order b _ hb hb, Nat.compare_eq_eq.2 rfl]; rfl
  go_enter Try.func24, Try.ntmps24
  go_wp2
  go_ret
  exact ⟨rfl, rfl⟩
theorem norm_big (b : Nat) (hb : b < 9218868437227405312) (h : 4503599627370496 ≤ b) (w : World) : Calls Try.prog 25 #[.float .f64 b] w fun e w' => e = .returned (.tuple #[.float .f64 b, .int .i64 0]) ∧ w' = w := by
  have h1 : (FloatKind.f64.format.order b 4503599627370496 == some .lt) = false := by
    show (Ieee.double.order b 4503599627370496 == some .lt) = false
    rw [fl_order b _ hb (by decide)]
    rcases Nat.lt_or_ge 4503599627370496 b with l | l
    · rw [Nat.compare_eq_gt.2 l]; rfl
    · rw [Nat.compare_eq_eq.2 (by omega)]; rfl
  go_enter Try.func25, Try.ntmps25
  go_wp2_with (first
    | (go_at_call 28; refine (abs_any b (by omega) _).mono ?_; rintro e w1 ⟨rfl, rfl⟩)
    | fail)
  go_ret2
  exact ⟨rfl, rfl⟩
theorem norm_sub (b y : Nat) (h : b < 4503599627370496) (hy : floatBits .mul .f64 b 4841369599423283200 = some y) (w : World) : Calls Try.prog 25 #[.float .f64 b] w fun e w' => e = .returned (.tuple #[.float .f64 y, .int .i64 (-52)]) ∧ w' = w := by
  have h1 : (FloatKind.f64.format.order b 4503599627370496 == some .lt) = true := by
    show (Ieee.double.order b 4503599627370496 == some .lt) = true
    rw [fl_order b _ (by omega) (by decide), Nat.compare_eq_lt.2 h]; rfl
  have h2 := run_float_arith (P := Try.prog) w .mul 22 .f64 b 4841369599423283200 y hy
  go_enter Try.func25, Try.ntmps25
  go_wp2_with (first
    | (go_at_call 28; refine (abs_any b (by omega) _).mono ?_; rintro e w1 ⟨rfl, rfl⟩)
    | fail)
  go_ret2
  exact ⟨rfl, rfl⟩
theorem frexp_of (b y : Nat) (d : Int) (h0 : 0 < b) (hb : b < 9218868437227405312) (hy : y < 9218868437227405312) (hd : -52 ≤ d ∧ d ≤ 0)
    (hn : ∀ w, Calls Try.prog 25 #[.float .f64 b] w fun e w' => e = .returned (.tuple #[.float .f64 y, .int .i64 d]) ∧ w' = w) (w : World) :
    Calls Try.prog 22 #[.float .f64 b] w fun e w' => e = .returned (.tuple #[.float .f64 (4602678819172646912 + y % 4503599627370496), .int .i64 (d + ((y / 4503599627370496 : Nat) : Int) - 1022)]) ∧ w' = w := by
  have h1 : (FloatKind.f64.format.order b 0 == some .eq) = false := by
    show (Ieee.double.order b 0 == some .eq) = false
    rw [fl_order b _ hb (by decide), Nat.compare_eq_gt.2 h0]; rfl
  have h2 := fbits_run y w
  have h3 := ffrom_run (4602678819172646912 + y % 4503599627370496) w
  have h4 := bits_exp y (by omega)
  have h5 := bits_half (y % 4503599627370496) (by omega)
  have h6 := bits_mask (y / 4503599627370496) (by omega)
  rw [show ((4602678819172646912 + y % 4503599627370496 : Nat) : Int) = 4602678819172646912 + (y : Int) % 4503599627370496 by omega] at h3 h5
  rw [show ((y % 4503599627370496 : Nat) : Int) = (y : Int) % 4503599627370496 by omega] at h4 h5
  rw [show ((y / 4503599627370496 : Nat) : Int) = (y : Int) / 4503599627370496 by omega] at h6
  have h7 : 0 ≤ (y : Int) / 4503599627370496 := by omega
  have h8 : (y : Int) / 4503599627370496 ≤ 2047 := by omega
  go_enter Try.func22, Try.ntmps22
  go_wp2_with (first
    | (go_at_call 23; refine (isinf_any b hb _).mono ?_; rintro e w1 ⟨rfl, rfl⟩)
    | (go_at_call 24; refine (isnan_any b hb _).mono ?_; rintro e w1 ⟨rfl, rfl⟩)
    | (go_at_call 25; refine (hn _).mono ?_; rintro e w1 ⟨rfl, rfl⟩)
    | fail)
  go_ret2
  rw [show d + ((y : Int) / 4503599627370496 - 1023 + 1) = d + ((y / 4503599627370496 : Nat) : Int) - 1022 by omega]
  exact ⟨rfl, rfl⟩
theorem Frexp_of (b f : Nat) (E : Int) (hn : ∀ w, Calls Try.prog 22 #[.float .f64 b] w fun e w' => e = .returned (.tuple #[.float .f64 f, .int .i64 E]) ∧ w' = w) (w : World) :
    Calls Try.prog 20 #[.float .f64 b] w fun e w' => e = .returned (.tuple #[.float .f64 f, .int .i64 E]) ∧ w' = w := by
  go_enter Try.func20, Try.ntmps20
  go_wp2_with (first
    | (go_at_call 22; refine (hn _).mono ?_; rintro e w1 ⟨rfl, rfl⟩)
    | fail)
  go_ret2
  exact ⟨rfl, rfl⟩
theorem thous_of (b m : Nat) (E : Int) (hm : m < 4503599627370496) (hE : -1200 ≤ E ∧ E ≤ 53)
    (hn : ∀ w, Calls Try.prog 20 #[.float .f64 b] w fun e w' => e = .returned (.tuple #[.float .f64 (4602678819172646912 + m), .int .i64 E]) ∧ w' = w) (w : World) :
    Calls Try.prog 17 #[.float .f64 b] w fun e w' => e = .returned (.int .i64 (((4503599627370496 + m) * 1000 / 2 ^ min (53 - E).toNat 64 : Nat) : Int)) ∧ w' = w := by
  have h1 := run_float_arith (P := Try.prog) w .mul 22 .f64 _ 4845873199050653696 _ (frac_mul m hm)
  have h2 := run_convert_float_int (P := Try.prog) w 22 51 .f64 .u64 _ _ (by rw [Try.underlying22]; rfl) Try.underlying51 (frac_int m hm)
  go_enter Try.func17, Try.ntmps17
  go_wp2_with (first
    | (go_at_call 20; refine (hn _).mono ?_; rintro e w1 ⟨rfl, rfl⟩)
    | fail)
  go_ret
  have hc : ((4503599627370496 + (m : Int)) * 1000 / 2 ^ min (53 - E).toNat 64) = (((4503599627370496 + m) * 1000 / 2 ^ min (53 - E).toNat 64 : Nat) : Int) := by
    generalize min (53 - E).toNat 64 = k
    rw [Int.natCast_ediv, Int.natCast_mul, Int.natCast_add, Int.natCast_pow]; rfl
  have hl : (4503599627370496 + m) * 1000 / 2 ^ min (53 - E).toNat 64 ≤ (4503599627370496 + m) * 1000 := Nat.div_le_self _ _
  rw [hc]
  generalize (4503599627370496 + m) * 1000 / 2 ^ min (53 - E).toNat 64 = q at *
  rw [show wrap64 (q : Int) = q by unfold wrap64; omega]
  exact ⟨rfl, rfl⟩
theorem thous_any (b : Nat) (h0 : 0 < b) (hb : b < 4652007308841189376) (w : World) : Calls Try.prog 17 #[.float .f64 b] w fun e w' => e = .returned (.int .i64 (milN b : Nat)) ∧ w' = w := by
  by_cases h : b < 4503599627370496
  · obtain ⟨y, hy, hl⟩ := sub_mul b h0 h
    have hm : y % 4503599627370496 < 4503599627370496 := Nat.mod_lt _ (by decide)
    refine (thous_of b (y % 4503599627370496) (-52 + ((y / 4503599627370496 : Nat) : Int) - 1022) hm (by omega) (Frexp_of b _ _ (frexp_of b y (-52) h0 (by omega) (by omega) (by omega) (norm_sub b y h hy))) w).mono ?_
    rintro e w' ⟨rfl, rfl⟩
    rw [milN, if_pos h, show min (53 - (-52 + ((y / 4503599627370496 : Nat) : Int) - 1022)).toNat 64 = 64 by omega, Nat.div_eq_of_lt (by omega)]
    exact ⟨rfl, rfl⟩
  · have hm : b % 4503599627370496 < 4503599627370496 := Nat.mod_lt _ (by decide)
    refine (thous_of b (b % 4503599627370496) (0 + ((b / 4503599627370496 : Nat) : Int) - 1022) hm (by omega) (Frexp_of b _ _ (frexp_of b b 0 h0 (by omega) (by omega) (by omega) (norm_big b (by omega) (by omega)))) w).mono ?_
    rintro e w' ⟨rfl, rfl⟩
    rw [milN, if_neg h]
    by_cases hk : b / 4503599627370496 ≤ 1011
    · rw [show min (53 - (0 + ((b / 4503599627370496 : Nat) : Int) - 1022)).toNat 64 = 64 by omega, Nat.div_eq_of_lt (by omega), Nat.div_eq_of_lt]
      · exact ⟨rfl, rfl⟩
      · refine Nat.lt_of_lt_of_le (m := 2 ^ 64) (by omega) (Nat.pow_le_pow_right (by decide) (by omega))
    · rw [show min (53 - (0 + ((b / 4503599627370496 : Nat) : Int) - 1022)).toNat 64 = 1075 - b / 4503599627370496 by omega]
      exact ⟨rfl, rfl⟩
theorem milli_any (b : Nat) (hb : b < 18446744073709551616) (w : World) : Calls Try.prog 8 #[.float .f64 b] w fun e w' => e = .returned (.int .i64 (milZ b : Nat)) ∧ w' = w := by
  have h1 : (FloatKind.f64.format.order b 0 == some .gt) = gtB b := fl_gt0 b hb
  unfold milZ
  cases hg : gtB b
  · rw [hg] at h1
    go_enter Try.func8, Try.ntmps8
    go_wp2
    go_ret
    exact ⟨rfl, rfl⟩
  · have h2 : (FloatKind.f64.format.order b 4652007308841189376 == some .gt || FloatKind.f64.format.order b 4652007308841189376 == some .eq) = decide (4652007308841189376 ≤ b) := fl_ge b hg
    rw [hg] at h1
    have hp : 0 < b := (of_decide_eq_true hg).1
    by_cases hk : 4652007308841189376 ≤ b
    · rw [decide_eq_true hk] at h2
      rw [if_pos rfl, if_pos hk]
      go_enter Try.func8, Try.ntmps8
      go_wp2
      go_ret
      exact ⟨rfl, rfl⟩
    · rw [decide_eq_false hk] at h2
      rw [if_pos rfl, if_neg hk]
      go_enter Try.func8, Try.ntmps8
      go_wp2_with (first
        | (go_at_call 17; refine (thous_any b hp (by omega) _).mono ?_; rintro e w1 ⟨rfl, rfl⟩)
        | fail)
      go_ret
      exact ⟨rfl, rfl⟩
end Go.Proofs.Ytbdbkglodekklaa
