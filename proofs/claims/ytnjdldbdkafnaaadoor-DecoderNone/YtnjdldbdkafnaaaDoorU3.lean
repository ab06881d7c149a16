/-
  Contracts of slices.Clone at []uint64, words.within, words.mask, words.Get, bucketlineref01.Get: for every row of fewer than 2^47 bytes and every int.
  Contracts of words.Get and bucketlineref01.Get at every int: for every row of at most 2^20 words.
  Contracts of xor.Xor, bucketlineref02.Xor, xor.zero, xor.Sum, bucketlineref02.Sum, xor.Of, bucketlineref02.Of: for texts of at most 2^20 bytes and rows of at most 2^20 words.
  How many of the first k bits of a row are set; the xor of two rows bit by bit. Plain lists of words; no condition.
-/
import Derived.Test.YtnjdldbdkafnaaaDoorU1
import Derived.BigQuiet
import Derived.Deep.QuietTactic
import Derived.Test.YtnjdldbdkafnaaaDoorU2
import Derived.Test.YtnjdldbdkafnaaaDoorBits
namespace Go.Proofs.YtnjdldbdkafnaaaDoor
open Go.RowKit
set_option linter.unusedVariables false
set_option linter.unusedSimpArgs false
set_option maxRecDepth 4000

set_option maxHeartbeats 400000 in
theorem clone_any (a : Option Addr) (n c : Nat) (xs : List Nat) (w : World) (h : RowAt w a n xs) (hn : n * 8 ≤ 140737488351232) :
    Calls Tryd.prog 64 #[.slice a n c] w fun e w' => ∃ v, e = .returned v ∧ Own w' w.heap.size v xs ∧ Below w.heap.size w w' := by
  have hnil := fun wx => Lib.run_eql_slice_nil (P := Tryd.prog) wx 29 38 a n c 0 0 Tryd.underlying29
  obtain ⟨i0, hi, hz0, hz1, hz2⟩ := info_parts info_u64
  cases a with
  | none =>
    have h0 : n = 0 := by
      rcases h.2.2 with h0 | ⟨b, off, h1, _⟩
      · exact h0
      · cases h1
    subst h0
    have hx : xs = [] := List.eq_nil_of_length_eq_zero h.1
    subst hx
    go_enter Tryd.func64, Tryd.ntmps64
    go_wp2
    go_ret
    exact ⟨_, rfl, Own.nil _ _, Below.refl _ _⟩
  | some ad =>
    go_enter Tryd.func64, Tryd.ntmps64
    go_wp2_with (first | (at_builtin; refine wpList_append_own _ rfl (.tmp 5) (.tmp 6) 29 rfl w.heap.size 38 i0 (.int .u64 0) 1 8 Tryd.underlying29 hi hz0 hz1 hz2 rfl (by decide) _ _ _ rfl (World.ownsRow_lit _ #[] 0 (Nat.le_refl _) (by decide) rfl) ad n c (cellsU xs) rfl ?c0 ?c1 ?c2 ?c3 ?c4 ?c5 ?_))
    case c0 => rw [cellsU_length, h.1, Nat.mul_one]
    case c1 => exact (h.below ((Below.refl _ _).alloc (Nat.le_refl _) _)).news
    case c2 => exact cellsU_one xs
    case c3 => unfold maxLen; omega
    case c4 => omega
    case c5 => simp
    intro v' w1 hown hgrow _
    have hb : Below w.heap.size w w1 := ((Below.refl _ _).alloc (Nat.le_refl _) _).grown hgrow (by simp) (fun k hk => by simp [Value.ownBlock] at hk; omega)
    have ho : Own w1 w.heap.size v' xs := ⟨h.2.1, by rw [h.1]; simpa using hown⟩
    have HO := hide ho
    have HB := hide hb
    clear hown hgrow hb ho hnil h
    go_wp2
    go_ret
    exact ⟨_, rfl, unhide HO, unhide HB⟩

set_option maxHeartbeats 400000 in
theorem within_pos (a : Option Addr) (n c : Nat) (i : Int) (h0 : 0 ≤ i) (hi : i ≤ 9223372036854775807) (w : World) :
    Calls Tryd.prog 93 #[.slice a n c, .int .i64 i] w fun e w' => e = .returned (.bool (decide (i / 64 < (n : Int)))) ∧ w' = w := by
  go_enter Tryd.func93, Tryd.ntmps93
  go_wp2
  go_ret
  exact ⟨rfl, rfl⟩
set_option maxHeartbeats 400000 in
theorem within_neg (a : Option Addr) (n c : Nat) (i : Int) (h0 : i < 0) (w : World) :
    Calls Tryd.prog 93 #[.slice a n c, .int .i64 i] w fun e w' => e = .returned (.bool false) ∧ w' = w := by
  have h1 : decide (0 ≤ i) = false := by simp; omega
  go_enter Tryd.func93, Tryd.ntmps93
  go_wp2
  go_ret
  exact ⟨rfl, rfl⟩

theorem mask_num (i : Int) : IntKind.u64.wrap (2 ^ (i % 64).toNat) = ((2 ^ (i % 64).toNat : Nat) : Int) := by
  have h : (i % 64).toNat < 64 := by omega
  have h2 : 2 ^ (i % 64).toNat < 2 ^ 64 := Nat.pow_lt_pow_right (by decide) h
  rw [IntKind.wrap_u64]
  have h3 : ((2 : Int) ^ (i % 64).toNat) = ((2 ^ (i % 64).toNat : Nat) : Int) := by simp
  rw [h3]
  exact Int.emod_eq_of_lt (Int.natCast_nonneg _) (by omega)
set_option maxHeartbeats 400000 in
theorem mask_any (i : Int) (h0 : 0 ≤ i) (hi : i ≤ 9223372036854775807) (w : World) :
    Calls Tryd.prog 94 #[.int .i64 i] w fun e w' => e = .returned (.int .u64 ((2 ^ (i % 64).toNat : Nat) : Int)) ∧ w' = w := by
  go_enter Tryd.func94, Tryd.ntmps94
  go_wp2
  go_ret
  exact ⟨ret_int (mask_num i), rfl⟩

theorem get_num (x : Nat) (i : Int) (hx : x < 18446744073709551616) : (bits .and .u64 (x : Int) ((2 ^ (i % 64).toNat : Nat) : Int) != 0) = x.testBit (i % 64).toNat := by
  have h : (i % 64).toNat < 64 := by omega
  have h2 : 2 ^ (i % 64).toNat < 2 ^ 64 := Nat.pow_lt_pow_right (by decide) h
  rw [u64_and_nat x _ hx (by omega), nat_bit, Nat.testBit_eq_decide_div_mod_eq]
  have hp : 0 < 2 ^ (i % 64).toNat := Nat.pow_pos (by decide)
  rcases Nat.mod_two_eq_zero_or_one (x / 2 ^ (i % 64).toNat) with e | e
  · rw [e]; simp
  · rw [e]
    rw [bne_iff_ne.2 (by omega)]
    simp

set_option maxHeartbeats 400000 in
theorem get_out (a : Option Addr) (n c : Nat) (i : Int) (w : World) (hi : i ≤ 9223372036854775807) (ho : i < 0 ∨ (n : Int) ≤ i / 64) :
    Calls Tryd.prog 90 #[.slice a n c, .int .i64 i] w fun e w' => e = .returned (.bool false) ∧ ∃ d, w' = w.drewN d := by
  have hc : ∀ wx : World, Calls Tryd.prog 93 #[.slice a n c, .int .i64 i] wx fun e w' => e = .returned (.bool false) ∧ w' = wx := by
    by_cases h0 : 0 ≤ i
    · have hd : decide (i / 64 < (n : Int)) = false := by simp; omega
      intro wx
      have := within_pos a n c i h0 hi wx
      rwa [hd] at this
    · exact fun wx => within_neg a n c i (by omega) wx
  have HC := hide hc
  clear hc
  go_enter Tryd.func90, Tryd.ntmps90
  go_wp2_with fail
  go_quiet ((go_at_call 93; exact Calls.quiet_of_same (unhide HC _)))
  go_wp2
  go_ret
  exact ⟨rfl, _, rfl⟩

set_option maxHeartbeats 400000 in
theorem get_in (a : Option Addr) (n c : Nat) (xs : List Nat) (i : Int) (w : World) (h : RowAt w a n xs) (h0 : 0 ≤ i) (hi : i ≤ 9223372036854775807) (hlt : i / 64 < (n : Int)) (hn : n * 8 ≤ 140737488351232) :
    Calls Tryd.prog 90 #[.slice a n c, .int .i64 i] w fun e w' => e = .returned (.bool (getB xs i.toNat)) ∧ ∃ d, w' = w.drewN d := by
  obtain ⟨b, off, rfl, hc⟩ := h.at (i := (i / 64).toNat) (by omega)
  have hcell := hc (i / 64).toNat (by omega)
  have hnum := get_num (xs.getD (i / 64).toNat 0) i (h.2.1.get _)
  have HN := hide hnum
  have hW : ∀ wx : World, Calls Tryd.prog 93 #[.slice (some ⟨b, off, none⟩) n c, .int .i64 i] wx fun e w' => e = .returned (.bool true) ∧ w' = wx := by
    intro wx
    have := within_pos (some ⟨b, off, none⟩) n c i h0 hi wx
    rwa [show decide (i / 64 < (n : Int)) = true by simp; omega] at this
  have HW := hide hW
  have hM := fun wx => mask_any i h0 hi wx
  have HM := hide hM
  have he : getB xs i.toNat = (xs.getD (i / 64).toNat 0).testBit (i % 64).toNat := by
    unfold getB
    rw [show i.toNat / 64 = (i / 64).toNat by omega, show i.toNat % 64 = (i % 64).toNat by omega]
  have HE := hide he
  generalize xs.getD (i / 64).toNat 0 = x at *
  clear hnum hW hM he hc h
  go_enter Tryd.func90, Tryd.ntmps90
  go_wp2_with fail
  go_quiet ((first | (go_at_call 93; exact Calls.quiet_of_same (unhide HW _)) | (go_at_call 94; exact Calls.quiet_of_same (unhide HM _))))
  go_wp2
  go_ret
  exact ⟨ret_bool ((unhide HN).trans (unhide HE).symm), _, rfl⟩

end Go.Proofs.YtnjdldbdkafnaaaDoor
namespace Go.Proofs.YtnjdldbdkafnaaaDoor
open Go.RowKit
set_option linter.unusedVariables false
set_option linter.unusedSimpArgs false
set_option maxRecDepth 4000

/-- Bit i of a row, for every int. -/
def getI (xs : List Nat) (i : Int) : Bool := if i < 0 then false else getB xs i.toNat
theorem getI_out {xs : List Nat} {i : Int} (h : ¬ (0 ≤ i ∧ i / 64 < (xs.length : Int))) : getI xs i = false := by
  unfold getI
  split
  · rfl
  · exact getB_out xs _ (by omega)
theorem getI_in {xs : List Nat} {i : Int} (h : 0 ≤ i) : getI xs i = getB xs i.toNat := by
  unfold getI
  rw [if_neg (by omega)]
theorem get_any (a : Option Addr) (n c : Nat) (xs : List Nat) (i : Int) (w : World) (h : RowAt w a n xs) (hn : n ≤ 1048576) (hi : i ≤ 9223372036854775807) :
    Calls Tryd.prog 90 #[.slice a n c, .int .i64 i] w fun e w' => e = .returned (.bool (getI xs i)) ∧ ∃ d, w' = w.drewN d := by
  by_cases hin : 0 ≤ i ∧ i / 64 < (xs.length : Int)
  · rw [getI_in hin.1]
    exact get_in a n c xs i w h hin.1 hi (by rw [← h.1]; exact hin.2) (by omega)
  · rw [getI_out hin]
    exact get_out a n c i w hi (by rw [← h.1]; omega)
theorem getI_nat (xs : List Nat) (k : Nat) : getI xs (k : Int) = getB xs k := by rw [getI_in (by omega), Int.toNat_natCast]
theorem getN_any (a : Option Addr) (n c : Nat) (xs : List Nat) (k : Nat) (w : World) (h : RowAt w a n xs) (hn : n ≤ 1048576) (hk : k ≤ 9223372036854775807) :
    Calls Tryd.prog 90 #[.slice a n c, .int .i64 (k : Int)] w fun e w' => e = .returned (.bool (getB xs k)) ∧ Below w.heap.size w w' := by
  refine (get_any a n c xs k w h hn (by omega)).mono ?_
  rintro e w' ⟨rfl, d, rfl⟩
  rw [getI_nat]
  exact ⟨rfl, below_drewN (Below.refl _ _) d⟩
end Go.Proofs.YtnjdldbdkafnaaaDoor
namespace Go.Proofs.YtnjdldbdkafnaaaDoor
open Go.RowKit
set_option linter.unusedVariables false
set_option linter.unusedSimpArgs false
set_option maxRecDepth 4000

set_option maxHeartbeats 400000 in
theorem xx_any (a b : ByteArray) (w : World) (hn : a.size ≤ 1048576) (hm : b.size ≤ 1048576) :
    Calls Tryd.prog 99 #[.string a, .string b] w fun e w' => e = .returned (.string (xorS a b)) ∧ Below w.heap.size w w' := by
  go_enter Tryd.func99, Tryd.ntmps99
  go_wp2_with fail
  refine (add_any _ [] a w.heap.size w (OwnB.nil _ _) (Nat.le_refl _) (by simp) hn).mono ?_
  rintro e w1 ⟨v, rfl, ho, hb⟩
  rw [nil_xorL] at ho
  go_wp2_with fail
  refine (add_any v (tx a) b w.heap.size w1 ho hb.size (by rw [tx_length]; exact hn) hm).mono ?_
  rintro e w2 ⟨v2, rfl, ho2, hb2⟩
  have hct := ho2.text
  have HB := hide (hb.trans hb2)
  clear ho hb ho2 hb2
  go_wp2
  go_ret
  exact ⟨rfl, unhide HB⟩

/-- No byte but 0. -/
def zeroB (s : ByteArray) : Bool := (tx s).all fun x => x == 0
theorem zeroB_iff (s : ByteArray) : zeroB s = true ↔ ∀ i, (tx s).getD i 0 = 0 := by
  rw [← all_zero_iff]; simp [zeroB]
end Go.Proofs.YtnjdldbdkafnaaaDoor
namespace Go.Proofs.YtnjdldbdkafnaaaDoor

/-- How many of the first k bits are set. -/
def upTo (vs : List Nat) : Nat → Nat
  | 0 => 0
  | k + 1 => upTo vs k + if getB vs k then 1 else 0
theorem upTo_le (vs : List Nat) : ∀ k, upTo vs k ≤ k
  | 0 => Nat.le_refl _
  | k + 1 => by
    have := upTo_le vs k
    unfold upTo
    split <;> omega
theorem upTo_mono (vs : List Nat) (n : Nat) : ∀ d, upTo vs n ≤ upTo vs (n + d)
  | 0 => Nat.le_refl _
  | d + 1 => by
    have := upTo_mono vs n d
    show _ ≤ upTo vs (n + d) + _
    omega
theorem upTo_same (vs : List Nat) (n : Nat) (h : ∀ i, n ≤ i → getB vs i = false) : ∀ d, upTo vs (n + d) = upTo vs n
  | 0 => rfl
  | d + 1 => by
    show upTo vs (n + d) + (if getB vs (n + d) then 1 else 0) = _
    rw [upTo_same vs n h d, h (n + d) (by omega)]
    simp
theorem upTo_more (vs : List Nat) (n d i : Nat) (h1 : n ≤ i) (h2 : i < n + d) (hg : getB vs i = true) : upTo vs n < upTo vs (n + d) := by
  have a := upTo_mono vs n (i - n)
  have b := upTo_mono vs (i + 1) (n + d - (i + 1))
  rw [show n + (i - n) = i from by omega] at a
  rw [show i + 1 + (n + d - (i + 1)) = n + d from by omega] at b
  have c : upTo vs (i + 1) = upTo vs i + 1 := by simp [upTo, hg]
  omega
/-- The bits of one word. -/
def tbs (x : Nat) : Nat → Nat
  | 0 => 0
  | f + 1 => tbs x f + if x.testBit f then 1 else 0
theorem tbs_low (x : Nat) : ∀ f, tbs x (f + 1) = x % 2 + tbs (x / 2) f
  | 0 => by
    have : x.testBit 0 = decide (x % 2 = 1) := Nat.testBit_zero x
    simp only [tbs, this]
    by_cases h : x % 2 = 1
    · simp [h]
    · simp [h]; omega
  | f + 1 => by
    have e : x.testBit (f + 1) = (x / 2).testBit f := by rw [Nat.testBit_succ]
    show tbs x (f + 1) + (if x.testBit (f + 1) then 1 else 0) = x % 2 + (tbs (x / 2) f + if (x / 2).testBit f then 1 else 0)
    rw [tbs_low x f, e]
    omega
theorem popF_tbs : ∀ f x, popF f x = tbs x f
  | 0, x => rfl
  | f + 1, x => by
    rw [tbs_low, ← popF_tbs f (x / 2)]
    rfl
theorem getB_cons_lt (x : Nat) (xs : List Nat) (i : Nat) (h : i < 64) : getB (x :: xs) i = x.testBit i := by
  unfold getB
  rw [show i / 64 = 0 from by omega, show i % 64 = i from by omega]
  rfl
theorem getB_cons_ge (x : Nat) (xs : List Nat) (i : Nat) : getB (x :: xs) (64 + i) = getB xs i := by
  unfold getB
  rw [show (64 + i) / 64 = i / 64 + 1 from by omega, show (64 + i) % 64 = i % 64 from by omega]
  rfl
theorem upTo_head (x : Nat) (xs : List Nat) : ∀ f, f ≤ 64 → upTo (x :: xs) f = tbs x f
  | 0, _ => rfl
  | f + 1, h => by
    show upTo (x :: xs) f + _ = tbs x f + _
    rw [upTo_head x xs f (by omega), getB_cons_lt x xs f (by omega)]
theorem upTo_tail (x : Nat) (xs : List Nat) : ∀ k, upTo (x :: xs) (64 + k) = pop x + upTo xs k
  | 0 => by rw [Nat.add_zero, upTo_head x xs 64 (Nat.le_refl _)]; unfold pop; rw [popF_tbs]; rfl
  | k + 1 => by
    show upTo (x :: xs) (64 + k) + (if getB (x :: xs) (64 + k) then 1 else 0) = pop x + (upTo xs k + if getB xs k then 1 else 0)
    rw [upTo_tail x xs k, getB_cons_ge]
    omega
theorem cnt_upTo : ∀ xs, cnt xs = upTo xs (64 * xs.length)
  | [] => rfl
  | x :: xs => by
    rw [cnt_cons, List.length_cons, show 64 * (xs.length + 1) = 64 + 64 * xs.length from by omega, upTo_tail, cnt_upTo xs]
/-- All bits are among the first n just if no bit is set from n on. -/
theorem upTo_cnt (vs : List Nat) (n : Nat) : upTo vs n = cnt vs ↔ ∀ i, n ≤ i → getB vs i = false := by
  rw [cnt_upTo]
  constructor
  · intro h i hi
    by_cases hl : i < 64 * vs.length
    · cases hg : getB vs i with
      | false => rfl
      | true =>
        have := upTo_more vs n (64 * vs.length - n) i hi (by omega) hg
        rw [show n + (64 * vs.length - n) = 64 * vs.length from by omega] at this
        omega
    · exact getB_out vs i (by omega)
  · intro h
    by_cases hl : n ≤ 64 * vs.length
    · have := upTo_same vs n h (64 * vs.length - n)
      rw [show n + (64 * vs.length - n) = 64 * vs.length from by omega] at this
      omega
    · have := upTo_same vs (64 * vs.length) (fun i hi => getB_out vs i hi) (n - 64 * vs.length)
      rw [show 64 * vs.length + (n - 64 * vs.length) = n from by omega] at this
      omega
theorem getB_nil (i : Nat) : getB [] i = false := getB_out [] i (by simp)
end Go.Proofs.YtnjdldbdkafnaaaDoor
