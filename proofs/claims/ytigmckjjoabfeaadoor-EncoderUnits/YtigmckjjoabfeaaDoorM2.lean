/-
  Contracts of words.Set and bucketlineref01.Set: for every row of at most 2^20 words, every int, both values.
  Contracts of words.from, words.Valid and bucketlineref01.Valid: for every int and every row.
  Contracts of words.Valid, words.Unit and bucketlineref01.Valid, Unit: for every int and every row of at most 2^20 words.
  Contracts of words.Unit, bucketlineref01.Unit: for all ints.
  Contracts of words.Get and bucketlineref01.Get at every int: for every row of at most 2^20 words.
  How many of the first k bits of a row are set; the xor of two rows bit by bit. Plain lists of words; no condition.
  Texts as lists of bytes; slices of bytes of the call's own ('OwnB'); '[]byte(s)', 'string(b)' and 'copy(b, s)' on them. No condition.
  Contracts of xor.add, xor.Xor, bucketlineref02.Xor, xor.zero: for every text of at most 2^20 bytes.
  Contracts of xor.Xor, bucketlineref02.Xor, xor.zero, xor.Sum, bucketlineref02.Sum, xor.Of, bucketlineref02.Of: for texts of at most 2^20 bytes and rows of at most 2^20 words.
-/
import Derived.Test.YtigmckjjoabfeaaDoorM1
import Derived.Lib.SliceRun
import Derived.Laws.IdiomStrings
import Derived.Laws.CopyRow
import Derived.Laws.MakeOwn
import Derived.BigQuiet
namespace Go.Proofs.YtigmckjjoabfeaaDoor
open Go.RowKit
set_option linter.unusedVariables false
set_option maxRecDepth 4000

def setI (xs : List Nat) (i : Int) (on : Bool) : List Nat := if i < 0 then xs else setB xs i.toNat on

theorem or_num (x : Nat) (i : Int) (hx : x < 18446744073709551616) : bits .or .u64 (x : Int) ((2 ^ (i % 64).toNat : Nat) : Int) = ((setW x (i % 64).toNat true : Nat) : Int) := by
  have h : (i % 64).toNat < 64 := by omega
  have h2 : 2 ^ (i % 64).toNat < 2 ^ 64 := Nat.pow_lt_pow_right (by decide) h
  rw [u64_or_nat x _ hx (by omega), or_setW]
theorem andNot_num (x : Nat) (i : Int) (hx : x < 18446744073709551616) : bits .andNot .u64 (x : Int) ((2 ^ (i % 64).toNat : Nat) : Int) = ((setW x (i % 64).toNat false : Nat) : Int) := by
  have h : (i % 64).toNat < 64 := by omega
  have h2 : 2 ^ (i % 64).toNat < 2 ^ 64 := Nat.pow_lt_pow_right (by decide) h
  rw [u64_andNot_nat x _ hx (by omega), andNot_setW x _ hx h]

theorem div_wrap (i : Int) (q : Nat) (h0 : 0 ≤ i) (hi : i ≤ 9223372036854775807) (hq : i / 64 = (q : Int)) : IntKind.i64.wrap (i.tdiv 64) = (q : Int) := by
  rw [Int.tdiv_eq_ediv_of_nonneg h0, hq]
  simp [IntKind.wrap, IntKind.bits, IntKind.signed]
  omega
theorem set_store {w wr : World} {B g cap q : Nat} {xs : List Nat} {i : Int} {on : Bool} (h0 : 0 ≤ i) (hq : i / 64 = (q : Int)) (hx : smalls xs) (hB : B ≤ g) (ho : Own wr B (.slice (some ⟨g, 0, none⟩) xs.length cap) xs) (hb : Below B w wr) :
    Own (wr.setCell ⟨g, q, none⟩ (.int .u64 ((setW (xs.getD q 0) (i % 64).toNat on : Nat) : Int))) B (.slice (some ⟨g, 0, none⟩) xs.length cap) (setI xs i on) ∧
    Below B w (wr.setCell ⟨g, q, none⟩ (.int .u64 ((setW (xs.getD q 0) (i % 64).toNat on : Nat) : Int))) := by
  have h1 := ho.stored q (setW (xs.getD q 0) (i % 64).toNat on) (setW_lt _ _ _ (hx.get _) (by omega))
  refine ⟨?_, hb.setCell (by exact hB) _⟩
  unfold setI setB
  rw [if_neg (by omega), show i.toNat / 64 = q by omega, show i.toNat % 64 = (i % 64).toNat by omega]
  exact h1
theorem Own.drew {w : World} {B : Nat} {v : Value} {xs : List Nat} (h : Own w B v xs) : Own w.drew B v xs := ⟨h.1, h.2.drew⟩
theorem set_stored {w wr : World} {B g cap q : Nat} {xs : List Nat} {i : Int} {on : Bool} (h0 : 0 ≤ i) (hq : i / 64 = (q : Int)) (hx : smalls xs) (hB : B ≤ g) (ho : Own wr B (.slice (some ⟨g, 0, none⟩) xs.length cap) xs) (hb : Below B w wr) :
    Own (wr.setCell ⟨g, q, none⟩ (.int .u64 ((setW (xs.getD q 0) (i % 64).toNat on : Nat) : Int))).drew B (.slice (some ⟨g, 0, none⟩) xs.length cap) (setI xs i on) ∧
    Below B w (wr.setCell ⟨g, q, none⟩ (.int .u64 ((setW (xs.getD q 0) (i % 64).toNat on : Nat) : Int))).drew := by
  obtain ⟨h1, h2⟩ := set_store (on := on) h0 hq hx hB ho hb
  exact ⟨h1.drew, h2.drew⟩
theorem setI_out {xs : List Nat} {i : Int} {on : Bool} (h : ¬ (0 ≤ i ∧ i / 64 < (xs.length : Int))) : setI xs i on = xs := by
  unfold setI
  split
  · rfl
  · exact setB_out xs _ on (by omega)

set_option maxHeartbeats 1000000 in
theorem set_any (a : Option Addr) (n c : Nat) (xs : List Nat) (i : Int) (on : Bool) (w : World) (h : RowAt w a n xs) (hn : n ≤ 1048576) (hi : i ≤ 9223372036854775807) :
    Calls Tryd.prog 55 #[.slice a n c, .int .i64 i, .bool on] w fun e w' => ∃ v, e = .returned v ∧ Own w' w.heap.size v (setI xs i on) ∧ Below w.heap.size w w' := by
  obtain rfl : n = xs.length := h.1.symm
  by_cases hin : 0 ≤ i ∧ i / 64 < (xs.length : Int)
  · obtain ⟨h0, hlt⟩ := hin
    obtain ⟨q, hq⟩ := Int.eq_ofNat_of_zero_le (show 0 ≤ i / 64 by omega)
    have hqw := div_wrap i q h0 hi hq
    have hql : q < xs.length := by omega
    have hql' : (q : Int) < (xs.length : Int) := by omega
    have HM := hide (fun wx => mask_any i h0 hi wx)
    go_enter Tryd.func55, Tryd.ntmps55
    go_wp2_with fail
    refine (clone_any a xs.length c xs _ h (by omega)).mono ?_
    rintro e w1 ⟨v, rfl, ho, hb⟩
    have HO := hide ho
    obtain ⟨g, cap, rfl, hBg, hgs, hcg, hfg⟩ := ho.at (by omega)
    have hcell := hcg q (by omega)
    have hfz := hfg q
    have hx := h.2.1.get q
    have hw := within_pos (some ⟨g, 0, none⟩) xs.length cap i h0 hi w1
    rw [show decide (i / 64 < (xs.length : Int)) = true by simp; omega] at hw
    have HW := hide hw
    clear hw hcg hfg ho hlt
    have R1 := hide (set_stored (on := true) h0 hq h.2.1 hBg (unhide HO) hb)
    have R2 := hide (set_stored (on := false) h0 hq h.2.1 hBg (unhide HO) hb)
    have hor := or_num (xs.getD q 0) i hx
    have han := andNot_num (xs.getD q 0) i hx
    generalize (2 ^ (i % 64).toNat : Nat) = mk at *
    generalize xs.getD q 0 = x at *
    generalize setW x (i % 64).toNat true = y at *
    generalize setW x (i % 64).toNat false = z at *
    clear HO h hb
    cases on with
    | true =>
      go_wp2_with (go_at_call 68; refine (unhide HW).mono ?_; rintro e w' ⟨rfl, rfl⟩)
      go_region_with (go_at_call 69; refine (unhide HM _).mono ?_; rintro e w' ⟨rfl, rfl⟩)
      all_goals go_wp2
      all_goals go_ret
      all_goals exact ⟨_, rfl, (unhide R1).1, (unhide R1).2⟩
    | false =>
      go_wp2_with (go_at_call 68; refine (unhide HW).mono ?_; rintro e w' ⟨rfl, rfl⟩)
      go_region_with (go_at_call 69; refine (unhide HM _).mono ?_; rintro e w' ⟨rfl, rfl⟩)
      all_goals go_wp2
      all_goals go_ret
      all_goals exact ⟨_, rfl, (unhide R2).1, (unhide R2).2⟩
  · have hw : ∀ (a1 : Option Addr) (c1 : Nat) (wx : World), Calls Tryd.prog 68 #[.slice a1 xs.length c1, .int .i64 i] wx fun e w' => e = .returned (.bool false) ∧ w' = wx := by
      intro a1 c1 wx
      by_cases h0 : 0 ≤ i
      · have := within_pos a1 xs.length c1 i h0 hi wx
        rwa [show decide (i / 64 < (xs.length : Int)) = false by simp; omega] at this
      · exact within_neg a1 xs.length c1 i (by omega) wx
    have HW := hide hw
    have HE := hide (setI_out (on := on) hin)
    clear hw hin
    go_enter Tryd.func55, Tryd.ntmps55
    go_wp2_with fail
    refine (clone_any a xs.length c xs _ h (by omega)).mono ?_
    rintro e w1 ⟨v, rfl, ho, hb⟩
    have HO := hide ho
    obtain ⟨a1, c1, rfl, hr⟩ := ho.row
    clear ho hr
    go_wp2_with (go_at_call 68; refine (unhide HW a1 c1 _).mono ?_; rintro e w' ⟨rfl, rfl⟩)
    go_ret
    exact ⟨_, rfl, by rw [unhide HE]; exact unhide HO, hb⟩

theorem rset_num (x k : Nat) (on : Bool) (hx : x < 18446744073709551616) (hk : k < 64) (hne : x.testBit k ≠ on) : bits .xor .u64 (x : Int) ((2 ^ k : Nat) : Int) = ((setW x k on : Nat) : Int) := by
  have h2 : 2 ^ k < 2 ^ 64 := Nat.pow_lt_pow_right (by decide) hk
  rw [u64_xor_nat x _ hx (by omega)]
  unfold setW
  rw [if_neg hne]
theorem setI_same {xs : List Nat} {i : Int} {on : Bool} {q : Nat} (h0 : 0 ≤ i) (hq : i / 64 = (q : Int)) (he : (xs.getD q 0).testBit (i % 64).toNat = on) : setI xs i on = xs := by
  unfold setI setB setW
  rw [if_neg (by omega), show i.toNat / 64 = q by omega, show i.toNat % 64 = (i % 64).toNat by omega, if_pos he]
  apply List.ext_getElem (by simp)
  intro j h1 h2
  rw [List.getElem_set]
  split
  · rename_i e; subst e; simp [List.getD_eq_getElem?_getD, List.getElem?_eq_getElem h2]
  · rfl

set_option maxHeartbeats 1000000 in
theorem rset_any (a : Option Addr) (n c : Nat) (xs : List Nat) (i : Int) (on : Bool) (w : World) (h : RowAt w a n xs) (hn : n ≤ 1048576) (hi : i ≤ 9223372036854775807) :
    Calls Tryd.prog 39 #[.slice a n c, .int .i64 i, .bool on] w fun e w' => ∃ v, e = .returned v ∧ Own w' w.heap.size v (setI xs i on) ∧ Below w.heap.size w w' := by
  obtain rfl : n = xs.length := h.1.symm
  by_cases hin : 0 ≤ i ∧ i / 64 < (xs.length : Int)
  · obtain ⟨h0, hlt⟩ := hin
    obtain ⟨q, hq⟩ := Int.eq_ofNat_of_zero_le (show 0 ≤ i / 64 by omega)
    have hqw := div_wrap i q h0 hi hq
    have hql : q < xs.length := by omega
    have hql' : (q : Int) < (xs.length : Int) := by omega
    have hc0 : decide (i < 0) = false := by simp; omega
    have hG := fun (wx : World) (hr : RowAt wx a xs.length xs) => rget_in a xs.length c xs i wx hr h0 hi hlt (by omega)
    have hge : getB xs i.toNat = (xs.getD q 0).testBit (i % 64).toNat := by
      unfold getB
      rw [show i.toNat / 64 = q by omega, show i.toNat % 64 = (i % 64).toNat by omega]
    rw [hge] at hG
    clear hge
    by_cases hsame : (xs.getD q 0).testBit (i % 64).toNat = on
    · have HE := hide (setI_same h0 hq hsame)
      rw [hsame] at hG
      have HG := hide hG
      clear hG hsame
      go_enter Tryd.func39, Tryd.ntmps39
      go_wp2_with (first | (at_builtin; refine wpList_append_nil rfl _ _ rfl a xs.length c xs rfl rfl h (by omega) ?_; intro v w1 ho hb))
      refine (unhide HG _ (h.below hb)).mono ?_
      rintro e w2 ⟨rfl, rfl⟩
      have hbb : (on == on) = true := by simp
      have HO := hide ho
      have HB := hide hb
      clear ho hb h
      go_wp2
      go_ret
      exact ⟨_, rfl, by rw [unhide HE]; exact unhide HO, unhide HB⟩
    · have HG := hide hG
      have hx := h.2.1.get q
      have hbe : ((xs.getD q 0).testBit (i % 64).toNat == on) = false := by simpa using hsame
      have hxo := rset_num (xs.getD q 0) (i % 64).toNat on hx (by omega) hsame
      have hmk := mask_num i
      clear hG
      go_enter Tryd.func39, Tryd.ntmps39
      go_wp2_with (first | (at_builtin; refine wpList_append_nil rfl _ _ rfl a xs.length c xs rfl rfl h (by omega) ?_; intro v w1 ho hb))
      refine (unhide HG _ (h.below hb)).mono ?_
      rintro e w2 ⟨rfl, rfl⟩
      obtain ⟨g, cap, rfl, hBg, hgs, hcg, hfg⟩ := ho.at (by omega)
      have hcell := hcg q (by omega)
      have hfz := hfg q
      have R1 := hide (set_store (on := on) h0 hq h.2.1 hBg ho hb)
      generalize setW (xs.getD q 0) (i % 64).toNat on = y at *
      generalize (xs.getD q 0).testBit (i % 64).toNat = tb at *
      generalize xs.getD q 0 = x at *
      clear hcg hfg ho hb h HG hsame
      rw [← hmk] at hxo
      clear hmk
      go_wp2
      go_ret
      exact ⟨_, rfl, (unhide R1).1, (unhide R1).2⟩
  · have HE := hide (setI_out (on := on) hin)
    by_cases h0 : 0 ≤ i
    · have hc0 : decide (i < 0) = false := by simp; omega
      have hc1 : decide ((xs.length : Int) ≤ i / 64) = true := by simp; omega
      clear hin
      go_enter Tryd.func39, Tryd.ntmps39
      go_wp2_with (first | (at_builtin; refine wpList_append_nil rfl _ _ rfl a xs.length c xs rfl rfl h (by omega) ?_; intro v w1 ho hb))
      go_ret
      exact ⟨_, rfl, by rw [unhide HE]; exact ho, hb⟩
    · have hc0 : decide (i < 0) = true := by simp; omega
      clear hin
      go_enter Tryd.func39, Tryd.ntmps39
      go_wp2_with (first | (at_builtin; refine wpList_append_nil rfl _ _ rfl a xs.length c xs rfl rfl h (by omega) ?_; intro v w1 ho hb))
      go_ret
      exact ⟨_, rfl, by rw [unhide HE]; exact ho, hb⟩
end Go.Proofs.YtigmckjjoabfeaaDoor
namespace Go.Proofs.YtigmckjjoabfeaaDoor
open Go.RowKit
set_option linter.unusedVariables false
set_option maxRecDepth 4000

def zer (xs : List Nat) : Nat → Nat → List Nat
  | _, 0 => xs
  | o, m + 1 => zer (xs.set o 0) (o + 1) m
theorem zer_length : ∀ (m o : Nat) (xs : List Nat), (zer xs o m).length = xs.length
  | 0, _, _ => rfl
  | m + 1, o, xs => by rw [zer, zer_length m]; simp
theorem zer_getD : ∀ (m o : Nat) (xs : List Nat) (j : Nat), (zer xs o m).getD j 0 = if o ≤ j ∧ j < o + m then 0 else xs.getD j 0
  | 0, o, xs, j => by simp [zer]; omega
  | m + 1, o, xs, j => by
    rw [zer, zer_getD m (o + 1), getD_set]
    by_cases h1 : o + 1 ≤ j ∧ j < o + 1 + m
    · rw [if_pos h1, if_pos (by omega)]
    · rw [if_neg h1]
      by_cases h2 : j = o
      · subst h2
        rw [if_pos (c := j ≤ j ∧ j < j + (m + 1)) (by omega)]
        split
        · rfl
        · exact getD_of_le (by omega)
      · rw [if_neg (by omega), if_neg (by omega)]
theorem Own.cleared {B g cap : Nat} : ∀ (m o : Nat) (xs : List Nat) (w : World), Own w B (.slice (some ⟨g, 0, none⟩) xs.length cap) xs →
    Own (w.setCells g o (List.replicate m (.int .u64 0))) B (.slice (some ⟨g, 0, none⟩) xs.length cap) (zer xs o m)
  | 0, _, _, _, h => h
  | m + 1, o, xs, w, h => by
    have h1 := h.stored o 0 (by decide)
    have h2 := Own.cleared m (o + 1) (xs.set o 0) (w.setCell ⟨g, o, none⟩ (.int .u64 0)) (by simpa using h1)
    rw [List.replicate_succ]
    have h3 : (xs.set o 0).length = xs.length := by simp
    rw [h3] at h2
    exact h2
theorem Below.cells {B g : Nat} {w0 : World} (hg : B ≤ g) : ∀ (vs : List Value) (o : Nat) (w : World), Below B w0 w → Below B w0 (w.setCells g o vs)
  | [], _, _, h => h
  | v :: r, o, w, h => Below.cells hg r (o + 1) (w.setCell ⟨g, o, none⟩ v) (h.setCell (by exact hg) v)

/-- The mask from bit r on. -/
def fmask (r : Nat) : Nat := 18446744073709551615 * 2 ^ r % 18446744073709551616
theorem fmask_lt (r : Nat) : fmask r < 18446744073709551616 := Nat.mod_lt _ (by decide)
theorem zero_u64 (w : World) : (zeroValue 55).run Tryd.prog w = .ok (.int .u64 0) w := by kernel_rfl

theorem clear_run {w1 : World} {B g cap : Nat} {xs : List Nat} {q : Nat} (ho : Own w1 B (.slice (some ⟨g, 0, none⟩) xs.length cap) xs) (hq : q ≤ xs.length) :
    ∀ ty, (Builtin.clear_ #[38] ty #[.slice (some ⟨g, 0, none⟩) q cap]).run Tryd.prog w1 = .ok (.tuple #[]) (w1.setCells g 0 (List.replicate q (.int .u64 0))) := by
  intro ty
  by_cases e : q = 0
  · subst e
    simp [Builtin.clear_, run_underlying Tryd.underlying38, World.setCells]
  · obtain ⟨g', cap', hv, _, _, hcg, hfg⟩ := ho.at (by omega)
    simp only [Value.slice.injEq, Option.some.injEq, Addr.mk.injEq, and_true, true_and] at hv
    obtain ⟨rfl, rfl⟩ := hv
    exact Lib.run_clear_slice w1 38 55 ty (.int .u64 0) Tryd.underlying38 zero_u64 rfl rfl g 0 q cap (by omega) (fun j hj => by rw [Nat.zero_add, hcg j (by omega)]; rfl) (fun j hj => by rw [Nat.zero_add]; exact hfg j)

theorem from_num (x r : Nat) (hx : x < 18446744073709551616) : bits .and .u64 (x : Int) (IntKind.u64.wrap (18446744073709551615 * 2 ^ r)) = ((x &&& fmask r : Nat) : Int) := by
  have e : IntKind.u64.wrap (18446744073709551615 * 2 ^ r) = ((fmask r : Nat) : Int) := by
    rw [IntKind.wrap_u64]; unfold fmask; simp
  rw [e, u64_and_nat x _ hx (fmask_lt r)]


end Go.Proofs.YtigmckjjoabfeaaDoor
namespace Go.Proofs.YtigmckjjoabfeaaDoor
open Go.RowKit
set_option linter.unusedVariables false
set_option maxRecDepth 4000

/-- A row of k blocks: just so many words, no bit beyond. -/
def ValidP (k : Int) (xs : List Nat) : Prop := 0 < xs.length ∧ xs.length = sizeOfK k ∧ ∀ i, k.toNat ≤ i → getB xs i = false

theorem sizeOfK_pos {k : Int} (h : 0 < sizeOfK k) : 1 ≤ k ∧ k ≤ 128 ∧ sizeOfK k = ((k + 63) / 64).toNat := by
  unfold sizeOfK at *
  split at h
  · omega
  · rename_i h1
    rw [if_neg h1]
    omega
theorem fmask_bit (r t : Nat) (ht : t < 64) : (fmask r).testBit t = decide (r ≤ t) := by
  unfold fmask
  rw [show (18446744073709551616 : Nat) = 2 ^ 64 from rfl, Nat.testBit_mod_two_pow, Nat.testBit_mul_two_pow, show (18446744073709551615 : Nat) = 2 ^ 64 - 1 from rfl, Nat.testBit_two_pow_sub_one]
  simp [ht]
  omega
theorem and_fmask (x r : Nat) (hx : x < 18446744073709551616) : (x &&& fmask r = 0) ↔ ∀ t, t < 64 → r ≤ t → x.testBit t = false := by
  constructor
  · intro h t ht hr
    have h1 : (x &&& fmask r).testBit t = false := by rw [h]; simp
    rw [Nat.testBit_and, fmask_bit r t ht] at h1
    simpa [hr] using h1
  · intro h
    apply Nat.eq_of_testBit_eq
    intro t
    rw [Nat.testBit_and, Nat.zero_testBit]
    by_cases ht : t < 64
    · rw [fmask_bit r t ht]
      by_cases hr : r ≤ t
      · simp [h t ht hr]
      · simp [hr]
    · have : x.testBit t = false := Nat.testBit_lt_two_pow (Nat.lt_of_lt_of_le (show x < 2 ^ 64 by omega) (Nat.pow_le_pow_right (by decide) (by omega)))
      simp [this]
theorem valid_all {k : Int} {xs : List Nat} (h0 : 0 < xs.length) (hs : xs.length = sizeOfK k) (hq : k / 64 = (xs.length : Int)) : cnt (zer xs 0 xs.length) = 0 ∧ ValidP k xs := by
  constructor
  · apply cnt_zero_of
    intro i hi
    rw [zer_length] at hi
    rw [zer_getD, if_pos (by omega)]
  · exact ⟨h0, hs, fun i hi => getB_out xs i (by omega)⟩
theorem valid_lt {k : Int} {xs : List Nat} {q : Nat} (hx : smalls xs) (h0 : 0 < xs.length) (hs : xs.length = sizeOfK k) (hk : 0 ≤ k) (hq : k / 64 = (q : Int)) (hqn : q < xs.length) :
    cnt ((zer xs 0 q).set q (xs.getD q 0 &&& fmask (k % 64).toNat)) = 0 ↔ ValidP k xs := by
  have hp := sizeOfK_pos (k := k) (by omega)
  have hqe : q + 1 = xs.length := by omega
  have hy : smalls ((zer xs 0 q).set q (xs.getD q 0 &&& fmask (k % 64).toNat)) := by
    have hz : smalls (zer xs 0 q) := by
      intro z hz
      obtain ⟨i, hi, rfl⟩ := List.getElem_of_mem hz
      have h1 := zer_getD q 0 xs i
      have h2 : (zer xs 0 q).getD i 0 = (zer xs 0 q)[i] := by simp [List.getD_eq_getElem?_getD, List.getElem?_eq_getElem hi]
      have h3 := hx.get i
      rw [h2] at h1
      show (zer xs 0 q)[i] < 18446744073709551616
      rw [h1]
      split
      · decide
      · exact h3
    exact hz.set _ _ (Nat.lt_of_le_of_lt Nat.and_le_left (hx.get q))
  have e1 : cnt ((zer xs 0 q).set q (xs.getD q 0 &&& fmask (k % 64).toNat)) = 0 ↔ xs.getD q 0 &&& fmask (k % 64).toNat = 0 := by
    constructor
    · intro h
      have h1 := (all_zero_iff _).1 (zero_of_cnt _ hy h) q
      rw [getD_set, if_pos ⟨rfl, by rw [zer_length]; exact hqn⟩] at h1
      exact h1
    · intro h
      apply cnt_zero_of
      intro i hi
      rw [List.length_set, zer_length] at hi
      rw [getD_set]
      split
      · exact h
      · rw [zer_getD, if_pos]
        rename_i hne
        rw [zer_length] at hne
        omega
  rw [e1, and_fmask _ _ (hx.get q)]
  constructor
  · intro h
    refine ⟨h0, hs, fun i hi => ?_⟩
    by_cases hi2 : 64 * xs.length ≤ i
    · exact getB_out xs i hi2
    · unfold getB
      rw [show i / 64 = q by omega]
      exact h (i % 64) (by omega) (by omega)
  · intro h t ht hr
    have := h.2.2 (64 * q + t) (by omega)
    rwa [getB_at xs q t ht] at this

/-- A Bool comes back that tells whether P holds. -/
def RetB (e : Ending) (P : Prop) : Prop := ∃ b, e = .returned (.bool b) ∧ (b = true ↔ P)
theorem RetB.no {P : Prop} (h : ¬ P) : RetB (.returned (.bool false)) P := ⟨false, rfl, by simp [h]⟩
theorem RetB.yes {P : Prop} (h : P) : RetB (.returned (.bool true)) P := ⟨true, rfl, by simp [h]⟩

set_option maxHeartbeats 1000000 in
theorem rvalid_any (a : Option Addr) (n c : Nat) (xs : List Nat) (k : Int) (w : World) (h : RowAt w a n xs) :
    Calls Tryd.prog 42 #[.int .i64 k, .slice a n c] w fun e w' => RetB e (ValidP k xs) ∧ w' = w := by
  obtain rfl : n = xs.length := h.1.symm
  have HZ := hide (rsize_any k)
  by_cases h0 : sizeOfK k = 0
  · have hb0 : (((sizeOfK k : Nat) : Int) == 0) = true := by rw [h0]; rfl
    have HF := hide (show ¬ ValidP k xs from fun hv => by have := hv.1; have := hv.2.1; omega)
    clear h h0
    go_enter Tryd.func42, Tryd.ntmps42
    go_wp2_with (go_at_call 38; refine (unhide HZ _).mono ?_; rintro e w' ⟨rfl, rfl⟩)
    go_ret
    exact ⟨RetB.no (unhide HF), rfl⟩
  · have hb0 : (((sizeOfK k : Nat) : Int) == 0) = false := by simp only [beq_eq_false_iff_ne, ne_eq]; omega
    by_cases hs : xs.length = sizeOfK k
    · have hp := sizeOfK_pos (k := k) (by omega)
      have hb1 : ((xs.length : Int) != ((sizeOfK k : Nat) : Int)) = false := by rw [hs]; simp
      have hn2 : xs.length ≤ 1048576 := by omega
      have HS := hide hs
      have hl0 : 0 < xs.length := by omega
      obtain ⟨hp1, hp2, hp3⟩ := hp
      have HP := hide hp3
      clear hs h0 hp3
      go_enter Tryd.func42, Tryd.ntmps42
      go_wp2_with (go_at_call 38; refine (unhide HZ _).mono ?_; rintro e w' ⟨rfl, rfl⟩)
      go_loop [5] (fun t => ∃ i : Nat, k.toNat ≤ i ∧ i ≤ 64 * xs.length ∧ t = .int .i64 (i : Int) ∧ Hid (∀ j, k.toNat ≤ j → j < i → getB xs j = false)) (fun t => 64 * xs.length - (intOf t).toNat)
      case atStart => exact ⟨k.toNat, Nat.le_refl _, by have := unhide HS; have := unhide HP; omega, by rw [show ((k.toNat : Nat) : Int) = k by omega], hide (fun j h1 h2 => by omega)⟩
      case round =>
        obtain ⟨i, hi1, hi2, rfl, HL⟩ := hrel
        by_cases hlt : i < 64 * xs.length
        · have hlt' : (i : Int) < 64 * (xs.length : Int) := by omega
          have hG := rget_in a xs.length c xs (i : Int) _ h (by omega) (by omega) (by omega) (by omega)
          rw [Int.toNat_natCast] at hG
          by_cases hg : getB xs i = true
          · rw [hg] at hG
            have HG := hide hG
            have HF := hide (show ¬ ValidP k xs from fun hv => by have := hv.2.2 i hi1; rw [hg] at this; cases this)
            clear hG h hg
            go_wp2_with (go_at_call 44; refine (unhide HG).mono ?_; rintro e w' ⟨rfl, rfl⟩)
            go_ret
            exact ⟨RetB.no (unhide HF), rfl⟩
          · have hg' : getB xs i = false := by simpa using hg
            rw [hg'] at hG
            have HG := hide hG
            have HL' := hide (show ∀ j, k.toNat ≤ j → j < i + 1 → getB xs j = false from fun j h1 h2 => by
              by_cases e : j = i
              · rw [e]; exact hg'
              · exact unhide HL j h1 (by omega))
            clear hG h hg hg'
            go_wp2_with (go_at_call 44; refine (unhide HG).mono ?_; rintro e w' ⟨rfl, rfl⟩)
            go_round
            case rel => exact ⟨i + 1, by omega, by omega, by go_num, HL'⟩
            case measure => simp [intOf]; omega
        · have hge : ¬ ((i : Int) < 64 * (xs.length : Int)) := by omega
          have HF := hide (show ValidP k xs from ⟨hl0, unhide HS, fun j hj => by
            by_cases e : j < i
            · exact unhide HL j hj e
            · exact getB_out xs j (by omega)⟩)
          clear h
          go_wp2
          go_ret
          exact ⟨RetB.yes (unhide HF), rfl⟩
    · have hb1 : ((xs.length : Int) != ((sizeOfK k : Nat) : Int)) = true := by rw [bne_iff_ne]; omega
      have HF := hide (show ¬ ValidP k xs from fun hv => hs hv.2.1)
      clear h h0 hs
      go_enter Tryd.func42, Tryd.ntmps42
      go_wp2_with (go_at_call 38; refine (unhide HZ _).mono ?_; rintro e w' ⟨rfl, rfl⟩)
      go_ret
      exact ⟨RetB.no (unhide HF), rfl⟩
end Go.Proofs.YtigmckjjoabfeaaDoor
namespace Go.Proofs.YtigmckjjoabfeaaDoor
open Go.RowKit
set_option linter.unusedVariables false
set_option maxRecDepth 4000

/-- The row of one block. -/
def unitL (k i : Int) : List Nat := if i < 0 ∨ k ≤ i then [] else setI (List.replicate (sizeOfK k) 0) i true

theorem own_made {w w' : World} {n : Nat} (h : w'.ownsRow w.heap.size 55 1 (.slice (some ⟨w.heap.size, 0, none⟩) n n) n (madeCells (Value.int .u64 0).cells (n * 1)).toList) :
    Own w' w.heap.size (.slice (some ⟨w.heap.size, 0, none⟩) n n) (List.replicate n 0) := by
  refine ⟨fun x hx => ?_, ?_⟩
  · rw [(List.mem_replicate.1 hx).2]; show 0 < 18446744073709551616; decide
  · have e : cellsU (List.replicate n 0) = (madeCells (Value.int .u64 0).cells (n * 1)).toList := by
      rw [show (Value.int .u64 0).cells = #[Value.int .u64 0] from rfl, toList_madeCells_one]
      simp [cellsU]
    rw [e, List.length_replicate]
    exact h
theorem sizeOfK_le (k : Int) : sizeOfK k ≤ 2 := by
  unfold sizeOfK
  split
  · omega
  · omega


set_option maxHeartbeats 1000000 in
theorem runit_any (k i : Int) (w : World) (hi : i ≤ 9223372036854775807) :
    Calls Tryd.prog 22 #[.int .i64 k, .int .i64 i] w fun e w' => ∃ v, e = .returned v ∧ Own w' w.heap.size v (unitL k i) ∧ Below w.heap.size w w' := by
  have HZ := hide (rsize_any k)
  by_cases h00 : sizeOfK k = 0
  · have hb0 : (((sizeOfK k : Nat) : Int) == 0) = true := by rw [h00]; rfl
    have HU := hide (show unitL k i = [] from by
      unfold unitL
      split
      · rfl
      · rw [h00]; unfold setI; split
        · rfl
        · simp [setB])
    clear h00
    go_enter Tryd.func22, Tryd.ntmps22
    go_wp2_with (go_at_call 38; refine (unhide HZ _).mono ?_; rintro e w' ⟨rfl, hw⟩; obtain rfl := hw.symm)
    go_ret
    exact ⟨_, rfl, by rw [unhide HU]; exact Own.nil _ _, Below.refl _ _⟩
  · have hb0 : (((sizeOfK k : Nat) : Int) == 0) = false := by simp only [beq_eq_false_iff_ne, ne_eq]; omega
    by_cases hin : i < 0 ∨ k ≤ i
    · have HU := hide (show unitL k i = [] from by unfold unitL; rw [if_pos hin])
      by_cases h1 : i < 0
      · have hd1 : decide (i < 0) = true := by simp; omega
        clear hin
        go_enter Tryd.func22, Tryd.ntmps22
        go_wp2_with (go_at_call 38; refine (unhide HZ _).mono ?_; rintro e w' ⟨rfl, hw⟩; obtain rfl := hw.symm)
        go_ret
        exact ⟨_, rfl, by rw [unhide HU]; exact Own.nil _ _, Below.refl _ _⟩
      · have hd1 : decide (i < 0) = false := by simp; omega
        have hd2 : decide (k ≤ i) = true := by simp; omega
        clear hin
        go_enter Tryd.func22, Tryd.ntmps22
        go_wp2_with (go_at_call 38; refine (unhide HZ _).mono ?_; rintro e w' ⟨rfl, hw⟩; obtain rfl := hw.symm)
        go_ret
        exact ⟨_, rfl, by rw [unhide HU]; exact Own.nil _ _, Below.refl _ _⟩
    · have HU := hide (show unitL k i = setI (List.replicate (sizeOfK k) 0) i true from by unfold unitL; rw [if_neg hin])
      have hd1 : decide (i < 0) = false := by simp; omega
      have hd2 : decide (k ≤ i) = false := by simp; omega
      have hs := sizeOfK_le k
      obtain ⟨i0, hi0, hz0, hz1, hz2⟩ := info_parts info_u64
      obtain ⟨wm, hrun, hown, hgrow⟩ := run_make_full (P := Tryd.prog) w w.heap.size 38 55 i0 (.int .u64 0) 1 Tryd.underlying38 hi0 hz0 hz1 .i64 .i64 (sizeOfK k) (by rw [hz2]; omega) (by unfold maxLen; omega) (Nat.le_refl _)
      have ho := own_made hown
      have hb : Below w.heap.size w wm := (Below.refl _ _).grown hgrow (Nat.le_refl _) (fun k hk => by cases hk)
      obtain ⟨a1, c1, hv, hr⟩ := ho.row
      rw [List.length_replicate] at hv hr
      have hr1 : RowAt wm (some ⟨w.heap.size, 0, none⟩) (sizeOfK k) (List.replicate (sizeOfK k) 0) := by
        simp only [Value.slice.injEq] at hv
        rw [hv.1]; exact hr
      clear hin hown hgrow ho hv hr
      go_enter Tryd.func22, Tryd.ntmps22
      go_wp2_with (go_at_call 38; refine (unhide HZ _).mono ?_; rintro e w' ⟨rfl, hw⟩; obtain rfl := hw.symm)
      refine (rset_any _ _ _ _ _ _ _ hr1 (by omega) hi).mono ?_
      rintro e w2 ⟨v, rfl, ho2, hb2⟩
      have HO := hide ho2
      have HB := hide (hb.trans (hb2.mono hb.size))
      clear ho2 hb2 hr1
      have hbs := hb.size
      go_wp2
      go_ret
      exact ⟨_, rfl, by rw [unhide HU]; exact (unhide HO).mono hbs, unhide HB⟩
end Go.Proofs.YtigmckjjoabfeaaDoor
namespace Go.Proofs.YtigmckjjoabfeaaDoor
open Go.RowKit
set_option linter.unusedVariables false
set_option maxRecDepth 4000

/-- Bit i of a row, for every int. -/
def getI (xs : List Nat) (i : Int) : Bool := if i < 0 then false else getB xs i.toNat
theorem getI_out {xs : List Nat} {i : Int} (h : ¬ (0 ≤ i ∧ i / 64 < (xs.length : Int))) : getI xs i = false := by
  unfold getI
  split
  · rfl
  · exact getB_out xs _ (by omega)
theorem getI_in {xs : List Nat} {i : Int} (h : 0 ≤ i) : getI xs i = getB xs i.toNat := by
  unfold getI
  rw [if_neg (by omega)]
theorem get_any (a : Option Addr) (n c : Nat) (xs : List Nat) (i : Int) (w : World) (h : RowAt w a n xs) (hn : n ≤ 1048576) (hi : i ≤ 9223372036854775807) :
    Calls Tryd.prog 60 #[.slice a n c, .int .i64 i] w fun e w' => e = .returned (.bool (getI xs i)) ∧ ∃ d, w' = w.drewN d := by
  by_cases hin : 0 ≤ i ∧ i / 64 < (xs.length : Int)
  · rw [getI_in hin.1]
    exact get_in a n c xs i w h hin.1 hi (by rw [← h.1]; exact hin.2) (by omega)
  · rw [getI_out hin]
    exact get_out a n c i w hi (by rw [← h.1]; omega)
theorem rget_any (a : Option Addr) (n c : Nat) (xs : List Nat) (i : Int) (w : World) (h : RowAt w a n xs) (hn : n ≤ 1048576) (hi : i ≤ 9223372036854775807) :
    Calls Tryd.prog 44 #[.slice a n c, .int .i64 i] w fun e w' => e = .returned (.bool (getI xs i)) ∧ w' = w := by
  by_cases hin : 0 ≤ i ∧ i / 64 < (xs.length : Int)
  · rw [getI_in hin.1]
    exact rget_in a n c xs i w h hin.1 hi (by rw [← h.1]; exact hin.2) (by omega)
  · rw [getI_out hin]
    exact rget_out a n c i w hi (by rw [← h.1]; omega)
theorem getI_nat (xs : List Nat) (k : Nat) : getI xs (k : Int) = getB xs k := by rw [getI_in (by omega), Int.toNat_natCast]
theorem getN_any (a : Option Addr) (n c : Nat) (xs : List Nat) (k : Nat) (w : World) (h : RowAt w a n xs) (hn : n ≤ 1048576) (hk : k ≤ 9223372036854775807) :
    Calls Tryd.prog 60 #[.slice a n c, .int .i64 (k : Int)] w fun e w' => e = .returned (.bool (getB xs k)) ∧ Below w.heap.size w w' := by
  refine (get_any a n c xs k w h hn (by omega)).mono ?_
  rintro e w' ⟨rfl, d, rfl⟩
  rw [getI_nat]
  exact ⟨rfl, below_drewN (Below.refl _ _) d⟩
theorem rgetN_any (a : Option Addr) (n c : Nat) (xs : List Nat) (k : Nat) (w : World) (h : RowAt w a n xs) (hn : n ≤ 1048576) (hk : k ≤ 9223372036854775807) :
    Calls Tryd.prog 44 #[.slice a n c, .int .i64 (k : Int)] w fun e w' => e = .returned (.bool (getB xs k)) ∧ w' = w := by
  refine (rget_any a n c xs k w h hn (by omega)).mono ?_
  rintro e w' ⟨rfl, rfl⟩
  rw [getI_nat]
  exact ⟨rfl, rfl⟩
end Go.Proofs.YtigmckjjoabfeaaDoor
namespace Go.Proofs.YtigmckjjoabfeaaDoor

/-- How many of the first k bits are set. -/
def upTo (vs : List Nat) : Nat → Nat
  | 0 => 0
  | k + 1 => upTo vs k + if getB vs k then 1 else 0
theorem upTo_le (vs : List Nat) : ∀ k, upTo vs k ≤ k
  | 0 => Nat.le_refl _
  | k + 1 => by
    have := upTo_le vs k
    unfold upTo
    split <;> omega
theorem upTo_mono (vs : List Nat) (n : Nat) : ∀ d, upTo vs n ≤ upTo vs (n + d)
  | 0 => Nat.le_refl _
  | d + 1 => by
    have := upTo_mono vs n d
    show _ ≤ upTo vs (n + d) + _
    omega
theorem upTo_same (vs : List Nat) (n : Nat) (h : ∀ i, n ≤ i → getB vs i = false) : ∀ d, upTo vs (n + d) = upTo vs n
  | 0 => rfl
  | d + 1 => by
    show upTo vs (n + d) + (if getB vs (n + d) then 1 else 0) = _
    rw [upTo_same vs n h d, h (n + d) (by omega)]
    simp
theorem upTo_more (vs : List Nat) (n d i : Nat) (h1 : n ≤ i) (h2 : i < n + d) (hg : getB vs i = true) : upTo vs n < upTo vs (n + d) := by
  have a := upTo_mono vs n (i - n)
  have b := upTo_mono vs (i + 1) (n + d - (i + 1))
  rw [show n + (i - n) = i from by omega] at a
  rw [show i + 1 + (n + d - (i + 1)) = n + d from by omega] at b
  have c : upTo vs (i + 1) = upTo vs i + 1 := by simp [upTo, hg]
  omega
/-- The bits of one word. -/
def tbs (x : Nat) : Nat → Nat
  | 0 => 0
  | f + 1 => tbs x f + if x.testBit f then 1 else 0
theorem tbs_low (x : Nat) : ∀ f, tbs x (f + 1) = x % 2 + tbs (x / 2) f
  | 0 => by
    have : x.testBit 0 = decide (x % 2 = 1) := Nat.testBit_zero x
    simp only [tbs, this]
    by_cases h : x % 2 = 1
    · simp [h]
    · simp [h]; omega
  | f + 1 => by
    have e : x.testBit (f + 1) = (x / 2).testBit f := by rw [Nat.testBit_succ]
    show tbs x (f + 1) + (if x.testBit (f + 1) then 1 else 0) = x % 2 + (tbs (x / 2) f + if (x / 2).testBit f then 1 else 0)
    rw [tbs_low x f, e]
    omega
theorem popF_tbs : ∀ f x, popF f x = tbs x f
  | 0, x => rfl
  | f + 1, x => by
    rw [tbs_low, ← popF_tbs f (x / 2)]
    rfl
theorem getB_cons_lt (x : Nat) (xs : List Nat) (i : Nat) (h : i < 64) : getB (x :: xs) i = x.testBit i := by
  unfold getB
  rw [show i / 64 = 0 from by omega, show i % 64 = i from by omega]
  rfl
theorem getB_cons_ge (x : Nat) (xs : List Nat) (i : Nat) : getB (x :: xs) (64 + i) = getB xs i := by
  unfold getB
  rw [show (64 + i) / 64 = i / 64 + 1 from by omega, show (64 + i) % 64 = i % 64 from by omega]
  rfl
theorem upTo_head (x : Nat) (xs : List Nat) : ∀ f, f ≤ 64 → upTo (x :: xs) f = tbs x f
  | 0, _ => rfl
  | f + 1, h => by
    show upTo (x :: xs) f + _ = tbs x f + _
    rw [upTo_head x xs f (by omega), getB_cons_lt x xs f (by omega)]
theorem upTo_tail (x : Nat) (xs : List Nat) : ∀ k, upTo (x :: xs) (64 + k) = pop x + upTo xs k
  | 0 => by rw [Nat.add_zero, upTo_head x xs 64 (Nat.le_refl _)]; unfold pop; rw [popF_tbs]; rfl
  | k + 1 => by
    show upTo (x :: xs) (64 + k) + (if getB (x :: xs) (64 + k) then 1 else 0) = pop x + (upTo xs k + if getB xs k then 1 else 0)
    rw [upTo_tail x xs k, getB_cons_ge]
    omega
theorem cnt_upTo : ∀ xs, cnt xs = upTo xs (64 * xs.length)
  | [] => rfl
  | x :: xs => by
    rw [cnt_cons, List.length_cons, show 64 * (xs.length + 1) = 64 + 64 * xs.length from by omega, upTo_tail, cnt_upTo xs]
/-- All bits are among the first n just if no bit is set from n on. -/
theorem upTo_cnt (vs : List Nat) (n : Nat) : upTo vs n = cnt vs ↔ ∀ i, n ≤ i → getB vs i = false := by
  rw [cnt_upTo]
  constructor
  · intro h i hi
    by_cases hl : i < 64 * vs.length
    · cases hg : getB vs i with
      | false => rfl
      | true =>
        have := upTo_more vs n (64 * vs.length - n) i hi (by omega) hg
        rw [show n + (64 * vs.length - n) = 64 * vs.length from by omega] at this
        omega
    · exact getB_out vs i (by omega)
  · intro h
    by_cases hl : n ≤ 64 * vs.length
    · have := upTo_same vs n h (64 * vs.length - n)
      rw [show n + (64 * vs.length - n) = 64 * vs.length from by omega] at this
      omega
    · have := upTo_same vs (64 * vs.length) (fun i hi => getB_out vs i hi) (n - 64 * vs.length)
      rw [show 64 * vs.length + (n - 64 * vs.length) = n from by omega] at this
      omega
theorem getB_xorL (a b : List Nat) (i : Nat) : getB (xorL a b) i = (getB a i ^^ getB b i) := by
  unfold getB
  rw [xorL_getD, Nat.testBit_xor]
theorem getB_nil (i : Nat) : getB [] i = false := getB_out [] i (by simp)
end Go.Proofs.YtigmckjjoabfeaaDoor
namespace Go.Proofs.YtigmckjjoabfeaaDoor
open Go.RowKit
set_option linter.unusedVariables false
set_option maxRecDepth 4000

/-- The bytes of a text. -/
def tx (s : ByteArray) : List Nat := s.data.toList.map fun b => b.toNat
/-- The text of bytes. -/
def st (xs : List Nat) : ByteArray := ⟨(xs.map UInt8.ofNat).toArray⟩
def bytes (xs : List Nat) : Prop := ∀ x ∈ xs, x < 256
theorem tx_length (s : ByteArray) : (tx s).length = s.size := by cases s; simp [tx, ByteArray.size]
theorem tx_bytes (s : ByteArray) : bytes (tx s) := by
  intro x hx
  obtain ⟨b, _, rfl⟩ := List.mem_map.1 hx
  exact b.toNat_lt
theorem st_tx (s : ByteArray) : st (tx s) = s := by
  cases s with
  | mk d =>
    unfold st tx
    congr 1
    rw [List.map_map]
    have e : ((fun x => UInt8.ofNat x) ∘ fun b : UInt8 => b.toNat) = id := by funext b; simp
    rw [e]; simp
theorem tx_st {xs : List Nat} (h : bytes xs) : tx (st xs) = xs := by
  unfold tx st
  simp only [List.map_map]
  conv => rhs; rw [← List.map_id xs]
  apply List.map_congr_left
  intro x hx
  have := h x hx
  simp [Nat.mod_eq_of_lt this]
theorem tx_inj {a b : ByteArray} (h : tx a = tx b) : a = b := by rw [← st_tx a, ← st_tx b, h]
theorem bytes_take {xs : List Nat} (h : bytes xs) (k : Nat) : bytes (xs.take k) := fun x hx => h x (List.mem_of_mem_take hx)
theorem bytes_drop {xs : List Nat} (h : bytes xs) (k : Nat) : bytes (xs.drop k) := fun x hx => h x (List.mem_of_mem_drop hx)
theorem bytes.get {xs : List Nat} (h : bytes xs) (i : Nat) : xs.getD i 0 < 256 := by
  rw [List.getD_eq_getElem?_getD]
  cases hx : xs[i]? with
  | none => simp
  | some x => exact h x (List.mem_of_getElem? hx)
theorem tx_get (s : ByteArray) (k : Nat) (h : k < s.size) : s[k].toNat = (tx s).getD k 0 := by
  cases s with
  | mk d =>
    have hd : k < d.size := h
    simp only [tx, List.getD_eq_getElem?_getD, List.getElem?_map, Array.getElem?_toList, Array.getElem?_eq_getElem hd]
    rfl
theorem bytes.set {xs : List Nat} (h : bytes xs) (i x : Nat) (hx : x < 256) : bytes (xs.set i x) := by
  intro y hy
  rcases List.mem_or_eq_of_mem_set hy with h1 | rfl
  · exact h y h1
  · exact hx
theorem xorB_lt {x y : Nat} (hx : x < 256) (hy : y < 256) : x ^^^ y < 256 := Nat.xor_lt_two_pow (n := 8) (by omega) (by omega)
theorem xorTo_bytes {xs ys : List Nat} (hx : bytes xs) (hy : bytes ys) (k : Nat) : bytes (xorTo xs ys k) := by
  intro z hz
  unfold xorTo at hz
  obtain ⟨i, _, rfl⟩ := List.mem_map.1 hz
  show (if i < k then xs.getD i 0 ^^^ ys.getD i 0 else xs.getD i 0) < 256
  split
  · exact xorB_lt (hx.get i) (hy.get i)
  · exact hx.get i
theorem xorL_bytes {xs ys : List Nat} (hx : bytes xs) (hy : bytes ys) : bytes (xorL xs ys) := by
  intro z hz
  unfold xorL at hz
  obtain ⟨i, _, rfl⟩ := List.mem_map.1 hz
  exact xorB_lt (hx.get i) (hy.get i)
theorem bytes_nil : bytes [] := fun _ h => by cases h
/-- The xor of two texts. -/
def xorS (a b : ByteArray) : ByteArray := st (xorL (tx a) (tx b))
theorem tx_xorS (a b : ByteArray) : tx (xorS a b) = xorL (tx a) (tx b) := tx_st (xorL_bytes (tx_bytes a) (tx_bytes b))
theorem xorS_size (a b : ByteArray) : (xorS a b).size = max a.size b.size := by rw [← tx_length, tx_xorS, xorL_length, tx_length, tx_length]
theorem xorL_nil (a : List Nat) : xorL a [] = a := by
  apply ext_getD
  · rw [xorL_length]; simp
  · intro i hi; rw [xorL_getD]; simp
theorem nil_xorL (a : List Nat) : xorL [] a = a := by rw [xorL_comm, xorL_nil]
theorem xorL_assoc (a b c : List Nat) : xorL (xorL a b) c = xorL a (xorL b c) := by
  apply ext_getD
  · simp only [xorL_length]; omega
  · intro i hi; simp only [xorL_getD]; exact Nat.xor_assoc _ _ _
theorem eq_texts (a b : ByteArray) : (a.toList == b.toList) = decide (a = b) := by
  rw [ByteArray.toList_eq, ByteArray.toList_eq, Bool.eq_iff_iff]
  simp only [beq_iff_eq, decide_eq_true_eq, Array.toList_inj]
  constructor
  · intro h; cases a; cases b; simp_all
  · intro h; rw [h]

/-- A slice of bytes of the call's own. -/
def OwnB (w : World) (B : Nat) (v : Value) (xs : List Nat) : Prop :=
  bytes xs ∧ ((v = .slice none 0 0 ∧ xs = []) ∨ ∃ g cap, v = .slice (some ⟨g, 0, none⟩) xs.length cap ∧ B ≤ g ∧ g < w.heap.size ∧
    (∀ i, i < xs.length → w.cell? ⟨g, i, none⟩ = some (.int .u8 ((xs.getD i 0 : Nat) : Int))) ∧ ∀ i, i < xs.length → w.frozen? ⟨g, i, none⟩ = false)
theorem OwnB.nil (w : World) (B : Nat) : OwnB w B (.slice none 0 0) [] := ⟨bytes_nil, .inl ⟨rfl, rfl⟩⟩
theorem OwnB.slice {w : World} {B : Nat} {v : Value} {xs : List Nat} (h : OwnB w B v xs) : ∃ a c, v = .slice a xs.length c := by
  rcases h.2 with ⟨rfl, rfl⟩ | ⟨g, cap, rfl, _⟩
  · exact ⟨_, _, rfl⟩
  · exact ⟨_, _, rfl⟩
theorem OwnB.at {w : World} {B : Nat} {v : Value} {xs : List Nat} (h : OwnB w B v xs) (hn : 0 < xs.length) :
    ∃ g cap, v = .slice (some ⟨g, 0, none⟩) xs.length cap ∧ B ≤ g ∧ g < w.heap.size ∧ (∀ i, i < xs.length → w.cell? ⟨g, i, none⟩ = some (.int .u8 ((xs.getD i 0 : Nat) : Int))) ∧ ∀ i, i < xs.length → w.frozen? ⟨g, i, none⟩ = false := by
  rcases h.2 with ⟨_, rfl⟩ | h
  · simp at hn
  · exact h
theorem OwnB.mono {w : World} {B B' : Nat} {v : Value} {xs : List Nat} (h : OwnB w B v xs) (hB : B' ≤ B) : OwnB w B' v xs := by
  refine ⟨h.1, ?_⟩
  rcases h.2 with h0 | ⟨g, cap, h1, hb, r⟩
  · exact .inl h0
  · exact .inr ⟨g, cap, h1, Nat.le_trans hB hb, r⟩
theorem OwnB.below {w w' : World} {B : Nat} {v : Value} {xs : List Nat} (h : OwnB w B v xs) (hb : Below w.heap.size w w') : OwnB w' B v xs := by
  refine ⟨h.1, ?_⟩
  rcases h.2 with h0 | ⟨g, cap, h1, hg, hgg, hc, hf⟩
  · exact .inl h0
  · exact .inr ⟨g, cap, h1, hg, Nat.lt_of_lt_of_le hgg hb.size, fun i hi => ((bcell hb).1 g i hgg).trans (hc i hi), fun i hi => ((bcell hb).2 g i hgg).trans (hf i hi)⟩
theorem OwnB.stored {w : World} {B g cap : Nat} {xs : List Nat} (h : OwnB w B (.slice (some ⟨g, 0, none⟩) xs.length cap) xs) (i x : Nat) (hx : x < 256) :
    OwnB (w.setCell ⟨g, i, none⟩ (.int .u8 (x : Int))) B (.slice (some ⟨g, 0, none⟩) xs.length cap) (xs.set i x) := by
  refine ⟨h.1.set i x hx, .inr ?_⟩
  rcases h.2 with ⟨h1, _⟩ | ⟨g', cap', h1, hg, hgg, hc, hf⟩
  · cases h1
  · simp only [Value.slice.injEq, Option.some.injEq, Addr.mk.injEq, and_true, true_and] at h1
    obtain ⟨rfl, rfl⟩ := h1
    refine ⟨g, cap, by rw [List.length_set], hg, by simpa using hgg, fun j hj => ?_, fun j hj => by rw [World.frozen?_setCell]; exact hf j (by simpa using hj)⟩
    rw [List.length_set] at hj
    rw [getD_set]
    by_cases e : j = i
    · subst e
      rw [if_pos ⟨rfl, hj⟩]
      exact World.cell?_setCell_same _ _ _ (hc j hj)
    · rw [if_neg (fun h => e h.1)]
      have hne : (⟨g, i, none⟩ : Addr) ≠ ⟨g, j, none⟩ := fun h => e (by injection h with h1 h2; exact h2.symm)
      exact (World.cell?_setCell_other (h := hne) ..).trans (hc j hj)
theorem OwnB.drew {w : World} {B : Nat} {v : Value} {xs : List Nat} (h : OwnB w B v xs) : OwnB w.drew B v xs := by
  refine ⟨h.1, ?_⟩
  rcases h.2 with h0 | ⟨g, cap, h1, hg, hgg, hc, hf⟩
  · exact .inl h0
  · exact .inr ⟨g, cap, h1, hg, hgg, hc, hf⟩

theorem xb_round {w wr : World} {B g cap : Nat} {xs ys : List Nat} {k z : Nat} (hx : bytes xs) (hy : bytes ys) (hk : k < xs.length) (hB : B ≤ g)
    (ho : OwnB wr B (.slice (some ⟨g, 0, none⟩) xs.length cap) (xorTo xs ys k)) (hb : Below B w wr) (hz : z = xs.getD k 0 ^^^ ys.getD k 0) :
    OwnB (wr.setCell ⟨g, k, none⟩ (.int .u8 (z : Int))) B (.slice (some ⟨g, 0, none⟩) xs.length cap) (xorTo xs ys (k + 1)) ∧ Below B w (wr.setCell ⟨g, k, none⟩ (.int .u8 (z : Int))) := by
  have hl := xorTo_length xs ys k
  subst hz
  rw [← hl] at ho
  have h1 := ho.stored k (xs.getD k 0 ^^^ ys.getD k 0) (xorB_lt (hx.get k) (hy.get k))
  rw [xorTo_succ xs ys k hk, hl] at h1
  exact ⟨h1, hb.setCell (by exact hB) _⟩
theorem xb_roundd {w wr : World} {B g cap : Nat} {xs ys : List Nat} {k z : Nat} (hx : bytes xs) (hy : bytes ys) (hk : k < xs.length) (hB : B ≤ g)
    (ho : OwnB wr B (.slice (some ⟨g, 0, none⟩) xs.length cap) (xorTo xs ys k)) (hb : Below B w wr) (hz : z = xs.getD k 0 ^^^ ys.getD k 0) :
    OwnB (wr.setCell ⟨g, k, none⟩ (.int .u8 (z : Int))).drew B (.slice (some ⟨g, 0, none⟩) xs.length cap) (xorTo xs ys (k + 1)) ∧ Below B w (wr.setCell ⟨g, k, none⟩ (.int .u8 (z : Int))).drew := by
  obtain ⟨h1, h2⟩ := xb_round hx hy hk hB ho hb hz
  exact ⟨h1.drew, h2.drew⟩

/-- 'string(b)' of a slice of one's own. -/
theorem OwnB.text {w : World} {B : Nat} {v : Value} {xs : List Nat} (h : OwnB w B v xs) : (convert 91 9 v).run Tryd.prog w = .ok (.string (st xs)) w := by
  rcases h.2 with ⟨rfl, rfl⟩ | ⟨g, cap, rfl, hg, hgg, hc, hf⟩
  · rw [run_convert_bytes_string w 91 9 5 none 0 0 Tryd.underlying91 Tryd.underlying5 Tryd.underlying9]
    rfl
  · have := run_convert_bytes_back (P := Tryd.prog) w 91 9 5 ⟨g, 0, none⟩ cap (xs.map UInt8.ofNat) Tryd.underlying91 Tryd.underlying5 Tryd.underlying9 (fun j hj => by
      have hj' : j < xs.length := by simpa using hj
      have e : (⟨g, 0, none⟩ : Addr).add j = ⟨g, j, none⟩ := by unfold Addr.add; split <;> simp_all
      rw [e, hc j hj']
      have hb := h.1.get j
      simp only [List.getElem_map]
      rw [List.getD_eq_getElem?_getD, List.getElem?_eq_getElem hj'] at hb ⊢
      simp only [Option.getD_some] at hb ⊢
      rw [UInt8.toNat_ofNat_of_lt' hb])
    rw [List.length_map] at this
    exact this

theorem info_u8 : (Tryd.prog.info? 5).map (fun i => (i.zero, i.size, i.bytes)) = some (some (.int .u8 0), 1, 1) := by kernel_rfl
/-- 'copy(b, s)', b new and as long as s. -/
theorem run_copy_text_of {P : Program} (w : World) (dT sT ty elem : TypeId) (g n cap : Nat) (s : ByteArray) (cur : Array Value) (t : TypeId) (hu : P.underlying dT = some (.slice elem)) (hs : (P.info? elem).map (·.size) = some 1)
    (hg : w.heap[g]? = some (.cells cur t (0, 0))) (hc : cur.size = s.size) (hn : n = s.size) :
    (Builtin.copy_ #[dT, sT] ty #[.slice (some ⟨g, 0, none⟩) n cap, .string s]).run P w = .ok (goInt s.size) (w.setRow g (s.data.map fun b => Value.int .u8 (b.toNat : Int))) := by
  subst hn
  have hlen : (s.data.toList.map fun b => Value.int .u8 (b.toNat : Int)).length = s.size := by rw [List.length_map]; rfl
  have hst := run_storeCells_at P g 0 t (s.data.toList.map fun b => Value.int .u8 (b.toNat : Int)) 0 cur w hg (by rw [hlen, hc]; omega)
    (fun v hv => by obtain ⟨b, _, rfl⟩ := List.mem_map.1 hv; rfl)
  have hd : (List.take (0 + 0) cur.toList ++ (s.data.toList.map fun b => Value.int .u8 (b.toNat : Int)) ++ List.drop (0 + 0 + (s.data.toList.map fun b => Value.int .u8 (b.toNat : Int)).length) cur.toList).toArray = s.data.map fun b => Value.int .u8 (b.toNat : Int) := by
    rw [List.drop_eq_nil_of_le (by rw [hlen, Array.length_toList, hc]; omega)]
    apply Array.ext'
    simp
  rw [hd] at hst
  have hmin : Nat.min s.size s.size = s.size := Nat.min_self _
  have hex : List.take s.size (s.data.toList.map fun b => Value.int .u8 (b.toNat : Int)) = s.data.toList.map fun b => Value.int .u8 (b.toNat : Int) := List.take_of_length_le (by rw [hlen]; omega)
  cases hq : P.info? elem with
  | none => simp [hq] at hs
  | some i =>
    simp [Builtin.copy_, run_underlying hu, Builtin.lenOf, Builtin.firstCells, sizeOf, typeInfo, hq, hmin, hex, hst]
theorem ret_str {a b : ByteArray} (h : a = b) : Ending.returned (.string a) = .returned (.string b) := by rw [h]

/-- '[]byte(s)'. -/
theorem bytes_text (w : World) (s : ByteArray) : ∃ w' cap, (convert 9 91 (.string s)).run Tryd.prog w = .ok (.slice (some ⟨w.heap.size, 0, none⟩) s.size cap) w' ∧
    OwnB w' w.heap.size (.slice (some ⟨w.heap.size, 0, none⟩) s.size cap) (tx s) ∧ Below w.heap.size w w' := by
  refine ⟨_, _, run_bytes_of_string w 9 91 5 s Tryd.underlying9 Tryd.underlying91 Tryd.underlying5, ⟨tx_bytes s, .inr ⟨w.heap.size, _, by rw [tx_length], Nat.le_refl _, by simp, fun i hi => ?_, fun i hi => ?_⟩⟩, ?_⟩
  · have hi' : i < s.size := by rwa [tx_length] at hi
    have h1 := World.cell?_alloc_mark w.drew (bytesRow s (grownCap w s.size 0 5)) 5 ((bytesRow s (grownCap w s.size 0 5)).size, (bytesRow s (grownCap w s.size 0 5)).size + 1) i
    refine h1.trans ?_
    rw [bytesRow_at s _ i hi', ← tx_get s i hi']
    rfl
  · have hi' : i < s.size := by rwa [tx_length] at hi
    have h1 := World.frozen?_alloc_mark w.drew (bytesRow s (grownCap w s.size 0 5)) 5 (bytesRow s (grownCap w s.size 0 5)).size ((bytesRow s (grownCap w s.size 0 5)).size + 1) i
    refine h1.trans ?_
    have h2 : s.size ≤ (bytesRow s (grownCap w s.size 0 5)).size := by
      unfold bytesRow
      rw [Array.size_append, Array.size_map]
      exact Nat.le_add_right _ _
    have : ¬ (bytesRow s (grownCap w s.size 0 5)).size ≤ i := by omega
    simp [this]
  · exact ((Below.refl _ _).drew).alloc (Nat.le_refl _) _
theorem tx_append (a b : ByteArray) : tx (a ++ b) = tx a ++ tx b := by
  unfold tx
  rw [ByteArray.data_append, Array.toList_append, List.map_append]
theorem st_len (xs : List Nat) : (st xs).size = xs.length := by simp [st, ByteArray.size]
theorem tx_cut (s : ByteArray) (a b : Nat) : tx (s.extract a b) = ((tx s).drop a).take (b - a) := by
  unfold tx
  rw [ByteArray.data_extract, Array.toList_extract, List.extract_eq_take_drop, List.map_take, List.map_drop]
theorem min_run (x y : Nat) (ts : Array TypeId) (t : TypeId) (w : World) : (Builtin.min_ ts t #[.int .i64 (x : Int), .int .i64 (y : Int)]).run Tryd.prog w = .ok (.int .i64 ((min x y : Nat) : Int)) w := by
  rw [run_min_int2]
  congr 2
  split <;> omega
end Go.Proofs.YtigmckjjoabfeaaDoor
namespace Go.Proofs.YtigmckjjoabfeaaDoor
open Go.RowKit
set_option linter.unusedVariables false
set_option maxRecDepth 4000

theorem copy_text (w : World) (g : Nat) (t : ByteArray) (cur : Array Value) (e : TypeId) (hg : w.heap[g]? = some (.cells cur e (0, 0))) (hc : cur.size = t.size)
    (B : Nat) (w0 : World) (hb : Below B w0 w) (hBg : B ≤ g) :
    ∃ w', (Builtin.copy_ #[91, 9] 3 #[.slice (some ⟨g, 0, none⟩) t.size t.size, .string t]).run Tryd.prog w = .ok (goInt t.size) w' ∧ OwnB w' B (.slice (some ⟨g, 0, none⟩) t.size t.size) (tx t) ∧ Below B w0 w' := by
  obtain ⟨i0, hi0, hz0, hz1, hz2⟩ := info_parts info_u8
  refine ⟨_, run_copy_text_of w 91 9 3 5 g t.size t.size t cur e Tryd.underlying91 (by rw [hi0]; simp [hz1]) hg hc rfl, ⟨tx_bytes t, .inr ⟨g, t.size, by rw [tx_length], hBg, ?_, fun i hi => ?_, fun i hi => ?_⟩⟩, ?_⟩
  · simpa using (Array.getElem?_eq_some_iff.1 hg).1
  · rw [cell_setRow_same w g i _ _ _ _ hg]
    have hi' : i < t.size := by rwa [tx_length] at hi
    rw [← tx_get t i hi']
    have : i < t.data.size := hi'
    simp only [Array.getElem?_map, Array.getElem?_eq_getElem this]
    rfl
  · simp [World.frozen?, setRow_heap w g _ _ _ _ hg]
  · exact hb.trans ⟨rfl, rfl, rfl, by simp, fun k hk => setRow_other w g k _ (by omega)⟩

set_option maxHeartbeats 1000000 in
theorem add_any (v : Value) (xs : List Nat) (s : ByteArray) (B : Nat) (w : World) (h : OwnB w B v xs) (hB : B ≤ w.heap.size) (hn : xs.length ≤ 1048576) (hm : s.size ≤ 1048576) :
    Calls Tryd.prog 61 #[v, .string s] w fun e w' => ∃ v', e = .returned v' ∧ OwnB w' B v' (xorL xs (tx s)) ∧ Below B w w' := by
  obtain ⟨va, vc, rfl⟩ := h.slice
  have hts := tx_length s
  by_cases hle : s.size ≤ xs.length
  · have hle' : decide ((s.size : Int) ≤ (xs.length : Int)) = true := by simp; omega
    go_enter Tryd.func61, Tryd.ntmps61
    go_wp2
    go_loopw [16] (fun i wr => ∃ k : Nat, k ≤ s.size ∧ i = .int .i64 k ∧ Hid (OwnB wr B (.slice va xs.length vc) (xorTo xs (tx s) k)) ∧ Hid (Below B w wr)) (fun i _ => s.size - (intOf i).toNat)
    case atStart => exact ⟨0, Nat.zero_le _, rfl, hide (by rw [xorTo_zero]; exact h), hide (Below.refl _ _)⟩
    case round =>
      obtain ⟨k, hk, rfl, HO, HB⟩ := hrel
      by_cases hlt : k < s.size
      · have hkn : k < xs.length := by omega
        have hkn' : (k : Int) < (xs.length : Int) := by omega
        have hlt' : (k : Int) < (s.size : Int) := by omega
        obtain ⟨g, cap, hv, hBg, hgs, hcg, hfg⟩ := (unhide HO).at (by rw [xorTo_length]; omega)
        rw [xorTo_length] at hv
        simp only [Value.slice.injEq, true_and] at hv
        obtain ⟨rfl, rfl⟩ := hv
        have hcell := hcg k (by rw [xorTo_length]; omega)
        have hfz := hfg k (by rw [xorTo_length]; omega)
        rw [xorTo_getD xs (tx s) k k (by omega), if_neg (by omega)] at hcell
        have hxo := u8_xor_nat (xs.getD k 0) s[k].toNat (h.1.get k) s[k].toNat_lt
        have R := hide (xb_roundd (z := xs.getD k 0 ^^^ s[k].toNat) h.1 (tx_bytes s) (by omega) hBg (unhide HO) (unhide HB) (by rw [tx_get s k hlt]))
        generalize xs.getD k 0 = x at *
        clear hcg hfg h HO hle hle'
        go_wp2
        go_region
        all_goals go_wp2
        go_roundw
        case rel => exact ⟨k + 1, by omega, by go_num, hide (unhide R).1, hide (unhide R).2⟩
        case measure => simp [intOf]; omega
      · have hke : k = (tx s).length := by omega
        rw [hke, xorTo_all xs (tx s) (by omega)] at HO
        clear h
        go_wp2
        go_ret
        exact ⟨_, rfl, unhide HO, unhide HB⟩
  · have hle' : decide ((s.size : Int) ≤ (xs.length : Int)) = false := by simp; omega
    obtain ⟨i0, hi0, hz0, hz1, hz2⟩ := info_parts info_u8
    have hrun := run_make (P := Tryd.prog) w 91 5 i0 (.int .u8 0) Tryd.underlying91 hi0 hz0 .i64 .i64 (s.size : Int) (s.size : Int) (by omega) (by omega) (by rw [hz2]; omega) (by omega)
    simp only [Int.toNat_natCast] at hrun
    have hgw : (w.alloc (.cells (madeCells (Value.int .u8 0).cells (s.size * i0.size)) 5)).heap[w.heap.size]? = some (.cells (madeCells (Value.int .u8 0).cells (s.size * i0.size)) 5 (0, 0)) := by
      show (w.heap.push _)[w.heap.size]? = _
      simp
    have hcs : (madeCells (Value.int .u8 0).cells (s.size * i0.size)).size = s.size := by rw [size_madeCells, hz1, Nat.mul_one]
    have hbw : Below w.heap.size w (w.alloc (.cells (madeCells (Value.int .u8 0).cells (s.size * i0.size)) 5)) := (Below.refl _ _).alloc (Nat.le_refl _) _
    generalize madeCells (Value.int .u8 0).cells (s.size * i0.size) = cur at *
    generalize w.alloc (.cells cur 5) = wm at *
    obtain ⟨w1, hcp, ho, hb⟩ := copy_text wm w.heap.size s cur 5 hgw hcs w.heap.size w hbw (Nat.le_refl _)
    have HO1 := hide ho
    have HB1 := hide hb
    clear ho hb hgw hcs hbw
    go_enter Tryd.func61, Tryd.ntmps61
    go_wp2
    go_loopw [38] (fun i wr => ∃ k : Nat, k ≤ xs.length ∧ i = .int .i64 k ∧ Hid (OwnB wr w.heap.size (.slice (some ⟨w.heap.size, 0, none⟩) s.size s.size) (xorTo (tx s) xs k)) ∧ Hid (Below w.heap.size w wr)) (fun i _ => xs.length - (intOf i).toNat)
    case atStart => exact ⟨0, Nat.zero_le _, rfl, hide (by rw [xorTo_zero]; exact unhide HO1), HB1⟩
    case round =>
      obtain ⟨k, hk, rfl, HO, HB⟩ := hrel
      clear HO1 HB1 hcp hrun
      by_cases hlt : k < xs.length
      · have hkn : k < s.size := by omega
        have hkn' : (k : Int) < (s.size : Int) := by omega
        have hlt' : (k : Int) < (xs.length : Int) := by omega
        obtain ⟨g', cap', hv', _, _, hcg', _⟩ := (h.below (unhide HB)).at (by omega)
        simp only [Value.slice.injEq, true_and] at hv'
        obtain ⟨rfl, rfl⟩ := hv'
        have hcell' := hcg' k hlt
        obtain ⟨g, cap, hv, hBg, hgs, hcg, hfg⟩ := (unhide HO).at (by rw [xorTo_length]; omega)
        rw [xorTo_length, hts] at hv
        simp only [Value.slice.injEq, Option.some.injEq, Addr.mk.injEq, and_true, true_and] at hv
        obtain ⟨rfl, rfl⟩ := hv
        have hcell := hcg k (by rw [xorTo_length]; omega)
        have hfz := hfg k (by rw [xorTo_length]; omega)
        rw [xorTo_getD (tx s) xs k k (by omega), if_neg (by omega)] at hcell
        have hxo := u8_xor_nat ((tx s).getD k 0) (xs.getD k 0) ((tx_bytes s).get k) (h.1.get k)
        rw [← hts] at HO
        have R := hide (xb_round (tx_bytes s) h.1 (by omega) hBg (unhide HO) (unhide HB) rfl)
        rw [hts] at R
        generalize (tx s).getD k 0 = x at *
        generalize xs.getD k 0 = y at *
        clear hcg hfg hcg' h HO hle hle'
        go_wp2
        go_roundw
        case rel => exact ⟨k + 1, by omega, by go_num, hide (unhide R).1, hide (unhide R).2⟩
        case measure => simp [intOf]; omega
      · have hke : k = xs.length := by omega
        rw [hke, xorTo_all (tx s) xs (by omega), xorL_comm] at HO
        clear h
        go_wp2
        go_ret
        exact ⟨_, rfl, (unhide HO).mono hB, (unhide HB).mono hB⟩
end Go.Proofs.YtigmckjjoabfeaaDoor
namespace Go.Proofs.YtigmckjjoabfeaaDoor
open Go.RowKit
set_option linter.unusedVariables false
set_option maxRecDepth 4000


theorem rx_swap (a b : ByteArray) : xorS a b = xorS b a := by unfold xorS; rw [xorL_comm]

set_option maxHeartbeats 1000000 in
theorem rx_any (a b : ByteArray) (w : World) (hn : a.size ≤ 1048576) (hm : b.size ≤ 1048576) :
    Calls Tryd.prog 45 #[.string a, .string b] w fun e w' => e = .returned (.string (xorS a b)) ∧ Below w.heap.size w w' := by
  by_cases hsw : a.size < b.size
  · have hge : decide ((a.size : Int) < (b.size : Int)) = true := by simp; omega
    obtain ⟨w1, cap, hcv, ho, hb⟩ := bytes_text w b
    have HO1 := hide ho
    have HB1 := hide hb
    clear ho hb
    have hta := tx_length a
    have htb := tx_length b
    go_enter Tryd.func45, Tryd.ntmps45
    go_wp2
    go_loopw [6] (fun i wr => ∃ k : Nat, k ≤ a.size ∧ i = .int .i64 k ∧ Hid (OwnB wr w.heap.size (.slice (some ⟨w.heap.size, 0, none⟩) b.size cap) (xorTo (tx b) (tx a) k)) ∧ Hid (Below w.heap.size w wr)) (fun i _ => a.size - (intOf i).toNat)
    case atStart => exact ⟨0, Nat.zero_le _, rfl, hide (by rw [xorTo_zero]; exact unhide HO1), HB1⟩
    case round =>
      obtain ⟨k, hk, rfl, HO, HB⟩ := hrel
      clear HO1 HB1 hcv
      by_cases hlt : k < a.size
      · have hkn : k < b.size := by omega
        have hkn' : (k : Int) < (b.size : Int) := by omega
        have hlt' : (k : Int) < (a.size : Int) := by omega
        obtain ⟨g, cap', hv, hBg, hgs, hcg, hfg⟩ := (unhide HO).at (by rw [xorTo_length]; omega)
        rw [xorTo_length, htb] at hv
        simp only [Value.slice.injEq, Option.some.injEq, Addr.mk.injEq, and_true, true_and] at hv
        obtain ⟨rfl, rfl⟩ := hv
        have hcell := hcg k (by rw [xorTo_length]; omega)
        have hfz := hfg k (by rw [xorTo_length]; omega)
        rw [xorTo_getD (tx b) (tx a) k k (by omega), if_neg (by omega)] at hcell
        have hxo := u8_xor_nat ((tx b).getD k 0) a[k].toNat ((tx_bytes b).get k) a[k].toNat_lt
        rw [← htb] at HO
        have R := hide (xb_roundd (z := (tx b).getD k 0 ^^^ a[k].toNat) (tx_bytes b) (tx_bytes a) (by omega) hBg (unhide HO) (unhide HB) (by rw [tx_get a k hlt]))
        rw [htb] at R
        generalize (tx b).getD k 0 = x at *
        clear hcg hfg HO hge hsw
        go_wp2
        go_region
        all_goals go_wp2
        go_roundw
        case rel => exact ⟨k + 1, by omega, by go_num, hide (unhide R).1, hide (unhide R).2⟩
        case measure => simp [intOf]; omega
      · have hke : k = (tx a).length := by omega
        rw [hke, xorTo_all (tx b) (tx a) (by omega)] at HO
        have hct := (unhide HO).text
        go_wp2
        go_ret
        exact ⟨ret_str (by unfold xorS; rw [xorL_comm]), unhide HB⟩
  · have hge : decide ((a.size : Int) < (b.size : Int)) = false := by simp; omega
    obtain ⟨w1, cap, hcv, ho, hb⟩ := bytes_text w a
    have HO1 := hide ho
    have HB1 := hide hb
    clear ho hb
    have hta := tx_length a
    have htb := tx_length b
    go_enter Tryd.func45, Tryd.ntmps45
    go_wp2
    go_loopw [6] (fun i wr => ∃ k : Nat, k ≤ b.size ∧ i = .int .i64 k ∧ Hid (OwnB wr w.heap.size (.slice (some ⟨w.heap.size, 0, none⟩) a.size cap) (xorTo (tx a) (tx b) k)) ∧ Hid (Below w.heap.size w wr)) (fun i _ => b.size - (intOf i).toNat)
    case atStart => exact ⟨0, Nat.zero_le _, rfl, hide (by rw [xorTo_zero]; exact unhide HO1), HB1⟩
    case round =>
      obtain ⟨k, hk, rfl, HO, HB⟩ := hrel
      clear HO1 HB1 hcv
      by_cases hlt : k < b.size
      · have hkn : k < a.size := by omega
        have hkn' : (k : Int) < (a.size : Int) := by omega
        have hlt' : (k : Int) < (b.size : Int) := by omega
        obtain ⟨g, cap', hv, hBg, hgs, hcg, hfg⟩ := (unhide HO).at (by rw [xorTo_length]; omega)
        rw [xorTo_length, hta] at hv
        simp only [Value.slice.injEq, Option.some.injEq, Addr.mk.injEq, and_true, true_and] at hv
        obtain ⟨rfl, rfl⟩ := hv
        have hcell := hcg k (by rw [xorTo_length]; omega)
        have hfz := hfg k (by rw [xorTo_length]; omega)
        rw [xorTo_getD (tx a) (tx b) k k (by omega), if_neg (by omega)] at hcell
        have hxo := u8_xor_nat ((tx a).getD k 0) b[k].toNat ((tx_bytes a).get k) b[k].toNat_lt
        rw [← hta] at HO
        have R := hide (xb_roundd (z := (tx a).getD k 0 ^^^ b[k].toNat) (tx_bytes a) (tx_bytes b) (by omega) hBg (unhide HO) (unhide HB) (by rw [tx_get b k hlt]))
        rw [hta] at R
        generalize (tx a).getD k 0 = x at *
        clear hcg hfg HO hge hsw
        go_wp2
        go_region
        all_goals go_wp2
        go_roundw
        case rel => exact ⟨k + 1, by omega, by go_num, hide (unhide R).1, hide (unhide R).2⟩
        case measure => simp [intOf]; omega
      · have hke : k = (tx b).length := by omega
        rw [hke, xorTo_all (tx a) (tx b) (by omega)] at HO
        have hct := (unhide HO).text
        go_wp2
        go_ret
        exact ⟨rfl, unhide HB⟩

/-- No byte but 0. -/
def zeroB (s : ByteArray) : Bool := (tx s).all fun x => x == 0
theorem zeroB_iff (s : ByteArray) : zeroB s = true ↔ ∀ i, (tx s).getD i 0 = 0 := by
  rw [← all_zero_iff]; simp [zeroB]
theorem zeroS_step {s : ByteArray} {k : Nat} (h : ∀ j, j < k → (tx s).getD j 0 = 0) (h0 : (tx s).getD k 0 = 0) : ∀ j, j < k + 1 → (tx s).getD j 0 = 0 := by
  intro j hj
  by_cases e : j = k
  · rw [e]; exact h0
  · exact h j (by omega)
end Go.Proofs.YtigmckjjoabfeaaDoor
