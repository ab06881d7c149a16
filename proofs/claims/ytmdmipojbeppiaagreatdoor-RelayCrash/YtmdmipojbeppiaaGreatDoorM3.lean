/-
  Contracts of words.Set and bucketlineref01.Set: for every row of at most 2^20 words, every int, both values.
  Contracts of words.from, words.Valid and bucketlineref01.Valid: for every int and every row.
  Contracts of words.Valid, words.Unit and bucketlineref01.Valid, Unit: for every int and every row of at most 2^20 words.
  Whether a row is one of k blocks, as a Bool.
  Slices of rows of one's own, and 'append' of one row; 'append(own, make([]uint64, m)...)'.
  Contract of xor.vecs.
  Rows in memory, on: their cores, slices of rows that are made and filled, or that two slices share; contract of bucketlineref02.All, of equal rows.
-/
import Derived.Test.YtmdmipojbeppiaaGreatDoorM1
import Derived.Lib.SliceRun
import Derived.Test.YtmdmipojbeppiaaGreatDoorM2
import Derived.OwnWalk
import Derived.Lib.AppendZeros
import Derived.Lib.AppendZerosOnto
namespace Go.Proofs.YtmdmipojbeppiaaGreatDoor
open Go.RowKit
set_option linter.unusedVariables false
set_option maxRecDepth 4000

def setI (xs : List Nat) (i : Int) (on : Bool) : List Nat := if i < 0 then xs else setB xs i.toNat on

theorem or_num (x : Nat) (i : Int) (hx : x < 18446744073709551616) : bits .or .u64 (x : Int) ((2 ^ (i % 64).toNat : Nat) : Int) = ((setW x (i % 64).toNat true : Nat) : Int) := by
  have h : (i % 64).toNat < 64 := by omega
  have h2 : 2 ^ (i % 64).toNat < 2 ^ 64 := Nat.pow_lt_pow_right (by decide) h
  rw [u64_or_nat x _ hx (by omega), or_setW]
theorem andNot_num (x : Nat) (i : Int) (hx : x < 18446744073709551616) : bits .andNot .u64 (x : Int) ((2 ^ (i % 64).toNat : Nat) : Int) = ((setW x (i % 64).toNat false : Nat) : Int) := by
  have h : (i % 64).toNat < 64 := by omega
  have h2 : 2 ^ (i % 64).toNat < 2 ^ 64 := Nat.pow_lt_pow_right (by decide) h
  rw [u64_andNot_nat x _ hx (by omega), andNot_setW x _ hx h]

theorem div_wrap (i : Int) (q : Nat) (h0 : 0 ≤ i) (hi : i ≤ 9223372036854775807) (hq : i / 64 = (q : Int)) : IntKind.i64.wrap (i.tdiv 64) = (q : Int) := by
  rw [Int.tdiv_eq_ediv_of_nonneg h0, hq]
  simp [IntKind.wrap, IntKind.bits, IntKind.signed]
  omega
theorem set_store {w wr : World} {B g cap q : Nat} {xs : List Nat} {i : Int} {on : Bool} (h0 : 0 ≤ i) (hq : i / 64 = (q : Int)) (hx : smalls xs) (hB : B ≤ g) (ho : Own wr B (.slice (some ⟨g, 0, none⟩) xs.length cap) xs) (hb : Below B w wr) :
    Own (wr.setCell ⟨g, q, none⟩ (.int .u64 ((setW (xs.getD q 0) (i % 64).toNat on : Nat) : Int))) B (.slice (some ⟨g, 0, none⟩) xs.length cap) (setI xs i on) ∧
    Below B w (wr.setCell ⟨g, q, none⟩ (.int .u64 ((setW (xs.getD q 0) (i % 64).toNat on : Nat) : Int))) := by
  have h1 := ho.stored q (setW (xs.getD q 0) (i % 64).toNat on) (setW_lt _ _ _ (hx.get _) (by omega))
  refine ⟨?_, hb.setCell (by exact hB) _⟩
  unfold setI setB
  rw [if_neg (by omega), show i.toNat / 64 = q by omega, show i.toNat % 64 = (i % 64).toNat by omega]
  exact h1
theorem Own.drew {w : World} {B : Nat} {v : Value} {xs : List Nat} (h : Own w B v xs) : Own w.drew B v xs := ⟨h.1, h.2.drew⟩
theorem set_stored {w wr : World} {B g cap q : Nat} {xs : List Nat} {i : Int} {on : Bool} (h0 : 0 ≤ i) (hq : i / 64 = (q : Int)) (hx : smalls xs) (hB : B ≤ g) (ho : Own wr B (.slice (some ⟨g, 0, none⟩) xs.length cap) xs) (hb : Below B w wr) :
    Own (wr.setCell ⟨g, q, none⟩ (.int .u64 ((setW (xs.getD q 0) (i % 64).toNat on : Nat) : Int))).drew B (.slice (some ⟨g, 0, none⟩) xs.length cap) (setI xs i on) ∧
    Below B w (wr.setCell ⟨g, q, none⟩ (.int .u64 ((setW (xs.getD q 0) (i % 64).toNat on : Nat) : Int))).drew := by
  obtain ⟨h1, h2⟩ := set_store (on := on) h0 hq hx hB ho hb
  exact ⟨h1.drew, h2.drew⟩
theorem setI_out {xs : List Nat} {i : Int} {on : Bool} (h : ¬ (0 ≤ i ∧ i / 64 < (xs.length : Int))) : setI xs i on = xs := by
  unfold setI
  split
  · rfl
  · exact setB_out xs _ on (by omega)


theorem rset_num (x k : Nat) (on : Bool) (hx : x < 18446744073709551616) (hk : k < 64) (hne : x.testBit k ≠ on) : bits .xor .u64 (x : Int) ((2 ^ k : Nat) : Int) = ((setW x k on : Nat) : Int) := by
  have h2 : 2 ^ k < 2 ^ 64 := Nat.pow_lt_pow_right (by decide) hk
  rw [u64_xor_nat x _ hx (by omega)]
  unfold setW
  rw [if_neg hne]
theorem setI_same {xs : List Nat} {i : Int} {on : Bool} {q : Nat} (h0 : 0 ≤ i) (hq : i / 64 = (q : Int)) (he : (xs.getD q 0).testBit (i % 64).toNat = on) : setI xs i on = xs := by
  unfold setI setB setW
  rw [if_neg (by omega), show i.toNat / 64 = q by omega, show i.toNat % 64 = (i % 64).toNat by omega, if_pos he]
  apply List.ext_getElem (by simp)
  intro j h1 h2
  rw [List.getElem_set]
  split
  · rename_i e; subst e; simp [List.getD_eq_getElem?_getD, List.getElem?_eq_getElem h2]
  · rfl

end Go.Proofs.YtmdmipojbeppiaaGreatDoor
namespace Go.Proofs.YtmdmipojbeppiaaGreatDoor
open Go.RowKit
set_option linter.unusedVariables false
set_option maxRecDepth 4000

def zer (xs : List Nat) : Nat → Nat → List Nat
  | _, 0 => xs
  | o, m + 1 => zer (xs.set o 0) (o + 1) m
theorem zer_length : ∀ (m o : Nat) (xs : List Nat), (zer xs o m).length = xs.length
  | 0, _, _ => rfl
  | m + 1, o, xs => by rw [zer, zer_length m]; simp
theorem zer_getD : ∀ (m o : Nat) (xs : List Nat) (j : Nat), (zer xs o m).getD j 0 = if o ≤ j ∧ j < o + m then 0 else xs.getD j 0
  | 0, o, xs, j => by simp [zer]; omega
  | m + 1, o, xs, j => by
    rw [zer, zer_getD m (o + 1), getD_set]
    by_cases h1 : o + 1 ≤ j ∧ j < o + 1 + m
    · rw [if_pos h1, if_pos (by omega)]
    · rw [if_neg h1]
      by_cases h2 : j = o
      · subst h2
        rw [if_pos (c := j ≤ j ∧ j < j + (m + 1)) (by omega)]
        split
        · rfl
        · exact getD_of_le (by omega)
      · rw [if_neg (by omega), if_neg (by omega)]
theorem Own.cleared {B g cap : Nat} : ∀ (m o : Nat) (xs : List Nat) (w : World), Own w B (.slice (some ⟨g, 0, none⟩) xs.length cap) xs →
    Own (w.setCells g o (List.replicate m (.int .u64 0))) B (.slice (some ⟨g, 0, none⟩) xs.length cap) (zer xs o m)
  | 0, _, _, _, h => h
  | m + 1, o, xs, w, h => by
    have h1 := h.stored o 0 (by decide)
    have h2 := Own.cleared m (o + 1) (xs.set o 0) (w.setCell ⟨g, o, none⟩ (.int .u64 0)) (by simpa using h1)
    rw [List.replicate_succ]
    have h3 : (xs.set o 0).length = xs.length := by simp
    rw [h3] at h2
    exact h2
theorem Below.cells {B g : Nat} {w0 : World} (hg : B ≤ g) : ∀ (vs : List Value) (o : Nat) (w : World), Below B w0 w → Below B w0 (w.setCells g o vs)
  | [], _, _, h => h
  | v :: r, o, w, h => Below.cells hg r (o + 1) (w.setCell ⟨g, o, none⟩ v) (h.setCell (by exact hg) v)

/-- The mask from bit r on. -/
def fmask (r : Nat) : Nat := 18446744073709551615 * 2 ^ r % 18446744073709551616
theorem fmask_lt (r : Nat) : fmask r < 18446744073709551616 := Nat.mod_lt _ (by decide)
theorem zero_u64 (w : World) : (zeroValue 65).run Tryz.prog w = .ok (.int .u64 0) w := by kernel_rfl

theorem clear_run {w1 : World} {B g cap : Nat} {xs : List Nat} {q : Nat} (ho : Own w1 B (.slice (some ⟨g, 0, none⟩) xs.length cap) xs) (hq : q ≤ xs.length) :
    ∀ ty, (Builtin.clear_ #[25] ty #[.slice (some ⟨g, 0, none⟩) q cap]).run Tryz.prog w1 = .ok (.tuple #[]) (w1.setCells g 0 (List.replicate q (.int .u64 0))) := by
  intro ty
  by_cases e : q = 0
  · subst e
    simp [Builtin.clear_, run_underlying Tryz.underlying25, World.setCells]
  · obtain ⟨g', cap', hv, _, _, hcg, hfg⟩ := ho.at (by omega)
    simp only [Value.slice.injEq, Option.some.injEq, Addr.mk.injEq, and_true, true_and] at hv
    obtain ⟨rfl, rfl⟩ := hv
    exact Lib.run_clear_slice w1 25 65 ty (.int .u64 0) Tryz.underlying25 zero_u64 rfl rfl g 0 q cap (by omega) (fun j hj => by rw [Nat.zero_add, hcg j (by omega)]; rfl) (fun j hj => by rw [Nat.zero_add]; exact hfg j)

theorem from_num (x r : Nat) (hx : x < 18446744073709551616) : bits .and .u64 (x : Int) (IntKind.u64.wrap (18446744073709551615 * 2 ^ r)) = ((x &&& fmask r : Nat) : Int) := by
  have e : IntKind.u64.wrap (18446744073709551615 * 2 ^ r) = ((fmask r : Nat) : Int) := by
    rw [IntKind.wrap_u64]; unfold fmask; simp
  rw [e, u64_and_nat x _ hx (fmask_lt r)]

set_option maxHeartbeats 1000000 in
theorem from_lt (a : Option Addr) (n c : Nat) (xs : List Nat) (k : Int) (q : Nat) (w : World) (h : RowAt w a n xs) (hn : n ≤ 1048576) (h0 : 0 ≤ k) (hk : k ≤ 9223372036854775807) (hq : k / 64 = (q : Int)) (hqn : q < n) :
    Calls Tryz.prog 152 #[.slice a n c, .int .i64 k] w fun e w' => ∃ v, e = .returned v ∧ Own w' w.heap.size v ((zer xs 0 q).set q (xs.getD q 0 &&& fmask (k % 64).toNat)) ∧ Below w.heap.size w w' := by
  obtain rfl : n = xs.length := h.1.symm
  have hqw := div_wrap k q h0 hk hq
  have hql' : (q : Int) < (xs.length : Int) := by omega
  go_enter Tryz.func152, Tryz.ntmps152
  go_wp2_with fail
  refine (clone_any a xs.length c xs _ h (by omega)).mono ?_
  rintro e w1 ⟨v, rfl, ho, hb⟩
  obtain ⟨g, cap, rfl, hBg, hgs, hcg, hfg⟩ := ho.at (by omega)
  have hcap := ho.cap
  have hcl := clear_run ho (by omega : q ≤ xs.length)
  have ho2 := Own.cleared q 0 xs w1 ho
  have hb2 := Below.cells (w0 := w) hBg (List.replicate q (.int .u64 0)) 0 w1 hb
  generalize w1.setCells g 0 (List.replicate q (.int .u64 0)) = w2 at *
  have hlz := zer_length q 0 xs
  rw [← hlz] at ho2
  obtain ⟨g', cap', hv, _, hgs2, hcg2, hfg2⟩ := ho2.at (by omega)
  simp only [Value.slice.injEq, Option.some.injEq, Addr.mk.injEq, and_true, true_and] at hv
  obtain ⟨rfl, rfl⟩ := hv
  have hcell := hcg2 q (by omega)
  have hfz := hfg2 q
  rw [zer_getD, if_neg (by omega)] at hcell
  have hnum := from_num (xs.getD q 0) (k % 64).toNat (h.2.1.get q)
  have hlt2 : xs.getD q 0 &&& fmask (k % 64).toNat < 18446744073709551616 := Nat.lt_of_le_of_lt Nat.and_le_left (h.2.1.get q)
  have hst := ho2.stored q (xs.getD q 0 &&& fmask (k % 64).toNat) hlt2
  have hbs := hb2.setCell (p := ⟨g, q, none⟩) (by exact hBg) (.int .u64 ((xs.getD q 0 &&& fmask (k % 64).toNat : Nat) : Int))
  rw [hlz] at hst
  obtain ⟨y, hy⟩ : ∃ y, y = xs.getD q 0 &&& fmask (k % 64).toNat := ⟨_, rfl⟩
  rw [← hy] at hnum hst hbs
  have HST := hide hst
  have HBS := hide hbs
  have HY := hide hy
  clear hcg hfg hcg2 hfg2 ho ho2 hb hb2 h hlz hst hbs hlt2 hy
  generalize xs.getD q 0 = x at hnum hcell
  go_wp2
  go_ret
  exact ⟨_, rfl, by rw [← unhide HY]; exact unhide HST, unhide HBS⟩

set_option maxHeartbeats 1000000 in
theorem from_all (a : Option Addr) (n c : Nat) (xs : List Nat) (k : Int) (w : World) (h : RowAt w a n xs) (hn : n ≤ 1048576) (hn0 : 0 < n) (h0 : 0 ≤ k) (hk : k ≤ 9223372036854775807) (hq : k / 64 = (n : Int)) :
    Calls Tryz.prog 152 #[.slice a n c, .int .i64 k] w fun e w' => ∃ v, e = .returned v ∧ Own w' w.heap.size v (zer xs 0 n) ∧ Below w.heap.size w w' := by
  obtain rfl : n = xs.length := h.1.symm
  have hqw := div_wrap k xs.length h0 hk hq
  go_enter Tryz.func152, Tryz.ntmps152
  go_wp2_with fail
  refine (clone_any a xs.length c xs _ h (by omega)).mono ?_
  rintro e w1 ⟨v, rfl, ho, hb⟩
  obtain ⟨g, cap, rfl, hBg, hgs, hcg, hfg⟩ := ho.at (by omega)
  have hcap := ho.cap
  have hcl := clear_run ho (Nat.le_refl _)
  have ho2 := Own.cleared xs.length 0 xs w1 ho
  have hb2 := Below.cells (w0 := w) hBg (List.replicate xs.length (.int .u64 0)) 0 w1 hb
  generalize w1.setCells g 0 (List.replicate xs.length (.int .u64 0)) = w2 at *
  have HST := hide ho2
  have HBS := hide hb2
  clear hcg hfg ho ho2 hb hb2 h
  go_wp2
  go_ret
  exact ⟨_, rfl, unhide HST, unhide HBS⟩
end Go.Proofs.YtmdmipojbeppiaaGreatDoor
namespace Go.Proofs.YtmdmipojbeppiaaGreatDoor
open Go.RowKit
set_option linter.unusedVariables false
set_option maxRecDepth 4000

/-- A row of k blocks: just so many words, no bit beyond. -/
def ValidP (k : Int) (xs : List Nat) : Prop := 0 < xs.length ∧ xs.length = sizeOfK k ∧ ∀ i, k.toNat ≤ i → getB xs i = false

theorem sizeOfK_pos {k : Int} (h : 0 < sizeOfK k) : 1 ≤ k ∧ k ≤ 128 ∧ sizeOfK k = ((k + 63) / 64).toNat := by
  unfold sizeOfK at *
  split at h
  · omega
  · rename_i h1
    rw [if_neg h1]
    omega
theorem fmask_bit (r t : Nat) (ht : t < 64) : (fmask r).testBit t = decide (r ≤ t) := by
  unfold fmask
  rw [show (18446744073709551616 : Nat) = 2 ^ 64 from rfl, Nat.testBit_mod_two_pow, Nat.testBit_mul_two_pow, show (18446744073709551615 : Nat) = 2 ^ 64 - 1 from rfl, Nat.testBit_two_pow_sub_one]
  simp [ht]
  omega
theorem and_fmask (x r : Nat) (hx : x < 18446744073709551616) : (x &&& fmask r = 0) ↔ ∀ t, t < 64 → r ≤ t → x.testBit t = false := by
  constructor
  · intro h t ht hr
    have h1 : (x &&& fmask r).testBit t = false := by rw [h]; simp
    rw [Nat.testBit_and, fmask_bit r t ht] at h1
    simpa [hr] using h1
  · intro h
    apply Nat.eq_of_testBit_eq
    intro t
    rw [Nat.testBit_and, Nat.zero_testBit]
    by_cases ht : t < 64
    · rw [fmask_bit r t ht]
      by_cases hr : r ≤ t
      · simp [h t ht hr]
      · simp [hr]
    · have : x.testBit t = false := Nat.testBit_lt_two_pow (Nat.lt_of_lt_of_le (show x < 2 ^ 64 by omega) (Nat.pow_le_pow_right (by decide) (by omega)))
      simp [this]
theorem valid_all {k : Int} {xs : List Nat} (h0 : 0 < xs.length) (hs : xs.length = sizeOfK k) (hq : k / 64 = (xs.length : Int)) : cnt (zer xs 0 xs.length) = 0 ∧ ValidP k xs := by
  constructor
  · apply cnt_zero_of
    intro i hi
    rw [zer_length] at hi
    rw [zer_getD, if_pos (by omega)]
  · exact ⟨h0, hs, fun i hi => getB_out xs i (by omega)⟩
theorem valid_lt {k : Int} {xs : List Nat} {q : Nat} (hx : smalls xs) (h0 : 0 < xs.length) (hs : xs.length = sizeOfK k) (hk : 0 ≤ k) (hq : k / 64 = (q : Int)) (hqn : q < xs.length) :
    cnt ((zer xs 0 q).set q (xs.getD q 0 &&& fmask (k % 64).toNat)) = 0 ↔ ValidP k xs := by
  have hp := sizeOfK_pos (k := k) (by omega)
  have hqe : q + 1 = xs.length := by omega
  have hy : smalls ((zer xs 0 q).set q (xs.getD q 0 &&& fmask (k % 64).toNat)) := by
    have hz : smalls (zer xs 0 q) := by
      intro z hz
      obtain ⟨i, hi, rfl⟩ := List.getElem_of_mem hz
      have h1 := zer_getD q 0 xs i
      have h2 : (zer xs 0 q).getD i 0 = (zer xs 0 q)[i] := by simp [List.getD_eq_getElem?_getD, List.getElem?_eq_getElem hi]
      have h3 := hx.get i
      rw [h2] at h1
      show (zer xs 0 q)[i] < 18446744073709551616
      rw [h1]
      split
      · decide
      · exact h3
    exact hz.set _ _ (Nat.lt_of_le_of_lt Nat.and_le_left (hx.get q))
  have e1 : cnt ((zer xs 0 q).set q (xs.getD q 0 &&& fmask (k % 64).toNat)) = 0 ↔ xs.getD q 0 &&& fmask (k % 64).toNat = 0 := by
    constructor
    · intro h
      have h1 := (all_zero_iff _).1 (zero_of_cnt _ hy h) q
      rw [getD_set, if_pos ⟨rfl, by rw [zer_length]; exact hqn⟩] at h1
      exact h1
    · intro h
      apply cnt_zero_of
      intro i hi
      rw [List.length_set, zer_length] at hi
      rw [getD_set]
      split
      · exact h
      · rw [zer_getD, if_pos]
        rename_i hne
        rw [zer_length] at hne
        omega
  rw [e1, and_fmask _ _ (hx.get q)]
  constructor
  · intro h
    refine ⟨h0, hs, fun i hi => ?_⟩
    by_cases hi2 : 64 * xs.length ≤ i
    · exact getB_out xs i hi2
    · unfold getB
      rw [show i / 64 = q by omega]
      exact h (i % 64) (by omega) (by omega)
  · intro h t ht hr
    have := h.2.2 (64 * q + t) (by omega)
    rwa [getB_at xs q t ht] at this

/-- A Bool comes back that tells whether P holds. -/
def RetB (e : Ending) (P : Prop) : Prop := ∃ b, e = .returned (.bool b) ∧ (b = true ↔ P)
theorem RetB.no {P : Prop} (h : ¬ P) : RetB (.returned (.bool false)) P := ⟨false, rfl, by simp [h]⟩
theorem RetB.yes {P : Prop} (h : P) : RetB (.returned (.bool true)) P := ⟨true, rfl, by simp [h]⟩
set_option maxHeartbeats 1000000 in
theorem valid_any (a : Option Addr) (n c : Nat) (xs : List Nat) (k : Int) (w : World) (h : RowAt w a n xs) :
    Calls Tryz.prog 149 #[.int .i64 k, .slice a n c] w fun e w' => RetB e (ValidP k xs) ∧ Below w.heap.size w w' := by
  obtain rfl : n = xs.length := h.1.symm
  have HZ := hide (size_any k)
  by_cases h0 : xs.length = 0
  · have hb0 : ((xs.length : Int) == 0) = true := by rw [h0]; rfl
    have HF := hide (show ¬ ValidP k xs from fun hv => by have := hv.1; omega)
    clear h h0
    go_enter Tryz.func149, Tryz.ntmps149
    go_wp2
    go_ret
    exact ⟨RetB.no (unhide HF), Below.refl _ _⟩
  · have hb0 : ((xs.length : Int) == 0) = false := by simp only [beq_eq_false_iff_ne, ne_eq]; omega
    by_cases hs : xs.length = sizeOfK k
    · have hp := sizeOfK_pos (k := k) (by omega)
      have hb1 : ((xs.length : Int) != ((sizeOfK k : Nat) : Int)) = false := by rw [hs]; simp
      have hn2 : xs.length ≤ 1048576 := by omega
      obtain ⟨q, hq⟩ := Int.eq_ofNat_of_zero_le (show 0 ≤ k / 64 by omega)
      have he : ∀ q : Nat, ((q : Int) == 0) = true ↔ q = 0 := fun q => by
        by_cases e : q = 0
        · subst e; simp
        · simp [e]
      have HE := hide he
      clear he
      by_cases hqn : q < xs.length
      · have HV := hide (valid_lt h.2.1 (by omega) hs (by omega) hq hqn)
        have HF := hide (fun wx (hr : RowAt wx a xs.length xs) => from_lt a xs.length c xs k q wx hr hn2 (by omega) (by omega) hq hqn)
        have hres : ((zer xs 0 q).set q (xs.getD q 0 &&& fmask (k % 64).toNat)).length = xs.length := by rw [List.length_set, zer_length]
        have HR := hide hres
        generalize (zer xs 0 q).set q (xs.getD q 0 &&& fmask (k % 64).toNat) = res at *
        clear hq hqn hs hres
        go_enter Tryz.func149, Tryz.ntmps149
        go_wp2_with (go_at_call 151; refine (unhide HZ _).mono ?_; rintro e w' ⟨rfl, rfl⟩)
        refine (unhide HF _ h).mono ?_
        rintro e w1 ⟨v, rfl, ho, hb⟩
        obtain ⟨a1, c1, rfl, hr⟩ := ho.row
        go_wp2_with fail
        refine (count_any a1 _ c1 _ _ hr (by rw [unhide HR]; omega)).mono ?_
        rintro e w2 ⟨rfl, rfl⟩
        clear ho
        go_wp2
        go_ret
        exact ⟨⟨_, rfl, (unhide HE _).trans (unhide HV)⟩, hb⟩
      · have hqe : k / 64 = (xs.length : Int) := by omega
        have HV := hide (valid_all (by omega) hs hqe)
        have HF := hide (fun wx (hr : RowAt wx a xs.length xs) => from_all a xs.length c xs k wx hr hn2 (by omega) (by omega) (by omega) hqe)
        have HR := hide (zer_length xs.length 0 xs)
        generalize zer xs 0 xs.length = res at *
        clear hq hqn hqe hs
        go_enter Tryz.func149, Tryz.ntmps149
        go_wp2_with (go_at_call 151; refine (unhide HZ _).mono ?_; rintro e w' ⟨rfl, rfl⟩)
        refine (unhide HF _ h).mono ?_
        rintro e w1 ⟨v, rfl, ho, hb⟩
        obtain ⟨a1, c1, rfl, hr⟩ := ho.row
        go_wp2_with fail
        refine (count_any a1 _ c1 _ _ hr (by rw [unhide HR]; omega)).mono ?_
        rintro e w2 ⟨rfl, rfl⟩
        clear ho
        go_wp2
        go_ret
        exact ⟨⟨_, rfl, (unhide HE _).trans ⟨fun _ => (unhide HV).2, fun _ => (unhide HV).1⟩⟩, hb⟩
    · have hb1 : ((xs.length : Int) != ((sizeOfK k : Nat) : Int)) = true := by rw [bne_iff_ne]; omega
      have HF := hide (show ¬ ValidP k xs from fun hv => hs hv.2.1)
      clear h h0 hs
      go_enter Tryz.func149, Tryz.ntmps149
      go_wp2_with (go_at_call 151; refine (unhide HZ _).mono ?_; rintro e w' ⟨rfl, rfl⟩)
      go_ret
      exact ⟨RetB.no (unhide HF), Below.refl _ _⟩

set_option maxHeartbeats 1000000 in
theorem rvalid_any (a : Option Addr) (n c : Nat) (xs : List Nat) (k : Int) (w : World) (h : RowAt w a n xs) :
    Calls Tryz.prog 47 #[.int .i64 k, .slice a n c] w fun e w' => RetB e (ValidP k xs) ∧ w' = w := by
  obtain rfl : n = xs.length := h.1.symm
  have HZ := hide (rsize_any k)
  by_cases h0 : sizeOfK k = 0
  · have hb0 : (((sizeOfK k : Nat) : Int) == 0) = true := by rw [h0]; rfl
    have HF := hide (show ¬ ValidP k xs from fun hv => by have := hv.1; have := hv.2.1; omega)
    clear h h0
    go_enter Tryz.func47, Tryz.ntmps47
    go_wp2_with (go_at_call 69; refine (unhide HZ _).mono ?_; rintro e w' ⟨rfl, rfl⟩)
    go_ret
    exact ⟨RetB.no (unhide HF), rfl⟩
  · have hb0 : (((sizeOfK k : Nat) : Int) == 0) = false := by simp only [beq_eq_false_iff_ne, ne_eq]; omega
    by_cases hs : xs.length = sizeOfK k
    · have hp := sizeOfK_pos (k := k) (by omega)
      have hb1 : ((xs.length : Int) != ((sizeOfK k : Nat) : Int)) = false := by rw [hs]; simp
      have hn2 : xs.length ≤ 1048576 := by omega
      have HS := hide hs
      have hl0 : 0 < xs.length := by omega
      obtain ⟨hp1, hp2, hp3⟩ := hp
      have HP := hide hp3
      clear hs h0 hp3
      go_enter Tryz.func47, Tryz.ntmps47
      go_wp2_with (go_at_call 69; refine (unhide HZ _).mono ?_; rintro e w' ⟨rfl, rfl⟩)
      go_loop [5] (fun t => ∃ i : Nat, k.toNat ≤ i ∧ i ≤ 64 * xs.length ∧ t = .int .i64 (i : Int) ∧ Hid (∀ j, k.toNat ≤ j → j < i → getB xs j = false)) (fun t => 64 * xs.length - (intOf t).toNat)
      case atStart => exact ⟨k.toNat, Nat.le_refl _, by have := unhide HS; have := unhide HP; omega, by rw [show ((k.toNat : Nat) : Int) = k by omega], hide (fun j h1 h2 => by omega)⟩
      case round =>
        obtain ⟨i, hi1, hi2, rfl, HL⟩ := hrel
        by_cases hlt : i < 64 * xs.length
        · have hlt' : (i : Int) < 64 * (xs.length : Int) := by omega
          have hG := rget_in a xs.length c xs (i : Int) _ h (by omega) (by omega) (by omega) (by omega)
          rw [Int.toNat_natCast] at hG
          by_cases hg : getB xs i = true
          · rw [hg] at hG
            have HG := hide hG
            have HF := hide (show ¬ ValidP k xs from fun hv => by have := hv.2.2 i hi1; rw [hg] at this; cases this)
            clear hG h hg
            go_wp2_with (go_at_call 48; refine (unhide HG).mono ?_; rintro e w' ⟨rfl, rfl⟩)
            go_ret
            exact ⟨RetB.no (unhide HF), rfl⟩
          · have hg' : getB xs i = false := by simpa using hg
            rw [hg'] at hG
            have HG := hide hG
            have HL' := hide (show ∀ j, k.toNat ≤ j → j < i + 1 → getB xs j = false from fun j h1 h2 => by
              by_cases e : j = i
              · rw [e]; exact hg'
              · exact unhide HL j h1 (by omega))
            clear hG h hg hg'
            go_wp2_with (go_at_call 48; refine (unhide HG).mono ?_; rintro e w' ⟨rfl, rfl⟩)
            go_round
            case rel => exact ⟨i + 1, by omega, by omega, by go_num, HL'⟩
            case measure => simp [intOf]; omega
        · have hge : ¬ ((i : Int) < 64 * (xs.length : Int)) := by omega
          have HF := hide (show ValidP k xs from ⟨hl0, unhide HS, fun j hj => by
            by_cases e : j < i
            · exact unhide HL j hj e
            · exact getB_out xs j (by omega)⟩)
          clear h
          go_wp2
          go_ret
          exact ⟨RetB.yes (unhide HF), rfl⟩
    · have hb1 : ((xs.length : Int) != ((sizeOfK k : Nat) : Int)) = true := by rw [bne_iff_ne]; omega
      have HF := hide (show ¬ ValidP k xs from fun hv => hs hv.2.1)
      clear h h0 hs
      go_enter Tryz.func47, Tryz.ntmps47
      go_wp2_with (go_at_call 69; refine (unhide HZ _).mono ?_; rintro e w' ⟨rfl, rfl⟩)
      go_ret
      exact ⟨RetB.no (unhide HF), rfl⟩
end Go.Proofs.YtmdmipojbeppiaaGreatDoor
namespace Go.Proofs.YtmdmipojbeppiaaGreatDoor
open Go.RowKit
set_option linter.unusedVariables false
set_option maxRecDepth 4000

theorem smalls_zeros (n : Nat) : smalls (List.replicate n 0) := fun x hx => by rw [(List.mem_replicate.1 hx).2]; show 0 < 18446744073709551616; decide
theorem size_room {k : Int} (hs : 0 < sizeOfK k) : k.toNat ≤ 64 * sizeOfK k ∧ 1 ≤ k ∧ k ≤ 128 := by
  obtain ⟨h1, h2, h3⟩ := sizeOfK_pos hs
  omega
/-- Is it a row of k blocks? -/
def validB (k : Int) (xs : List Nat) : Bool := decide (0 < xs.length) && decide (xs.length = sizeOfK k) && (List.range (64 * xs.length)).all fun i => decide (i < k.toNat) || !getB xs i
theorem validB_iff {k : Int} {xs : List Nat} : validB k xs = true ↔ ValidP k xs := by
  unfold validB ValidP
  rw [Bool.and_eq_true, Bool.and_eq_true, decide_eq_true_eq, decide_eq_true_eq, List.all_eq_true, and_assoc]
  refine and_congr_right fun _ => and_congr_right fun _ => ?_
  constructor
  · intro h i hi
    by_cases hl : i < 64 * xs.length
    · have := h i (List.mem_range.2 hl)
      rw [decide_eq_false (by omega)] at this
      simpa using this
    · exact getB_out xs i (by omega)
  · intro h i _
    by_cases hi : i < k.toNat
    · simp [hi]
    · rw [h i (by omega)]; simp
theorem valid_size {k : Int} {xs : List Nat} (h : validB k xs = true) : 0 < sizeOfK k ∧ xs.length = sizeOfK k ∧ ∀ i, getB xs i = true → i < k.toNat := by
  obtain ⟨h1, h2, h3⟩ := validB_iff.1 h
  refine ⟨by omega, h2, fun i hi => ?_⟩
  rcases Nat.lt_or_ge i k.toNat with h0 | h0
  · exact h0
  · rw [h3 i h0] at hi; cases hi
theorem retV {e : Ending} {k : Int} {xs : List Nat} (h : RetB e (ValidP k xs)) : e = .returned (.bool (validB k xs)) := by
  obtain ⟨b, rfl, hb⟩ := h
  have : b = validB k xs := by
    cases hv : validB k xs
    · rw [← Bool.not_eq_true]
      intro h
      rw [validB_iff.2 (hb.1 h)] at hv
      cases hv
    · exact hb.2 (validB_iff.1 hv)
  rw [this]
end Go.Proofs.YtmdmipojbeppiaaGreatDoor
namespace Go.Proofs.YtmdmipojbeppiaaGreatDoor
open Go.RowKit Go.Sort
set_option linter.unusedVariables false
set_option maxRecDepth 4000

theorem info_rowZ : (Tryz.prog.info? 40).map (fun i => (i.zero, i.size, i.bytes)) = some (some (.agg #[.slice none 0 0, .string ⟨#[]⟩]), 2, 40) := by kernel_rfl
/-- The cells of rows. -/
def cellsR : List RV → List Value
  | [] => []
  | r :: rs => .slice r.a r.n r.c :: .string r.s :: cellsR rs
theorem cellsR_length : ∀ rs : List RV, (cellsR rs).length = rs.length * 2
  | [] => rfl
  | r :: rs => by simp [cellsR, cellsR_length rs]; omega
theorem cellsR_append : ∀ (a b : List RV), cellsR (a ++ b) = cellsR a ++ cellsR b
  | [], b => rfl
  | r :: a, b => by simp [cellsR, cellsR_append a b]
theorem cellsR_get : ∀ (rs : List RV) (i : Nat), i < rs.length → (cellsR rs)[i * 2]? = some (.slice (rs.getD i .dflt).a (rs.getD i .dflt).n (rs.getD i .dflt).c) ∧ (cellsR rs)[i * 2 + 1]? = some (.string (rs.getD i .dflt).s)
  | [], i, h => by simp at h
  | r :: rs, 0, _ => by simp [cellsR]
  | r :: rs, i + 1, h => by
    have := cellsR_get rs i (by simpa using h)
    rw [show (i + 1) * 2 = i * 2 + 1 + 1 by omega]
    simpa [cellsR] using this
theorem cellsR_one : ∀ (rs : List RV), ∀ u ∈ cellsR rs, u.oneCell' = true
  | [], u, h => by cases h
  | r :: rs, u, h => by
    rcases List.mem_cons.1 h with rfl | h
    · rfl
    · rcases List.mem_cons.1 h with rfl | h
      · rfl
      · exact cellsR_one rs u h
/-- A slice of rows of the call's own. -/
def OwnS (w : World) (B : Nat) (v : Value) (rs : List RV) : Prop := w.ownsRow B 40 2 v rs.length (cellsR rs)
theorem OwnS.nil (w : World) (B : Nat) : OwnS w B (.slice none 0 0) [] := World.ownsRow_nil _ _ _ _
theorem OwnS.cellAt {w : World} {B : Nat} {g n c : Nat} {rs : List RV} (h : OwnS w B (.slice (some ⟨g, 0, none⟩) n c) rs) {j : Nat} {u : Value} (hu : (cellsR rs)[j]? = some u) : w.cell? ⟨g, j, none⟩ = some u := by
  have := World.ownsRow.cells h (g := g) rfl j u hu
  rwa [show (⟨g, 0, none⟩ : Addr).add j = ⟨g, j, none⟩ by unfold Addr.add; split <;> simp_all] at this
theorem OwnS.rows {w : World} {B : Nat} {v : Value} {rs : List RV} (h : OwnS w B v rs) (hr : RowsIn w rs) : ∃ a c, v = .slice a rs.length c ∧ RowsAt w a rs.length rs ∧ rs.length ≤ c ∧ c ≤ 9223372036854775807 := by
  have h' := h
  rcases h.2 with ⟨rfl, h0⟩ | ⟨g, cap, cur, rfl, hb, hg, hn, hm, hsz, ht⟩
  · exact ⟨none, 0, by rw [h0], ⟨rfl, fun i hi => by omega, .inl h0⟩, by omega, by omega⟩
  · refine ⟨_, cap, rfl, ⟨rfl, fun i hi => (hr.get hi).1, .inr ⟨g, 0, rfl, fun i hi => ?_⟩⟩, hn, by simpa [maxLen] using hm⟩
    rw [Nat.zero_add]
    exact ⟨h'.cellAt (cellsR_get rs i hi).1, h'.cellAt (cellsR_get rs i hi).2⟩
theorem OwnS.mono {w : World} {B B' : Nat} {v : Value} {rs : List RV} (h : OwnS w B v rs) (hB : B' ≤ B) : OwnS w B' v rs := by
  refine ⟨h.1, ?_⟩
  rcases h.2 with h0 | ⟨g, cap, cur, h1, hb, r⟩
  · exact .inl h0
  · exact .inr ⟨g, cap, cur, h1, Nat.le_trans hB hb, r⟩
theorem OwnS.below {w w' : World} {B : Nat} {v : Value} {rs : List RV} (h : OwnS w B v rs) (hb : Below w.heap.size w w') : OwnS w' B v rs := by
  refine ⟨h.1, ?_⟩
  rcases h.2 with h0 | ⟨g, cap, cur, h1, hg, hgg, r⟩
  · exact .inl h0
  · exact .inr ⟨g, cap, cur, h1, hg, (hb.block g (Array.getElem?_eq_some_iff.1 hgg).1).trans hgg, r⟩
/-- What is turned in a row of words is no row of rows. -/
theorem OwnS.kept {w w' : World} {B B' g n c : Nat} {v : Value} {rs : List RV} {xs : List Nat} (h : OwnS w B v rs) (hg : w.grownBy w' (some g)) (ho : Own w B' (.slice (some ⟨g, 0, none⟩) n c) xs) : OwnS w' B v rs := by
  refine World.ownsRow.kept h hg ?_
  rcases h.2 with ⟨rfl, h0⟩ | ⟨g1, cap, cur, rfl, hb, hgg, r⟩
  · exact .inl rfl
  · refine .inr fun e => ?_
    simp only [Value.ownBlock, Option.some.injEq] at e
    subst e
    rcases ho.2.2 with ⟨e, _⟩ | ⟨g2, cap2, cur2, e, hb2, hg2, r2⟩
    · cases e
    · simp only [Value.slice.injEq, Option.some.injEq, Addr.mk.injEq, and_true] at e
      rw [← e.1, hgg] at hg2
      simp only [Option.some.injEq, Obj.cells.injEq] at hg2
      exact absurd hg2.2.1 (by decide)
/-- 'append(l, row)'. -/
theorem wpList_pushS {w : World} {ops : Array Oper} {rest : List Oper} {o : Oper} {act : Act} {Q : Exit → Act → World → Prop} (hgd : o.guard = none) (s x : Operand)
    (ho : o.op = .call { callee := .builtin .append, args := #[s, x], argTypes := #[80, 80] }) (B : Nat) (v : Value) (rs : List RV) (r : RV)
    (hs : act.eval s = v) (hx : act.eval x = .slice (some ⟨w.heap.size, 0, none⟩) 1 1) (h : OwnS w B v rs) (hB : B ≤ w.heap.size) (hn : rs.length ≤ 1048576)
    (hK : ∀ s' w', OwnS w' B s' (rs ++ [r]) → w.grownBy w' v.ownBlock → Below B w w' → wpList Tryz.prog ops Q rest (act.put o.dst s') w') : wpList Tryz.prog ops Q (o :: rest) act (w.alloc (.cells #[.slice r.a r.n r.c, .string r.s] 40)) := by
  obtain ⟨i0, hi, hz0, hz1, hz2⟩ := info_parts info_rowZ
  have hb : Below w.heap.size w (w.alloc (.cells #[.slice r.a r.n r.c, .string r.s] 40)) := (Below.refl _ _).alloc (Nat.le_refl _) _
  have h1 : (w.alloc (.cells #[.slice r.a r.n r.c, .string r.s] 40)).ownsRow B 40 2 v rs.length (cellsR rs) := h.below hb
  refine wpList_append_own _ hgd s x 80 ho B 40 i0 (.agg #[.slice none 0 0, .string ⟨#[]⟩]) 2 40 Tryz.underlying80 hi hz0 hz1 hz2 rfl (by decide) v rs.length (cellsR rs) hs h1 ⟨w.heap.size, 0, none⟩ 1 1 [.slice r.a r.n r.c, .string r.s] hx rfl (fun j u hj => ?_)
    (fun u hu => by rcases List.mem_cons.1 hu with rfl | hu; · rfl
                    · rw [List.mem_singleton.1 hu]; rfl) (by unfold maxLen; omega) (by omega) (Nat.le_trans hB hb.size) ?_
  · have e : (⟨w.heap.size, 0, none⟩ : Addr).add j = ⟨w.heap.size, j, none⟩ := by unfold Addr.add; split <;> simp_all
    rw [e, World.cell?_alloc_at _ _ _ _ rfl]
    match j with
    | 0 => simpa using hj
    | 1 => simpa using hj
    | j + 2 => simp at hj
  · intro v' w' hown hgrow _
    refine hK v' w' ?_ (gb_trans (gb_of_below hb _) hgrow (.inl rfl)) ((hb.mono hB).grown hgrow (Nat.le_trans hB hb.size) fun k hk => (h1.lt k hk).1)
    rw [show cellsR rs ++ [.slice r.a r.n r.c, .string r.s] = cellsR (rs ++ [r]) by rw [cellsR_append]; rfl] at hown
    show w'.ownsRow B 40 2 v' (rs ++ [r]).length (cellsR (rs ++ [r]))
    rw [List.length_append]
    exact hown
theorem zeroCells_u64 (m : Nat) : Builtin.zeroCells (Value.int .u64 0).cells m = Array.replicate m (.int .u64 0) := by
  unfold Builtin.zeroCells
  apply Array.ext
  · simp [Value.cells]
  · intro i h1 h2
    simp [Value.cells, Nat.mod_one]
theorem cellsU_zeros (xs : List Nat) (m : Nat) : cellsU (xs ++ List.replicate m 0) = cellsU xs ++ List.replicate m (.int .u64 0) := by simp [cellsU]
/-- 'append(own, make([]uint64, m)...)'. -/
theorem append_zeros (B : Nat) (a : Option Addr) (c : Nat) (xs : List Nat) (m : Nat) (w : World) (ho : Own w B (.slice a xs.length c) xs) (hB : B ≤ w.heap.size) (hm0 : 0 < m) (hn : xs.length + m ≤ 1048576) :
    ∃ a' c' w', (∀ ty, (Builtin.append_ #[25, 3] ty #[.slice a xs.length c, .int .i64 (m : Int)]).run Tryz.prog w = .ok (.slice a' (xs.length + m) c') w') ∧
      Own w' B (.slice a' (xs.length + m) c') (xs ++ List.replicate m 0) ∧ w.grownBy w' (Value.slice a xs.length c).ownBlock := by
  obtain ⟨i0, hi0, hz0, hz1, hz2⟩ := info_parts info_u64
  have hsm : smalls (xs ++ List.replicate m 0) := fun x hx => (List.mem_append.1 hx).elim (ho.1 x) (smalls_zeros m x)
  have hln : (xs ++ List.replicate m 0).length = xs.length + m := by simp
  have hcl : (cellsU (xs ++ List.replicate m 0)).length = (xs.length + m) * 1 := by rw [cellsU_length, hln, Nat.mul_one]
  have grown : ∀ (old : Nat) (R : Array Value), R = (cellsU xs).toArray ++ Builtin.zeroCells (Value.int .u64 0).cells m ++ Builtin.zeroCells (Value.int .u64 0).cells (grownCap w (xs.length + m) old 65 - (xs.length + m)) →
      (w.drew.alloc (.cells R 65)).ownsRow B 65 1 (.slice (some ⟨w.heap.size, 0, none⟩) (xs.length + m) (grownCap w (xs.length + m) old 65)) (xs.length + m) (cellsU (xs ++ List.replicate m 0)) := by
    intro old R hR
    have hge := grownCap_ge w (xs.length + m) old 65
    have hcm := grownCap_le_maxLen w (xs.length + m) old 65 (by unfold maxLen; omega)
    rw [zeroCells_u64, zeroCells_u64] at hR
    refine ⟨hcl, .inr ⟨w.heap.size, _, _, rfl, hB, heap_alloc_new w.drew _, hge, hcm, ?_, ?_⟩⟩
    · rw [hR]; simp [cellsU_length]; omega
    · have e : R.toList = cellsU (xs ++ List.replicate m 0) ++ List.replicate (grownCap w (xs.length + m) old 65 - (xs.length + m)) (.int .u64 0) := by
        rw [hR, cellsU_zeros]; simp
      rw [e, ← hcl]
      exact List.take_left
  have gb : ∀ R r, w.grownBy (w.drew.alloc (.cells R 65)) r := fun R r => ⟨rfl, rfl, rfl, by simp, fun k hk _ => heap_alloc_old w.drew _ hk⟩
  rcases ho.2.2 with ⟨e, h0⟩ | ⟨g, cap, cur, e, hbg, hg, hnc, hcm, hcs, htake⟩
  · simp only [Value.slice.injEq] at e
    obtain ⟨rfl, _, rfl⟩ := e
    have hx : xs = [] := List.eq_nil_of_length_eq_zero h0
    subst hx
    have hr := fun ty => Lib.run_append_nil_zeros (P := Tryz.prog) w 25 3 ty 65 i0 (.int .u64 0) .i64 .i64 Tryz.underlying25 Tryz.underlying3 hi0 hz0 m hm0 (by omega) (by omega) (by rw [hz2]; omega)
    have hG := grown 0 _ rfl
    simp only [List.length_nil, Nat.zero_add, cellsU, List.map_nil, List.nil_append, Array.empty_append] at hG hr ⊢
    exact ⟨_, _, _, hr, ⟨by simpa using hsm, by simpa [cellsU] using hG⟩, gb _ _⟩
  · simp only [Value.slice.injEq, true_and] at e
    obtain ⟨rfl, rfl⟩ := e
    rw [Nat.mul_one] at hcs htake
    by_cases hroom : xs.length + m ≤ c
    · have hst := run_storeCells_at Tryz.prog g xs.length 65 (List.replicate m (.int .u64 0)) 0 cur w hg (by simp; omega) (fun v hv => by rw [(List.mem_replicate.1 hv).2]; rfl)
      rw [Nat.add_zero, List.length_replicate] at hst
      have hwm : IntKind.i64.wrap (m : Int) = (m : Int) := by
        rw [IntKind.wrap_i64]
        omega
      have hasi : ∀ W, (asInt (.int .i64 (m : Int))).run Tryz.prog W = .ok (m : Int) W := fun _ => rfl
      have hl0 : ¬ ((m : Int) < 0) := by omega
      have hby : ¬ (281474976710656 < (m : Int) * (i0.bytes : Int)) := by rw [hz2]; omega
      have hm1 : m ≠ 0 := by omega
      have hadd : (⟨g, 0, none⟩ : Addr).add xs.length = ⟨g, xs.length, none⟩ := by unfold Addr.add; split <;> simp_all
      refine ⟨some ⟨g, 0, none⟩, c, w.setRow g (cur.toList.take xs.length ++ List.replicate m (Value.int .u64 0) ++ cur.toList.drop (xs.length + m)).toArray, fun ty => ?_, ⟨hsm, ?_⟩, ?_⟩
      · unfold Builtin.append_
        simp [run_underlying Tryz.underlying25, run_underlying Tryz.underlying3, sizeOf, typeInfo, zeroValue, hi0, hz0, hz1, hasi, hwm, hl0, hby, hroom, hm1, zeroCells_u64, hadd, hst]
      · rw [hln]
        refine ⟨hcl, .inr ⟨g, c, _, rfl, hbg, setRow_heap w g cur _ 65 _ hg, hroom, hcm, ?_, ?_⟩⟩
        · simp; omega
        · rw [htake, Nat.mul_one, cellsU_zeros]
          have : (cellsU xs ++ List.replicate m (Value.int .u64 0)).length = xs.length + m := by simp [cellsU_length]
          rw [← this]
          exact List.take_left
      · exact ⟨rfl, rfl, rfl, by simp, fun k _ hk => setRow_other w g k _ (fun e => hk (by simp [Value.ownBlock, e]))⟩
    · have hfc := run_firstCells_some (P := Tryz.prog) w.drew 1 xs.length ⟨g, 0, none⟩ xs.length c (cellsU xs) (by rw [cellsU_length, Nat.mul_one]) (fun j u hj => (World.ownsRow.cells ho.2 (g := g) rfl j u hj))
      have hr := fun ty => Lib.run_append_grow_zeros (P := Tryz.prog) w 25 3 ty 65 i0 (.int .u64 0) .i64 .i64 Tryz.underlying25 Tryz.underlying3 hi0 hz0 (some ⟨g, 0, none⟩) xs.length c (cellsU xs) (by rw [hz1]; exact hfc) m hm0 (by omega) (by omega) (by omega) (by rw [hz2]; omega) (growslice_fits (by omega) (by rw [hz2]; omega))
      exact ⟨_, _, _, hr, ⟨hsm, by rw [hln]; exact grown c _ rfl⟩, gb _ _⟩
end Go.Proofs.YtmdmipojbeppiaaGreatDoor
namespace Go.Proofs.YtmdmipojbeppiaaGreatDoor
open Go.RowKit Go.Sort
set_option linter.unusedVariables false
set_option maxRecDepth 4000

/-- The xor of all rows' words. -/
def vecL (rs : List RV) : List Nat := rs.foldl (fun a r => xorL a r.xs) []
theorem vecL_from (rs : List RV) : ∀ a, rs.foldl (fun a r => xorL a r.xs) a = xorL a (vecL rs) := by
  induction rs with
  | nil => intro a; exact (xorL_nil a).symm
  | cons r rs ih =>
    intro a
    show rs.foldl _ (xorL a r.xs) = xorL a (rs.foldl _ (xorL [] r.xs))
    rw [ih, ih (xorL [] r.xs), nil_xorL, xorL_assoc]
theorem vecL_cons (r : RV) (rs : List RV) : vecL (r :: rs) = xorL r.xs (vecL rs) := by
  show rs.foldl _ (xorL [] r.xs) = _
  rw [vecL_from, nil_xorL]
theorem vecL_append (ps bs : List RV) : vecL (ps ++ bs) = xorL (vecL ps) (vecL bs) := by
  unfold vecL
  rw [List.foldl_append]
  exact vecL_from bs _
theorem vecL_len (rs : List RV) (h : ∀ r ∈ rs, r.xs.length ≤ 10) : (vecL rs).length ≤ 10 := by
  induction rs with
  | nil => simp [vecL]
  | cons r rs ih =>
    rw [vecL_cons, xorL_length]
    have h1 := h r List.mem_cons_self
    have h2 := ih (fun r hr => h r (List.mem_cons_of_mem _ hr))
    omega
theorem getD_take_rv (rs : List RV) (q i : Nat) (h : i < q) : (rs.take q).getD i .dflt = rs.getD i .dflt := by
  simp [List.getD_eq_getElem?_getD, h]
theorem getD_drop_rv (rs : List RV) (q i : Nat) : (rs.drop q).getD i .dflt = rs.getD (q + i) .dflt := by
  simp [List.getD_eq_getElem?_getD, List.getElem?_drop]
theorem RowsAt.take {w : World} {a : Option Addr} {n : Nat} {rs : List RV} (h : RowsAt w a n rs) (q : Nat) (hq : q ≤ n) : RowsAt w a q (rs.take q) := by
  refine ⟨by rw [List.length_take, h.1]; omega, fun i hi => by rw [getD_take_rv rs q i hi]; exact h.2.1 i (by omega), ?_⟩
  rcases h.2.2 with h0 | ⟨b, off, rfl, hc⟩
  · exact .inl (by omega)
  · exact .inr ⟨b, off, rfl, fun i hi => by rw [getD_take_rv rs q i hi]; exact hc i (by omega)⟩
theorem RowsAt.drop {w : World} {b off : Nat} {n : Nat} {rs : List RV} (h : RowsAt w (some ⟨b, off, none⟩) n rs) (q : Nat) (hq : q ≤ n) : RowsAt w (some ⟨b, off + q * 2, none⟩) (n - q) (rs.drop q) := by
  refine ⟨by rw [List.length_drop, h.1], fun i hi => by rw [getD_drop_rv]; exact h.2.1 _ (by omega), ?_⟩
  rcases h.2.2 with h0 | ⟨b', off', he, hc⟩
  · exact .inl (by omega)
  · simp only [Option.some.injEq, Addr.mk.injEq, and_true] at he
    obtain ⟨rfl, rfl⟩ := he
    refine .inr ⟨b, _, rfl, fun i hi => ?_⟩
    rw [getD_drop_rv, show off + q * 2 + i * 2 = off + (q + i) * 2 from by omega]
    exact hc (q + i) (by omega)

theorem info_row : (Tryz.prog.info? 40).map (fun i => (i.size, i.bytes)) = some (2, 40) := by kernel_rfl
theorem size_row (w : World) : (sizeOf 40).run Tryz.prog w = .ok 2 w := by
  cases h : Tryz.prog.info? 40 with
  | none => have := info_row; rw [h] at this; cases this
  | some i =>
    have := info_row
    rw [h] at this
    simp only [Option.map_some, Option.some.injEq, Prod.mk.injEq] at this
    simp [sizeOf, typeInfo, h, this.1]
theorem elem_rows : Tryz.prog.underlying 80 = some (.slice (Tryz.prog.elem 80)) := by kernel_rfl
theorem elem_rows' : Tryz.prog.elem 80 = 40 := by kernel_rfl
theorem slice_lo (b off n c q : Nat) (hq : q ≤ n) (hc : q < c) (w : World) :
    (Instr.sliceAt 80 (.slice (some ⟨b, off, none⟩) n c) (some (.int .i64 (q : Int))) none none).run Tryz.prog w = .ok (.slice (some ⟨b, off + q * 2, none⟩) (n - q) (c - q)) w := by
  rw [run_sliceAt_slice _ _ _ _ _ _ elem_rows, run_slice_l _ _ _ _ _ elem_rows _ _ (by omega) (by omega), elem_rows', size_row]
  have e : ¬ c = q := by omega
  simp [Result.andThen, sliced, e, Addr.add]
theorem slice_hi (b off n c q : Nat) (hc : q ≤ c) (w : World) :
    (Instr.sliceAt 80 (.slice (some ⟨b, off, none⟩) n c) none (some (.int .i64 (q : Int))) none).run Tryz.prog w = .ok (.slice (some ⟨b, off, none⟩) q c) w := by
  rw [run_sliceAt_slice _ _ _ _ _ _ elem_rows, run_slice_h _ _ _ _ _ elem_rows _ _ (by omega) (by omega), elem_rows', size_row]
  simp [Result.andThen, sliced, Addr.add]
set_option maxHeartbeats 600000 in
theorem vecs_any (N : Nat) : ∀ (a : Option Addr) (n c : Nat) (rs : List RV) (w : World), n ≤ N → RowsAt w a n rs → (∀ r ∈ rs, r.xs.length ≤ 10) → n ≤ 1048576 → n ≤ c → c ≤ 9223372036854775807 →
    Calls Tryz.prog 87 #[.slice a n c] w fun e w' => ∃ v, e = .returned v ∧ Own w' w.heap.size v (vecL rs) ∧ Below w.heap.size w w' := by
  induction N with
  | zero =>
    intro a n c rs w hN h hs hn hc hcc
    obtain rfl : n = 0 := by omega
    obtain rfl : rs = [] := List.eq_nil_of_length_eq_zero h.1
    go_enter Tryz.func87, Tryz.ntmps87
    go_wp2
    go_ret
    exact ⟨_, rfl, Own.nil _ _, Below.refl _ _⟩
  | succ N ih =>
    intro a n c rs w hN h hs hn hc hcc
    by_cases h0 : n = 0
    · subst h0
      obtain rfl : rs = [] := List.eq_nil_of_length_eq_zero h.1
      go_enter Tryz.func87, Tryz.ntmps87
      go_wp2
      go_ret
      exact ⟨_, rfl, Own.nil _ _, Below.refl _ _⟩
    by_cases h1 : n = 1
    · subst h1
      obtain ⟨r, rfl⟩ : ∃ r, rs = [r] := by
        match rs, h.1 with
        | [r], _ => exact ⟨r, rfl⟩
      have hr := h.2.1 0 (by omega)
      obtain ⟨b, off, rfl, hcl⟩ := h.at (i := 0) (by omega)
      obtain ⟨hc0, _⟩ := hcl 0 (by omega)
      have hl := hs r List.mem_cons_self
      have hv := hide (show xorL r.xs [] = vecL [r] from by rw [vecL_cons]; rfl)
      simp only [List.getD_cons_zero, Nat.zero_mul, Nat.add_zero] at hr hc0
      have hrn : r.n ≤ 10 := by rw [← hr.1]; exact hl
      have HR := hide hr
      clear h hcl hs hr ih
      go_enter Tryz.func87, Tryz.ntmps87
      go_wp2_with fail
      refine (xor_any r.a r.n r.c r.xs none 0 0 [] _ (unhide HR) (row_none _) (by omega) (by omega)).mono ?_
      rintro e w1 ⟨v, rfl, ho, hb⟩
      rw [unhide hv] at ho
      have HO := hide ho
      have HB := hide hb
      clear ho hb
      go_wp2
      go_ret
      exact ⟨_, rfl, unhide HO, unhide HB⟩
    have e0 : ((n : Int) == 0) = false := by simp; omega
    have e1 : ((n : Int) == 1) = false := by simp; omega
    obtain ⟨q, hq⟩ : ∃ q, n / 2 = q := ⟨_, rfl⟩
    have hqi : (n : Int) / 2 = (q : Int) := by omega
    have hqt : IntKind.i64.wrap ((n : Int).tdiv 2) = (q : Int) := by rw [Int.tdiv_eq_ediv_of_nonneg (by omega), hqi, IntKind.wrap_i64]; omega
    have hq1 : q ≤ N := by omega
    have hq2 : n - q ≤ N := by omega
    have hqn : q ≤ n := by omega
    have hqc : (q : Int) ≤ (c : Int) := by omega
    obtain ⟨b, off, rfl, hcl⟩ := h.at (i := 0) (by omega)
    have hb0 := (Below.refl w.heap.size w).drew
    have HT := hide ((h.take q hqn).below hb0)
    have HD := hide ((h.drop q hqn).below hb0)
    have HB0 := hide hb0
    have hqcn : q ≤ c := by omega
    have hs1 := slice_hi b off n c q hqcn
    have hs2 := slice_lo b off n c q hqn (by omega)
    have hq3 : q ≤ 1048576 := by omega
    have hq4 : n - q ≤ 1048576 := by omega
    have hq5 : n - q ≤ c - q := by omega
    have hq6 : c - q ≤ 9223372036854775807 := by omega
    have hst : Hid (∀ r ∈ rs.take q, r.xs.length ≤ 10) := hide (fun r hr => hs r (List.mem_of_mem_take hr))
    have hsd : Hid (∀ r ∈ rs.drop q, r.xs.length ≤ 10) := hide (fun r hr => hs r (List.mem_of_mem_drop hr))
    have HV := hide (show xorL (vecL (rs.take q)) (vecL (rs.drop q)) = vecL rs from by rw [← vecL_append, List.take_append_drop])
    have HL1 : Hid ((vecL (rs.take q)).length ≤ 1048576) := hide (by have := vecL_len _ (unhide hst); omega)
    have HL2 : Hid ((vecL (rs.drop q)).length ≤ 1048576) := hide (by have := vecL_len _ (unhide hsd); omega)
    have KA := hide (ih (some ⟨b, off, none⟩) q c (rs.take q) w.drew hq1 (unhide HT) (unhide hst) hq3 hqcn hcc)
    have KB : Hid (∀ w1, Below w.drew.heap.size w.drew w1 → Calls Tryz.prog 87 #[.slice (some ⟨b, off + q * 2, none⟩) (n - q) (c - q)] w1 fun e w' => ∃ v, e = .returned v ∧ Own w' w1.heap.size v (vecL (rs.drop q)) ∧ Below w1.heap.size w1 w') :=
      hide (fun w1 hb => ih (some ⟨b, off + q * 2, none⟩) (n - q) (c - q) (rs.drop q) w1 hq2 ((unhide HD).below hb) (unhide hsd) hq4 hq5 hq6)
    clear h hcl hs ih hq hqc hb0 HT HD hst hsd hq3 hq4 hq5 hq6 hq1 hq2
    go_enter Tryz.func87, Tryz.ntmps87
    go_wp2_with fail
    refine wp_region_any (by kernel_rfl) ?_
    change wpAny _ _ _ _ _ _ _ (World.drew _)
    refine wpAny_take (i := 0) (v := ?_) rfl (by kernel_rfl) (by kernel_rfl) (by kernel_rfl) (fun _ _ _ h => h) (Or.inl ⟨by rfl, ?f0⟩) ?_
    case f0 => (intro w; go_simp; try with_reducible rfl)
    refine wpAny_take (i := 1) (v := ?_) rfl (by kernel_rfl) (by kernel_rfl) (by kernel_rfl) (fun _ _ _ h => h) (Or.inl ⟨by rfl, ?f1⟩) ?_
    case f1 => (intro w; go_simp; try with_reducible rfl)
    refine wpAny_take (i := 2) (v := ?_) rfl (by kernel_rfl) (by kernel_rfl) (by kernel_rfl) (fun _ _ _ h => h) (Or.inl ⟨by rfl, ?f2⟩) ?_
    case f2 => (intro w; go_simp; try with_reducible rfl)
    refine wpAny_take (i := 4) (v := ?_) rfl (by kernel_rfl) (by kernel_rfl) (by kernel_rfl) (fun _ _ _ h => h) (Or.inl ⟨by rfl, ?f4⟩) ?_
    case f4 => (intro w; go_simp; try with_reducible rfl)
    refine wpAny_take (i := 5) (v := ?_) rfl (by kernel_rfl) (by kernel_rfl) (by kernel_rfl) (fun _ _ _ h => h) (Or.inl ⟨by rfl, ?f5⟩) ?_
    case f5 => (intro w; go_simp; try with_reducible rfl)
    refine wpAny_take (i := 6) (v := ?_) rfl (by kernel_rfl) (by kernel_rfl) (by kernel_rfl) (fun _ _ _ h => h) (Or.inl ⟨by rfl, ?f6⟩) ?_
    case f6 => (intro w; go_simp; try with_reducible rfl)
    refine wpAny_ready (rs := [3]) (by kernel_rfl) (by simp) ?_
    refine AllReady.cons rfl (fun K hK => ?_) AllReady.nil
    go_simp
    refine (unhide KA).mono ?_
    rintro e w1 ⟨v1, rfl, ho1, hb1⟩
    obtain ⟨a1, c1, rfl, hr1⟩ := ho1.row
    have HR1 := hide hr1
    have HB1 := hide hb1
    clear ho1 hr1 hb1 KA
    refine hK _ _ ?_
    clear hK K
    refine wpAny_ready (rs := [7]) (by kernel_rfl) (by simp) ?_
    refine AllReady.cons rfl (fun K hK => ?_) AllReady.nil
    go_simp
    refine (unhide KB _ (unhide HB1)).mono ?_
    rintro e w2 ⟨v2, rfl, ho2, hb2⟩
    obtain ⟨a2, c2, rfl, hr2⟩ := ho2.row
    have HR2 := hide hr2
    have HR12 := hide ((unhide HR1).below hb2)
    have HB2 := hide (below0 (below0 (unhide HB0) (unhide HB1)) hb2)
    clear ho2 hr2 hb2 HB1 HR1 KB
    refine hK _ _ ?_
    clear hK K
    refine wpAny_ready (rs := [8]) (by kernel_rfl) (by simp) ?_
    refine AllReady.cons rfl (fun K hK => ?_) AllReady.nil
    go_simp
    refine (xor_any _ _ _ _ _ _ _ _ _ (unhide HR12) (unhide HR2) (unhide HL1) (unhide HL2)).mono ?_
    rintro e w3 ⟨v3, rfl, ho3, hb3⟩
    rw [unhide HV] at ho3
    have HO3 := hide (ho3.mono (unhide HB2).size)
    have HB3 := hide (below0 (unhide HB2) hb3)
    obtain ⟨a3, c3, rfl, hr3⟩ := ho3.row
    clear ho3 hb3 hr3 HR2 HR12 HB2 HV HL1 HL2
    refine hK _ _ ?_
    clear hK K
    refine wpAny_take (i := 9) (v := ?_) rfl (by kernel_rfl) (by kernel_rfl) (by kernel_rfl) (fun _ _ _ h => h) (Or.inl ⟨by rfl, ?f9⟩) ?_
    case f9 => (intro w; go_simp; try with_reducible rfl)
    refine wpAny_done (by kernel_rfl) ?_ _
    go_wp2
    go_ret
    exact ⟨_, rfl, unhide HO3, unhide HB3⟩
end Go.Proofs.YtmdmipojbeppiaaGreatDoor
namespace Go.Proofs.YtmdmipojbeppiaaGreatDoor
open Go.RowKit Go.Sort
set_option linter.unusedVariables false
set_option maxRecDepth 4000

/-- A row, as it is compared. -/
def core (r : RV) : List Nat × ByteArray := (r.xs, r.s)
/-- Each of the rows lies below B, or in a block of words. -/
def Tys (w : World) (B : Nat) (ts : List RV) : Prop := ∀ r ∈ ts, r.n = 0 ∨ ∃ b off, r.a = some ⟨b, off, none⟩ ∧ (b < B ∨ ∃ cur m, w.heap[b]? = some (.cells cur 65 m))
theorem Tys.nil (w : World) (B : Nat) : Tys w B [] := fun r hr => by cases hr
theorem Tys.below {w w' : World} {B : Nat} {ts : List RV} (h : Tys w B ts) (hb : Below w.heap.size w w') : Tys w' B ts := fun r hr => by
  rcases h r hr with h0 | ⟨b, off, e, h1 | ⟨cur, m, hc⟩⟩
  · exact .inl h0
  · exact .inr ⟨b, off, e, .inl h1⟩
  · exact .inr ⟨b, off, e, .inr ⟨cur, m, (hb.block b (Array.getElem?_eq_some_iff.1 hc).1).trans hc⟩⟩
theorem Tys.mono {w : World} {B B' : Nat} {ts : List RV} (h : Tys w B ts) (hB : B ≤ B') : Tys w B' ts := fun r hr => by
  rcases h r hr with h0 | ⟨b, off, e, h1 | h1⟩
  · exact .inl h0
  · exact .inr ⟨b, off, e, .inl (by omega)⟩
  · exact .inr ⟨b, off, e, .inr h1⟩
theorem Tys.append {w : World} {B : Nat} {ts us : List RV} (h : Tys w B ts) (k : Tys w B us) : Tys w B (ts ++ us) := fun r hr => (List.mem_append.1 hr).elim (h r) (k r)
theorem OwnS.lt' {w : World} {B : Nat} {v : Value} {rs : List RV} (h : OwnS w B v rs) {k : Nat} (hk : v.ownBlock = some k) : B ≤ k ∧ k < w.heap.size := World.ownsRow.lt h k hk
theorem OwnS.blk {w : World} {B g : Nat} {v : Value} {rs : List RV} (h : OwnS w B v rs) (hk : v.ownBlock = some g) : ∃ cur, w.heap[g]? = some (.cells cur 40 (0, 0)) := by
  rcases h.2 with ⟨rfl, _⟩ | ⟨g', cap, cur, rfl, _, hg, _⟩
  · cases hk
  · simp only [Value.ownBlock, Option.some.injEq] at hk
    exact ⟨cur, by rw [← hk]; exact hg⟩
theorem tys_ne {w : World} {B b : Nat} {v : Value} {rs : List RV} (ho : OwnS w B v rs) (h : b < B ∨ ∃ cur m, w.heap[b]? = some (.cells cur 65 m)) : some b ≠ v.ownBlock := fun e => by
  obtain ⟨cur, hc⟩ := ho.blk e.symm
  rcases h with h | ⟨cur2, m, h⟩
  · have := (ho.lt' e.symm).1; omega
  · rw [hc] at h
    simp only [Option.some.injEq, Obj.cells.injEq] at h
    exact absurd h.2.1 (by decide)
theorem Tys.pushed {w w' : World} {B : Nat} {v : Value} {rs ts : List RV} (h : Tys w B ts) (ho : OwnS w B v rs) (hg : w.grownBy w' v.ownBlock) : Tys w' B ts := fun r hr => by
  rcases h r hr with h0 | ⟨b, off, e, h1⟩
  · exact .inl h0
  · have hne := tys_ne ho h1
    rcases h1 with h1 | ⟨cur, m, hc⟩
    · exact .inr ⟨b, off, e, .inl h1⟩
    · exact .inr ⟨b, off, e, .inr ⟨cur, m, (hg.block b (Array.getElem?_eq_some_iff.1 hc).1 hne).trans hc⟩⟩
theorem RowsIn.pushed {w w' : World} {B : Nat} {v : Value} {rs ts : List RV} (h : RowsIn w ts) (ht : Tys w B ts) (ho : OwnS w B v rs) (hg : w.grownBy w' v.ownBlock) : RowsIn w' ts := fun r hr => ⟨by
  refine (h r hr).1.kept hg ?_
  rcases ht r hr with h0 | ⟨b, off, e, h1⟩
  · exact .inl h0
  · refine .inr fun ad e2 => ?_
    rw [e] at e2
    simp only [Option.some.injEq] at e2
    subst e2
    exact tys_ne ho h1, (h r hr).2⟩
theorem Tys.own {w : World} {B B' : Nat} {a : Option Addr} {n c : Nat} {xs : List Nat} {s : ByteArray} (h : Own w B' (.slice a n c) xs) : Tys w B [⟨a, n, c, xs, s⟩] := fun r hr => by
  rw [List.mem_singleton.1 hr]
  rcases h.2.2 with ⟨e, h0⟩ | ⟨g, cap, cur, e, _, hg, _⟩
  · simp only [Value.slice.injEq] at e
    exact .inl e.2.1
  · simp only [Value.slice.injEq] at e
    exact .inr ⟨g, 0, e.1, .inr ⟨cur, _, hg⟩⟩
/-- What a round that gathers rows leaves. -/
def GaS (w wr : World) (a1 : Option Addr) (m1 c1 : Nat) (L : List (List Nat × ByteArray)) (ts : List RV) : Prop :=
  OwnS wr w.heap.size (.slice a1 m1 c1) ts ∧ RowsIn wr ts ∧ Tys wr w.heap.size ts ∧ ts.map core = L ∧ Below w.heap.size w wr
theorem GaS.nil (w : World) : GaS w w none 0 0 [] [] := ⟨OwnS.nil _ _, RowsIn.nil _, Tys.nil _ _, rfl, Below.refl _ _⟩
theorem GaS.below {w wr w1 : World} {a1 : Option Addr} {m1 c1 : Nat} {L : List (List Nat × ByteArray)} {ts : List RV} (h : GaS w wr a1 m1 c1 L ts) (hb : Below wr.heap.size wr w1) : GaS w w1 a1 m1 c1 L ts := ⟨h.1.below hb, h.2.1.below hb, h.2.2.1.below hb, h.2.2.2.1, below0 h.2.2.2.2 hb⟩
theorem GaS.push {w wr w1 : World} {a1 : Option Addr} {m1 c1 : Nat} {L : List (List Nat × ByteArray)} {ts : List RV} {r : RV} {v2 : Value} (h : GaS w wr a1 m1 c1 L ts) (hr : RowsIn wr [r]) (ht : Tys wr w.heap.size [r]) (ho : OwnS w1 w.heap.size v2 (ts ++ [r])) (hg : wr.grownBy w1 (Value.slice a1 m1 c1).ownBlock) (hb : Below w.heap.size wr w1) :
    ∃ a2 m2 c2, v2 = .slice a2 m2 c2 ∧ GaS w w1 a2 m2 c2 (L ++ [core r]) (ts ++ [r]) := by
  obtain ⟨h1, h2, h3, h4, h5⟩ := h
  have hR := (h2.append hr).pushed (h3.append ht) h1 hg
  obtain ⟨a2, c2, e, _⟩ := ho.rows hR
  exact ⟨a2, _, c2, e, by rw [← e]; exact ho, hR, (h3.append ht).pushed h1 hg, by rw [List.map_append, h4]; rfl, h5.trans hb⟩
/-- Each row has as much room as words. -/
def CapR (rs : List RV) : Prop := ∀ i, i < rs.length → (rs.getD i .dflt).n ≤ (rs.getD i .dflt).c
theorem tys_old {w w' : World} {r : RV} (h : RowAt w r.a r.n r.xs) : Tys w' w.heap.size [r] := fun x hx => by
  rw [List.mem_singleton.1 hx]
  rcases h.2.2 with h0 | ⟨b, off, e, hc⟩
  · exact .inl h0
  · by_cases h0 : r.n = 0
    · exact .inl h0
    · exact .inr ⟨b, off, e, .inl (World.block_lt_of_cell? w _ (hc 0 (by omega)))⟩
theorem take_snocR (ks : List RV) (k : Nat) (hk : k < ks.length) : ks.take k ++ [ks.getD k .dflt] = ks.take (k + 1) := by
  rw [List.take_succ_eq_append_getElem hk]
  simp [List.getD_eq_getElem?_getD, List.getElem?_eq_getElem hk]
theorem OwnS.shape {w : World} {B : Nat} {v : Value} {rs : List RV} (h : OwnS w B v rs) : ∃ a c, v = .slice a rs.length c := by
  rcases h.2 with ⟨rfl, h0⟩ | ⟨g, cap, cur, rfl, _⟩
  · exact ⟨none, 0, by rw [h0]⟩
  · exact ⟨_, cap, rfl⟩
theorem core_at {ts : List RV} {L : List (List Nat × ByteArray)} (h : ts.map core = L) {i : Nat} (hi : i < ts.length) : (L.getD i ([], ByteArray.empty)) = ((ts.getD i .dflt).xs, (ts.getD i .dflt).s) := by
  rw [← h, List.getD_eq_getElem?_getD, List.getElem?_map, List.getElem?_eq_getElem hi, List.getD_eq_getElem?_getD, List.getElem?_eq_getElem hi]
  rfl
theorem row_lit (w : World) (x : Nat) (hx : x < 18446744073709551616) : RowAt (w.alloc (.cells #[.int .u64 (x : Int)] 65)) (some ⟨w.heap.size, 0, none⟩) 1 [x] := row_new1 w x hx
theorem OwnS.at' {w : World} {B : Nat} {a : Option Addr} {m c : Nat} {ts : List RV} (h : OwnS w B (.slice a m c) ts) (hr : RowsIn w ts) : RowsAt w a m ts ∧ m = ts.length ∧ m ≤ c ∧ c ≤ 9223372036854775807 := by
  obtain ⟨a', c', e, h1, h2, h3⟩ := h.rows hr
  simp only [Value.slice.injEq] at e
  obtain ⟨rfl, rfl, rfl⟩ := e
  exact ⟨h1, rfl, h2, h3⟩
theorem short_core {w : World} {ts : List RV} {L : List (List Nat × ByteArray)} (hr : RowsIn w ts) (h : ts.map core = L) (hL : ∀ x ∈ L, x.1.length ≤ 10 ∧ x.2.size ≤ 1000) : shortR ts := fun i => by
  by_cases hi : i < ts.length
  · have hm : core (ts.getD i .dflt) ∈ L := by
      rw [← h, List.getD_eq_getElem?_getD, List.getElem?_eq_getElem hi]
      exact List.mem_map.2 ⟨_, List.getElem_mem hi, rfl⟩
    have := hL _ hm
    have hl := (hr.get hi).1.1
    exact ⟨by rw [← hl]; exact this.1, this.2⟩
  · rw [List.getD_eq_getElem?_getD, List.getElem?_eq_none (by omega)]
    exact ⟨Nat.zero_le _, Nat.zero_le _⟩
theorem rows_nil (w : World) : RowsAt w none 0 [] := ⟨rfl, fun i hi => by omega, .inl rfl⟩
theorem short_nil : shortR [] := fun i => ⟨Nat.zero_le _, Nat.zero_le _⟩
theorem CapR.of {w : World} {rs : List RV} (h : RowsIn w rs) : CapR rs := fun i hi => (h.get hi).2
theorem RowsIn.of {w : World} {a : Option Addr} {n : Nat} {rs : List RV} (h : RowsAt w a n rs) (hc : CapR rs) : RowsIn w rs := fun r hr => by
  obtain ⟨i, hi, rfl⟩ := List.mem_iff_getElem.1 hr
  have h1 := h.2.1 i (by rw [← h.1]; exact hi)
  have h2 := hc i hi
  rw [List.getD_eq_getElem?_getD, List.getElem?_eq_getElem hi] at h1 h2
  exact ⟨h1, h2⟩
/-- No row. -/
def zR : RV := ⟨none, 0, 0, [], ⟨#[]⟩⟩
def filR (us : List RV) (k : Nat) : List RV := us.take k ++ List.replicate (us.length - k) zR
theorem filR_zero (us : List RV) : filR us 0 = List.replicate us.length zR := by simp [filR]
theorem filR_all (us : List RV) : filR us us.length = us := by simp [filR]
theorem filR_length (us : List RV) (k : Nat) (hk : k ≤ us.length) : (filR us k).length = us.length := by simp [filR]; omega
theorem filR_succ (us : List RV) (k : Nat) (hk : k < us.length) : (filR us k).set k (us.getD k .dflt) = filR us (k + 1) := by
  unfold filR
  have hl : (us.take k).length = k := by simp; omega
  rw [List.set_append_right _ _ (by omega), hl, Nat.sub_self, List.take_succ_eq_append_getElem hk, List.append_assoc, show us.length - k = (us.length - (k + 1)) + 1 by omega, List.replicate_succ, List.set_cons_zero]
  simp [List.getD_eq_getElem?_getD, List.getElem?_eq_getElem hk]
theorem cellsR_set : ∀ (rs : List RV) (k : Nat) (r : RV), ((cellsR rs).set (k * 2) (.slice r.a r.n r.c)).set (k * 2 + 1) (.string r.s) = cellsR (rs.set k r)
  | [], k, r => by simp [cellsR]
  | x :: rs, 0, r => by simp [cellsR]
  | x :: rs, k + 1, r => by
    rw [show (k + 1) * 2 = k * 2 + 1 + 1 by omega]
    simp only [cellsR, List.set_cons_succ]
    rw [cellsR_set rs k r]
theorem cellsR_zeros : ∀ n : Nat, (madeCells #[.slice none 0 0, .string ⟨#[]⟩] (n * 2)).toList = cellsR (List.replicate n zR)
  | 0 => by simp [madeCells, cellsR]
  | n + 1 => by
    rw [List.replicate_succ', cellsR_append, ← cellsR_zeros n]
    unfold madeCells
    rw [show (n + 1) * 2 = n * 2 + 1 + 1 by omega]
    simp only [Array.toList_map, Array.toList_range]
    rw [List.range_succ, List.range_succ]
    simp [cellsR, zR, Nat.mul_mod_left]
theorem make_r (n : Nat) (hn : n ≤ 1048576) (wx : World) : (Instr.makeSlice 80 (.int .i64 (n : Int)) (.int .i64 (n : Int))).run Tryz.prog wx = .ok (.slice (some ⟨wx.heap.size, 0, none⟩) n n) (wx.alloc (.cells (madeCells #[.slice none 0 0, .string ⟨#[]⟩] (n * 2)) 40)) := by
  obtain ⟨i0, hi0, hz0, hzs, hzb⟩ := info_parts info_rowZ
  have := run_make (P := Tryz.prog) wx 80 40 i0 (.agg #[.slice none 0 0, .string ⟨#[]⟩]) Tryz.underlying80 hi0 hz0 .i64 .i64 (n : Int) (n : Int) (by omega) (Int.le_refl _) (by rw [hzb]; omega) (by omega)
  rw [hzs] at this
  simpa [Value.cells] using this
theorem made_r (w : World) (n : Nat) (hn : n ≤ 1048576) (rs : List RV) (hrs : rs = List.replicate n zR) : OwnS (w.alloc (.cells (madeCells #[.slice none 0 0, .string ⟨#[]⟩] (n * 2)) 40)) w.heap.size (.slice (some ⟨w.heap.size, 0, none⟩) n n) rs := by
  subst hrs
  refine ⟨cellsR_length _, .inr ⟨w.heap.size, n, madeCells #[.slice none 0 0, .string ⟨#[]⟩] (n * 2), by simp, Nat.le_refl _, heap_alloc_new w _, by simp, by unfold maxLen; omega, by simp [size_madeCells], ?_⟩⟩
  rw [cellsR_zeros, List.take_of_length_le (by rw [cellsR_length]; exact Nat.le_refl _)]
theorem OwnS.stored {w : World} {B g cap n : Nat} {rs : List RV} (h : OwnS w B (.slice (some ⟨g, 0, none⟩) n cap) rs) (k : Nat) (r : RV) :
    OwnS ((w.setCell ⟨g, k * 2, none⟩ (.slice r.a r.n r.c)).setCell ⟨g, k * 2 + 1, none⟩ (.string r.s)) B (.slice (some ⟨g, 0, none⟩) n cap) (rs.set k r) := by
  obtain rfl : n = rs.length := by
    rcases h.2 with ⟨e, _⟩ | ⟨g1, cap1, cur, e, _⟩
    · cases e
    · simp only [Value.slice.injEq] at e; exact e.2.1
  have ho : w.ownsRow B 40 2 (.slice (some ⟨g, 0, none⟩) rs.length cap) rs.length (cellsR rs) := h
  have := ((ho.stored (k * 2) (.slice r.a r.n r.c)).1.stored (k * 2 + 1) (.string r.s)).1
  rw [cellsR_set] at this
  show World.ownsRow _ B 40 2 _ (rs.set k r).length _
  rw [List.length_set]
  exact this
theorem OwnS.keptB {w w' : World} {B g : Nat} {v : Value} {rs : List RV} (h : OwnS w B v rs) (hg : w.grownBy w' (some g)) (hB : g < B) : OwnS w' B v rs := by
  refine World.ownsRow.kept h hg (.inr fun e => ?_)
  have := (World.ownsRow.lt h g e).1
  omega
theorem same_self (xs : List Nat) : decide (cnt (xorL xs xs) = 0) = true := decide_eq_true (cnt_of_zero _ (xorL_self_zero _))
theorem cap_take {rs : List RV} (h : CapR rs) (q : Nat) : CapR (rs.take q) := fun i hi => by
  have h1 : i < q := by have := List.length_take_le q rs; omega
  rw [List.getD_eq_getElem?_getD, List.getElem?_take_of_lt h1, ← List.getD_eq_getElem?_getD]
  exact h i (by have := List.length_take_le' q rs; omega)
theorem short_take {rs : List RV} (h : shortR rs) (q : Nat) : shortR (rs.take q) := fun i => by
  by_cases h1 : i < q
  · rw [List.getD_eq_getElem?_getD, List.getElem?_take_of_lt h1, ← List.getD_eq_getElem?_getD]
    exact h i
  · rw [List.getD_eq_getElem?_getD, List.getElem?_eq_none (by have := List.length_take_le q rs; omega)]
    exact short_nil 0
/-- 'append(own, rows...)'. -/
theorem wpList_appendS {w : World} {ops : Array Oper} {rest : List Oper} {o : Oper} {act : Act} {Q : Exit → Act → World → Prop} (hgd : o.guard = none) (s x : Operand)
    (ho : o.op = .call { callee := .builtin .append, args := #[s, x], argTypes := #[80, 80] }) (B B' : Nat) (v v2 : Value) (ts us : List RV)
    (hs : act.eval s = v) (hx : act.eval x = v2) (h : OwnS w B v ts) (hB : B ≤ w.heap.size) (h2 : OwnS w B' v2 us) (hn : ts.length + us.length ≤ 1048576)
    (hK : ∀ s' w', OwnS w' B s' (ts ++ us) → Below B w w' → wpList Tryz.prog ops Q rest (act.put o.dst s') w') : wpList Tryz.prog ops Q (o :: rest) act w := by
  obtain ⟨i0, hi, hz0, hz1, hz2⟩ := info_parts info_rowZ
  have h2' := h2
  rcases h2.2 with ⟨rfl, h0⟩ | ⟨g, cap, cur, rfl, hb, hg, hnc, hm, hsz, ht⟩
  · have hus : us = [] := List.eq_nil_of_length_eq_zero h0
    subst hus
    refine wpList_append_own_none hgd s x 80 ho B 40 i0 2 Tryz.underlying80 hi v ts.length (cellsR ts) hs h hx ?_
    exact hK v w (by rw [List.append_nil]; exact h) (Below.refl _ _)
  · refine wpList_append_own _ hgd s x 80 ho B 40 i0 (.agg #[.slice none 0 0, .string ⟨#[]⟩]) 2 40 Tryz.underlying80 hi hz0 hz1 hz2 rfl (by decide) v ts.length (cellsR ts) hs h ⟨g, 0, none⟩ us.length cap (cellsR us) hx (cellsR_length us) (World.ownsRow.cells h2' (g := g) rfl) (cellsR_one us) (by unfold maxLen; omega) (by omega) hB ?_
    intro v' w' hown hgrow _
    refine hK v' w' ?_ ((Below.refl _ _).grown hgrow hB fun k hk => (World.ownsRow.lt h k hk).1)
    show w'.ownsRow B 40 2 v' (ts ++ us).length (cellsR (ts ++ us))
    rw [List.length_append, cellsR_append]
    exact hown
/-- append(own, rows...) as one step of a region that draws its order. -/
theorem append_regionR {ops : Array Oper} {o : Oper} {a : Act} {w : World} {K : Act → World → Prop} {Q : Exit → Act → World → Prop} {E : Prop} (hg : o.guard = none) (s x : Operand)
    (ho : o.op = .call { callee := .builtin .append, args := #[s, x], argTypes := #[80, 80] }) (B : Nat) (v : Value) (ts : List RV) (hs : a.eval s = v) (hown : OwnS w B v ts)
    (ad : Addr) (m c : Nat) (us : List RV) (hx : a.eval x = .slice (some ad) m c) (hl : us.length = m) (hnews : ∀ j u, (cellsR us)[j]? = some u → w.cell? (ad.add j) = some u) (hn : ts.length + m ≤ 1000000) (hB : B ≤ w.heap.size)
    (h : ∀ v' w', OwnS w' B v' (ts ++ us) → w.grownBy w' v.ownBlock → K (a.put o.dst v') w') :
    if Region.wanted o (yielded ops a.tmps) = true then Oper.wp Tryz.prog o a w K Q else E := by
  obtain ⟨i0, hi, hz0, hz1, hz2⟩ := info_parts info_rowZ
  rw [if_pos (by simp [Region.wanted, hg])]
  refine wp_append_own w s x 80 ho B 40 i0 (.agg #[.slice none 0 0, .string ⟨#[]⟩]) 2 40 Tryz.underlying80 hi hz0 hz1 hz2 rfl (by decide) v ts.length (cellsR ts) hs hown ad m c (cellsR us) hx (by rw [cellsR_length, hl]) hnews (cellsR_one us) (by unfold maxLen; omega) (by omega) hB (fun v' w' h2 h3 _ => h v' w' ?_ h3)
  show w'.ownsRow B 40 2 v' (ts ++ us).length (cellsR (ts ++ us))
  rw [List.length_append, cellsR_append, hl]
  exact h2
end Go.Proofs.YtmdmipojbeppiaaGreatDoor
