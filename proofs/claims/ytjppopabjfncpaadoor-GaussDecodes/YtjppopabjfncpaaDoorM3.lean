/-
  Contracts of words.Set and bucketlineref01.Set: for every row of at most 2^20 words, every int, both values.
  Contracts of words.from, words.Valid and bucketlineref01.Valid: for every int and every row.
  Contracts of words.Valid, words.Unit and bucketlineref01.Valid, Unit: for every int and every row of at most 2^20 words.
  Contracts of words.Unit, bucketlineref01.Unit: for all ints.
  Whether a row is one of k blocks, as a Bool.
  Plain mathematics of peeling: rows of bits without the known ones, what is told one after the other, what is left; what two ways of it share. Of no program.
  Memory in which one block is turned ('grownBy' with that block), rows beside it, and 'copy' as a step of a walk. No condition.
  Contracts of peel.set and peel.drop, which change a row of one's own.
  Rows that can be read and have as much room as words ('RowsIn'). No condition.
  Slices of rows of one's own, and 'append' of one row; 'append(own, make([]uint64, m)...)'.
-/
import Derived.Test.YtjppopabjfncpaaDoorM1
import Derived.Lib.SliceRun
import Derived.Test.YtjppopabjfncpaaDoorM2
import Derived.Laws.IdiomCopy
import Derived.Laws.NewBlocks
import Derived.Deep.RegionLaw
import Derived.OwnWalk
import Derived.Lib.AppendZeros
import Derived.Lib.AppendZerosOnto
namespace Go.Proofs.YtjppopabjfncpaaDoor
open Go.RowKit
set_option linter.unusedVariables false
set_option maxRecDepth 4000

def setI (xs : List Nat) (i : Int) (on : Bool) : List Nat := if i < 0 then xs else setB xs i.toNat on

theorem or_num (x : Nat) (i : Int) (hx : x < 18446744073709551616) : bits .or .u64 (x : Int) ((2 ^ (i % 64).toNat : Nat) : Int) = ((setW x (i % 64).toNat true : Nat) : Int) := by
  have h : (i % 64).toNat < 64 := by omega
  have h2 : 2 ^ (i % 64).toNat < 2 ^ 64 := Nat.pow_lt_pow_right (by decide) h
  rw [u64_or_nat x _ hx (by omega), or_setW]
theorem andNot_num (x : Nat) (i : Int) (hx : x < 18446744073709551616) : bits .andNot .u64 (x : Int) ((2 ^ (i % 64).toNat : Nat) : Int) = ((setW x (i % 64).toNat false : Nat) : Int) := by
  have h : (i % 64).toNat < 64 := by omega
  have h2 : 2 ^ (i % 64).toNat < 2 ^ 64 := Nat.pow_lt_pow_right (by decide) h
  rw [u64_andNot_nat x _ hx (by omega), andNot_setW x _ hx h]

theorem div_wrap (i : Int) (q : Nat) (h0 : 0 ≤ i) (hi : i ≤ 9223372036854775807) (hq : i / 64 = (q : Int)) : IntKind.i64.wrap (i.tdiv 64) = (q : Int) := by
  rw [Int.tdiv_eq_ediv_of_nonneg h0, hq]
  simp [IntKind.wrap, IntKind.bits, IntKind.signed]
  omega
theorem set_store {w wr : World} {B g cap q : Nat} {xs : List Nat} {i : Int} {on : Bool} (h0 : 0 ≤ i) (hq : i / 64 = (q : Int)) (hx : smalls xs) (hB : B ≤ g) (ho : Own wr B (.slice (some ⟨g, 0, none⟩) xs.length cap) xs) (hb : Below B w wr) :
    Own (wr.setCell ⟨g, q, none⟩ (.int .u64 ((setW (xs.getD q 0) (i % 64).toNat on : Nat) : Int))) B (.slice (some ⟨g, 0, none⟩) xs.length cap) (setI xs i on) ∧
    Below B w (wr.setCell ⟨g, q, none⟩ (.int .u64 ((setW (xs.getD q 0) (i % 64).toNat on : Nat) : Int))) := by
  have h1 := ho.stored q (setW (xs.getD q 0) (i % 64).toNat on) (setW_lt _ _ _ (hx.get _) (by omega))
  refine ⟨?_, hb.setCell (by exact hB) _⟩
  unfold setI setB
  rw [if_neg (by omega), show i.toNat / 64 = q by omega, show i.toNat % 64 = (i % 64).toNat by omega]
  exact h1
theorem Own.drew {w : World} {B : Nat} {v : Value} {xs : List Nat} (h : Own w B v xs) : Own w.drew B v xs := ⟨h.1, h.2.drew⟩
theorem set_stored {w wr : World} {B g cap q : Nat} {xs : List Nat} {i : Int} {on : Bool} (h0 : 0 ≤ i) (hq : i / 64 = (q : Int)) (hx : smalls xs) (hB : B ≤ g) (ho : Own wr B (.slice (some ⟨g, 0, none⟩) xs.length cap) xs) (hb : Below B w wr) :
    Own (wr.setCell ⟨g, q, none⟩ (.int .u64 ((setW (xs.getD q 0) (i % 64).toNat on : Nat) : Int))).drew B (.slice (some ⟨g, 0, none⟩) xs.length cap) (setI xs i on) ∧
    Below B w (wr.setCell ⟨g, q, none⟩ (.int .u64 ((setW (xs.getD q 0) (i % 64).toNat on : Nat) : Int))).drew := by
  obtain ⟨h1, h2⟩ := set_store (on := on) h0 hq hx hB ho hb
  exact ⟨h1.drew, h2.drew⟩
theorem setI_out {xs : List Nat} {i : Int} {on : Bool} (h : ¬ (0 ≤ i ∧ i / 64 < (xs.length : Int))) : setI xs i on = xs := by
  unfold setI
  split
  · rfl
  · exact setB_out xs _ on (by omega)

set_option maxHeartbeats 1000000 in
theorem set_any (a : Option Addr) (n c : Nat) (xs : List Nat) (i : Int) (on : Bool) (w : World) (h : RowAt w a n xs) (hn : n ≤ 1048576) (hi : i ≤ 9223372036854775807) :
    Calls Tryd.prog 64 #[.slice a n c, .int .i64 i, .bool on] w fun e w' => ∃ v, e = .returned v ∧ Own w' w.heap.size v (setI xs i on) ∧ Below w.heap.size w w' := by
  obtain rfl : n = xs.length := h.1.symm
  by_cases hin : 0 ≤ i ∧ i / 64 < (xs.length : Int)
  · obtain ⟨h0, hlt⟩ := hin
    obtain ⟨q, hq⟩ := Int.eq_ofNat_of_zero_le (show 0 ≤ i / 64 by omega)
    have hqw := div_wrap i q h0 hi hq
    have hql : q < xs.length := by omega
    have hql' : (q : Int) < (xs.length : Int) := by omega
    have HM := hide (fun wx => mask_any i h0 hi wx)
    go_enter Tryd.func64, Tryd.ntmps64
    go_wp2_with fail
    refine (clone_any a xs.length c xs _ h (by omega)).mono ?_
    rintro e w1 ⟨v, rfl, ho, hb⟩
    have HO := hide ho
    obtain ⟨g, cap, rfl, hBg, hgs, hcg, hfg⟩ := ho.at (by omega)
    have hcell := hcg q (by omega)
    have hfz := hfg q
    have hx := h.2.1.get q
    have hw := within_pos (some ⟨g, 0, none⟩) xs.length cap i h0 hi w1
    rw [show decide (i / 64 < (xs.length : Int)) = true by simp; omega] at hw
    have HW := hide hw
    clear hw hcg hfg ho hlt
    have R1 := hide (set_stored (on := true) h0 hq h.2.1 hBg (unhide HO) hb)
    have R2 := hide (set_stored (on := false) h0 hq h.2.1 hBg (unhide HO) hb)
    have hor := or_num (xs.getD q 0) i hx
    have han := andNot_num (xs.getD q 0) i hx
    generalize (2 ^ (i % 64).toNat : Nat) = mk at *
    generalize xs.getD q 0 = x at *
    generalize setW x (i % 64).toNat true = y at *
    generalize setW x (i % 64).toNat false = z at *
    clear HO h hb
    cases on with
    | true =>
      go_wp2_with (go_at_call 80; refine (unhide HW).mono ?_; rintro e w' ⟨rfl, rfl⟩)
      go_region_with (go_at_call 81; refine (unhide HM _).mono ?_; rintro e w' ⟨rfl, rfl⟩)
      all_goals go_wp2
      all_goals go_ret
      all_goals exact ⟨_, rfl, (unhide R1).1, (unhide R1).2⟩
    | false =>
      go_wp2_with (go_at_call 80; refine (unhide HW).mono ?_; rintro e w' ⟨rfl, rfl⟩)
      go_region_with (go_at_call 81; refine (unhide HM _).mono ?_; rintro e w' ⟨rfl, rfl⟩)
      all_goals go_wp2
      all_goals go_ret
      all_goals exact ⟨_, rfl, (unhide R2).1, (unhide R2).2⟩
  · have hw : ∀ (a1 : Option Addr) (c1 : Nat) (wx : World), Calls Tryd.prog 80 #[.slice a1 xs.length c1, .int .i64 i] wx fun e w' => e = .returned (.bool false) ∧ w' = wx := by
      intro a1 c1 wx
      by_cases h0 : 0 ≤ i
      · have := within_pos a1 xs.length c1 i h0 hi wx
        rwa [show decide (i / 64 < (xs.length : Int)) = false by simp; omega] at this
      · exact within_neg a1 xs.length c1 i (by omega) wx
    have HW := hide hw
    have HE := hide (setI_out (on := on) hin)
    clear hw hin
    go_enter Tryd.func64, Tryd.ntmps64
    go_wp2_with fail
    refine (clone_any a xs.length c xs _ h (by omega)).mono ?_
    rintro e w1 ⟨v, rfl, ho, hb⟩
    have HO := hide ho
    obtain ⟨a1, c1, rfl, hr⟩ := ho.row
    clear ho hr
    go_wp2_with (go_at_call 80; refine (unhide HW a1 c1 _).mono ?_; rintro e w' ⟨rfl, rfl⟩)
    go_ret
    exact ⟨_, rfl, by rw [unhide HE]; exact unhide HO, hb⟩

theorem rset_num (x k : Nat) (on : Bool) (hx : x < 18446744073709551616) (hk : k < 64) (hne : x.testBit k ≠ on) : bits .xor .u64 (x : Int) ((2 ^ k : Nat) : Int) = ((setW x k on : Nat) : Int) := by
  have h2 : 2 ^ k < 2 ^ 64 := Nat.pow_lt_pow_right (by decide) hk
  rw [u64_xor_nat x _ hx (by omega)]
  unfold setW
  rw [if_neg hne]
theorem setI_same {xs : List Nat} {i : Int} {on : Bool} {q : Nat} (h0 : 0 ≤ i) (hq : i / 64 = (q : Int)) (he : (xs.getD q 0).testBit (i % 64).toNat = on) : setI xs i on = xs := by
  unfold setI setB setW
  rw [if_neg (by omega), show i.toNat / 64 = q by omega, show i.toNat % 64 = (i % 64).toNat by omega, if_pos he]
  apply List.ext_getElem (by simp)
  intro j h1 h2
  rw [List.getElem_set]
  split
  · rename_i e; subst e; simp [List.getD_eq_getElem?_getD, List.getElem?_eq_getElem h2]
  · rfl

set_option maxHeartbeats 1000000 in
theorem rset_any (a : Option Addr) (n c : Nat) (xs : List Nat) (i : Int) (on : Bool) (w : World) (h : RowAt w a n xs) (hn : n ≤ 1048576) (hi : i ≤ 9223372036854775807) :
    Calls Tryd.prog 42 #[.slice a n c, .int .i64 i, .bool on] w fun e w' => ∃ v, e = .returned v ∧ Own w' w.heap.size v (setI xs i on) ∧ Below w.heap.size w w' := by
  obtain rfl : n = xs.length := h.1.symm
  by_cases hin : 0 ≤ i ∧ i / 64 < (xs.length : Int)
  · obtain ⟨h0, hlt⟩ := hin
    obtain ⟨q, hq⟩ := Int.eq_ofNat_of_zero_le (show 0 ≤ i / 64 by omega)
    have hqw := div_wrap i q h0 hi hq
    have hql : q < xs.length := by omega
    have hql' : (q : Int) < (xs.length : Int) := by omega
    have hc0 : decide (i < 0) = false := by simp; omega
    have hG := fun (wx : World) (hr : RowAt wx a xs.length xs) => rget_in a xs.length c xs i wx hr h0 hi hlt (by omega)
    have hge : getB xs i.toNat = (xs.getD q 0).testBit (i % 64).toNat := by
      unfold getB
      rw [show i.toNat / 64 = q by omega, show i.toNat % 64 = (i % 64).toNat by omega]
    rw [hge] at hG
    clear hge
    by_cases hsame : (xs.getD q 0).testBit (i % 64).toNat = on
    · have HE := hide (setI_same h0 hq hsame)
      rw [hsame] at hG
      have HG := hide hG
      clear hG hsame
      go_enter Tryd.func42, Tryd.ntmps42
      go_wp2_with (first | (at_builtin; refine wpList_append_nil rfl _ _ rfl a xs.length c xs rfl rfl h (by omega) ?_; intro v w1 ho hb))
      refine (unhide HG _ (h.below hb)).mono ?_
      rintro e w2 ⟨rfl, rfl⟩
      have hbb : (on == on) = true := by simp
      have HO := hide ho
      have HB := hide hb
      clear ho hb h
      go_wp2
      go_ret
      exact ⟨_, rfl, by rw [unhide HE]; exact unhide HO, unhide HB⟩
    · have HG := hide hG
      have hx := h.2.1.get q
      have hbe : ((xs.getD q 0).testBit (i % 64).toNat == on) = false := by simpa using hsame
      have hxo := rset_num (xs.getD q 0) (i % 64).toNat on hx (by omega) hsame
      have hmk := mask_num i
      clear hG
      go_enter Tryd.func42, Tryd.ntmps42
      go_wp2_with (first | (at_builtin; refine wpList_append_nil rfl _ _ rfl a xs.length c xs rfl rfl h (by omega) ?_; intro v w1 ho hb))
      refine (unhide HG _ (h.below hb)).mono ?_
      rintro e w2 ⟨rfl, rfl⟩
      obtain ⟨g, cap, rfl, hBg, hgs, hcg, hfg⟩ := ho.at (by omega)
      have hcell := hcg q (by omega)
      have hfz := hfg q
      have R1 := hide (set_store (on := on) h0 hq h.2.1 hBg ho hb)
      generalize setW (xs.getD q 0) (i % 64).toNat on = y at *
      generalize (xs.getD q 0).testBit (i % 64).toNat = tb at *
      generalize xs.getD q 0 = x at *
      clear hcg hfg ho hb h HG hsame
      rw [← hmk] at hxo
      clear hmk
      go_wp2
      go_ret
      exact ⟨_, rfl, (unhide R1).1, (unhide R1).2⟩
  · have HE := hide (setI_out (on := on) hin)
    by_cases h0 : 0 ≤ i
    · have hc0 : decide (i < 0) = false := by simp; omega
      have hc1 : decide ((xs.length : Int) ≤ i / 64) = true := by simp; omega
      clear hin
      go_enter Tryd.func42, Tryd.ntmps42
      go_wp2_with (first | (at_builtin; refine wpList_append_nil rfl _ _ rfl a xs.length c xs rfl rfl h (by omega) ?_; intro v w1 ho hb))
      go_ret
      exact ⟨_, rfl, by rw [unhide HE]; exact ho, hb⟩
    · have hc0 : decide (i < 0) = true := by simp; omega
      clear hin
      go_enter Tryd.func42, Tryd.ntmps42
      go_wp2_with (first | (at_builtin; refine wpList_append_nil rfl _ _ rfl a xs.length c xs rfl rfl h (by omega) ?_; intro v w1 ho hb))
      go_ret
      exact ⟨_, rfl, by rw [unhide HE]; exact ho, hb⟩
end Go.Proofs.YtjppopabjfncpaaDoor
namespace Go.Proofs.YtjppopabjfncpaaDoor
open Go.RowKit
set_option linter.unusedVariables false
set_option maxRecDepth 4000

def zer (xs : List Nat) : Nat → Nat → List Nat
  | _, 0 => xs
  | o, m + 1 => zer (xs.set o 0) (o + 1) m
theorem zer_length : ∀ (m o : Nat) (xs : List Nat), (zer xs o m).length = xs.length
  | 0, _, _ => rfl
  | m + 1, o, xs => by rw [zer, zer_length m]; simp
theorem zer_getD : ∀ (m o : Nat) (xs : List Nat) (j : Nat), (zer xs o m).getD j 0 = if o ≤ j ∧ j < o + m then 0 else xs.getD j 0
  | 0, o, xs, j => by simp [zer]; omega
  | m + 1, o, xs, j => by
    rw [zer, zer_getD m (o + 1), getD_set]
    by_cases h1 : o + 1 ≤ j ∧ j < o + 1 + m
    · rw [if_pos h1, if_pos (by omega)]
    · rw [if_neg h1]
      by_cases h2 : j = o
      · subst h2
        rw [if_pos (c := j ≤ j ∧ j < j + (m + 1)) (by omega)]
        split
        · rfl
        · exact getD_of_le (by omega)
      · rw [if_neg (by omega), if_neg (by omega)]
theorem Own.cleared {B g cap : Nat} : ∀ (m o : Nat) (xs : List Nat) (w : World), Own w B (.slice (some ⟨g, 0, none⟩) xs.length cap) xs →
    Own (w.setCells g o (List.replicate m (.int .u64 0))) B (.slice (some ⟨g, 0, none⟩) xs.length cap) (zer xs o m)
  | 0, _, _, _, h => h
  | m + 1, o, xs, w, h => by
    have h1 := h.stored o 0 (by decide)
    have h2 := Own.cleared m (o + 1) (xs.set o 0) (w.setCell ⟨g, o, none⟩ (.int .u64 0)) (by simpa using h1)
    rw [List.replicate_succ]
    have h3 : (xs.set o 0).length = xs.length := by simp
    rw [h3] at h2
    exact h2
theorem Below.cells {B g : Nat} {w0 : World} (hg : B ≤ g) : ∀ (vs : List Value) (o : Nat) (w : World), Below B w0 w → Below B w0 (w.setCells g o vs)
  | [], _, _, h => h
  | v :: r, o, w, h => Below.cells hg r (o + 1) (w.setCell ⟨g, o, none⟩ v) (h.setCell (by exact hg) v)

/-- The mask from bit r on. -/
def fmask (r : Nat) : Nat := 18446744073709551615 * 2 ^ r % 18446744073709551616
theorem fmask_lt (r : Nat) : fmask r < 18446744073709551616 := Nat.mod_lt _ (by decide)
theorem zero_u64 (w : World) : (zeroValue 33).run Tryd.prog w = .ok (.int .u64 0) w := by kernel_rfl

theorem clear_run {w1 : World} {B g cap : Nat} {xs : List Nat} {q : Nat} (ho : Own w1 B (.slice (some ⟨g, 0, none⟩) xs.length cap) xs) (hq : q ≤ xs.length) :
    ∀ ty, (Builtin.clear_ #[35] ty #[.slice (some ⟨g, 0, none⟩) q cap]).run Tryd.prog w1 = .ok (.tuple #[]) (w1.setCells g 0 (List.replicate q (.int .u64 0))) := by
  intro ty
  by_cases e : q = 0
  · subst e
    simp [Builtin.clear_, run_underlying Tryd.underlying35, World.setCells]
  · obtain ⟨g', cap', hv, _, _, hcg, hfg⟩ := ho.at (by omega)
    simp only [Value.slice.injEq, Option.some.injEq, Addr.mk.injEq, and_true, true_and] at hv
    obtain ⟨rfl, rfl⟩ := hv
    exact Lib.run_clear_slice w1 35 33 ty (.int .u64 0) Tryd.underlying35 zero_u64 rfl rfl g 0 q cap (by omega) (fun j hj => by rw [Nat.zero_add, hcg j (by omega)]; rfl) (fun j hj => by rw [Nat.zero_add]; exact hfg j)

theorem from_num (x r : Nat) (hx : x < 18446744073709551616) : bits .and .u64 (x : Int) (IntKind.u64.wrap (18446744073709551615 * 2 ^ r)) = ((x &&& fmask r : Nat) : Int) := by
  have e : IntKind.u64.wrap (18446744073709551615 * 2 ^ r) = ((fmask r : Nat) : Int) := by
    rw [IntKind.wrap_u64]; unfold fmask; simp
  rw [e, u64_and_nat x _ hx (fmask_lt r)]

set_option maxHeartbeats 1000000 in
theorem from_lt (a : Option Addr) (n c : Nat) (xs : List Nat) (k : Int) (q : Nat) (w : World) (h : RowAt w a n xs) (hn : n ≤ 1048576) (h0 : 0 ≤ k) (hk : k ≤ 9223372036854775807) (hq : k / 64 = (q : Int)) (hqn : q < n) :
    Calls Tryd.prog 55 #[.slice a n c, .int .i64 k] w fun e w' => ∃ v, e = .returned v ∧ Own w' w.heap.size v ((zer xs 0 q).set q (xs.getD q 0 &&& fmask (k % 64).toNat)) ∧ Below w.heap.size w w' := by
  obtain rfl : n = xs.length := h.1.symm
  have hqw := div_wrap k q h0 hk hq
  have hql' : (q : Int) < (xs.length : Int) := by omega
  go_enter Tryd.func55, Tryd.ntmps55
  go_wp2_with fail
  refine (clone_any a xs.length c xs _ h (by omega)).mono ?_
  rintro e w1 ⟨v, rfl, ho, hb⟩
  obtain ⟨g, cap, rfl, hBg, hgs, hcg, hfg⟩ := ho.at (by omega)
  have hcap := ho.cap
  have hcl := clear_run ho (by omega : q ≤ xs.length)
  have ho2 := Own.cleared q 0 xs w1 ho
  have hb2 := Below.cells (w0 := w) hBg (List.replicate q (.int .u64 0)) 0 w1 hb
  generalize w1.setCells g 0 (List.replicate q (.int .u64 0)) = w2 at *
  have hlz := zer_length q 0 xs
  rw [← hlz] at ho2
  obtain ⟨g', cap', hv, _, hgs2, hcg2, hfg2⟩ := ho2.at (by omega)
  simp only [Value.slice.injEq, Option.some.injEq, Addr.mk.injEq, and_true, true_and] at hv
  obtain ⟨rfl, rfl⟩ := hv
  have hcell := hcg2 q (by omega)
  have hfz := hfg2 q
  rw [zer_getD, if_neg (by omega)] at hcell
  have hnum := from_num (xs.getD q 0) (k % 64).toNat (h.2.1.get q)
  have hlt2 : xs.getD q 0 &&& fmask (k % 64).toNat < 18446744073709551616 := Nat.lt_of_le_of_lt Nat.and_le_left (h.2.1.get q)
  have hst := ho2.stored q (xs.getD q 0 &&& fmask (k % 64).toNat) hlt2
  have hbs := hb2.setCell (p := ⟨g, q, none⟩) (by exact hBg) (.int .u64 ((xs.getD q 0 &&& fmask (k % 64).toNat : Nat) : Int))
  rw [hlz] at hst
  obtain ⟨y, hy⟩ : ∃ y, y = xs.getD q 0 &&& fmask (k % 64).toNat := ⟨_, rfl⟩
  rw [← hy] at hnum hst hbs
  have HST := hide hst
  have HBS := hide hbs
  have HY := hide hy
  clear hcg hfg hcg2 hfg2 ho ho2 hb hb2 h hlz hst hbs hlt2 hy
  generalize xs.getD q 0 = x at hnum hcell
  go_wp2
  go_ret
  exact ⟨_, rfl, by rw [← unhide HY]; exact unhide HST, unhide HBS⟩

set_option maxHeartbeats 1000000 in
theorem from_all (a : Option Addr) (n c : Nat) (xs : List Nat) (k : Int) (w : World) (h : RowAt w a n xs) (hn : n ≤ 1048576) (hn0 : 0 < n) (h0 : 0 ≤ k) (hk : k ≤ 9223372036854775807) (hq : k / 64 = (n : Int)) :
    Calls Tryd.prog 55 #[.slice a n c, .int .i64 k] w fun e w' => ∃ v, e = .returned v ∧ Own w' w.heap.size v (zer xs 0 n) ∧ Below w.heap.size w w' := by
  obtain rfl : n = xs.length := h.1.symm
  have hqw := div_wrap k xs.length h0 hk hq
  go_enter Tryd.func55, Tryd.ntmps55
  go_wp2_with fail
  refine (clone_any a xs.length c xs _ h (by omega)).mono ?_
  rintro e w1 ⟨v, rfl, ho, hb⟩
  obtain ⟨g, cap, rfl, hBg, hgs, hcg, hfg⟩ := ho.at (by omega)
  have hcap := ho.cap
  have hcl := clear_run ho (Nat.le_refl _)
  have ho2 := Own.cleared xs.length 0 xs w1 ho
  have hb2 := Below.cells (w0 := w) hBg (List.replicate xs.length (.int .u64 0)) 0 w1 hb
  generalize w1.setCells g 0 (List.replicate xs.length (.int .u64 0)) = w2 at *
  have HST := hide ho2
  have HBS := hide hb2
  clear hcg hfg ho ho2 hb hb2 h
  go_wp2
  go_ret
  exact ⟨_, rfl, unhide HST, unhide HBS⟩
end Go.Proofs.YtjppopabjfncpaaDoor
namespace Go.Proofs.YtjppopabjfncpaaDoor
open Go.RowKit
set_option linter.unusedVariables false
set_option maxRecDepth 4000

/-- A row of k blocks: just so many words, no bit beyond. -/
def ValidP (k : Int) (xs : List Nat) : Prop := 0 < xs.length ∧ xs.length = sizeOfK k ∧ ∀ i, k.toNat ≤ i → getB xs i = false

theorem sizeOfK_pos {k : Int} (h : 0 < sizeOfK k) : 1 ≤ k ∧ k ≤ 128 ∧ sizeOfK k = ((k + 63) / 64).toNat := by
  unfold sizeOfK at *
  split at h
  · omega
  · rename_i h1
    rw [if_neg h1]
    omega
theorem fmask_bit (r t : Nat) (ht : t < 64) : (fmask r).testBit t = decide (r ≤ t) := by
  unfold fmask
  rw [show (18446744073709551616 : Nat) = 2 ^ 64 from rfl, Nat.testBit_mod_two_pow, Nat.testBit_mul_two_pow, show (18446744073709551615 : Nat) = 2 ^ 64 - 1 from rfl, Nat.testBit_two_pow_sub_one]
  simp [ht]
  omega
theorem and_fmask (x r : Nat) (hx : x < 18446744073709551616) : (x &&& fmask r = 0) ↔ ∀ t, t < 64 → r ≤ t → x.testBit t = false := by
  constructor
  · intro h t ht hr
    have h1 : (x &&& fmask r).testBit t = false := by rw [h]; simp
    rw [Nat.testBit_and, fmask_bit r t ht] at h1
    simpa [hr] using h1
  · intro h
    apply Nat.eq_of_testBit_eq
    intro t
    rw [Nat.testBit_and, Nat.zero_testBit]
    by_cases ht : t < 64
    · rw [fmask_bit r t ht]
      by_cases hr : r ≤ t
      · simp [h t ht hr]
      · simp [hr]
    · have : x.testBit t = false := Nat.testBit_lt_two_pow (Nat.lt_of_lt_of_le (show x < 2 ^ 64 by omega) (Nat.pow_le_pow_right (by decide) (by omega)))
      simp [this]
theorem valid_all {k : Int} {xs : List Nat} (h0 : 0 < xs.length) (hs : xs.length = sizeOfK k) (hq : k / 64 = (xs.length : Int)) : cnt (zer xs 0 xs.length) = 0 ∧ ValidP k xs := by
  constructor
  · apply cnt_zero_of
    intro i hi
    rw [zer_length] at hi
    rw [zer_getD, if_pos (by omega)]
  · exact ⟨h0, hs, fun i hi => getB_out xs i (by omega)⟩
theorem valid_lt {k : Int} {xs : List Nat} {q : Nat} (hx : smalls xs) (h0 : 0 < xs.length) (hs : xs.length = sizeOfK k) (hk : 0 ≤ k) (hq : k / 64 = (q : Int)) (hqn : q < xs.length) :
    cnt ((zer xs 0 q).set q (xs.getD q 0 &&& fmask (k % 64).toNat)) = 0 ↔ ValidP k xs := by
  have hp := sizeOfK_pos (k := k) (by omega)
  have hqe : q + 1 = xs.length := by omega
  have hy : smalls ((zer xs 0 q).set q (xs.getD q 0 &&& fmask (k % 64).toNat)) := by
    have hz : smalls (zer xs 0 q) := by
      intro z hz
      obtain ⟨i, hi, rfl⟩ := List.getElem_of_mem hz
      have h1 := zer_getD q 0 xs i
      have h2 : (zer xs 0 q).getD i 0 = (zer xs 0 q)[i] := by simp [List.getD_eq_getElem?_getD, List.getElem?_eq_getElem hi]
      have h3 := hx.get i
      rw [h2] at h1
      show (zer xs 0 q)[i] < 18446744073709551616
      rw [h1]
      split
      · decide
      · exact h3
    exact hz.set _ _ (Nat.lt_of_le_of_lt Nat.and_le_left (hx.get q))
  have e1 : cnt ((zer xs 0 q).set q (xs.getD q 0 &&& fmask (k % 64).toNat)) = 0 ↔ xs.getD q 0 &&& fmask (k % 64).toNat = 0 := by
    constructor
    · intro h
      have h1 := (all_zero_iff _).1 (zero_of_cnt _ hy h) q
      rw [getD_set, if_pos ⟨rfl, by rw [zer_length]; exact hqn⟩] at h1
      exact h1
    · intro h
      apply cnt_zero_of
      intro i hi
      rw [List.length_set, zer_length] at hi
      rw [getD_set]
      split
      · exact h
      · rw [zer_getD, if_pos]
        rename_i hne
        rw [zer_length] at hne
        omega
  rw [e1, and_fmask _ _ (hx.get q)]
  constructor
  · intro h
    refine ⟨h0, hs, fun i hi => ?_⟩
    by_cases hi2 : 64 * xs.length ≤ i
    · exact getB_out xs i hi2
    · unfold getB
      rw [show i / 64 = q by omega]
      exact h (i % 64) (by omega) (by omega)
  · intro h t ht hr
    have := h.2.2 (64 * q + t) (by omega)
    rwa [getB_at xs q t ht] at this

/-- A Bool comes back that tells whether P holds. -/
def RetB (e : Ending) (P : Prop) : Prop := ∃ b, e = .returned (.bool b) ∧ (b = true ↔ P)
theorem RetB.no {P : Prop} (h : ¬ P) : RetB (.returned (.bool false)) P := ⟨false, rfl, by simp [h]⟩
theorem RetB.yes {P : Prop} (h : P) : RetB (.returned (.bool true)) P := ⟨true, rfl, by simp [h]⟩
set_option maxHeartbeats 1000000 in
theorem valid_any (a : Option Addr) (n c : Nat) (xs : List Nat) (k : Int) (w : World) (h : RowAt w a n xs) :
    Calls Tryd.prog 35 #[.int .i64 k, .slice a n c] w fun e w' => RetB e (ValidP k xs) ∧ Below w.heap.size w w' := by
  obtain rfl : n = xs.length := h.1.symm
  have HZ := hide (size_any k)
  by_cases h0 : xs.length = 0
  · have hb0 : ((xs.length : Int) == 0) = true := by rw [h0]; rfl
    have HF := hide (show ¬ ValidP k xs from fun hv => by have := hv.1; omega)
    clear h h0
    go_enter Tryd.func35, Tryd.ntmps35
    go_wp2
    go_ret
    exact ⟨RetB.no (unhide HF), Below.refl _ _⟩
  · have hb0 : ((xs.length : Int) == 0) = false := by simp only [beq_eq_false_iff_ne, ne_eq]; omega
    by_cases hs : xs.length = sizeOfK k
    · have hp := sizeOfK_pos (k := k) (by omega)
      have hb1 : ((xs.length : Int) != ((sizeOfK k : Nat) : Int)) = false := by rw [hs]; simp
      have hn2 : xs.length ≤ 1048576 := by omega
      obtain ⟨q, hq⟩ := Int.eq_ofNat_of_zero_le (show 0 ≤ k / 64 by omega)
      have he : ∀ q : Nat, ((q : Int) == 0) = true ↔ q = 0 := fun q => by
        by_cases e : q = 0
        · subst e; simp
        · simp [e]
      have HE := hide he
      clear he
      by_cases hqn : q < xs.length
      · have HV := hide (valid_lt h.2.1 (by omega) hs (by omega) hq hqn)
        have HF := hide (fun wx (hr : RowAt wx a xs.length xs) => from_lt a xs.length c xs k q wx hr hn2 (by omega) (by omega) hq hqn)
        have hres : ((zer xs 0 q).set q (xs.getD q 0 &&& fmask (k % 64).toNat)).length = xs.length := by rw [List.length_set, zer_length]
        have HR := hide hres
        generalize (zer xs 0 q).set q (xs.getD q 0 &&& fmask (k % 64).toNat) = res at *
        clear hq hqn hs hres
        go_enter Tryd.func35, Tryd.ntmps35
        go_wp2_with (go_at_call 36; refine (unhide HZ _).mono ?_; rintro e w' ⟨rfl, rfl⟩)
        refine (unhide HF _ h).mono ?_
        rintro e w1 ⟨v, rfl, ho, hb⟩
        obtain ⟨a1, c1, rfl, hr⟩ := ho.row
        go_wp2_with fail
        refine (count_any a1 _ c1 _ _ hr (by rw [unhide HR]; omega)).mono ?_
        rintro e w2 ⟨rfl, rfl⟩
        clear ho
        go_wp2
        go_ret
        exact ⟨⟨_, rfl, (unhide HE _).trans (unhide HV)⟩, hb⟩
      · have hqe : k / 64 = (xs.length : Int) := by omega
        have HV := hide (valid_all (by omega) hs hqe)
        have HF := hide (fun wx (hr : RowAt wx a xs.length xs) => from_all a xs.length c xs k wx hr hn2 (by omega) (by omega) (by omega) hqe)
        have HR := hide (zer_length xs.length 0 xs)
        generalize zer xs 0 xs.length = res at *
        clear hq hqn hqe hs
        go_enter Tryd.func35, Tryd.ntmps35
        go_wp2_with (go_at_call 36; refine (unhide HZ _).mono ?_; rintro e w' ⟨rfl, rfl⟩)
        refine (unhide HF _ h).mono ?_
        rintro e w1 ⟨v, rfl, ho, hb⟩
        obtain ⟨a1, c1, rfl, hr⟩ := ho.row
        go_wp2_with fail
        refine (count_any a1 _ c1 _ _ hr (by rw [unhide HR]; omega)).mono ?_
        rintro e w2 ⟨rfl, rfl⟩
        clear ho
        go_wp2
        go_ret
        exact ⟨⟨_, rfl, (unhide HE _).trans ⟨fun _ => (unhide HV).2, fun _ => (unhide HV).1⟩⟩, hb⟩
    · have hb1 : ((xs.length : Int) != ((sizeOfK k : Nat) : Int)) = true := by rw [bne_iff_ne]; omega
      have HF := hide (show ¬ ValidP k xs from fun hv => hs hv.2.1)
      clear h h0 hs
      go_enter Tryd.func35, Tryd.ntmps35
      go_wp2_with (go_at_call 36; refine (unhide HZ _).mono ?_; rintro e w' ⟨rfl, rfl⟩)
      go_ret
      exact ⟨RetB.no (unhide HF), Below.refl _ _⟩

set_option maxHeartbeats 1000000 in
theorem rvalid_any (a : Option Addr) (n c : Nat) (xs : List Nat) (k : Int) (w : World) (h : RowAt w a n xs) :
    Calls Tryd.prog 34 #[.int .i64 k, .slice a n c] w fun e w' => RetB e (ValidP k xs) ∧ w' = w := by
  obtain rfl : n = xs.length := h.1.symm
  have HZ := hide (rsize_any k)
  by_cases h0 : sizeOfK k = 0
  · have hb0 : (((sizeOfK k : Nat) : Int) == 0) = true := by rw [h0]; rfl
    have HF := hide (show ¬ ValidP k xs from fun hv => by have := hv.1; have := hv.2.1; omega)
    clear h h0
    go_enter Tryd.func34, Tryd.ntmps34
    go_wp2_with (go_at_call 22; refine (unhide HZ _).mono ?_; rintro e w' ⟨rfl, rfl⟩)
    go_ret
    exact ⟨RetB.no (unhide HF), rfl⟩
  · have hb0 : (((sizeOfK k : Nat) : Int) == 0) = false := by simp only [beq_eq_false_iff_ne, ne_eq]; omega
    by_cases hs : xs.length = sizeOfK k
    · have hp := sizeOfK_pos (k := k) (by omega)
      have hb1 : ((xs.length : Int) != ((sizeOfK k : Nat) : Int)) = false := by rw [hs]; simp
      have hn2 : xs.length ≤ 1048576 := by omega
      have HS := hide hs
      have hl0 : 0 < xs.length := by omega
      obtain ⟨hp1, hp2, hp3⟩ := hp
      have HP := hide hp3
      clear hs h0 hp3
      go_enter Tryd.func34, Tryd.ntmps34
      go_wp2_with (go_at_call 22; refine (unhide HZ _).mono ?_; rintro e w' ⟨rfl, rfl⟩)
      go_loop [5] (fun t => ∃ i : Nat, k.toNat ≤ i ∧ i ≤ 64 * xs.length ∧ t = .int .i64 (i : Int) ∧ Hid (∀ j, k.toNat ≤ j → j < i → getB xs j = false)) (fun t => 64 * xs.length - (intOf t).toNat)
      case atStart => exact ⟨k.toNat, Nat.le_refl _, by have := unhide HS; have := unhide HP; omega, by rw [show ((k.toNat : Nat) : Int) = k by omega], hide (fun j h1 h2 => by omega)⟩
      case round =>
        obtain ⟨i, hi1, hi2, rfl, HL⟩ := hrel
        by_cases hlt : i < 64 * xs.length
        · have hlt' : (i : Int) < 64 * (xs.length : Int) := by omega
          have hG := rget_in a xs.length c xs (i : Int) _ h (by omega) (by omega) (by omega) (by omega)
          rw [Int.toNat_natCast] at hG
          by_cases hg : getB xs i = true
          · rw [hg] at hG
            have HG := hide hG
            have HF := hide (show ¬ ValidP k xs from fun hv => by have := hv.2.2 i hi1; rw [hg] at this; cases this)
            clear hG h hg
            go_wp2_with (go_at_call 45; refine (unhide HG).mono ?_; rintro e w' ⟨rfl, rfl⟩)
            go_ret
            exact ⟨RetB.no (unhide HF), rfl⟩
          · have hg' : getB xs i = false := by simpa using hg
            rw [hg'] at hG
            have HG := hide hG
            have HL' := hide (show ∀ j, k.toNat ≤ j → j < i + 1 → getB xs j = false from fun j h1 h2 => by
              by_cases e : j = i
              · rw [e]; exact hg'
              · exact unhide HL j h1 (by omega))
            clear hG h hg hg'
            go_wp2_with (go_at_call 45; refine (unhide HG).mono ?_; rintro e w' ⟨rfl, rfl⟩)
            go_round
            case rel => exact ⟨i + 1, by omega, by omega, by go_num, HL'⟩
            case measure => simp [intOf]; omega
        · have hge : ¬ ((i : Int) < 64 * (xs.length : Int)) := by omega
          have HF := hide (show ValidP k xs from ⟨hl0, unhide HS, fun j hj => by
            by_cases e : j < i
            · exact unhide HL j hj e
            · exact getB_out xs j (by omega)⟩)
          clear h
          go_wp2
          go_ret
          exact ⟨RetB.yes (unhide HF), rfl⟩
    · have hb1 : ((xs.length : Int) != ((sizeOfK k : Nat) : Int)) = true := by rw [bne_iff_ne]; omega
      have HF := hide (show ¬ ValidP k xs from fun hv => hs hv.2.1)
      clear h h0 hs
      go_enter Tryd.func34, Tryd.ntmps34
      go_wp2_with (go_at_call 22; refine (unhide HZ _).mono ?_; rintro e w' ⟨rfl, rfl⟩)
      go_ret
      exact ⟨RetB.no (unhide HF), rfl⟩
end Go.Proofs.YtjppopabjfncpaaDoor
namespace Go.Proofs.YtjppopabjfncpaaDoor
open Go.RowKit
set_option linter.unusedVariables false
set_option maxRecDepth 4000

/-- The row of one block. -/
def unitL (k i : Int) : List Nat := if i < 0 ∨ k ≤ i then [] else setI (List.replicate (sizeOfK k) 0) i true

theorem own_made {w w' : World} {n : Nat} (h : w'.ownsRow w.heap.size 33 1 (.slice (some ⟨w.heap.size, 0, none⟩) n n) n (madeCells (Value.int .u64 0).cells (n * 1)).toList) :
    Own w' w.heap.size (.slice (some ⟨w.heap.size, 0, none⟩) n n) (List.replicate n 0) := by
  refine ⟨fun x hx => ?_, ?_⟩
  · rw [(List.mem_replicate.1 hx).2]; show 0 < 18446744073709551616; decide
  · have e : cellsU (List.replicate n 0) = (madeCells (Value.int .u64 0).cells (n * 1)).toList := by
      rw [show (Value.int .u64 0).cells = #[Value.int .u64 0] from rfl, toList_madeCells_one]
      simp [cellsU]
    rw [e, List.length_replicate]
    exact h
theorem sizeOfK_le (k : Int) : sizeOfK k ≤ 2 := by
  unfold sizeOfK
  split
  · omega
  · omega

set_option maxHeartbeats 1000000 in
theorem unit_any (k i : Int) (w : World) (hi : i ≤ 9223372036854775807) :
    Calls Tryd.prog 39 #[.int .i64 k, .int .i64 i] w fun e w' => ∃ v, e = .returned v ∧ Own w' w.heap.size v (unitL k i) ∧ Below w.heap.size w w' := by
  have HZ := hide (size_any k)
  by_cases hin : i < 0 ∨ k ≤ i
  · have HU := hide (show unitL k i = [] from by unfold unitL; rw [if_pos hin])
    by_cases h1 : i < 0
    · have hd1 : decide (i < 0) = true := by simp; omega
      clear hin
      go_enter Tryd.func39, Tryd.ntmps39
      go_wp2
      go_ret
      exact ⟨_, rfl, by rw [unhide HU]; exact Own.nil _ _, Below.refl _ _⟩
    · have hd1 : decide (i < 0) = false := by simp; omega
      have hd2 : decide (k ≤ i) = true := by simp; omega
      clear hin
      go_enter Tryd.func39, Tryd.ntmps39
      go_wp2
      go_ret
      exact ⟨_, rfl, by rw [unhide HU]; exact Own.nil _ _, Below.refl _ _⟩
  · have HU := hide (show unitL k i = setI (List.replicate (sizeOfK k) 0) i true from by unfold unitL; rw [if_neg hin])
    have hd1 : decide (i < 0) = false := by simp; omega
    have hd2 : decide (k ≤ i) = false := by simp; omega
    have hs := sizeOfK_le k
    obtain ⟨i0, hi0, hz0, hz1, hz2⟩ := info_parts info_u64
    obtain ⟨wm, hrun, hown, hgrow⟩ := run_make_full (P := Tryd.prog) w w.heap.size 35 33 i0 (.int .u64 0) 1 Tryd.underlying35 hi0 hz0 hz1 .i64 .i64 (sizeOfK k) (by rw [hz2]; omega) (by unfold maxLen; omega) (Nat.le_refl _)
    have ho := own_made hown
    have hb : Below w.heap.size w wm := (Below.refl _ _).grown hgrow (Nat.le_refl _) (fun k hk => by cases hk)
    obtain ⟨a1, c1, hv, hr⟩ := ho.row
    rw [List.length_replicate] at hv hr
    have hr1 : RowAt wm (some ⟨w.heap.size, 0, none⟩) (sizeOfK k) (List.replicate (sizeOfK k) 0) := by
      simp only [Value.slice.injEq] at hv
      rw [hv.1]; exact hr
    clear hin hown hgrow ho hv hr
    go_enter Tryd.func39, Tryd.ntmps39
    go_wp2_with (go_at_call 36; refine (unhide HZ _).mono ?_; rintro e w' ⟨rfl, hw⟩; obtain rfl := hw.symm)
    refine (set_any _ _ _ _ _ _ _ hr1 (by omega) hi).mono ?_
    rintro e w2 ⟨v, rfl, ho2, hb2⟩
    have HO := hide ho2
    have HB := hide (hb.trans (hb2.mono hb.size))
    clear ho2 hb2 hr1
    have hbs := hb.size
    go_wp2
    go_ret
    exact ⟨_, rfl, by rw [unhide HU]; exact (unhide HO).mono hbs, unhide HB⟩

set_option maxHeartbeats 1000000 in
theorem runit_any (k i : Int) (w : World) (hi : i ≤ 9223372036854775807) :
    Calls Tryd.prog 26 #[.int .i64 k, .int .i64 i] w fun e w' => ∃ v, e = .returned v ∧ Own w' w.heap.size v (unitL k i) ∧ Below w.heap.size w w' := by
  have HZ := hide (rsize_any k)
  by_cases h00 : sizeOfK k = 0
  · have hb0 : (((sizeOfK k : Nat) : Int) == 0) = true := by rw [h00]; rfl
    have HU := hide (show unitL k i = [] from by
      unfold unitL
      split
      · rfl
      · rw [h00]; unfold setI; split
        · rfl
        · simp [setB])
    clear h00
    go_enter Tryd.func26, Tryd.ntmps26
    go_wp2_with (go_at_call 22; refine (unhide HZ _).mono ?_; rintro e w' ⟨rfl, hw⟩; obtain rfl := hw.symm)
    go_ret
    exact ⟨_, rfl, by rw [unhide HU]; exact Own.nil _ _, Below.refl _ _⟩
  · have hb0 : (((sizeOfK k : Nat) : Int) == 0) = false := by simp only [beq_eq_false_iff_ne, ne_eq]; omega
    by_cases hin : i < 0 ∨ k ≤ i
    · have HU := hide (show unitL k i = [] from by unfold unitL; rw [if_pos hin])
      by_cases h1 : i < 0
      · have hd1 : decide (i < 0) = true := by simp; omega
        clear hin
        go_enter Tryd.func26, Tryd.ntmps26
        go_wp2_with (go_at_call 22; refine (unhide HZ _).mono ?_; rintro e w' ⟨rfl, hw⟩; obtain rfl := hw.symm)
        go_ret
        exact ⟨_, rfl, by rw [unhide HU]; exact Own.nil _ _, Below.refl _ _⟩
      · have hd1 : decide (i < 0) = false := by simp; omega
        have hd2 : decide (k ≤ i) = true := by simp; omega
        clear hin
        go_enter Tryd.func26, Tryd.ntmps26
        go_wp2_with (go_at_call 22; refine (unhide HZ _).mono ?_; rintro e w' ⟨rfl, hw⟩; obtain rfl := hw.symm)
        go_ret
        exact ⟨_, rfl, by rw [unhide HU]; exact Own.nil _ _, Below.refl _ _⟩
    · have HU := hide (show unitL k i = setI (List.replicate (sizeOfK k) 0) i true from by unfold unitL; rw [if_neg hin])
      have hd1 : decide (i < 0) = false := by simp; omega
      have hd2 : decide (k ≤ i) = false := by simp; omega
      have hs := sizeOfK_le k
      obtain ⟨i0, hi0, hz0, hz1, hz2⟩ := info_parts info_u64
      obtain ⟨wm, hrun, hown, hgrow⟩ := run_make_full (P := Tryd.prog) w w.heap.size 35 33 i0 (.int .u64 0) 1 Tryd.underlying35 hi0 hz0 hz1 .i64 .i64 (sizeOfK k) (by rw [hz2]; omega) (by unfold maxLen; omega) (Nat.le_refl _)
      have ho := own_made hown
      have hb : Below w.heap.size w wm := (Below.refl _ _).grown hgrow (Nat.le_refl _) (fun k hk => by cases hk)
      obtain ⟨a1, c1, hv, hr⟩ := ho.row
      rw [List.length_replicate] at hv hr
      have hr1 : RowAt wm (some ⟨w.heap.size, 0, none⟩) (sizeOfK k) (List.replicate (sizeOfK k) 0) := by
        simp only [Value.slice.injEq] at hv
        rw [hv.1]; exact hr
      clear hin hown hgrow ho hv hr
      go_enter Tryd.func26, Tryd.ntmps26
      go_wp2_with (go_at_call 22; refine (unhide HZ _).mono ?_; rintro e w' ⟨rfl, hw⟩; obtain rfl := hw.symm)
      refine (rset_any _ _ _ _ _ _ _ hr1 (by omega) hi).mono ?_
      rintro e w2 ⟨v, rfl, ho2, hb2⟩
      have HO := hide ho2
      have HB := hide (hb.trans (hb2.mono hb.size))
      clear ho2 hb2 hr1
      have hbs := hb.size
      go_wp2
      go_ret
      exact ⟨_, rfl, by rw [unhide HU]; exact (unhide HO).mono hbs, unhide HB⟩
end Go.Proofs.YtjppopabjfncpaaDoor
namespace Go.Proofs.YtjppopabjfncpaaDoor
open Go.RowKit
set_option linter.unusedVariables false
set_option maxRecDepth 4000

theorem smalls_zeros (n : Nat) : smalls (List.replicate n 0) := fun x hx => by rw [(List.mem_replicate.1 hx).2]; show 0 < 18446744073709551616; decide
theorem size_room {k : Int} (hs : 0 < sizeOfK k) : k.toNat ≤ 64 * sizeOfK k ∧ 1 ≤ k ∧ k ≤ 128 := by
  obtain ⟨h1, h2, h3⟩ := sizeOfK_pos hs
  omega
/-- Is it a row of k blocks? -/
def validB (k : Int) (xs : List Nat) : Bool := decide (0 < xs.length) && decide (xs.length = sizeOfK k) && (List.range (64 * xs.length)).all fun i => decide (i < k.toNat) || !getB xs i
theorem validB_iff {k : Int} {xs : List Nat} : validB k xs = true ↔ ValidP k xs := by
  unfold validB ValidP
  rw [Bool.and_eq_true, Bool.and_eq_true, decide_eq_true_eq, decide_eq_true_eq, List.all_eq_true, and_assoc]
  refine and_congr_right fun _ => and_congr_right fun _ => ?_
  constructor
  · intro h i hi
    by_cases hl : i < 64 * xs.length
    · have := h i (List.mem_range.2 hl)
      rw [decide_eq_false (by omega)] at this
      simpa using this
    · exact getB_out xs i (by omega)
  · intro h i _
    by_cases hi : i < k.toNat
    · simp [hi]
    · rw [h i (by omega)]; simp
theorem valid_size {k : Int} {xs : List Nat} (h : validB k xs = true) : 0 < sizeOfK k ∧ xs.length = sizeOfK k ∧ ∀ i, getB xs i = true → i < k.toNat := by
  obtain ⟨h1, h2, h3⟩ := validB_iff.1 h
  refine ⟨by omega, h2, fun i hi => ?_⟩
  rcases Nat.lt_or_ge i k.toNat with h0 | h0
  · exact h0
  · rw [h3 i h0] at hi; cases hi
theorem retV {e : Ending} {k : Int} {xs : List Nat} (h : RetB e (ValidP k xs)) : e = .returned (.bool (validB k xs)) := by
  obtain ⟨b, rfl, hb⟩ := h
  have : b = validB k xs := by
    cases hv : validB k xs
    · rw [← Bool.not_eq_true]
      intro h
      rw [validB_iff.2 (hb.1 h)] at hv
      cases hv
    · exact hb.2 (validB_iff.1 hv)
  rw [this]
end Go.Proofs.YtjppopabjfncpaaDoor
namespace Go.Proofs.YtjppopabjfncpaaDoor
open Go.RowKit Go.Sort
set_option linter.unusedVariables false
set_option maxRecDepth 4000

/-- x without the bits of y. -/
def anW (x y : Nat) : Nat := x ^^^ (x &&& y)
theorem anW_bit (x y i : Nat) : (anW x y).testBit i = (x.testBit i && !y.testBit i) := by
  unfold anW
  rw [Nat.testBit_xor, Nat.testBit_and]
  cases x.testBit i <;> cases y.testBit i <;> rfl
theorem anW_lt (x y : Nat) (hx : x < 18446744073709551616) : anW x y < 18446744073709551616 := by
  unfold anW
  have : x &&& y ≤ x := Nat.and_le_left
  exact Nat.xor_lt_two_pow (n := 64) (by omega) (by omega)
theorem anW_zero (x : Nat) : anW x 0 = x := by simp [anW]
theorem anW_num (x y : Nat) (hx : x < 18446744073709551616) (hy : y < 18446744073709551616) : bits .andNot .u64 (x : Int) (y : Int) = ((anW x y : Nat) : Int) := by
  rw [u64_andNot_nat x y hx hy]
  congr 1
  apply Nat.eq_of_testBit_eq
  intro i
  rw [anW_bit, Nat.testBit_and, show 18446744073709551615 - y = 2 ^ 64 - (y + 1) by omega, Nat.testBit_two_pow_sub_succ (by omega)]
  by_cases hi : i < 64
  · simp [hi]
  · have hz : x.testBit i = false := Nat.testBit_lt_two_pow (Nat.lt_of_lt_of_le (show x < 2 ^ 64 by omega) (Nat.pow_le_pow_right (by decide) (by omega)))
    simp [hz]

theorem ext_bits {a b : List Nat} (hl : a.length = b.length) (ha : smalls a) (hb : smalls b) (h : ∀ i, getB a i = getB b i) : a = b := by
  apply ext_getD hl
  intro i _
  apply Nat.eq_of_testBit_eq
  intro j
  by_cases hj : j < 64
  · have := h (64 * i + j)
    rwa [getB_at a i j hj, getB_at b i j hj] at this
  · have hp : (2 : Nat) ^ 64 ≤ 2 ^ j := Nat.pow_le_pow_right (by decide) (by omega)
    have h1 := ha.get i
    have h2 := hb.get i
    rw [Nat.testBit_lt_two_pow (by omega), Nat.testBit_lt_two_pow (by omega)]
theorem upTo_ext {a b : List Nat} (h : ∀ i, getB a i = getB b i) : ∀ n, upTo a n = upTo b n
  | 0 => rfl
  | n + 1 => by unfold upTo; rw [upTo_ext h n, h n]
theorem cnt_big (xs : List Nat) (d : Nat) : cnt xs = upTo xs (64 * xs.length + d) := by
  rw [cnt_upTo, upTo_same xs (64 * xs.length) (fun i hi => getB_out xs i hi)]
theorem cnt_congr {a b : List Nat} (h : ∀ i, getB a i = getB b i) : cnt a = cnt b := by
  rw [cnt_big a (64 * b.length), cnt_big b (64 * a.length), upTo_ext h, Nat.add_comm]
theorem upTo_zero {vs : List Nat} : ∀ n, upTo vs n = 0 ↔ ∀ i, i < n → getB vs i = false
  | 0 => by simp [upTo]
  | n + 1 => by
    unfold upTo
    constructor
    · intro h i hi
      have h1 := (upTo_zero (vs := vs) n).1 (by omega)
      by_cases e : i = n
      · subst e; cases hg : getB vs i
        · rfl
        · rw [hg] at h; simp at h
      · exact h1 i (by omega)
    · intro h
      rw [(upTo_zero n).2 (fun i hi => h i (by omega)), h n (by omega)]; rfl
theorem upTo_one {vs : List Nat} : ∀ n, upTo vs n = 1 ↔ ∃ b, b < n ∧ getB vs b = true ∧ ∀ i, i < n → i ≠ b → getB vs i = false
  | 0 => by simp [upTo]
  | n + 1 => by
    unfold upTo
    cases hg : getB vs n
    · simp only [Bool.false_eq_true, if_false, Nat.add_zero]
      rw [upTo_one n]
      constructor
      · rintro ⟨b, hb, h1, h2⟩
        refine ⟨b, by omega, h1, fun i hi hne => ?_⟩
        by_cases e : i = n
        · rw [e]; exact hg
        · exact h2 i (by omega) hne
      · rintro ⟨b, hb, h1, h2⟩
        have : b ≠ n := fun e => by rw [e, hg] at h1; cases h1
        exact ⟨b, by omega, h1, fun i hi hne => h2 i (by omega) hne⟩
    · simp only [if_true]
      constructor
      · intro h
        have h1 := (upTo_zero n).1 (show upTo vs n = 0 by omega)
        exact ⟨n, by omega, hg, fun i hi hne => h1 i (by omega)⟩
      · rintro ⟨b, hb, h1, h2⟩
        have hbn : b = n := by
          by_cases e : b = n
          · exact e
          · have := h2 n (by omega) (Ne.symm e); rw [hg] at this; cases this
        subst hbn
        rw [(upTo_zero b).2 (fun i hi => h2 i (by omega) (by omega))]
theorem cnt_none {xs : List Nat} : cnt xs = 0 ↔ ∀ i, getB xs i = false := by
  rw [cnt_upTo, upTo_zero]
  constructor
  · intro h i
    by_cases hi : i < 64 * xs.length
    · exact h i hi
    · exact getB_out xs i (by omega)
  · exact fun h i _ => h i
theorem cnt_one {xs : List Nat} : cnt xs = 1 ↔ ∃ b, ∀ i, getB xs i = decide (i = b) := by
  rw [cnt_upTo, upTo_one]
  constructor
  · rintro ⟨b, hb, h1, h2⟩
    refine ⟨b, fun i => ?_⟩
    by_cases e : i = b
    · rw [e, h1]; simp
    · rw [decide_eq_false e]
      by_cases hi : i < 64 * xs.length
      · exact h2 i hi e
      · exact getB_out xs i (by omega)
  · rintro ⟨b, h⟩
    have hb : getB xs b = true := by rw [h b]; simp
    refine ⟨b, ?_, hb, fun i _ hne => by rw [h i, decide_eq_false hne]⟩
    rcases Nat.lt_or_ge b (64 * xs.length) with h0 | h0
    · exact h0
    · rw [getB_out xs b h0] at hb; cases hb
theorem firstI_bit : ∀ {xs : List Nat}, smalls xs → (∃ i, getB xs i = true) → ∃ f : Nat, firstI xs = (f : Int) ∧ getB xs f = true ∧ ∀ j, j < f → getB xs j = false
  | [], _, h => by
    obtain ⟨i, hi⟩ := h
    rw [getB_nil] at hi
    cases hi
  | x :: r, hs, h => by
    have hx : x < 18446744073709551616 := hs x List.mem_cons_self
    by_cases h0 : x = 0
    · subst h0
      obtain ⟨i, hi⟩ := h
      have hi64 : 64 ≤ i := by
        rcases Nat.lt_or_ge i 64 with hl | hl
        · rw [getB_cons_lt 0 r i hl] at hi; simp at hi
        · exact hl
      obtain ⟨f, h1, h2, h3⟩ := firstI_bit (xs := r) (fun y hy => hs y (List.mem_cons_of_mem _ hy)) ⟨i - 64, by rw [← getB_cons_ge 0 r (i - 64), show 64 + (i - 64) = i by omega]; exact hi⟩
      refine ⟨64 + f, ?_, by rw [getB_cons_ge]; exact h2, fun j hj => ?_⟩
      · simp only [firstI]
        rw [h1]
        simp
        omega
      · rcases Nat.lt_or_ge j 64 with hl | hl
        · rw [getB_cons_lt 0 r j hl]; simp
        · have := h3 (j - 64) (by omega)
          rw [← getB_cons_ge 0 r (j - 64), show 64 + (j - 64) = j by omega] at this
          exact this
    · refine ⟨Lib.ctz 64 x, by simp [firstI, h0], ?_, fun j hj => ?_⟩
      · rw [getB_cons_lt x r _ (ctz_lt x h0 hx)]; exact ctz_bit x h0 hx
      · rw [getB_cons_lt x r _ (by have := ctz_lt x h0 hx; omega)]; exact ctz_low x j h0 hx hj
theorem firstI_one {xs : List Nat} {b : Nat} (hs : smalls xs) (h : ∀ i, getB xs i = decide (i = b)) : firstI xs = (b : Int) := by
  obtain ⟨f, h1, h2, _⟩ := firstI_bit hs ⟨b, by rw [h b]; simp⟩
  rw [h f] at h2
  rw [h1, of_decide_eq_true h2]

theorem bit_setB (xs : List Nat) (i j : Nat) (on : Bool) (h : i < 64 * xs.length) : getB (setB xs i on) j = if j = i then on else getB xs j := by
  unfold getB setB
  rw [getD_set]
  by_cases e : j / 64 = i / 64
  · rw [if_pos ⟨e, by omega⟩, e]
    unfold setW
    by_cases e2 : j = i
    · subst e2
      rw [if_pos rfl]
      split
      · assumption
      · rename_i hb
        rw [Nat.testBit_xor, Nat.testBit_two_pow]
        simp only [decide_true]
        cases hx : (xs.getD (j / 64) 0).testBit (j % 64) <;> rw [hx] at hb <;> cases on <;> simp_all
    · rw [if_neg e2]
      have hne : ¬ i % 64 = j % 64 := by omega
      split
      · rfl
      · rw [Nat.testBit_xor, Nat.testBit_two_pow]
        simp [hne]
  · rw [if_neg (by omega), if_neg (fun e2 => e (by rw [e2]))]
theorem bit_zeros (n i : Nat) : getB (List.replicate n 0) i = false := by
  unfold getB
  rw [show (List.replicate n 0).getD (i / 64) 0 = 0 from ?_]
  · simp
  · rw [List.getD_eq_getElem?_getD]
    by_cases h : i / 64 < n
    · simp [h]
    · simp [h]
theorem smalls_setB {xs : List Nat} (h : smalls xs) (i : Nat) (on : Bool) : smalls (setB xs i on) := h.set _ _ (setW_lt _ _ _ (h.get _) (by omega))
theorem unit_eq {k : Int} {b : Nat} (hb : (b : Int) < k) : unitL k b = setB (List.replicate (sizeOfK k) 0) b true := by
  unfold unitL setI
  rw [if_neg (by omega), if_neg (by omega), Int.toNat_natCast]
theorem unit_len {k : Int} {b : Nat} (hb : (b : Int) < k) : (unitL k b).length = sizeOfK k := by
  rw [unit_eq hb, setB_length, List.length_replicate]
theorem unit_bit {k : Int} {b : Nat} (hs : 0 < sizeOfK k) (hb : (b : Int) < k) (i : Nat) : getB (unitL k b) i = decide (i = b) := by
  have := size_room hs
  rw [unit_eq hb, bit_setB _ _ _ _ (by rw [List.length_replicate]; omega), bit_zeros]
  by_cases e : i = b
  · simp [e]
  · simp [e]
theorem unit_small {k : Int} {b : Nat} (hb : (b : Int) < k) : smalls (unitL k b) := by rw [unit_eq hb]; exact smalls_setB (smalls_zeros _) _ _

/-- A row without the bits of another one. -/
def dropL (v kn : List Nat) : List Nat := (List.range v.length).map fun i => anW (v.getD i 0) (kn.getD i 0)
theorem dropL_length (v kn : List Nat) : (dropL v kn).length = v.length := by simp [dropL]
theorem dropL_getD (v kn : List Nat) (i : Nat) : (dropL v kn).getD i 0 = anW (v.getD i 0) (kn.getD i 0) := by
  unfold dropL
  rw [getD_range_map]
  split
  · rfl
  · rw [getD_of_le (a := v) (by omega)]; simp [anW]
theorem dropL_bit (v kn : List Nat) (i : Nat) : getB (dropL v kn) i = (getB v i && !getB kn i) := by
  unfold getB
  rw [dropL_getD, anW_bit]
theorem dropL_small {v : List Nat} (h : smalls v) (kn : List Nat) : smalls (dropL v kn) := by
  intro x hx
  obtain ⟨i, hi, rfl⟩ := List.getElem_of_mem hx
  have := dropL_getD v kn i
  rw [List.getD_eq_getElem?_getD, List.getElem?_eq_getElem hi] at this
  simp only [Option.getD_some] at this
  rw [this]
  exact anW_lt _ _ (h.get i)
/-- So far. -/
def dropTo (v kn : List Nat) (k : Nat) : List Nat := (List.range v.length).map fun i => if i < k then anW (v.getD i 0) (kn.getD i 0) else v.getD i 0
theorem dropTo_length (v kn : List Nat) (k : Nat) : (dropTo v kn k).length = v.length := by simp [dropTo]
theorem dropTo_getD (v kn : List Nat) (k i : Nat) (h : i < v.length) : (dropTo v kn k).getD i 0 = if i < k then anW (v.getD i 0) (kn.getD i 0) else v.getD i 0 := by
  unfold dropTo; rw [getD_range_map, if_pos h]
theorem dropTo_zero (v kn : List Nat) : dropTo v kn 0 = v := by
  apply ext_getD (dropTo_length v kn 0)
  intro i h; rw [dropTo_getD v kn 0 i (by rwa [dropTo_length] at h)]; simp
theorem dropTo_succ (v kn : List Nat) (k : Nat) (hk : k < v.length) : (dropTo v kn k).set k (anW (v.getD k 0) (kn.getD k 0)) = dropTo v kn (k + 1) := by
  apply ext_getD
  · simp [dropTo_length]
  · intro i h
    have hi : i < v.length := by simpa [dropTo_length] using h
    rw [getD_set, dropTo_getD v kn k i hi, dropTo_getD v kn (k + 1) i hi, dropTo_length]
    by_cases e : i = k
    · subst e; simp [hk]
    · simp only [e, false_and, if_false]
      by_cases h1 : i < k
      · simp [h1, Nat.lt_succ_of_lt h1]
      · simp [h1, show ¬ i < k + 1 by omega]
theorem dropTo_all (v kn : List Nat) (k : Nat) (h : min v.length kn.length ≤ k) : dropTo v kn k = dropL v kn := by
  apply ext_getD
  · rw [dropTo_length, dropL_length]
  · intro i hi
    have hi' : i < v.length := by rwa [dropTo_length] at hi
    rw [dropTo_getD v kn _ i hi', dropL_getD]
    split
    · rfl
    · rw [getD_of_le (a := kn) (by omega), anW_zero]
theorem dropL_twice (v a b : List Nat) (h : ∀ i, getB a i = true → getB b i = true) (hs : smalls v) : dropL (dropL v a) b = dropL v b := by
  refine ext_bits (by simp [dropL_length]) (dropL_small (dropL_small hs _) _) (dropL_small hs _) fun i => ?_
  rw [dropL_bit, dropL_bit, dropL_bit]
  cases ha : getB a i
  · simp
  · rw [h i ha]; simp
theorem dropL_zeros {v : List Nat} (hs : smalls v) (n : Nat) : dropL v (List.replicate n 0) = v := by
  refine ext_bits (dropL_length _ _) (dropL_small hs _) hs fun i => ?_
  rw [dropL_bit, bit_zeros]; simp


/-- A text without the known blocks of its row. -/
def txtL (bs : List ByteArray) (xs : List Nat) (s : ByteArray) : ByteArray := xorS s (st (ofL bs xs bs.length))
/-- A row tells a block. -/
def tellsB (k : Int) (kn : List Nat) (r : RV) : Bool := validB k r.xs && decide (cnt (dropL r.xs kn) = 1)
/-- Which. -/
def blkOf (kn : List Nat) (r : RV) : Nat := (firstI (dropL r.xs kn)).toNat
/-- What is known behind j rows that told a block. -/
def Run (k : Int) (rs : List RV) : Nat → List Nat → List ByteArray → Prop
  | 0, kn, bs => kn = List.replicate (sizeOfK k) 0 ∧ bs = List.replicate k.toNat ByteArray.empty
  | j + 1, kn, bs => ∃ kn0 bs0 r, Run k rs j kn0 bs0 ∧ rs.find? (tellsB k kn0) = some r ∧ kn = setB kn0 (blkOf kn0 r) true ∧ bs = bs0.set (blkOf kn0 r) (txtL bs0 r.xs r.s)
/-- What is known at the end. -/
def PeelP (k : Int) (rs : List RV) (kn : List Nat) (bs : List ByteArray) : Prop := (∃ j, Run k rs j kn bs) ∧ rs.find? (tellsB k kn) = none
theorem Run.uniq {k : Int} {rs : List RV} : ∀ {j : Nat} {kn kn' : List Nat} {bs bs' : List ByteArray}, Run k rs j kn bs → Run k rs j kn' bs' → kn = kn' ∧ bs = bs'
  | 0, _, _, _, _, ⟨h1, h2⟩, ⟨h3, h4⟩ => ⟨by rw [h1, h3], by rw [h2, h4]⟩
  | j + 1, _, _, _, _, ⟨a, b, r, h1, h2, h3, h4⟩, ⟨a', b', r', g1, g2, g3, g4⟩ => by
    obtain ⟨rfl, rfl⟩ := Run.uniq h1 g1
    rw [h2] at g2
    obtain rfl := Option.some.inj g2
    exact ⟨by rw [h3, g3], by rw [h4, g4]⟩
theorem Run.before {k : Int} {rs : List RV} : ∀ {d i : Nat} {kn : List Nat} {bs : List ByteArray}, Run k rs (i + d + 1) kn bs → ∃ kn0 bs0 r, Run k rs i kn0 bs0 ∧ rs.find? (tellsB k kn0) = some r
  | 0, i, _, _, ⟨a, b, r, h1, h2, _⟩ => ⟨a, b, r, h1, h2⟩
  | d + 1, i, _, _, ⟨a, b, r, h1, h2, _⟩ => Run.before (d := d) h1
theorem PeelP.uniq {k : Int} {rs : List RV} {kn kn' : List Nat} {bs bs' : List ByteArray} (h : PeelP k rs kn bs) (g : PeelP k rs kn' bs') : kn = kn' ∧ bs = bs' := by
  obtain ⟨⟨j, hj⟩, he⟩ := h
  obtain ⟨⟨i, hi⟩, ge⟩ := g
  have key : ∀ {a b : Nat} {x x' : List Nat} {y y' : List ByteArray}, Run k rs a x y → rs.find? (tellsB k x) = none → Run k rs b x' y' → ¬ a < b := by
    intro a b x x' y y' h1 h2 h3 hlt
    obtain ⟨x0, y0, r, g1, g2⟩ := Run.before (d := b - a - 1) (i := a) (by rw [show a + (b - a - 1) + 1 = b by omega]; exact h3)
    obtain ⟨rfl, -⟩ := Run.uniq h1 g1
    rw [h2] at g2
    cases g2
  have h1 := key hj he hi
  have h2 := key hi ge hj
  obtain rfl : i = j := by omega
  exact hj.uniq hi
/-- The rows that are none make no difference. -/
theorem Run.valid {k : Int} {rs : List RV} : ∀ {j : Nat} {kn : List Nat} {bs : List ByteArray}, Run k (rs.filter fun r => validB k r.xs) j kn bs ↔ Run k rs j kn bs
  | 0, _, _ => Iff.rfl
  | j + 1, kn, bs => by
    have hf : ∀ x, (rs.filter fun r => validB k r.xs).find? (tellsB k x) = rs.find? (tellsB k x) := fun x => by
      rw [List.find?_filter]
      congr 1
      funext r
      unfold tellsB
      cases validB k r.xs <;> simp
    unfold Run
    simp only [Run.valid (j := j), hf]
theorem find_valid {k : Int} {rs : List RV} (x : List Nat) : (rs.filter fun r => validB k r.xs).find? (tellsB k x) = rs.find? (tellsB k x) := by
  rw [List.find?_filter]
  congr 1
  funext r
  unfold tellsB
  cases validB k r.xs <;> simp
theorem PeelP.valid {k : Int} {rs : List RV} {kn : List Nat} {bs : List ByteArray} : PeelP k (rs.filter fun r => validB k r.xs) kn bs ↔ PeelP k rs kn bs := by
  unfold PeelP
  simp only [Run.valid, find_valid]
/-- The first that tells one. -/
theorem find_at {rs : List RV} {f : RV → Bool} {p : Nat} (hp : p < rs.length) (h : f (rs.getD p .dflt) = true) (hn : ∀ j, j < p → f (rs.getD j .dflt) = false) : rs.find? f = some (rs.getD p .dflt) := by
  rw [List.find?_eq_some_iff_getElem]
  rw [List.getD_eq_getElem?_getD, List.getElem?_eq_getElem hp] at h ⊢
  refine ⟨h, p, hp, rfl, fun j hj => ?_⟩
  have := hn j hj
  rw [List.getD_eq_getElem?_getD, List.getElem?_eq_getElem (by omega)] at this
  simpa using this
theorem find_no {rs : List RV} {f : RV → Bool} (hn : ∀ j, j < rs.length → f (rs.getD j .dflt) = false) : rs.find? f = none := by
  rw [List.find?_eq_none]
  intro r hr
  obtain ⟨i, hi, rfl⟩ := List.mem_iff_getElem.1 hr
  have := hn i hi
  rw [List.getD_eq_getElem?_getD, List.getElem?_eq_getElem hi] at this
  simpa using this

/-- What a row that tells a block tells. -/
theorem tells_bit {k : Int} {kn : List Nat} {r : RV} (hr : smalls r.xs) (h : tellsB k kn r = true) :
    validB k r.xs = true ∧ (∀ i, getB (dropL r.xs kn) i = decide (i = blkOf kn r)) ∧ getB kn (blkOf kn r) = false ∧ getB r.xs (blkOf kn r) = true ∧ blkOf kn r < k.toNat ∧ firstI (dropL r.xs kn) = (blkOf kn r : Int) := by
  unfold tellsB at h
  rw [Bool.and_eq_true, decide_eq_true_eq, cnt_one] at h
  obtain ⟨hv, b, hb⟩ := h
  have hf := firstI_one (dropL_small hr kn) hb
  have e : blkOf kn r = b := by unfold blkOf; rw [hf, Int.toNat_natCast]
  rw [e]
  have h1 := hb b
  rw [dropL_bit] at h1
  simp at h1
  exact ⟨hv, hb, h1.2, h1.1, (valid_size hv).2.2 b h1.1, hf⟩
/-- What is known all along. -/
structure Kn (k : Int) (j : Nat) (kn : List Nat) (bs : List ByteArray) : Prop where
  size : 0 < sizeOfK k
  len : kn.length = sizeOfK k
  small : smalls kn
  lenb : bs.length = k.toNat
  below : ∀ i, getB kn i = true → i < k.toNat
  none : ∀ i, getB kn i = false → bs.getD i ByteArray.empty = ByteArray.empty
  many : upTo kn k.toNat = j
  short : ∀ i, (bs.getD i ByteArray.empty).size ≤ 1000
theorem getD_set_tx (ss : List ByteArray) (k i : Nat) (z : ByteArray) : (ss.set k z).getD i ByteArray.empty = if i = k ∧ k < ss.length then z else ss.getD i ByteArray.empty := by
  rw [List.getD_eq_getElem?_getD, List.getD_eq_getElem?_getD, List.getElem?_set]
  by_cases h : k = i
  · subst h
    by_cases h2 : k < ss.length
    · simp [h2]
    · simp [h2]
  · have h' : ¬ i = k := fun e => h e.symm
    simp [h, h']
theorem upTo_set {xs : List Nat} {b : Nat} (hb : b < 64 * xs.length) (h : getB xs b = false) : ∀ n, upTo (setB xs b true) n = upTo xs n + if b < n then 1 else 0
  | 0 => by simp [upTo]
  | n + 1 => by
    unfold upTo
    rw [upTo_set hb h n, bit_setB _ _ _ _ hb]
    by_cases e : n = b
    · subst e; simp [h]
    · rw [if_neg e]
      have e1 : (if b < n + 1 then 1 else 0 : Nat) = if b < n then 1 else 0 := by
        by_cases h1 : b < n
        · rw [if_pos h1, if_pos (by omega)]
        · rw [if_neg h1, if_neg (by omega)]
      rw [e1]
      omega
theorem ofL_le {ss : List ByteArray} (h : ∀ i, (ss.getD i ByteArray.empty).size ≤ 1000) (vs : List Nat) : ∀ n, (ofL ss vs n).length ≤ 1000
  | 0 => by simp [ofL]
  | n + 1 => by
    have := ofL_le h vs n
    have := h n
    unfold ofL
    split
    · rw [xorL_length, tx_length]; omega
    · assumption
theorem txtL_size {bs : List ByteArray} {xs : List Nat} {s : ByteArray} (h : ∀ i, (bs.getD i ByteArray.empty).size ≤ 1000) (hs : s.size ≤ 1000) : (txtL bs xs s).size ≤ 1000 := by
  unfold txtL
  rw [xorS_size, st_size (ofL_bytes _ _ _)]
  have := ofL_le h xs bs.length
  omega
/-- Rows as they come in: words below 2^64, texts of at most 1000 bytes. -/
def Good (rs : List RV) : Prop := ∀ r ∈ rs, smalls r.xs ∧ r.s.size ≤ 1000
theorem Kn.start {k : Int} (hs : 0 < sizeOfK k) : Kn k 0 (List.replicate (sizeOfK k) 0) (List.replicate k.toNat ByteArray.empty) := by
  have he : ∀ i, (List.replicate k.toNat ByteArray.empty).getD i ByteArray.empty = ByteArray.empty := fun i => by
    rw [List.getD_eq_getElem?_getD]
    by_cases h : i < k.toNat
    · simp [h]
    · simp [h]
  exact ⟨hs, by simp, smalls_zeros _, by simp, (fun i hi => by rw [bit_zeros] at hi; cases hi), fun i _ => he i, (upTo_zero _).2 (fun i _ => bit_zeros _ _), fun i => by rw [he]; decide⟩
theorem Kn.step {k : Int} {j : Nat} {kn : List Nat} {bs : List ByteArray} (h : Kn k j kn bs) {r : RV} (hr : smalls r.xs) (hz : r.s.size ≤ 1000) (ht : tellsB k kn r = true) :
    Kn k (j + 1) (setB kn (blkOf kn r) true) (bs.set (blkOf kn r) (txtL bs r.xs r.s)) := by
  obtain ⟨hv, hb, hk, hx, hlt, hf⟩ := tells_bit hr ht
  have hroom := size_room h.size
  have hin : blkOf kn r < 64 * kn.length := by rw [h.len]; omega
  refine ⟨h.size, by rw [setB_length]; exact h.len, smalls_setB h.small _ _, by rw [List.length_set]; exact h.lenb, fun i hi => ?_, fun i hi => ?_, ?_, fun i => ?_⟩
  · rw [bit_setB _ _ _ _ hin] at hi
    by_cases e : i = blkOf kn r
    · rw [e]; exact hlt
    · rw [if_neg e] at hi; exact h.below i hi
  · rw [bit_setB _ _ _ _ hin] at hi
    by_cases e : i = blkOf kn r
    · rw [if_pos e] at hi; cases hi
    · rw [if_neg e] at hi
      rw [getD_set_tx, if_neg (fun h => e h.1)]
      exact h.none i hi
  · rw [upTo_set hin hk, if_pos hlt, h.many]
  · rw [getD_set_tx]
    split
    · exact txtL_size h.short hz
    · exact h.short i
theorem Run.known {k : Int} {rs : List RV} (hs : 0 < sizeOfK k) (hg : Good rs) : ∀ {j : Nat} {kn : List Nat} {bs : List ByteArray}, Run k rs j kn bs → Kn k j kn bs
  | 0, _, _, ⟨h1, h2⟩ => by rw [h1, h2]; exact .start hs
  | j + 1, _, _, ⟨a, b, r, h1, h2, h3, h4⟩ => by
    have hm := hg r (List.mem_of_find?_eq_some h2)
    rw [h3, h4]
    exact (Run.known hs hg h1).step hm.1 hm.2 (List.find?_some h2)
theorem Kn.le {k : Int} {j : Nat} {kn : List Nat} {bs : List ByteArray} (h : Kn k j kn bs) : j ≤ k.toNat := by
  rw [← h.many]; exact upTo_le _ _
theorem Kn.shorts {k : Int} {j : Nat} {kn : List Nat} {bs : List ByteArray} (h : Kn k j kn bs) : shorts bs := by
  intro s hs
  obtain ⟨i, hi, rfl⟩ := List.mem_iff_getElem.1 hs
  have := h.short i
  rw [List.getD_eq_getElem?_getD, List.getElem?_eq_getElem hi] at this
  simp only [Option.getD_some] at this
  omega
end Go.Proofs.YtjppopabjfncpaaDoor
namespace Go.Proofs.YtjppopabjfncpaaDoor
open Go.RowKit
set_option linter.unusedVariables false
set_option maxRecDepth 4000

theorem gb_refl (w : World) (r : Option Nat) : w.grownBy w r := ⟨rfl, rfl, rfl, Nat.le_refl _, fun _ _ _ => rfl⟩
theorem gb_of_below {w w' : World} (h : Below w.heap.size w w') (r : Option Nat) : w.grownBy w' r := ⟨h.os, h.tape, h.output, h.size, fun k hk _ => h.block k hk⟩
theorem gb_trans {w w1 w2 : World} {r r' : Option Nat} (h : w.grownBy w1 r) (k : w1.grownBy w2 r') (hr : r' = r ∨ ∀ j, r' = some j → w.heap.size ≤ j) : w.grownBy w2 r := by
  refine ⟨k.os.trans h.os, k.tape.trans h.tape, k.output.trans h.output, Nat.le_trans h.size k.size, fun j hj hne => ?_⟩
  refine (k.block j (Nat.lt_of_lt_of_le hj h.size) fun e => ?_).trans (h.block j hj hne)
  rcases hr with hr | hr
  · exact hne (e.trans hr)
  · have := hr j e.symm; omega
theorem gb_below {w w' : World} {r : Option Nat} (h : w.grownBy w' r) {B : Nat} (hB : B ≤ w.heap.size) (hr : ∀ k, r = some k → B ≤ k) : Below B w w' := (Below.refl B w).grown h hB hr
theorem gb_setCell (w : World) (g i : Nat) (u : Value) : w.grownBy (w.setCell ⟨g, i, none⟩ u) (some g) :=
  ⟨rfl, rfl, rfl, by simp [World.setCell], fun k _ hk => Below.heap_setCell _ _ _ _ (fun e => hk (by rw [e]))⟩
theorem gb_drew {w w' : World} {r : Option Nat} (h : w.grownBy w' r) : w.grownBy w'.drew r := ⟨h.os, h.tape, h.output, h.size, h.block⟩
theorem Own.kept {w w' : World} {B : Nat} {v : Value} {xs : List Nat} {row : Option Nat} (h : Own w B v xs) (hg : w.grownBy w' row) (hd : v.ownBlock = none ∨ v.ownBlock ≠ row) : Own w' B v xs := ⟨h.1, h.2.kept hg hd⟩
theorem Own.lt {w : World} {B : Nat} {v : Value} {xs : List Nat} (h : Own w B v xs) {k : Nat} (hk : v.ownBlock = some k) : B ≤ k ∧ k < w.heap.size := h.2.lt k hk
theorem RowAt.kept {w w' : World} {a : Option Addr} {n : Nat} {xs : List Nat} {row : Option Nat} (h : RowAt w a n xs) (hg : w.grownBy w' row) (hd : n = 0 ∨ ∀ ad, a = some ad → some ad.block ≠ row) : RowAt w' a n xs := by
  refine ⟨h.1, h.2.1, ?_⟩
  rcases h.2.2 with h0 | ⟨b, off, rfl, hc⟩
  · exact .inl h0
  · rcases hd with h0 | hd
    · exact .inl h0
    · exact .inr ⟨b, off, rfl, fun i hi => hg.cell (hc i hi) (hd ⟨b, off, none⟩ rfl)⟩
theorem RowAt.lt {w : World} {a : Option Addr} {n : Nat} {xs : List Nat} (h : RowAt w a n xs) : n = 0 ∨ ∀ ad, a = some ad → ad.block < w.heap.size := by
  rcases h.2.2 with h0 | ⟨b, off, rfl, hc⟩
  · exact .inl h0
  · by_cases h0 : n = 0
    · exact .inl h0
    · right
      intro ad e
      simp only [Option.some.injEq] at e
      subst e
      exact World.block_lt_of_cell? w _ (hc 0 (by omega))
theorem copy_step {o : Oper} {a : Act} {w : World} {K : Act → World → Prop} {Q : Exit → Act → World → Prop} (d s : Operand) (t : TypeId)
    (ho : o.op = .call { callee := .builtin .copy, args := #[d, s], argTypes := #[t, t] }) (v u : Value) (hd : a.eval d = v) (hs : a.eval s = u) {v' : Value} {w' : World}
    (hr : (Builtin.copy_ #[t, t] o.type #[v, u]).run Tryd.prog w = .ok v' w') (h : K (a.put o.dst v') w') : o.wp Tryd.prog a w K Q := by
  unfold Oper.wp execOp
  simp only [ho, resolve, invoke, builtin, Sem.run_bind, Sem.run_pure, Result.andThen_ok, List.map_toArray, List.map_cons, List.map_nil, hd, hs, hr]
  exact h
theorem copy_list {w : World} {ops : Array Oper} {rest : List Oper} {o : Oper} {a : Act} {Q : Exit → Act → World → Prop} (hgd : o.guard = none) (d s : Operand) (t : TypeId)
    (ho : o.op = .call { callee := .builtin .copy, args := #[d, s], argTypes := #[t, t] }) (v u : Value) (hd : a.eval d = v) (hs : a.eval s = u) {v' : Value} {w' : World}
    (hr : (Builtin.copy_ #[t, t] o.type #[v, u]).run Tryd.prog w = .ok v' w') (h : wpList Tryd.prog ops Q rest (a.put o.dst v') w') : wpList Tryd.prog ops Q (o :: rest) a w :=
  wpList_plain hgd fun _ hK => copy_step d s t ho v u hd hs hr (hK _ _ h)
theorem copy_region {ops : Array Oper} {o : Oper} {a : Act} {w : World} {K : Act → World → Prop} {Q : Exit → Act → World → Prop} {E : Prop} (hg : o.guard = none) (d s : Operand) (t : TypeId)
    (ho : o.op = .call { callee := .builtin .copy, args := #[d, s], argTypes := #[t, t] }) (v u : Value) (hd : a.eval d = v) (hs : a.eval s = u) {v' : Value} {w' : World}
    (hr : (Builtin.copy_ #[t, t] o.type #[v, u]).run Tryd.prog w = .ok v' w') (h : K (a.put o.dst v') w') :
    if Region.wanted o (yielded ops a.tmps) = true then Oper.wp Tryd.prog o a w K Q else E := by
  rw [if_pos (by simp [Region.wanted, hg])]
  exact copy_step d s t ho v u hd hs hr h

/-- A block of one's own behind a row of stores. -/
theorem setCells_block (g : Nat) (e : TypeId) : ∀ (vs : List Value) (o : Nat) (w : World) (cur : Array Value), w.heap[g]? = some (.cells cur e (0, 0)) →
    ∃ cur', (w.setCells g o vs).heap[g]? = some (.cells cur' e (0, 0)) ∧ cur'.size = cur.size ∧ ∀ j, j < cur.size → cur'[j]? = if o ≤ j ∧ j < o + vs.length then vs[j - o]? else cur[j]?
  | [], o, w, cur, h => ⟨cur, h, rfl, fun j hj => by rw [if_neg (by simp only [List.length_nil]; omega)]⟩
  | v :: r, o, w, cur, h => by
    obtain ⟨cur', h1, h2, h3⟩ := setCells_block g e r (o + 1) (w.setCell ⟨g, o, none⟩ v) (cur.setIfInBounds o v) (heap_setCell_same w g o cur e v h)
    refine ⟨cur', h1, by simpa using h2, fun j hj => ?_⟩
    rw [h3 j (by simpa using hj)]
    by_cases hjo : j = o
    · subst hjo
      rw [if_neg (by omega), if_pos (by simp)]
      simp [hj]
    · by_cases hin : o + 1 ≤ j ∧ j < o + 1 + r.length
      · rw [if_pos hin, if_pos (by simp; omega)]
        rw [show j - o = (j - (o + 1)) + 1 by omega, List.getElem?_cons_succ]
      · rw [if_neg hin, if_neg (by simp; omega)]
        rw [Array.getElem?_setIfInBounds_ne (by omega)]
theorem setCells_gb (g : Nat) : ∀ (vs : List Value) (o : Nat) (w : World), w.grownBy (w.setCells g o vs) (some g)
  | [], o, w => gb_refl _ _
  | v :: r, o, w => gb_trans (gb_setCell w g o v) (setCells_gb g r (o + 1) _) (.inl rfl)
end Go.Proofs.YtjppopabjfncpaaDoor
namespace Go.Proofs.YtjppopabjfncpaaDoor
open Go.RowKit Go.Sort
set_option linter.unusedVariables false
set_option maxRecDepth 4000

set_option maxHeartbeats 1000000 in
theorem pset_any (B g cap : Nat) (xs : List Nat) (b : Nat) (w : World) (ho : Own w B (.slice (some ⟨g, 0, none⟩) xs.length cap) xs) (hb : b / 64 < xs.length) (hn : xs.length ≤ 1048576) :
    Calls Tryd.prog 86 #[.slice (some ⟨g, 0, none⟩) xs.length cap, .int .i64 (b : Int)] w fun e w' => e = .returned (.tuple #[]) ∧ Own w' B (.slice (some ⟨g, 0, none⟩) xs.length cap) (setB xs b true) ∧ w.grownBy w' (some g) := by
  obtain ⟨i, hi⟩ : ∃ i : Int, i = (b : Int) := ⟨_, rfl⟩
  rw [← hi]
  have h0 : 0 ≤ i := by omega
  have him : i ≤ 9223372036854775807 := by omega
  obtain ⟨q, hq⟩ := Int.eq_ofNat_of_zero_le (show 0 ≤ i / 64 by omega)
  have hql : q < xs.length := by omega
  have hql' : (q : Int) < (xs.length : Int) := by omega
  have hqw := div_wrap i q h0 him hq
  obtain ⟨g', cap', he, hBg, hgs, hcg, hfg⟩ := ho.at (by omega)
  simp only [Value.slice.injEq, Option.some.injEq, Addr.mk.injEq, true_and, and_true] at he
  obtain ⟨rfl, rfl⟩ := he
  have hcell := hcg q hql
  have hfz := hfg q
  have hx := ho.1.get q
  have hmk := mask_num i
  have hor := or_num (xs.getD q 0) i hx
  have R := hide (set_store (on := true) h0 hq ho.1 hBg ho (Below.refl B w)).1
  have RG := hide (fun u => gb_setCell w g q u)
  have HE : Hid (setI xs i true = setB xs b true) := hide (by unfold setI; rw [if_neg (by omega), hi, Int.toNat_natCast])
  generalize (2 ^ (i % 64).toNat : Nat) = mk at *
  generalize xs.getD q 0 = x at *
  generalize setW x (i % 64).toNat true = y at *
  clear hcg hfg ho hb hi
  go_enter Tryd.func86, Tryd.ntmps86
  go_wp2
  go_end0
  exact ⟨rfl, by rw [← unhide HE]; exact unhide R, unhide RG _⟩

theorem drop_small {xs : List Nat} (h : smalls xs) (ys : List Nat) (k : Nat) : smalls (dropTo xs ys k) := by
  intro x hx
  obtain ⟨i, hi, rfl⟩ := List.getElem_of_mem hx
  have hl : i < xs.length := by rwa [dropTo_length] at hi
  have := dropTo_getD xs ys k i hl
  rw [List.getD_eq_getElem?_getD, List.getElem?_eq_getElem hi] at this
  simp only [Option.getD_some] at this
  rw [this]
  split
  · exact anW_lt _ _ (h.get i)
  · exact h.get i
theorem drop_round {wr : World} {B g cap : Nat} {xs ys : List Nat} {k : Nat} (hx : smalls xs) (hk : k < xs.length) (ho : Own wr B (.slice (some ⟨g, 0, none⟩) xs.length cap) (dropTo xs ys k)) :
    Own (wr.setCell ⟨g, k, none⟩ (.int .u64 ((anW (xs.getD k 0) (ys.getD k 0) : Nat) : Int))) B (.slice (some ⟨g, 0, none⟩) xs.length cap) (dropTo xs ys (k + 1)) := by
  have hl := dropTo_length xs ys k
  rw [← hl] at ho
  have := ho.stored k (anW (xs.getD k 0) (ys.getD k 0)) (anW_lt _ _ (hx.get k))
  rw [dropTo_succ xs ys k hk, hl] at this
  exact this

set_option maxHeartbeats 1000000 in
theorem drop_any (B : Nat) (a : Option Addr) (c : Nat) (xs : List Nat) (a' : Option Addr) (m c' : Nat) (ys : List Nat) (w : World) (ho : Own w B (.slice a xs.length c) xs) (h' : RowAt w a' m ys)
    (hap : m = 0 ∨ ∀ ad, a' = some ad → some ad.block ≠ (Value.slice a xs.length c).ownBlock) (hn : xs.length ≤ 1048576) (hm : m ≤ 1048576) :
    Calls Tryd.prog 84 #[.slice a xs.length c, .slice a' m c'] w fun e w' => e = .returned (.tuple #[]) ∧ Own w' B (.slice a xs.length c) (dropL xs ys) ∧ w.grownBy w' (Value.slice a xs.length c).ownBlock := by
  obtain rfl : m = ys.length := h'.1.symm
  have hmin := fun wx ts t => min_run xs.length ys.length ts t wx
  obtain ⟨mn, hmn⟩ : ∃ mn, mn = min xs.length ys.length := ⟨_, rfl⟩
  rw [← hmn] at hmin
  have hml : mn ≤ xs.length ∧ mn ≤ ys.length := by omega
  have HME := hide hmn
  clear hmn
  go_enter Tryd.func84, Tryd.ntmps84
  go_wp2
  go_loopw [10] (fun i wr => ∃ k : Nat, k ≤ mn ∧ i = .int .i64 k ∧ Hid (Own wr B (.slice a xs.length c) (dropTo xs ys k)) ∧ Hid (w.grownBy wr (Value.slice a xs.length c).ownBlock)) (fun i _ => mn - (intOf i).toNat)
  case atStart => exact ⟨0, Nat.zero_le _, rfl, hide (by rw [dropTo_zero]; exact ho), hide (gb_refl _ _)⟩
  case round =>
    obtain ⟨k, hk, rfl, HO, HB⟩ := hrel
    by_cases hlt : k < mn
    · obtain ⟨b', off', rfl, hc'⟩ := (h'.kept (unhide HB) hap).at (i := k) (by omega)
      have hkn : k < xs.length := by omega
      have hky : (k : Int) < (ys.length : Int) := by omega
      have hkx : (k : Int) < (xs.length : Int) := by omega
      obtain ⟨g, cap, he, hBg, hgs, hcg, hfg⟩ := (unhide HO).at (by rw [dropTo_length]; omega)
      rw [dropTo_length] at he
      simp only [Value.slice.injEq, true_and] at he
      obtain ⟨rfl, rfl⟩ := he
      have hcell' := hc' k (by omega)
      have hcell := hcg k (by rw [dropTo_length]; omega)
      have hfz := hfg k
      rw [dropTo_getD xs ys k k (by omega), if_neg (by omega)] at hcell
      have hxo := anW_num (xs.getD k 0) (ys.getD k 0) (ho.1.get k) (h'.2.1.get k)
      have R := hide (drop_round ho.1 hkn (unhide HO))
      have RG := hide (fun u => gb_trans (unhide HB) (gb_setCell _ g k u) (.inl rfl))
      generalize anW (xs.getD k 0) (ys.getD k 0) = z at *
      generalize xs.getD k 0 = x at *
      generalize ys.getD k 0 = y at *
      clear hc' hcg hfg h' HO ho hap
      have hlt' : (k : Int) < (mn : Int) := by omega
      go_wp2
      go_region
      all_goals go_wp2
      all_goals go_roundw
      all_goals first | exact ⟨k + 1, by omega, by go_num, hide (unhide R).drew, hide (gb_drew (unhide RG _))⟩ | (simp [intOf]; omega)
    · have hke : k = mn := by omega
      subst hke
      rw [dropTo_all xs ys _ (by have := unhide HME; omega)] at HO
      clear h' hap ho
      go_wp2
      go_end0
      exact ⟨rfl, unhide HO, unhide HB⟩
end Go.Proofs.YtjppopabjfncpaaDoor
namespace Go.Proofs.YtjppopabjfncpaaDoor
open Go.RowKit Go.Sort
set_option linter.unusedVariables false
set_option maxRecDepth 4000

/-- Each of the rows can be read, and has as much room as words. -/
def RowsIn (w : World) (rs : List RV) : Prop := ∀ r ∈ rs, RowAt w r.a r.n r.xs ∧ r.n ≤ r.c
theorem RowsIn.below {w w' : World} {rs : List RV} (h : RowsIn w rs) (hb : Below w.heap.size w w') : RowsIn w' rs := fun r hr => ⟨(h r hr).1.below hb, (h r hr).2⟩
theorem RowsIn.nil (w : World) : RowsIn w [] := fun r hr => by cases hr
theorem RowsIn.append {w : World} {rs ss : List RV} (h : RowsIn w rs) (k : RowsIn w ss) : RowsIn w (rs ++ ss) := fun r hr => (List.mem_append.1 hr).elim (h r) (k r)
theorem RowsIn.one {w : World} {r : RV} (h : RowAt w r.a r.n r.xs) (hc : r.n ≤ r.c) : RowsIn w [r] := fun x hx => by rw [List.mem_singleton.1 hx]; exact ⟨h, hc⟩
theorem RowsIn.get {w : World} {rs : List RV} (h : RowsIn w rs) {i : Nat} (hi : i < rs.length) : RowAt w (rs.getD i .dflt).a (rs.getD i .dflt).n (rs.getD i .dflt).xs ∧ (rs.getD i .dflt).n ≤ (rs.getD i .dflt).c := by
  have := h rs[i] (List.getElem_mem hi)
  rwa [List.getD_eq_getElem?_getD, List.getElem?_eq_getElem hi]
end Go.Proofs.YtjppopabjfncpaaDoor
namespace Go.Proofs.YtjppopabjfncpaaDoor
open Go.RowKit Go.Sort
set_option linter.unusedVariables false
set_option maxRecDepth 4000

theorem info_rowZ : (Tryd.prog.info? 37).map (fun i => (i.zero, i.size, i.bytes)) = some (some (.agg #[.slice none 0 0, .string ⟨#[]⟩]), 2, 40) := by kernel_rfl
/-- The cells of rows. -/
def cellsR : List RV → List Value
  | [] => []
  | r :: rs => .slice r.a r.n r.c :: .string r.s :: cellsR rs
theorem cellsR_length : ∀ rs : List RV, (cellsR rs).length = rs.length * 2
  | [] => rfl
  | r :: rs => by simp [cellsR, cellsR_length rs]; omega
theorem cellsR_append : ∀ (a b : List RV), cellsR (a ++ b) = cellsR a ++ cellsR b
  | [], b => rfl
  | r :: a, b => by simp [cellsR, cellsR_append a b]
theorem cellsR_get : ∀ (rs : List RV) (i : Nat), i < rs.length → (cellsR rs)[i * 2]? = some (.slice (rs.getD i .dflt).a (rs.getD i .dflt).n (rs.getD i .dflt).c) ∧ (cellsR rs)[i * 2 + 1]? = some (.string (rs.getD i .dflt).s)
  | [], i, h => by simp at h
  | r :: rs, 0, _ => by simp [cellsR]
  | r :: rs, i + 1, h => by
    have := cellsR_get rs i (by simpa using h)
    rw [show (i + 1) * 2 = i * 2 + 1 + 1 by omega]
    simpa [cellsR] using this
theorem cellsR_one : ∀ (rs : List RV), ∀ u ∈ cellsR rs, u.oneCell' = true
  | [], u, h => by cases h
  | r :: rs, u, h => by
    rcases List.mem_cons.1 h with rfl | h
    · rfl
    · rcases List.mem_cons.1 h with rfl | h
      · rfl
      · exact cellsR_one rs u h
/-- A slice of rows of the call's own. -/
def OwnS (w : World) (B : Nat) (v : Value) (rs : List RV) : Prop := w.ownsRow B 37 2 v rs.length (cellsR rs)
theorem OwnS.nil (w : World) (B : Nat) : OwnS w B (.slice none 0 0) [] := World.ownsRow_nil _ _ _ _
theorem OwnS.cellAt {w : World} {B : Nat} {g n c : Nat} {rs : List RV} (h : OwnS w B (.slice (some ⟨g, 0, none⟩) n c) rs) {j : Nat} {u : Value} (hu : (cellsR rs)[j]? = some u) : w.cell? ⟨g, j, none⟩ = some u := by
  have := World.ownsRow.cells h (g := g) rfl j u hu
  rwa [show (⟨g, 0, none⟩ : Addr).add j = ⟨g, j, none⟩ by unfold Addr.add; split <;> simp_all] at this
theorem OwnS.rows {w : World} {B : Nat} {v : Value} {rs : List RV} (h : OwnS w B v rs) (hr : RowsIn w rs) : ∃ a c, v = .slice a rs.length c ∧ RowsAt w a rs.length rs ∧ rs.length ≤ c ∧ c ≤ 9223372036854775807 := by
  have h' := h
  rcases h.2 with ⟨rfl, h0⟩ | ⟨g, cap, cur, rfl, hb, hg, hn, hm, hsz, ht⟩
  · exact ⟨none, 0, by rw [h0], ⟨rfl, fun i hi => by omega, .inl h0⟩, by omega, by omega⟩
  · refine ⟨_, cap, rfl, ⟨rfl, fun i hi => (hr.get hi).1, .inr ⟨g, 0, rfl, fun i hi => ?_⟩⟩, hn, by simpa [maxLen] using hm⟩
    rw [Nat.zero_add]
    exact ⟨h'.cellAt (cellsR_get rs i hi).1, h'.cellAt (cellsR_get rs i hi).2⟩
theorem OwnS.mono {w : World} {B B' : Nat} {v : Value} {rs : List RV} (h : OwnS w B v rs) (hB : B' ≤ B) : OwnS w B' v rs := by
  refine ⟨h.1, ?_⟩
  rcases h.2 with h0 | ⟨g, cap, cur, h1, hb, r⟩
  · exact .inl h0
  · exact .inr ⟨g, cap, cur, h1, Nat.le_trans hB hb, r⟩
theorem OwnS.below {w w' : World} {B : Nat} {v : Value} {rs : List RV} (h : OwnS w B v rs) (hb : Below w.heap.size w w') : OwnS w' B v rs := by
  refine ⟨h.1, ?_⟩
  rcases h.2 with h0 | ⟨g, cap, cur, h1, hg, hgg, r⟩
  · exact .inl h0
  · exact .inr ⟨g, cap, cur, h1, hg, (hb.block g (Array.getElem?_eq_some_iff.1 hgg).1).trans hgg, r⟩
/-- What is turned in a row of words is no row of rows. -/
theorem OwnS.kept {w w' : World} {B B' g n c : Nat} {v : Value} {rs : List RV} {xs : List Nat} (h : OwnS w B v rs) (hg : w.grownBy w' (some g)) (ho : Own w B' (.slice (some ⟨g, 0, none⟩) n c) xs) : OwnS w' B v rs := by
  refine World.ownsRow.kept h hg ?_
  rcases h.2 with ⟨rfl, h0⟩ | ⟨g1, cap, cur, rfl, hb, hgg, r⟩
  · exact .inl rfl
  · refine .inr fun e => ?_
    simp only [Value.ownBlock, Option.some.injEq] at e
    subst e
    rcases ho.2.2 with ⟨e, _⟩ | ⟨g2, cap2, cur2, e, hb2, hg2, r2⟩
    · cases e
    · simp only [Value.slice.injEq, Option.some.injEq, Addr.mk.injEq, and_true] at e
      rw [← e.1, hgg] at hg2
      simp only [Option.some.injEq, Obj.cells.injEq] at hg2
      exact absurd hg2.2.1 (by decide)
/-- 'append(l, row)'. -/
theorem wpList_pushS {w : World} {ops : Array Oper} {rest : List Oper} {o : Oper} {act : Act} {Q : Exit → Act → World → Prop} (hgd : o.guard = none) (s x : Operand)
    (ho : o.op = .call { callee := .builtin .append, args := #[s, x], argTypes := #[22, 22] }) (B : Nat) (v : Value) (rs : List RV) (r : RV)
    (hs : act.eval s = v) (hx : act.eval x = .slice (some ⟨w.heap.size, 0, none⟩) 1 1) (h : OwnS w B v rs) (hB : B ≤ w.heap.size) (hn : rs.length ≤ 1048576)
    (hK : ∀ s' w', OwnS w' B s' (rs ++ [r]) → w.grownBy w' v.ownBlock → Below B w w' → wpList Tryd.prog ops Q rest (act.put o.dst s') w') : wpList Tryd.prog ops Q (o :: rest) act (w.alloc (.cells #[.slice r.a r.n r.c, .string r.s] 37)) := by
  obtain ⟨i0, hi, hz0, hz1, hz2⟩ := info_parts info_rowZ
  have hb : Below w.heap.size w (w.alloc (.cells #[.slice r.a r.n r.c, .string r.s] 37)) := (Below.refl _ _).alloc (Nat.le_refl _) _
  have h1 : (w.alloc (.cells #[.slice r.a r.n r.c, .string r.s] 37)).ownsRow B 37 2 v rs.length (cellsR rs) := h.below hb
  refine wpList_append_own _ hgd s x 22 ho B 37 i0 (.agg #[.slice none 0 0, .string ⟨#[]⟩]) 2 40 Tryd.underlying22 hi hz0 hz1 hz2 rfl (by decide) v rs.length (cellsR rs) hs h1 ⟨w.heap.size, 0, none⟩ 1 1 [.slice r.a r.n r.c, .string r.s] hx rfl (fun j u hj => ?_)
    (fun u hu => by rcases List.mem_cons.1 hu with rfl | hu; · rfl
                    · rw [List.mem_singleton.1 hu]; rfl) (by unfold maxLen; omega) (by omega) (Nat.le_trans hB hb.size) ?_
  · have e : (⟨w.heap.size, 0, none⟩ : Addr).add j = ⟨w.heap.size, j, none⟩ := by unfold Addr.add; split <;> simp_all
    rw [e, World.cell?_alloc_at _ _ _ _ rfl]
    match j with
    | 0 => simpa using hj
    | 1 => simpa using hj
    | j + 2 => simp at hj
  · intro v' w' hown hgrow _
    refine hK v' w' ?_ (gb_trans (gb_of_below hb _) hgrow (.inl rfl)) ((hb.mono hB).grown hgrow (Nat.le_trans hB hb.size) fun k hk => (h1.lt k hk).1)
    rw [show cellsR rs ++ [.slice r.a r.n r.c, .string r.s] = cellsR (rs ++ [r]) by rw [cellsR_append]; rfl] at hown
    show w'.ownsRow B 37 2 v' (rs ++ [r]).length (cellsR (rs ++ [r]))
    rw [List.length_append]
    exact hown
theorem zeroCells_u64 (m : Nat) : Builtin.zeroCells (Value.int .u64 0).cells m = Array.replicate m (.int .u64 0) := by
  unfold Builtin.zeroCells
  apply Array.ext
  · simp [Value.cells]
  · intro i h1 h2
    simp [Value.cells, Nat.mod_one]
theorem cellsU_zeros (xs : List Nat) (m : Nat) : cellsU (xs ++ List.replicate m 0) = cellsU xs ++ List.replicate m (.int .u64 0) := by simp [cellsU]
/-- 'append(own, make([]uint64, m)...)'. -/
theorem append_zeros (B : Nat) (a : Option Addr) (c : Nat) (xs : List Nat) (m : Nat) (w : World) (ho : Own w B (.slice a xs.length c) xs) (hB : B ≤ w.heap.size) (hm0 : 0 < m) (hn : xs.length + m ≤ 1048576) :
    ∃ a' c' w', (∀ ty, (Builtin.append_ #[35, 3] ty #[.slice a xs.length c, .int .i64 (m : Int)]).run Tryd.prog w = .ok (.slice a' (xs.length + m) c') w') ∧
      Own w' B (.slice a' (xs.length + m) c') (xs ++ List.replicate m 0) ∧ w.grownBy w' (Value.slice a xs.length c).ownBlock := by
  obtain ⟨i0, hi0, hz0, hz1, hz2⟩ := info_parts info_u64
  have hsm : smalls (xs ++ List.replicate m 0) := fun x hx => (List.mem_append.1 hx).elim (ho.1 x) (smalls_zeros m x)
  have hln : (xs ++ List.replicate m 0).length = xs.length + m := by simp
  have hcl : (cellsU (xs ++ List.replicate m 0)).length = (xs.length + m) * 1 := by rw [cellsU_length, hln, Nat.mul_one]
  have grown : ∀ (old : Nat) (R : Array Value), R = (cellsU xs).toArray ++ Builtin.zeroCells (Value.int .u64 0).cells m ++ Builtin.zeroCells (Value.int .u64 0).cells (grownCap w (xs.length + m) old 33 - (xs.length + m)) →
      (w.drew.alloc (.cells R 33)).ownsRow B 33 1 (.slice (some ⟨w.heap.size, 0, none⟩) (xs.length + m) (grownCap w (xs.length + m) old 33)) (xs.length + m) (cellsU (xs ++ List.replicate m 0)) := by
    intro old R hR
    have hge := grownCap_ge w (xs.length + m) old 33
    have hcm := grownCap_le_maxLen w (xs.length + m) old 33 (by unfold maxLen; omega)
    rw [zeroCells_u64, zeroCells_u64] at hR
    refine ⟨hcl, .inr ⟨w.heap.size, _, _, rfl, hB, heap_alloc_new w.drew _, hge, hcm, ?_, ?_⟩⟩
    · rw [hR]; simp [cellsU_length]; omega
    · have e : R.toList = cellsU (xs ++ List.replicate m 0) ++ List.replicate (grownCap w (xs.length + m) old 33 - (xs.length + m)) (.int .u64 0) := by
        rw [hR, cellsU_zeros]; simp
      rw [e, ← hcl]
      exact List.take_left
  have gb : ∀ R r, w.grownBy (w.drew.alloc (.cells R 33)) r := fun R r => ⟨rfl, rfl, rfl, by simp, fun k hk _ => heap_alloc_old w.drew _ hk⟩
  rcases ho.2.2 with ⟨e, h0⟩ | ⟨g, cap, cur, e, hbg, hg, hnc, hcm, hcs, htake⟩
  · simp only [Value.slice.injEq] at e
    obtain ⟨rfl, _, rfl⟩ := e
    have hx : xs = [] := List.eq_nil_of_length_eq_zero h0
    subst hx
    have hr := fun ty => Lib.run_append_nil_zeros (P := Tryd.prog) w 35 3 ty 33 i0 (.int .u64 0) .i64 .i64 Tryd.underlying35 Tryd.underlying3 hi0 hz0 m hm0 (by omega) (by omega) (by rw [hz2]; omega)
    have hG := grown 0 _ rfl
    simp only [List.length_nil, Nat.zero_add, cellsU, List.map_nil, List.nil_append, Array.empty_append] at hG hr ⊢
    exact ⟨_, _, _, hr, ⟨by simpa using hsm, by simpa [cellsU] using hG⟩, gb _ _⟩
  · simp only [Value.slice.injEq, true_and] at e
    obtain ⟨rfl, rfl⟩ := e
    rw [Nat.mul_one] at hcs htake
    by_cases hroom : xs.length + m ≤ c
    · have hst := run_storeCells_at Tryd.prog g xs.length 33 (List.replicate m (.int .u64 0)) 0 cur w hg (by simp; omega) (fun v hv => by rw [(List.mem_replicate.1 hv).2]; rfl)
      rw [Nat.add_zero, List.length_replicate] at hst
      have hwm : IntKind.i64.wrap (m : Int) = (m : Int) := by
        rw [IntKind.wrap_i64]
        omega
      have hasi : ∀ W, (asInt (.int .i64 (m : Int))).run Tryd.prog W = .ok (m : Int) W := fun _ => rfl
      have hl0 : ¬ ((m : Int) < 0) := by omega
      have hby : ¬ (281474976710656 < (m : Int) * (i0.bytes : Int)) := by rw [hz2]; omega
      have hm1 : m ≠ 0 := by omega
      have hadd : (⟨g, 0, none⟩ : Addr).add xs.length = ⟨g, xs.length, none⟩ := by unfold Addr.add; split <;> simp_all
      refine ⟨some ⟨g, 0, none⟩, c, w.setRow g (cur.toList.take xs.length ++ List.replicate m (Value.int .u64 0) ++ cur.toList.drop (xs.length + m)).toArray, fun ty => ?_, ⟨hsm, ?_⟩, ?_⟩
      · unfold Builtin.append_
        simp [run_underlying Tryd.underlying35, run_underlying Tryd.underlying3, sizeOf, typeInfo, zeroValue, hi0, hz0, hz1, hasi, hwm, hl0, hby, hroom, hm1, zeroCells_u64, hadd, hst]
      · rw [hln]
        refine ⟨hcl, .inr ⟨g, c, _, rfl, hbg, setRow_heap w g cur _ 33 _ hg, hroom, hcm, ?_, ?_⟩⟩
        · simp; omega
        · rw [htake, Nat.mul_one, cellsU_zeros]
          have : (cellsU xs ++ List.replicate m (Value.int .u64 0)).length = xs.length + m := by simp [cellsU_length]
          rw [← this]
          exact List.take_left
      · exact ⟨rfl, rfl, rfl, by simp, fun k _ hk => setRow_other w g k _ (fun e => hk (by simp [Value.ownBlock, e]))⟩
    · have hfc := run_firstCells_some (P := Tryd.prog) w.drew 1 xs.length ⟨g, 0, none⟩ xs.length c (cellsU xs) (by rw [cellsU_length, Nat.mul_one]) (fun j u hj => (World.ownsRow.cells ho.2 (g := g) rfl j u hj))
      have hr := fun ty => Lib.run_append_grow_zeros (P := Tryd.prog) w 35 3 ty 33 i0 (.int .u64 0) .i64 .i64 Tryd.underlying35 Tryd.underlying3 hi0 hz0 (some ⟨g, 0, none⟩) xs.length c (cellsU xs) (by rw [hz1]; exact hfc) m hm0 (by omega) (by omega) (by omega) (by rw [hz2]; omega) (growslice_fits (by omega) (by rw [hz2]; omega))
      exact ⟨_, _, _, hr, ⟨hsm, by rw [hln]; exact grown c _ rfl⟩, gb _ _⟩
end Go.Proofs.YtjppopabjfncpaaDoor
