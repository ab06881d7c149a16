/-
  Contracts of words.Set and bucketlineref01.Set: for every row of at most 2^20 words, every int, both values.
-/
import Derived.Test.YtakoaadimhpclaaGreatDoorU8
namespace Go.Proofs.YtakoaadimhpclaaGreatDoor
open Go.RowKit
set_option linter.unusedVariables false
set_option linter.unusedSimpArgs false
set_option maxRecDepth 4000

def setI (xs : List Nat) (i : Int) (on : Bool) : List Nat := if i < 0 then xs else setB xs i.toNat on

theorem or_num (x : Nat) (i : Int) (hx : x < 18446744073709551616) : bits .or .u64 (x : Int) ((2 ^ (i % 64).toNat : Nat) : Int) = ((setW x (i % 64).toNat true : Nat) : Int) := by
  have h : (i % 64).toNat < 64 := by omega
  have h2 : 2 ^ (i % 64).toNat < 2 ^ 64 := Nat.pow_lt_pow_right (by decide) h
  rw [u64_or_nat x _ hx (by omega), or_setW]
theorem andNot_num (x : Nat) (i : Int) (hx : x < 18446744073709551616) : bits .andNot .u64 (x : Int) ((2 ^ (i % 64).toNat : Nat) : Int) = ((setW x (i % 64).toNat false : Nat) : Int) := by
  have h : (i % 64).toNat < 64 := by omega
  have h2 : 2 ^ (i % 64).toNat < 2 ^ 64 := Nat.pow_lt_pow_right (by decide) h
  rw [u64_andNot_nat x _ hx (by omega), andNot_setW x _ hx h]

theorem div_wrap (i : Int) (q : Nat) (h0 : 0 ≤ i) (hi : i ≤ 9223372036854775807) (hq : i / 64 = (q : Int)) : IntKind.i64.wrap (i.tdiv 64) = (q : Int) := by
  rw [Int.tdiv_eq_ediv_of_nonneg h0, hq]
  simp [IntKind.wrap, IntKind.bits, IntKind.signed]
  omega
theorem set_store {w wr : World} {B g cap q : Nat} {xs : List Nat} {i : Int} {on : Bool} (h0 : 0 ≤ i) (hq : i / 64 = (q : Int)) (hx : smalls xs) (hB : B ≤ g) (ho : Own wr B (.slice (some ⟨g, 0, none⟩) xs.length cap) xs) (hb : Below B w wr) :
    Own (wr.setCell ⟨g, q, none⟩ (.int .u64 ((setW (xs.getD q 0) (i % 64).toNat on : Nat) : Int))) B (.slice (some ⟨g, 0, none⟩) xs.length cap) (setI xs i on) ∧
    Below B w (wr.setCell ⟨g, q, none⟩ (.int .u64 ((setW (xs.getD q 0) (i % 64).toNat on : Nat) : Int))) := by
  have h1 := ho.stored q (setW (xs.getD q 0) (i % 64).toNat on) (setW_lt _ _ _ (hx.get _) (by omega))
  refine ⟨?_, hb.setCell (by exact hB) _⟩
  unfold setI setB
  rw [if_neg (by omega), show i.toNat / 64 = q by omega, show i.toNat % 64 = (i % 64).toNat by omega]
  exact h1
theorem Own.drew {w : World} {B : Nat} {v : Value} {xs : List Nat} (h : Own w B v xs) : Own w.drew B v xs := ⟨h.1, h.2.drew⟩
theorem set_stored {w wr : World} {B g cap q : Nat} {xs : List Nat} {i : Int} {on : Bool} (h0 : 0 ≤ i) (hq : i / 64 = (q : Int)) (hx : smalls xs) (hB : B ≤ g) (ho : Own wr B (.slice (some ⟨g, 0, none⟩) xs.length cap) xs) (hb : Below B w wr) :
    Own (wr.setCell ⟨g, q, none⟩ (.int .u64 ((setW (xs.getD q 0) (i % 64).toNat on : Nat) : Int))).drew B (.slice (some ⟨g, 0, none⟩) xs.length cap) (setI xs i on) ∧
    Below B w (wr.setCell ⟨g, q, none⟩ (.int .u64 ((setW (xs.getD q 0) (i % 64).toNat on : Nat) : Int))).drew := by
  obtain ⟨h1, h2⟩ := set_store (on := on) h0 hq hx hB ho hb
  exact ⟨h1.drew, h2.drew⟩
theorem setI_out {xs : List Nat} {i : Int} {on : Bool} (h : ¬ (0 ≤ i ∧ i / 64 < (xs.length : Int))) : setI xs i on = xs := by
  unfold setI
  split
  · rfl
  · exact setB_out xs _ on (by omega)

set_option maxHeartbeats 1000000 in
theorem set_any (a : Option Addr) (n c : Nat) (xs : List Nat) (i : Int) (on : Bool) (w : World) (h : RowAt w a n xs) (hn : n ≤ 1048576) (hi : i ≤ 9223372036854775807) :
    Calls Tryz.prog 45 #[.slice a n c, .int .i64 i, .bool on] w fun e w' => ∃ v, e = .returned v ∧ Own w' w.heap.size v (setI xs i on) ∧ Below w.heap.size w w' := by
  obtain rfl : n = xs.length := h.1.symm
  by_cases hin : 0 ≤ i ∧ i / 64 < (xs.length : Int)
  · obtain ⟨h0, hlt⟩ := hin
    obtain ⟨q, hq⟩ := Int.eq_ofNat_of_zero_le (show 0 ≤ i / 64 by omega)
    have hqw := div_wrap i q h0 hi hq
    have hql : q < xs.length := by omega
    have hql' : (q : Int) < (xs.length : Int) := by omega
    have HM := hide (fun wx => mask_any i h0 hi wx)
    go_enter Tryz.func45, Tryz.ntmps45
    go_wp2_with fail
    refine (clone_any a xs.length c xs _ h (by omega)).mono ?_
    rintro e w1 ⟨v, rfl, ho, hb⟩
    have HO := hide ho
    obtain ⟨g, cap, rfl, hBg, hgs, hcg, hfg⟩ := ho.at (by omega)
    have hcell := hcg q (by omega)
    have hfz := hfg q
    have hx := h.2.1.get q
    have hw := within_pos (some ⟨g, 0, none⟩) xs.length cap i h0 hi w1
    rw [show decide (i / 64 < (xs.length : Int)) = true by simp; omega] at hw
    have HW := hide hw
    clear hw hcg hfg ho hlt
    have R1 := hide (set_stored (on := true) h0 hq h.2.1 hBg (unhide HO) hb)
    have R2 := hide (set_stored (on := false) h0 hq h.2.1 hBg (unhide HO) hb)
    have hor := or_num (xs.getD q 0) i hx
    have han := andNot_num (xs.getD q 0) i hx
    generalize (2 ^ (i % 64).toNat : Nat) = mk at *
    generalize xs.getD q 0 = x at *
    generalize setW x (i % 64).toNat true = y at *
    generalize setW x (i % 64).toNat false = z at *
    clear HO h hb
    cases on with
    | true =>
      go_wp2_with (go_at_call 66; refine (unhide HW).mono ?_; rintro e w' ⟨rfl, rfl⟩)
      go_region_with (go_at_call 67; refine (unhide HM _).mono ?_; rintro e w' ⟨rfl, rfl⟩)
      all_goals go_wp2
      all_goals go_ret
      all_goals exact ⟨_, rfl, (unhide R1).1, (unhide R1).2⟩
    | false =>
      go_wp2_with (go_at_call 66; refine (unhide HW).mono ?_; rintro e w' ⟨rfl, rfl⟩)
      go_region_with (go_at_call 67; refine (unhide HM _).mono ?_; rintro e w' ⟨rfl, rfl⟩)
      all_goals go_wp2
      all_goals go_ret
      all_goals exact ⟨_, rfl, (unhide R2).1, (unhide R2).2⟩
  · have hw : ∀ (a1 : Option Addr) (c1 : Nat) (wx : World), Calls Tryz.prog 66 #[.slice a1 xs.length c1, .int .i64 i] wx fun e w' => e = .returned (.bool false) ∧ w' = wx := by
      intro a1 c1 wx
      by_cases h0 : 0 ≤ i
      · have := within_pos a1 xs.length c1 i h0 hi wx
        rwa [show decide (i / 64 < (xs.length : Int)) = false by simp; omega] at this
      · exact within_neg a1 xs.length c1 i (by omega) wx
    have HW := hide hw
    have HE := hide (setI_out (on := on) hin)
    clear hw hin
    go_enter Tryz.func45, Tryz.ntmps45
    go_wp2_with fail
    refine (clone_any a xs.length c xs _ h (by omega)).mono ?_
    rintro e w1 ⟨v, rfl, ho, hb⟩
    have HO := hide ho
    obtain ⟨a1, c1, rfl, hr⟩ := ho.row
    clear ho hr
    go_wp2_with (go_at_call 66; refine (unhide HW a1 c1 _).mono ?_; rintro e w' ⟨rfl, rfl⟩)
    go_ret
    exact ⟨_, rfl, by rw [unhide HE]; exact unhide HO, hb⟩

theorem rset_num (x k : Nat) (on : Bool) (hx : x < 18446744073709551616) (hk : k < 64) (hne : x.testBit k ≠ on) : bits .xor .u64 (x : Int) ((2 ^ k : Nat) : Int) = ((setW x k on : Nat) : Int) := by
  have h2 : 2 ^ k < 2 ^ 64 := Nat.pow_lt_pow_right (by decide) hk
  rw [u64_xor_nat x _ hx (by omega)]
  unfold setW
  rw [if_neg hne]
theorem setI_same {xs : List Nat} {i : Int} {on : Bool} {q : Nat} (h0 : 0 ≤ i) (hq : i / 64 = (q : Int)) (he : (xs.getD q 0).testBit (i % 64).toNat = on) : setI xs i on = xs := by
  unfold setI setB setW
  rw [if_neg (by omega), show i.toNat / 64 = q by omega, show i.toNat % 64 = (i % 64).toNat by omega, if_pos he]
  apply List.ext_getElem (by simp)
  intro j h1 h2
  rw [List.getElem_set]
  split
  · rename_i e; subst e; simp [List.getD_eq_getElem?_getD, List.getElem?_eq_getElem h2]
  · rfl

set_option maxHeartbeats 1000000 in
theorem rset_any (a : Option Addr) (n c : Nat) (xs : List Nat) (i : Int) (on : Bool) (w : World) (h : RowAt w a n xs) (hn : n ≤ 1048576) (hi : i ≤ 9223372036854775807) :
    Calls Tryz.prog 28 #[.slice a n c, .int .i64 i, .bool on] w fun e w' => ∃ v, e = .returned v ∧ Own w' w.heap.size v (setI xs i on) ∧ Below w.heap.size w w' := by
  obtain rfl : n = xs.length := h.1.symm
  by_cases hin : 0 ≤ i ∧ i / 64 < (xs.length : Int)
  · obtain ⟨h0, hlt⟩ := hin
    obtain ⟨q, hq⟩ := Int.eq_ofNat_of_zero_le (show 0 ≤ i / 64 by omega)
    have hqw := div_wrap i q h0 hi hq
    have hql : q < xs.length := by omega
    have hql' : (q : Int) < (xs.length : Int) := by omega
    have hc0 : decide (i < 0) = false := by simp; omega
    have hG := fun (wx : World) (hr : RowAt wx a xs.length xs) => rget_in a xs.length c xs i wx hr h0 hi hlt (by omega)
    have hge : getB xs i.toNat = (xs.getD q 0).testBit (i % 64).toNat := by
      unfold getB
      rw [show i.toNat / 64 = q by omega, show i.toNat % 64 = (i % 64).toNat by omega]
    rw [hge] at hG
    clear hge
    by_cases hsame : (xs.getD q 0).testBit (i % 64).toNat = on
    · have HE := hide (setI_same h0 hq hsame)
      rw [hsame] at hG
      have HG := hide hG
      clear hG hsame
      go_enter Tryz.func28, Tryz.ntmps28
      go_wp2_with (first | (at_builtin; refine wpList_append_nil rfl _ _ rfl a xs.length c xs rfl rfl h (by omega) ?_; intro v w1 ho hb))
      refine (unhide HG _ (h.below hb)).mono ?_
      rintro e w2 ⟨rfl, rfl⟩
      have hbb : (on == on) = true := by simp
      have HO := hide ho
      have HB := hide hb
      clear ho hb h
      go_wp2
      go_ret
      exact ⟨_, rfl, by rw [unhide HE]; exact unhide HO, unhide HB⟩
    · have HG := hide hG
      have hx := h.2.1.get q
      have hbe : ((xs.getD q 0).testBit (i % 64).toNat == on) = false := by simpa using hsame
      have hxo := rset_num (xs.getD q 0) (i % 64).toNat on hx (by omega) hsame
      have hmk := mask_num i
      clear hG
      go_enter Tryz.func28, Tryz.ntmps28
      go_wp2_with (first | (at_builtin; refine wpList_append_nil rfl _ _ rfl a xs.length c xs rfl rfl h (by omega) ?_; intro v w1 ho hb))
      refine (unhide HG _ (h.below hb)).mono ?_
      rintro e w2 ⟨rfl, rfl⟩
      obtain ⟨g, cap, rfl, hBg, hgs, hcg, hfg⟩ := ho.at (by omega)
      have hcell := hcg q (by omega)
      have hfz := hfg q
      have R1 := hide (set_store (on := on) h0 hq h.2.1 hBg ho hb)
      generalize setW (xs.getD q 0) (i % 64).toNat on = y at *
      generalize (xs.getD q 0).testBit (i % 64).toNat = tb at *
      generalize xs.getD q 0 = x at *
      clear hcg hfg ho hb h HG hsame
      rw [← hmk] at hxo
      clear hmk
      go_wp2
      go_ret
      exact ⟨_, rfl, (unhide R1).1, (unhide R1).2⟩
  · have HE := hide (setI_out (on := on) hin)
    by_cases h0 : 0 ≤ i
    · have hc0 : decide (i < 0) = false := by simp; omega
      have hc1 : decide ((xs.length : Int) ≤ i / 64) = true := by simp; omega
      clear hin
      go_enter Tryz.func28, Tryz.ntmps28
      go_wp2_with (first | (at_builtin; refine wpList_append_nil rfl _ _ rfl a xs.length c xs rfl rfl h (by omega) ?_; intro v w1 ho hb))
      go_ret
      exact ⟨_, rfl, by rw [unhide HE]; exact ho, hb⟩
    · have hc0 : decide (i < 0) = true := by simp; omega
      clear hin
      go_enter Tryz.func28, Tryz.ntmps28
      go_wp2_with (first | (at_builtin; refine wpList_append_nil rfl _ _ rfl a xs.length c xs rfl rfl h (by omega) ?_; intro v w1 ho hb))
      go_ret
      exact ⟨_, rfl, by rw [unhide HE]; exact ho, hb⟩
end Go.Proofs.YtakoaadimhpclaaGreatDoor
