/-
  Contracts of words.Set and bucketlineref01.Set: for every row of at most 2^20 words, every int, both values.
-/
import Derived.Test.YtbfkhioljpgjjaaDoorRB
namespace Go.Proofs.YtbfkhioljpgjjaaDoor
open Go.RowKit
set_option linter.unusedVariables false
set_option maxRecDepth 4000

def setI (xs : List Nat) (i : Int) (on : Bool) : List Nat := if i < 0 then xs else setB xs i.toNat on

theorem or_num (x : Nat) (i : Int) (hx : x < 18446744073709551616) : bits .or .u64 (x : Int) ((2 ^ (i % 64).toNat : Nat) : Int) = ((setW x (i % 64).toNat true : Nat) : Int) := by
  have h : (i % 64).toNat < 64 := by omega
  have h2 : 2 ^ (i % 64).toNat < 2 ^ 64 := Nat.pow_lt_pow_right (by decide) h
  rw [u64_or_nat x _ hx (by omega), or_setW]
theorem andNot_num (x : Nat) (i : Int) (hx : x < 18446744073709551616) : bits .andNot .u64 (x : Int) ((2 ^ (i % 64).toNat : Nat) : Int) = ((setW x (i % 64).toNat false : Nat) : Int) := by
  have h : (i % 64).toNat < 64 := by omega
  have h2 : 2 ^ (i % 64).toNat < 2 ^ 64 := Nat.pow_lt_pow_right (by decide) h
  rw [u64_andNot_nat x _ hx (by omega), andNot_setW x _ hx h]

theorem div_wrap (i : Int) (q : Nat) (h0 : 0 ≤ i) (hi : i ≤ 9223372036854775807) (hq : i / 64 = (q : Int)) : IntKind.i64.wrap (i.tdiv 64) = (q : Int) := by
  rw [Int.tdiv_eq_ediv_of_nonneg h0, hq]
  simp [IntKind.wrap, IntKind.bits, IntKind.signed]
  omega
theorem set_store {w wr : World} {B g cap q : Nat} {xs : List Nat} {i : Int} {on : Bool} (h0 : 0 ≤ i) (hq : i / 64 = (q : Int)) (hx : smalls xs) (hB : B ≤ g) (ho : Own wr B (.slice (some ⟨g, 0, none⟩) xs.length cap) xs) (hb : Below B w wr) :
    Own (wr.setCell ⟨g, q, none⟩ (.int .u64 ((setW (xs.getD q 0) (i % 64).toNat on : Nat) : Int))) B (.slice (some ⟨g, 0, none⟩) xs.length cap) (setI xs i on) ∧
    Below B w (wr.setCell ⟨g, q, none⟩ (.int .u64 ((setW (xs.getD q 0) (i % 64).toNat on : Nat) : Int))) := by
  have h1 := ho.stored q (setW (xs.getD q 0) (i % 64).toNat on) (setW_lt _ _ _ (hx.get _) (by omega))
  refine ⟨?_, hb.setCell (by exact hB) _⟩
  unfold setI setB
  rw [if_neg (by omega), show i.toNat / 64 = q by omega, show i.toNat % 64 = (i % 64).toNat by omega]
  exact h1
theorem Own.drew {w : World} {B : Nat} {v : Value} {xs : List Nat} (h : Own w B v xs) : Own w.drew B v xs := ⟨h.1, h.2.drew⟩
theorem set_stored {w wr : World} {B g cap q : Nat} {xs : List Nat} {i : Int} {on : Bool} (h0 : 0 ≤ i) (hq : i / 64 = (q : Int)) (hx : smalls xs) (hB : B ≤ g) (ho : Own wr B (.slice (some ⟨g, 0, none⟩) xs.length cap) xs) (hb : Below B w wr) :
    Own (wr.setCell ⟨g, q, none⟩ (.int .u64 ((setW (xs.getD q 0) (i % 64).toNat on : Nat) : Int))).drew B (.slice (some ⟨g, 0, none⟩) xs.length cap) (setI xs i on) ∧
    Below B w (wr.setCell ⟨g, q, none⟩ (.int .u64 ((setW (xs.getD q 0) (i % 64).toNat on : Nat) : Int))).drew := by
  obtain ⟨h1, h2⟩ := set_store (on := on) h0 hq hx hB ho hb
  exact ⟨h1.drew, h2.drew⟩
theorem setI_out {xs : List Nat} {i : Int} {on : Bool} (h : ¬ (0 ≤ i ∧ i / 64 < (xs.length : Int))) : setI xs i on = xs := by
  unfold setI
  split
  · rfl
  · exact setB_out xs _ on (by omega)


theorem rset_num (x k : Nat) (on : Bool) (hx : x < 18446744073709551616) (hk : k < 64) (hne : x.testBit k ≠ on) : bits .xor .u64 (x : Int) ((2 ^ k : Nat) : Int) = ((setW x k on : Nat) : Int) := by
  have h2 : 2 ^ k < 2 ^ 64 := Nat.pow_lt_pow_right (by decide) hk
  rw [u64_xor_nat x _ hx (by omega)]
  unfold setW
  rw [if_neg hne]
theorem setI_same {xs : List Nat} {i : Int} {on : Bool} {q : Nat} (h0 : 0 ≤ i) (hq : i / 64 = (q : Int)) (he : (xs.getD q 0).testBit (i % 64).toNat = on) : setI xs i on = xs := by
  unfold setI setB setW
  rw [if_neg (by omega), show i.toNat / 64 = q by omega, show i.toNat % 64 = (i % 64).toNat by omega, if_pos he]
  apply List.ext_getElem (by simp)
  intro j h1 h2
  rw [List.getElem_set]
  split
  · rename_i e; subst e; simp [List.getD_eq_getElem?_getD, List.getElem?_eq_getElem h2]
  · rfl

end Go.Proofs.YtbfkhioljpgjjaaDoor
