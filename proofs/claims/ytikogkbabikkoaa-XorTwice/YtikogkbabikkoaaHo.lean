/-
  Rows that are true of blocks, by bits and bytes ('HoldsP'); their xor is, too ('holds_all'). No condition.
-/
import Derived.Test.YtikogkbabikkoaaXC
import Derived.Test.YtikogkbabikkoaaXE
import Derived.Test.YtikogkbabikkoaaXG
namespace Go.Proofs.Ytikogkbabikkoaa
open Go.RowKit Go.Sort
set_option linter.unusedVariables false
set_option maxRecDepth 4000

/-- A row that is true of blocks, by bits and bytes. -/
def HoldsP (ss : List ByteArray) (vs : List Nat) (xs : List Nat) : Prop := (∀ i, (ofL ss vs ss.length).getD i 0 = xs.getD i 0) ∧ ∀ i, ss.length ≤ i → getB vs i = false
theorem xor_zero_iff (x y : Nat) : x ^^^ y = 0 ↔ x = y := by
  constructor
  · intro h
    have h2 : (x ^^^ y) ^^^ y = x := by rw [Nat.xor_assoc, Nat.xor_self, Nat.xor_zero]
    rw [h, Nat.zero_xor] at h2
    exact h2.symm
  · intro h; rw [h, Nat.xor_self]
theorem holds_iff (ss : List ByteArray) (vs : List Nat) (s : ByteArray) : holdsB ss vs s = true ↔ HoldsP ss vs (tx s) := by
  rw [holdsB_iff, zeroB_iff, tx_xorS, tx_st (ofL_bytes _ _ _)]
  unfold HoldsP
  refine and_congr_left fun _ => forall_congr' fun i => ?_
  rw [xorL_getD]
  exact xor_zero_iff _ _
theorem ofL_xor (ss : List ByteArray) (u v : List Nat) (i : Nat) : ∀ k, (ofL ss (xorL u v) k).getD i 0 = (ofL ss u k).getD i 0 ^^^ (ofL ss v k).getD i 0
  | 0 => by simp [ofL]
  | k + 1 => by
    have ih := ofL_xor ss u v i k
    have hx := getB_xorL u v k
    unfold ofL
    rw [hx]
    cases getB u k <;> cases getB v k
    · simpa using ih
    · simp only [Bool.false_xor, if_true, xorL_getD, ih, Bool.false_eq_true, if_false]
      rw [Nat.xor_assoc]
    · simp only [Bool.xor_false, if_true, xorL_getD, ih, Bool.false_eq_true, if_false]
      rw [Nat.xor_assoc, Nat.xor_comm ((ofL ss v k).getD i 0), ← Nat.xor_assoc]
    · simp only [Bool.xor_self, if_true, xorL_getD, ih, Bool.false_eq_true, if_false]
      generalize (ofL ss u k).getD i 0 = x
      generalize (ofL ss v k).getD i 0 = y
      generalize (tx (ss.getD k ByteArray.empty)).getD i 0 = z
      rw [Nat.xor_assoc x z, ← Nat.xor_assoc z y, Nat.xor_comm z y, Nat.xor_assoc y z z, Nat.xor_self, Nat.xor_zero]
theorem HoldsP.nil (ss : List ByteArray) : HoldsP ss [] [] := by
  refine ⟨fun i => ?_, fun i _ => getB_nil i⟩
  have : ∀ k, ofL ss [] k = [] := fun k => by
    induction k with
    | zero => rfl
    | succ k ih => unfold ofL; rw [getB_nil]; simpa using ih
  rw [this]
theorem HoldsP.xor {ss : List ByteArray} {u v xs ys : List Nat} (h : HoldsP ss u xs) (h' : HoldsP ss v ys) : HoldsP ss (xorL u v) (xorL xs ys) := by
  refine ⟨fun i => ?_, fun i hi => ?_⟩
  · rw [ofL_xor, xorL_getD, h.1 i, h'.1 i]
  · rw [getB_xorL, h.2 i hi, h'.2 i hi]; rfl
theorem HoldsP.all (ss : List ByteArray) (rs : List RV) (h : ∀ r ∈ rs, HoldsP ss r.xs (tx r.s)) : ∀ u xs, HoldsP ss u xs → HoldsP ss (rs.foldl (fun a r => xorL a r.xs) u) ((rs.map fun r => r.s).foldl (fun a s => xorL a (tx s)) xs) := by
  induction rs with
  | nil => exact fun u xs hu => hu
  | cons r rs ih => exact fun u xs hu => ih (fun r hr => h r (List.mem_cons_of_mem _ hr)) _ _ (hu.xor (h r List.mem_cons_self))
theorem holds_all (ss : List ByteArray) (rs : List RV) (h : ∀ r ∈ rs, holdsB ss r.xs r.s = true) : holdsB ss (vecL rs) (st (sumL (rs.map fun r => r.s))) = true := by
  rw [holds_iff, tx_st (sumL_bytes _)]
  exact HoldsP.all ss rs (fun r hr => (holds_iff _ _ _).1 (h r hr)) [] [] (HoldsP.nil ss)
end Go.Proofs.Ytikogkbabikkoaa
