/-
  Blocks of a text, on plain lists: how many ('kc'), what each holds ('blk'), all of them ('blocksL'), joined. No condition.
-/
import Derived.Test.YtljkmajajcocdaaU4
import Derived.OwnWalk
namespace Go.Proofs.Ytljkmajajcocdaa
open Go.RowKit
set_option linter.unusedVariables false
set_option linter.unusedSimpArgs false
set_option maxRecDepth 4000

/-- How many blocks of z bytes n bytes have. -/
def kc (n z : Nat) : Nat := if 0 < n % z ∨ n / z = 0 then n / z + 1 else n / z
theorem kc_pos (n z : Nat) : 1 ≤ kc n z := by
  unfold kc
  generalize n / z = q
  generalize n % z = r
  split <;> rename_i h <;> omega
theorem kc_enough (n z : Nat) (hz : 0 < z) : n ≤ kc n z * z := by
  have h1 := Nat.div_add_mod n z
  have h2 := Nat.mod_lt n hz
  rw [Nat.mul_comm] at h1
  unfold kc
  split
  · rw [Nat.add_mul]; omega
  · rename_i h
    have : n % z = 0 := by omega
    omega
theorem kc_least (n z k : Nat) (hz : 0 < z) (hk : 1 ≤ k) (h : n ≤ k * z) : kc n z ≤ k := by
  have h1 := Nat.div_add_mod n z
  have h2 := Nat.mod_lt n hz
  rw [Nat.mul_comm] at h1
  unfold kc
  split
  · rename_i hc
    rcases hc with hc | hc
    · rcases Nat.lt_or_ge (n / z) k with h' | h'
      · omega
      · have := Nat.mul_le_mul_right z h'
        omega
    · omega
  · rename_i hc
    rcases Nat.lt_or_ge k (n / z) with h' | h'
    · have := Nat.mul_le_mul_right z (Nat.succ_le_of_lt h')
      rw [Nat.succ_mul] at this
      omega
    · exact h'
theorem kc_great (n z k : Nat) (hz : 0 < z) (hk : 1 ≤ k) : k < kc n z ↔ k * z < n := by
  constructor
  · intro h
    rcases Nat.lt_or_ge (k * z) n with h' | h'
    · exact h'
    · have := kc_least n z k hz hk h'
      omega
  · intro h
    have h1 := kc_enough n z hz
    rcases Nat.lt_or_ge k (kc n z) with h' | h'
    · exact h'
    · have := Nat.mul_le_mul_right z h'
      omega
theorem kc_eq (n z k : Nat) (hz : 0 < z) (hk : 1 ≤ k) (h : n ≤ k * z) (hl : k = 1 ∨ (k - 1) * z < n) : kc n z = k := by
  have h1 := kc_least n z k hz hk h
  rcases hl with rfl | hl
  · have := kc_pos n z; omega
  · by_cases e : k = 1
    · subst e; have := kc_pos n z; omega
    · have := (kc_great n z (k - 1) hz (by omega)).2 hl
      omega

/-- The error's number, and how many blocks. -/
def planE (n z : Int) : Int := if n < 0 ∨ z < 1 ∨ 64 < z then 1 else if 128 < kc n.toNat z.toNat then 2 else 0
def planK (n z : Int) : Int := if planE n z = 0 then (kc n.toNat z.toNat : Int) else 0
theorem plan_arg {n z : Int} (h : n < 0 ∨ z < 1 ∨ 64 < z) : planE n z = 1 ∧ planK n z = 0 := by
  have e : planE n z = 1 := if_pos h
  exact ⟨e, by unfold planK; rw [e]; rfl⟩
theorem plan_size {n z : Nat} (h1 : 1 ≤ z) (h2 : z ≤ 64) (h : 128 < kc n z) : planE (n : Int) (z : Int) = 2 ∧ planK (n : Int) (z : Int) = 0 := by
  have e : planE (n : Int) (z : Int) = 2 := by
    unfold planE
    rw [if_neg (by omega), if_pos (by simpa using h)]
  exact ⟨e, by unfold planK; rw [e]; rfl⟩
theorem plan_ok {n z : Nat} (h1 : 1 ≤ z) (h2 : z ≤ 64) (h : kc n z ≤ 128) : planE (n : Int) (z : Int) = 0 ∧ planK (n : Int) (z : Int) = (kc n z : Int) := by
  have e : planE (n : Int) (z : Int) = 0 := by
    unfold planE
    rw [if_neg (by omega), if_neg (by simp; omega)]
  exact ⟨e, by unfold planK; rw [e]; simp⟩

end Go.Proofs.Ytljkmajajcocdaa
