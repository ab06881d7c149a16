/-
  Contracts of words.First, words.Xor, words.Same: for every row of at most 2^20 words.
-/
import Derived.Test.YtpklckpnimmkpaaWB
namespace Go.Proofs.Ytpklckpnimmkpaa
open Go.RowKit
set_option linter.unusedVariables false
set_option maxRecDepth 4000

theorem first_step (xs : List Nat) (k : Nat) (h : ∀ j, j < k → xs.getD j 0 = 0) (h0 : xs.getD k 0 = 0) : ∀ j, j < k + 1 → xs.getD j 0 = 0 := by
  intro j hj
  by_cases e : j = k
  · rw [e]; exact h0
  · exact h j (by omega)
theorem first_none (xs : List Nat) (h : ∀ j, j < xs.length → xs.getD j 0 = 0) : firstI xs = -1 :=
  firstI_zero xs ((all_zero_iff xs).2 fun i => by
    by_cases hi : i < xs.length
    · exact h i hi
    · exact getD_of_le (by omega))

theorem xorTo_small {xs ys : List Nat} (hx : smalls xs) (hy : smalls ys) (k : Nat) : smalls (xorTo xs ys k) := by
  intro z hz
  unfold xorTo at hz
  obtain ⟨i, _, rfl⟩ := List.mem_map.1 hz
  have h1 := hx.get i
  have h2 := hy.get i
  show (if i < k then xs.getD i 0 ^^^ ys.getD i 0 else xs.getD i 0) < 18446744073709551616
  split
  · exact Nat.xor_lt_two_pow (n := 64) (by omega) (by omega)
  · exact h1

theorem xor_round {w wr : World} {B g cap : Nat} {xs ys : List Nat} {k : Nat} (hx : smalls xs) (hy : smalls ys) (hk : k < xs.length) (hB : B ≤ g)
    (ho : Own wr B (.slice (some ⟨g, 0, none⟩) xs.length cap) (xorTo xs ys k)) (hb : Below B w wr) :
    Own (wr.setCell ⟨g, k, none⟩ (.int .u64 ((xs.getD k 0 ^^^ ys.getD k 0 : Nat) : Int))) B (.slice (some ⟨g, 0, none⟩) xs.length cap) (xorTo xs ys (k + 1)) ∧
    Below B w (wr.setCell ⟨g, k, none⟩ (.int .u64 ((xs.getD k 0 ^^^ ys.getD k 0 : Nat) : Int))) := by
  have hl := xorTo_length xs ys k
  rw [← hl] at ho
  have h1 := ho.stored k (xs.getD k 0 ^^^ ys.getD k 0) (Nat.xor_lt_two_pow (n := 64) (by have := hx.get k; omega) (by have := hy.get k; omega))
  rw [xorTo_succ xs ys k hk, hl] at h1
  exact ⟨h1, hb.setCell (by exact hB) _⟩


theorem xorL_small {xs ys : List Nat} (hx : smalls xs) (hy : smalls ys) : smalls (xorL xs ys) := by
  intro z hz
  unfold xorL at hz
  obtain ⟨i, _, rfl⟩ := List.mem_map.1 hz
  have h1 := hx.get i
  have h2 := hy.get i
  exact Nat.xor_lt_two_pow (n := 64) (by omega) (by omega)

end Go.Proofs.Ytpklckpnimmkpaa
