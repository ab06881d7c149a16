/-
  Contracts of nums.known, nums.number (of at most 8 bytes), nums.Get, bucketlineref06.width, Get: for every text and every int.
-/
import Derived.Test.YtdiondgkkanamaaDoorNM
namespace Go.Proofs.YtdiondgkkanamaaDoor
open Go.RowKit
set_option linter.unusedVariables false
set_option maxRecDepth 4000

/-- A width that numbers have. -/
def isW (k : Int) : Prop := k = 1 ∨ k = 2 ∨ k = 4
theorem isW_cases {k : Int} (h : isW k) : ∃ W : Nat, k = (W : Int) ∧ (W = 1 ∨ W = 2 ∨ W = 4) := by
  rcases h with rfl | rfl | rfl
  · exact ⟨1, rfl, .inl rfl⟩
  · exact ⟨2, rfl, .inr (.inl rfl)⟩
  · exact ⟨4, rfl, .inr (.inr rfl)⟩
theorem not_isW {k : Int} (h : ¬ isW k) : (k == 1) = false ∧ (k == 2) = false ∧ (k == 4) = false := by
  unfold isW at h
  simp only [beq_eq_false_iff_ne, ne_eq]
  omega

set_option maxHeartbeats 400000 in
theorem known_yes (k : Int) (h : isW k) (w : World) : Calls Tryd.prog 39 #[.int .i64 k] w fun e w' => e = .returned (.bool true) ∧ w' = w := by
  rcases h with rfl | rfl | rfl
  all_goals
    go_enter Tryd.func39, Tryd.ntmps39
    go_wp2
    go_ret
    exact ⟨rfl, rfl⟩
set_option maxHeartbeats 400000 in
theorem known_no (k : Int) (h : ¬ isW k) (w : World) : Calls Tryd.prog 39 #[.int .i64 k] w fun e w' => e = .returned (.bool false) ∧ w' = w := by
  obtain ⟨h1, h2, h3⟩ := not_isW h
  clear h
  go_enter Tryd.func39, Tryd.ntmps39
  go_wp2
  go_ret
  exact ⟨rfl, rfl⟩

theorem num_take {xs : List Nat} {k : Nat} (hk : k < xs.length) : num (xs.take (k + 1)) = num (xs.take k) * 256 + xs.getD k 0 := by rw [take_get hk, num_snoc]
theorem num_take_lt {xs : List Nat} (h : bytes xs) (k : Nat) : num (xs.take k) < 256 ^ k := num_lt_of (bytes_take h k) (List.length_take_le ..)


/-- The number that s begins with, and the error. -/
def gN (s : ByteArray) (k : Int) : Nat := if (k = 1 ∨ k = 2 ∨ k = 4) ∧ k ≤ (s.size : Int) then num ((tx s).take k.toNat) else 0
def gE (s : ByteArray) (k : Int) : Nat := if ¬ (k = 1 ∨ k = 2 ∨ k = 4) then 1 else if (s.size : Int) < k then 2 else 0
theorem g_no {s : ByteArray} {k : Int} (h : ¬ isW k) : gN s k = 0 ∧ gE s k = 1 := by
  unfold gN gE
  exact ⟨if_neg fun h1 => h h1.1, if_pos h⟩
theorem g_short {s : ByteArray} {k : Int} (h : isW k) (h1 : (s.size : Int) < k) : gN s k = 0 ∧ gE s k = 2 := by
  unfold gN gE
  exact ⟨if_neg fun h2 => by omega, by rw [if_neg (fun h2 => h2 h), if_pos h1]⟩
theorem g_yes {s : ByteArray} {k : Int} (h : isW k) (h1 : k ≤ (s.size : Int)) : gN s k = num ((tx s).take k.toNat) ∧ gE s k = 0 := by
  unfold gN gE
  exact ⟨if_pos ⟨h, h1⟩, by rw [if_neg (fun h2 => h2 h), if_neg (by omega)]⟩
theorem ret2 {k k' : IntKind} {a a' b b' : Int} (h : a = a') (h' : b = b') : Ending.returned (.tuple #[.int k a, .int k' b]) = .returned (.tuple #[.int k a', .int k' b']) := by rw [h, h']


end Go.Proofs.YtdiondgkkanamaaDoor
