/-
  Which packets may be (CheckP); bools and errors' numbers that tell a proposition. No condition.
-/
import Derived.Test.YtdiondgkkanamaaDoorG6
import Derived.Test.YtdiondgkkanamaaDoorXS
namespace Go.Proofs.YtdiondgkkanamaaDoor
set_option linter.unusedVariables false
set_option maxRecDepth 4000

/-- A bool that tells P. -/
def TB (b : Bool) (P : Prop) : Prop := b = true ↔ P
theorem tb_ex (P : Prop) : ∃ b, TB b P := by
  by_cases h : P
  · exact ⟨true, by simp [TB, h]⟩
  · exact ⟨false, by simp [TB, h]⟩
theorem TB.no {b : Bool} {P : Prop} (h : TB b P) (hp : ¬ P) : b = false := by
  cases b
  · rfl
  · exact absurd (h.1 rfl) hp
theorem TB.yes {b : Bool} {P : Prop} (h : TB b P) (hp : P) : b = true := h.2 hp
/-- The error's number of what may be, or not. -/
def CkP (en : Nat) (P : Prop) : Prop := (P ∧ en = 0) ∨ (¬ P ∧ en = 1)
theorem ck_ex (P : Prop) : ∃ en, CkP en P := by
  by_cases h : P
  · exact ⟨0, .inl ⟨h, rfl⟩⟩
  · exact ⟨1, .inr ⟨h, rfl⟩⟩
theorem CkP.yes {en : Nat} {P : Prop} (h : CkP en P) (hp : P) : en = 0 := by
  rcases h with ⟨_, h⟩ | ⟨h, _⟩
  · exact h
  · exact absurd hp h
theorem CkP.no {en : Nat} {P : Prop} (h : CkP en P) (hp : ¬ P) : en = 1 := by
  rcases h with ⟨h, _⟩ | ⟨_, h⟩
  · exact absurd h hp
  · exact h

def shapedP (k z : Int) : Prop := (1 ≤ k ∧ k ≤ 128) ∧ 1 ≤ z ∧ z ≤ 64
def boundP (o l k z h : Int) : Prop := shapedP k z ∧ (0 ≤ o ∧ o ≤ 4294967295) ∧ (0 ≤ l ∧ l ≤ k * z) ∧ 0 ≤ h ∧ h ≤ 15
def rowedP (k z : Int) (xs : List Nat) (n : Nat) : Prop := ValidP k xs ∧ 0 < cnt xs ∧ (n : Int) = z
/-- A packet that may be: n is how many bytes its text has. -/
def CheckP (o l k z h : Int) (xs : List Nat) (n : Nat) : Prop := boundP o l k z h ∧ rowedP k z xs n
theorem mul_le {k z : Int} (h : shapedP k z) : 0 ≤ k * z ∧ k * z ≤ 8192 := by
  obtain ⟨⟨h1, h2⟩, h3, h4⟩ := h
  have e1 : 0 ≤ k * z := Int.mul_nonneg (by omega) (by omega)
  have e2 : k * z ≤ 128 * z := Int.mul_le_mul_of_nonneg_right h2 (by omega)
  omega

end Go.Proofs.YtdiondgkkanamaaDoor
