/-
  Contracts of nums.GetVec and bucketlineref06.GetVec: for every text and every int.
-/
import Derived.Test.YtdiondgkkanamaaDoorNR
import Derived.Test.YtdiondgkkanamaaDoorG6
namespace Go.Proofs.YtdiondgkkanamaaDoor
open Go.RowKit
set_option linter.unusedVariables false
set_option maxRecDepth 4000

/-- What is got of a text: a row, or the error. -/
def GotP (s : ByteArray) (k : Int) (xs : List Nat) (e : Nat) : Prop :=
  (sizeOfK k = 0 ∧ e = 1 ∧ xs = []) ∨ (0 < sizeOfK k ∧ s.size < 8 * sizeOfK k ∧ e = 2 ∧ xs = []) ∨
  (0 < sizeOfK k ∧ 8 * sizeOfK k ≤ s.size ∧ ¬ ValidP k (wsL (tx s) (sizeOfK k)) ∧ e = 3 ∧ xs = []) ∨ (0 < sizeOfK k ∧ 8 * sizeOfK k ≤ s.size ∧ ValidP k (wsL (tx s) (sizeOfK k)) ∧ e = 0 ∧ xs = wsL (tx s) (sizeOfK k))
theorem GotP.uniq {s : ByteArray} {k : Int} {xs ys : List Nat} {e f : Nat} (h : GotP s k xs e) (h' : GotP s k ys f) : xs = ys ∧ e = f := by
  rcases h with ⟨a, b, c⟩ | ⟨a, b, c, d⟩ | ⟨a, b, c, d, z⟩ | ⟨a, b, c, d, z⟩ <;> rcases h' with ⟨a', b', c'⟩ | ⟨a', b', c', d'⟩ | ⟨a', b', c', d', z'⟩ | ⟨a', b', c', d', z'⟩
  all_goals first
    | omega
    | (subst_vars; exact ⟨rfl, rfl⟩)
    | exact absurd c' c
    | exact absurd c c'
theorem got_long {s : ByteArray} {k : Int} {xs : List Nat} {e : Nat} (h0 : ¬ sizeOfK k = 0) (h1 : ¬ s.size < 8 * sizeOfK k) :
    GotP s k xs e ↔ (¬ ValidP k (wsL (tx s) (sizeOfK k)) ∧ e = 3 ∧ xs = []) ∨ (ValidP k (wsL (tx s) (sizeOfK k)) ∧ e = 0 ∧ xs = wsL (tx s) (sizeOfK k)) := by
  unfold GotP
  constructor
  · intro h
    rcases h with ⟨a, _⟩ | ⟨a, b, _⟩ | ⟨a, b, c⟩ | ⟨a, b, c⟩
    · omega
    · omega
    · exact .inl c
    · exact .inr c
  · rintro (h | h)
    · exact .inr (.inr (.inl ⟨by omega, by omega, h⟩))
    · exact .inr (.inr (.inr ⟨by omega, by omega, h⟩))
/-- The words so far, the others 0. -/
def part (xs : List Nat) (n j : Nat) : List Nat := wsL xs j ++ List.replicate (n - j) 0
theorem part_length (xs : List Nat) (n j : Nat) (h : j ≤ n) : (part xs n j).length = n := by unfold part; rw [List.length_append, wsL_length, List.length_replicate]; omega
theorem part_zero (xs : List Nat) (n : Nat) : part xs n 0 = List.replicate n 0 := by simp [part, wsL]
theorem part_all (xs : List Nat) (n : Nat) : part xs n n = wsL xs n := by simp [part]
theorem part_set (xs : List Nat) (n j : Nat) (h : j < n) : (part xs n j).set j (num ((xs.drop (8 * j)).take 8)) = part xs n (j + 1) := by
  unfold part
  rw [wsL_succ, List.set_append, if_neg (by rw [wsL_length]; omega), wsL_length, Nat.sub_self, show n - j = (n - (j + 1)) + 1 by omega, List.replicate_succ, List.set_cons_zero, List.append_assoc]
  rfl
theorem tx_word (s : ByteArray) (j : Nat) : tx (s.extract (8 * j) (8 * (j + 1))) = ((tx s).drop (8 * j)).take 8 := by
  rw [tx_cut, show 8 * (j + 1) - 8 * j = 8 by omega]


theorem drop_get (xs : List Nat) (a q : Nat) : (xs.drop a).getD q 0 = xs.getD (a + q) 0 := by
  rw [List.getD_eq_getElem?_getD, List.getElem?_drop, List.getD_eq_getElem?_getD]
end Go.Proofs.YtdiondgkkanamaaDoor
