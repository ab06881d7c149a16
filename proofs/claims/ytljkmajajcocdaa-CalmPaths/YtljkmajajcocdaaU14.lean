/-
  Contracts of net.within, kindRight, toRight, boundsRight, modulo. Condition: what is asked of can be read.
-/
import Derived.Test.YtljkmajajcocdaaU12
import Derived.Test.YtljkmajajcocdaaU13
namespace Go.Proofs.Ytljkmajajcocdaa
open Go.RowKit Go.Sort
set_option linter.unusedVariables false
set_option linter.unusedSimpArgs false
set_option maxRecDepth 4000

theorem ntin_yes (n l h : Int) (w : World) (hn : l ≤ n ∧ n ≤ h) : Calls Try.prog 55 #[.int .i64 n, .int .i64 l, .int .i64 h] w fun e w' => e = .returned (.bool true) ∧ w' = w := by
  obtain ⟨h1, h2⟩ := hn
  go_enter Try.func55, Try.ntmps55
  go_wp2
  go_ret
  exact ⟨rfl, rfl⟩
theorem ntin_no (n l h : Int) (w : World) (hn : ¬ (l ≤ n ∧ n ≤ h)) : Calls Try.prog 55 #[.int .i64 n, .int .i64 l, .int .i64 h] w fun e w' => e = .returned (.bool false) ∧ w' = w := by
  by_cases h1 : l ≤ n
  · have h2 : ¬ n ≤ h := fun e => hn ⟨h1, e⟩
    clear hn
    go_enter Try.func55, Try.ntmps55
    go_wp2
    go_ret
    exact ⟨rfl, rfl⟩
  · clear hn
    go_enter Try.func55, Try.ntmps55
    go_wp2
    go_ret
    exact ⟨rfl, rfl⟩
theorem ntkind_any (k : Int) (w : World) : Calls Try.prog 56 #[.int .i64 k] w fun e w' => ((e = .returned (.bool true) ∧ (1 ≤ k ∧ k ≤ 3)) ∨ (e = .returned (.bool false) ∧ ¬ (1 ≤ k ∧ k ≤ 3))) ∧ w' = w := by
  have hk4 : k = 1 ∨ k = 2 ∨ k = 3 ∨ (k ≠ 1 ∧ k ≠ 2 ∧ k ≠ 3) := by omega
  rcases hk4 with rfl | rfl | rfl | ⟨h1, h2, h3⟩
  · go_enter Try.func56, Try.ntmps56
    go_wp2
    go_ret
    exact ⟨.inl ⟨rfl, by decide⟩, rfl⟩
  · go_enter Try.func56, Try.ntmps56
    go_wp2
    go_ret
    exact ⟨.inl ⟨rfl, by decide⟩, rfl⟩
  · go_enter Try.func56, Try.ntmps56
    go_wp2
    go_ret
    exact ⟨.inl ⟨rfl, by decide⟩, rfl⟩
  · have hn : ¬ (1 ≤ k ∧ k ≤ 3) := by omega
    have e1 : (k == 1) = false := beq_eq_false_iff_ne.2 h1
    have e2 : (k == 2) = false := beq_eq_false_iff_ne.2 h2
    have e3 : (k == 3) = false := beq_eq_false_iff_ne.2 h3
    have HN := hide hn
    clear h1 h2 h3 hn
    go_enter Try.func56, Try.ntmps56
    go_wp2
    go_ret
    exact ⟨.inr ⟨rfl, unhide HN⟩, rfl⟩
/-- How many numbers below m stand among the first k. -/
def nIn (xs : List Int) (k : Nat) : Nat → Nat
  | 0 => 0
  | m + 1 => nIn xs k m + if ∃ j, j < k ∧ xs.getD j 0 = (m : Int) then 1 else 0
theorem nIn_le (xs : List Int) (k m : Nat) : nIn xs k m ≤ m := by
  induction m with
  | zero => exact Nat.le_refl _
  | succ m ih => unfold nIn; split <;> omega
theorem nIn_free (xs : List Int) (k m i : Nat) (hi : i < m) (h : ¬ ∃ j, j < k ∧ xs.getD j 0 = (i : Int)) : nIn xs k m + 1 ≤ m := by
  induction m with
  | zero => omega
  | succ m ih =>
    unfold nIn
    by_cases e : i = m
    · subst e
      rw [if_neg h]
      have := nIn_le xs k i
      omega
    · have := ih (by omega)
      split <;> omega
theorem nIn_same (xs : List Int) (k m : Nat) (h : ¬ ∃ v : Nat, v < m ∧ xs.getD k 0 = (v : Int)) : nIn xs (k + 1) m = nIn xs k m := by
  induction m with
  | zero => rfl
  | succ m ih =>
    unfold nIn
    rw [ih fun ⟨v, h1, h2⟩ => h ⟨v, by omega, h2⟩]
    have e : (∃ j, j < k + 1 ∧ xs.getD j 0 = (m : Int)) ↔ ∃ j, j < k ∧ xs.getD j 0 = (m : Int) := by
      refine ⟨fun ⟨j, h1, h2⟩ => ⟨j, ?_, h2⟩, fun ⟨j, h1, h2⟩ => ⟨j, by omega, h2⟩⟩
      by_cases q : j = k
      · subst q; exact absurd ⟨m, Nat.lt_succ_self m, h2⟩ h
      · omega
    simp only [e]
theorem nIn_step (xs : List Int) (k m x : Nat) (hx : x < m) (hk : xs.getD k 0 = (x : Int)) (h : ¬ ∃ j, j < k ∧ xs.getD j 0 = (x : Int)) : nIn xs (k + 1) m = nIn xs k m + 1 := by
  induction m with
  | zero => omega
  | succ m ih =>
    unfold nIn
    by_cases e : x = m
    · subst e
      rw [nIn_same xs k x fun ⟨v, h1, h2⟩ => by rw [hk] at h2; omega, if_pos ⟨k, Nat.lt_succ_self k, hk⟩, if_neg h]
    · rw [ih (by omega)]
      have q : (∃ j, j < k + 1 ∧ xs.getD j 0 = (m : Int)) ↔ ∃ j, j < k ∧ xs.getD j 0 = (m : Int) := by
        refine ⟨fun ⟨j, h1, h2⟩ => ⟨j, ?_, h2⟩, fun ⟨j, h1, h2⟩ => ⟨j, by omega, h2⟩⟩
        by_cases r : j = k
        · subst r; rw [hk] at h2; omega
        · omega
      simp only [q]
      omega
/-- So many distinct ones of n, none of them id, are fewer than n. -/
theorem dist_lt {xs : List Int} {id n k : Nat} (hid : id < n) (h : ∀ j, j < k → (0 ≤ xs.getD j 0 ∧ xs.getD j 0 ≤ (n : Int) - 1) ∧ xs.getD j 0 ≠ (id : Int) ∧ ∀ q, q < j → xs.getD q 0 ≠ xs.getD j 0) : k < n := by
  have key : ∀ q, q ≤ k → nIn xs q n = q := by
    intro q
    induction q with
    | zero => 
      intro _
      have : ∀ m, nIn xs 0 m = 0 := by
        intro m
        induction m with
        | zero => rfl
        | succ m ih => unfold nIn; rw [ih, if_neg fun ⟨j, h1, _⟩ => by omega]
      exact this n
    | succ q ih =>
      intro hq
      obtain ⟨⟨a, b⟩, _, d⟩ := h q (by omega)
      obtain ⟨x, hx⟩ : ∃ x : Nat, xs.getD q 0 = (x : Int) := ⟨(xs.getD q 0).toNat, by omega⟩
      rw [nIn_step xs q n x (by omega) hx fun ⟨j, h1, h2⟩ => d j h1 (by rw [h2, hx]), ih (by omega)]
  have := nIn_free xs k n id hid fun ⟨j, h1, h2⟩ => (h j h1).2.1 h2
  have := key k (Nat.le_refl _)
  omega
end Go.Proofs.Ytljkmajajcocdaa
