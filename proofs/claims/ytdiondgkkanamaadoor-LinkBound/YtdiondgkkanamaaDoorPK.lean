/-
  Plain mathematics of packets: their bytes (encL), what bytes are read as (DecP): there and back, cut, with more behind. No condition.
-/
import Derived.Test.YtdiondgkkanamaaDoorNV
import Derived.Test.YtdiondgkkanamaaDoorPC
namespace Go.Proofs.YtdiondgkkanamaaDoor
set_option linter.unusedVariables false
set_option maxRecDepth 4000

/-- A packet's bytes. -/
def encL (o l k z h : Int) (xs ts : List Nat) : List Nat := putL o 4 ++ putL l 4 ++ putL k 1 ++ putL z 1 ++ putL h 1 ++ beV xs ++ ts
theorem encL_bytes (o l k z h : Int) (xs ts : List Nat) (ht : bytes ts) : bytes (encL o l k z h xs ts) :=
  bytes_append (bytes_append (bytes_append (bytes_append (bytes_append (bytes_append (putL_bytes _ _) (putL_bytes _ _)) (putL_bytes _ _)) (putL_bytes _ _)) (putL_bytes _ _)) (beV_bytes _)) ht
theorem putL4 (n : Int) : putL n 4 = be 4 (m64 n) := putL_yes (.inr (.inr rfl))
theorem putL1 (n : Int) : putL n 1 = be 1 (m64 n) := putL_yes (.inl rfl)
theorem be1 (n : Nat) : be 1 n = [n % 256] := by simp [be]
theorem m64_of {n : Int} {m : Nat} (h : n = (m : Int)) (hm : m < 18446744073709551616) : m64 n = m := by
  subst h
  unfold m64
  omega
theorem be_num : ∀ xs : List Nat, bytes xs → be xs.length (num xs) = xs
  | [], _ => rfl
  | x :: r, h => by
    have h1 : x < 256 := h x (List.mem_cons_self ..)
    have h2 : bytes r := fun y hy => h y (List.mem_cons_of_mem _ hy)
    have h3 := num_lt h2
    rw [List.length_cons, be, num_cons]
    have h4 : (x * 256 ^ r.length + num r) / 256 ^ r.length = x := by
      rw [Nat.mul_comm, Nat.mul_add_div (Nat.pow_pos (by decide)), Nat.div_eq_of_lt h3, Nat.add_zero]
    have h5 : be r.length (x * 256 ^ r.length + num r) = be r.length (num r) := be_mod _ _ _ (by rw [Nat.mul_add_mod_self_right])
    rw [h4, h5, be_num r h2, Nat.mod_eq_of_lt h1]
theorem be_num_of {xs : List Nat} {W : Nat} (h : bytes xs) (hl : xs.length = W) : be W (num xs) = xs := by rw [← hl]; exact be_num xs h
theorem beV_wsL {xs : List Nat} (h : bytes xs) : ∀ n, 8 * n ≤ xs.length → beV (wsL xs n) = xs.take (8 * n)
  | 0, _ => by simp [wsL, beV]
  | n + 1, hn => by
    have ih := beV_wsL h n (by omega)
    have e : beV (wsL xs n ++ [num ((xs.drop (8 * n)).take 8)]) = beV (wsL xs n) ++ be 8 (num ((xs.drop (8 * n)).take 8)) := by simp [beV]
    rw [wsL_succ, e, ih, be_num_of (bytes_take (bytes_drop h _) _) (by rw [List.length_take, List.length_drop]; omega), show 8 * (n + 1) = 8 * n + 8 by omega, List.take_add]
end Go.Proofs.YtdiondgkkanamaaDoor
