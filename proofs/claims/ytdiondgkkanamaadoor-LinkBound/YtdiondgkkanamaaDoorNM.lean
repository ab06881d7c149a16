/-
  Numbers and their bytes, the highest first, on plain lists. No condition.
-/
import Derived.Test.YtdiondgkkanamaaDoorTx
namespace Go.Proofs.YtdiondgkkanamaaDoor
open Go.RowKit
set_option linter.unusedVariables false
set_option maxRecDepth 4000

/-- The number whose bytes these are, the highest first. -/
def num (xs : List Nat) : Nat := xs.foldl (fun a b => a * 256 + b) 0
theorem num_snoc (xs : List Nat) (b : Nat) : num (xs ++ [b]) = num xs * 256 + b := by simp [num]
theorem foldl_num (xs : List Nat) : ∀ a, xs.foldl (fun a b => a * 256 + b) a = a * 256 ^ xs.length + num xs := by
  unfold num
  induction xs with
  | nil => intro a; simp
  | cons x r ih =>
    intro a
    simp only [List.foldl_cons, List.length_cons]
    rw [ih (a * 256 + x), ih (0 * 256 + x), Nat.pow_succ, Nat.add_mul]
    simp only [Nat.zero_mul, Nat.zero_add]
    rw [Nat.mul_assoc a 256, Nat.mul_comm 256, Nat.add_assoc]
theorem num_cons (x : Nat) (r : List Nat) : num (x :: r) = x * 256 ^ r.length + num r := by
  have := foldl_num r (0 * 256 + x)
  simp only [Nat.zero_mul, Nat.zero_add] at this
  simpa [num] using this
theorem num_lt {xs : List Nat} (h : bytes xs) : num xs < 256 ^ xs.length := by
  induction xs with
  | nil => simp [num]
  | cons x r ih =>
    have h1 : x < 256 := h x (List.mem_cons_self ..)
    have h2 := ih (fun y hy => h y (List.mem_cons_of_mem _ hy))
    rw [num_cons, List.length_cons, Nat.pow_succ]
    have h3 : x * 256 ^ r.length ≤ 255 * 256 ^ r.length := Nat.mul_le_mul_right _ (by omega)
    omega
theorem num_lt_of {xs : List Nat} (h : bytes xs) {k : Nat} (hk : xs.length ≤ k) : num xs < 256 ^ k := Nat.lt_of_lt_of_le (num_lt h) (Nat.pow_le_pow_right (by decide) hk)
/-- The W lowest bytes of n, the highest first. -/
def be : Nat → Nat → List Nat
  | 0, _ => []
  | W + 1, n => (n / 256 ^ W % 256) :: be W n
theorem be_length : ∀ (W n : Nat), (be W n).length = W
  | 0, _ => rfl
  | W + 1, n => by rw [be, List.length_cons, be_length W n]
theorem be_bytes : ∀ (W n : Nat), bytes (be W n)
  | 0, _ => bytes_nil
  | W + 1, n => by
    intro x hx
    rw [be] at hx
    rcases List.mem_cons.1 hx with rfl | hx
    · exact Nat.mod_lt _ (by decide)
    · exact be_bytes W n x hx
theorem be_take : ∀ (W n k : Nat), k < W → (be W n).take (k + 1) = (be W n).take k ++ [n / 256 ^ (W - 1 - k) % 256]
  | 0, _, _, h => by omega
  | W + 1, n, 0, _ => by simp [be]
  | W + 1, n, k + 1, h => by
    have := be_take W n k (by omega)
    rw [be, List.take_succ_cons, List.take_succ_cons, this, show W + 1 - 1 - (k + 1) = W - 1 - k by omega]
    rfl
theorem num_be : ∀ (W n : Nat), num (be W n) = n % 256 ^ W
  | 0, n => by simp [be, num, Nat.mod_one]
  | W + 1, n => by
    rw [be, num_cons, be_length, num_be W n, Nat.mod_pow_succ, Nat.mul_comm, Nat.add_comm]
theorem be_mod : ∀ (W m n : Nat), m % 256 ^ W = n % 256 ^ W → be W m = be W n
  | 0, _, _, _ => rfl
  | W + 1, m, n, h => by
    rw [Nat.mod_pow_succ, Nat.mod_pow_succ] at h
    have hp : 0 < 256 ^ W := Nat.pow_pos (by decide)
    have h1 := Nat.mod_lt m hp
    have h2 := Nat.mod_lt n hp
    have e1 : m % 256 ^ W = n % 256 ^ W := by
      have := congrArg (· % 256 ^ W) h
      simpa [Nat.add_mul_mod_self_left, Nat.mod_eq_of_lt h1, Nat.mod_eq_of_lt h2] using this
    have e2 : m / 256 ^ W % 256 = n / 256 ^ W % 256 := by
      rw [e1] at h
      exact Nat.eq_of_mul_eq_mul_left hp (by omega)
    rw [be, be, e2, be_mod W m n e1]
/-- The bytes of words. -/
def beV (v : List Nat) : List Nat := v.flatMap (be 8)
theorem beV_cons (x : Nat) (r : List Nat) : beV (x :: r) = be 8 x ++ beV r := by simp [beV]
theorem beV_length : ∀ v : List Nat, (beV v).length = 8 * v.length
  | [] => rfl
  | x :: r => by rw [beV_cons, List.length_append, be_length, beV_length r, List.length_cons]; omega
theorem beV_bytes (v : List Nat) : bytes (beV v) := by
  intro x hx
  obtain ⟨y, _, hy⟩ := List.mem_flatMap.1 hx
  exact be_bytes 8 y x hy
theorem take_get {v : List Nat} {k : Nat} (hk : k < v.length) : v.take (k + 1) = v.take k ++ [v.getD k 0] := by
  rw [List.take_add_one, List.getElem?_eq_getElem hk, List.getD_eq_getElem?_getD, List.getElem?_eq_getElem hk]
  rfl
theorem beW_take (W : Nat) {v : List Nat} {k : Nat} (hk : k < v.length) : (v.take (k + 1)).flatMap (be W) = (v.take k).flatMap (be W) ++ be W (v.getD k 0) := by
  rw [take_get hk, List.flatMap_append]
  simp
theorem beW_length (W : Nat) : ∀ v : List Nat, (v.flatMap (be W)).length = v.length * W
  | [] => by simp
  | x :: r => by rw [List.flatMap_cons, List.length_append, be_length, beW_length W r, List.length_cons, Nat.add_mul]; omega
theorem beW_bytes (W : Nat) (v : List Nat) : bytes (v.flatMap (be W)) := by
  intro x hx
  obtain ⟨y, _, hy⟩ := List.mem_flatMap.1 hx
  exact be_bytes W y x hy
theorem bytes_append {xs ys : List Nat} (hx : bytes xs) (hy : bytes ys) : bytes (xs ++ ys) := by
  intro x h
  rcases List.mem_append.1 h with h | h
  · exact hx x h
  · exact hy x h
/-- The first n words of bytes. -/
def wsL (xs : List Nat) (n : Nat) : List Nat := (List.range n).map fun i => num ((xs.drop (8 * i)).take 8)
theorem wsL_length (xs : List Nat) (n : Nat) : (wsL xs n).length = n := by simp [wsL]
theorem wsL_succ (xs : List Nat) (n : Nat) : wsL xs (n + 1) = wsL xs n ++ [num ((xs.drop (8 * n)).take 8)] := by simp [wsL, List.range_succ]
theorem wsL_small {xs : List Nat} (h : bytes xs) (n : Nat) : smalls (wsL xs n) := by
  intro x hx
  obtain ⟨i, _, rfl⟩ := List.mem_map.1 hx
  exact num_lt_of (k := 8) (bytes_take (bytes_drop h _) 8) (List.length_take_le ..)
theorem wsL_cons {xs : List Nat} (hx : xs.length = 8) (ys : List Nat) (n : Nat) : wsL (xs ++ ys) (n + 1) = num xs :: wsL ys n := by
  unfold wsL
  rw [List.range_succ_eq_map, List.map_cons, List.map_map]
  congr 1
  · rw [Nat.mul_zero, List.drop_zero, ← hx, List.take_left]
  · apply List.map_congr_left
    intro i _
    show num ((List.drop (8 * (i + 1)) (xs ++ ys)).take 8) = _
    rw [show 8 * (i + 1) = xs.length + 8 * i by omega, List.drop_append, List.drop_eq_nil_of_le (by omega), List.nil_append, show xs.length + 8 * i - xs.length = 8 * i by omega]
theorem wsL_beV : ∀ (v zs : List Nat), smalls v → wsL (beV v ++ zs) v.length = v
  | [], _, _ => rfl
  | x :: r, zs, h => by
    have hx : x < 18446744073709551616 := h x (List.mem_cons_self ..)
    rw [beV_cons, List.append_assoc, List.length_cons, wsL_cons (be_length 8 x), num_be, wsL_beV r zs (fun y hy => h y (List.mem_cons_of_mem _ hy)), Nat.mod_eq_of_lt hx]

/-- '<<8 |'. -/
theorem push_num (x b : Nat) (hx : x < 72057594037927936) (hb : b < 256) : bits .or .u64 ((x : Int) * 256) (b : Int) = ((x * 256 + b : Nat) : Int) := by
  rw [show (x : Int) * 256 = ((256 * x : Nat) : Int) by omega, u64_or_nat (256 * x) b (by omega) (by omega)]
  congr 1
  have := Nat.two_pow_add_eq_or_of_lt (i := 8) (show b < 2 ^ 8 by omega) x
  rw [show (256 : Nat) = 2 ^ 8 from rfl, ← this]
  omega
end Go.Proofs.YtdiondgkkanamaaDoor
