/-
  Plain mathematics of shares: their sum, the degree that a draw picks, the table of shares. Of no program. No condition but where it is said.
-/
import Derived.Laws.MathBits
namespace Go.Proofs.YtakoaadimhpclaaGreatDoor
set_option linter.unusedVariables false
set_option linter.unusedSimpArgs false
set_option maxRecDepth 4000

/-- The sum of the shares above 0. -/
def sumZ : List Int → Nat
  | [] => 0
  | x :: r => x.toNat + sumZ r
theorem sumZ_append : ∀ (a b : List Int), sumZ (a ++ b) = sumZ a + sumZ b
  | [], b => by simp [sumZ]
  | x :: a, b => by simp only [List.cons_append, sumZ, sumZ_append a b]; omega
theorem sumZ_take (l : List Int) (k : Nat) (hk : k < l.length) : sumZ (l.take (k + 1)) = sumZ (l.take k) + (l.getD k 0).toNat := by
  rw [List.take_succ_eq_append_getElem hk, sumZ_append]
  simp [sumZ, List.getD_eq_getElem?_getD, List.getElem?_eq_getElem hk]
theorem sumZ_take_le (l : List Int) (k : Nat) : sumZ (l.take k) ≤ sumZ l := by
  have h := sumZ_append (l.take k) (l.drop k)
  rw [List.take_append_drop] at h
  omega
theorem sumZ_le (M : Nat) : ∀ (l : List Int), (∀ x ∈ l, x ≤ (M : Int)) → sumZ l ≤ l.length * M
  | [], _ => by simp [sumZ]
  | x :: r, h => by
    have h1 := sumZ_le M r (fun y hy => h y (by simp [hy]))
    have h2 := h x (by simp)
    simp only [sumZ, List.length_cons, Nat.add_mul, Nat.one_mul]
    omega

/-- The degree in whose share x falls, of shares that begin at degree j + 1. -/
def pickZ : List Int → Nat → Nat → Nat
  | [], _, _ => 0
  | y :: r, j, x => if x < y.toNat then j + 1 else pickZ r (j + 1) (x - y.toNat)
theorem drop_cons_getD (l : List Int) (k : Nat) (hk : k < l.length) : l.drop k = l.getD k 0 :: l.drop (k + 1) := by
  rw [List.drop_eq_getElem_cons hk]
  simp [List.getD_eq_getElem?_getD, List.getElem?_eq_getElem hk]
theorem pickZ_yes (l : List Int) (k x : Nat) (hk : k < l.length) (h : x < (l.getD k 0).toNat) : pickZ (l.drop k) k x = k + 1 := by
  rw [drop_cons_getD l k hk, pickZ, if_pos h]
theorem pickZ_no (l : List Int) (k x : Nat) (hk : k < l.length) (h : ¬ x < (l.getD k 0).toNat) : pickZ (l.drop k) k x = pickZ (l.drop (k + 1)) (k + 1) (x - (l.getD k 0).toNat) := by
  rw [drop_cons_getD l k hk, pickZ, if_neg h]
theorem pickZ_end (l : List Int) (j x : Nat) : pickZ (l.drop l.length) j x = 0 := by simp [pickZ]
theorem pickZ_in : ∀ (l : List Int) (j x : Nat), x < sumZ l → j + 1 ≤ pickZ l j x ∧ pickZ l j x ≤ j + l.length
  | [], j, x, h => by simp [sumZ] at h
  | y :: r, j, x, h => by
    simp only [sumZ] at h
    simp only [pickZ, List.length_cons]
    by_cases hx : x < y.toNat
    · rw [if_pos hx]; omega
    · rw [if_neg hx]
      have := pickZ_in r (j + 1) (x - y.toNat) (by omega)
      omega
theorem pickZ_at : ∀ (l : List Int) (j i y : Nat), i < l.length → y < (l.getD i 0).toNat → pickZ l j (sumZ (l.take i) + y) = j + i + 1
  | [], j, i, y, h, _ => by simp at h
  | a :: r, j, 0, y, h, hy => by
    simp only [List.take_zero, sumZ, Nat.zero_add, pickZ]
    rw [if_pos (by simpa using hy)]
  | a :: r, j, i + 1, y, h, hy => by
    simp only [List.take_succ_cons, sumZ, pickZ]
    rw [if_neg (by omega), show a.toNat + sumZ (r.take i) + y - a.toNat = sumZ (r.take i) + y by omega, pickZ_at r (j + 1) i y (by simpa using h) (by simpa using hy)]
    omega
/-- What Pick answers. -/
def pickD (l : List Int) (draw : Nat) : Nat := if sumZ l = 0 then 0 else pickZ l 0 (draw % sumZ l)
theorem pickD_none {l : List Int} (h : sumZ l = 0) (draw : Nat) : pickD l draw = 0 := if_pos h
theorem pickD_some {l : List Int} (h : sumZ l ≠ 0) (draw : Nat) : pickD l draw = pickZ l 0 (draw % sumZ l) := if_neg h
theorem pickD_in {l : List Int} (h : sumZ l ≠ 0) (draw : Nat) : 1 ≤ pickD l draw ∧ pickD l draw ≤ l.length := by
  rw [pickD_some h]
  have := pickZ_in l 0 (draw % sumZ l) (Nat.mod_lt _ (by omega))
  omega
theorem pickD_at (l : List Int) (i y : Nat) (hi : i < l.length) (hy : y < (l.getD i 0).toNat) : pickD l (sumZ (l.take i) + y) = i + 1 := by
  have h1 := sumZ_take l i hi
  have h2 := sumZ_take_le l (i + 1)
  rw [pickD_some (by omega), Nat.mod_eq_of_lt (by omega), pickZ_at l 0 i y hi hy]
  omega

/-- The share of degree d ahead of what the spread adds. -/
def baseN (k d : Nat) : Nat := if d = 1 then 1048576 / k else 1048576 / (d * (d - 1))
/-- What the spread adds. -/
def moreN (k s d : Nat) : Nat := if s = 0 then 0 else if d < k / s then 1048576 * s / (k * d) else if d = k / s then 1048576 * s * bitLen s / k else 0
def shareN (k s d : Nat) : Nat := max 1 (baseN k d + moreN k s d)
def tableL (k s : Nat) : List Int := (List.range k).map fun i => ((shareN k s (i + 1) : Nat) : Int)
theorem baseN_one (k : Nat) : baseN k 1 = 1048576 / k := if_pos rfl
theorem baseN_more {k d : Nat} (h : d ≠ 1) : baseN k d = 1048576 / (d * (d - 1)) := if_neg h
theorem moreN_none (k d : Nat) : moreN k 0 d = 0 := if_pos rfl
theorem moreN_less {k s d : Nat} (hs : s ≠ 0) (h : d < k / s) : moreN k s d = 1048576 * s / (k * d) := by rw [moreN, if_neg hs, if_pos h]
theorem moreN_same {k s d : Nat} (hs : s ≠ 0) (h : d = k / s) : moreN k s d = 1048576 * s * bitLen s / k := by rw [moreN, if_neg hs, if_neg (by omega), if_pos h]
theorem moreN_over {k s d : Nat} (hs : s ≠ 0) (h : k / s < d) : moreN k s d = 0 := by rw [moreN, if_neg hs, if_neg (by omega), if_neg (by omega)]
theorem baseN_le (k d : Nat) : baseN k d ≤ 1048576 := by
  unfold baseN
  split
  · exact Nat.div_le_self _ _
  · exact Nat.div_le_self _ _
theorem moreN_le (k s d : Nat) (hs : s ≤ 128) : moreN k s d ≤ 1073741824 := by
  unfold moreN
  have hb := bitLen_le8 s (by omega)
  have h1 : 1048576 * s * bitLen s ≤ 1048576 * 128 * 8 := Nat.mul_le_mul (Nat.mul_le_mul_left _ hs) hb
  have h2 := Nat.div_le_self (1048576 * s * bitLen s) k
  have h3 := Nat.div_le_self (1048576 * s) (k * d)
  split
  · omega
  · split
    · omega
    · split
      · omega
      · omega
theorem shareN_le (k s d : Nat) (hs : s ≤ 128) : 1 ≤ shareN k s d ∧ shareN k s d ≤ 1074790400 := by
  have h1 := baseN_le k d
  have h2 := moreN_le k s d hs
  unfold shareN
  omega
theorem tableL_len (k s : Nat) : (tableL k s).length = k := by simp [tableL]
theorem tableL_get (k s i : Nat) (h : i < k) : (tableL k s).getD i 0 = ((shareN k s (i + 1) : Nat) : Int) := by
  simp [tableL, List.getD_eq_getElem?_getD, h]
theorem tableL_sum (k s : Nat) (hk : k ≤ 128) (hs : s ≤ 128) : sumZ (tableL k s) ≤ 137573171200 := by
  have := sumZ_le 1074790400 (tableL k s) (fun x hx => by
    obtain ⟨i, _, rfl⟩ := List.mem_map.1 hx
    have := (shareN_le k s (i + 1) hs).2
    omega)
  rw [tableL_len] at this
  omega
theorem tableL_pos (k s : Nat) (hk : 1 ≤ k) (hs : s ≤ 128) : sumZ (tableL k s) ≠ 0 := by
  have h1 := sumZ_take (tableL k s) 0 (by rw [tableL_len]; omega)
  have h2 := sumZ_take_le (tableL k s) (0 + 1)
  rw [tableL_get k s 0 (by omega)] at h1
  have := (shareN_le k s (0 + 1) hs).1
  omega
end Go.Proofs.YtakoaadimhpclaaGreatDoor
