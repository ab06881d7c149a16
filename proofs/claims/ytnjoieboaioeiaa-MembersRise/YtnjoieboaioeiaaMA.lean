/-
  Members as plain data: what is noted of each of eight nodes, who is alive, what a word turns. Of no program. No condition.
-/
import Derived.Test.YtnjoieboaioeiaaZs
namespace Go.Proofs.Ytnjoieboaioeiaa
set_option linter.unusedVariables false
set_option maxRecDepth 4000

def nodeB (x : Int) : Bool := decide (0 ≤ x) && decide (x < 8)
def timeB (x : Int) : Bool := decide (0 ≤ x) && decide (x ≤ 1099511627776)
def tickZ (t : Int) : Int := min (max t 0) 1048576
/-- What is noted of a node: its incarnation, and one more than when. -/
def memO (Z : List Int) (x : Int) : Int × Int := if nodeB x = true then (Z.getD (x.toNat * 2) 0, Z.getD (x.toNat * 2 + 1) 0) else (0, 0)
def hdB (p : Int × Int) : Bool := !(decide (p.1 = 0) && decide (p.2 = 0))
def hearB (Z : List Int) (x i t : Int) : Bool := nodeB x && timeB t && decide ((memO Z x).1 ≤ i)
def hearZ (Z : List Int) (x i t : Int) : List Int := if hearB Z x i t = true then (Z.set (x.toNat * 2) i).set (x.toNat * 2 + 1) (t + 1) else Z
def aliveP (T : Int) (p : Int × Int) (t : Int) : Bool := hdB p && timeB t && (decide (0 ≤ t - (p.2 - 1)) && decide (t - (p.2 - 1) ≤ T))
def aliveB (T : Int) (Z : List Int) (x t : Int) : Bool := aliveP T (memO Z x) t
def incP (p : Int × Int) : Int := if hdB p = true then p.1 else -1
def incO (Z : List Int) (x : Int) : Int := incP (memO Z x)
/-- Those of the first k for which P holds, rising. -/
def allTo (P : Nat → Bool) : Nat → List Int
  | 0 => []
  | k + 1 => allTo P k ++ (if P k = true then [(k : Int)] else [])
def allZ (T : Int) (Z : List Int) (t : Int) : List Int := allTo (fun n => aliveB T Z (n : Int) t) 8
theorem allTo_len (P : Nat → Bool) : ∀ k, (allTo P k).length ≤ k
  | 0 => Nat.le_refl _
  | k + 1 => by
    have := allTo_len P k
    unfold allTo
    by_cases h : P k = true
    · rw [if_pos h, List.length_append]; simp; omega
    · rw [if_neg h, List.append_nil]; omega
theorem allTo_yes {P : Nat → Bool} {k : Nat} (h : P k = true) : allTo P (k + 1) = allTo P k ++ [(k : Int)] := by rw [allTo, if_pos h]
theorem allTo_no {P : Nat → Bool} {k : Nat} (h : P k = false) : allTo P (k + 1) = allTo P k := by rw [allTo, if_neg (by rw [h]; decide), List.append_nil]
theorem allTo_congr {P Q : Nat → Bool} : ∀ k, (∀ n, n < k → P n = Q n) → allTo P k = allTo Q k
  | 0, _ => rfl
  | k + 1, h => by rw [allTo, allTo, allTo_congr k (fun n hn => h n (by omega)), h k (by omega)]
theorem nodeB_iff {x : Int} : nodeB x = true ↔ 0 ≤ x ∧ x < 8 := by simp [nodeB]
theorem timeB_iff {x : Int} : timeB x = true ↔ 0 ≤ x ∧ x ≤ 1099511627776 := by simp [timeB]
theorem node_nat {x : Int} (h : nodeB x = true) : ∃ n : Nat, n < 8 ∧ x = (n : Int) := by
  have := nodeB_iff.1 h
  exact ⟨x.toNat, by omega, by omega⟩
theorem node_of {n : Nat} (h : n < 8) : nodeB (n : Int) = true := nodeB_iff.2 ⟨by omega, by omega⟩
theorem memO_in (Z : List Int) {n : Nat} (h : n < 8) : memO Z (n : Int) = (Z.getD (n * 2) 0, Z.getD (n * 2 + 1) 0) := by
  unfold memO
  rw [if_pos (node_of h), Int.toNat_natCast]
theorem memO_out (Z : List Int) {x : Int} (h : nodeB x = false) : memO Z x = (0, 0) := by
  unfold memO
  rw [if_neg (by rw [h]; decide)]
/-- What always holds of what is noted. -/
def InvM (Z : List Int) : Prop := Z.length = 16 ∧ ∀ n, n < 8 → 0 ≤ Z.getD (n * 2) 0 ∧ 0 ≤ Z.getD (n * 2 + 1) 0 ∧ Z.getD (n * 2 + 1) 0 ≤ 1099511627777 ∧ (Z.getD (n * 2 + 1) 0 = 0 → Z.getD (n * 2) 0 = 0)
/-- Of a node. -/
def InvP (p : Int × Int) : Prop := 0 ≤ p.1 ∧ 0 ≤ p.2 ∧ p.2 ≤ 1099511627777 ∧ (p.2 = 0 → p.1 = 0)
theorem InvM.mem {Z : List Int} (h : InvM Z) (x : Int) : InvP (memO Z x) := by
  by_cases hx : nodeB x = true
  · obtain ⟨n, hn, rfl⟩ := node_nat hx
    rw [memO_in Z hn]
    exact h.2 n hn
  · rw [memO_out Z (by simpa using hx)]
    exact ⟨by decide, by decide, by decide, fun _ => rfl⟩
theorem InvP.hd {p : Int × Int} (h : InvP p) : hdB p = decide (1 ≤ p.2) := by
  obtain ⟨h1, h2, h3, h4⟩ := h
  unfold hdB
  by_cases e : p.2 = 0
  · have := h4 e; simp [e, this]
  · have : 1 ≤ p.2 := by omega
    simp [e, this]
theorem setZ {Z : List Int} {i j : Nat} {x : Int} (hi : i < Z.length) : (Z.set i x).getD j 0 = if i = j then x else Z.getD j 0 := by
  rw [List.getD_eq_getElem?_getD, List.getElem?_set]
  by_cases e : i = j
  · subst e; simp [hi]
  · simp [e, List.getD_eq_getElem?_getD]
theorem InvM.zero : InvM (List.replicate 16 0) := by
  refine ⟨rfl, fun n hn => ?_⟩
  have : ∀ j, (List.replicate 16 (0 : Int)).getD j 0 = 0 := fun j => by
    rw [List.getD_eq_getElem?_getD, List.getElem?_replicate]; split <;> rfl
  rw [this, this]
  exact ⟨by decide, by decide, by decide, fun _ => rfl⟩
/-- What is noted behind a word that was taken. -/
theorem memO_set {Z : List Int} (h : Z.length = 16) {n m : Nat} (hn : n < 8) (hm : m < 8) (i t : Int) : memO ((Z.set (n * 2) i).set (n * 2 + 1) (t + 1)) (m : Int) = if n = m then (i, t + 1) else memO Z (m : Int) := by
  have l1 : (Z.set (n * 2) i).length = 16 := by rw [List.length_set]; exact h
  have e1 : ∀ j, ((Z.set (n * 2) i).set (n * 2 + 1) (t + 1)).getD j 0 = if n * 2 + 1 = j then t + 1 else if n * 2 = j then i else Z.getD j 0 := fun j => by
    rw [setZ (by omega), setZ (by omega)]
  rw [memO_in _ hm, memO_in _ hm, e1, e1]
  by_cases e : n = m
  · subst e
    rw [if_neg (by omega), if_pos rfl, if_pos rfl, if_pos rfl]
  · rw [if_neg (by omega), if_neg (by omega), if_neg (by omega), if_neg (by omega), if_neg e]
theorem hearZ_yes {Z : List Int} {n : Nat} {i t : Int} (h : hearB Z (n : Int) i t = true) : hearZ Z (n : Int) i t = (Z.set (n * 2) i).set (n * 2 + 1) (t + 1) := by
  unfold hearZ
  rw [if_pos h, Int.toNat_natCast]
theorem hearZ_no {Z : List Int} {x i t : Int} (h : hearB Z x i t = false) : hearZ Z x i t = Z := by
  unfold hearZ
  rw [if_neg (by rw [h]; decide)]
theorem hearB_node {Z : List Int} {x i t : Int} (h : hearB Z x i t = true) : nodeB x = true ∧ timeB t = true ∧ (memO Z x).1 ≤ i := by
  unfold hearB at h
  simp only [Bool.and_eq_true, decide_eq_true_eq] at h
  exact ⟨h.1.1, h.1.2, h.2⟩
/-- What is noted of any node behind a word. -/
theorem memO_hear {Z : List Int} (h : InvM Z) (x i t y : Int) : memO (hearZ Z x i t) y = if hearB Z x i t = true ∧ y = x then (i, t + 1) else memO Z y := by
  by_cases hb : hearB Z x i t = true
  · obtain ⟨hx, ht, hi⟩ := hearB_node hb
    obtain ⟨n, hn, rfl⟩ := node_nat hx
    rw [hearZ_yes hb]
    by_cases hy : nodeB y = true
    · obtain ⟨m, hm, rfl⟩ := node_nat hy
      rw [memO_set h.1 hn hm]
      by_cases e : n = m
      · subst e; rw [if_pos rfl, if_pos ⟨hb, rfl⟩]
      · rw [if_neg e, if_neg (fun q => e (by omega))]
    · have hy' : nodeB y = false := by simpa using hy
      rw [memO_out _ hy', memO_out _ hy', if_neg]
      rintro ⟨_, rfl⟩
      exact hy (node_of hn)
  · rw [hearZ_no (by simpa using hb), if_neg (fun q => hb q.1)]
theorem hearZ_len (Z : List Int) (x i t : Int) : (hearZ Z x i t).length = Z.length := by
  unfold hearZ
  split
  · rw [List.length_set, List.length_set]
  · rfl
theorem InvM.of {Z : List Int} (hl : Z.length = 16) (h : ∀ n : Nat, n < 8 → InvP (memO Z (n : Int))) : InvM Z := ⟨hl, fun n hn => by
  have := h n hn
  rw [memO_in Z hn] at this
  exact this⟩
theorem InvM.hear {Z : List Int} (h : InvM Z) (x i t : Int) : InvM (hearZ Z x i t) := by
  refine InvM.of (by rw [hearZ_len]; exact h.1) fun n hn => ?_
  rw [memO_hear h]
  split
  · rename_i q
    obtain ⟨hx, ht, hi⟩ := hearB_node q.1
    have h1 := (h.mem x).1
    have h2 := timeB_iff.1 ht
    exact ⟨by show 0 ≤ i; omega, by show 0 ≤ t + 1; omega, by show t + 1 ≤ 1099511627777; omega, fun e => by have : t + 1 = 0 := e; omega⟩
  · exact h.mem _
theorem tick_in (t : Int) : 0 ≤ tickZ t ∧ tickZ t ≤ 1048576 := by unfold tickZ; omega
end Go.Proofs.Ytnjoieboaioeiaa
