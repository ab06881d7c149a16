/-
  Plain mathematics of places that are named again and again: how often each is ('timesL'), what stands there once or twice ('atTo'), and that the xor, the members and the packet made are those of the places as they are named. No condition.
-/
import Derived.Test.YtbcgiodgobmkaaaGreatDoorU23
namespace Go.Proofs.YtbcgiodgobmkaaaGreatDoor
open Go.RowKit
set_option linter.unusedVariables false
set_option linter.unusedSimpArgs false
set_option maxRecDepth 4000

/-- How often each of n places is named. -/
def timesL (n : Nat) (ws : List Int) : List Nat := ws.foldl (fun c i => if 0 ≤ i ∧ i < (n : Int) then c.set i.toNat (c.getD i.toNat 0 + 1) else c) (List.replicate n 0)
theorem times_nil (n : Nat) : timesL n [] = List.replicate n 0 := rfl
theorem times_snoc (n : Nat) (ws : List Int) (i : Int) : timesL n (ws ++ [i]) = if 0 ≤ i ∧ i < (n : Int) then (timesL n ws).set i.toNat ((timesL n ws).getD i.toNat 0 + 1) else timesL n ws := by
  unfold timesL
  rw [List.foldl_append]
  rfl
theorem snoc_ind {α : Type} {P : List α → Prop} (h0 : P []) (h1 : ∀ l a, P l → P (l ++ [a])) : ∀ l, P l := fun l => by
  have : ∀ k, k ≤ l.length → P (l.take k) := fun k => by
    induction k with
    | zero => intro _; rw [List.take_zero]; exact h0
    | succ k ih => intro hk; rw [List.take_succ_eq_append_getElem (by omega)]; exact h1 _ _ (ih (by omega))
  have h2 := this l.length (Nat.le_refl _)
  rwa [List.take_length] at h2
theorem times_len (n : Nat) (ws : List Int) : (timesL n ws).length = n := by
  refine snoc_ind (P := fun ws => (timesL n ws).length = n) (by rw [times_nil, List.length_replicate]) (fun l i ih => ?_) ws
  rw [times_snoc]
  split
  · rw [List.length_set, ih]
  · exact ih
theorem times_le (n : Nat) (ws : List Int) : ∀ b, (timesL n ws).getD b 0 ≤ ws.length := by
  refine snoc_ind (P := fun ws => ∀ b, (timesL n ws).getD b 0 ≤ ws.length) (fun b => ?_) (fun l i ih b => ?_) ws
  · rw [times_nil, List.getD_eq_getElem?_getD, List.getElem?_replicate]
    split <;> simp
  · rw [times_snoc, List.length_append, List.length_singleton]
    split
    · rw [getD_set]
      have := ih b
      have := ih i.toNat
      split <;> omega
    · have := ih b
      omega
/-- What stands at the first k places: none, once or twice. -/
def atTo {α : Type} (dd : α) (l : List α) (c : List Nat) : Nat → List α
  | 0 => []
  | k + 1 => if c.getD k 0 = 0 then atTo dd l c k else if c.getD k 0 % 2 = 0 then atTo dd l c k ++ [l.getD k dd] ++ [l.getD k dd] else atTo dd l c k ++ [l.getD k dd]
theorem atTo_no {α : Type} {dd : α} {l : List α} {c : List Nat} {k : Nat} (h : c.getD k 0 = 0) : atTo dd l c (k + 1) = atTo dd l c k := if_pos h
theorem atTo_even {α : Type} {dd : α} {l : List α} {c : List Nat} {k : Nat} (h : c.getD k 0 ≠ 0) (h2 : c.getD k 0 % 2 = 0) : atTo dd l c (k + 1) = atTo dd l c k ++ [l.getD k dd] ++ [l.getD k dd] := (if_neg h).trans (if_pos h2)
theorem atTo_odd {α : Type} {dd : α} {l : List α} {c : List Nat} {k : Nat} (h : c.getD k 0 ≠ 0) (h2 : ¬ c.getD k 0 % 2 = 0) : atTo dd l c (k + 1) = atTo dd l c k ++ [l.getD k dd] := (if_neg h).trans (if_neg h2)
theorem atTo_low {α : Type} {dd : α} {l : List α} {c : List Nat} {b x : Nat} : ∀ n, n ≤ b → atTo dd l (c.set b x) n = atTo dd l c n
  | 0, _ => rfl
  | n + 1, h => by
    have e : (c.set b x).getD n 0 = c.getD n 0 := by rw [getD_set, if_neg (by omega)]
    show (if _ then _ else _) = (if _ then _ else _)
    rw [e, atTo_low n (by omega)]
/-- The xor over a list. -/
def xFold {α : Type} (g : α → List Nat) (Q : List α) : List Nat := Q.foldl (fun a p => xorL a (g p)) []
theorem xFold_snoc {α : Type} (g : α → List Nat) (Q : List α) (p : α) : xFold g (Q ++ [p]) = xorL (xFold g Q) (g p) := by
  unfold xFold
  rw [List.foldl_append]
  rfl
theorem xorL_three (a b : List Nat) : xorL (xorL (xorL a b) b) b = xorL a b := by
  apply ext_getD
  · simp only [xorL_length]; omega
  · intro i _
    simp only [xorL_getD]
    rw [Nat.xor_assoc, Nat.xor_self, Nat.xor_zero]
theorem xorL_swap3 (a b c : List Nat) : xorL (xorL a b) c = xorL (xorL a c) b := by
  apply ext_getD
  · simp only [xorL_length]; omega
  · intro i _
    simp only [xorL_getD]
    rw [Nat.xor_assoc, Nat.xor_comm (b.getD i 0), ← Nat.xor_assoc]
theorem at_set {c : List Nat} {b x : Nat} (h : b < c.length) : (c.set b x).getD b 0 = x := by rw [getD_set, if_pos ⟨rfl, h⟩]
theorem at_ne {c : List Nat} {b x i : Nat} (h : i ≠ b) : (c.set b x).getD i 0 = c.getD i 0 := by rw [getD_set, if_neg (fun e => h e.1)]
/-- Once more at one place. -/
theorem xFold_more {α : Type} {dd : α} (g : α → List Nat) {l : List α} {c : List Nat} {b : Nat} (hb : b < c.length) : ∀ n, b < n → xFold g (atTo dd l (c.set b (c.getD b 0 + 1)) n) = xorL (xFold g (atTo dd l c n)) (g (l.getD b dd))
  | 0, h => by omega
  | n + 1, h => by
    by_cases e : n = b
    · subst e
      have e1 : (c.set n (c.getD n 0 + 1)).getD n 0 = c.getD n 0 + 1 := at_set hb
      have e2 : atTo dd l (c.set n (c.getD n 0 + 1)) n = atTo dd l c n := atTo_low n (Nat.le_refl _)
      by_cases z : c.getD n 0 = 0
      · rw [atTo_odd (by omega) (by omega), atTo_no z, e2, xFold_snoc]
      · by_cases z2 : c.getD n 0 % 2 = 0
        · rw [atTo_odd (by omega) (by omega), atTo_even z z2, e2, xFold_snoc, xFold_snoc, xFold_snoc, xorL_three]
        · rw [atTo_even (by omega) (by omega), atTo_odd z z2, e2, xFold_snoc, xFold_snoc]
    · have ih := xFold_more (dd := dd) g (l := l) hb n (by omega)
      have e1 : (c.set b (c.getD b 0 + 1)).getD n 0 = c.getD n 0 := at_ne e
      by_cases z : c.getD n 0 = 0
      · rw [atTo_no (by omega), atTo_no z, ih]
      · by_cases z2 : c.getD n 0 % 2 = 0
        · rw [atTo_even (by omega) (by omega), atTo_even z z2, xFold_snoc, xFold_snoc, xFold_snoc, xFold_snoc, ih, xorL_swap3 _ (g (l.getD b dd)), xorL_swap3 _ (g (l.getD b dd))]
        · rw [atTo_odd (by omega) (by omega), atTo_odd z z2, xFold_snoc, xFold_snoc, ih, xorL_swap3]
theorem len_more {α : Type} {dd : α} {l : List α} {c : List Nat} {b : Nat} (hb : b < c.length) : ∀ n, (atTo dd l (c.set b (c.getD b 0 + 1)) n).length ≤ (atTo dd l c n).length + (if b < n then 1 else 0)
  | 0 => Nat.zero_le _
  | n + 1 => by
    have ih := len_more (dd := dd) (l := l) hb n
    by_cases e : n = b
    · subst e
      have e1 : (c.set n (c.getD n 0 + 1)).getD n 0 = c.getD n 0 + 1 := at_set hb
      have e2 : atTo dd l (c.set n (c.getD n 0 + 1)) n = atTo dd l c n := atTo_low n (Nat.le_refl _)
      rw [if_pos (by omega)]
      by_cases z : c.getD n 0 = 0
      · rw [atTo_odd (by omega) (by omega), atTo_no z, e2, List.length_append, List.length_singleton]
        exact Nat.le_refl _
      · by_cases z2 : c.getD n 0 % 2 = 0
        · rw [atTo_odd (by omega) (by omega), atTo_even z z2, e2]
          simp only [List.length_append, List.length_singleton]
          omega
        · rw [atTo_even (by omega) (by omega), atTo_odd z z2, e2]
          simp only [List.length_append, List.length_singleton]
          omega
    · have e1 : (c.set b (c.getD b 0 + 1)).getD n 0 = c.getD n 0 := at_ne e
      rw [show (if b < n + 1 then 1 else 0) = (if b < n then 1 else 0) by split <;> split <;> omega]
      by_cases z : c.getD n 0 = 0
      · rw [atTo_no (by omega), atTo_no z]; exact ih
      · by_cases z2 : c.getD n 0 % 2 = 0
        · rw [atTo_even (by omega) (by omega), atTo_even z z2]
          simp only [List.length_append, List.length_singleton]
          omega
        · rw [atTo_odd (by omega) (by omega), atTo_odd z z2]
          simp only [List.length_append, List.length_singleton]
          omega
theorem at_mem {α : Type} {dd : α} {l : List α} {c : List Nat} {p : α} : ∀ n, p ∈ atTo dd l c n ↔ ∃ i, i < n ∧ c.getD i 0 ≠ 0 ∧ p = l.getD i dd
  | 0 => by
    constructor
    · intro h; cases h
    · rintro ⟨i, h, _⟩; omega
  | n + 1 => by
    have ih := at_mem (dd := dd) (l := l) (c := c) (p := p) n
    have key : (∃ i, i < n + 1 ∧ c.getD i 0 ≠ 0 ∧ p = l.getD i dd) ↔ (∃ i, i < n ∧ c.getD i 0 ≠ 0 ∧ p = l.getD i dd) ∨ (c.getD n 0 ≠ 0 ∧ p = l.getD n dd) := by
      constructor
      · rintro ⟨i, h1, h2, h3⟩
        rcases Nat.lt_or_ge i n with e | e
        · exact .inl ⟨i, e, h2, h3⟩
        · obtain rfl : i = n := by omega
          exact .inr ⟨h2, h3⟩
      · rintro (⟨i, h1, h2, h3⟩ | ⟨h2, h3⟩)
        · exact ⟨i, by omega, h2, h3⟩
        · exact ⟨n, by omega, h2, h3⟩
    rw [key, ← ih]
    by_cases z : c.getD n 0 = 0
    · rw [atTo_no z]
      exact ⟨.inl, fun h => h.elim id fun h => absurd z h.1⟩
    · by_cases z2 : c.getD n 0 % 2 = 0
      · rw [atTo_even z z2, List.mem_append, List.mem_append, List.mem_singleton]
        constructor
        · rintro ((h | h) | h)
          · exact .inl h
          · exact .inr ⟨z, h⟩
          · exact .inr ⟨z, h⟩
        · rintro (h | h)
          · exact .inl (.inl h)
          · exact .inr h.2
      · rw [atTo_odd z z2, List.mem_append, List.mem_singleton]
        constructor
        · rintro (h | h)
          · exact .inl h
          · exact .inr ⟨z, h⟩
        · rintro (h | h)
          · exact .inl h
          · exact .inr h.2
/-- Those at the places that are there. -/
def selL {α : Type} (dd : α) (l : List α) (ws : List Int) : List α := ws.filterMap fun (i : Int) => if 0 ≤ i ∧ i < (l.length : Int) then some (l.getD i.toNat dd) else none
theorem selL_snoc {α : Type} {dd : α} (l : List α) (ws : List Int) (i : Int) : selL dd l (ws ++ [i]) = if 0 ≤ i ∧ i < (l.length : Int) then selL dd l ws ++ [l.getD i.toNat dd] else selL dd l ws := by
  unfold selL
  rw [List.filterMap_append]
  by_cases h : 0 ≤ i ∧ i < (l.length : Int)
  · rw [if_pos h, List.filterMap_cons, List.filterMap_nil, if_pos h]
  · rw [if_neg h, List.filterMap_cons, List.filterMap_nil, if_neg h]
    exact List.append_nil _
theorem selL_len {α : Type} {dd : α} (l : List α) (ws : List Int) : (selL dd l ws).length ≤ ws.length := List.length_filterMap_le _ _
theorem selL_mem {α : Type} {dd : α} {l : List α} {ws : List Int} {p : α} (h : p ∈ selL dd l ws) : p ∈ l := by
  obtain ⟨i, _, hi⟩ := List.mem_filterMap.1 h
  split at hi
  · rename_i hc
    rw [← Option.some.inj hi, List.getD_eq_getElem?_getD, List.getElem?_eq_getElem (show i.toNat < l.length by omega)]
    exact List.getElem_mem _
  · cases hi
theorem selL_map {α β : Type} {dd : α} (f : α → β) (l : List α) (ws : List Int) : (selL dd l ws).map f = selL (f dd) (l.map f) ws := by
  refine snoc_ind (P := fun ws => (selL dd l ws).map f = selL (f dd) (l.map f) ws) rfl (fun ws i ih => ?_) ws
  rw [selL_snoc, selL_snoc, List.length_map]
  by_cases h : 0 ≤ i ∧ i < (l.length : Int)
  · rw [if_pos h, if_pos h, List.map_append, ih]
    have e : i.toNat < l.length := by omega
    rw [List.map_singleton, List.getD_eq_getElem?_getD, List.getElem?_eq_getElem e, List.getD_eq_getElem?_getD, List.getElem?_map, List.getElem?_eq_getElem e]
    rfl
  · rw [if_neg h, if_neg h, ih]
/-- Once or twice is as often as they are named. -/
def atL {α : Type} (dd : α) (l : List α) (ws : List Int) : List α := atTo dd l (timesL l.length ws) l.length
theorem atL_none {α : Type} {dd : α} (l : List α) : ∀ n, atTo dd l (List.replicate l.length 0) n = []
  | 0 => rfl
  | n + 1 => by
    rw [atTo_no, atL_none l n]
    rw [List.getD_eq_getElem?_getD, List.getElem?_replicate]
    split <;> rfl
theorem atL_xor {α : Type} {dd : α} (g : α → List Nat) (l : List α) (ws : List Int) : xFold g (atL dd l ws) = xFold g (selL dd l ws) := by
  refine snoc_ind (P := fun ws => xFold g (atL dd l ws) = xFold g (selL dd l ws)) ?_ (fun ws i ih => ?_) ws
  · unfold atL; rw [times_nil, atL_none]; rfl
  · unfold atL
    rw [times_snoc, selL_snoc]
    by_cases h : 0 ≤ i ∧ i < (l.length : Int)
    · rw [if_pos h, if_pos h, xFold_more g (by rw [times_len]; omega) _ (by omega), xFold_snoc, ← ih]
      rfl
    · rw [if_neg h, if_neg h, ← ih]
      rfl
theorem atL_len {α : Type} {dd : α} (l : List α) (ws : List Int) : (atL dd l ws).length ≤ ws.length := by
  refine snoc_ind (P := fun ws => (atL dd l ws).length ≤ ws.length) ?_ (fun ws i ih => ?_) ws
  · unfold atL; rw [times_nil, atL_none]; exact Nat.le_refl _
  · unfold atL
    rw [times_snoc, List.length_append, List.length_singleton]
    by_cases h : 0 ≤ i ∧ i < (l.length : Int)
    · rw [if_pos h]
      have h1 := len_more (dd := dd) (l := l) (c := timesL l.length ws) (b := i.toNat) (by rw [times_len]; omega) l.length
      rw [if_pos (by omega)] at h1
      unfold atL at ih
      omega
    · rw [if_neg h]
      unfold atL at ih
      omega
theorem atL_mem {α : Type} {dd : α} {l : List α} {ws : List Int} {p : α} : p ∈ atL dd l ws ↔ p ∈ selL dd l ws := by
  refine snoc_ind (P := fun ws => p ∈ atL dd l ws ↔ p ∈ selL dd l ws) ?_ (fun ws i ih => ?_) ws
  · unfold atL; rw [times_nil, atL_none]; exact Iff.rfl
  · unfold atL at ih ⊢
    rw [times_snoc, selL_snoc]
    by_cases h : 0 ≤ i ∧ i < (l.length : Int)
    · rw [if_pos h, if_pos h, List.mem_append, List.mem_singleton, ← ih, at_mem, at_mem]
      have hb : i.toNat < (timesL l.length ws).length := by rw [times_len]; omega
      constructor
      · rintro ⟨j, h1, h2, h3⟩
        by_cases e : j = i.toNat
        · subst e; exact .inr h3
        · rw [at_ne e] at h2
          exact .inl ⟨j, h1, h2, h3⟩
      · rintro (⟨j, h1, h2, h3⟩ | h3)
        · by_cases e : j = i.toNat
          · subst e
            exact ⟨i.toNat, h1, by rw [at_set hb]; omega, h3⟩
          · exact ⟨j, h1, by rw [at_ne e]; exact h2, h3⟩
        · exact ⟨i.toNat, by omega, by rw [at_set hb]; omega, h3⟩
    · rw [if_neg h, if_neg h, ih]
theorem atTo_map {α β : Type} {dd : α} (f : α → β) (l : List α) (c : List Nat) : ∀ n, n ≤ l.length → (atTo dd l c n).map f = atTo (f dd) (l.map f) c n
  | 0, _ => rfl
  | n + 1, h => by
    have ih := atTo_map (dd := dd) f l c n (by omega)
    have e : f (l.getD n dd) = (l.map f).getD n (f dd) := by
      rw [List.getD_eq_getElem?_getD, List.getElem?_eq_getElem (show n < l.length by omega), List.getD_eq_getElem?_getD, List.getElem?_map, List.getElem?_eq_getElem (show n < l.length by omega)]
      rfl
    by_cases z : c.getD n 0 = 0
    · rw [atTo_no z, atTo_no z, ih]
    · by_cases z2 : c.getD n 0 % 2 = 0
      · rw [atTo_even z z2, atTo_even z z2, List.map_append, List.map_append, ih, List.map_singleton, e]
      · rw [atTo_odd z z2, atTo_odd z z2, List.map_append, ih, List.map_singleton, e]
theorem atL_map {α β : Type} {dd : α} (f : α → β) (l : List α) (ws : List Int) : (atL dd l ws).map f = atL (f dd) (l.map f) ws := by
  unfold atL
  rw [atTo_map f l _ _ (Nat.le_refl _), List.length_map]
/-- What is made hangs on the members, the xor and no more. -/
theorem mix_congr {P Q : List PD} (hm : ∀ p, p ∈ P ↔ p ∈ Q) (hv : vecX P = vecX Q) (ht : txtX P = txtX Q) : mixL P = mixL Q := by
  cases P with
  | nil =>
    cases Q with
    | nil => rfl
    | cons q Q => exact absurd ((hm q).2 List.mem_cons_self) (by simp)
  | cons p P =>
    cases Q with
    | nil => exact absurd ((hm p).1 List.mem_cons_self) (by simp)
    | cons q Q =>
      have hh : hopX (p :: P) = hopX (q :: Q) := by
        apply Int.le_antisymm
        · exact hop_le fun r hr => hop_ge ((hm r).1 hr)
        · exact hop_le fun r hr => hop_ge ((hm r).2 hr)
      have side : ∀ {p q : PD} {P Q : List PD}, (∀ r, r ∈ p :: P ↔ r ∈ q :: Q) → (∀ r ∈ P, alkD p r = true) → (∀ r ∈ Q, alkD q r = true) ∧ alkD p q = true := by
        intro p q P Q hm h
        have hall : ∀ r ∈ p :: P, alkD p r = true := fun r hr => by
          rcases List.mem_cons.1 hr with e | e
          · rw [e]; exact alk_refl _
          · exact h r e
        have hq : alkD p q = true := hall q ((hm q).2 List.mem_cons_self)
        exact ⟨fun r hr => alk_trans (alk_symm hq) (hall r ((hm r).2 (List.mem_cons_of_mem _ hr))), hq⟩
      rw [mixL_cons, mixL_cons, hv, ht, hh]
      by_cases h : ∀ r ∈ P, alkD p r = true
      · obtain ⟨h1, h2⟩ := side hm h
        by_cases h3 : 0 < cnt (vecX (q :: Q)) ∧ hopX (q :: Q) < 15
        · rw [if_pos ⟨h, h3⟩, if_pos ⟨h1, h3⟩]
          unfold alkD at h2
          rw [decide_eq_true_eq] at h2
          rw [h2.1, h2.2.1, h2.2.2.1, h2.2.2.2]
        · rw [if_neg (fun e => h3 e.2), if_neg (fun e => h3 e.2)]
      · rw [if_neg (fun e => h e.1), if_neg (fun e => h (side (fun r => (hm r).symm) e.1).1)]
theorem mix_at (L : List PD) (ws : List Int) : mixL (atL .dflt L ws) = mixD L ws := mix_congr (fun p => atL_mem) (atL_xor (fun p : PD => p.xs) L ws) (atL_xor (fun p : PD => tx p.s) L ws)
end Go.Proofs.YtbcgiodgobmkaaaGreatDoor
