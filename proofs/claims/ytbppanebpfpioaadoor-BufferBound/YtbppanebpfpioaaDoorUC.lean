/-
  Plain mathematics of a buffer: packets as data ('PD'), what a put makes of them ('bput'), which one goes ('goesTo'), what always holds ('BInv'), that none is made by the others ('FreeD'). No condition.
-/
import Derived.Test.YtbppanebpfpioaaDoorM6
import Derived.Test.YtbppanebpfpioaaDoorPd
import Derived.Test.YtbppanebpfpioaaDoorM10
namespace Go.Proofs.YtbppanebpfpioaaDoor
open Go.RowKit Go.Sort
set_option linter.unusedVariables false
set_option maxRecDepth 4000

def alkH : List PD → PD → Bool
  | [], _ => true
  | q :: _, p => alkD q p
/-- Is it taken? -/
def takeD (m : Nat) (L : List PD) (p : PD) : Bool := decide (0 < m) && okD p && alkH L p && freshB (vecsD L) p.xs
/-- How many blocks it is made of. -/
def degD (L : List PD) (i : Nat) : Nat := cnt (L.getD i .dflt).xs
/-- The one to go, of the first i. -/
def goesTo (L : List PD) : Nat → Nat
  | 0 => 0
  | i + 1 => if degD L (goesTo L i) < degD L i then i else goesTo L i
theorem goesTo_succ (L : List PD) (i : Nat) : goesTo L (i + 1) = if degD L (goesTo L i) < degD L i then i else goesTo L i := rfl
theorem goesTo_spec (L : List PD) : ∀ n, 0 < n → goesTo L n < n ∧ (∀ j, j < n → degD L j ≤ degD L (goesTo L n)) ∧ ∀ j, j < goesTo L n → degD L j < degD L (goesTo L n)
  | 0, h => by omega
  | 1, _ => by
    have h : goesTo L 1 = 0 := by rw [goesTo_succ]; exact if_neg (Nat.lt_irrefl _)
    rw [h]
    exact ⟨by omega, fun j hj => by rw [show j = 0 by omega]; exact Nat.le_refl _, fun j hj => by omega⟩
  | n + 2, _ => by
    obtain ⟨h1, h2, h3⟩ := goesTo_spec L (n + 1) (by omega)
    rw [goesTo_succ L (n + 1)]
    by_cases h : degD L (goesTo L (n + 1)) < degD L (n + 1)
    · rw [if_pos h]
      refine ⟨by omega, fun j hj => ?_, fun j hj => Nat.lt_of_le_of_lt (h2 j hj) h⟩
      rcases Nat.lt_or_ge j (n + 1) with e | e
      · exact Nat.le_of_lt (Nat.lt_of_le_of_lt (h2 j e) h)
      · rw [show j = n + 1 by omega]; exact Nat.le_refl _
    · rw [if_neg h]
      refine ⟨by omega, fun j hj => ?_, h3⟩
      rcases Nat.lt_or_ge j (n + 1) with e | e
      · exact h2 j e
      · rw [show j = n + 1 by omega]; omega
theorem goesTo_uniq {L : List PD} {n g : Nat} (hg : g < n) (h1 : ∀ j, j < n → degD L j ≤ degD L g) (h2 : ∀ j, j < g → degD L j < degD L g) : goesTo L n = g := by
  obtain ⟨k1, k2, k3⟩ := goesTo_spec L n (by omega)
  have a1 := h1 _ k1
  have a2 := k2 g hg
  rcases Nat.lt_trichotomy (goesTo L n) g with e | e | e
  · have := h2 _ e; omega
  · exact e
  · have := k3 _ e; omega
/-- What is kept behind a put. -/
def leftD (m : Nat) (L : List PD) : List PD := if m ≤ L.length then L.eraseIdx (goesTo L L.length) else L
def bput (m : Nat) (L : List PD) (p : PD) : List PD := if takeD m L p = true then leftD m L ++ [p] else L
/-- What always holds of what is kept. -/
structure BInv (m : Nat) (L : List PD) : Prop where
  le : L.length ≤ m
  ok : ∀ p ∈ L, okD p = true
  alk : ∀ p ∈ L, ∀ q ∈ L, alkD p q = true
  sm : ∀ p ∈ L, smalls p.xs
theorem BInv.nil (m : Nat) : BInv m [] := ⟨Nat.zero_le _, (fun _ h => by cases h), (fun _ h => by cases h), (fun _ h => by cases h)⟩
theorem BInv.fit {m : Nat} {L : List PD} (h : BInv m L) : Fit 1048576 (vecsD L) := fun v hv => by
  obtain ⟨p, hp, rfl⟩ := List.mem_map.1 hv
  exact ⟨h.sm p hp, by have := okD_len (h.ok p hp); omega⟩
theorem left_sub {m : Nat} {L : List PD} : ∀ p ∈ leftD m L, p ∈ L := fun p hp => by
  unfold leftD at hp
  split at hp
  · exact List.mem_of_mem_eraseIdx hp
  · exact hp
theorem left_len {m : Nat} {L : List PD} (h : L.length ≤ m) (hm : 0 < m) : (leftD m L).length + 1 ≤ m ∧ (leftD m L).length ≤ L.length ∧ L.length ≤ (leftD m L).length + 1 := by
  unfold leftD
  by_cases e : m ≤ L.length
  · rw [if_pos e, List.length_eraseIdx_of_lt (goesTo_spec L L.length (by omega)).1]
    omega
  · rw [if_neg e]; omega
theorem take_parts {m : Nat} {L : List PD} {p : PD} (h : takeD m L p = true) : 0 < m ∧ okD p = true ∧ alkH L p = true ∧ freshB (vecsD L) p.xs = true := by
  unfold takeD at h
  rw [Bool.and_eq_true, Bool.and_eq_true, Bool.and_eq_true, decide_eq_true_eq] at h
  exact ⟨h.1.1.1, h.1.1.2, h.1.2, h.2⟩
theorem BInv.alkH {m : Nat} {L : List PD} (h : BInv m L) {p : PD} (hp : alkH L p = true) : ∀ q ∈ L, alkD q p = true := fun q hq => by
  cases L with
  | nil => cases hq
  | cons a L => exact alk_trans (h.alk q hq a List.mem_cons_self) hp
theorem BInv.put {m : Nat} {L : List PD} (h : BInv m L) {p : PD} (hs : smalls p.xs) : BInv m (bput m L p) := by
  unfold bput
  by_cases ht : takeD m L p = true
  · rw [if_pos ht]
    obtain ⟨hm, ho, ha, _⟩ := take_parts ht
    have hal := h.alkH ha
    refine ⟨by rw [List.length_append, List.length_singleton]; exact (left_len h.le hm).1, fun q hq => ?_, fun q hq r hr => ?_, fun q hq => ?_⟩
    · rcases List.mem_append.1 hq with hq | hq
      · exact h.ok q (left_sub q hq)
      · rw [List.mem_singleton.1 hq]; exact ho
    · rcases List.mem_append.1 hq with hq | hq <;> rcases List.mem_append.1 hr with hr | hr
      · exact h.alk q (left_sub q hq) r (left_sub r hr)
      · rw [List.mem_singleton.1 hr]; exact hal q (left_sub q hq)
      · rw [List.mem_singleton.1 hq]; exact alk_symm (hal r (left_sub r hr))
      · rw [List.mem_singleton.1 hq, List.mem_singleton.1 hr]; exact alk_refl p
    · rcases List.mem_append.1 hq with hq | hq
      · exact h.sm q (left_sub q hq)
      · rw [List.mem_singleton.1 hq]; exact hs
  · rw [if_neg ht]; exact h
theorem BInv.get {m : Nat} {L : List PD} (h : BInv m L) {i : Nat} (hi : i < L.length) : okD (L.getD i .dflt) = true ∧ alkD (L.getD 0 .dflt) (L.getD i .dflt) = true := by
  have hm : L.getD i .dflt ∈ L := by rw [List.getD_eq_getElem?_getD, List.getElem?_eq_getElem hi]; exact List.getElem_mem hi
  have h0 : L.getD 0 .dflt ∈ L := by rw [List.getD_eq_getElem?_getD, List.getElem?_eq_getElem (show 0 < L.length by omega)]; exact List.getElem_mem _
  exact ⟨h.ok _ hm, h.alk _ h0 _ hm⟩
/-- No degree is greater than the number of blocks. -/
theorem BInv.deg {m : Nat} {L : List PD} (h : BInv m L) {i : Nat} (hi : i < L.length) : (degD L i : Int) ≤ (L.getD 0 .dflt).k ∧ (L.getD 0 .dflt).k ≤ 128 := by
  obtain ⟨h1, h2⟩ := h.get hi
  unfold alkD at h2
  rw [decide_eq_true_eq] at h2
  have h3 := okD_cnt h1
  have h4 := (okD_valid h1).2.2.2.2.1
  unfold degD
  rw [h2.2.2.1]
  exact ⟨h3, h4⟩

/-- None is made by the others. -/
def FreeD (L : List PD) : Prop := (basisL (vecsD L)).length = L.length
theorem FreeD.nil : FreeD [] := rfl
theorem len_basis {V : List (List Nat)} (h : Fit 1048576 V) : (basisL V).length = (Ech.basis (V.map val)).length := by rw [← basis_val h, List.length_map]
theorem basis_snoc (l : List Nat) (v : Nat) : Ech.basis (l ++ [v]) = Ech.ins (Ech.basis l) v := by unfold Ech.basis; rw [List.foldl_append]; rfl
theorem erase_map {α β : Type} (f : α → β) : ∀ (l : List α) (i : Nat), (l.eraseIdx i).map f = (l.map f).eraseIdx i
  | [], _ => rfl
  | a :: l, 0 => rfl
  | a :: l, i + 1 => by simp only [List.eraseIdx_cons_succ, List.map_cons]; rw [erase_map f l i]
theorem mem_erase {l : List Nat} {i : Nat} (hi : i < l.length) (x : Nat) : x ∈ l ↔ x ∈ l.eraseIdx i ++ [l[i]] := by
  constructor
  · intro h
    rw [List.mem_append, List.mem_singleton]
    obtain ⟨j, hj, rfl⟩ := List.getElem_of_mem h
    by_cases e : j = i
    · subst e; exact .inr rfl
    · refine .inl (List.mem_eraseIdx_iff_getElem.2 ⟨j, hj, e, rfl⟩)
  · intro h
    rcases List.mem_append.1 h with h | h
    · exact List.mem_of_mem_eraseIdx h
    · rw [List.mem_singleton.1 h]; exact List.getElem_mem hi
theorem free_erase {l : List Nat} (h : (Ech.basis l).length = l.length) {i : Nat} (hi : i < l.length) : (Ech.basis (l.eraseIdx i)).length = (l.eraseIdx i).length := by
  have h1 := Ech.basis_same (mem_erase hi)
  rw [basis_snoc] at h1
  have h2 := Ech.ins_length (Ech.basis (l.eraseIdx i)) l[i]
  have h3 := Ech.basis_length (l.eraseIdx i)
  have h4 := List.length_eraseIdx_of_lt hi
  rw [← h1] at h2
  omega
theorem free_snoc {l : List Nat} (h : (Ech.basis l).length = l.length) {v : Nat} (hv : ¬ Ech.Sp l v) : (Ech.basis (l ++ [v])).length = (l ++ [v]).length := by
  rw [basis_snoc]
  unfold Ech.ins
  rw [if_neg (fun e => hv ((Ech.sp_basis l v).1 ((Ech.red_zero (Ech.red_basis l) v).1 e))), Ech.put_length, List.length_map, h, List.length_append]
  rfl
theorem FreeD.put {m : Nat} {L : List PD} (hi : BInv m L) (h : FreeD L) {p : PD} (hs : smalls p.xs) : FreeD (bput m L p) := by
  have hI := hi.put hs
  unfold FreeD at *
  rw [len_basis hI.fit]
  rw [len_basis hi.fit] at h
  unfold bput
  by_cases ht : takeD m L p = true
  · rw [if_pos ht]
    obtain ⟨hm, ho, ha, hf⟩ := take_parts ht
    have hn : ¬ Ech.Sp ((vecsD L).map val) (val p.xs) := fun hsp => by
      have := (brought_in hi.fit hs (by have := okD_len ho; omega)).2 hsp
      unfold freshB at hf
      rw [decide_eq_true this] at hf
      cases hf
    have e : (vecsD (leftD m L ++ [p])).map val = (vecsD (leftD m L)).map val ++ [val p.xs] := by simp [vecsD]
    have hl : ∀ M : List PD, ((vecsD M).map val).length = M.length := fun M => by simp [vecsD]
    have hk : (Ech.basis ((vecsD (leftD m L)).map val)).length = ((vecsD (leftD m L)).map val).length := by
      unfold leftD
      by_cases hc : m ≤ L.length
      · rw [if_pos hc]
        have hg := (goesTo_spec L L.length (by omega)).1
        have e2 : (vecsD (L.eraseIdx (goesTo L L.length))).map val = ((vecsD L).map val).eraseIdx (goesTo L L.length) := by
          unfold vecsD
          rw [erase_map, erase_map]
        rw [e2]
        exact free_erase (h.trans (hl L).symm) (by rw [hl]; exact hg)
      · rw [if_neg hc]; exact h.trans (hl L).symm
    rw [e, free_snoc hk (fun hsp => hn (hsp.mono fun a ha => ?_)), ← e, hl]
    obtain ⟨v, hv, rfl⟩ := List.mem_map.1 ha
    obtain ⟨q, hq, rfl⟩ := List.mem_map.1 hv
    exact List.mem_map.2 ⟨q.xs, List.mem_map.2 ⟨q, left_sub q hq, rfl⟩, rfl⟩
  · rw [if_neg ht]; exact h
end Go.Proofs.YtbppanebpfpioaaDoor
