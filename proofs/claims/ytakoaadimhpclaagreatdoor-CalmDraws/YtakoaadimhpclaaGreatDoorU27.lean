/-
  Shortest ways on plain data: levels ('lev'), what they obey, the way itself ('wayL'). No condition.
-/
import Derived.Test.YtakoaadimhpclaaGreatDoorU26
namespace Go.Proofs.YtakoaadimhpclaaGreatDoor
open Go.RowKit
set_option linter.unusedVariables false
set_option linter.unusedSimpArgs false
set_option maxRecDepth 4000

/-- Whom node i sends to. -/
def tosN (ds : List NDV) (i : Nat) : List Int := (ds.getD i .dflt).tos
/-- What k rounds tell of how far each node is from one: 8: nothing. -/
def lev (ds : List NDV) (tn : Nat) : Nat → Nat → Nat
  | 0, i => if i = tn then 0 else 8
  | k + 1, i => if lev ds tn k i < 8 then lev ds tn k i else if ∃ x, x ∈ tosN ds i ∧ lev ds tn k x.toNat = k then k + 1 else 8
/-- May the nodes be, as far as ways are asked for? -/
def WayP (ds : List NDV) (n : Nat) : Prop := n ≤ 8 ∧ ∀ i, i < n → ∀ x, x ∈ tosN ds i → 0 ≤ x ∧ x < (n : Int)
theorem lev_zero {ds : List NDV} {tn : Nat} : ∀ k, lev ds tn k tn = 0
  | 0 => if_pos rfl
  | k + 1 => by
    unfold lev
    rw [lev_zero k, if_pos (by omega)]
theorem lev_le {ds : List NDV} {tn : Nat} : ∀ k i, k ≤ 8 → lev ds tn k i ≤ 8
  | 0, i, _ => by
    unfold lev
    split <;> omega
  | k + 1, i, h => by
    unfold lev
    have := lev_le (ds := ds) (tn := tn) k i (by omega)
    split
    · omega
    · split <;> omega
theorem lev_stays {ds : List NDV} {tn k i : Nat} (h : lev ds tn k i < 8) : ∀ m, k ≤ m → lev ds tn m i = lev ds tn k i
  | m, hm => by
    induction m with
    | zero => obtain rfl : k = 0 := by omega
              rfl
    | succ m ih =>
      by_cases e : k = m + 1
      · rw [e]
      · have := ih (by omega)
        show (if lev ds tn m i < 8 then lev ds tn m i else _) = _
        rw [this, if_pos h]
theorem lev_up {ds : List NDV} {tn k i : Nat} (h : lev ds tn k i < 8) : lev ds tn k i ≤ k := by
  induction k with
  | zero =>
    have : (if i = tn then 0 else 8) < 8 := h
    show (if i = tn then 0 else 8) ≤ 0
    split at this
    · rename_i e; rw [if_pos e]; omega
    · omega
  | succ k ih =>
    have h' : (if lev ds tn k i < 8 then lev ds tn k i else if ∃ x, x ∈ tosN ds i ∧ lev ds tn k x.toNat = k then k + 1 else 8) < 8 := h
    show (if lev ds tn k i < 8 then lev ds tn k i else if ∃ x, x ∈ tosN ds i ∧ lev ds tn k x.toNat = k then k + 1 else 8) ≤ k + 1
    split
    · rename_i e; have := ih e; omega
    · rename_i e
      rw [if_neg e] at h'
      split
      · omega
      · rename_i e2; rw [if_neg e2] at h'; omega
/-- Nought at the end alone. -/
theorem lev_end {ds : List NDV} {tn : Nat} : ∀ k i, lev ds tn k i = 0 → i = tn
  | 0, i, h => by
    have : (if i = tn then 0 else 8) = 0 := h
    split at this
    · assumption
    · omega
  | k + 1, i, h => by
    have h' : (if lev ds tn k i < 8 then lev ds tn k i else if ∃ x, x ∈ tosN ds i ∧ lev ds tn k x.toNat = k then k + 1 else 8) = 0 := h
    split at h'
    · exact lev_end k i h'
    · split at h' <;> omega
/-- One step less. -/
theorem lev_next {ds : List NDV} {tn : Nat} : ∀ k i, i ≠ tn → lev ds tn k i < 8 → ∃ x, x ∈ tosN ds i ∧ lev ds tn k x.toNat + 1 = lev ds tn k i
  | 0, i, hi, h => by
    have : (if i = tn then 0 else 8) < 8 := h
    rw [if_neg hi] at this
    omega
  | k + 1, i, hi, h => by
    have h' : (if lev ds tn k i < 8 then lev ds tn k i else if ∃ x, x ∈ tosN ds i ∧ lev ds tn k x.toNat = k then k + 1 else 8) < 8 := h
    by_cases e : lev ds tn k i < 8
    · obtain ⟨j, h1, h2⟩ := lev_next k i hi e
      refine ⟨j, h1, ?_⟩
      rw [lev_stays e (k + 1) (by omega), lev_stays (k := k) (i := j.toNat) (by omega) (k + 1) (by omega)]
      exact h2
    · rw [if_neg e] at h'
      split at h'
      · rename_i hx
        obtain ⟨j, h1, h2⟩ := hx
        refine ⟨j, h1, ?_⟩
        show lev ds tn (k + 1) j.toNat + 1 = (if lev ds tn k i < 8 then lev ds tn k i else if ∃ x, x ∈ tosN ds i ∧ lev ds tn k x.toNat = k then k + 1 else 8)
        rw [if_neg e, if_pos ⟨j, h1, h2⟩, lev_stays (k := k) (i := j.toNat) (by omega) (k + 1) (by omega), h2]
      · omega
theorem list_ofZ (Q : Nat → Int → Prop) : ∀ n, (∀ i, i < n → ∃ r, Q i r) → ∃ rs : List Int, rs.length = n ∧ ∀ i, i < n → Q i (rs.getD i 0)
  | 0, _ => ⟨[], rfl, fun i hi => by omega⟩
  | n + 1, h => by
    obtain ⟨rs, hl, hr⟩ := list_ofZ Q n (fun i hi => h i (by omega))
    obtain ⟨r, hp⟩ := h n (by omega)
    refine ⟨rs ++ [r], by simp [hl], fun i hi => ?_⟩
    by_cases e : i < n
    · have := hr i e
      rwa [show (rs ++ [r]).getD i 0 = rs.getD i 0 from by simp [List.getD_eq_getElem?_getD, List.getElem?_append_left (show i < rs.length by omega)]]
    · obtain rfl : i = n := by omega
      rwa [show (rs ++ [r]).getD i 0 = r from by simp [List.getD_eq_getElem?_getD, ← hl]]
/-- Each level ahead of one has a node. -/
theorem lev_each {ds : List NDV} {n tn : Nat} (hw : WayP ds n) {k : Nat} : ∀ m i, i < n → lev ds tn k i = m → m < 8 → ∀ q, q ≤ m → ∃ j, j < n ∧ lev ds tn k j = q
  | 0, i, hi, h, _, q, hq => ⟨i, hi, by omega⟩
  | m + 1, i, hi, h, h8, q, hq => by
    by_cases e : q = m + 1
    · exact ⟨i, hi, by omega⟩
    · have hne : i ≠ tn := fun e => by rw [e, lev_zero] at h; omega
      obtain ⟨j, h1, h2⟩ := lev_next (ds := ds) k i hne (by omega)
      have := hw.2 i hi _ h1
      exact lev_each hw m j.toNat (by omega) (by omega) (by omega) q (by omega)
/-- So many levels with a node each, and a node of none of them: more nodes than levels. -/
theorem lev_room {ds : List NDV} {n tn k m i : Nat} (hi : i < n) (he : ∀ q, q < m → ∃ j, j < n ∧ lev ds tn k j = q) (hn : ∀ q, q < m → lev ds tn k i ≠ q) : m < n := by
  obtain ⟨xs, hl, hx⟩ := list_ofZ (fun q r => ∃ j : Nat, j < n ∧ r = (j : Int) ∧ lev ds tn k j = q) m (fun q hq => by
    obtain ⟨j, h1, h2⟩ := he q hq
    exact ⟨j, j, h1, rfl, h2⟩)
  refine dist_lt (xs := xs) (id := i) (n := n) (k := m) hi fun j hj => ?_
  obtain ⟨x, h1, h2, h3⟩ := hx j hj
  refine ⟨by omega, fun e => ?_, fun q hq e => ?_⟩
  · have : x = i := by omega
    rw [this] at h3
    exact hn j hj h3
  · obtain ⟨y, g1, g2, g3⟩ := hx q (by omega)
    have : y = x := by omega
    rw [this] at g3
    omega
theorem lev_small {ds : List NDV} {n tn k i : Nat} (hw : WayP ds n) (hi : i < n) (h : lev ds tn k i < 8) : lev ds tn k i < n :=
  lev_room hi (fun q hq => lev_each hw _ i hi rfl h q (by omega)) (fun q hq e => by omega)
/-- How far a node is: 8: there is no way. -/
def farN (ds : List NDV) (n tn i : Nat) : Nat := lev ds tn n i
structure FarP (ds : List NDV) (n tn : Nat) (F : Nat → Nat) : Prop where
  le : ∀ i, F i ≤ 8
  zero : F tn = 0
  fin : ∀ i, F i = 0 → i = tn
  small : ∀ i, i < n → F i < 8 → F i < n
  next : ∀ i, i ≠ tn → F i < 8 → ∃ x, x ∈ tosN ds i ∧ F x.toNat + 1 = F i
  edge : ∀ i, i < n → ∀ x, x ∈ tosN ds i → F i ≤ F x.toNat + 1
theorem farN_is {ds : List NDV} {n tn : Nat} (hw : WayP ds n) : FarP ds n tn (farN ds n tn) where
  le i := lev_le n i hw.1
  zero := lev_zero n
  fin i h := lev_end n i h
  small i hi h := lev_small hw hi h
  next i hi h := lev_next n i hi h
  edge i hi x hj := by
    obtain ⟨j, rfl⟩ : ∃ j : Nat, x = (j : Int) := ⟨x.toNat, by have := hw.2 i hi _ hj; omega⟩
    rw [Int.toNat_natCast]
    have hjn : j < n := by have := (hw.2 i hi _ hj).2; omega
    have h8 : lev ds tn n i ≤ 8 := lev_le n i hw.1
    show lev ds tn n i ≤ lev ds tn n j + 1
    by_cases h : lev ds tn n j < 8
    · have hs := lev_small hw hjn h
      -- at the round behind j's level i has one
      have hst : lev ds tn (lev ds tn n j) j = lev ds tn n j := by
        have key : ∀ m, lev ds tn m j < 8 → lev ds tn (lev ds tn m j) j = lev ds tn m j := by
          intro m
          induction m with
          | zero =>
            intro h0
            have : lev ds tn 0 j = 0 := by have := lev_up h0; omega
            rw [this, this]
          | succ m ih =>
            intro h1
            by_cases e : lev ds tn m j < 8
            · rw [lev_stays e (m + 1) (by omega)]
              exact ih e
            · have h2 : (if lev ds tn m j < 8 then lev ds tn m j else if ∃ x, x ∈ tosN ds j ∧ lev ds tn m x.toNat = m then m + 1 else 8) < 8 := h1
              rw [if_neg e] at h2
              have h3 : lev ds tn (m + 1) j = m + 1 := by
                show (if lev ds tn m j < 8 then lev ds tn m j else if ∃ x, x ∈ tosN ds j ∧ lev ds tn m x.toNat = m then m + 1 else 8) = m + 1
                rw [if_neg e]
                split
                · rfl
                · rename_i hx; rw [if_neg hx] at h2; omega
              rw [h3, h3]
        exact key n h
      have h2 : lev ds tn (lev ds tn n j + 1) i ≤ lev ds tn n j + 1 := by
        show (if lev ds tn (lev ds tn n j) i < 8 then lev ds tn (lev ds tn n j) i else if ∃ x, x ∈ tosN ds i ∧ lev ds tn (lev ds tn n j) x.toNat = lev ds tn n j then lev ds tn n j + 1 else 8) ≤ lev ds tn n j + 1
        split
        · rename_i e; have := lev_up e; omega
        · rw [if_pos ⟨(j : Int), hj, by rw [Int.toNat_natCast]; exact hst⟩]; omega
      by_cases e : lev ds tn n j + 1 < 8
      · rw [lev_stays (k := lev ds tn n j + 1) (by omega) n (by omega)]
        exact h2
      · omega
    · omega
end Go.Proofs.YtakoaadimhpclaaGreatDoor
