/-
  Contracts of slices.IndexFunc over insert's closure, of echelon.insert, Basis, Rank: for rows of at most 2^20 words, fewer than 2^20 rows, in every world that holds the table of math/bits.
-/
import Derived.Test.YtbfkhioljpgjjaaDoorEB
namespace Go.Proofs.YtbfkhioljpgjjaaDoor
open Go.RowKit
set_option linter.unusedVariables false
set_option maxRecDepth 4000

theorem Tab.belowB {w w' : World} {B : Nat} (h : Tab w) (hb : Below B w w') (hB : 0 < B) : Tab w' := fun i hi => (hb.cell (p := ⟨0, i, none⟩) hB).trans (h i hi)
theorem idx_step (f : Int) (rs : List (List Nat)) (k : Nat) (h : ∀ j, j < k → firstI (rs.getD j []) ≤ f) (h0 : firstI (rs.getD k []) ≤ f) : ∀ j, j < k + 1 → firstI (rs.getD j []) ≤ f := by
  intro j hj
  by_cases e : j = k
  · rw [e]; exact h0
  · exact h j (by omega)
/-- What IndexFunc tells. -/
def idxI (f : Int) (rs : List (List Nat)) : Int := if idxL f rs < rs.length then (idxL f rs : Int) else -1
theorem idxI_at {f : Int} {rs : List (List Nat)} {k : Nat} (hk : k < rs.length) (h : ∀ j, j < k → firstI (rs.getD j []) ≤ f) (h2 : f < firstI (rs.getD k [])) : (k : Int) = idxI f rs := by
  unfold idxI
  rw [idxL_of f rs k (by omega) (fun j hj => by have := h j hj; omega) (fun _ => h2), if_pos hk]
theorem idxI_none {f : Int} {rs : List (List Nat)} {k : Nat} (hk : rs.length ≤ k) (h : ∀ j, j < k → firstI (rs.getD j []) ≤ f) : (-1 : Int) = idxI f rs := by
  unfold idxI
  rw [if_neg]
  intro h1
  have := idxL_at f rs h1
  have := h _ (Nat.lt_of_lt_of_le h1 hk)
  omega
theorem OwnV.cell {w : World} {B g n cap : Nat} {vs : List Value} {rs : List (List Nat)} (h : OwnV w B (.slice (some ⟨g, 0, none⟩) n cap) vs rs) {k : Nat} {u : Value} (hu : vs[k]? = some u) :
    w.cell? ⟨g, k, none⟩ = some u ∧ w.frozen? ⟨g, k, none⟩ = false := by
  rcases h.top.2 with ⟨h0, _⟩ | ⟨g', cap', cur, h0, hb, hg, hnc, hcm, hcs, ht⟩
  · cases h0
  · simp only [Value.slice.injEq, Option.some.injEq, Addr.mk.injEq, and_true] at h0
    obtain ⟨rfl, _, rfl⟩ := h0
    have hk : k < vs.length := (List.getElem?_eq_some_iff.1 hu).1
    have hl := h.len
    refine ⟨?_, by simp [World.frozen?, hg]⟩
    rw [cell_of_row w g k _ _ _ hg, ← Array.getElem?_toList, ← hu, ← ht, List.getElem?_take_of_lt (by omega)]
theorem OwnV.some {w : World} {B n c : Nat} {a : Option Addr} {vs : List Value} {rs : List (List Nat)} (h : OwnV w B (.slice a n c) vs rs) (h0 : 0 < rs.length) : ∃ g, a = Option.some ⟨g, 0, none⟩ := by
  rcases h.top.2 with ⟨_, h1⟩ | ⟨g', cap', cur, h1, _⟩
  · omega
  · simp only [Value.slice.injEq] at h1
    exact ⟨g', h1.1⟩
theorem OwnV.one {w : World} {B : Nat} {v : Value} {vs : List Value} {rs : List (List Nat)} (h : OwnV w B v vs rs) : ∀ u ∈ vs, u.oneCell' = true := by
  intro u hu
  obtain ⟨i, hi, rfl⟩ := List.getElem_of_mem hu
  obtain ⟨a, c, e, _⟩ := (h.rows i _ (List.getElem?_eq_getElem hi)).row
  rw [e]; rfl
theorem Own.keeps {w w' : World} {B : Nat} {v : Value} {xs : List Nat} {l0 l : List Value} (h : Own w B v xs) (k : Keeps w w' l0 l) (ho : ∀ b, v.ownBlock = some b → Off l0 b) : Own w' B v xs := by
  refine ⟨h.1, h.2.1, ?_⟩
  rcases h.2.2 with h0 | ⟨g, cap, cur, h1, hg, hgg, r⟩
  · exact .inl h0
  · exact .inr ⟨g, cap, cur, h1, hg, (k.block g (Array.getElem?_eq_some_iff.1 hgg).1 (ho g (by rw [h1]; rfl))).1.trans hgg, r⟩
theorem ByAt.keeps {w w' : World} {lo p : Nat} {a : Option Addr} {n c : Nat} {l0 l : List Value} (h : ByAt w lo p a n c) (k : Keeps w w' l0 l) (hp : Off l0 p) : ByAt w' lo p a n c :=
  ⟨h.1, k.cell h.2 hp⟩

theorem OwnV.cell_turned {w w' : World} {B g n cap : Nat} {vs : List Value} {rs : List (List Nat)} (h : OwnV w B (.slice (Option.some ⟨g, 0, none⟩) n cap) vs rs) {k : Nat} {u v : Value} (hu : vs[k]? = Option.some u) (ht : Turned w w' u v) :
    w'.cell? ⟨g, k, none⟩ = Option.some u ∧ w'.frozen? ⟨g, k, none⟩ = false := by
  obtain ⟨h1, h2⟩ := h.cell hu
  have hg : Option.some g ≠ u.ownBlock := by
    intro e
    rcases h.dis hu with hd | hd
    · rw [hd] at e; cases e
    · exact hd e.symm
  exact ⟨ht.1.cell h1 hg, (World.frozen?_of_block (ht.1.block g (World.block_lt_of_cell? w _ h1) hg)).trans h2⟩

/-- The rows so far. -/
def stepped (r : List Nat) (rs : List (List Nat)) (k : Nat) : List (List Nat) := (rs.map fun b => stepL b r).take k ++ rs.drop k
theorem stepped_zero (r : List Nat) (rs : List (List Nat)) : stepped r rs 0 = rs := by simp [stepped]
theorem stepped_all (r : List Nat) (rs : List (List Nat)) : stepped r rs rs.length = rs.map fun b => stepL b r := by
  unfold stepped
  rw [List.drop_length, List.append_nil, List.take_of_length_le (by simp)]
theorem stepped_length (r : List Nat) (rs : List (List Nat)) (k : Nat) (hk : k ≤ rs.length) : (stepped r rs k).length = rs.length := by simp [stepped]; omega
theorem stepped_at (r : List Nat) (rs : List (List Nat)) (k : Nat) (hk : k < rs.length) : (stepped r rs k).getD k [] = rs.getD k [] := by
  unfold stepped
  rw [List.getD_eq_getElem?_getD, List.getElem?_append_right (by simp; omega), List.length_take, List.length_map, Nat.min_eq_left (by omega), Nat.sub_self, List.getElem?_drop, Nat.add_zero, ← List.getD_eq_getElem?_getD]
theorem stepped_succ (r : List Nat) (rs : List (List Nat)) (k : Nat) (hk : k < rs.length) : (stepped r rs k).set k (stepL (rs.getD k []) r) = stepped r rs (k + 1) := by
  unfold stepped
  have hl : ((rs.map fun b => stepL b r).take k).length = k := by simp; omega
  rw [List.set_append_right _ _ (by omega), hl, Nat.sub_self, List.drop_eq_getElem_cons hk, List.set_cons_zero, List.take_succ_eq_append_getElem (by simpa using hk), List.append_assoc]
  simp [List.getD_eq_getElem?_getD, List.getElem?_eq_getElem hk]

end Go.Proofs.YtbfkhioljpgjjaaDoor
