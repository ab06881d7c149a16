/-
  Contract of xor.Row.
-/
import Derived.Test.YtjppopabjfncpaaDoorM2
import Derived.Test.YtjppopabjfncpaaDoorXG
namespace Go.Proofs.YtjppopabjfncpaaDoor
open Go.RowKit Go.Sort
set_option linter.unusedVariables false
set_option maxRecDepth 4000

/-- A new block of texts. -/
def TextsW (w : World) (g : Nat) (ss : List ByteArray) : Prop := ∀ i, i < ss.length → w.cell? ⟨g, i, none⟩ = some (.string (ss.getD i ByteArray.empty)) ∧ w.frozen? ⟨g, i, none⟩ = false
theorem TextsW.texts {w : World} {g : Nat} {ss : List ByteArray} (h : TextsW w g ss) : TextsAt w (some ⟨g, 0, none⟩) ss.length ss :=
  ⟨rfl, .inr ⟨g, 0, rfl, fun i hi => by rw [Nat.zero_add]; exact (h i hi).1⟩⟩
theorem TextsW.alloc {w : World} {g : Nat} {ss : List ByteArray} (h : TextsW w g ss) (hg : g < w.heap.size) (o : Obj) : TextsW (w.alloc o) g ss := fun i hi =>
  ⟨(World.cell?_alloc_lt (h := by exact hg) ..).trans (h i hi).1, (World.frozen?_alloc_old (h := by exact Nat.ne_of_lt hg) ..).trans (h i hi).2⟩
theorem getD_set_t (ss : List ByteArray) (k i : Nat) (z : ByteArray) (hk : k < ss.length) : (ss.set k z).getD i ByteArray.empty = if i = k then z else ss.getD i ByteArray.empty := by
  simp only [List.getD_eq_getElem?_getD, List.getElem?_set]
  by_cases h : k = i
  · subst h; simp [hk]
  · simp [h, Ne.symm h]
theorem TextsW.stored {w : World} {g : Nat} {ss : List ByteArray} (h : TextsW w g ss) (k : Nat) (z : ByteArray) (hk : k < ss.length) : TextsW (w.setCell ⟨g, k, none⟩ (.string z)) g (ss.set k z) := by
  intro i hi
  rw [List.length_set] at hi
  refine ⟨?_, by rw [World.frozen?_setCell]; exact (h i hi).2⟩
  rw [getD_set_t ss k i z hk]
  by_cases e : i = k
  · subst e
    rw [if_pos rfl]
    exact World.cell?_setCell_same _ _ _ (h i hi).1
  · rw [if_neg e]
    have h0 : (⟨g, k, none⟩ : Addr) ≠ ⟨g, i, none⟩ := fun h => e (by injection h with _ h; exact h.symm)
    exact (World.cell?_setCell_other (h := h0) ..).trans (h i hi).1
/-- The texts of the first k rows, and nothing of the others. -/
def datK (rs : List RV) (k : Nat) : List ByteArray := (List.range rs.length).map fun i => if i < k then (rs.getD i .dflt).s else ByteArray.empty
theorem datK_length (rs : List RV) (k : Nat) : (datK rs k).length = rs.length := by simp [datK]
theorem datK_getD (rs : List RV) (k i : Nat) : (datK rs k).getD i ByteArray.empty = if i < k ∧ i < rs.length then (rs.getD i .dflt).s else ByteArray.empty := by
  unfold datK
  rw [List.getD_eq_getElem?_getD]
  by_cases hi : i < rs.length
  · simp [hi]
  · simp [hi]
theorem ext_t {a b : List ByteArray} (hl : a.length = b.length) (h : ∀ i, i < a.length → a.getD i ByteArray.empty = b.getD i ByteArray.empty) : a = b := by
  apply List.ext_getElem hl
  intro i h1 h2
  have := h i h1
  simpa [List.getD_eq_getElem?_getD, List.getElem?_eq_getElem h1, List.getElem?_eq_getElem h2] using this
theorem datK_succ (rs : List RV) (k : Nat) (hk : k < rs.length) : (datK rs k).set k (rs.getD k .dflt).s = datK rs (k + 1) := by
  apply ext_t
  · rw [List.length_set, datK_length, datK_length]
  · intro i hi
    rw [List.length_set, datK_length] at hi
    rw [getD_set_t _ _ _ _ (by rw [datK_length]; exact hk), datK_getD, datK_getD]
    by_cases e : i = k
    · subst e; simp [hi]
    · rw [if_neg e]
      by_cases h2 : i < k
      · rw [if_pos ⟨h2, hi⟩, if_pos ⟨by omega, hi⟩]
      · rw [if_neg (by omega), if_neg (by omega)]
theorem datK_all (rs : List RV) : datK rs rs.length = rs.map fun r => r.s := by
  apply ext_t
  · simp [datK_length]
  · intro i hi
    rw [datK_length] at hi
    rw [datK_getD, if_pos ⟨hi, hi⟩]
    simp [List.getD_eq_getElem?_getD, List.getElem?_eq_getElem hi]
theorem row_round {w wr : World} {g g0 k : Nat} {rs : List RV} {x y u v : Value} (hT : TextsW wr g (datK rs k)) (hk : k < rs.length) (hg : g < wr.heap.size) (hX : BoxW wr g0 x y) (hne : g ≠ g0) (hb : Below w.heap.size w wr) (hgw : w.heap.size ≤ g) :
    TextsW ((wr.setCell ⟨g, k, none⟩ (.string (rs.getD k .dflt).s)).alloc (.cells #[u, v] 37)) g (datK rs (k + 1)) ∧
    BoxW ((wr.setCell ⟨g, k, none⟩ (.string (rs.getD k .dflt).s)).alloc (.cells #[u, v] 37)) g0 x y ∧
    Below w.heap.size w ((wr.setCell ⟨g, k, none⟩ (.string (rs.getD k .dflt).s)).alloc (.cells #[u, v] 37)) ∧
    g < ((wr.setCell ⟨g, k, none⟩ (.string (rs.getD k .dflt).s)).alloc (.cells #[u, v] 37)).heap.size := by
  have hb1 := hb.setCell (p := ⟨g, k, none⟩) (by exact hgw) (.string (rs.getD k .dflt).s)
  refine ⟨?_, (hX.other _ _ hne).alloc _, hb1.alloc hb1.size _, by simp; omega⟩
  rw [← datK_succ rs k hk]
  exact (hT.stored k _ (by rw [datK_length]; exact hk)).alloc (by simpa using hg) _
theorem info_str : (Tryd.prog.info? 9).map (fun i => (i.zero, i.size, i.bytes)) = some (some (.string ByteArray.empty), 1, 16) := by kernel_rfl

end Go.Proofs.YtjppopabjfncpaaDoor
