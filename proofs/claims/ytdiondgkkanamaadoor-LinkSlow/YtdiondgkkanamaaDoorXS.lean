/-
  A row (a slice of words and a text) by value; contract of bucketlineref02.Same; callees in regions that draw their order.
-/
import Derived.Test.YtdiondgkkanamaaDoorTx
import Derived.Test.YtdiondgkkanamaaDoorQb
import Derived.Deep.RegionWith
import Derived.Lib.QuietBelow
namespace Go.Proofs.YtdiondgkkanamaaDoor
open Go.RowKit Go.Sort
set_option linter.unusedVariables false
set_option maxRecDepth 4000

/-- A block that holds a row. -/
def BoxAt (w : World) (g : Nat) (x y : Value) : Prop := w.cell? ⟨g, 0, none⟩ = some x ∧ w.cell? ⟨g, 1, none⟩ = some y
theorem box_new (w : World) (x y : Value) : BoxAt (w.alloc (.cells #[x, y] 32)) w.heap.size x y := by
  constructor <;> simp
theorem BoxAt.below {w w' : World} {g : Nat} {x y : Value} (h : BoxAt w g x y) (hb : Below w.heap.size w w') : BoxAt w' g x y :=
  ⟨(hb.cell (World.block_lt_of_cell? w _ h.1)).trans h.1, (hb.cell (World.block_lt_of_cell? w _ h.2)).trans h.2⟩
theorem BoxAt.alloc {w : World} {g : Nat} {x y : Value} (h : BoxAt w g x y) (o : Obj) : BoxAt (w.alloc o) g x y := h.below ((Below.refl _ _).alloc (Nat.le_refl _) _)


/-- A block of one's own that holds a row and can be written. -/
def BoxW (w : World) (g : Nat) (x y : Value) : Prop := BoxAt w g x y ∧ w.frozen? ⟨g, 0, none⟩ = false ∧ w.frozen? ⟨g, 1, none⟩ = false
theorem boxW_new (w : World) (x y : Value) : BoxW (w.alloc (.cells #[x, y] 32)) w.heap.size x y := ⟨box_new w x y, by simp, by simp⟩
theorem BoxW.below {w w' : World} {g : Nat} {x y : Value} (h : BoxW w g x y) (hb : Below w.heap.size w w') : BoxW w' g x y :=
  ⟨h.1.below hb, (hb.frozen (World.block_lt_of_cell? w _ h.1.1)).trans h.2.1, (hb.frozen (World.block_lt_of_cell? w _ h.1.2)).trans h.2.2⟩
theorem BoxW.alloc {w : World} {g : Nat} {x y : Value} (h : BoxW w g x y) (o : Obj) : BoxW (w.alloc o) g x y := h.below ((Below.refl _ _).alloc (Nat.le_refl _) _)
theorem BoxW.other {w : World} {g : Nat} {x y : Value} (h : BoxW w g x y) {g' : Nat} (i : Nat) (u : Value) (hg : g' ≠ g) : BoxW (w.setCell ⟨g', i, none⟩ u) g x y := by
  have h0 : (⟨g', i, none⟩ : Addr) ≠ ⟨g, 0, none⟩ := fun h => hg (by injection h)
  have h1 : (⟨g', i, none⟩ : Addr) ≠ ⟨g, 1, none⟩ := fun h => hg (by injection h)
  exact ⟨⟨(World.cell?_setCell_other (h := h0) ..).trans h.1.1, (World.cell?_setCell_other (h := h1) ..).trans h.1.2⟩, by rw [World.frozen?_setCell]; exact h.2.1, by rw [World.frozen?_setCell]; exact h.2.2⟩
theorem block_setCell_other {w : World} {g k i : Nat} (u : Value) (h : k ≠ g) : (w.setCell ⟨g, i, none⟩ u).heap[k]? = w.heap[k]? := by
  unfold World.setCell
  simp [Array.getElem?_modify, Ne.symm h]
theorem Own.other {w : World} {B : Nat} {v : Value} {xs : List Nat} (h : Own w B v xs) {g : Nat} (i : Nat) (u : Value) (hg : g < B) : Own (w.setCell ⟨g, i, none⟩ u) B v xs := by
  refine ⟨h.1, h.2.1, ?_⟩
  rcases h.2.2 with h0 | ⟨g', cap, cur, h1, hg', hgg, r⟩
  · exact .inl h0
  · exact .inr ⟨g', cap, cur, h1, hg', (block_setCell_other u (by omega)).trans hgg, r⟩
theorem BoxW.set0 {w : World} {g : Nat} {x y : Value} (h : BoxW w g x y) (u : Value) : BoxW (w.setCell ⟨g, 0, none⟩ u) g u y :=
  ⟨⟨World.cell?_setCell_same _ _ _ h.1.1, (World.cell?_setCell_other (h := by simp) ..).trans h.1.2⟩, by rw [World.frozen?_setCell]; exact h.2.1, by rw [World.frozen?_setCell]; exact h.2.2⟩
theorem BoxW.set1 {w : World} {g : Nat} {x y : Value} (h : BoxW w g x y) (u : Value) : BoxW (w.setCell ⟨g, 1, none⟩ u) g x u :=
  ⟨⟨(World.cell?_setCell_other (h := by simp) ..).trans h.1.1, World.cell?_setCell_same _ _ _ h.1.2⟩, by rw [World.frozen?_setCell]; exact h.2.1, by rw [World.frozen?_setCell]; exact h.2.2⟩
end Go.Proofs.YtdiondgkkanamaaDoor
