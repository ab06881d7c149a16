/-
  A block of many cells ('BkA'). No condition.
-/
import Derived.Test.YtljkmajajcocdaaU10
import Derived.Test.YtljkmajajcocdaaU0
namespace Go.Proofs.Ytljkmajajcocdaa
open Go.RowKit
set_option linter.unusedVariables false
set_option linter.unusedSimpArgs false
set_option maxRecDepth 4000

/-- A block of cells, none of them frozen. -/
def BkA (T : TypeId) (w : World) (g : Nat) (cs : List Value) : Prop := w.heap[g]? = some (.cells cs.toArray T (0, 0))
theorem bkA_new (T : TypeId) (w : World) (cs : List Value) : BkA T (w.alloc (.cells cs.toArray T)) w.heap.size cs := by
  show (w.heap.push _)[w.heap.size]? = _
  simp
theorem BkA.lt {T : TypeId} {w : World} {g : Nat} {cs : List Value} (h : BkA T w g cs) : g < w.heap.size := (Array.getElem?_eq_some_iff.1 h).1
theorem BkA.belowB {T : TypeId} {w w' : World} {g B : Nat} {cs : List Value} (h : BkA T w g cs) (hb : Below B w w') (hg : g < B) : BkA T w' g cs := (hb.block g hg).trans h
theorem BkA.below {T : TypeId} {w w' : World} {g : Nat} {cs : List Value} (h : BkA T w g cs) (hb : Below w.heap.size w w') : BkA T w' g cs := h.belowB hb h.lt
theorem BkA.at {T : TypeId} {w : World} {g : Nat} {cs : List Value} (h : BkA T w g cs) (i : Nat) {v : Value} (hv : cs[i]? = some v) : w.cell? ⟨g, i, none⟩ = some v := by
  unfold BkA at h
  rw [cell_of_row w g _ _ _ _ h]
  simpa using hv
theorem BkA.frz {T : TypeId} {w : World} {g : Nat} {cs : List Value} (h : BkA T w g cs) (i : Nat) : w.frozen? ⟨g, i, none⟩ = false := by
  unfold BkA at h
  simp [World.frozen?, h]
theorem BkA.set {T : TypeId} {w : World} {g : Nat} {cs : List Value} (h : BkA T w g cs) (i : Nat) (v : Value) : BkA T (w.setCell ⟨g, i, none⟩ v) g (cs.set i v) := by
  have := heap_setCell_same w g i _ _ v h
  rw [List.setIfInBounds_toArray] at this
  exact this
theorem BkA.kept {T : TypeId} {w w' : World} {g : Nat} {cs : List Value} {row : Option Nat} (h : BkA T w g cs) (hg : w.grownBy w' row) (hne : some g ≠ row) : BkA T w' g cs := (hg.block g h.lt hne).trans h
end Go.Proofs.Ytljkmajajcocdaa
