/-
  Calls that leave what was there as it was, as steps of a quiet region. No condition.
  A row (a slice of words and a text) by value; contract of bucketlineref02.Same; callees in regions that draw their order.
  Slices of rows ('RowsAt'); contracts of bucketlinelaw02.Few, xor.vecs.
  Rows that can be read and have as much room as words ('RowsIn'). No condition.
-/
import Derived.Test.YtbcgiodgobmkaaaGreatDoorU1
import Derived.Lib.QuietBelow
import Derived.Test.YtbcgiodgobmkaaaGreatDoorTx
import Derived.Deep.RegionWith
namespace Go.Proofs.YtbcgiodgobmkaaaGreatDoor
open Go.RowKit Go.Sort
set_option linter.unusedVariables false
set_option linter.unusedSimpArgs false
set_option maxRecDepth 4000

/-- A callee in a region that draws its order, in whatever world that region can have come to. -/
theorem quietB {W : World} {f : FuncId} {args : Array Value} {v : Value} (h : ∀ w', Below W.heap.size W w' → Calls Tryz.prog f args w' fun e w'' => e = .returned v ∧ Below w'.heap.size w' w'') (d : Nat) (os : Array Obj) :
    Calls Tryz.prog f args (grow (redrawn W d) os) fun e w'' => e = .returned v ∧ ∃ p : Regrown, w'' = grow (redrawn W p.d) p.os :=
  Calls.regrown_of (h _ (below_regrown W d os))
theorem same_below {f : FuncId} {args : Array Value} {v : Value} {w : World} (h : Calls Tryz.prog f args w fun e w'' => e = .returned v ∧ w'' = w) : Calls Tryz.prog f args w fun e w'' => e = .returned v ∧ Below w.heap.size w w'' :=
  h.mono fun e w' ⟨he, hw⟩ => ⟨he, by rw [hw]; exact Below.refl _ _⟩
end Go.Proofs.YtbcgiodgobmkaaaGreatDoor
namespace Go.Proofs.YtbcgiodgobmkaaaGreatDoor
open Go.RowKit Go.Sort
set_option linter.unusedVariables false
set_option linter.unusedSimpArgs false
set_option maxRecDepth 4000

/-- A block that holds a row. -/
def BoxAt (w : World) (g : Nat) (x y : Value) : Prop := w.cell? ⟨g, 0, none⟩ = some x ∧ w.cell? ⟨g, 1, none⟩ = some y
theorem box_new (w : World) (x y : Value) : BoxAt (w.alloc (.cells #[x, y] 40)) w.heap.size x y := by
  constructor <;> simp
theorem BoxAt.below {w w' : World} {g : Nat} {x y : Value} (h : BoxAt w g x y) (hb : Below w.heap.size w w') : BoxAt w' g x y :=
  ⟨(hb.cell (World.block_lt_of_cell? w _ h.1)).trans h.1, (hb.cell (World.block_lt_of_cell? w _ h.2)).trans h.2⟩
theorem BoxAt.alloc {w : World} {g : Nat} {x y : Value} (h : BoxAt w g x y) (o : Obj) : BoxAt (w.alloc o) g x y := h.below ((Below.refl _ _).alloc (Nat.le_refl _) _)

/-- A block of one's own that holds a row and can be written. -/
def BoxW (w : World) (g : Nat) (x y : Value) : Prop := BoxAt w g x y ∧ w.frozen? ⟨g, 0, none⟩ = false ∧ w.frozen? ⟨g, 1, none⟩ = false
theorem boxW_new (w : World) (x y : Value) : BoxW (w.alloc (.cells #[x, y] 40)) w.heap.size x y := ⟨box_new w x y, by simp, by simp⟩
theorem BoxW.below {w w' : World} {g : Nat} {x y : Value} (h : BoxW w g x y) (hb : Below w.heap.size w w') : BoxW w' g x y :=
  ⟨h.1.below hb, (hb.frozen (World.block_lt_of_cell? w _ h.1.1)).trans h.2.1, (hb.frozen (World.block_lt_of_cell? w _ h.1.2)).trans h.2.2⟩
theorem BoxW.alloc {w : World} {g : Nat} {x y : Value} (h : BoxW w g x y) (o : Obj) : BoxW (w.alloc o) g x y := h.below ((Below.refl _ _).alloc (Nat.le_refl _) _)
theorem BoxW.other {w : World} {g : Nat} {x y : Value} (h : BoxW w g x y) {g' : Nat} (i : Nat) (u : Value) (hg : g' ≠ g) : BoxW (w.setCell ⟨g', i, none⟩ u) g x y := by
  have h0 : (⟨g', i, none⟩ : Addr) ≠ ⟨g, 0, none⟩ := fun h => hg (by injection h)
  have h1 : (⟨g', i, none⟩ : Addr) ≠ ⟨g, 1, none⟩ := fun h => hg (by injection h)
  exact ⟨⟨(World.cell?_setCell_other (h := h0) ..).trans h.1.1, (World.cell?_setCell_other (h := h1) ..).trans h.1.2⟩, by rw [World.frozen?_setCell]; exact h.2.1, by rw [World.frozen?_setCell]; exact h.2.2⟩
theorem block_setCell_other {w : World} {g k i : Nat} (u : Value) (h : k ≠ g) : (w.setCell ⟨g, i, none⟩ u).heap[k]? = w.heap[k]? := by
  unfold World.setCell
  simp [Array.getElem?_modify, Ne.symm h]
theorem Own.other {w : World} {B : Nat} {v : Value} {xs : List Nat} (h : Own w B v xs) {g : Nat} (i : Nat) (u : Value) (hg : g < B) : Own (w.setCell ⟨g, i, none⟩ u) B v xs := by
  refine ⟨h.1, h.2.1, ?_⟩
  rcases h.2.2 with h0 | ⟨g', cap, cur, h1, hg', hgg, r⟩
  · exact .inl h0
  · exact .inr ⟨g', cap, cur, h1, hg', (block_setCell_other u (by omega)).trans hgg, r⟩
theorem BoxW.set0 {w : World} {g : Nat} {x y : Value} (h : BoxW w g x y) (u : Value) : BoxW (w.setCell ⟨g, 0, none⟩ u) g u y :=
  ⟨⟨World.cell?_setCell_same _ _ _ h.1.1, (World.cell?_setCell_other (h := by simp) ..).trans h.1.2⟩, by rw [World.frozen?_setCell]; exact h.2.1, by rw [World.frozen?_setCell]; exact h.2.2⟩
theorem BoxW.set1 {w : World} {g : Nat} {x y : Value} (h : BoxW w g x y) (u : Value) : BoxW (w.setCell ⟨g, 1, none⟩ u) g x u :=
  ⟨⟨(World.cell?_setCell_other (h := by simp) ..).trans h.1.1, World.cell?_setCell_same _ _ _ h.1.2⟩, by rw [World.frozen?_setCell]; exact h.2.1, by rw [World.frozen?_setCell]; exact h.2.2⟩
end Go.Proofs.YtbcgiodgobmkaaaGreatDoor
namespace Go.Proofs.YtbcgiodgobmkaaaGreatDoor
open Go.RowKit Go.Sort
set_option linter.unusedVariables false
set_option linter.unusedSimpArgs false
set_option maxRecDepth 4000

/-- A row as it lies in memory: its slice of words, what it holds, its text. -/
structure RV where
  a : Option Addr
  n : Nat
  c : Nat
  xs : List Nat
  s : ByteArray
/-- What stands behind the end of a list of rows. -/
def RV.dflt : RV := ⟨none, 0, 0, [], ⟨#[]⟩⟩
/-- A slice of n rows that can be read: they are rs. -/
def RowsAt (w : World) (a : Option Addr) (n : Nat) (rs : List RV) : Prop :=
  rs.length = n ∧ (∀ i, i < n → RowAt w (rs.getD i .dflt).a (rs.getD i .dflt).n (rs.getD i .dflt).xs) ∧ (n = 0 ∨ ∃ b off, a = some ⟨b, off, none⟩ ∧
    ∀ i, i < n → w.cell? ⟨b, off + i * 2, none⟩ = some (.slice (rs.getD i .dflt).a (rs.getD i .dflt).n (rs.getD i .dflt).c) ∧ w.cell? ⟨b, off + i * 2 + 1, none⟩ = some (.string (rs.getD i .dflt).s))
theorem RowsAt.at {w : World} {a : Option Addr} {n : Nat} {rs : List RV} (h : RowsAt w a n rs) {i : Nat} (hi : i < n) :
    ∃ b off, a = some ⟨b, off, none⟩ ∧ ∀ i, i < n → w.cell? ⟨b, off + i * 2, none⟩ = some (.slice (rs.getD i .dflt).a (rs.getD i .dflt).n (rs.getD i .dflt).c) ∧ w.cell? ⟨b, off + i * 2 + 1, none⟩ = some (.string (rs.getD i .dflt).s) := by
  rcases h.2.2 with h0 | h0
  · omega
  · exact h0
theorem RowsAt.below {w w' : World} {a : Option Addr} {n : Nat} {rs : List RV} (h : RowsAt w a n rs) (hb : Below w.heap.size w w') : RowsAt w' a n rs := by
  refine ⟨h.1, fun i hi => (h.2.1 i hi).below hb, ?_⟩
  rcases h.2.2 with h0 | ⟨b, off, rfl, hc⟩
  · exact .inl h0
  · exact .inr ⟨b, off, rfl, fun i hi => ⟨(hb.cell (World.block_lt_of_cell? w _ (hc i hi).1)).trans (hc i hi).1, (hb.cell (World.block_lt_of_cell? w _ (hc i hi).2)).trans (hc i hi).2⟩⟩
/-- Rows that are not too long. -/
def shortR (rs : List RV) : Prop := ∀ i, (rs.getD i .dflt).n ≤ 10 ∧ (rs.getD i .dflt).s.size ≤ 1000
def RetI (e : Ending) (P : Prop) : Prop := (e = .returned (.int .i64 1) ∧ P) ∨ (e = .returned (.int .i64 0) ∧ ¬ P)

end Go.Proofs.YtbcgiodgobmkaaaGreatDoor
namespace Go.Proofs.YtbcgiodgobmkaaaGreatDoor
open Go.RowKit Go.Sort
set_option linter.unusedVariables false
set_option linter.unusedSimpArgs false
set_option maxRecDepth 4000

/-- Each of the rows can be read, and has as much room as words. -/
def RowsIn (w : World) (rs : List RV) : Prop := ∀ r ∈ rs, RowAt w r.a r.n r.xs ∧ r.n ≤ r.c
theorem RowsIn.below {w w' : World} {rs : List RV} (h : RowsIn w rs) (hb : Below w.heap.size w w') : RowsIn w' rs := fun r hr => ⟨(h r hr).1.below hb, (h r hr).2⟩
theorem RowsIn.nil (w : World) : RowsIn w [] := fun r hr => by cases hr
theorem RowsIn.append {w : World} {rs ss : List RV} (h : RowsIn w rs) (k : RowsIn w ss) : RowsIn w (rs ++ ss) := fun r hr => (List.mem_append.1 hr).elim (h r) (k r)
theorem RowsIn.get {w : World} {rs : List RV} (h : RowsIn w rs) {i : Nat} (hi : i < rs.length) : RowAt w (rs.getD i .dflt).a (rs.getD i .dflt).n (rs.getD i .dflt).xs ∧ (rs.getD i .dflt).n ≤ (rs.getD i .dflt).c := by
  have := h rs[i] (List.getElem_mem hi)
  rwa [List.getD_eq_getElem?_getD, List.getElem?_eq_getElem hi]
end Go.Proofs.YtbcgiodgobmkaaaGreatDoor
