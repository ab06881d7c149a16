/-
  A row (a slice of words and a text) by value; contract of bucketlineref02.Same; callees in regions that draw their order.
-/
import Derived.Test.YtcbcaiaagenjcaaDoorTx
import Derived.Deep.RegionWith
import Derived.Lib.QuietBelow
namespace Go.Proofs.YtcbcaiaagenjcaaDoor
open Go.RowKit Go.Sort
set_option linter.unusedVariables false
set_option maxRecDepth 4000

/-- A block that holds a row. -/
def BoxAt (w : World) (g : Nat) (x y : Value) : Prop := w.cell? ⟨g, 0, none⟩ = some x ∧ w.cell? ⟨g, 1, none⟩ = some y
theorem box_new (w : World) (x y : Value) : BoxAt (w.alloc (.cells #[x, y] 36)) w.heap.size x y := by
  constructor <;> simp
theorem BoxAt.below {w w' : World} {g : Nat} {x y : Value} (h : BoxAt w g x y) (hb : Below w.heap.size w w') : BoxAt w' g x y :=
  ⟨(hb.cell (World.block_lt_of_cell? w _ h.1)).trans h.1, (hb.cell (World.block_lt_of_cell? w _ h.2)).trans h.2⟩
theorem BoxAt.alloc {w : World} {g : Nat} {x y : Value} (h : BoxAt w g x y) (o : Obj) : BoxAt (w.alloc o) g x y := h.below ((Below.refl _ _).alloc (Nat.le_refl _) _)

set_option maxHeartbeats 400000 in
theorem rsame2_any (a : Option Addr) (n c : Nat) (xs : List Nat) (s : ByteArray) (a' : Option Addr) (m c' : Nat) (ys : List Nat) (t : ByteArray) (w : World) (h : RowAt w a n xs) (h' : RowAt w a' m ys) (hn : n ≤ 1048576) (hm : m ≤ 1048576) :
    Calls Tryd.prog 30 #[.agg #[.slice a n c, .string s], .agg #[.slice a' m c', .string t]] w fun e w' => e = .returned (.bool (decide (cnt (xorL xs ys) = 0) && decide (s = t))) ∧ Below w.heap.size w w' := by
  have hst := eq_texts s t
  have H := hide h
  have H' := hide h'
  clear h h'
  go_enter Tryd.func30, Tryd.ntmps30
  go_wp2_with fail
  refine (rsame_any a n c xs a' m c' ys _ (row_alloc (row_alloc (unhide H) _) _) (row_alloc (row_alloc (unhide H') _) _) hn hm).mono ?_
  rintro e w1 ⟨rfl, hb⟩
  have hx1 := ((box_new w (.slice a n c) (.string s)).alloc (.cells #[.slice a' m c', .string t] 36)).below hb
  have hx2 := (box_new (w.alloc (.cells #[.slice a n c, .string s] 36)) (.slice a' m c') (.string t)).below hb
  rw [alloc_size] at hx2
  obtain ⟨_, hc1⟩ := hx1
  obtain ⟨_, hc2⟩ := hx2
  have HB := hide (below2 (Below.refl _ w) hb)
  clear hb
  cases hd : decide (cnt (xorL xs ys) = 0)
  · go_wp2
    go_ret
    exact ⟨ret_bool (by rw [hd]; rfl), unhide HB⟩
  · go_wp2
    go_ret
    exact ⟨ret_bool (by rw [hd]; rfl), unhide HB⟩

/-- A callee in a region that draws its order, in whatever world that region can have come to. -/
theorem quietB {W : World} {f : FuncId} {args : Array Value} {v : Value} (h : ∀ w', Below W.heap.size W w' → Calls Tryd.prog f args w' fun e w'' => e = .returned v ∧ Below w'.heap.size w' w'') (d : Nat) (os : Array Obj) :
    Calls Tryd.prog f args (grow (redrawn W d) os) fun e w'' => e = .returned v ∧ ∃ p : Regrown, w'' = grow (redrawn W p.d) p.os :=
  Calls.regrown_of (h _ (below_regrown W d os))
theorem same_below {f : FuncId} {args : Array Value} {v : Value} {w : World} (h : Calls Tryd.prog f args w fun e w'' => e = .returned v ∧ w'' = w) : Calls Tryd.prog f args w fun e w'' => e = .returned v ∧ Below w.heap.size w w'' :=
  h.mono fun e w' ⟨he, hw⟩ => ⟨he, by rw [hw]; exact Below.refl _ _⟩
end Go.Proofs.YtcbcaiaagenjcaaDoor
