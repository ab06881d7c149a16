/-
  Memory of which only some blocks have turned ('Tu'). No condition.
-/
import Derived.Test.YtljkmajajcocdaaU9
namespace Go.Proofs.Ytljkmajajcocdaa
open Go.RowKit
set_option linter.unusedVariables false
set_option linter.unusedSimpArgs false
set_option maxRecDepth 4000

/-- Nothing that was there has turned but blocks of F. -/
structure Tu (F : Nat → Prop) (w w' : World) : Prop where
  os : w'.os = w.os
  tape : w'.tape = w.tape
  output : w'.output = w.output
  size : w.heap.size ≤ w'.heap.size
  block : ∀ k, k < w.heap.size → ¬ F k → w'.heap[k]? = w.heap[k]?
theorem Tu.refl (F : Nat → Prop) (w : World) : Tu F w w := ⟨rfl, rfl, rfl, Nat.le_refl _, fun _ _ _ => rfl⟩
theorem Tu.trans {F G : Nat → Prop} {w w1 w2 : World} (h : Tu F w w1) (k : Tu G w1 w2) (hr : ∀ j, j < w.heap.size → G j → F j) : Tu F w w2 :=
  ⟨k.os.trans h.os, k.tape.trans h.tape, k.output.trans h.output, Nat.le_trans h.size k.size, fun j hj hn => (k.block j (Nat.lt_of_lt_of_le hj h.size) fun hg => hn (hr j hj hg)).trans (h.block j hj hn)⟩
theorem Tu.of_below {F : Nat → Prop} {w w' : World} (h : Below w.heap.size w w') : Tu F w w' := ⟨h.os, h.tape, h.output, h.size, fun j hj _ => h.block j hj⟩
theorem Tu.of_gb {F : Nat → Prop} {w w' : World} {r : Option Nat} (h : w.grownBy w' r) (hr : ∀ j, j < w.heap.size → r = some j → F j) : Tu F w w' :=
  ⟨h.os, h.tape, h.output, h.size, fun j hj hn => h.block j hj fun e => hn (hr j hj e.symm)⟩
theorem Tu.below {F : Nat → Prop} {w w' : World} (h : Tu F w w') {B : Nat} (hB : B ≤ w.heap.size) (hF : ∀ j, j < B → ¬ F j) : Below B w w' :=
  ⟨h.os, h.tape, h.output, h.size, fun j hj => h.block j (Nat.lt_of_lt_of_le hj hB) (hF j hj)⟩
theorem Tu.then {F : Nat → Prop} {w w1 w2 : World} (h : Tu F w w1) (k : Below w1.heap.size w1 w2) : Tu F w w2 := h.trans (Tu.of_below (F := F) k) fun _ _ h => h
end Go.Proofs.Ytljkmajajcocdaa
