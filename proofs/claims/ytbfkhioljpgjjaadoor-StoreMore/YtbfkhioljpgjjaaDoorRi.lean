/-
  Rows that can be read and have as much room as words ('RowsIn'). No condition.
-/
import Derived.Test.YtbfkhioljpgjjaaDoorXF
namespace Go.Proofs.YtbfkhioljpgjjaaDoor
open Go.RowKit Go.Sort
set_option linter.unusedVariables false
set_option maxRecDepth 4000

/-- Each of the rows can be read, and has as much room as words. -/
def RowsIn (w : World) (rs : List RV) : Prop := ∀ r ∈ rs, RowAt w r.a r.n r.xs ∧ r.n ≤ r.c
theorem RowsIn.below {w w' : World} {rs : List RV} (h : RowsIn w rs) (hb : Below w.heap.size w w') : RowsIn w' rs := fun r hr => ⟨(h r hr).1.below hb, (h r hr).2⟩
theorem RowsIn.nil (w : World) : RowsIn w [] := fun r hr => by cases hr
theorem RowsIn.append {w : World} {rs ss : List RV} (h : RowsIn w rs) (k : RowsIn w ss) : RowsIn w (rs ++ ss) := fun r hr => (List.mem_append.1 hr).elim (h r) (k r)
theorem RowsIn.one {w : World} {r : RV} (h : RowAt w r.a r.n r.xs) (hc : r.n ≤ r.c) : RowsIn w [r] := fun x hx => by rw [List.mem_singleton.1 hx]; exact ⟨h, hc⟩
theorem RowsIn.get {w : World} {rs : List RV} (h : RowsIn w rs) {i : Nat} (hi : i < rs.length) : RowAt w (rs.getD i .dflt).a (rs.getD i .dflt).n (rs.getD i .dflt).xs ∧ (rs.getD i .dflt).n ≤ (rs.getD i .dflt).c := by
  have := h rs[i] (List.getElem_mem hi)
  rwa [List.getD_eq_getElem?_getD, List.getElem?_eq_getElem hi]
end Go.Proofs.YtbfkhioljpgjjaaDoor
