/-
  What the rows' frames of the store share: its numbers, and a row alone, that came in by value. No condition.
-/
import Derived.Test.YtbfkhioljpgjjaaDoorFY
namespace Go.Proofs.YtbfkhioljpgjjaaDoor
open Go.ChangeShapes Go.WideShapes Go.ChangeAt Go.RowKit
set_option linter.unusedVariables false
set_option maxRecDepth 4000

theorem int_cell {W : World} {H : Type} {enc : TypeId × Value → H} {fuel : Nat} {v : Value} {x : DataW H × List MemPlace}
    (h : DataW.trod enc Tryd.prog W 0 (fun _ => true) true fuel 3 [v] = some x) : ∃ a, v = .int .i64 a := by
  cases fuel with
  | zero => simp [DataW.trod] at h
  | succ fuel =>
    cases v <;> simp [DataW.trod, Tryd.underlying3] at h
    obtain ⟨⟨rfl, _⟩, _⟩ := h
    exact ⟨_, rfl⟩
theorem array3 {α : Type} {cs : Array α} (h : cs.size = 3) : ∃ c0 c1 c2, cs = #[c0, c1, c2] := by
  obtain ⟨l⟩ := cs
  match l, h with
  | [c0, c1, c2], _ => exact ⟨c0, c1, c2, rfl⟩
theorem array2 {α : Type} {cs : Array α} (h : cs.size = 2) : ∃ c0 c1, cs = #[c0, c1] := by
  obtain ⟨l⟩ := cs
  match l, h with
  | [c0, c1], _ => exact ⟨c0, c1, rfl⟩
theorem cellsSz : Tryd.prog.cellsOf 23 = 3 := by kernel_rfl
theorem cellsRw : Tryd.prog.cellsOf 36 = 2 := by kernel_rfl
theorem some_of {α : Type} {l : List α} {i : Nat} (h : i < l.length) : ∃ y, l[i]? = some y := ⟨_, List.getElem?_eq_getElem h⟩
/-- The numbers of a store, that came in by value. -/
theorem size_of {W : World} {H : Type} {enc : TypeId × Value → H} {base : Nat} {v : Value} {d : DataW H} {ps : List MemPlace} (hv : Value.okWide Tryd.prog W .any base 23 v)
    (h : DataW.Trod enc Tryd.prog W 0 (fun _ => true) true 23 v d ps) :
    ∃ (k z m : Int), v = .agg #[.int .i64 k, .int .i64 z, .int .i64 m] := by
  obtain ⟨cs, rfl, hsz⟩ := okWide_struct Tryd.underlying23 hv
  obtain ⟨c0, c1, c2, rfl⟩ := array3 (hsz.trans cellsSz)
  obtain ⟨fuel, hf⟩ := h
  obtain ⟨ys, n, _, _, _, hlen, hf⟩ := DataW.trod_struct Tryd.underlying23 hf
  have hl : ys.length = 3 := hlen
  obtain ⟨y0, e0⟩ := some_of (l := ys) (i := 0) (by omega)
  obtain ⟨y1, e1⟩ := some_of (l := ys) (i := 1) (by omega)
  obtain ⟨y2, e2⟩ := some_of (l := ys) (i := 2) (by omega)
  have f0 := (hf 0 _ rfl).trans e0
  have f1 := (hf 1 _ rfl).trans e1
  have f2 := (hf 2 _ rfl).trans e2
  simp only [Value.cells] at f0 f1 f2
  obtain ⟨k, rfl⟩ := int_cell f0
  obtain ⟨z, rfl⟩ := int_cell f1
  obtain ⟨m, rfl⟩ := int_cell f2
  exact ⟨k, z, m, rfl⟩
/-- A row that came in by value. -/
theorem rowv_of {W : World} {H : Type} {enc : TypeId × Value → H} {base : Nat} {v : Value} {d : DataW H} {ps : List MemPlace} (hv : Value.okWide Tryd.prog W .any base 36 v)
    (h : DataW.Trod enc Tryd.prog W 0 (fun _ => true) true 36 v d ps) :
    ∃ (a : Option Addr) (n c : Nat) (xs : List Nat) (s : ByteArray), v = .agg #[.slice a n c, .string s] ∧ RowAt W a n xs := by
  obtain ⟨cs, rfl, hsz⟩ := okWide_struct Tryd.underlying36 hv
  obtain ⟨c0, c1, rfl⟩ := array2 (hsz.trans cellsRw)
  obtain ⟨fuel, hf⟩ := h
  obtain ⟨ys, n, _, _, _, hlen, hf⟩ := DataW.trod_struct Tryd.underlying36 hf
  have hl : ys.length = 2 := hlen
  obtain ⟨y0, e0⟩ := some_of (l := ys) (i := 0) (by omega)
  obtain ⟨y1, e1⟩ := some_of (l := ys) (i := 1) (by omega)
  have f0 := (hf 0 _ rfl).trans e0
  have f1 := (hf 1 _ rfl).trans e1
  simp only [Value.cells] at f0 f1
  obtain ⟨a, l, c, xs, rfl, hr, _, _⟩ := row_cells f0
  obtain ⟨s, rfl, _⟩ := str_cell f1
  exact ⟨a, l, c, xs, s, rfl, hr⟩
end Go.Proofs.YtbfkhioljpgjjaaDoor
