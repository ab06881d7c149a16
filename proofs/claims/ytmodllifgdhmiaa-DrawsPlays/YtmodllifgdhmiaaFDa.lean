/-
  What a slice of asks (two ints each) that came in holds. No condition.
-/
import Derived.Test.YtmodllifgdhmiaaFD
import Derived.Test.YtmodllifgdhmiaaDI
import Derived.Deep.SlicePairs
namespace Go.Proofs.Ytmodllifgdhmiaa
open Go.ChangeShapes Go.WideShapes Go.ChangeAt Go.RowKit
set_option linter.unusedVariables false
set_option maxRecDepth 4000

theorem int_cell {W : World} {H : Type} {enc : TypeId × Value → H} {fuel : Nat} {v : Value} {x : DataW H × List MemPlace}
    (h : DataW.trod enc Try.prog W 0 (fun _ => true) true fuel 3 [v] = some x) : ∃ z : Int, v = .int .i64 z ∧ z ≤ 9223372036854775807 := by
  cases fuel with
  | zero => simp [DataW.trod] at h
  | succ fuel =>
    cases v <;> simp [DataW.trod, Try.underlying3] at h
    obtain ⟨⟨rfl, hw⟩, _⟩ := h
    exact ⟨_, rfl, (bounds_i64 hw).2⟩
theorem asks_list (P : Nat → Int × Int → Prop) : ∀ n, (∀ i, i < n → ∃ r, P i r) → ∃ rs : List (Int × Int), rs.length = n ∧ ∀ i, i < n → P i (rs.getD i default)
  | 0, _ => ⟨[], rfl, fun i hi => by omega⟩
  | n + 1, h => by
    obtain ⟨rs, hl, hr⟩ := asks_list P n (fun i hi => h i (by omega))
    obtain ⟨r, hp⟩ := h n (by omega)
    refine ⟨rs ++ [r], by simp [hl], fun i hi => ?_⟩
    by_cases e : i < n
    · have := hr i e
      rwa [show (rs ++ [r]).getD i default = rs.getD i default from by simp [List.getD_eq_getElem?_getD, List.getElem?_append_left (show i < rs.length by omega)]]
    · obtain rfl : i = n := by omega
      rwa [show (rs ++ [r]).getD i default = r from by simp [List.getD_eq_getElem?_getD, ← hl]]
/-- A slice of asks that came in can be read. -/
theorem asks_of {W : World} {H : Type} {enc : TypeId × Value → H} {a : Option Addr} {len cap : Nat} {d : DataW H} {ps : List MemPlace}
    (h : DataW.Trod enc Try.prog W 0 (fun _ => true) true 23 (.slice a len cap) d ps) : ∃ qs, AsksAt W a len qs ∧ len ≤ 9223372036854775807 := by
  obtain ⟨fuel, hf⟩ := h
  rcases Go.Deep.open_slice_pairs Try.underlying23 Try.underlying31 (by kernel_rfl) rfl rfl (by kernel_rfl) (by kernel_rfl) hf with ⟨hcs, _⟩ | ⟨x, l, c, m, n, V0, V1, D0, D1, P0, P1, hcs, _, hl, hm, hmm, _, hx⟩
  · simp [Value.cells] at hcs
    obtain ⟨rfl, rfl, rfl⟩ := hcs
    exact ⟨[], ⟨rfl, fun i hi => by omega, .inl rfl⟩, by decide⟩
  · simp [Value.cells] at hcs
    obtain ⟨rfl, rfl, rfl⟩ := hcs
    have hmc : m = cap := by simpa using hmm
    have hcap := max_len hm
    obtain ⟨rs, hrl, hr⟩ := asks_list (fun i r => V0 i = .int .i64 r.1 ∧ V1 i = .int .i64 r.2 ∧ r.1 ≤ 9223372036854775807) len (fun i hi => by
      obtain ⟨_, _, h0, h1⟩ := hx i (by omega)
      obtain ⟨y, e0, hy⟩ := int_cell h0
      obtain ⟨z, e1, _⟩ := int_cell h1
      exact ⟨(y, z), e0, e1, hy⟩)
    refine ⟨rs, ⟨hrl, fun i hi => (hr i hi).2.2, ?_⟩, by omega⟩
    by_cases h0 : len = 0
    · exact .inl h0
    · obtain ⟨b, off, spot⟩ := x
      have hc := (hx 0 (by omega)).1
      have hspot : spot = none := by simpa [Addr.add] using World.cell?_spot hc
      subst hspot
      refine .inr ⟨b, off, rfl, fun i hi => ?_⟩
      obtain ⟨g0, g1, _, _⟩ := hx i (by omega)
      rw [add_none] at g0 g1
      rw [(hr i hi).1] at g0
      rw [(hr i hi).2.1] at g1
      exact ⟨g0, g1⟩
end Go.Proofs.Ytmodllifgdhmiaa
