/-
  What the frames of the members' rows share: a word by value, a slice of words that came in. No condition.
-/
import Derived.Test.YtnjoieboaioeiaaMK
import Derived.ProofKit
import Derived.OpenShut
import Derived.ShutString
import Derived.ChangeOld
import Derived.ChangeMaps5
import Derived.Below
import Derived.Deep.SlicePairs
namespace Go.Proofs.Ytnjoieboaioeiaa
open Go.ChangeShapes Go.WideShapes Go.ChangeAt Go.RowKit
set_option linter.unusedVariables false
set_option maxRecDepth 4000

theorem own : ownKnob Try.prog.godebug = none := by kernel_rfl
theorem laidOut : laidOutB Try.prog = true := by kernel_rfl
theorem add_none (b off i : Nat) : (⟨b, off, none⟩ : Addr).add i = ⟨b, off + i, none⟩ := by
  unfold Addr.add
  split
  · rename_i h; simp_all
  · rfl
theorem max_len {n : Nat} (h : n ≤ maxLen) : n ≤ 9223372036854775807 := by simpa [maxLen] using h
theorem int_cell {W : World} {H : Type} {enc : TypeId × Value → H} {fuel : Nat} {v : Value} {x : DataW H × List MemPlace}
    (h : DataW.trod enc Try.prog W 0 (fun _ => true) true fuel 3 [v] = some x) : ∃ a, v = .int .i64 a := by
  cases fuel with
  | zero => simp [DataW.trod] at h
  | succ fuel =>
    cases v <;> simp [DataW.trod, Try.underlying3] at h
    obtain ⟨⟨rfl, _⟩, _⟩ := h
    exact ⟨_, rfl⟩
theorem array3 {α : Type} {cs : Array α} (h : cs.size = 3) : ∃ c0 c1 c2, cs = #[c0, c1, c2] := by
  obtain ⟨l⟩ := cs
  match l, h with
  | [c0, c1, c2], _ => exact ⟨c0, c1, c2, rfl⟩
theorem some_of {α : Type} {l : List α} {i : Nat} (h : i < l.length) : ∃ y, l[i]? = some y := ⟨_, List.getElem?_eq_getElem h⟩
theorem cellsWd : Try.prog.cellsOf 32 = 3 := by kernel_rfl
/-- Three cells that are a word. -/
theorem word_cells {W : World} {H : Type} {enc : TypeId × Value → H} {fuel : Nat} {cs : List Value} {x : DataW H × List MemPlace} (hl3 : cs.length = 3)
    (h : DataW.trod enc Try.prog W 0 (fun _ => true) true fuel 32 cs = some x) : ∃ k z m : Int, cs = [.int .i64 k, .int .i64 z, .int .i64 m] := by
  match cs, hl3 with
  | [c0, c1, c2], _ =>
    obtain ⟨ys, n, _, _, _, hlen, hf⟩ := DataW.trod_struct Try.underlying32 h
    have hl : ys.length = 3 := hlen
    obtain ⟨y0, e0⟩ := some_of (l := ys) (i := 0) (by omega)
    obtain ⟨y1, e1⟩ := some_of (l := ys) (i := 1) (by omega)
    obtain ⟨y2, e2⟩ := some_of (l := ys) (i := 2) (by omega)
    have f0 := (hf 0 _ rfl).trans e0
    have f1 := (hf 1 _ rfl).trans e1
    have f2 := (hf 2 _ rfl).trans e2
    obtain ⟨k, rfl⟩ := int_cell f0
    obtain ⟨z, rfl⟩ := int_cell f1
    obtain ⟨m, rfl⟩ := int_cell f2
    exact ⟨k, z, m, rfl⟩
/-- A word that came in by value. -/
theorem word_of {W : World} {H : Type} {enc : TypeId × Value → H} {base : Nat} {v : Value} {d : DataW H} {ps : List MemPlace} (hv : Value.okWide Try.prog W .any base 32 v)
    (h : DataW.Trod enc Try.prog W 0 (fun _ => true) true 32 v d ps) :
    ∃ (k z m : Int), v = .agg #[.int .i64 k, .int .i64 z, .int .i64 m] := by
  obtain ⟨cs, rfl, hsz⟩ := okWide_struct Try.underlying32 hv
  obtain ⟨c0, c1, c2, rfl⟩ := array3 (hsz.trans cellsWd)
  obtain ⟨fuel, hf⟩ := h
  obtain ⟨k, z, m, e⟩ := word_cells (cs := [c0, c1, c2]) rfl hf
  simp only [List.cons.injEq, and_true] at e
  obtain ⟨rfl, rfl, rfl⟩ := e
  exact ⟨k, z, m, rfl⟩
theorem list_of3 (Q : Nat → Int × Int × Int → Prop) : ∀ n, (∀ i, i < n → ∃ r, Q i r) → ∃ rs : List (Int × Int × Int), rs.length = n ∧ ∀ i, i < n → Q i (rs.getD i default)
  | 0, _ => ⟨[], rfl, fun i hi => by omega⟩
  | n + 1, h => by
    obtain ⟨rs, hl, hr⟩ := list_of3 Q n (fun i hi => h i (by omega))
    obtain ⟨r, hp⟩ := h n (by omega)
    refine ⟨rs ++ [r], by simp [hl], fun i hi => ?_⟩
    by_cases e : i < n
    · have := hr i e
      rwa [show (rs ++ [r]).getD i default = rs.getD i default from by simp [List.getD_eq_getElem?_getD, List.getElem?_append_left (show i < rs.length by omega)]]
    · obtain rfl : i = n := by omega
      rwa [show (rs ++ [r]).getD i default = r from by simp [List.getD_eq_getElem?_getD, ← hl]]
/-- A slice of words that came in can be read. -/
theorem words_of {W : World} {H : Type} {enc : TypeId × Value → H} {a : Option Addr} {len cap : Nat} {d : DataW H} {ps : List MemPlace}
    (h : DataW.Trod enc Try.prog W 0 (fun _ => true) true 22 (.slice a len cap) d ps) : ∃ qs, WdsAt W a len qs ∧ len ≤ 9223372036854775807 := by
  obtain ⟨fuel, hf⟩ := h
  rcases Go.Deep.open_slice Try.underlying22 hf with ⟨hcs, _⟩ | ⟨x, l, c, m, n, D, Pl, hcs, _, hl, hm, hmm, _, hx⟩
  · simp [Value.cells] at hcs
    obtain ⟨rfl, rfl, rfl⟩ := hcs
    exact ⟨[], ⟨rfl, .inl rfl⟩, by decide⟩
  · simp [Value.cells] at hcs
    obtain ⟨rfl, rfl, rfl⟩ := hcs
    have hmc : m = cap := by simpa using hmm
    have hcap := max_len hm
    obtain ⟨qs, hql, hq⟩ := list_of3 (fun i q => ∀ j u, [(.int .i64 q.1 : Value), .int .i64 q.2.1, .int .i64 q.2.2][j]? = some u → W.cell? ((x.add (i * 3)).add j) = some u) len (fun i hi => by
      obtain ⟨cs', h1, h2⟩ := hx i (by omega)
      rw [cellsWd] at h1
      obtain ⟨_, hlen, hcell⟩ := World.cells?_some h1
      obtain ⟨k, z, m, rfl⟩ := word_cells hlen h2
      exact ⟨(k, z, m), fun j u hj => (hcell j (by have := (List.getElem?_eq_some_iff.1 hj).1; simpa using this)).trans hj⟩)
    refine ⟨qs, ⟨hql, ?_⟩, by omega⟩
    by_cases h0 : len = 0
    · exact .inl h0
    · obtain ⟨b, off, spot⟩ := x
      have hc := hq 0 (by omega) 0 _ rfl
      have hspot : spot = none := by simpa [Addr.add] using World.cell?_spot hc
      subst hspot
      refine .inr ⟨b, off, rfl, fun i hi => ?_⟩
      have hc := hq i hi
      refine ⟨?_, ?_, ?_⟩
      · have := hc 0 _ rfl; rwa [add_none, add_none] at this
      · have := hc 1 _ rfl; rwa [add_none, add_none] at this
      · have := hc 2 _ rfl; rwa [add_none, add_none] at this
end Go.Proofs.Ytnjoieboaioeiaa
