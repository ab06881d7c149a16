/-
  What the rows' frames share: the table of math/bits as the rows list it; what slices of texts and of rows that came in hold. No condition.
-/
import Derived.Test.YtjppopabjfncpaaDoorRw
import Derived.Test.YtjppopabjfncpaaDoorM2
import Derived.Test.YtjppopabjfncpaaDoorM1
import Derived.Test.YtjppopabjfncpaaDoorYK
import Derived.ProofKit
import Derived.OpenShut
import Derived.ShutString
import Derived.ChangeOld
import Derived.ChangeMaps5
import Derived.SliceStrings
import Derived.Deep.SlicePairs
import Derived.Deep.DeepHandedRow
import Derived.Lib.LaidTab
import Derived.Below
namespace Go.Proofs.YtjppopabjfncpaaDoor
open Go.ChangeShapes Go.WideShapes Go.ChangeAt Go.RowKit
set_option linter.unusedVariables false
set_option maxRecDepth 4000

theorem own : ownKnob Tryd.prog.godebug = none := by kernel_rfl
theorem laidOut : laidOutB Tryd.prog = true := by kernel_rfl
theorem gTab : Tryd.prog.globalNamed "math/bits.deBruijn64tab" = some 0 := by kernel_rfl
theorem gTabType : (Tryd.prog.globals[0]?).map (·.type) = some 101 := by kernel_rfl
theorem cellsTab : Tryd.prog.cellsOf 101 = 64 := by kernel_rfl
theorem cells5 : Tryd.prog.cellsOf 5 = 1 := by kernel_rfl

theorem table {W : World} (h : laidMetH Tryd.prog Rows.gaussSolvesRow.laid W) : Lib.TabIs Tryd.prog W "math/bits.deBruijn64tab" .u8 (Lib.deBruijn64tab.map fun (x : Nat) => (x : Int)) :=
  Lib.tabIs_of_head (rest := []) gTab gTabType Tryd.underlying101 Tryd.underlying5 cells5 cellsTab h
theorem tab_of {W : World} (h : laidMetH Tryd.prog Rows.gaussSolvesRow.laid W) : Tab W := by
  intro i hi
  have hl : (Lib.deBruijn64tab.map fun (x : Nat) => (x : Int)).length = 64 := by decide
  have := (table h).cell gTab i (by omega)
  rw [this]
  have hd : Lib.deBruijn64tab.length = 64 := by decide
  have e : i < Lib.deBruijn64tab.length := by omega
  simp [List.getD_eq_getElem?_getD, List.getElem?_eq_getElem e]
theorem add_none (b off i : Nat) : (⟨b, off, none⟩ : Addr).add i = ⟨b, off + i, none⟩ := by
  unfold Addr.add
  split
  · rename_i h; simp_all
  · rfl
theorem max_len {n : Nat} (h : n ≤ maxLen) : n ≤ 9223372036854775807 := by simpa [maxLen] using h

/-- A slice of uint64 that came in can be read. -/
theorem row_cells {W : World} {H : Type} {enc : TypeId × Value → H} {fuel : Nat} {v : Value} {x : DataW H × List MemPlace}
    (h : DataW.trod enc Tryd.prog W 0 (fun _ => true) true fuel 35 [v] = some x) : ∃ a len cap xs, v = .slice a len cap ∧ RowAt W a len xs ∧ len ≤ 9223372036854775807 ∧ len ≤ cap := by
  rcases open_ints Tryd.underlying35 Tryd.underlying33 (by kernel_rfl) h with ⟨hcs, _⟩ | ⟨x, l, c, zs, hcs, _, hl, hm, hz, _, hcell, hwz⟩
  · simp only [List.cons.injEq, and_true] at hcs
    exact ⟨_, _, _, [], hcs, ⟨rfl, (fun _ h => by cases h), .inl rfl⟩, by decide, Nat.le_refl _⟩
  · simp only [List.cons.injEq, and_true] at hcs
    have hzl : zs.length = c := by simpa using hz
    have hb : ∀ z ∈ zs, 0 ≤ z ∧ z < 18446744073709551616 := by
      intro z hzm
      have := bounds_u64 (hwz z hzm)
      omega
    refine ⟨_, _, _, (zs.take l).map Int.toNat, hcs, ⟨by simp; omega, ?_, ?_⟩, by have := max_len hm; omega, hl⟩
    · intro y hy
      obtain ⟨z, hzm, rfl⟩ := List.mem_map.1 hy
      have := hb z (List.mem_of_mem_take hzm)
      show z.toNat < 18446744073709551616
      omega
    · by_cases h0 : l = 0
      · exact .inl h0
      · obtain ⟨b, off, spot⟩ := x
        have hc := hcell 0 (by omega)
        have hspot : spot = none := by simpa [Addr.add] using World.cell?_spot hc
        subst hspot
        refine .inr ⟨b, off, rfl, fun i hi => ?_⟩
        have hci := hcell i (by omega)
        rw [add_none] at hci
        rw [hci]
        have hil : i < zs.length := by omega
        have hzi := hb zs[i] (List.getElem_mem hil)
        have e1 : zs.getD i 0 = zs[i] := by simp [List.getD_eq_getElem?_getD, List.getElem?_eq_getElem hil]
        have e2 : ((zs.take l).map Int.toNat).getD i 0 = zs[i].toNat := by
          simp [List.getD_eq_getElem?_getD, hi, List.getElem?_eq_getElem hil]
        rw [e1, e2]
        rw [show ((zs[i].toNat : Nat) : Int) = zs[i] by omega]
/-- A slice of texts that came in can be read. -/
theorem texts_of {W : World} {H : Type} {enc : TypeId × Value → H} {a : Option Addr} {len cap : Nat} {d : DataW H} {ps : List MemPlace}
    (h : DataW.Trod enc Tryd.prog W 0 (fun _ => true) true 25 (.slice a len cap) d ps) : ∃ ss, TextsAt W a len ss ∧ len ≤ 9223372036854775807 := by
  obtain ⟨fuel, hf⟩ := h
  rcases open_strings Tryd.underlying25 Tryd.underlying9 (by kernel_rfl) hf with ⟨hcs, _⟩ | ⟨x, l, c, zs, hcs, _, hl, hm, hz, _, hcell, _⟩
  · simp [Value.cells] at hcs
    obtain ⟨rfl, rfl, rfl⟩ := hcs
    exact ⟨[], ⟨rfl, .inl rfl⟩, by decide⟩
  · simp [Value.cells] at hcs
    obtain ⟨rfl, rfl, rfl⟩ := hcs
    have hzl : zs.length = cap := by simpa using hz
    refine ⟨zs.take len, ⟨by simp; omega, ?_⟩, by have := max_len hm; omega⟩
    by_cases h0 : len = 0
    · exact .inl h0
    · obtain ⟨b, off, spot⟩ := x
      have hc := hcell 0 (by omega)
      have hspot : spot = none := by simpa [Addr.add] using World.cell?_spot hc
      subst hspot
      refine .inr ⟨b, off, rfl, fun i hi => ?_⟩
      have hci := hcell i (by omega)
      rw [add_none] at hci
      rw [hci]
      simp [List.getD_eq_getElem?_getD, hi]
theorem str_cell {W : World} {H : Type} {enc : TypeId × Value → H} {fuel : Nat} {v : Value} {x : DataW H × List MemPlace}
    (h : DataW.trod enc Tryd.prog W 0 (fun _ => true) true fuel 9 [v] = some x) : ∃ s, v = .string s ∧ s.size ≤ 9223372036854775807 := by
  cases fuel with
  | zero => simp [DataW.trod] at h
  | succ fuel =>
    cases v <;> simp [DataW.trod, Tryd.underlying9] at h
    exact ⟨_, rfl, max_len h.1⟩
theorem list_of (P : Nat → RV → Prop) : ∀ n, (∀ i, i < n → ∃ r, P i r) → ∃ rs : List RV, rs.length = n ∧ ∀ i, i < n → P i (rs.getD i .dflt)
  | 0, _ => ⟨[], rfl, fun i hi => by omega⟩
  | n + 1, h => by
    obtain ⟨rs, hl, hr⟩ := list_of P n (fun i hi => h i (by omega))
    obtain ⟨r, hp⟩ := h n (by omega)
    refine ⟨rs ++ [r], by simp [hl], fun i hi => ?_⟩
    by_cases e : i < n
    · have := hr i e
      rwa [show (rs ++ [r]).getD i .dflt = rs.getD i .dflt from by simp [List.getD_eq_getElem?_getD, List.getElem?_append_left (show i < rs.length by omega)]]
    · obtain rfl : i = n := by omega
      rwa [show (rs ++ [r]).getD i .dflt = r from by simp [List.getD_eq_getElem?_getD, ← hl]]
/-- A slice of rows that came in can be read. -/
theorem rows_of {W : World} {H : Type} {enc : TypeId × Value → H} {a : Option Addr} {len cap : Nat} {d : DataW H} {ps : List MemPlace}
    (h : DataW.Trod enc Tryd.prog W 0 (fun _ => true) true 22 (.slice a len cap) d ps) : ∃ rs, RowsAt W a len rs ∧ len ≤ 9223372036854775807 ∧ len ≤ cap ∧ cap ≤ 9223372036854775807 ∧
      (∀ i, (rs.getD i .dflt).n ≤ 9223372036854775807 ∧ (rs.getD i .dflt).s.size ≤ 9223372036854775807) ∧ CapR rs := by
  obtain ⟨fuel, hf⟩ := h
  rcases Go.Deep.open_slice_pairs Tryd.underlying22 Tryd.underlying37 (by kernel_rfl) rfl rfl (by kernel_rfl) (by kernel_rfl) hf with ⟨hcs, _⟩ | ⟨x, l, c, m, n, V0, V1, D0, D1, P0, P1, hcs, _, hl, hm, hmm, _, hx⟩
  · simp [Value.cells] at hcs
    obtain ⟨rfl, rfl, rfl⟩ := hcs
    exact ⟨[], ⟨rfl, fun i hi => by omega, .inl rfl⟩, by decide, by decide, by decide, fun i => ⟨Nat.zero_le _, Nat.zero_le _⟩, fun i hi => by simp at hi⟩
  · simp [Value.cells] at hcs
    obtain ⟨rfl, rfl, rfl⟩ := hcs
    have hmc : m = cap := by simpa using hmm
    have hcap := max_len hm
    obtain ⟨rs, hrl, hr⟩ := list_of (fun i r => V0 i = .slice r.a r.n r.c ∧ RowAt W r.a r.n r.xs ∧ (r.n ≤ 9223372036854775807 ∧ r.n ≤ r.c) ∧ V1 i = .string r.s ∧ r.s.size ≤ 9223372036854775807) len (fun i hi => by
      obtain ⟨_, _, h0, h1⟩ := hx i (by omega)
      obtain ⟨a', l', c', xs, e0, hrow, hl', hc'⟩ := row_cells h0
      obtain ⟨s, e1, hs⟩ := str_cell h1
      exact ⟨⟨a', l', c', xs, s⟩, e0, hrow, ⟨hl', hc'⟩, e1, hs⟩)
    refine ⟨rs, ⟨hrl, fun i hi => (hr i hi).2.1, ?_⟩, by omega, hl, hcap, fun i => ?_, fun i hi => (hr i (by omega)).2.2.1.2⟩
    · by_cases h0 : len = 0
      · exact .inl h0
      · obtain ⟨b, off, spot⟩ := x
        have hc := (hx 0 (by omega)).1
        have hspot : spot = none := by simpa [Addr.add] using World.cell?_spot hc
        subst hspot
        refine .inr ⟨b, off, rfl, fun i hi => ?_⟩
        obtain ⟨g0, g1, _, _⟩ := hx i (by omega)
        rw [add_none] at g0 g1
        rw [(hr i hi).1] at g0
        rw [(hr i hi).2.2.2.1] at g1
        exact ⟨g0, g1⟩
    · by_cases hi : i < len
      · exact ⟨(hr i hi).2.2.1.1, (hr i hi).2.2.2.2⟩
      · rw [List.getD_eq_getElem?_getD, List.getElem?_eq_none (by omega)]
        exact ⟨Nat.zero_le _, Nat.zero_le _⟩
end Go.Proofs.YtjppopabjfncpaaDoor
