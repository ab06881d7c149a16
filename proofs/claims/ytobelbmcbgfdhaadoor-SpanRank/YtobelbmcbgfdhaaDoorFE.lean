/-
  What the rows' frames share: the table of math/bits as the rows list it, and what a slice of rows of words that came in holds. No condition.
-/
import Derived.Test.YtobelbmcbgfdhaaDoorEB
import Derived.ProofKit
import Derived.OpenShut
import Derived.ShutString
import Derived.ChangeOld
import Derived.Below
import Derived.Deep.Matrix
import Derived.Deep.DeepHandedRow
import Derived.Lib.LaidTab
namespace Go.Proofs.YtobelbmcbgfdhaaDoor
open Go.ChangeShapes Go.WideShapes Go.ChangeAt Go.RowKit
set_option linter.unusedVariables false

theorem own : ownKnob Tryd.prog.godebug = none := by kernel_rfl
theorem laidOut : laidOutB Tryd.prog = true := by kernel_rfl
theorem gTab : Tryd.prog.globalNamed "math/bits.deBruijn64tab" = some 0 := by kernel_rfl
theorem gTabType : (Tryd.prog.globals[0]?).map (·.type) = some 55 := by kernel_rfl
theorem cellsTab : Tryd.prog.cellsOf 55 = 64 := by kernel_rfl
theorem cells5 : Tryd.prog.cellsOf 5 = 1 := by kernel_rfl

theorem table {W : World} (h : laidMetH Tryd.prog Rows.spanKeepsRow.laid W) : Lib.TabIs Tryd.prog W "math/bits.deBruijn64tab" .u8 (Lib.deBruijn64tab.map fun (x : Nat) => (x : Int)) :=
  Lib.tabIs_of_head (rest := []) gTab gTabType Tryd.underlying55 Tryd.underlying5 cells5 cellsTab h
theorem tab_of {W : World} (h : laidMetH Tryd.prog Rows.spanKeepsRow.laid W) : Tab W := by
  intro i hi
  have hl : (Lib.deBruijn64tab.map fun (x : Nat) => (x : Int)).length = 64 := by decide
  have := (table h).cell gTab i (by omega)
  rw [this]
  have hd : Lib.deBruijn64tab.length = 64 := by decide
  have e : i < Lib.deBruijn64tab.length := by omega
  simp [List.getD_eq_getElem?_getD, List.getElem?_eq_getElem e]

theorem add_none (b off i : Nat) : (⟨b, off, none⟩ : Addr).add i = ⟨b, off + i, none⟩ := by
  unfold Addr.add
  split
  · rename_i h; simp_all
  · rfl
theorem max_len {n : Nat} (h : n ≤ maxLen) : n ≤ 9223372036854775807 := by simpa [maxLen] using h
/-- A slice of rows of words that came in can be read. -/
theorem vecs_of {W : World} {H : Type} {enc : TypeId × Value → H} {a : Option Addr} {len cap : Nat} {d : DataW H} {ps : List MemPlace}
    (h : DataW.Trod enc Tryd.prog W 0 (fun _ => true) true 22 (.slice a len cap) d ps) : ∃ rs, VecsAt W a len rs ∧ len ≤ cap ∧ cap ≤ 9223372036854775807 := by
  obtain ⟨fuel, hf⟩ := h
  rcases Go.Deep.open_int_rows Tryd.underlying22 Tryd.underlying23 Tryd.underlying37 (by kernel_rfl) (by kernel_rfl) hf with ⟨hcs, _⟩ | ⟨x, l, c, A, L, C, Z, hcs, _, hl, hm, _, hx⟩
  · simp [Value.cells] at hcs
    obtain ⟨rfl, rfl, rfl⟩ := hcs
    exact ⟨[], ⟨rfl, .inl rfl, fun _ _ _ _ _ _ e => by cases e⟩, by decide, by decide⟩
  · simp [Value.cells] at hcs
    obtain ⟨rfl, rfl, rfl⟩ := hcs
    have hg : ∀ i, i < len → ((List.range len).map fun r => ((Z r).take (L r)).map Int.toNat).getD i [] = ((Z i).take (L i)).map Int.toNat := fun i hi => by
      simp [List.getD_eq_getElem?_getD, hi]
    refine ⟨(List.range len).map fun r => ((Z r).take (L r)).map Int.toNat, ⟨by simp, ?_, fun b off i ai k ci e hi hc => ?_⟩, hl, max_len hm⟩
    case refine_2 =>
      obtain ⟨g0, g1, _⟩ := hx i (by omega)
      simp only [Option.some.injEq] at e
      subst e
      rw [add_none, hc] at g0
      simp only [Option.some.injEq, Value.slice.injEq] at g0
      omega
    by_cases h0 : len = 0
    · exact .inl h0
    · obtain ⟨b, off, spot⟩ := x
      have hc := (hx 0 (by omega)).1
      have hspot : spot = none := by simpa [Addr.add] using World.cell?_spot hc
      subst hspot
      refine .inr ⟨b, off, rfl, fun i hi => ?_⟩
      obtain ⟨g0, g1, g2, g3, g4, g5, g6⟩ := hx i (by omega)
      rw [hg i hi]
      have hlen : (((Z i).take (L i)).map Int.toNat).length = L i := by rw [List.length_map, List.length_take]; omega
      rw [hlen]
      rw [add_none] at g0
      have hbd : ∀ z ∈ Z i, 0 ≤ z ∧ z < 18446744073709551616 := by
        intro z hzm
        have := bounds_u64 (g4 z hzm)
        omega
      refine ⟨A i, C i, g0, hlen, ?_, ?_⟩
      · intro y hy
        obtain ⟨z, hzm, rfl⟩ := List.mem_map.1 hy
        have := hbd z (List.mem_of_mem_take hzm)
        show z.toNat < 18446744073709551616
        omega
      · by_cases hL : L i = 0
        · exact .inl hL
        · cases hA : A i with
          | none => have := g5 hA; omega
          | some ad =>
            obtain ⟨b2, off2, spot2⟩ := ad
            obtain ⟨_, hcell⟩ := g6 _ hA
            have hc2 := hcell 0 (by omega)
            have hspot2 : spot2 = none := by simpa [Addr.add] using World.cell?_spot hc2
            subst hspot2
            refine .inr ⟨b2, off2, rfl, fun j hj => ?_⟩
            have hcj := hcell j (by omega)
            rw [add_none] at hcj
            rw [hcj]
            have hjl : j < (Z i).length := by omega
            have hzj := hbd (Z i)[j] (List.getElem_mem hjl)
            have e1 : (Z i).getD j 0 = (Z i)[j] := by simp [List.getD_eq_getElem?_getD, List.getElem?_eq_getElem hjl]
            have e2 : (((Z i).take (L i)).map Int.toNat).getD j 0 = (Z i)[j].toNat := by
              simp [List.getD_eq_getElem?_getD, hj, List.getElem?_eq_getElem hjl]
            rw [e1, e2]
            rw [show (((Z i)[j].toNat : Nat) : Int) = (Z i)[j] by omega]
/-- A slice of uint64 that came in can be read. -/
theorem row_of {W : World} {H : Type} {enc : TypeId × Value → H} {a : Option Addr} {len cap : Nat} {d : DataW H} {ps : List MemPlace}
    (h : DataW.Trod enc Tryd.prog W 0 (fun _ => true) true 23 (.slice a len cap) d ps) : ∃ xs, RowAt W a len xs := by
  obtain ⟨fuel, hf⟩ := h
  rcases open_ints Tryd.underlying23 Tryd.underlying37 (by kernel_rfl) hf with ⟨hcs, _⟩ | ⟨x, l, c, zs, hcs, _, hl, hm, hz, _, hcell, hwz⟩
  · simp [Value.cells] at hcs
    obtain ⟨rfl, rfl, rfl⟩ := hcs
    exact ⟨[], rfl, (fun _ h => by cases h), .inl rfl⟩
  · simp [Value.cells] at hcs
    obtain ⟨rfl, rfl, rfl⟩ := hcs
    have hzl : zs.length = cap := by simpa using hz
    have hb : ∀ z ∈ zs, 0 ≤ z ∧ z < 18446744073709551616 := by
      intro z hzm
      have := bounds_u64 (hwz z hzm)
      omega
    refine ⟨(zs.take len).map Int.toNat, by simp; omega, ?_, ?_⟩
    · intro y hy
      obtain ⟨z, hzm, rfl⟩ := List.mem_map.1 hy
      have := hb z (List.mem_of_mem_take hzm)
      show z.toNat < 18446744073709551616
      omega
    · by_cases h0 : len = 0
      · exact .inl h0
      · obtain ⟨b, off, spot⟩ := x
        have hc := hcell 0 (by omega)
        have hspot : spot = none := by simpa [Addr.add] using World.cell?_spot hc
        subst hspot
        refine .inr ⟨b, off, rfl, fun i hi => ?_⟩
        have hci := hcell i (by omega)
        have hadd : (⟨b, off, none⟩ : Addr).add i = ⟨b, off + i, none⟩ := by
          unfold Addr.add
          split
          · rename_i h; simp_all
          · rfl
        rw [hadd] at hci
        rw [hci]
        have hil : i < zs.length := by omega
        have hzi := hb zs[i] (List.getElem_mem hil)
        have e1 : zs.getD i 0 = zs[i] := by simp [List.getD_eq_getElem?_getD, List.getElem?_eq_getElem hil]
        have e2 : ((zs.take len).map Int.toNat).getD i 0 = zs[i].toNat := by
          simp [List.getD_eq_getElem?_getD, hi, List.getElem?_eq_getElem hil]
        rw [e1, e2]
        rw [show ((zs[i].toNat : Nat) : Int) = zs[i] by omega]
theorem row_cap {W : World} {H : Type} {enc : TypeId × Value → H} {a : Option Addr} {len cap : Nat} {d : DataW H} {ps : List MemPlace}
    (h : DataW.Trod enc Tryd.prog W 0 (fun _ => true) true 23 (.slice a len cap) d ps) : len ≤ cap := by
  obtain ⟨fuel, hf⟩ := h
  rcases open_ints Tryd.underlying23 Tryd.underlying37 (by kernel_rfl) hf with ⟨hcs, _⟩ | ⟨x, l, c, zs, hcs, _, hl, _⟩
  · simp [Value.cells] at hcs
    obtain ⟨rfl, rfl, rfl⟩ := hcs
    exact Nat.le_refl _
  · simp [Value.cells] at hcs
    obtain ⟨rfl, rfl, rfl⟩ := hcs
    exact hl
end Go.Proofs.YtobelbmcbgfdhaaDoor
