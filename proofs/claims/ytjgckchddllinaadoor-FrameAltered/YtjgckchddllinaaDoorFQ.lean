/-
  What the rows' frames share: the table of math/bits as the rows list it, and what a frame that came in by value holds. No condition.
-/
import Derived.Test.YtjgckchddllinaaDoorQG
import Derived.ProofKit
import Derived.OpenShut
import Derived.ShutString
import Derived.ChangeOld
import Derived.ChangeMaps5
import Derived.SizedLaws
import Derived.Below
import Derived.Deep.DeepHandedRow
import Derived.Lib.LaidTab
import Derived.Lib.SmallJoins
namespace Go.Proofs.YtjgckchddllinaaDoor
open Go.ChangeShapes Go.WideShapes Go.ChangeAt Go.RowKit
set_option linter.unusedVariables false
set_option maxRecDepth 4000

theorem own : ownKnob Tryd.prog.godebug = none := by kernel_rfl
theorem laidOut : laidOutB Tryd.prog = true := by kernel_rfl
theorem gTab : Tryd.prog.globalNamed "math/bits.deBruijn64tab" = some 0 := by kernel_rfl
theorem gTabType : (Tryd.prog.globals[0]?).map (·.type) = some 112 := by kernel_rfl
theorem cellsTab : Tryd.prog.cellsOf 112 = 64 := by kernel_rfl
theorem cells5 : Tryd.prog.cellsOf 5 = 1 := by kernel_rfl

theorem table {W : World} (h : laidMetH Tryd.prog Rows.frameChecksRow.laid W) : Lib.TabIs Tryd.prog W "math/bits.deBruijn64tab" .u8 (Lib.deBruijn64tab.map fun (x : Nat) => (x : Int)) :=
  Lib.tabIs_of_head (rest := []) gTab gTabType Tryd.underlying112 Tryd.underlying5 cells5 cellsTab h
theorem tab_of {W : World} (h : laidMetH Tryd.prog Rows.frameChecksRow.laid W) : Tab W := by
  intro i hi
  have hl : (Lib.deBruijn64tab.map fun (x : Nat) => (x : Int)).length = 64 := by decide
  have := (table h).cell gTab i (by omega)
  rw [this]
  have hd : Lib.deBruijn64tab.length = 64 := by decide
  have e : i < Lib.deBruijn64tab.length := by omega
  simp [List.getD_eq_getElem?_getD, List.getElem?_eq_getElem e]

theorem add_none (b off i : Nat) : (⟨b, off, none⟩ : Addr).add i = ⟨b, off + i, none⟩ := by
  unfold Addr.add
  split
  · rename_i h; simp_all
  · rfl
theorem max_len {n : Nat} (h : n ≤ maxLen) : n ≤ 9223372036854775807 := by simpa [maxLen] using h
/-- A slice of uint64 that came in can be read. -/
theorem row_cells {W : World} {H : Type} {enc : TypeId × Value → H} {fuel : Nat} {v : Value} {x : DataW H × List MemPlace}
    (h : DataW.trod enc Tryd.prog W 0 (fun _ => true) true fuel 22 [v] = some x) : ∃ a len cap xs, v = .slice a len cap ∧ RowAt W a len xs ∧ len ≤ 9223372036854775807 := by
  rcases open_ints Tryd.underlying22 Tryd.underlying47 (by kernel_rfl) h with ⟨hcs, _⟩ | ⟨x, l, c, zs, hcs, _, hl, hm, hz, _, hcell, hwz⟩
  · simp only [List.cons.injEq, and_true] at hcs
    exact ⟨_, _, _, [], hcs, ⟨rfl, (fun _ h => by cases h), .inl rfl⟩, by decide⟩
  · simp only [List.cons.injEq, and_true] at hcs
    have hzl : zs.length = c := by simpa using hz
    have hb : ∀ z ∈ zs, 0 ≤ z ∧ z < 18446744073709551616 := by
      intro z hzm
      have := bounds_u64 (hwz z hzm)
      omega
    refine ⟨_, _, _, (zs.take l).map Int.toNat, hcs, ⟨by simp; omega, ?_, ?_⟩, by have := max_len hm; omega⟩
    · intro y hy
      obtain ⟨z, hzm, rfl⟩ := List.mem_map.1 hy
      have := hb z (List.mem_of_mem_take hzm)
      show z.toNat < 18446744073709551616
      omega
    · by_cases h0 : l = 0
      · exact .inl h0
      · obtain ⟨b, off, spot⟩ := x
        have hc := hcell 0 (by omega)
        have hspot : spot = none := by simpa [Addr.add] using World.cell?_spot hc
        subst hspot
        refine .inr ⟨b, off, rfl, fun i hi => ?_⟩
        have hci := hcell i (by omega)
        rw [add_none] at hci
        rw [hci]
        have hil : i < zs.length := by omega
        have hzi := hb zs[i] (List.getElem_mem hil)
        have e1 : zs.getD i 0 = zs[i] := by simp [List.getD_eq_getElem?_getD, List.getElem?_eq_getElem hil]
        have e2 : ((zs.take l).map Int.toNat).getD i 0 = zs[i].toNat := by
          simp [List.getD_eq_getElem?_getD, hi, List.getElem?_eq_getElem hil]
        rw [e1, e2]
        rw [show ((zs[i].toNat : Nat) : Int) = zs[i] by omega]
theorem row_of {W : World} {H : Type} {enc : TypeId × Value → H} {a : Option Addr} {len cap : Nat} {d : DataW H} {ps : List MemPlace}
    (h : DataW.Trod enc Tryd.prog W 0 (fun _ => true) true 22 (.slice a len cap) d ps) : ∃ xs, RowAt W a len xs ∧ len ≤ 9223372036854775807 := by
  obtain ⟨fuel, hf⟩ := h
  obtain ⟨a', l', c', xs, he, hr, hl⟩ := row_cells (v := .slice a len cap) hf
  simp only [Value.slice.injEq] at he
  obtain ⟨rfl, rfl, rfl⟩ := he
  exact ⟨xs, hr, hl⟩
theorem str_cell {W : World} {H : Type} {enc : TypeId × Value → H} {fuel : Nat} {v : Value} {x : DataW H × List MemPlace}
    (h : DataW.trod enc Tryd.prog W 0 (fun _ => true) true fuel 9 [v] = some x) : ∃ s, v = .string s ∧ s.size ≤ 9223372036854775807 := by
  cases fuel with
  | zero => simp [DataW.trod] at h
  | succ fuel =>
    cases v <;> simp [DataW.trod, Tryd.underlying9] at h
    exact ⟨_, rfl, max_len h.1⟩
theorem int_cell {W : World} {H : Type} {enc : TypeId × Value → H} {fuel : Nat} {v : Value} {x : DataW H × List MemPlace}
    (h : DataW.trod enc Tryd.prog W 0 (fun _ => true) true fuel 3 [v] = some x) : ∃ a, v = .int .i64 a := by
  cases fuel with
  | zero => simp [DataW.trod] at h
  | succ fuel =>
    cases v <;> simp [DataW.trod, Tryd.underlying3] at h
    obtain ⟨⟨rfl, _⟩, _⟩ := h
    exact ⟨_, rfl⟩
theorem cellsRow : Tryd.prog.cellsOf 24 = 2 := by kernel_rfl
theorem cellsInt : Tryd.prog.cellsOf 3 = 1 := by kernel_rfl
theorem cellsU64s : Tryd.prog.cellsOf 22 = 1 := by kernel_rfl
theorem cellsStr : Tryd.prog.cellsOf 9 = 1 := by kernel_rfl
theorem some_of {α : Type} {l : List α} {i : Nat} (h : i < l.length) : ∃ y, l[i]? = some y := ⟨_, List.getElem?_eq_getElem h⟩
/-- A packet's cells. -/
theorem pkt_cells {W : World} {H : Type} {enc : TypeId × Value → H} {fuel : Nat} {c0 c1 c2 c3 c4 c5 c6 : Value} {x : DataW H × List MemPlace}
    (htr : DataW.trod enc Tryd.prog W 0 (fun _ => true) true fuel 26 [c0, c1, c2, c3, c4, c5, c6] = some x) :
    ∃ (o l k z h : Int) (a : Option Addr) (n c : Nat) (xs : List Nat) (s : ByteArray), (c0 = .int .i64 o ∧ c1 = .int .i64 l ∧ c2 = .int .i64 k ∧ c3 = .int .i64 z ∧ c4 = .int .i64 h ∧ c5 = .slice a n c ∧ c6 = .string s) ∧ RowAt W a n xs := by
  obtain ⟨ys, n, _, _, _, hlen, hf⟩ := DataW.trod_struct Tryd.underlying26 htr
  have hl : ys.length = 6 := hlen
  obtain ⟨y0, e0⟩ := some_of (l := ys) (i := 0) (by omega)
  obtain ⟨y1, e1⟩ := some_of (l := ys) (i := 1) (by omega)
  obtain ⟨y2, e2⟩ := some_of (l := ys) (i := 2) (by omega)
  obtain ⟨y3, e3⟩ := some_of (l := ys) (i := 3) (by omega)
  obtain ⟨y4, e4⟩ := some_of (l := ys) (i := 4) (by omega)
  obtain ⟨y5, e5⟩ := some_of (l := ys) (i := 5) (by omega)
  have f0 := (hf 0 _ rfl).trans e0
  have f1 := (hf 1 _ rfl).trans e1
  have f2 := (hf 2 _ rfl).trans e2
  have f3 := (hf 3 _ rfl).trans e3
  have f4 := (hf 4 _ rfl).trans e4
  have f5 := (hf 5 _ rfl).trans e5
  obtain ⟨o, rfl⟩ := int_cell f0
  obtain ⟨l, rfl⟩ := int_cell f1
  obtain ⟨k, rfl⟩ := int_cell f2
  obtain ⟨z, rfl⟩ := int_cell f3
  obtain ⟨h, rfl⟩ := int_cell f4
  obtain ⟨z0, z1, m, _, _, g0, g1⟩ := trod_struct2 Tryd.underlying24 f5
  simp only [cellsU64s, cellsStr, List.drop_zero] at g0 g1
  obtain ⟨a, n', c, xs, rfl, hr, _⟩ := row_cells g0
  obtain ⟨s, rfl, _⟩ := str_cell g1
  exact ⟨o, l, k, z, h, a, n', c, xs, s, ⟨rfl, rfl, rfl, rfl, rfl, rfl, rfl⟩, hr⟩
theorem array10 {α : Type} {cs : Array α} (h : cs.size = 10) : ∃ c0 c1 c2 c3 c4 c5 c6 c7 c8 c9, cs = #[c0, c1, c2, c3, c4, c5, c6, c7, c8, c9] := by
  obtain ⟨l⟩ := cs
  match l, h with
  | [c0, c1, c2, c3, c4, c5, c6, c7, c8, c9], _ => exact ⟨c0, c1, c2, c3, c4, c5, c6, c7, c8, c9, rfl⟩
theorem cellsFrm : Tryd.prog.cellsOf 28 = 10 := by kernel_rfl
/-- A frame that came in by value. -/
theorem frm_of {W : World} {H : Type} {enc : TypeId × Value → H} {base : Nat} {v : Value} {d : DataW H} {ps : List MemPlace} (hv : Value.okWide Tryd.prog W .any base 28 v)
    (h : DataW.Trod enc Tryd.prog W 0 (fun _ => true) true 28 v d ps) :
    ∃ (kd fr ic o l k z h : Int) (a : Option Addr) (n c : Nat) (xs : List Nat) (s : ByteArray), v = .agg #[.int .i64 kd, .int .i64 fr, .int .i64 ic, .int .i64 o, .int .i64 l, .int .i64 k, .int .i64 z, .int .i64 h, .slice a n c, .string s] ∧ RowAt W a n xs := by
  obtain ⟨cs, rfl, hsz⟩ := okWide_struct Tryd.underlying28 hv
  obtain ⟨c0, c1, c2, c3, c4, c5, c6, c7, c8, c9, rfl⟩ := array10 (hsz.trans cellsFrm)
  obtain ⟨fuel, hf⟩ := h
  obtain ⟨ys, n, _, _, _, hlen, hf⟩ := DataW.trod_struct Tryd.underlying28 hf
  have hl : ys.length = 4 := hlen
  obtain ⟨y0, e0⟩ := some_of (l := ys) (i := 0) (by omega)
  obtain ⟨y1, e1⟩ := some_of (l := ys) (i := 1) (by omega)
  obtain ⟨y2, e2⟩ := some_of (l := ys) (i := 2) (by omega)
  obtain ⟨y3, e3⟩ := some_of (l := ys) (i := 3) (by omega)
  have f0 := (hf 0 _ rfl).trans e0
  have f1 := (hf 1 _ rfl).trans e1
  have f2 := (hf 2 _ rfl).trans e2
  have f3 := (hf 3 _ rfl).trans e3
  simp only [Value.cells] at f0 f1 f2 f3
  obtain ⟨kd, rfl⟩ := int_cell f0
  obtain ⟨fr, rfl⟩ := int_cell f1
  obtain ⟨ic, rfl⟩ := int_cell f2
  obtain ⟨o, l, k, z, h, a, n', c, xs, s, ⟨rfl, rfl, rfl, rfl, rfl, rfl, rfl⟩, hr⟩ := pkt_cells f3
  exact ⟨kd, fr, ic, o, l, k, z, h, a, n', c, xs, s, rfl, hr⟩
end Go.Proofs.YtjgckchddllinaaDoor
