/-
  Rows in memory, on: their cores, slices of rows that are made and filled, or that two slices share; contract of bucketlineref02.All, of equal rows.
  What the rows' frames share: the table of math/bits as the rows list it; what slices of texts and of rows that came in hold. No condition.
  What the rows' frames of the store share: its numbers, and a row alone, that came in by value. No condition.
-/
import Derived.Test.YtbcgiodgobmkaaaGreatDoorU8
import Derived.Test.YtbcgiodgobmkaaaGreatDoorU5
import Derived.Test.YtbcgiodgobmkaaaGreatDoorU3
import Derived.ProofKit
import Derived.OpenShut
import Derived.ShutString
import Derived.ChangeOld
import Derived.ChangeMaps5
import Derived.SliceStrings
import Derived.Deep.SlicePairs
import Derived.Deep.DeepHandedRow
import Derived.Lib.LaidTab
import Derived.Below
namespace Go.Proofs.YtbcgiodgobmkaaaGreatDoor
open Go.RowKit Go.Sort
set_option linter.unusedVariables false
set_option linter.unusedSimpArgs false
set_option maxRecDepth 4000

theorem OwnS.blk {w : World} {B g : Nat} {v : Value} {rs : List RV} (h : OwnS w B v rs) (hk : v.ownBlock = some g) : ∃ cur, w.heap[g]? = some (.cells cur 40 (0, 0)) := by
  rcases h.2 with ⟨rfl, _⟩ | ⟨g', cap, cur, rfl, _, hg, _⟩
  · cases hk
  · simp only [Value.ownBlock, Option.some.injEq] at hk
    exact ⟨cur, by rw [← hk]; exact hg⟩
theorem OwnS.shape {w : World} {B : Nat} {v : Value} {rs : List RV} (h : OwnS w B v rs) : ∃ a c, v = .slice a rs.length c := by
  rcases h.2 with ⟨rfl, h0⟩ | ⟨g, cap, cur, rfl, _⟩
  · exact ⟨none, 0, by rw [h0]⟩
  · exact ⟨_, cap, rfl⟩
theorem OwnS.at' {w : World} {B : Nat} {a : Option Addr} {m c : Nat} {ts : List RV} (h : OwnS w B (.slice a m c) ts) (hr : RowsIn w ts) : RowsAt w a m ts ∧ m = ts.length ∧ m ≤ c ∧ c ≤ 9223372036854775807 := by
  obtain ⟨a', c', e, h1, h2, h3⟩ := h.rows hr
  simp only [Value.slice.injEq] at e
  obtain ⟨rfl, rfl, rfl⟩ := e
  exact ⟨h1, rfl, h2, h3⟩
/-- No row. -/
def zR : RV := ⟨none, 0, 0, [], ⟨#[]⟩⟩
def filR (us : List RV) (k : Nat) : List RV := us.take k ++ List.replicate (us.length - k) zR
theorem filR_zero (us : List RV) : filR us 0 = List.replicate us.length zR := by simp [filR]
theorem filR_all (us : List RV) : filR us us.length = us := by simp [filR]
theorem filR_length (us : List RV) (k : Nat) (hk : k ≤ us.length) : (filR us k).length = us.length := by simp [filR]; omega
theorem filR_succ (us : List RV) (k : Nat) (hk : k < us.length) : (filR us k).set k (us.getD k .dflt) = filR us (k + 1) := by
  unfold filR
  have hl : (us.take k).length = k := by simp; omega
  rw [List.set_append_right _ _ (by omega), hl, Nat.sub_self, List.take_succ_eq_append_getElem hk, List.append_assoc, show us.length - k = (us.length - (k + 1)) + 1 by omega, List.replicate_succ, List.set_cons_zero]
  simp [List.getD_eq_getElem?_getD, List.getElem?_eq_getElem hk]
theorem cellsR_set : ∀ (rs : List RV) (k : Nat) (r : RV), ((cellsR rs).set (k * 2) (.slice r.a r.n r.c)).set (k * 2 + 1) (.string r.s) = cellsR (rs.set k r)
  | [], k, r => by simp [cellsR]
  | x :: rs, 0, r => by simp [cellsR]
  | x :: rs, k + 1, r => by
    rw [show (k + 1) * 2 = k * 2 + 1 + 1 by omega]
    simp only [cellsR, List.set_cons_succ]
    rw [cellsR_set rs k r]
theorem cellsR_zeros : ∀ n : Nat, (madeCells #[.slice none 0 0, .string ⟨#[]⟩] (n * 2)).toList = cellsR (List.replicate n zR)
  | 0 => by simp [madeCells, cellsR]
  | n + 1 => by
    rw [List.replicate_succ', cellsR_append, ← cellsR_zeros n]
    unfold madeCells
    rw [show (n + 1) * 2 = n * 2 + 1 + 1 by omega]
    simp only [Array.toList_map, Array.toList_range]
    rw [List.range_succ, List.range_succ]
    simp [cellsR, zR, Nat.mul_mod_left]
theorem make_r (n : Nat) (hn : n ≤ 1048576) (wx : World) : (Instr.makeSlice 74 (.int .i64 (n : Int)) (.int .i64 (n : Int))).run Tryz.prog wx = .ok (.slice (some ⟨wx.heap.size, 0, none⟩) n n) (wx.alloc (.cells (madeCells #[.slice none 0 0, .string ⟨#[]⟩] (n * 2)) 40)) := by
  obtain ⟨i0, hi0, hz0, hzs, hzb⟩ := info_parts info_rowZ
  have := run_make (P := Tryz.prog) wx 74 40 i0 (.agg #[.slice none 0 0, .string ⟨#[]⟩]) Tryz.underlying74 hi0 hz0 .i64 .i64 (n : Int) (n : Int) (by omega) (Int.le_refl _) (by rw [hzb]; omega) (by omega)
  rw [hzs] at this
  simpa [Value.cells] using this
theorem made_r (w : World) (n : Nat) (hn : n ≤ 1048576) (rs : List RV) (hrs : rs = List.replicate n zR) : OwnS (w.alloc (.cells (madeCells #[.slice none 0 0, .string ⟨#[]⟩] (n * 2)) 40)) w.heap.size (.slice (some ⟨w.heap.size, 0, none⟩) n n) rs := by
  subst hrs
  refine ⟨cellsR_length _, .inr ⟨w.heap.size, n, madeCells #[.slice none 0 0, .string ⟨#[]⟩] (n * 2), by simp, Nat.le_refl _, heap_alloc_new w _, by simp, by unfold maxLen; omega, by simp [size_madeCells], ?_⟩⟩
  rw [cellsR_zeros, List.take_of_length_le (by rw [cellsR_length]; exact Nat.le_refl _)]
theorem OwnS.stored {w : World} {B g cap n : Nat} {rs : List RV} (h : OwnS w B (.slice (some ⟨g, 0, none⟩) n cap) rs) (k : Nat) (r : RV) :
    OwnS ((w.setCell ⟨g, k * 2, none⟩ (.slice r.a r.n r.c)).setCell ⟨g, k * 2 + 1, none⟩ (.string r.s)) B (.slice (some ⟨g, 0, none⟩) n cap) (rs.set k r) := by
  obtain rfl : n = rs.length := by
    rcases h.2 with ⟨e, _⟩ | ⟨g1, cap1, cur, e, _⟩
    · cases e
    · simp only [Value.slice.injEq] at e; exact e.2.1
  have ho : w.ownsRow B 40 2 (.slice (some ⟨g, 0, none⟩) rs.length cap) rs.length (cellsR rs) := h
  have := ((ho.stored (k * 2) (.slice r.a r.n r.c)).1.stored (k * 2 + 1) (.string r.s)).1
  rw [cellsR_set] at this
  show World.ownsRow _ B 40 2 _ (rs.set k r).length _
  rw [List.length_set]
  exact this
theorem OwnS.keptB {w w' : World} {B g : Nat} {v : Value} {rs : List RV} (h : OwnS w B v rs) (hg : w.grownBy w' (some g)) (hB : g < B) : OwnS w' B v rs := by
  refine World.ownsRow.kept h hg (.inr fun e => ?_)
  have := (World.ownsRow.lt h g e).1
  omega
end Go.Proofs.YtbcgiodgobmkaaaGreatDoor
namespace Go.Proofs.YtbcgiodgobmkaaaGreatDoor
open Go.ChangeShapes Go.WideShapes Go.ChangeAt Go.RowKit
set_option linter.unusedVariables false
set_option linter.unusedSimpArgs false
set_option maxRecDepth 4000

theorem own : ownKnob Tryz.prog.godebug = none := by kernel_rfl
theorem laidOut : laidOutB Tryz.prog = true := by kernel_rfl
theorem gTab : Tryz.prog.globalNamed "math/bits.deBruijn64tab" = some 0 := by kernel_rfl
theorem gTabType : (Tryz.prog.globals[0]?).map (·.type) = some 151 := by kernel_rfl
theorem cellsTab : Tryz.prog.cellsOf 151 = 64 := by kernel_rfl
theorem cells5 : Tryz.prog.cellsOf 5 = 1 := by kernel_rfl

theorem table {W : World} (h : laidMetH Tryz.prog Rows.relayPlaysRow.laid W) : Lib.TabIs Tryz.prog W "math/bits.deBruijn64tab" .u8 (Lib.deBruijn64tab.map fun (x : Nat) => (x : Int)) :=
  Lib.tabIs_of_head (rest := []) gTab gTabType Tryz.underlying151 Tryz.underlying5 cells5 cellsTab h
theorem tab_of {W : World} (h : laidMetH Tryz.prog Rows.relayPlaysRow.laid W) : Tab W := by
  intro i hi
  have hl : (Lib.deBruijn64tab.map fun (x : Nat) => (x : Int)).length = 64 := by decide
  have := (table h).cell gTab i (by omega)
  rw [this]
  have hd : Lib.deBruijn64tab.length = 64 := by decide
  have e : i < Lib.deBruijn64tab.length := by omega
  simp [List.getD_eq_getElem?_getD, List.getElem?_eq_getElem e]
theorem add_none (b off i : Nat) : (⟨b, off, none⟩ : Addr).add i = ⟨b, off + i, none⟩ := by
  unfold Addr.add
  split
  · rename_i h; simp_all
  · rfl
theorem max_len {n : Nat} (h : n ≤ maxLen) : n ≤ 9223372036854775807 := by simpa [maxLen] using h

/-- A slice of uint64 that came in can be read. -/
theorem row_cells {W : World} {H : Type} {enc : TypeId × Value → H} {fuel : Nat} {v : Value} {x : DataW H × List MemPlace}
    (h : DataW.trod enc Tryz.prog W 0 (fun _ => true) true fuel 25 [v] = some x) : ∃ a len cap xs, v = .slice a len cap ∧ RowAt W a len xs ∧ len ≤ 9223372036854775807 ∧ len ≤ cap := by
  rcases open_ints Tryz.underlying25 Tryz.underlying59 (by kernel_rfl) h with ⟨hcs, _⟩ | ⟨x, l, c, zs, hcs, _, hl, hm, hz, _, hcell, hwz⟩
  · simp only [List.cons.injEq, and_true] at hcs
    exact ⟨_, _, _, [], hcs, ⟨rfl, (fun _ h => by cases h), .inl rfl⟩, by decide, Nat.le_refl _⟩
  · simp only [List.cons.injEq, and_true] at hcs
    have hzl : zs.length = c := by simpa using hz
    have hb : ∀ z ∈ zs, 0 ≤ z ∧ z < 18446744073709551616 := by
      intro z hzm
      have := bounds_u64 (hwz z hzm)
      omega
    refine ⟨_, _, _, (zs.take l).map Int.toNat, hcs, ⟨by simp; omega, ?_, ?_⟩, by have := max_len hm; omega, hl⟩
    · intro y hy
      obtain ⟨z, hzm, rfl⟩ := List.mem_map.1 hy
      have := hb z (List.mem_of_mem_take hzm)
      show z.toNat < 18446744073709551616
      omega
    · by_cases h0 : l = 0
      · exact .inl h0
      · obtain ⟨b, off, spot⟩ := x
        have hc := hcell 0 (by omega)
        have hspot : spot = none := by simpa [Addr.add] using World.cell?_spot hc
        subst hspot
        refine .inr ⟨b, off, rfl, fun i hi => ?_⟩
        have hci := hcell i (by omega)
        rw [add_none] at hci
        rw [hci]
        have hil : i < zs.length := by omega
        have hzi := hb zs[i] (List.getElem_mem hil)
        have e1 : zs.getD i 0 = zs[i] := by simp [List.getD_eq_getElem?_getD, List.getElem?_eq_getElem hil]
        have e2 : ((zs.take l).map Int.toNat).getD i 0 = zs[i].toNat := by
          simp [List.getD_eq_getElem?_getD, hi, List.getElem?_eq_getElem hil]
        rw [e1, e2]
        rw [show ((zs[i].toNat : Nat) : Int) = zs[i] by omega]
theorem str_cell {W : World} {H : Type} {enc : TypeId × Value → H} {fuel : Nat} {v : Value} {x : DataW H × List MemPlace}
    (h : DataW.trod enc Tryz.prog W 0 (fun _ => true) true fuel 9 [v] = some x) : ∃ s, v = .string s ∧ s.size ≤ 9223372036854775807 := by
  cases fuel with
  | zero => simp [DataW.trod] at h
  | succ fuel =>
    cases v <;> simp [DataW.trod, Tryz.underlying9] at h
    exact ⟨_, rfl, max_len h.1⟩
end Go.Proofs.YtbcgiodgobmkaaaGreatDoor
namespace Go.Proofs.YtbcgiodgobmkaaaGreatDoor
open Go.ChangeShapes Go.WideShapes Go.ChangeAt Go.RowKit
set_option linter.unusedVariables false
set_option linter.unusedSimpArgs false
set_option maxRecDepth 4000

theorem int_cell {W : World} {H : Type} {enc : TypeId × Value → H} {fuel : Nat} {v : Value} {x : DataW H × List MemPlace}
    (h : DataW.trod enc Tryz.prog W 0 (fun _ => true) true fuel 3 [v] = some x) : ∃ a, v = .int .i64 a := by
  cases fuel with
  | zero => simp [DataW.trod] at h
  | succ fuel =>
    cases v <;> simp [DataW.trod, Tryz.underlying3] at h
    obtain ⟨⟨rfl, _⟩, _⟩ := h
    exact ⟨_, rfl⟩
theorem some_of {α : Type} {l : List α} {i : Nat} (h : i < l.length) : ∃ y, l[i]? = some y := ⟨_, List.getElem?_eq_getElem h⟩
end Go.Proofs.YtbcgiodgobmkaaaGreatDoor
