/-
  Rows in memory, on: their cores, slices of rows that are made and filled, or that two slices share; contract of bucketlineref02.All, of equal rows.
  What the rows' frames share: the table of math/bits as the rows list it; what slices of texts and of rows that came in hold. No condition.
  What the rows' frames of the store share: its numbers, and a row alone, that came in by value. No condition.
  Slices of packets ('PksAt'); contract of bucketlinelaw16.Few.
  What the rows' frames of the decoder share: slices of packets, and a packet by value, that came in. No condition.
  Slices of ints of any sign in memory: what can be read ('IntzAt'), what is the call's own ('OwnZ'): made, written, appended to. No condition.
-/
import Derived.Test.YtbcgiodgobmkaaaGreatDoorU5
import Derived.Test.YtbcgiodgobmkaaaGreatDoorU3
import Derived.Test.YtbcgiodgobmkaaaGreatDoorU1
import Derived.ProofKit
import Derived.OpenShut
import Derived.ShutString
import Derived.ChangeOld
import Derived.ChangeMaps5
import Derived.SliceStrings
import Derived.Deep.SlicePairs
import Derived.Deep.DeepHandedRow
import Derived.Lib.LaidTab
import Derived.Below
import Derived.Deep.Slices
import Derived.ChangeSame
import Derived.Test.YtbcgiodgobmkaaaGreatDoorU0
import Derived.Laws.MathBits
import Derived.OwnWalk
import Derived.Laws.MakeOwn
import Derived.Deep.QuietTactic
import Derived.BigQuiet
namespace Go.Proofs.YtbcgiodgobmkaaaGreatDoor
open Go.RowKit Go.Sort
set_option linter.unusedVariables false
set_option linter.unusedSimpArgs false
set_option maxRecDepth 4000

theorem OwnS.blk {w : World} {B g : Nat} {v : Value} {rs : List RV} (h : OwnS w B v rs) (hk : v.ownBlock = some g) : ∃ cur, w.heap[g]? = some (.cells cur 40 (0, 0)) := by
  rcases h.2 with ⟨rfl, _⟩ | ⟨g', cap, cur, rfl, _, hg, _⟩
  · cases hk
  · simp only [Value.ownBlock, Option.some.injEq] at hk
    exact ⟨cur, by rw [← hk]; exact hg⟩
/-- Each row has as much room as words. -/
def CapR (rs : List RV) : Prop := ∀ i, i < rs.length → (rs.getD i .dflt).n ≤ (rs.getD i .dflt).c
theorem OwnS.shape {w : World} {B : Nat} {v : Value} {rs : List RV} (h : OwnS w B v rs) : ∃ a c, v = .slice a rs.length c := by
  rcases h.2 with ⟨rfl, h0⟩ | ⟨g, cap, cur, rfl, _⟩
  · exact ⟨none, 0, by rw [h0]⟩
  · exact ⟨_, cap, rfl⟩
theorem OwnS.at' {w : World} {B : Nat} {a : Option Addr} {m c : Nat} {ts : List RV} (h : OwnS w B (.slice a m c) ts) (hr : RowsIn w ts) : RowsAt w a m ts ∧ m = ts.length ∧ m ≤ c ∧ c ≤ 9223372036854775807 := by
  obtain ⟨a', c', e, h1, h2, h3⟩ := h.rows hr
  simp only [Value.slice.injEq] at e
  obtain ⟨rfl, rfl, rfl⟩ := e
  exact ⟨h1, rfl, h2, h3⟩
theorem CapR.of {w : World} {rs : List RV} (h : RowsIn w rs) : CapR rs := fun i hi => (h.get hi).2
theorem RowsIn.of {w : World} {a : Option Addr} {n : Nat} {rs : List RV} (h : RowsAt w a n rs) (hc : CapR rs) : RowsIn w rs := fun r hr => by
  obtain ⟨i, hi, rfl⟩ := List.mem_iff_getElem.1 hr
  have h1 := h.2.1 i (by rw [← h.1]; exact hi)
  have h2 := hc i hi
  rw [List.getD_eq_getElem?_getD, List.getElem?_eq_getElem hi] at h1 h2
  exact ⟨h1, h2⟩
/-- No row. -/
def zR : RV := ⟨none, 0, 0, [], ⟨#[]⟩⟩
def filR (us : List RV) (k : Nat) : List RV := us.take k ++ List.replicate (us.length - k) zR
theorem filR_zero (us : List RV) : filR us 0 = List.replicate us.length zR := by simp [filR]
theorem filR_all (us : List RV) : filR us us.length = us := by simp [filR]
theorem filR_length (us : List RV) (k : Nat) (hk : k ≤ us.length) : (filR us k).length = us.length := by simp [filR]; omega
theorem filR_succ (us : List RV) (k : Nat) (hk : k < us.length) : (filR us k).set k (us.getD k .dflt) = filR us (k + 1) := by
  unfold filR
  have hl : (us.take k).length = k := by simp; omega
  rw [List.set_append_right _ _ (by omega), hl, Nat.sub_self, List.take_succ_eq_append_getElem hk, List.append_assoc, show us.length - k = (us.length - (k + 1)) + 1 by omega, List.replicate_succ, List.set_cons_zero]
  simp [List.getD_eq_getElem?_getD, List.getElem?_eq_getElem hk]
theorem cellsR_set : ∀ (rs : List RV) (k : Nat) (r : RV), ((cellsR rs).set (k * 2) (.slice r.a r.n r.c)).set (k * 2 + 1) (.string r.s) = cellsR (rs.set k r)
  | [], k, r => by simp [cellsR]
  | x :: rs, 0, r => by simp [cellsR]
  | x :: rs, k + 1, r => by
    rw [show (k + 1) * 2 = k * 2 + 1 + 1 by omega]
    simp only [cellsR, List.set_cons_succ]
    rw [cellsR_set rs k r]
theorem cellsR_zeros : ∀ n : Nat, (madeCells #[.slice none 0 0, .string ⟨#[]⟩] (n * 2)).toList = cellsR (List.replicate n zR)
  | 0 => by simp [madeCells, cellsR]
  | n + 1 => by
    rw [List.replicate_succ', cellsR_append, ← cellsR_zeros n]
    unfold madeCells
    rw [show (n + 1) * 2 = n * 2 + 1 + 1 by omega]
    simp only [Array.toList_map, Array.toList_range]
    rw [List.range_succ, List.range_succ]
    simp [cellsR, zR, Nat.mul_mod_left]
theorem make_r (n : Nat) (hn : n ≤ 1048576) (wx : World) : (Instr.makeSlice 74 (.int .i64 (n : Int)) (.int .i64 (n : Int))).run Tryz.prog wx = .ok (.slice (some ⟨wx.heap.size, 0, none⟩) n n) (wx.alloc (.cells (madeCells #[.slice none 0 0, .string ⟨#[]⟩] (n * 2)) 40)) := by
  obtain ⟨i0, hi0, hz0, hzs, hzb⟩ := info_parts info_rowZ
  have := run_make (P := Tryz.prog) wx 74 40 i0 (.agg #[.slice none 0 0, .string ⟨#[]⟩]) Tryz.underlying74 hi0 hz0 .i64 .i64 (n : Int) (n : Int) (by omega) (Int.le_refl _) (by rw [hzb]; omega) (by omega)
  rw [hzs] at this
  simpa [Value.cells] using this
theorem made_r (w : World) (n : Nat) (hn : n ≤ 1048576) (rs : List RV) (hrs : rs = List.replicate n zR) : OwnS (w.alloc (.cells (madeCells #[.slice none 0 0, .string ⟨#[]⟩] (n * 2)) 40)) w.heap.size (.slice (some ⟨w.heap.size, 0, none⟩) n n) rs := by
  subst hrs
  refine ⟨cellsR_length _, .inr ⟨w.heap.size, n, madeCells #[.slice none 0 0, .string ⟨#[]⟩] (n * 2), by simp, Nat.le_refl _, heap_alloc_new w _, by simp, by unfold maxLen; omega, by simp [size_madeCells], ?_⟩⟩
  rw [cellsR_zeros, List.take_of_length_le (by rw [cellsR_length]; exact Nat.le_refl _)]
theorem OwnS.stored {w : World} {B g cap n : Nat} {rs : List RV} (h : OwnS w B (.slice (some ⟨g, 0, none⟩) n cap) rs) (k : Nat) (r : RV) :
    OwnS ((w.setCell ⟨g, k * 2, none⟩ (.slice r.a r.n r.c)).setCell ⟨g, k * 2 + 1, none⟩ (.string r.s)) B (.slice (some ⟨g, 0, none⟩) n cap) (rs.set k r) := by
  obtain rfl : n = rs.length := by
    rcases h.2 with ⟨e, _⟩ | ⟨g1, cap1, cur, e, _⟩
    · cases e
    · simp only [Value.slice.injEq] at e; exact e.2.1
  have ho : w.ownsRow B 40 2 (.slice (some ⟨g, 0, none⟩) rs.length cap) rs.length (cellsR rs) := h
  have := ((ho.stored (k * 2) (.slice r.a r.n r.c)).1.stored (k * 2 + 1) (.string r.s)).1
  rw [cellsR_set] at this
  show World.ownsRow _ B 40 2 _ (rs.set k r).length _
  rw [List.length_set]
  exact this
theorem OwnS.keptB {w w' : World} {B g : Nat} {v : Value} {rs : List RV} (h : OwnS w B v rs) (hg : w.grownBy w' (some g)) (hB : g < B) : OwnS w' B v rs := by
  refine World.ownsRow.kept h hg (.inr fun e => ?_)
  have := (World.ownsRow.lt h g e).1
  omega
end Go.Proofs.YtbcgiodgobmkaaaGreatDoor
namespace Go.Proofs.YtbcgiodgobmkaaaGreatDoor
open Go.ChangeShapes Go.WideShapes Go.ChangeAt Go.RowKit
set_option linter.unusedVariables false
set_option linter.unusedSimpArgs false
set_option maxRecDepth 4000

theorem own : ownKnob Tryz.prog.godebug = none := by kernel_rfl
theorem laidOut : laidOutB Tryz.prog = true := by kernel_rfl
theorem gTab : Tryz.prog.globalNamed "math/bits.deBruijn64tab" = some 0 := by kernel_rfl
theorem gTabType : (Tryz.prog.globals[0]?).map (·.type) = some 151 := by kernel_rfl
theorem cellsTab : Tryz.prog.cellsOf 151 = 64 := by kernel_rfl
theorem cells5 : Tryz.prog.cellsOf 5 = 1 := by kernel_rfl

theorem table {W : World} (h : laidMetH Tryz.prog Rows.relayPlaysRow.laid W) : Lib.TabIs Tryz.prog W "math/bits.deBruijn64tab" .u8 (Lib.deBruijn64tab.map fun (x : Nat) => (x : Int)) :=
  Lib.tabIs_of_head (rest := []) gTab gTabType Tryz.underlying151 Tryz.underlying5 cells5 cellsTab h
theorem tab_of {W : World} (h : laidMetH Tryz.prog Rows.relayPlaysRow.laid W) : Tab W := by
  intro i hi
  have hl : (Lib.deBruijn64tab.map fun (x : Nat) => (x : Int)).length = 64 := by decide
  have := (table h).cell gTab i (by omega)
  rw [this]
  have hd : Lib.deBruijn64tab.length = 64 := by decide
  have e : i < Lib.deBruijn64tab.length := by omega
  simp [List.getD_eq_getElem?_getD, List.getElem?_eq_getElem e]
theorem add_none (b off i : Nat) : (⟨b, off, none⟩ : Addr).add i = ⟨b, off + i, none⟩ := by
  unfold Addr.add
  split
  · rename_i h; simp_all
  · rfl
theorem max_len {n : Nat} (h : n ≤ maxLen) : n ≤ 9223372036854775807 := by simpa [maxLen] using h

/-- A slice of uint64 that came in can be read. -/
theorem row_cells {W : World} {H : Type} {enc : TypeId × Value → H} {fuel : Nat} {v : Value} {x : DataW H × List MemPlace}
    (h : DataW.trod enc Tryz.prog W 0 (fun _ => true) true fuel 25 [v] = some x) : ∃ a len cap xs, v = .slice a len cap ∧ RowAt W a len xs ∧ len ≤ 9223372036854775807 ∧ len ≤ cap := by
  rcases open_ints Tryz.underlying25 Tryz.underlying59 (by kernel_rfl) h with ⟨hcs, _⟩ | ⟨x, l, c, zs, hcs, _, hl, hm, hz, _, hcell, hwz⟩
  · simp only [List.cons.injEq, and_true] at hcs
    exact ⟨_, _, _, [], hcs, ⟨rfl, (fun _ h => by cases h), .inl rfl⟩, by decide, Nat.le_refl _⟩
  · simp only [List.cons.injEq, and_true] at hcs
    have hzl : zs.length = c := by simpa using hz
    have hb : ∀ z ∈ zs, 0 ≤ z ∧ z < 18446744073709551616 := by
      intro z hzm
      have := bounds_u64 (hwz z hzm)
      omega
    refine ⟨_, _, _, (zs.take l).map Int.toNat, hcs, ⟨by simp; omega, ?_, ?_⟩, by have := max_len hm; omega, hl⟩
    · intro y hy
      obtain ⟨z, hzm, rfl⟩ := List.mem_map.1 hy
      have := hb z (List.mem_of_mem_take hzm)
      show z.toNat < 18446744073709551616
      omega
    · by_cases h0 : l = 0
      · exact .inl h0
      · obtain ⟨b, off, spot⟩ := x
        have hc := hcell 0 (by omega)
        have hspot : spot = none := by simpa [Addr.add] using World.cell?_spot hc
        subst hspot
        refine .inr ⟨b, off, rfl, fun i hi => ?_⟩
        have hci := hcell i (by omega)
        rw [add_none] at hci
        rw [hci]
        have hil : i < zs.length := by omega
        have hzi := hb zs[i] (List.getElem_mem hil)
        have e1 : zs.getD i 0 = zs[i] := by simp [List.getD_eq_getElem?_getD, List.getElem?_eq_getElem hil]
        have e2 : ((zs.take l).map Int.toNat).getD i 0 = zs[i].toNat := by
          simp [List.getD_eq_getElem?_getD, hi, List.getElem?_eq_getElem hil]
        rw [e1, e2]
        rw [show ((zs[i].toNat : Nat) : Int) = zs[i] by omega]
theorem str_cell {W : World} {H : Type} {enc : TypeId × Value → H} {fuel : Nat} {v : Value} {x : DataW H × List MemPlace}
    (h : DataW.trod enc Tryz.prog W 0 (fun _ => true) true fuel 9 [v] = some x) : ∃ s, v = .string s ∧ s.size ≤ 9223372036854775807 := by
  cases fuel with
  | zero => simp [DataW.trod] at h
  | succ fuel =>
    cases v <;> simp [DataW.trod, Tryz.underlying9] at h
    exact ⟨_, rfl, max_len h.1⟩
end Go.Proofs.YtbcgiodgobmkaaaGreatDoor
namespace Go.Proofs.YtbcgiodgobmkaaaGreatDoor
open Go.ChangeShapes Go.WideShapes Go.ChangeAt Go.RowKit
set_option linter.unusedVariables false
set_option linter.unusedSimpArgs false
set_option maxRecDepth 4000

theorem int_cell {W : World} {H : Type} {enc : TypeId × Value → H} {fuel : Nat} {v : Value} {x : DataW H × List MemPlace}
    (h : DataW.trod enc Tryz.prog W 0 (fun _ => true) true fuel 3 [v] = some x) : ∃ a, v = .int .i64 a := by
  cases fuel with
  | zero => simp [DataW.trod] at h
  | succ fuel =>
    cases v <;> simp [DataW.trod, Tryz.underlying3] at h
    obtain ⟨⟨rfl, _⟩, _⟩ := h
    exact ⟨_, rfl⟩
theorem array2 {α : Type} {cs : Array α} (h : cs.size = 2) : ∃ c0 c1, cs = #[c0, c1] := by
  obtain ⟨l⟩ := cs
  match l, h with
  | [c0, c1], _ => exact ⟨c0, c1, rfl⟩
theorem some_of {α : Type} {l : List α} {i : Nat} (h : i < l.length) : ∃ y, l[i]? = some y := ⟨_, List.getElem?_eq_getElem h⟩
end Go.Proofs.YtbcgiodgobmkaaaGreatDoor
namespace Go.Proofs.YtbcgiodgobmkaaaGreatDoor
open Go.RowKit Go.Sort
set_option linter.unusedVariables false
set_option linter.unusedSimpArgs false
set_option maxRecDepth 4000

/-- A packet as it lies in memory: its five numbers, its row. -/
structure PKV where
  o : Int
  l : Int
  k : Int
  z : Int
  h : Int
  r : RV
/-- What stands behind the end of a list of packets. -/
def PKV.dflt : PKV := ⟨0, 0, 0, 0, 0, .dflt⟩
/-- The packet by value. -/
def PKV.val (p : PKV) : Value := .agg #[.int .i64 p.o, .int .i64 p.l, .int .i64 p.k, .int .i64 p.z, .int .i64 p.h, .slice p.r.a p.r.n p.r.c, .string p.r.s]
/-- Seven cells that hold a packet. -/
def PkCells (w : World) (b off : Nat) (p : PKV) : Prop :=
  w.cell? ⟨b, off, none⟩ = some (.int .i64 p.o) ∧ w.cell? ⟨b, off + 1, none⟩ = some (.int .i64 p.l) ∧ w.cell? ⟨b, off + 2, none⟩ = some (.int .i64 p.k) ∧ w.cell? ⟨b, off + 3, none⟩ = some (.int .i64 p.z) ∧ w.cell? ⟨b, off + 4, none⟩ = some (.int .i64 p.h) ∧
    w.cell? ⟨b, off + 5, none⟩ = some (.slice p.r.a p.r.n p.r.c) ∧ w.cell? ⟨b, off + 6, none⟩ = some (.string p.r.s)
theorem PkCells.belowB {w w' : World} {b off B : Nat} {p : PKV} (h : PkCells w b off p) (hb : Below B w w') (hB : b < B) : PkCells w' b off p :=
  ⟨(hb.cell (p := ⟨b, off, none⟩) hB).trans h.1, (hb.cell (p := ⟨b, off + 1, none⟩) hB).trans h.2.1, (hb.cell (p := ⟨b, off + 2, none⟩) hB).trans h.2.2.1, (hb.cell (p := ⟨b, off + 3, none⟩) hB).trans h.2.2.2.1, (hb.cell (p := ⟨b, off + 4, none⟩) hB).trans h.2.2.2.2.1, (hb.cell (p := ⟨b, off + 5, none⟩) hB).trans h.2.2.2.2.2.1, (hb.cell (p := ⟨b, off + 6, none⟩) hB).trans h.2.2.2.2.2.2⟩
theorem PkCells.below {w w' : World} {b off : Nat} {p : PKV} (h : PkCells w b off p) (hb : Below w.heap.size w w') : PkCells w' b off p := h.belowB hb (World.block_lt_of_cell? w _ h.1)
/-- A slice of n packets that can be read: they are ps. -/
def PksAt (w : World) (a : Option Addr) (n : Nat) (ps : List PKV) : Prop :=
  ps.length = n ∧ (∀ i, i < n → RowAt w (ps.getD i .dflt).r.a (ps.getD i .dflt).r.n (ps.getD i .dflt).r.xs) ∧ (n = 0 ∨ ∃ b off, a = some ⟨b, off, none⟩ ∧ ∀ i, i < n → PkCells w b (off + i * 7) (ps.getD i .dflt))
theorem PksAt.at {w : World} {a : Option Addr} {n : Nat} {ps : List PKV} (h : PksAt w a n ps) {i : Nat} (hi : i < n) : ∃ b off, a = some ⟨b, off, none⟩ ∧ ∀ i, i < n → PkCells w b (off + i * 7) (ps.getD i .dflt) := by
  rcases h.2.2 with h0 | h0
  · omega
  · exact h0
theorem PksAt.below {w w' : World} {a : Option Addr} {n : Nat} {ps : List PKV} (h : PksAt w a n ps) (hb : Below w.heap.size w w') : PksAt w' a n ps := by
  refine ⟨h.1, fun i hi => (h.2.1 i hi).below hb, ?_⟩
  rcases h.2.2 with h0 | ⟨b, off, rfl, hc⟩
  · exact .inl h0
  · exact .inr ⟨b, off, rfl, fun i hi => (hc i hi).below hb⟩
/-- Packets that are not too long, nor too many. -/
def shortP (ps : List PKV) : Prop := ∀ i, (ps.getD i .dflt).r.n ≤ 10 ∧ (ps.getD i .dflt).r.s.size ≤ 1000

end Go.Proofs.YtbcgiodgobmkaaaGreatDoor
namespace Go.Proofs.YtbcgiodgobmkaaaGreatDoor
open Go.ChangeShapes Go.WideShapes Go.ChangeAt Go.RowKit
set_option linter.unusedVariables false
set_option linter.unusedSimpArgs false
set_option maxRecDepth 4000

theorem cellsU64s : Tryz.prog.cellsOf 25 = 1 := by kernel_rfl
theorem cellsStr : Tryz.prog.cellsOf 9 = 1 := by kernel_rfl
/-- Seven cells that are a packet. -/
theorem pkt_cells {W : World} {H : Type} {enc : TypeId × Value → H} {fuel : Nat} {cs : List Value} {x : DataW H × List MemPlace} (hl7 : cs.length = 7)
    (h : DataW.trod enc Tryz.prog W 0 (fun _ => true) true fuel 42 cs = some x) :
    ∃ p : PKV, cs = [.int .i64 p.o, .int .i64 p.l, .int .i64 p.k, .int .i64 p.z, .int .i64 p.h, .slice p.r.a p.r.n p.r.c, .string p.r.s] ∧ RowAt W p.r.a p.r.n p.r.xs ∧ p.r.n ≤ 9223372036854775807 ∧ p.r.n ≤ p.r.c ∧ p.r.s.size ≤ 9223372036854775807 := by
  match cs, hl7 with
  | [c0, c1, c2, c3, c4, c5, c6], _ =>
    obtain ⟨ys, n, _, _, _, hlen, hf⟩ := DataW.trod_struct Tryz.underlying42 h
    have hl : ys.length = 6 := hlen
    obtain ⟨y0, e0⟩ := some_of (l := ys) (i := 0) (by omega)
    obtain ⟨y1, e1⟩ := some_of (l := ys) (i := 1) (by omega)
    obtain ⟨y2, e2⟩ := some_of (l := ys) (i := 2) (by omega)
    obtain ⟨y3, e3⟩ := some_of (l := ys) (i := 3) (by omega)
    obtain ⟨y4, e4⟩ := some_of (l := ys) (i := 4) (by omega)
    obtain ⟨y5, e5⟩ := some_of (l := ys) (i := 5) (by omega)
    have f0 := (hf 0 _ rfl).trans e0
    have f1 := (hf 1 _ rfl).trans e1
    have f2 := (hf 2 _ rfl).trans e2
    have f3 := (hf 3 _ rfl).trans e3
    have f4 := (hf 4 _ rfl).trans e4
    have f5 := (hf 5 _ rfl).trans e5
    obtain ⟨o, rfl⟩ := int_cell f0
    obtain ⟨l, rfl⟩ := int_cell f1
    obtain ⟨k, rfl⟩ := int_cell f2
    obtain ⟨z, rfl⟩ := int_cell f3
    obtain ⟨hp, rfl⟩ := int_cell f4
    obtain ⟨z0, z1, m, _, _, g0, g1⟩ := trod_struct2 Tryz.underlying40 f5
    simp only [cellsU64s, cellsStr, List.drop_zero] at g0 g1
    obtain ⟨a, n', c, xs, rfl, hr, hm, hc⟩ := row_cells g0
    obtain ⟨s, rfl, hs⟩ := str_cell g1
    exact ⟨⟨o, l, k, z, hp, ⟨a, n', c, xs, s⟩⟩, rfl, hr, hm, hc, hs⟩
end Go.Proofs.YtbcgiodgobmkaaaGreatDoor
namespace Go.Proofs.YtbcgiodgobmkaaaGreatDoor
open Go.RowKit
set_option linter.unusedVariables false
set_option linter.unusedSimpArgs false
set_option maxRecDepth 4000

def cellsZ (xs : List Int) : List Value := xs.map fun x => Value.int .i64 x
theorem cellsZ_length (xs : List Int) : (cellsZ xs).length = xs.length := by simp [cellsZ]
theorem cellsZ_get (xs : List Int) (i : Nat) (h : i < xs.length) : (cellsZ xs)[i]? = some (.int .i64 (xs.getD i 0)) := by
  simp [cellsZ, List.getElem?_eq_getElem h, List.getD_eq_getElem?_getD]
theorem cellsZ_set (xs : List Int) (i : Nat) (x : Int) : (cellsZ xs).set i (.int .i64 x) = cellsZ (xs.set i x) := by
  simp [cellsZ, List.map_set]
/-- A slice of n ints that can be read: they are xs. -/
def IntzAt (w : World) (a : Option Addr) (n : Nat) (xs : List Int) : Prop :=
  xs.length = n ∧ (n = 0 ∨ ∃ b off, a = some ⟨b, off, none⟩ ∧ ∀ i, i < n → w.cell? ⟨b, off + i, none⟩ = some (.int .i64 (xs.getD i 0)))
theorem IntzAt.at {w : World} {a : Option Addr} {n : Nat} {xs : List Int} (h : IntzAt w a n xs) {i : Nat} (hi : i < n) :
    ∃ b off, a = some ⟨b, off, none⟩ ∧ ∀ i, i < n → w.cell? ⟨b, off + i, none⟩ = some (.int .i64 (xs.getD i 0)) := by
  rcases h.2 with h0 | h0
  · omega
  · exact h0
theorem IntzAt.below {w w' : World} {a : Option Addr} {n : Nat} {xs : List Int} (h : IntzAt w a n xs) (hb : Below w.heap.size w w') : IntzAt w' a n xs := by
  refine ⟨h.1, ?_⟩
  rcases h.2 with h0 | ⟨b, off, rfl, hc⟩
  · exact .inl h0
  · exact .inr ⟨b, off, rfl, fun i hi => (hb.cell (World.block_lt_of_cell? w _ (hc i hi))).trans (hc i hi)⟩
theorem IntzAt.none (w : World) (a : Option Addr) : IntzAt w a 0 [] := ⟨rfl, .inl rfl⟩
/-- A slice of ints of the call's own. -/
def OwnZ (w : World) (B : Nat) (v : Value) (xs : List Int) : Prop := w.ownsRow B 3 1 v xs.length (cellsZ xs)
theorem OwnZ.ints {w : World} {B : Nat} {v : Value} {xs : List Int} (h : OwnZ w B v xs) : ∃ a c, v = .slice a xs.length c ∧ IntzAt w a xs.length xs := by
  have ho' : w.ownsRow B 3 1 v xs.length (cellsZ xs) := h
  rcases h.2 with ⟨rfl, h0⟩ | ⟨g, cap, cur, rfl, hb, hg, hn, hm, hsz, ht⟩
  · exact ⟨Option.none, 0, by rw [h0], rfl, .inl h0⟩
  · refine ⟨_, cap, rfl, rfl, .inr ⟨g, 0, rfl, fun i hi => ?_⟩⟩
    rw [Nat.zero_add, ho'.cellAt i (by omega), cellsZ_get xs i hi]
theorem OwnZ.nil (w : World) (B : Nat) : OwnZ w B (.slice none 0 0) [] := World.ownsRow_nil _ _ _ _
theorem OwnZ.mono {w : World} {B B' : Nat} {v : Value} {xs : List Int} (h : OwnZ w B v xs) (hB : B' ≤ B) : OwnZ w B' v xs := by
  refine ⟨h.1, ?_⟩
  rcases h.2 with h0 | ⟨g, cap, cur, h1, hb, r⟩
  · exact .inl h0
  · exact .inr ⟨g, cap, cur, h1, Nat.le_trans hB hb, r⟩
theorem OwnZ.below {w w' : World} {B : Nat} {v : Value} {xs : List Int} (h : OwnZ w B v xs) (hb : Below w.heap.size w w') : OwnZ w' B v xs := by
  refine ⟨h.1, ?_⟩
  rcases h.2 with h0 | ⟨g, cap, cur, h1, hg, hgg, r⟩
  · exact .inl h0
  · exact .inr ⟨g, cap, cur, h1, hg, (hb.block g (Array.getElem?_eq_some_iff.1 hgg).1).trans hgg, r⟩
theorem OwnZ.at {w : World} {B : Nat} {v : Value} {xs : List Int} (h : OwnZ w B v xs) (hn : 0 < xs.length) :
    ∃ g cap, v = .slice (some ⟨g, 0, none⟩) xs.length cap ∧ B ≤ g ∧ g < w.heap.size ∧ (∀ i, i < xs.length → w.cell? ⟨g, i, none⟩ = some (.int .i64 (xs.getD i 0))) ∧ ∀ i, w.frozen? ⟨g, i, none⟩ = false := by
  have ho' : w.ownsRow B 3 1 v xs.length (cellsZ xs) := h
  rcases h.2 with ⟨rfl, h0⟩ | ⟨g, cap, cur, rfl, hb, hg, hn, hm, hsz, ht⟩
  · omega
  · refine ⟨g, cap, rfl, hb, (Array.getElem?_eq_some_iff.1 hg).1, fun i hi => ?_, fun i => ho'.frozenAt i⟩
    rw [ho'.cellAt i (by omega), cellsZ_get xs i hi]
theorem OwnZ.stored {w : World} {B g cap n : Nat} {xs : List Int} (h : OwnZ w B (.slice (some ⟨g, 0, none⟩) n cap) xs) (i : Nat) (x : Int) :
    OwnZ (w.setCell ⟨g, i, none⟩ (.int .i64 x)) B (.slice (some ⟨g, 0, none⟩) n cap) (xs.set i x) := by
  obtain rfl : n = xs.length := by
    obtain ⟨a, c, e, _⟩ := h.ints
    simp only [Value.slice.injEq] at e
    exact e.2.1
  have ho : w.ownsRow B 3 1 (.slice (some ⟨g, 0, none⟩) xs.length cap) xs.length (cellsZ xs) := h
  have := (ho.stored i (.int .i64 x)).1
  rw [cellsZ_set] at this
  show World.ownsRow _ B 3 1 _ (xs.set i x).length _
  rw [List.length_set]
  exact this
theorem info_intZ : (Tryz.prog.info? 3).map (fun i => (i.zero, i.size, i.bytes)) = some (some (.int .i64 0), 1, 8) := by kernel_rfl
theorem made_intz (w : World) (n : Nat) (hn : n ≤ 1048576) (xs : List Int) (hxs : xs = List.replicate n 0) :
    OwnZ (w.alloc (.cells (madeCells #[.int .i64 0] n) 3)) w.heap.size (.slice (some ⟨w.heap.size, 0, none⟩) n n) xs := by
  subst hxs
  refine ⟨by simp [cellsZ], .inr ⟨w.heap.size, n, madeCells #[.int .i64 0] n, by simp, Nat.le_refl _, heap_alloc_new w _, by simp, by unfold maxLen; omega, by simp [size_madeCells], ?_⟩⟩
  rw [toList_madeCells_one, List.take_of_length_le (by simp)]
  simp [cellsZ]
theorem make_intz (n : Nat) (hn : n ≤ 1048576) (wx : World) : (Instr.makeSlice 72 (.int .i64 (n : Int)) (.int .i64 (n : Int))).run Tryz.prog wx = .ok (.slice (some ⟨wx.heap.size, 0, none⟩) n n) (wx.alloc (.cells (madeCells #[.int .i64 0] n) 3)) := by
  obtain ⟨i0, hi0, hz0, hzs, hzb⟩ := info_parts info_intZ
  have := run_make (P := Tryz.prog) wx 72 3 i0 (.int .i64 0) Tryz.underlying72 hi0 hz0 .i64 .i64 (n : Int) (n : Int) (by omega) (Int.le_refl _) (by rw [hzb]; omega) (by omega)
  rw [hzs] at this
  simpa [Value.cells] using this
/-- What is written so far. -/
def filledZ (fs : List Int) (k : Nat) : List Int := fs.take k ++ List.replicate (fs.length - k) 0
theorem filledZ_zero (fs : List Int) : filledZ fs 0 = List.replicate fs.length 0 := by simp [filledZ]
theorem filledZ_all (fs : List Int) : filledZ fs fs.length = fs := by simp [filledZ]
theorem filledZ_length (fs : List Int) (k : Nat) (hk : k ≤ fs.length) : (filledZ fs k).length = fs.length := by simp [filledZ]; omega
theorem filledZ_succ (fs : List Int) (k : Nat) (hk : k < fs.length) : (filledZ fs k).set k (fs.getD k 0) = filledZ fs (k + 1) := by
  unfold filledZ
  have hl : (fs.take k).length = k := by simp; omega
  rw [List.set_append_right _ _ (by omega), hl, Nat.sub_self, List.take_succ_eq_append_getElem hk, List.append_assoc, show fs.length - k = (fs.length - (k + 1)) + 1 by omega, List.replicate_succ, List.set_cons_zero]
  simp [List.getD_eq_getElem?_getD, List.getElem?_eq_getElem hk]
/-- 'append(own, x)'. -/
theorem wpList_pushZ {w : World} {ops : Array Oper} {rest : List Oper} {o : Oper} {act : Act} {Q : Exit → Act → World → Prop} (hgd : o.guard = none) (s x : Operand)
    (ho : o.op = .call { callee := .builtin .append, args := #[s, x], argTypes := #[72, 72] }) (B : Nat) (v : Value) (xs : List Int) (y : Int)
    (hs : act.eval s = v) (hx : act.eval x = .slice (some ⟨w.heap.size, 0, none⟩) 1 1) (h : OwnZ w B v xs) (hB : B ≤ w.heap.size) (hn : xs.length ≤ 1048576)
    (hK : ∀ s' w', OwnZ w' B s' (xs ++ [y]) → Below B w w' → wpList Tryz.prog ops Q rest (act.put o.dst s') w') : wpList Tryz.prog ops Q (o :: rest) act (w.alloc (.cells #[.int .i64 y] 3)) := by
  obtain ⟨i0, hi, hz0, hz1, hz2⟩ := info_parts info_intZ
  have hb : Below w.heap.size w (w.alloc (.cells #[.int .i64 y] 3)) := (Below.refl _ _).alloc (Nat.le_refl _) _
  have h1 : (w.alloc (.cells #[.int .i64 y] 3)).ownsRow B 3 1 v xs.length (cellsZ xs) := h.below hb
  refine wpList_append_own _ hgd s x 72 ho B 3 i0 (.int .i64 0) 1 8 Tryz.underlying72 hi hz0 hz1 hz2 rfl (by decide) v xs.length (cellsZ xs) hs h1 ⟨w.heap.size, 0, none⟩ 1 1 [.int .i64 y] hx rfl (fun j u hj => ?_)
    (fun u hu => by rw [List.mem_singleton.1 hu]; rfl) (by unfold maxLen; omega) (by omega) (Nat.le_trans hB hb.size) ?_
  · match j with
    | 0 =>
      have hc : (w.alloc (.cells #[.int .i64 y] 3)).cell? ⟨w.heap.size, 0, none⟩ = some (.int .i64 y) := by rw [World.cell?_alloc_at _ _ _ _ rfl]; rfl
      simpa [Addr.add, hc] using hj
    | j + 1 => simp at hj
  · intro v' w' hown hgrow _
    refine hK v' w' ?_ ((hb.mono hB).grown hgrow (Nat.le_trans hB hb.size) fun k hk => (h1.lt k hk).1)
    rw [show cellsZ xs ++ [.int .i64 y] = cellsZ (xs ++ [y]) by simp [cellsZ]] at hown
    show w'.ownsRow B 3 1 v' (xs ++ [y]).length (cellsZ (xs ++ [y]))
    rw [List.length_append]
    exact hown
theorem max_runZ (x y : Int) (ts : Array TypeId) (t : TypeId) (w : World) : (Builtin.max_ ts t #[.int .i64 x, .int .i64 y]).run Tryz.prog w = .ok (.int .i64 (max x y)) w := by
  rw [run_max_int2]
  congr 2
  split <;> omega
theorem min_runZ (x y : Int) (ts : Array TypeId) (t : TypeId) (w : World) : (Builtin.min_ ts t #[.int .i64 x, .int .i64 y]).run Tryz.prog w = .ok (.int .i64 (min x y)) w := by
  rw [run_min_int2]
  congr 2
  split <;> omega
end Go.Proofs.YtbcgiodgobmkaaaGreatDoor
