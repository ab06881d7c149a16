/-
  A slice of words cut at its end. No condition.
  slices.Sort at []int in this program: the shelf's contract, laid at this program's own numbers, and what it leaves of a slice of the call's own. Condition: at most 2^20 numbers.
  Slices of bools of one's own ('OwnF'): made, written. No condition.
  Contract of bucketlineref01.Ints, of equal slices of at most 2^20 ints.
-/
import Derived.Test.YtfimbbiholllhaaDoorM1
import Derived.Test.YtfimbbiholllhaaDoorM2
import Derived.Test.YtfimbbiholllhaaDoorM4
import Derived.Shelf.Sort.Plain
import Derived.Shelf.Slices.In.SortNone
import Derived.Sort.OwnSortedInts
import Derived.OwnWalk
import Derived.Laws.MakeOwn
namespace Go.Proofs.YtfimbbiholllhaaDoor
open Go.RowKit
set_option linter.unusedVariables false
set_option maxRecDepth 4000

theorem elem_u64s : Tryd.prog.underlying 34 = some (.slice (Tryd.prog.elem 34)) := by kernel_rfl
theorem elem_u64s' : Tryd.prog.elem 34 = 47 := by kernel_rfl
theorem uslice_hi (a : Option Addr) (n c q : Nat) (hc : q ≤ c) (w : World) :
    (Instr.sliceAt 34 (.slice a n c) none (some (.int .i64 (q : Int))) none).run Tryd.prog w = .ok (.slice a q c) w := by
  have hz : ∀ w : World, (sizeOf 47).run Tryd.prog w = .ok 1 w := fun w => by kernel_rfl
  rw [run_sliceAt_slice _ _ _ _ _ _ elem_u64s, run_slice_h _ _ _ _ _ elem_u64s _ _ (by omega) (by omega), elem_u64s', hz]
  cases a <;> simp [Result.andThen, sliced, Addr.add]
theorem RowAt.take {w : World} {a : Option Addr} {n : Nat} {xs : List Nat} (h : RowAt w a n xs) {k : Nat} (hk : k ≤ n) : RowAt w a k (xs.take k) := by
  refine ⟨by rw [List.length_take, h.1]; omega, fun x hx => h.2.1 x (List.mem_of_mem_take hx), ?_⟩
  rcases h.2.2 with h0 | ⟨b, off, rfl, hc⟩
  · left; omega
  · refine .inr ⟨b, off, rfl, fun i hi => ?_⟩
    rw [hc i (by omega), List.getD_eq_getElem?_getD, List.getD_eq_getElem?_getD, List.getElem?_take_of_lt hi]
end Go.Proofs.YtfimbbiholllhaaDoor
namespace Go.Proofs.YtfimbbiholllhaaDoor
open Go.RowKit Go.Shelf Go.Sort
set_option linter.unusedVariables false
set_option maxRecDepth 4000

def sren : Ren := ⟨fun | 125 => 62 | 128 => 76 | 129 => 77 | 189 => 51 | 215 => 84 | 216 => 73 | 257 => 61 | 294 => 67 | 295 => 68 | 296 => 69 | 297 => 70 | 298 => 71 | 299 => 72 | 300 => 74 | 301 => 75 | 328 => 79 | 329 => 80 | 330 => 81 | 331 => 82 | 332 => 83 | 343 => 86 | n => n, fun | 0 => 0 | 3 => 3 | 4 => 4 | 5 => 5 | 9 => 9 | 28 => 27 | 46 => 76 | 51 => 101 | 53 => 47 | 131 => 98 | 182 => 93 | 183 => 94 | 218 => 102 | 222 => 106 | 228 => 108 | 229 => 109 | n => n, fun | n => n⟩
theorem slays189 : Lays.n189 Tryd.prog sren := {
  mixed := by kernel_rfl
  f125 := Tryd.func62.trans (congrArg some (by kernel_rfl))
  f128 := Tryd.func76.trans (congrArg some (by kernel_rfl))
  f129 := Tryd.func77.trans (congrArg some (by kernel_rfl))
  f189 := Tryd.func51.trans (congrArg some (by kernel_rfl))
  f215 := Tryd.func84.trans (congrArg some (by kernel_rfl))
  f216 := Tryd.func73.trans (congrArg some (by kernel_rfl))
  f257 := Tryd.func61.trans (congrArg some (by kernel_rfl))
  f294 := Tryd.func67.trans (congrArg some (by kernel_rfl))
  f295 := Tryd.func68.trans (congrArg some (by kernel_rfl))
  f296 := Tryd.func69.trans (congrArg some (by kernel_rfl))
  f297 := Tryd.func70.trans (congrArg some (by kernel_rfl))
  f298 := Tryd.func71.trans (congrArg some (by kernel_rfl))
  f299 := Tryd.func72.trans (congrArg some (by kernel_rfl))
  f300 := Tryd.func74.trans (congrArg some (by kernel_rfl))
  f301 := Tryd.func75.trans (congrArg some (by kernel_rfl))
  f328 := Tryd.func79.trans (congrArg some (by kernel_rfl))
  f329 := Tryd.func80.trans (congrArg some (by kernel_rfl))
  f330 := Tryd.func81.trans (congrArg some (by kernel_rfl))
  f331 := Tryd.func82.trans (congrArg some (by kernel_rfl))
  f332 := Tryd.func83.trans (congrArg some (by kernel_rfl))
  f343 := Tryd.func86.trans (congrArg some (by kernel_rfl))
  t0 := Tryd.underlying0
  a0 := Tryd.isAgg0
  z0 := Tryd.sizeOf0
  v0 := Tryd.zeroValue0
  t3 := Tryd.underlying3
  a3 := Tryd.isAgg3
  z3 := Tryd.sizeOf3
  v3 := Tryd.zeroValue3
  t4 := Tryd.underlying4
  a4 := Tryd.isAgg4
  z4 := Tryd.sizeOf4
  v4 := Tryd.zeroValue4
  t5 := Tryd.underlying5
  a5 := Tryd.isAgg5
  z5 := Tryd.sizeOf5
  v5 := Tryd.zeroValue5
  t9 := Tryd.underlying9
  a9 := Tryd.isAgg9
  z9 := Tryd.sizeOf9
  v9 := Tryd.zeroValue9
  t28 := Tryd.underlying27
  a28 := Tryd.isAgg27
  z28 := Tryd.sizeOf27
  v28 := Tryd.zeroValue27
  t46 := Tryd.underlying76
  a46 := Tryd.isAgg76
  z46 := Tryd.sizeOf76
  v46 := Tryd.zeroValue76
  t51 := Tryd.underlying101
  a51 := Tryd.isAgg101
  z51 := Tryd.sizeOf101
  v51 := Tryd.zeroValue101
  t53 := Tryd.underlying47
  a53 := Tryd.isAgg47
  z53 := Tryd.sizeOf47
  v53 := Tryd.zeroValue47
  t131 := Tryd.underlying98
  a131 := Tryd.isAgg98
  z131 := Tryd.sizeOf98
  v131 := Tryd.zeroValue98
  t182 := Tryd.underlying93
  a182 := Tryd.isAgg93
  z182 := Tryd.sizeOf93
  v182 := Tryd.zeroValue93
  t183 := Tryd.underlying94
  a183 := Tryd.isAgg94
  z183 := Tryd.sizeOf94
  v183 := Tryd.zeroValue94
  t218 := Tryd.underlying102
  a218 := Tryd.isAgg102
  z218 := Tryd.sizeOf102
  v218 := Tryd.zeroValue102
  t222 := Tryd.underlying106
  a222 := Tryd.isAgg106
  z222 := Tryd.sizeOf106
  v222 := Tryd.zeroValue106
  t228 := Tryd.underlying108
  a228 := Tryd.isAgg108
  z228 := Tryd.sizeOf108
  v228 := Tryd.zeroValue108
  t229 := Tryd.underlying109
  a229 := Tryd.isAgg109
  z229 := Tryd.sizeOf109
  v229 := Tryd.zeroValue109 }

theorem cellsZ_map (xs : List Int) : cellsZ xs = xs.map (Value.int .i64) := rfl
/-- slices.Sort of a slice of the call's own. -/
theorem sort_any (B : Nat) (v : Value) (xs : List Int) (w : World) (h : OwnZ w B v xs) (hn : xs.length ≤ 1048576) :
    Calls Tryd.prog 51 #[v] w fun e w' => e = .returned (.tuple #[]) ∧ OwnZ w' B v (xs.mergeSort fun x y => decide (x ≤ y)) ∧ w.grownBy w' v.ownBlock := by
  have h0 : w.ownsRow B 3 1 v xs.length (cellsZ xs) := h
  rcases h0.2 with ⟨rfl, hz⟩ | ⟨g, cap, cur, rfl, hb, hg, hn1, hm, hsz, ht⟩
  · obtain rfl : xs = [] := List.eq_nil_of_length_eq_zero hz
    refine (calls_of_every_depth fun D => AnyS.slices_Sort_int_none_in slays189 D none 0 w).mono ?_
    rintro e w' ⟨rfl, hw⟩
    obtain rfl := hw.symm
    exact ⟨rfl, by simpa using h, gb_refl _ _⟩
  · have hH : Holds (Value.int .i64) w g 0 xs.toArray := holds_of_blockI hg (by simpa [cellsZ_map] using ht)
    refine (Any.slices_Sort_int slays189 g 0 cap xs w hH (Array.getElem?_eq_some_iff.1 hg).1 (by omega)).mono ?_
    rintro e w' ⟨rfl, q, os, rfl⟩
    have hl : (xs.mergeSort fun x y => decide (x ≤ y)).length = xs.length := by simp
    refine ⟨rfl, ?_, by simpa [Value.ownBlock] using grownBy_sortedI _⟩
    show World.ownsRow _ B 3 1 _ (xs.mergeSort fun x y => decide (x ≤ y)).length _
    have := ownsRow_sortedI (n := q) (os := os) hl hb hg hn1 hm hsz
    rw [hl, cellsZ_map]
    exact this
end Go.Proofs.YtfimbbiholllhaaDoor
namespace Go.Proofs.YtfimbbiholllhaaDoor
open Go.RowKit
set_option linter.unusedVariables false
set_option maxRecDepth 4000

/-- A slice of bools of the call's own. -/
def cellsF (bs : List Bool) : List Value := bs.map Value.bool
theorem cellsF_length (bs : List Bool) : (cellsF bs).length = bs.length := by simp [cellsF]
theorem cellsF_get (bs : List Bool) (i : Nat) (h : i < bs.length) : (cellsF bs)[i]? = some (.bool (bs.getD i false)) := by
  simp [cellsF, List.getElem?_eq_getElem h, List.getD_eq_getElem?_getD]
def OwnF (w : World) (B : Nat) (v : Value) (bs : List Bool) : Prop := w.ownsRow B 4 1 v bs.length (cellsF bs)
theorem OwnF.below {w w' : World} {B B' : Nat} {v : Value} {bs : List Bool} (h : OwnF w B v bs) (hb : Below B' w w') (hs : ∀ k, v.ownBlock = some k → k < B') : OwnF w' B v bs := by
  refine ⟨h.1, ?_⟩
  rcases h.2 with h0 | ⟨g, cap, cur, h1, hg, hgg, r⟩
  · exact .inl h0
  · exact .inr ⟨g, cap, cur, h1, hg, (hb.block g (hs g (by rw [h1]; rfl))).trans hgg, r⟩
theorem OwnF.kept {w w' : World} {B : Nat} {v : Value} {bs : List Bool} {k : Nat} (h : OwnF w B v bs) (hg : w.grownBy w' (some k)) (hk : k < B) : OwnF w' B v bs := by
  refine ⟨h.1, ?_⟩
  rcases h.2 with h0 | ⟨g, cap, cur, h1, hg1, hgg, r⟩
  · exact .inl h0
  · exact .inr ⟨g, cap, cur, h1, hg1, (hg.block g (Array.getElem?_eq_some_iff.1 hgg).1 (fun e => by have := Option.some.inj e; omega)).trans hgg, r⟩
theorem OwnF.at {w : World} {B g n c : Nat} {bs : List Bool} (h : OwnF w B (.slice (some ⟨g, 0, none⟩) n c) bs) : B ≤ g ∧ g < w.heap.size ∧ (∀ i, i < bs.length → w.cell? ⟨g, i, none⟩ = some (.bool (bs.getD i false))) ∧ ∀ i, w.frozen? ⟨g, i, none⟩ = false := by
  have ho' : w.ownsRow B 4 1 (.slice (some ⟨g, 0, none⟩) n c) bs.length (cellsF bs) := h
  rcases h.2 with ⟨e, h0⟩ | ⟨g', cap, cur, e, hb, hg, hn, hm, hsz, ht⟩
  · simp at e
  · simp only [Value.slice.injEq, Option.some.injEq, Addr.mk.injEq, and_true] at e
    obtain ⟨rfl, rfl, rfl⟩ := e
    refine ⟨hb, (Array.getElem?_eq_some_iff.1 hg).1, fun i hi => ?_, fun i => ho'.frozenAt i⟩
    rw [ho'.cellAt i (by omega), cellsF_get bs i hi]
theorem OwnF.stored {w : World} {B g n c : Nat} {bs : List Bool} (h : OwnF w B (.slice (some ⟨g, 0, none⟩) n c) bs) (i : Nat) (x : Bool) :
    OwnF (w.setCell ⟨g, i, none⟩ (.bool x)) B (.slice (some ⟨g, 0, none⟩) n c) (bs.set i x) := by
  have ho : w.ownsRow B 4 1 (.slice (some ⟨g, 0, none⟩) n c) bs.length (cellsF bs) := h
  obtain rfl : n = bs.length := by
    rcases h.2 with ⟨e, h0⟩ | ⟨g', cap, cur, e, _⟩
    · simp at e
    · simp only [Value.slice.injEq] at e
      exact e.2.1
  have := (ho.stored i (.bool x)).1
  rw [show (cellsF bs).set i (.bool x) = cellsF (bs.set i x) by simp [cellsF, List.map_set]] at this
  show World.ownsRow _ B 4 1 _ (bs.set i x).length _
  rw [List.length_set]
  exact this
theorem info_f : (Tryd.prog.info? 4).map (fun i => (i.zero, i.size, i.bytes)) = some (some (.bool false), 1, 1) := by kernel_rfl
theorem make_f (n : Nat) (hn : n ≤ 1048576) (wx : World) : (Instr.makeSlice 55 (.int .i64 (n : Int)) (.int .i64 (n : Int))).run Tryd.prog wx = .ok (.slice (some ⟨wx.heap.size, 0, none⟩) n n) (wx.alloc (.cells (madeCells #[.bool false] n) 4)) := by
  obtain ⟨i0, hi0, hz0, hzs, hzb⟩ := info_parts info_f
  have := run_make (P := Tryd.prog) wx 55 4 i0 (.bool false) Tryd.underlying55 hi0 hz0 .i64 .i64 (n : Int) (n : Int) (by omega) (Int.le_refl _) (by rw [hzb]; omega) (by omega)
  rw [hzs] at this
  simpa [Value.cells] using this
theorem made_f (w : World) (n : Nat) (hn : n ≤ 1048576) :
    OwnF (w.alloc (.cells (madeCells #[.bool false] n) 4)) w.heap.size (.slice (some ⟨w.heap.size, 0, none⟩) n n) (List.replicate n false) := by
  refine ⟨by simp [cellsF], .inr ⟨w.heap.size, n, madeCells #[.bool false] n, by simp, Nat.le_refl _, heap_alloc_new w _, by simp, by unfold maxLen; omega, by simp [size_madeCells], ?_⟩⟩
  rw [toList_madeCells_one, List.take_of_length_le (by simp)]
  simp [cellsF]
end Go.Proofs.YtfimbbiholllhaaDoor
namespace Go.Proofs.YtfimbbiholllhaaDoor
open Go.RowKit
set_option linter.unusedVariables false
set_option maxRecDepth 4000

set_option maxHeartbeats 1000000 in
theorem intz_any (a : Option Addr) (n c : Nat) (xs : List Int) (a' : Option Addr) (m c' : Nat) (ys : List Int) (w : World) (h : IntzAt w a n xs) (h' : IntzAt w a' m ys) (he : xs = ys) (hn : n ≤ 1048576) :
    Calls Tryd.prog 11 #[.slice a n c, .slice a' m c'] w fun e w' => e = .returned (.bool true) ∧ Below w.heap.size w w' := by
  subst he
  obtain rfl : n = xs.length := h.1.symm
  obtain rfl : m = xs.length := h'.1.symm
  go_enter Tryd.func11, Tryd.ntmps11
  go_wp2
  go_loopw [5] (fun i wr => ∃ k : Nat, k ≤ xs.length ∧ i = .int .i64 k ∧ Hid (Below w.heap.size w wr)) (fun i _ => xs.length - (intOf i).toNat)
  case atStart => exact ⟨0, Nat.zero_le _, rfl, hide (Below.refl _ _)⟩
  case round =>
    obtain ⟨k, hk, rfl, HB⟩ := hrel
    have hB := unhide HB
    by_cases hlt : k < xs.length
    · obtain ⟨b, off, rfl, hc⟩ := (h.below hB).at hlt
      have hcell := hc k hlt
      obtain ⟨b2, off2, rfl, hc2⟩ := (h'.below hB).at hlt
      have hcell2 := hc2 k hlt
      clear hc hc2 h h'
      generalize xs.getD k 0 = x at *
      go_wp2_with fail
      go_quiet (fail)
      go_wp2
      go_roundw
      case rel => exact ⟨k + 1, by omega, by go_num, hide (below_drewN (unhide HB) _)⟩
      case measure => simp [intOf]; omega
    · clear h h'
      go_wp2
      go_ret
      exact ⟨rfl, unhide HB⟩
end Go.Proofs.YtfimbbiholllhaaDoor
