/-
  Slices of texts that are made and written.
-/
import Derived.Test.YtcokmaofgfhapaaDoorTs
import Derived.Laws.MakeOwn
namespace Go.Proofs.YtcokmaofgfhapaaDoor
open Go.RowKit
set_option linter.unusedVariables false
set_option maxRecDepth 4000

theorem OwnT.at {w : World} {B : Nat} {v : Value} {ss : List ByteArray} (h : OwnT w B v ss) (hn : 0 < ss.length) :
    ∃ g cap, v = .slice (some ⟨g, 0, none⟩) ss.length cap ∧ B ≤ g ∧ g < w.heap.size ∧ (∀ i, i < ss.length → w.cell? ⟨g, i, none⟩ = some (.string (ss.getD i ByteArray.empty))) ∧ ∀ i, w.frozen? ⟨g, i, none⟩ = false := by
  have ho' : w.ownsRow B 9 1 v ss.length (cellsT ss) := h
  rcases h.2 with ⟨rfl, h0⟩ | ⟨g, cap, cur, rfl, hb, hg, hn, hm, hsz, ht⟩
  · omega
  · refine ⟨g, cap, rfl, hb, (Array.getElem?_eq_some_iff.1 hg).1, fun i hi => ?_, fun i => ho'.frozenAt i⟩
    rw [ho'.cellAt i (by omega), cellsT_get ss i hi]
theorem OwnT.stored {w : World} {B g cap n : Nat} {ss : List ByteArray} (h : OwnT w B (.slice (some ⟨g, 0, none⟩) n cap) ss) (i : Nat) (x : ByteArray) :
    OwnT (w.setCell ⟨g, i, none⟩ (.string x)) B (.slice (some ⟨g, 0, none⟩) n cap) (ss.set i x) := by
  obtain rfl : n = ss.length := by
    obtain ⟨a, c, e, _⟩ := h.texts
    simp only [Value.slice.injEq] at e
    exact e.2.1
  have ho : w.ownsRow B 9 1 (.slice (some ⟨g, 0, none⟩) ss.length cap) ss.length (cellsT ss) := h
  have := (ho.stored i (.string x)).1
  rw [show (cellsT ss).set i (.string x) = cellsT (ss.set i x) by simp [cellsT, List.map_set]] at this
  show World.ownsRow _ B 9 1 _ (ss.set i x).length _
  rw [List.length_set]
  exact this
theorem made_texts (w : World) (n : Nat) (hn : n ≤ 1048576) (ss : List ByteArray) (hss : ss = List.replicate n ByteArray.empty) :
    OwnT (w.alloc (.cells (madeCells #[.string ByteArray.empty] n) 9)) w.heap.size (.slice (some ⟨w.heap.size, 0, none⟩) n n) ss := by
  subst hss
  refine ⟨by simp [cellsT], .inr ⟨w.heap.size, n, madeCells #[.string ByteArray.empty] n, by simp, Nat.le_refl _, heap_alloc_new w _, by simp, by unfold maxLen; omega, by simp [size_madeCells], ?_⟩⟩
  rw [toList_madeCells_one, List.take_of_length_le (by simp)]
  simp [cellsT]
theorem make_texts (n : Nat) (hn : n ≤ 1048576) (wx : World) : (Instr.makeSlice 32 (.int .i64 (n : Int)) (.int .i64 (n : Int))).run Tryd.prog wx = .ok (.slice (some ⟨wx.heap.size, 0, none⟩) n n) (wx.alloc (.cells (madeCells #[.string ByteArray.empty] n) 9)) := by
  obtain ⟨i0, hi0, hz0, hzs, hzb⟩ := info_parts info_strT
  have := run_make (P := Tryd.prog) wx 32 9 i0 (.string ByteArray.empty) Tryd.underlying32 hi0 hz0 .i64 .i64 (n : Int) (n : Int) (by omega) (Int.le_refl _) (by rw [hzb]; omega) (by omega)
  rw [hzs] at this
  simpa [Value.cells] using this
end Go.Proofs.YtcokmaofgfhapaaDoor
