/-
  What a Mix gives, in one form. No condition.
  Slices of bools of one's own ('OwnF'): made, written. No condition.
-/
import Derived.Test.YtbcgiodgobmkaaaGreatDoorVN
import Derived.Test.YtbcgiodgobmkaaaGreatDoorU23
import Derived.Test.YtbcgiodgobmkaaaGreatDoorU3
import Derived.OwnWalk
import Derived.Laws.MakeOwn
namespace Go.Proofs.YtbcgiodgobmkaaaGreatDoor
open Go.RowKit Go.Sort
set_option linter.unusedVariables false
set_option linter.unusedSimpArgs false
set_option maxRecDepth 4000

theorem sameD_refl {p q : PD} (h : p = q) : sameD p q = true := by
  subst h
  unfold sameD
  rw [decide_eq_true_eq]
  exact ⟨⟨⟨rfl, rfl, rfl, rfl, rfl⟩, rfl⟩, cnt_of_zero _ (fun x hx => by
    obtain ⟨i, hi, rfl⟩ := List.mem_iff_getElem.1 hx
    have := xorL_getD p.xs p.xs i
    rw [List.getD_eq_getElem?_getD, List.getElem?_eq_getElem hi, Nat.xor_self] at this
    exact this)⟩
/-- No packet. -/
def zPK : PKV := ⟨0, 0, 0, 0, 0, ⟨none, 0, 0, [], ⟨#[]⟩⟩⟩
/-- What both give, in one form. -/
theorem MixR.pk {w w' : World} {o : Option PD} {e : Ending} (h : MixR w w' o e) : Below w.heap.size w w' ∧ ∃ q : PKV, e = .returned (.tuple #[q.val, .bool o.isSome]) ∧ q.pd = o.getD zPK.pd ∧ RowAt w' q.r.a q.r.n q.r.xs := by
  cases o with
  | none => exact ⟨h.1, zPK, h.2, rfl, row_none _⟩
  | some d =>
    obtain ⟨hb, q, hq, he, ho⟩ := h
    refine ⟨hb, q, he, hq, ?_⟩
    obtain ⟨_, _, e2, hr⟩ := ho.row
    simp only [Value.slice.injEq] at e2
    obtain ⟨rfl, h2, rfl⟩ := e2
    rw [h2]
    exact hr
end Go.Proofs.YtbcgiodgobmkaaaGreatDoor
namespace Go.Proofs.YtbcgiodgobmkaaaGreatDoor
open Go.RowKit
set_option linter.unusedVariables false
set_option linter.unusedSimpArgs false
set_option maxRecDepth 4000

/-- A slice of bools of the call's own. -/
def cellsF (bs : List Bool) : List Value := bs.map Value.bool
theorem cellsF_get (bs : List Bool) (i : Nat) (h : i < bs.length) : (cellsF bs)[i]? = some (.bool (bs.getD i false)) := by
  simp [cellsF, List.getElem?_eq_getElem h, List.getD_eq_getElem?_getD]
def OwnF (w : World) (B : Nat) (v : Value) (bs : List Bool) : Prop := w.ownsRow B 4 1 v bs.length (cellsF bs)
theorem OwnF.below {w w' : World} {B B' : Nat} {v : Value} {bs : List Bool} (h : OwnF w B v bs) (hb : Below B' w w') (hs : ∀ k, v.ownBlock = some k → k < B') : OwnF w' B v bs := by
  refine ⟨h.1, ?_⟩
  rcases h.2 with h0 | ⟨g, cap, cur, h1, hg, hgg, r⟩
  · exact .inl h0
  · exact .inr ⟨g, cap, cur, h1, hg, (hb.block g (hs g (by rw [h1]; rfl))).trans hgg, r⟩
theorem OwnF.kept {w w' : World} {B : Nat} {v : Value} {bs : List Bool} {k : Nat} (h : OwnF w B v bs) (hg : w.grownBy w' (some k)) (hk : k < B) : OwnF w' B v bs := by
  refine ⟨h.1, ?_⟩
  rcases h.2 with h0 | ⟨g, cap, cur, h1, hg1, hgg, r⟩
  · exact .inl h0
  · exact .inr ⟨g, cap, cur, h1, hg1, (hg.block g (Array.getElem?_eq_some_iff.1 hgg).1 (fun e => by have := Option.some.inj e; omega)).trans hgg, r⟩
theorem OwnF.at {w : World} {B g n c : Nat} {bs : List Bool} (h : OwnF w B (.slice (some ⟨g, 0, none⟩) n c) bs) : B ≤ g ∧ g < w.heap.size ∧ (∀ i, i < bs.length → w.cell? ⟨g, i, none⟩ = some (.bool (bs.getD i false))) ∧ ∀ i, w.frozen? ⟨g, i, none⟩ = false := by
  have ho' : w.ownsRow B 4 1 (.slice (some ⟨g, 0, none⟩) n c) bs.length (cellsF bs) := h
  rcases h.2 with ⟨e, h0⟩ | ⟨g', cap, cur, e, hb, hg, hn, hm, hsz, ht⟩
  · simp at e
  · simp only [Value.slice.injEq, Option.some.injEq, Addr.mk.injEq, and_true] at e
    obtain ⟨rfl, rfl, rfl⟩ := e
    refine ⟨hb, (Array.getElem?_eq_some_iff.1 hg).1, fun i hi => ?_, fun i => ho'.frozenAt i⟩
    rw [ho'.cellAt i (by omega), cellsF_get bs i hi]
theorem OwnF.stored {w : World} {B g n c : Nat} {bs : List Bool} (h : OwnF w B (.slice (some ⟨g, 0, none⟩) n c) bs) (i : Nat) (x : Bool) :
    OwnF (w.setCell ⟨g, i, none⟩ (.bool x)) B (.slice (some ⟨g, 0, none⟩) n c) (bs.set i x) := by
  have ho : w.ownsRow B 4 1 (.slice (some ⟨g, 0, none⟩) n c) bs.length (cellsF bs) := h
  obtain rfl : n = bs.length := by
    rcases h.2 with ⟨e, h0⟩ | ⟨g', cap, cur, e, _⟩
    · simp at e
    · simp only [Value.slice.injEq] at e
      exact e.2.1
  have := (ho.stored i (.bool x)).1
  rw [show (cellsF bs).set i (.bool x) = cellsF (bs.set i x) by simp [cellsF, List.map_set]] at this
  show World.ownsRow _ B 4 1 _ (bs.set i x).length _
  rw [List.length_set]
  exact this
theorem info_f : (Tryz.prog.info? 4).map (fun i => (i.zero, i.size, i.bytes)) = some (some (.bool false), 1, 1) := by kernel_rfl
theorem make_f (n : Nat) (hn : n ≤ 1048576) (wx : World) : (Instr.makeSlice 101 (.int .i64 (n : Int)) (.int .i64 (n : Int))).run Tryz.prog wx = .ok (.slice (some ⟨wx.heap.size, 0, none⟩) n n) (wx.alloc (.cells (madeCells #[.bool false] n) 4)) := by
  obtain ⟨i0, hi0, hz0, hzs, hzb⟩ := info_parts info_f
  have := run_make (P := Tryz.prog) wx 101 4 i0 (.bool false) Tryz.underlying101 hi0 hz0 .i64 .i64 (n : Int) (n : Int) (by omega) (Int.le_refl _) (by rw [hzb]; omega) (by omega)
  rw [hzs] at this
  simpa [Value.cells] using this
theorem made_f (w : World) (n : Nat) (hn : n ≤ 1048576) :
    OwnF (w.alloc (.cells (madeCells #[.bool false] n) 4)) w.heap.size (.slice (some ⟨w.heap.size, 0, none⟩) n n) (List.replicate n false) := by
  refine ⟨by simp [cellsF], .inr ⟨w.heap.size, n, madeCells #[.bool false] n, by simp, Nat.le_refl _, heap_alloc_new w _, by simp, by unfold maxLen; omega, by simp [size_madeCells], ?_⟩⟩
  rw [toList_madeCells_one, List.take_of_length_le (by simp)]
  simp [cellsF]
end Go.Proofs.YtbcgiodgobmkaaaGreatDoor
