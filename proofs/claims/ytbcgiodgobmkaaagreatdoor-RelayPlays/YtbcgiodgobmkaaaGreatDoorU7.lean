/-
  Slices of texts that can be read ('TextsAt'); slices of texts of the call's own ('OwnT'): made, appended to. No condition.
  Slices of deeds ('DeedsAt': a kind and a packet each). No condition.
  What the rows' frames of the relay share: its numbers and deeds that came in. No condition.
-/
import Derived.Test.YtbcgiodgobmkaaaGreatDoorU3
import Derived.OwnWalk
import Derived.Test.YtbcgiodgobmkaaaGreatDoorU6
namespace Go.Proofs.YtbcgiodgobmkaaaGreatDoor
open Go.RowKit
set_option linter.unusedVariables false
set_option linter.unusedSimpArgs false
set_option maxRecDepth 4000

/-- A slice of n texts that can be read: they are ss. -/
def TextsAt (w : World) (a : Option Addr) (n : Nat) (ss : List ByteArray) : Prop :=
  ss.length = n ∧ (n = 0 ∨ ∃ b off, a = some ⟨b, off, none⟩ ∧ ∀ i, i < n → w.cell? ⟨b, off + i, none⟩ = some (.string (ss.getD i ByteArray.empty)))
theorem TextsAt.at {w : World} {a : Option Addr} {n : Nat} {ss : List ByteArray} (h : TextsAt w a n ss) {i : Nat} (hi : i < n) :
    ∃ b off, a = some ⟨b, off, none⟩ ∧ ∀ i, i < n → w.cell? ⟨b, off + i, none⟩ = some (.string (ss.getD i ByteArray.empty)) := by
  rcases h.2 with h0 | h0
  · omega
  · exact h0
theorem TextsAt.below {w w' : World} {a : Option Addr} {n : Nat} {ss : List ByteArray} (h : TextsAt w a n ss) (hb : Below w.heap.size w w') : TextsAt w' a n ss := by
  refine ⟨h.1, ?_⟩
  rcases h.2 with h0 | ⟨b, off, rfl, hc⟩
  · exact .inl h0
  · exact .inr ⟨b, off, rfl, fun i hi => (hb.cell (World.block_lt_of_cell? w _ (hc i hi))).trans (hc i hi)⟩
def shorts (ss : List ByteArray) : Prop := ∀ s ∈ ss, s.size ≤ 1048576
theorem shorts.get {ss : List ByteArray} (h : shorts ss) (i : Nat) : (ss.getD i ByteArray.empty).size ≤ 1048576 := by
  rw [List.getD_eq_getElem?_getD]
  cases hx : ss[i]? with
  | none => simp
  | some x => exact h x (List.mem_of_getElem? hx)

theorem TextsAt.none (w : World) : TextsAt w none 0 [] := ⟨rfl, .inl rfl⟩
end Go.Proofs.YtbcgiodgobmkaaaGreatDoor
namespace Go.Proofs.YtbcgiodgobmkaaaGreatDoor
open Go.RowKit Go.Sort
set_option linter.unusedVariables false
set_option linter.unusedSimpArgs false
set_option maxRecDepth 4000

/-- A deed as it lies in memory: its kind, its packet. -/
structure DV where
  kd : Int
  p : PKV
/-- What stands behind the end of a list of deeds. -/
def DV.dflt : DV := ⟨0, .dflt⟩
/-- A slice of n deeds that can be read: they are ds. -/
def DeedsAt (w : World) (a : Option Addr) (n : Nat) (ds : List DV) : Prop :=
  ds.length = n ∧ (∀ i, i < n → RowAt w (ds.getD i .dflt).p.r.a (ds.getD i .dflt).p.r.n (ds.getD i .dflt).p.r.xs) ∧ (n = 0 ∨ ∃ b off, a = some ⟨b, off, none⟩ ∧ ∀ i, i < n → w.cell? ⟨b, off + i * 8, none⟩ = some (.int .i64 (ds.getD i .dflt).kd) ∧ PkCells w b (off + i * 8 + 1) (ds.getD i .dflt).p)
theorem DeedsAt.at {w : World} {a : Option Addr} {n : Nat} {ds : List DV} (h : DeedsAt w a n ds) {i : Nat} (hi : i < n) : ∃ b off, a = some ⟨b, off, none⟩ ∧ ∀ i, i < n → w.cell? ⟨b, off + i * 8, none⟩ = some (.int .i64 (ds.getD i .dflt).kd) ∧ PkCells w b (off + i * 8 + 1) (ds.getD i .dflt).p := by
  rcases h.2.2 with h0 | h0
  · omega
  · exact h0
theorem DeedsAt.below {w w' : World} {a : Option Addr} {n : Nat} {ds : List DV} (h : DeedsAt w a n ds) (hb : Below w.heap.size w w') : DeedsAt w' a n ds := by
  refine ⟨h.1, fun i hi => (h.2.1 i hi).below hb, ?_⟩
  rcases h.2.2 with h0 | ⟨b, off, rfl, hc⟩
  · exact .inl h0
  · exact .inr ⟨b, off, rfl, fun i hi => ⟨(hb.cell (p := ⟨b, off + i * 8, none⟩) (World.block_lt_of_cell? w _ (hc i hi).1)).trans (hc i hi).1, (hc i hi).2.below hb⟩⟩
/-- Deeds that are not too many, nor too long. -/
def FewDs (ds : List DV) : Prop := ds.length ≤ 60 ∧ ∀ i, (ds.getD i .dflt).p.r.n ≤ 10 ∧ (ds.getD i .dflt).p.r.s.size ≤ 1000
end Go.Proofs.YtbcgiodgobmkaaaGreatDoor
namespace Go.Proofs.YtbcgiodgobmkaaaGreatDoor
open Go.ChangeShapes Go.WideShapes Go.ChangeAt Go.RowKit
set_option linter.unusedVariables false
set_option linter.unusedSimpArgs false
set_option maxRecDepth 4000

theorem row_of {W : World} {H : Type} {enc : TypeId × Value → H} {a : Option Addr} {len cap : Nat} {d : DataW H} {ps : List MemPlace}
    (h : DataW.Trod enc Tryz.prog W 0 (fun _ => true) true 25 (.slice a len cap) d ps) : ∃ xs, RowAt W a len xs := by
  obtain ⟨fuel, hf⟩ := h
  obtain ⟨a', l', c', xs, e, hr, _⟩ := row_cells (v := .slice a len cap) hf
  simp only [Value.slice.injEq] at e
  obtain ⟨rfl, rfl, rfl⟩ := e
  exact ⟨xs, hr⟩
theorem cellsMd : Tryz.prog.cellsOf 23 = 2 := by kernel_rfl
/-- The numbers of a relay, that came in by value. -/
theorem mad2_of {W : World} {H : Type} {enc : TypeId × Value → H} {base : Nat} {v : Value} {d : DataW H} {ps : List MemPlace} (hv : Value.okWide Tryz.prog W .any base 23 v)
    (h : DataW.Trod enc Tryz.prog W 0 (fun _ => true) true 23 v d ps) :
    ∃ (k z : Int), v = .agg #[.int .i64 k, .int .i64 z] := by
  obtain ⟨cs, rfl, hsz⟩ := okWide_struct Tryz.underlying23 hv
  obtain ⟨c0, c1, rfl⟩ := array2 (hsz.trans cellsMd)
  obtain ⟨fuel, hf⟩ := h
  obtain ⟨ys, n, _, _, _, hlen, hf⟩ := DataW.trod_struct Tryz.underlying23 hf
  have hl : ys.length = 2 := hlen
  obtain ⟨y0, e0⟩ := some_of (l := ys) (i := 0) (by omega)
  obtain ⟨y1, e1⟩ := some_of (l := ys) (i := 1) (by omega)
  have f0 := (hf 0 _ rfl).trans e0
  have f1 := (hf 1 _ rfl).trans e1
  simp only [Value.cells] at f0 f1
  obtain ⟨k, rfl⟩ := int_cell f0
  obtain ⟨z, rfl⟩ := int_cell f1
  exact ⟨k, z, rfl⟩
theorem cellsDeed : Tryz.prog.cellsOf 44 = 8 := by kernel_rfl
/-- Eight cells that are a deed. -/
theorem deed_cells {W : World} {H : Type} {enc : TypeId × Value → H} {fuel : Nat} {cs : List Value} {x : DataW H × List MemPlace} (hl8 : cs.length = 8)
    (h : DataW.trod enc Tryz.prog W 0 (fun _ => true) true fuel 44 cs = some x) :
    ∃ d : DV, cs = [.int .i64 d.kd, .int .i64 d.p.o, .int .i64 d.p.l, .int .i64 d.p.k, .int .i64 d.p.z, .int .i64 d.p.h, .slice d.p.r.a d.p.r.n d.p.r.c, .string d.p.r.s] ∧ RowAt W d.p.r.a d.p.r.n d.p.r.xs ∧ d.p.r.n ≤ 9223372036854775807 ∧ d.p.r.n ≤ d.p.r.c ∧ d.p.r.s.size ≤ 9223372036854775807 := by
  match cs, hl8 with
  | [c0, c1, c2, c3, c4, c5, c6, c7], _ =>
    obtain ⟨ys, n, _, _, _, hlen, hf⟩ := DataW.trod_struct Tryz.underlying44 h
    have hl : ys.length = 2 := hlen
    obtain ⟨y0, e0⟩ := some_of (l := ys) (i := 0) (by omega)
    obtain ⟨y1, e1⟩ := some_of (l := ys) (i := 1) (by omega)
    have f0 := (hf 0 _ rfl).trans e0
    have f1 := (hf 1 _ rfl).trans e1
    obtain ⟨kd, rfl⟩ := int_cell f0
    obtain ⟨p, hp, hr⟩ := pkt_cells (cs := [c1, c2, c3, c4, c5, c6, c7]) rfl f1
    exact ⟨⟨kd, p⟩, by rw [hp], hr⟩
theorem list_of8 (Q : Nat → DV → Prop) : ∀ n, (∀ i, i < n → ∃ r, Q i r) → ∃ rs : List DV, rs.length = n ∧ ∀ i, i < n → Q i (rs.getD i .dflt)
  | 0, _ => ⟨[], rfl, fun i hi => by omega⟩
  | n + 1, h => by
    obtain ⟨rs, hl, hr⟩ := list_of8 Q n (fun i hi => h i (by omega))
    obtain ⟨r, hp⟩ := h n (by omega)
    refine ⟨rs ++ [r], by simp [hl], fun i hi => ?_⟩
    by_cases e : i < n
    · have := hr i e
      rwa [show (rs ++ [r]).getD i .dflt = rs.getD i .dflt from by simp [List.getD_eq_getElem?_getD, List.getElem?_append_left (show i < rs.length by omega)]]
    · obtain rfl : i = n := by omega
      rwa [show (rs ++ [r]).getD i .dflt = r from by simp [List.getD_eq_getElem?_getD, ← hl]]
/-- A slice of deeds that came in can be read. -/
theorem deeds_of {W : World} {H : Type} {enc : TypeId × Value → H} {a : Option Addr} {len cap : Nat} {d : DataW H} {ps : List MemPlace}
    (h : DataW.Trod enc Tryz.prog W 0 (fun _ => true) true 24 (.slice a len cap) d ps) : ∃ qs, DeedsAt W a len qs ∧ len ≤ 9223372036854775807 ∧ len ≤ cap ∧
      (∀ i, (qs.getD i .dflt).p.r.n ≤ 9223372036854775807 ∧ (qs.getD i .dflt).p.r.s.size ≤ 9223372036854775807) ∧ ∀ i, i < qs.length → (qs.getD i .dflt).p.r.n ≤ (qs.getD i .dflt).p.r.c := by
  obtain ⟨fuel, hf⟩ := h
  rcases Go.Deep.open_slice Tryz.underlying24 hf with ⟨hcs, _⟩ | ⟨x, l, c, m, n, D, Pl, hcs, _, hl, hm, hmm, _, hx⟩
  · simp [Value.cells] at hcs
    obtain ⟨rfl, rfl, rfl⟩ := hcs
    exact ⟨[], ⟨rfl, fun i hi => by omega, .inl rfl⟩, by decide, by decide, fun i => ⟨Nat.zero_le _, Nat.zero_le _⟩, fun i hi => by simp at hi⟩
  · simp [Value.cells] at hcs
    obtain ⟨rfl, rfl, rfl⟩ := hcs
    have hmc : m = cap := by simpa using hmm
    have hcap := max_len hm
    obtain ⟨qs, hql, hq⟩ := list_of8 (fun i d => (∀ j u, [(.int .i64 d.kd : Value), .int .i64 d.p.o, .int .i64 d.p.l, .int .i64 d.p.k, .int .i64 d.p.z, .int .i64 d.p.h, .slice d.p.r.a d.p.r.n d.p.r.c, .string d.p.r.s][j]? = some u → W.cell? ((x.add (i * 8)).add j) = some u) ∧ RowAt W d.p.r.a d.p.r.n d.p.r.xs ∧ d.p.r.n ≤ 9223372036854775807 ∧ d.p.r.n ≤ d.p.r.c ∧ d.p.r.s.size ≤ 9223372036854775807) len (fun i hi => by
      obtain ⟨cs', h1, h2⟩ := hx i (by omega)
      rw [cellsDeed] at h1
      obtain ⟨_, hlen, hcell⟩ := World.cells?_some h1
      obtain ⟨p, rfl, hr⟩ := deed_cells hlen h2
      exact ⟨p, fun j u hj => (hcell j (by have := (List.getElem?_eq_some_iff.1 hj).1; simpa using this)).trans hj, hr⟩)
    refine ⟨qs, ⟨hql, fun i hi => (hq i hi).2.1, ?_⟩, by omega, hl, fun i => ?_, fun i hi => (hq i (by omega)).2.2.2.1⟩
    · by_cases h0 : len = 0
      · exact .inl h0
      · obtain ⟨b, off, spot⟩ := x
        have hc := (hq 0 (by omega)).1 0 _ rfl
        have hspot : spot = none := by simpa [Addr.add] using World.cell?_spot hc
        subst hspot
        refine .inr ⟨b, off, rfl, fun i hi => ?_⟩
        have hc := (hq i hi).1
        refine ⟨?_, ?_, ?_, ?_, ?_, ?_, ?_, ?_⟩
        · have := hc 0 _ rfl; rwa [add_none, add_none] at this
        · have := hc 1 _ rfl; rwa [add_none, add_none] at this
        · have := hc 2 _ rfl; rwa [add_none, add_none] at this
        · have := hc 3 _ rfl; rwa [add_none, add_none] at this
        · have := hc 4 _ rfl; rwa [add_none, add_none] at this
        · have := hc 5 _ rfl; rwa [add_none, add_none] at this
        · have := hc 6 _ rfl; rwa [add_none, add_none] at this
        · have := hc 7 _ rfl; rwa [add_none, add_none] at this
    · by_cases hi : i < len
      · exact ⟨(hq i hi).2.2.1, (hq i hi).2.2.2.2⟩
      · rw [List.getD_eq_getElem?_getD, List.getElem?_eq_none (by omega)]
        exact ⟨Nat.zero_le _, Nat.zero_le _⟩
end Go.Proofs.YtbcgiodgobmkaaaGreatDoor
