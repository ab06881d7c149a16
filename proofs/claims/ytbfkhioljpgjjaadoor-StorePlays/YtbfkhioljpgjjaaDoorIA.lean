/-
  A block of five cells; rows of one's own; the store in memory ('StAt'); what a put makes of rows. No condition.
-/
import Derived.Test.YtbfkhioljpgjjaaDoorRk
import Derived.Test.YtbfkhioljpgjjaaDoorSC
import Derived.Test.YtbfkhioljpgjjaaDoorTu
import Derived.Deep.RegionHeld3
import Derived.Deep.AppendLies
import Derived.BigQuiet
namespace Go.Proofs.YtbfkhioljpgjjaaDoor
open Go.RowKit Go.Sort
set_option linter.unusedVariables false
set_option maxRecDepth 4000


/-- A block of five cells, none of them frozen. -/
def Bk5 (T : TypeId) (w : World) (g : Nat) (v0 v1 v2 v3 v4 : Value) : Prop := w.heap[g]? = some (.cells #[v0, v1, v2, v3, v4] T (0, 0))
theorem bk5_new (T : TypeId) (w : World) (v0 v1 v2 v3 v4 : Value) : Bk5 T (w.alloc (.cells #[v0, v1, v2, v3, v4] T)) w.heap.size v0 v1 v2 v3 v4 := by
  show (w.heap.push _)[w.heap.size]? = _
  simp
theorem Bk5.lt {T : TypeId} {w : World} {g : Nat} {v0 v1 v2 v3 v4 : Value} (h : Bk5 T w g v0 v1 v2 v3 v4) : g < w.heap.size := (Array.getElem?_eq_some_iff.1 h).1
theorem Bk5.belowB {T : TypeId} {w w' : World} {g B : Nat} {v0 v1 v2 v3 v4 : Value} (h : Bk5 T w g v0 v1 v2 v3 v4) (hb : Below B w w') (hg : g < B) : Bk5 T w' g v0 v1 v2 v3 v4 := (hb.block g hg).trans h
theorem Bk5.below {T : TypeId} {w w' : World} {g : Nat} {v0 v1 v2 v3 v4 : Value} (h : Bk5 T w g v0 v1 v2 v3 v4) (hb : Below w.heap.size w w') : Bk5 T w' g v0 v1 v2 v3 v4 := h.belowB hb h.lt
theorem Bk5.tu {T : TypeId} {F : Nat → Prop} {w w' : World} {g : Nat} {v0 v1 v2 v3 v4 : Value} (h : Bk5 T w g v0 v1 v2 v3 v4) (ht : Tu F w w') (hF : ¬ F g) : Bk5 T w' g v0 v1 v2 v3 v4 := (ht.block g h.lt hF).trans h
theorem Bk5.kept {T : TypeId} {w w' : World} {g : Nat} {v0 v1 v2 v3 v4 : Value} {row : Option Nat} (h : Bk5 T w g v0 v1 v2 v3 v4) (hg : w.grownBy w' row) (hne : some g ≠ row) : Bk5 T w' g v0 v1 v2 v3 v4 := (hg.block g h.lt hne).trans h
theorem Bk5.at {T : TypeId} {w : World} {g : Nat} {v0 v1 v2 v3 v4 : Value} (h : Bk5 T w g v0 v1 v2 v3 v4) : w.cell? ⟨g, 0, none⟩ = some v0 ∧ w.cell? ⟨g, 1, none⟩ = some v1 ∧ w.cell? ⟨g, 2, none⟩ = some v2 ∧ w.cell? ⟨g, 3, none⟩ = some v3 ∧ w.cell? ⟨g, 4, none⟩ = some v4 := by
  unfold Bk5 at h
  refine ⟨?_, ?_, ?_, ?_, ?_⟩ <;> (rw [cell_of_row w g _ _ _ _ h]; rfl)
theorem Bk5.frz {T : TypeId} {w : World} {g : Nat} {v0 v1 v2 v3 v4 : Value} (h : Bk5 T w g v0 v1 v2 v3 v4) (i : Nat) : w.frozen? ⟨g, i, none⟩ = false := by
  unfold Bk5 at h
  simp [World.frozen?, h]
theorem Bk5.set3 {T : TypeId} {w : World} {g : Nat} {v0 v1 v2 v3 v4 : Value} (h : Bk5 T w g v0 v1 v2 v3 v4) (u : Value) : Bk5 T (w.setCell ⟨g, 3, none⟩ u) g v0 v1 v2 u v4 := heap_setCell_same w g 3 _ _ u h
theorem Bk5.set4 {T : TypeId} {w : World} {g : Nat} {v0 v1 v2 v3 v4 : Value} (h : Bk5 T w g v0 v1 v2 v3 v4) (u : Value) : Bk5 T (w.setCell ⟨g, 4, none⟩ u) g v0 v1 v2 v3 u := heap_setCell_same w g 4 _ _ u h
theorem Bk5.sets {T : TypeId} {w : World} {g : Nat} {v0 v1 v2 v3 v4 : Value} (h : Bk5 T w g v0 v1 v2 v3 v4) (u0 u1 u2 u3 u4 : Value) :
    Bk5 T (((((w.setCell ⟨g, 0, none⟩ u0).setCell ⟨g, 1, none⟩ u1).setCell ⟨g, 2, none⟩ u2).setCell ⟨g, 3, none⟩ u3).setCell ⟨g, 4, none⟩ u4) g u0 u1 u2 u3 u4 :=
  heap_setCell_same _ g 4 _ _ u4 (heap_setCell_same _ g 3 _ _ u3 (heap_setCell_same _ g 2 _ _ u2 (heap_setCell_same _ g 1 _ _ u1 (heap_setCell_same w g 0 _ _ u0 h))))
theorem Bk5.drew {T : TypeId} {w : World} {g : Nat} {v0 v1 v2 v3 v4 : Value} (h : Bk5 T w g v0 v1 v2 v3 v4) : Bk5 T w.drew g v0 v1 v2 v3 v4 := h

theorem OwnS.tu {F : Nat → Prop} {w w' : World} {B : Nat} {v : Value} {rs : List RV} (h : OwnS w B v rs) (ht : Tu F w w') (hF : ∀ j, v.ownBlock = some j → ¬ F j) : OwnS w' B v rs := by
  refine ⟨h.1, ?_⟩
  rcases h.2 with h0 | ⟨g, cap, cur, h1, hg, hgg, r⟩
  · exact .inl h0
  · exact .inr ⟨g, cap, cur, h1, hg, (ht.block g (Array.getElem?_eq_some_iff.1 hgg).1 (hF g (by rw [h1]; rfl))).trans hgg, r⟩
theorem OwnS.blk5 {w : World} {B g : Nat} {v : Value} {rs : List RV} (h : OwnS w B v rs) (hk : v.ownBlock = some g) : ∃ cur, w.heap[g]? = some (.cells cur 36 (0, 0)) := by
  rcases h.2 with ⟨rfl, _⟩ | ⟨g', cap, cur, rfl, _, hg, _⟩
  · cases hk
  · simp only [Value.ownBlock, Option.some.injEq] at hk
    exact ⟨cur, hk ▸ hg⟩

/-- Rows whose words are one's own. -/
def OwnRs (w : World) (B : Nat) (rs : List RV) : Prop := ∀ r ∈ rs, Own w B (.slice r.a r.n r.c) r.xs
theorem OwnRs.nil (w : World) (B : Nat) : OwnRs w B [] := fun r hr => by cases hr
theorem OwnRs.below {w w' : World} {B : Nat} {rs : List RV} (h : OwnRs w B rs) (hb : Below w.heap.size w w') : OwnRs w' B rs := fun r hr => (h r hr).below hb
theorem OwnRs.mono {w : World} {B B' : Nat} {rs : List RV} (h : OwnRs w B rs) (hB : B' ≤ B) : OwnRs w B' rs := fun r hr => (h r hr).mono hB
theorem OwnRs.snoc {w : World} {B : Nat} {rs : List RV} {r : RV} (h : OwnRs w B rs) (hr : Own w B (.slice r.a r.n r.c) r.xs) : OwnRs w B (rs ++ [r]) := fun x hx => by
  rcases List.mem_append.1 hx with hx | hx
  · exact h x hx
  · rw [List.mem_singleton.1 hx]; exact hr
theorem OwnRs.rows {w : World} {B : Nat} {rs : List RV} (h : OwnRs w B rs) : RowsIn w rs := fun r hr => by
  obtain ⟨a, c, e, h1⟩ := (h r hr).row
  simp only [Value.slice.injEq] at e
  obtain ⟨e1, e2, e3⟩ := e
  exact ⟨by rw [e1, e2]; exact h1, (h r hr).cap⟩
theorem OwnRs.tu {F : Nat → Prop} {w w' : World} {B : Nat} {rs : List RV} (h : OwnRs w B rs) (ht : Tu F w w') (hF : ∀ j cur, w.heap[j]? = some (.cells cur 46 (0, 0)) → ¬ F j) : OwnRs w' B rs := fun r hr =>
  (h r hr).tu ht fun j hj => by
    obtain ⟨cur, hc⟩ := (h r hr).blkU hj
    exact hF j cur hc

/-- What a store is at: its block and that of its rows. -/
def stF (g : Nat) (v : Value) (k : Nat) : Prop := k = g ∨ v.ownBlock = some k
/-- A store of k blocks of z bytes, of at most m rows, at block g: it keeps rs in v; all of it lies at B or behind. -/
structure StAt (w : World) (g B : Nat) (k z : Int) (m : Nat) (v : Value) (rs : List RV) (ov : Bool) : Prop where
  blk : Bk5 48 w g (.int .i64 k) (.int .i64 z) (.int .i64 (m : Int)) v (.bool ov)
  lo : B ≤ g
  own : OwnS w B v rs
  rows : OwnRs w B rs
  le : rs.length ≤ m
  most : m ≤ 256
  short : shortR rs
theorem StAt.below {w w' : World} {g B : Nat} {k z : Int} {m : Nat} {v : Value} {rs : List RV} {ov : Bool} (h : StAt w g B k z m v rs ov) (hb : Below w.heap.size w w') : StAt w' g B k z m v rs ov :=
  ⟨h.blk.below hb, h.lo, h.own.below hb, h.rows.below hb, h.le, h.most, h.short⟩
theorem StAt.lt {w : World} {g B : Nat} {k z : Int} {m : Nat} {v : Value} {rs : List RV} {ov : Bool} (h : StAt w g B k z m v rs ov) : g < w.heap.size := h.blk.lt
theorem StAt.low {w : World} {g B : Nat} {k z : Int} {m : Nat} {v : Value} {rs : List RV} {ov : Bool} (h : StAt w g B k z m v rs ov) : ∀ j, j < B → ¬ stF g v j := fun j hj hf => by
  rcases hf with rfl | hf
  · have := h.lo; omega
  · have := (World.ownsRow.lt h.own j hf).1; omega
theorem StAt.words {w : World} {g B : Nat} {k z : Int} {m : Nat} {v : Value} {rs : List RV} {ov : Bool} (h : StAt w g B k z m v rs ov) : ∀ j cur, w.heap[j]? = some (.cells cur 46 (0, 0)) → ¬ stF g v j := fun j cur hc hf => by
  rcases hf with rfl | hf
  · have := h.blk
    unfold Bk5 at this
    rw [this] at hc
    simp only [Option.some.injEq, Obj.cells.injEq] at hc
    exact absurd hc.2.1 (by decide)
  · obtain ⟨cur2, h2⟩ := h.own.blk5 hf
    rw [h2] at hc
    simp only [Option.some.injEq, Obj.cells.injEq] at hc
    exact absurd hc.2.1 (by decide)
/-- Nothing below B has turned where a store behind B has. -/
theorem StAt.keeps {w w' : World} {g B : Nat} {k z : Int} {m : Nat} {v : Value} {rs : List RV} {ov : Bool} (h : StAt w g B k z m v rs ov) (ht : Tu (stF g v) w w') (hB : B ≤ w.heap.size) : Below B w w' := ht.below hB h.low
theorem StAt.lob {w : World} {g B : Nat} {k z : Int} {m : Nat} {v : Value} {rs : List RV} {ov : Bool} (h : StAt w g B k z m v rs ov) : B ≤ w.heap.size := Nat.le_of_lt (Nat.lt_of_le_of_lt h.lo h.lt)
/-- Another store is as it was. -/
theorem StAt.other {w w' : World} {g B g2 B2 : Nat} {k z k2 z2 : Int} {m m2 : Nat} {v v2 : Value} {rs rs2 : List RV} {ov ov2 : Bool} (h : StAt w g B k z m v rs ov) (h2 : StAt w g2 B2 k2 z2 m2 v2 rs2 ov2)
    (hg : g ≠ g2) (hv : ∀ j, v.ownBlock = some j → v2.ownBlock ≠ some j) (ht : Tu (stF g2 v2) w w') : StAt w' g B k z m v rs ov := by
  refine ⟨h.blk.tu ht fun hf => ?_, h.lo, h.own.tu ht fun j hj hf => ?_, h.rows.tu ht h2.words, h.le, h.most, h.short⟩
  · rcases hf with hf | hf
    · exact hg hf
    · obtain ⟨cur2, h3⟩ := h2.own.blk5 hf
      have := h.blk
      unfold Bk5 at this
      rw [this] at h3
      simp only [Option.some.injEq, Obj.cells.injEq] at h3
      exact absurd h3.2.1 (by decide)
  · rcases hf with rfl | hf
    · obtain ⟨cur2, h3⟩ := h.own.blk5 hj
      have := h2.blk
      unfold Bk5 at this
      rw [this] at h3
      simp only [Option.some.injEq, Obj.cells.injEq] at h3
      exact absurd h3.2.1 (by decide)
    · exact hv j hj hf
theorem StAt.at {w : World} {g B : Nat} {k z : Int} {m : Nat} {v : Value} {rs : List RV} {ov : Bool} (h : StAt w g B k z m v rs ov) : ∃ a c, v = .slice a rs.length c ∧ RowsAt w a rs.length rs ∧ rs.length ≤ c ∧ c ≤ 9223372036854775807 := h.own.rows h.rows.rows

/-- Does the row fit? -/
def fitB (k z : Int) (x : List Nat × ByteArray) : Bool := validB k x.1 && decide (0 < cnt x.1) && decide ((x.2.size : Int) = z)
/-- What is kept behind a put, whether one was left over, and what is told. -/
def putL (k z : Int) (m : Nat) (L : List (List Nat × ByteArray)) (x : List Nat × ByteArray) : List (List Nat × ByteArray) := if fitB k z x = true ∧ L.length < m then L ++ [x] else L
def putO (k z : Int) (m : Nat) (L : List (List Nat × ByteArray)) (o : Bool) (x : List Nat × ByteArray) : Bool := if fitB k z x = true ∧ ¬ L.length < m then true else o
def putE (k z : Int) (m : Nat) (L : List (List Nat × ByteArray)) (x : List Nat × ByteArray) : Int := if fitB k z x = true then (if L.length < m then 0 else 5) else 1
theorem shortR.snoc {rs : List RV} {r : RV} (h : shortR rs) (hn : r.n ≤ 10) (hs : r.s.size ≤ 1000) : shortR (rs ++ [r]) := fun i => by
  by_cases hi : i < rs.length
  · rw [List.getD_eq_getElem?_getD, List.getElem?_append_left hi, ← List.getD_eq_getElem?_getD]; exact h i
  · by_cases he : i = rs.length
    · rw [he, List.getD_eq_getElem?_getD, List.getElem?_append_right (Nat.le_refl _), Nat.sub_self]; exact ⟨hn, hs⟩
    · rw [List.getD_eq_getElem?_getD, List.getElem?_eq_none (by rw [List.length_append, List.length_singleton]; omega)]; exact ⟨Nat.zero_le _, Nat.zero_le _⟩
end Go.Proofs.YtbfkhioljpgjjaaDoor
