/-
  A block of five cells; rows of one's own; the store in memory ('StAt'); what a put makes of rows. No condition.
  From 0 to 256 ('capN'); contract of bucketlineref15.Cap.
  Contracts of store.New, Len, Over, Rank, copyOf, fits.
-/
import Derived.Test.YtnjdldbdkafnaaaGreatDoorU25
import Derived.Test.YtnjdldbdkafnaaaGreatDoorU32
import Derived.Deep.RegionHeld3
import Derived.Deep.AppendLies
import Derived.BigQuiet
import Derived.Test.YtnjdldbdkafnaaaGreatDoorU0
namespace Go.Proofs.YtnjdldbdkafnaaaGreatDoor
open Go.RowKit Go.Sort
set_option linter.unusedVariables false
set_option linter.unusedSimpArgs false
set_option maxRecDepth 4000

/-- A block of five cells, none of them frozen. -/
def Bk5 (T : TypeId) (w : World) (g : Nat) (v0 v1 v2 v3 v4 : Value) : Prop := w.heap[g]? = some (.cells #[v0, v1, v2, v3, v4] T (0, 0))
theorem bk5_new (T : TypeId) (w : World) (v0 v1 v2 v3 v4 : Value) : Bk5 T (w.alloc (.cells #[v0, v1, v2, v3, v4] T)) w.heap.size v0 v1 v2 v3 v4 := by
  show (w.heap.push _)[w.heap.size]? = _
  simp
theorem Bk5.lt {T : TypeId} {w : World} {g : Nat} {v0 v1 v2 v3 v4 : Value} (h : Bk5 T w g v0 v1 v2 v3 v4) : g < w.heap.size := (Array.getElem?_eq_some_iff.1 h).1
theorem Bk5.belowB {T : TypeId} {w w' : World} {g B : Nat} {v0 v1 v2 v3 v4 : Value} (h : Bk5 T w g v0 v1 v2 v3 v4) (hb : Below B w w') (hg : g < B) : Bk5 T w' g v0 v1 v2 v3 v4 := (hb.block g hg).trans h
theorem Bk5.below {T : TypeId} {w w' : World} {g : Nat} {v0 v1 v2 v3 v4 : Value} (h : Bk5 T w g v0 v1 v2 v3 v4) (hb : Below w.heap.size w w') : Bk5 T w' g v0 v1 v2 v3 v4 := h.belowB hb h.lt
theorem Bk5.tu {T : TypeId} {F : Nat → Prop} {w w' : World} {g : Nat} {v0 v1 v2 v3 v4 : Value} (h : Bk5 T w g v0 v1 v2 v3 v4) (ht : Tu F w w') (hF : ¬ F g) : Bk5 T w' g v0 v1 v2 v3 v4 := (ht.block g h.lt hF).trans h
theorem Bk5.kept {T : TypeId} {w w' : World} {g : Nat} {v0 v1 v2 v3 v4 : Value} {row : Option Nat} (h : Bk5 T w g v0 v1 v2 v3 v4) (hg : w.grownBy w' row) (hne : some g ≠ row) : Bk5 T w' g v0 v1 v2 v3 v4 := (hg.block g h.lt hne).trans h
theorem Bk5.at {T : TypeId} {w : World} {g : Nat} {v0 v1 v2 v3 v4 : Value} (h : Bk5 T w g v0 v1 v2 v3 v4) : w.cell? ⟨g, 0, none⟩ = some v0 ∧ w.cell? ⟨g, 1, none⟩ = some v1 ∧ w.cell? ⟨g, 2, none⟩ = some v2 ∧ w.cell? ⟨g, 3, none⟩ = some v3 ∧ w.cell? ⟨g, 4, none⟩ = some v4 := by
  unfold Bk5 at h
  refine ⟨?_, ?_, ?_, ?_, ?_⟩ <;> (rw [cell_of_row w g _ _ _ _ h]; rfl)
theorem Bk5.frz {T : TypeId} {w : World} {g : Nat} {v0 v1 v2 v3 v4 : Value} (h : Bk5 T w g v0 v1 v2 v3 v4) (i : Nat) : w.frozen? ⟨g, i, none⟩ = false := by
  unfold Bk5 at h
  simp [World.frozen?, h]
theorem Bk5.set3 {T : TypeId} {w : World} {g : Nat} {v0 v1 v2 v3 v4 : Value} (h : Bk5 T w g v0 v1 v2 v3 v4) (u : Value) : Bk5 T (w.setCell ⟨g, 3, none⟩ u) g v0 v1 v2 u v4 := heap_setCell_same w g 3 _ _ u h
theorem Bk5.set4 {T : TypeId} {w : World} {g : Nat} {v0 v1 v2 v3 v4 : Value} (h : Bk5 T w g v0 v1 v2 v3 v4) (u : Value) : Bk5 T (w.setCell ⟨g, 4, none⟩ u) g v0 v1 v2 v3 u := heap_setCell_same w g 4 _ _ u h
theorem Bk5.sets {T : TypeId} {w : World} {g : Nat} {v0 v1 v2 v3 v4 : Value} (h : Bk5 T w g v0 v1 v2 v3 v4) (u0 u1 u2 u3 u4 : Value) :
    Bk5 T (((((w.setCell ⟨g, 0, none⟩ u0).setCell ⟨g, 1, none⟩ u1).setCell ⟨g, 2, none⟩ u2).setCell ⟨g, 3, none⟩ u3).setCell ⟨g, 4, none⟩ u4) g u0 u1 u2 u3 u4 :=
  heap_setCell_same _ g 4 _ _ u4 (heap_setCell_same _ g 3 _ _ u3 (heap_setCell_same _ g 2 _ _ u2 (heap_setCell_same _ g 1 _ _ u1 (heap_setCell_same w g 0 _ _ u0 h))))
theorem Bk5.drew {T : TypeId} {w : World} {g : Nat} {v0 v1 v2 v3 v4 : Value} (h : Bk5 T w g v0 v1 v2 v3 v4) : Bk5 T w.drew g v0 v1 v2 v3 v4 := h

theorem OwnS.tu {F : Nat → Prop} {w w' : World} {B : Nat} {v : Value} {rs : List RV} (h : OwnS w B v rs) (ht : Tu F w w') (hF : ∀ j, v.ownBlock = some j → ¬ F j) : OwnS w' B v rs := by
  refine ⟨h.1, ?_⟩
  rcases h.2 with h0 | ⟨g, cap, cur, h1, hg, hgg, r⟩
  · exact .inl h0
  · exact .inr ⟨g, cap, cur, h1, hg, (ht.block g (Array.getElem?_eq_some_iff.1 hgg).1 (hF g (by rw [h1]; rfl))).trans hgg, r⟩
theorem OwnS.blk5 {w : World} {B g : Nat} {v : Value} {rs : List RV} (h : OwnS w B v rs) (hk : v.ownBlock = some g) : ∃ cur, w.heap[g]? = some (.cells cur 29 (0, 0)) := by
  rcases h.2 with ⟨rfl, _⟩ | ⟨g', cap, cur, rfl, _, hg, _⟩
  · cases hk
  · simp only [Value.ownBlock, Option.some.injEq] at hk
    exact ⟨cur, hk ▸ hg⟩

/-- Rows whose words are one's own. -/
def OwnRs (w : World) (B : Nat) (rs : List RV) : Prop := ∀ r ∈ rs, Own w B (.slice r.a r.n r.c) r.xs
theorem OwnRs.nil (w : World) (B : Nat) : OwnRs w B [] := fun r hr => by cases hr
theorem OwnRs.below {w w' : World} {B : Nat} {rs : List RV} (h : OwnRs w B rs) (hb : Below w.heap.size w w') : OwnRs w' B rs := fun r hr => (h r hr).below hb
theorem OwnRs.mono {w : World} {B B' : Nat} {rs : List RV} (h : OwnRs w B rs) (hB : B' ≤ B) : OwnRs w B' rs := fun r hr => (h r hr).mono hB
theorem OwnRs.snoc {w : World} {B : Nat} {rs : List RV} {r : RV} (h : OwnRs w B rs) (hr : Own w B (.slice r.a r.n r.c) r.xs) : OwnRs w B (rs ++ [r]) := fun x hx => by
  rcases List.mem_append.1 hx with hx | hx
  · exact h x hx
  · rw [List.mem_singleton.1 hx]; exact hr
theorem OwnRs.rows {w : World} {B : Nat} {rs : List RV} (h : OwnRs w B rs) : RowsIn w rs := fun r hr => by
  obtain ⟨a, c, e, h1⟩ := (h r hr).row
  simp only [Value.slice.injEq] at e
  obtain ⟨e1, e2, e3⟩ := e
  exact ⟨by rw [e1, e2]; exact h1, (h r hr).cap⟩
theorem OwnRs.tu {F : Nat → Prop} {w w' : World} {B : Nat} {rs : List RV} (h : OwnRs w B rs) (ht : Tu F w w') (hF : ∀ j cur, w.heap[j]? = some (.cells cur 53 (0, 0)) → ¬ F j) : OwnRs w' B rs := fun r hr =>
  (h r hr).tu ht fun j hj => by
    obtain ⟨cur, hc⟩ := (h r hr).blkU hj
    exact hF j cur hc

/-- What a store is at: its block and that of its rows. -/
def stF (g : Nat) (v : Value) (k : Nat) : Prop := k = g ∨ v.ownBlock = some k
/-- A store of k blocks of z bytes, of at most m rows, at block g: it keeps rs in v; all of it lies at B or behind. -/
structure StAt (w : World) (g B : Nat) (k z : Int) (m : Nat) (v : Value) (rs : List RV) (ov : Bool) : Prop where
  blk : Bk5 87 w g (.int .i64 k) (.int .i64 z) (.int .i64 (m : Int)) v (.bool ov)
  lo : B ≤ g
  own : OwnS w B v rs
  rows : OwnRs w B rs
  le : rs.length ≤ m
  most : m ≤ 256
  short : shortR rs
theorem StAt.below {w w' : World} {g B : Nat} {k z : Int} {m : Nat} {v : Value} {rs : List RV} {ov : Bool} (h : StAt w g B k z m v rs ov) (hb : Below w.heap.size w w') : StAt w' g B k z m v rs ov :=
  ⟨h.blk.below hb, h.lo, h.own.below hb, h.rows.below hb, h.le, h.most, h.short⟩
theorem StAt.lt {w : World} {g B : Nat} {k z : Int} {m : Nat} {v : Value} {rs : List RV} {ov : Bool} (h : StAt w g B k z m v rs ov) : g < w.heap.size := h.blk.lt
theorem StAt.low {w : World} {g B : Nat} {k z : Int} {m : Nat} {v : Value} {rs : List RV} {ov : Bool} (h : StAt w g B k z m v rs ov) : ∀ j, j < B → ¬ stF g v j := fun j hj hf => by
  rcases hf with rfl | hf
  · have := h.lo; omega
  · have := (World.ownsRow.lt h.own j hf).1; omega
theorem StAt.words {w : World} {g B : Nat} {k z : Int} {m : Nat} {v : Value} {rs : List RV} {ov : Bool} (h : StAt w g B k z m v rs ov) : ∀ j cur, w.heap[j]? = some (.cells cur 53 (0, 0)) → ¬ stF g v j := fun j cur hc hf => by
  rcases hf with rfl | hf
  · have := h.blk
    unfold Bk5 at this
    rw [this] at hc
    simp only [Option.some.injEq, Obj.cells.injEq] at hc
    exact absurd hc.2.1 (by decide)
  · obtain ⟨cur2, h2⟩ := h.own.blk5 hf
    rw [h2] at hc
    simp only [Option.some.injEq, Obj.cells.injEq] at hc
    exact absurd hc.2.1 (by decide)
/-- Nothing below B has turned where a store behind B has. -/
theorem StAt.keeps {w w' : World} {g B : Nat} {k z : Int} {m : Nat} {v : Value} {rs : List RV} {ov : Bool} (h : StAt w g B k z m v rs ov) (ht : Tu (stF g v) w w') (hB : B ≤ w.heap.size) : Below B w w' := ht.below hB h.low
theorem StAt.lob {w : World} {g B : Nat} {k z : Int} {m : Nat} {v : Value} {rs : List RV} {ov : Bool} (h : StAt w g B k z m v rs ov) : B ≤ w.heap.size := Nat.le_of_lt (Nat.lt_of_le_of_lt h.lo h.lt)
/-- Another store is as it was. -/
theorem StAt.other {w w' : World} {g B g2 B2 : Nat} {k z k2 z2 : Int} {m m2 : Nat} {v v2 : Value} {rs rs2 : List RV} {ov ov2 : Bool} (h : StAt w g B k z m v rs ov) (h2 : StAt w g2 B2 k2 z2 m2 v2 rs2 ov2)
    (hg : g ≠ g2) (hv : ∀ j, v.ownBlock = some j → v2.ownBlock ≠ some j) (ht : Tu (stF g2 v2) w w') : StAt w' g B k z m v rs ov := by
  refine ⟨h.blk.tu ht fun hf => ?_, h.lo, h.own.tu ht fun j hj hf => ?_, h.rows.tu ht h2.words, h.le, h.most, h.short⟩
  · rcases hf with hf | hf
    · exact hg hf
    · obtain ⟨cur2, h3⟩ := h2.own.blk5 hf
      have := h.blk
      unfold Bk5 at this
      rw [this] at h3
      simp only [Option.some.injEq, Obj.cells.injEq] at h3
      exact absurd h3.2.1 (by decide)
  · rcases hf with rfl | hf
    · obtain ⟨cur2, h3⟩ := h.own.blk5 hj
      have := h2.blk
      unfold Bk5 at this
      rw [this] at h3
      simp only [Option.some.injEq, Obj.cells.injEq] at h3
      exact absurd h3.2.1 (by decide)
    · exact hv j hj hf
theorem StAt.at {w : World} {g B : Nat} {k z : Int} {m : Nat} {v : Value} {rs : List RV} {ov : Bool} (h : StAt w g B k z m v rs ov) : ∃ a c, v = .slice a rs.length c ∧ RowsAt w a rs.length rs ∧ rs.length ≤ c ∧ c ≤ 9223372036854775807 := h.own.rows h.rows.rows

/-- Does the row fit? -/
def fitB (k z : Int) (x : List Nat × ByteArray) : Bool := validB k x.1 && decide (0 < cnt x.1) && decide ((x.2.size : Int) = z)
/-- What is kept behind a put, whether one was left over, and what is told. -/
def putL (k z : Int) (m : Nat) (L : List (List Nat × ByteArray)) (x : List Nat × ByteArray) : List (List Nat × ByteArray) := if fitB k z x = true ∧ L.length < m then L ++ [x] else L
def putO (k z : Int) (m : Nat) (L : List (List Nat × ByteArray)) (o : Bool) (x : List Nat × ByteArray) : Bool := if fitB k z x = true ∧ ¬ L.length < m then true else o
def putE (k z : Int) (m : Nat) (L : List (List Nat × ByteArray)) (x : List Nat × ByteArray) : Int := if fitB k z x = true then (if L.length < m then 0 else 5) else 1
theorem shortR.snoc {rs : List RV} {r : RV} (h : shortR rs) (hn : r.n ≤ 10) (hs : r.s.size ≤ 1000) : shortR (rs ++ [r]) := fun i => by
  by_cases hi : i < rs.length
  · rw [List.getD_eq_getElem?_getD, List.getElem?_append_left hi, ← List.getD_eq_getElem?_getD]; exact h i
  · by_cases he : i = rs.length
    · rw [he, List.getD_eq_getElem?_getD, List.getElem?_append_right (Nat.le_refl _), Nat.sub_self]; exact ⟨hn, hs⟩
    · rw [List.getD_eq_getElem?_getD, List.getElem?_eq_none (by rw [List.length_append, List.length_singleton]; omega)]; exact ⟨Nat.zero_le _, Nat.zero_le _⟩
end Go.Proofs.YtnjdldbdkafnaaaGreatDoor
namespace Go.Proofs.YtnjdldbdkafnaaaGreatDoor
open Go.RowKit
set_option linter.unusedVariables false
set_option linter.unusedSimpArgs false
set_option maxRecDepth 4000

/-- From 0 to 256. -/
def capN (n : Int) : Nat := min (max n 0).toNat 256
theorem capN_le (n : Int) : capN n ≤ 256 := Nat.min_le_right _ _
theorem cap_min (n : Int) : min (max n 0) 256 = (capN n : Int) := by unfold capN; omega
theorem max_run (n : Int) (ts : Array TypeId) (t : TypeId) (w : World) : (Builtin.max_ ts t #[.int .i64 n, .int .i64 0]).run Tryz.prog w = .ok (.int .i64 (max n 0)) w := by
  rw [run_max_int2]
  congr 2
  split <;> omega
theorem cap_run (n : Int) (ts : Array TypeId) (t : TypeId) (w : World) : (Builtin.min_ ts t #[.int .i64 (max n 0), .int .i64 256]).run Tryz.prog w = .ok (.int .i64 (capN n : Int)) w := by
  rw [run_min_int2, ← cap_min]
  congr 2
  split <;> omega
theorem rcap_any (n : Int) (w : World) : Calls Tryz.prog 42 #[.int .i64 n] w fun e w' => e = .returned (.int .i64 (capN n : Int)) ∧ w' = w := by
  have h1 := max_run n
  have h2 := cap_run n
  go_enter Tryz.func42, Tryz.ntmps42
  go_wp2
  go_ret
  exact ⟨rfl, rfl⟩
end Go.Proofs.YtnjdldbdkafnaaaGreatDoor
namespace Go.Proofs.YtnjdldbdkafnaaaGreatDoor
open Go.RowKit Go.Sort
set_option linter.unusedVariables false
set_option linter.unusedSimpArgs false
set_option maxRecDepth 4000

theorem stnew_any (k z n : Int) (w : World) :
    Calls Tryz.prog 63 #[.int .i64 k, .int .i64 z, .int .i64 n] w fun e w' => e = .returned (.pointer (some ⟨w.heap.size, 0, none⟩)) ∧ StAt w' w.heap.size w.heap.size k z (capN n) (.slice none 0 0) [] false ∧ Below w.heap.size w w' := by
  have h1 := max_run n
  have h2 := cap_run n
  go_enter Tryz.func63, Tryz.ntmps63
  go_wp2
  go_ret
  exact ⟨rfl, ⟨bk5_new _ _ _ _ _ _ _, Nat.le_refl _, OwnS.nil _ _, OwnRs.nil _ _, Nat.zero_le _, capN_le n, short_nil⟩, (Below.refl _ _).alloc (Nat.le_refl _) _⟩

theorem len_any (g B : Nat) (k z : Int) (m : Nat) (v : Value) (rs : List RV) (ov : Bool) (w : World) (h : StAt w g B k z m v rs ov) :
    Calls Tryz.prog 31 #[.pointer (some ⟨g, 0, none⟩)] w fun e w' => e = .returned (.int .i64 (rs.length : Int)) ∧ w' = w := by
  obtain ⟨a, c, rfl, -, -, -⟩ := h.at
  obtain ⟨h0, h1, h2, h3, h4⟩ := h.blk.at
  clear h
  go_enter Tryz.func31, Tryz.ntmps31
  go_wp2
  go_ret
  exact ⟨rfl, rfl⟩
theorem len_nil (w : World) : Calls Tryz.prog 31 #[.pointer none] w fun e w' => e = .returned (.int .i64 0) ∧ w' = w := by
  go_enter Tryz.func31, Tryz.ntmps31
  go_wp2
  go_ret
  exact ⟨rfl, rfl⟩
theorem over_any (g B : Nat) (k z : Int) (m : Nat) (v : Value) (rs : List RV) (ov : Bool) (w : World) (h : StAt w g B k z m v rs ov) :
    Calls Tryz.prog 32 #[.pointer (some ⟨g, 0, none⟩)] w fun e w' => e = .returned (.bool ov) ∧ w' = w := by
  obtain ⟨h0, h1, h2, h3, h4⟩ := h.blk.at
  clear h
  go_enter Tryz.func32, Tryz.ntmps32
  go_wp2
  go_ret
  exact ⟨rfl, rfl⟩
theorem over_nil (w : World) : Calls Tryz.prog 32 #[.pointer none] w fun e w' => e = .returned (.bool false) ∧ w' = w := by
  go_enter Tryz.func32, Tryz.ntmps32
  go_wp2
  go_ret
  exact ⟨rfl, rfl⟩
/-- How many bring something anew. -/
def rankN (rs : List RV) : Nat := (keepL (vecsL rs) rs.length).length
theorem rank_any (g B : Nat) (k z : Int) (m : Nat) (v : Value) (rs : List RV) (ov : Bool) (w : World) (ht : Tab w) (h : StAt w g B k z m v rs ov) :
    Calls Tryz.prog 29 #[.pointer (some ⟨g, 0, none⟩)] w fun e w' => e = .returned (.int .i64 (rankN rs : Int)) ∧ Below w.heap.size w w' := by
  obtain ⟨a, c, rfl, hR, -, -⟩ := h.at
  obtain ⟨h0, h1, h2, h3, h4⟩ := h.blk.at
  have HK := hide (grank_any a rs.length c rs w ht hR h.rows.rows h.short (by have := h.le; have := h.most; omega))
  clear h hR ht
  go_enter Tryz.func29, Tryz.ntmps29
  go_wp2_with (go_at_call 51; refine (unhide HK).mono ?_; rintro e w1 ⟨rfl, hb1⟩)
  go_ret
  exact ⟨rfl, hb1⟩
theorem rank_nil (w : World) : Calls Tryz.prog 29 #[.pointer none] w fun e w' => e = .returned (.int .i64 0) ∧ w' = w := by
  go_enter Tryz.func29, Tryz.ntmps29
  go_wp2
  go_ret
  exact ⟨rfl, rfl⟩

theorem BoxW.belowB {w w' : World} {g B : Nat} {x y : Value} (h : BoxW w g x y) (hb : Below B w w') (hg : g < B) : BoxW w' g x y :=
  ⟨⟨(hb.cell (p := ⟨g, 0, none⟩) hg).trans h.1.1, (hb.cell (p := ⟨g, 1, none⟩) hg).trans h.1.2⟩, (hb.frozen (p := ⟨g, 0, none⟩) hg).trans h.2.1, (hb.frozen (p := ⟨g, 1, none⟩) hg).trans h.2.2⟩
set_option maxHeartbeats 1000000 in
theorem copyOf_any (a : Option Addr) (n c : Nat) (xs : List Nat) (s : ByteArray) (w : World) (h : RowAt w a n xs) (hn : n ≤ 1048576) (hs : s.size ≤ 1048576) :
    Calls Tryz.prog 85 #[.agg #[.slice a n c, .string s]] w fun e w' => ∃ a2 c2, e = .returned (.agg #[.slice a2 n c2, .string s]) ∧ Own w' w.heap.size (.slice a2 n c2) xs ∧ Below w.heap.size w w' := by
  have hx1 := (boxW_new w (.slice a n c) (.string s)).alloc (.cells #[.slice none 0 0, .string ⟨#[]⟩] 29)
  have hx2 := boxW_new (w.alloc (.cells #[.slice a n c, .string s] 29)) (.slice none 0 0) (.string ⟨#[]⟩)
  rw [alloc_size] at hx2
  have hb0 : Below w.heap.size w ((w.alloc (.cells #[.slice a n c, .string s] 29)).alloc (.cells #[.slice none 0 0, .string ⟨#[]⟩] 29)) := below2 (Below.refl _ w) (Below.refl _ _)
  have hsz : ((w.alloc (.cells #[.slice a n c, .string s] 29)).alloc (.cells #[.slice none 0 0, .string ⟨#[]⟩] 29)).heap.size = w.heap.size + 2 := by rw [alloc_size, alloc_size]
  have hr := h.below hb0
  have hnn := h.1
  generalize hW : (w.alloc (.cells #[.slice a n c, .string s] 29)).alloc (.cells #[.slice none 0 0, .string ⟨#[]⟩] 29) = W at *
  have HCL := hide (fun wx (hb : Below W.heap.size W wx) => clone_any a n c xs wx (hr.below hb) (by omega))
  have HSC := hide (fun wx => sclone_any s wx hs)
  have HQ := hide (fun wx (hb : Below W.heap.size W wx) => show _ ∧ _ from ⟨hx1.below hb, hx2.below hb⟩)
  have HB0 := hide hb0
  have HN := hide hnn
  have HZ := hide hsz
  obtain ⟨⟨c0, c1⟩, -, -⟩ := hx1
  clear h hr hx2 hb0 hnn hsz
  go_enter Tryz.func85, Tryz.ntmps85
  go_wp2_with fail
  go_region_held3 (fun w' => w'.cell? ⟨w.heap.size, 0, none⟩ = some (.slice a n c) ∧ w'.cell? ⟨w.heap.size, 1, none⟩ = some (.string s)) (go_keep) (first
    | (go_at_call 102; refine (unhide HCL _ (by first | exact unhide D2 | exact (Below.refl _ _).drew)).mono ?_; rintro e w1 ⟨v1, rfl, ho1, hb1⟩; obtain ⟨a2, c2, rfl, -⟩ := ho1.row; have D1 := hide (show Below W.heap.size W w1 from below0 (by first | exact unhide D2 | exact (Below.refl _ _).drew) hb1); rw [unhide HN] at ho1 ⊢; have HO1 := hide (ho1.mono (B' := w.heap.size + 2) (Nat.le_of_eq (unhide HZ).symm)); obtain ⟨⟨⟨q0, q1⟩, -, -⟩, ⟨⟨y0, y1⟩, f0, f1⟩⟩ := unhide HQ w1 (unhide D1); clear ho1 hb1)
    | (go_at_call 30; refine (unhide HSC _).mono ?_; rintro e w2 ⟨rfl, hb2⟩; have D2 := hide (show Below W.heap.size W w2 from below0 (by first | exact unhide D1 | exact (Below.refl _ _).drew) hb2); (first | (have HO1 := hide ((unhide HO1).below hb2)) | skip); obtain ⟨⟨⟨q0, q1⟩, -, -⟩, ⟨⟨y0, y1⟩, f0, f1⟩⟩ := unhide HQ w2 (unhide D2); clear hb2))
  all_goals go_wp2
  exact bodyPost_ret (v := .agg #[.slice a2 n c2, .string s]) (by simp [results, Tryz.results85, go_sem, y0, y1]) rfl
    ⟨a2, c2, rfl, (((unhide HO1).other 0 _ (Nat.lt_succ_self _)).other 1 _ (Nat.lt_succ_self _)).mono (Nat.le_add_right _ _), ((below0 (unhide HB0) (unhide D2)).setCell (p := ⟨w.heap.size + 1, 0, none⟩) (Nat.le_succ _) _).setCell (p := ⟨w.heap.size + 1, 1, none⟩) (Nat.le_succ _) _⟩

/-- A block of five cells of whatever world, as it is read. -/
theorem StAt.cells {w w' : World} {g B : Nat} {k z : Int} {m : Nat} {v : Value} {rs : List RV} {ov : Bool} (h : StAt w g B k z m v rs ov) (hb : Below w.heap.size w w') :
    w'.cell? ⟨g, 0, none⟩ = some (.int .i64 k) ∧ w'.cell? ⟨g, 1, none⟩ = some (.int .i64 z) ∧ w'.cell? ⟨g, 2, none⟩ = some (.int .i64 (m : Int)) ∧ w'.cell? ⟨g, 3, none⟩ = some v ∧ w'.cell? ⟨g, 4, none⟩ = some (.bool ov) := (h.blk.below hb).at
set_option maxHeartbeats 2000000 in
theorem fits_any (g B : Nat) (k z : Int) (m : Nat) (v : Value) (rs : List RV) (ov : Bool) (a : Option Addr) (n c : Nat) (xs : List Nat) (s : ByteArray) (w : World) (h : StAt w g B k z m v rs ov) (hr : RowAt w a n xs) (hn : n ≤ 1048576) (hs : s.size ≤ 1048576) :
    Calls Tryz.prog 79 #[.pointer (some ⟨g, 0, none⟩), .agg #[.slice a n c, .string s]] w fun e w' => e = .returned (.bool (fitB k z (xs, s))) ∧ Below w.heap.size w w' := by
  have hb0 : Below w.heap.size w (w.alloc (.cells #[.slice a n c, .string s] 29)) := (Below.refl _ _).alloc (Nat.le_refl _) _
  have hx := box_new w (.slice a n c) (.string s)
  have hst := h.below hb0
  have hrr := hr.below hb0
  generalize hW : w.alloc (.cells #[.slice a n c, .string s] 29) = W at *
  have cV := hide (quietB (W := W) (fun w' hb => (valid_any a n c xs k w' (hrr.below hb)).mono fun e w'' ⟨he, hb2⟩ => ⟨retV he, hb2⟩))
  have cC := hide (quietB (W := W) (fun w' hb => same_below (count_any a n c xs w' (hrr.below hb) hn)))
  obtain ⟨k0, k1, -, -, -⟩ := hst.blk.at
  obtain ⟨c0, c1⟩ := hx
  have r0 := cell_regrown k0
  have r1 := cell_regrown k1
  have r2 := cell_regrown c0
  have r3 := cell_regrown c1
  have HB0 := hide hb0
  have hfit : fitB k z (xs, s) = (validB k xs && decide (0 < cnt xs) && decide ((s.size : Int) = z)) := rfl
  rw [hfit]
  clear h hr hst hrr hb0 hfit k0 k1 c0 c1
  generalize cnt xs = N at *
  generalize validB k xs = V at *
  have hd2 : decide ((0 : Int) < (N : Int)) = decide (0 < N) := by by_cases h : 0 < N <;> simp [h]
  have hd3 : ((s.size : Int) == z) = decide ((s.size : Int) = z) := by by_cases h : (s.size : Int) = z <;> simp [h]
  go_enter Tryz.func79, Tryz.ntmps79
  cases hv : V <;> cases h0 : decide (0 < N) <;> cases h1 : decide ((s.size : Int) = z)
  all_goals (subst hv; rw [h0] at hd2; rw [h1] at hd3)
  all_goals go_wp2_with fail
  all_goals refine wp_region_quiet_below (by kernel_rfl) (by kernel_rfl) ?_
  all_goals (repeat (with_reducible refine wpQuiet_step (fun K hK => ?_); go_simp; first | (with_reducible refine hK _ ?_; clear hK K) | (apply Exists.intro; apply And.intro; (intro _; first | (go_at_call 77; exact unhide cV _ _) | (go_at_call 78; exact unhide cC _ _)); with_reducible refine hK _ ?_; clear hK K)))
  all_goals refine wpQuiet_nil ?_
  all_goals (intro _ hw'; obtain ⟨⟨dq, osq⟩, hw''⟩ := hw'; subst hw'')
  all_goals have C1 := hide (below_regrown W dq osq)
  all_goals clear cV cC r0 r1 r2 r3
  all_goals go_wp2
  all_goals go_ret
  all_goals exact ⟨rfl, below0 (unhide HB0) (unhide C1)⟩
end Go.Proofs.YtnjdldbdkafnaaaGreatDoor
