/-
  Contracts of internal/stringslite.Clone and strings.Clone: for every text of at most 2^20 bytes.
  Memory of which only some blocks have turned ('Tu'); a block of five cells; rows of one's own; the store in memory ('StAt'); what a put makes of rows. No condition.
  Contracts of store.New, Len, Over, Rank, copyOf, fits.
  Contracts of Store.refuse, overflow, keep, taker, Put.
  Contracts of Store.Put, Store.Rows.
-/
import Derived.Test.YteamniigiogaeaaGreatDoorM2
import Derived.Lib.UnsafeStr
import Derived.Laws.Concat
import Derived.Test.YteamniigiogaeaaGreatDoorRk
import Derived.Deep.RegionHeld3
import Derived.Deep.AppendLies
import Derived.BigQuiet
namespace Go.Proofs.YteamniigiogaeaaGreatDoor
open Go.RowKit
set_option linter.unusedVariables false
set_option maxRecDepth 4000

theorem size_eq0 {s : ByteArray} (h : s.size = 0) : s = ⟨#[]⟩ := by
  apply tx_inj
  have h1 : (tx s).length = 0 := by rw [tx_length]; exact h
  rw [List.eq_nil_of_length_eq_zero h1]
  rfl

set_option maxHeartbeats 1000000 in
theorem lclone_any (s : ByteArray) (w : World) (hn : s.size ≤ 1048576) :
    Calls Tryz.prog 52 #[.string s] w fun e w' => e = .returned (.string s) ∧ Below w.heap.size w w' := by
  by_cases h0 : s.size = 0
  · obtain rfl := size_eq0 h0
    go_enter Tryz.func52, Tryz.ntmps52
    go_wp2
    go_ret
    exact ⟨rfl, Below.refl _ _⟩
  · have h0' : ¬ ((s.size : Int) = 0) := by omega
    obtain ⟨i0, hi0, hz0, hz1, hz2⟩ := info_parts info_u8
    have hco : Tryz.prog.cellsOf 5 = 1 := by simp [Program.cellsOf, hi0, hz1]
    have hrun := fun W => run_make (P := Tryz.prog) W 74 5 i0 (.int .u8 0) Tryz.underlying74 hi0 hz0 .i64 .i64 (s.size : Int) (s.size : Int) (by omega) (by omega) (by rw [hz2]; omega) (by omega)
    simp only [Int.toNat_natCast] at hrun
    have hcs : (madeCells (Value.int .u8 0).cells (s.size * i0.size)).size = s.size := by rw [size_madeCells, hz1, Nat.mul_one]
    generalize madeCells (Value.int .u8 0).cells (s.size * i0.size) = cur at *
    have hgw : (w.alloc (.cells cur 5)).heap[w.heap.size]? = some (.cells cur 5 (0, 0)) := by
      show (w.heap.push _)[w.heap.size]? = _
      simp
    have hbw : Below w.heap.size w (w.alloc (.cells cur 5)) := (Below.refl _ _).alloc (Nat.le_refl _) _
    have hcp := run_copy_text_of (P := Tryz.prog) (w.alloc (.cells cur 5)) 74 9 3 5 w.heap.size s.size s.size s cur 5 Tryz.underlying74 (by rw [hi0]; simp [hz1]) hgw hcs rfl
    have hgY := setRow_heap (w.alloc (.cells cur 5)) w.heap.size cur (s.data.map fun b => Value.int .u8 (b.toNat : Int)) 5 (0, 0) hgw
    have hY : (s.data.map fun b => Value.int .u8 (b.toNat : Int)).size = s.size := by rw [Array.size_map]; rfl
    have hl : s.data.toList.length = s.size := Array.length_toList
    have hb2 : Below w.heap.size w ((w.alloc (.cells cur 5)).setRow w.heap.size (s.data.map fun b => Value.int .u8 (b.toNat : Int))) := hbw.trans ⟨rfl, rfl, rfl, by simp, fun k hk => setRow_other _ _ k _ (by omega)⟩
    have hcl : ∀ (j : Nat) (x : UInt8), s.data.toList[j]? = some x → ((w.alloc (.cells cur 5)).setRow w.heap.size (s.data.map fun b => Value.int .u8 (b.toNat : Int))).cell? ((⟨w.heap.size, 0, none⟩ : Addr).add j) = some (.int .u8 x.toNat) := by
      intro j x hx
      have e : (⟨w.heap.size, 0, none⟩ : Addr).add j = ⟨w.heap.size, j, none⟩ := by unfold Addr.add; split <;> simp_all
      rw [e, cell_setRow_same _ _ j _ _ _ _ hgw]
      rw [Array.getElem?_toList] at hx
      simp [hx]
    have hUS := Lib.run_unsafeString_row (P := Tryz.prog) ((w.alloc (.cells cur 5)).setRow w.heap.size (s.data.map fun b => Value.int .u8 (b.toNat : Int))) 104 3 9 5 Tryz.underlying104 hco w.heap.size s.size (by unfold World.shape?; rw [hgY]; exact congrArg (fun n => some (5, n)) hY) s.data.toList
      (fun e => h0 (by rw [← hl, e]; rfl)) (by rw [hl]; omega) (by rw [hl]; omega) hcl
    rw [hl] at hUS
    have e2 : (⟨s.data.toList.toArray⟩ : ByteArray) = s := by cases s; simp
    rw [e2] at hUS
    generalize (w.alloc (.cells cur 5)).setRow w.heap.size (s.data.map fun b => Value.int .u8 (b.toNat : Int)) = w1 at *
    have HB := hide (Lib.below_freeze hb2 (p := ⟨w.heap.size, 0, none⟩) (Nat.le_refl _) s.size)
    clear hcl hb2 hY hgY hbw hgw hcs hl e2 hco
    go_enter Tryz.func52, Tryz.ntmps52
    go_wp2
    go_ret
    exact ⟨rfl, unhide HB⟩

theorem sclone_any (s : ByteArray) (w : World) (hn : s.size ≤ 1048576) :
    Calls Tryz.prog 30 #[.string s] w fun e w' => e = .returned (.string s) ∧ Below w.heap.size w w' := by
  go_enter Tryz.func30, Tryz.ntmps30
  go_wp2_with fail
  refine (lclone_any s w hn).mono ?_
  rintro e w1 ⟨rfl, hb⟩
  have HB := hide hb
  clear hb
  go_wp2
  go_ret
  exact ⟨rfl, unhide HB⟩
end Go.Proofs.YteamniigiogaeaaGreatDoor
namespace Go.Proofs.YteamniigiogaeaaGreatDoor
open Go.RowKit Go.Sort
set_option linter.unusedVariables false
set_option maxRecDepth 4000

/-- Nothing that was there has turned but blocks of F. -/
structure Tu (F : Nat → Prop) (w w' : World) : Prop where
  os : w'.os = w.os
  tape : w'.tape = w.tape
  output : w'.output = w.output
  size : w.heap.size ≤ w'.heap.size
  block : ∀ k, k < w.heap.size → ¬ F k → w'.heap[k]? = w.heap[k]?
theorem Tu.refl (F : Nat → Prop) (w : World) : Tu F w w := ⟨rfl, rfl, rfl, Nat.le_refl _, fun _ _ _ => rfl⟩
theorem Tu.trans {F G : Nat → Prop} {w w1 w2 : World} (h : Tu F w w1) (k : Tu G w1 w2) (hr : ∀ j, j < w.heap.size → G j → F j) : Tu F w w2 :=
  ⟨k.os.trans h.os, k.tape.trans h.tape, k.output.trans h.output, Nat.le_trans h.size k.size, fun j hj hn => (k.block j (Nat.lt_of_lt_of_le hj h.size) fun hg => hn (hr j hj hg)).trans (h.block j hj hn)⟩
theorem Tu.of_below {F : Nat → Prop} {w w' : World} (h : Below w.heap.size w w') : Tu F w w' := ⟨h.os, h.tape, h.output, h.size, fun j hj _ => h.block j hj⟩
theorem Tu.of_gb {F : Nat → Prop} {w w' : World} {r : Option Nat} (h : w.grownBy w' r) (hr : ∀ j, j < w.heap.size → r = some j → F j) : Tu F w w' :=
  ⟨h.os, h.tape, h.output, h.size, fun j hj hn => h.block j hj fun e => hn (hr j hj e.symm)⟩
theorem Tu.below {F : Nat → Prop} {w w' : World} (h : Tu F w w') {B : Nat} (hB : B ≤ w.heap.size) (hF : ∀ j, j < B → ¬ F j) : Below B w w' :=
  ⟨h.os, h.tape, h.output, h.size, fun j hj => h.block j (Nat.lt_of_lt_of_le hj hB) (hF j hj)⟩
theorem Tu.then {F : Nat → Prop} {w w1 w2 : World} (h : Tu F w w1) (k : Below w1.heap.size w1 w2) : Tu F w w2 := h.trans (Tu.of_below (F := F) k) fun _ _ h => h
theorem Tu.after {F : Nat → Prop} {w w1 w2 : World} (h : Below w.heap.size w w1) (k : Tu F w1 w2) : Tu F w w2 := (Tu.of_below (F := F) h).trans k fun _ _ h => h

/-- A block of five cells, none of them frozen. -/
def Bk5 (T : TypeId) (w : World) (g : Nat) (v0 v1 v2 v3 v4 : Value) : Prop := w.heap[g]? = some (.cells #[v0, v1, v2, v3, v4] T (0, 0))
theorem bk5_new (T : TypeId) (w : World) (v0 v1 v2 v3 v4 : Value) : Bk5 T (w.alloc (.cells #[v0, v1, v2, v3, v4] T)) w.heap.size v0 v1 v2 v3 v4 := by
  show (w.heap.push _)[w.heap.size]? = _
  simp
theorem Bk5.lt {T : TypeId} {w : World} {g : Nat} {v0 v1 v2 v3 v4 : Value} (h : Bk5 T w g v0 v1 v2 v3 v4) : g < w.heap.size := (Array.getElem?_eq_some_iff.1 h).1
theorem Bk5.belowB {T : TypeId} {w w' : World} {g B : Nat} {v0 v1 v2 v3 v4 : Value} (h : Bk5 T w g v0 v1 v2 v3 v4) (hb : Below B w w') (hg : g < B) : Bk5 T w' g v0 v1 v2 v3 v4 := (hb.block g hg).trans h
theorem Bk5.below {T : TypeId} {w w' : World} {g : Nat} {v0 v1 v2 v3 v4 : Value} (h : Bk5 T w g v0 v1 v2 v3 v4) (hb : Below w.heap.size w w') : Bk5 T w' g v0 v1 v2 v3 v4 := h.belowB hb h.lt
theorem Bk5.tu {T : TypeId} {F : Nat → Prop} {w w' : World} {g : Nat} {v0 v1 v2 v3 v4 : Value} (h : Bk5 T w g v0 v1 v2 v3 v4) (ht : Tu F w w') (hF : ¬ F g) : Bk5 T w' g v0 v1 v2 v3 v4 := (ht.block g h.lt hF).trans h
theorem Bk5.kept {T : TypeId} {w w' : World} {g : Nat} {v0 v1 v2 v3 v4 : Value} {row : Option Nat} (h : Bk5 T w g v0 v1 v2 v3 v4) (hg : w.grownBy w' row) (hne : some g ≠ row) : Bk5 T w' g v0 v1 v2 v3 v4 := (hg.block g h.lt hne).trans h
theorem Bk5.at {T : TypeId} {w : World} {g : Nat} {v0 v1 v2 v3 v4 : Value} (h : Bk5 T w g v0 v1 v2 v3 v4) : w.cell? ⟨g, 0, none⟩ = some v0 ∧ w.cell? ⟨g, 1, none⟩ = some v1 ∧ w.cell? ⟨g, 2, none⟩ = some v2 ∧ w.cell? ⟨g, 3, none⟩ = some v3 ∧ w.cell? ⟨g, 4, none⟩ = some v4 := by
  unfold Bk5 at h
  refine ⟨?_, ?_, ?_, ?_, ?_⟩ <;> (rw [cell_of_row w g _ _ _ _ h]; rfl)
theorem Bk5.frz {T : TypeId} {w : World} {g : Nat} {v0 v1 v2 v3 v4 : Value} (h : Bk5 T w g v0 v1 v2 v3 v4) (i : Nat) : w.frozen? ⟨g, i, none⟩ = false := by
  unfold Bk5 at h
  simp [World.frozen?, h]
theorem Bk5.set3 {T : TypeId} {w : World} {g : Nat} {v0 v1 v2 v3 v4 : Value} (h : Bk5 T w g v0 v1 v2 v3 v4) (u : Value) : Bk5 T (w.setCell ⟨g, 3, none⟩ u) g v0 v1 v2 u v4 := heap_setCell_same w g 3 _ _ u h
theorem Bk5.set4 {T : TypeId} {w : World} {g : Nat} {v0 v1 v2 v3 v4 : Value} (h : Bk5 T w g v0 v1 v2 v3 v4) (u : Value) : Bk5 T (w.setCell ⟨g, 4, none⟩ u) g v0 v1 v2 v3 u := heap_setCell_same w g 4 _ _ u h
theorem Bk5.sets {T : TypeId} {w : World} {g : Nat} {v0 v1 v2 v3 v4 : Value} (h : Bk5 T w g v0 v1 v2 v3 v4) (u0 u1 u2 u3 u4 : Value) :
    Bk5 T (((((w.setCell ⟨g, 0, none⟩ u0).setCell ⟨g, 1, none⟩ u1).setCell ⟨g, 2, none⟩ u2).setCell ⟨g, 3, none⟩ u3).setCell ⟨g, 4, none⟩ u4) g u0 u1 u2 u3 u4 :=
  heap_setCell_same _ g 4 _ _ u4 (heap_setCell_same _ g 3 _ _ u3 (heap_setCell_same _ g 2 _ _ u2 (heap_setCell_same _ g 1 _ _ u1 (heap_setCell_same w g 0 _ _ u0 h))))
theorem Bk5.drew {T : TypeId} {w : World} {g : Nat} {v0 v1 v2 v3 v4 : Value} (h : Bk5 T w g v0 v1 v2 v3 v4) : Bk5 T w.drew g v0 v1 v2 v3 v4 := h

theorem Own.blkU {w : World} {B g : Nat} {v : Value} {xs : List Nat} (h : Own w B v xs) (hk : v.ownBlock = some g) : ∃ cur, w.heap[g]? = some (.cells cur 53 (0, 0)) := by
  rcases h.2.2 with ⟨rfl, _⟩ | ⟨g', cap, cur, rfl, _, hg, _⟩
  · cases hk
  · simp only [Value.ownBlock, Option.some.injEq] at hk
    exact ⟨cur, hk ▸ hg⟩
theorem Own.tu {F : Nat → Prop} {w w' : World} {B : Nat} {v : Value} {xs : List Nat} (h : Own w B v xs) (ht : Tu F w w') (hF : ∀ j, v.ownBlock = some j → ¬ F j) : Own w' B v xs := by
  refine ⟨h.1, h.2.1, ?_⟩
  rcases h.2.2 with h0 | ⟨g, cap, cur, h1, hg, hgg, r⟩
  · exact .inl h0
  · exact .inr ⟨g, cap, cur, h1, hg, (ht.block g (Array.getElem?_eq_some_iff.1 hgg).1 (hF g (by rw [h1]; rfl))).trans hgg, r⟩
theorem OwnS.tu {F : Nat → Prop} {w w' : World} {B : Nat} {v : Value} {rs : List RV} (h : OwnS w B v rs) (ht : Tu F w w') (hF : ∀ j, v.ownBlock = some j → ¬ F j) : OwnS w' B v rs := by
  refine ⟨h.1, ?_⟩
  rcases h.2 with h0 | ⟨g, cap, cur, h1, hg, hgg, r⟩
  · exact .inl h0
  · exact .inr ⟨g, cap, cur, h1, hg, (ht.block g (Array.getElem?_eq_some_iff.1 hgg).1 (hF g (by rw [h1]; rfl))).trans hgg, r⟩
theorem OwnS.blk5 {w : World} {B g : Nat} {v : Value} {rs : List RV} (h : OwnS w B v rs) (hk : v.ownBlock = some g) : ∃ cur, w.heap[g]? = some (.cells cur 29 (0, 0)) := by
  rcases h.2 with ⟨rfl, _⟩ | ⟨g', cap, cur, rfl, _, hg, _⟩
  · cases hk
  · simp only [Value.ownBlock, Option.some.injEq] at hk
    exact ⟨cur, hk ▸ hg⟩

/-- Rows whose words are one's own. -/
def OwnRs (w : World) (B : Nat) (rs : List RV) : Prop := ∀ r ∈ rs, Own w B (.slice r.a r.n r.c) r.xs
theorem OwnRs.nil (w : World) (B : Nat) : OwnRs w B [] := fun r hr => by cases hr
theorem OwnRs.below {w w' : World} {B : Nat} {rs : List RV} (h : OwnRs w B rs) (hb : Below w.heap.size w w') : OwnRs w' B rs := fun r hr => (h r hr).below hb
theorem OwnRs.mono {w : World} {B B' : Nat} {rs : List RV} (h : OwnRs w B rs) (hB : B' ≤ B) : OwnRs w B' rs := fun r hr => (h r hr).mono hB
theorem OwnRs.snoc {w : World} {B : Nat} {rs : List RV} {r : RV} (h : OwnRs w B rs) (hr : Own w B (.slice r.a r.n r.c) r.xs) : OwnRs w B (rs ++ [r]) := fun x hx => by
  rcases List.mem_append.1 hx with hx | hx
  · exact h x hx
  · rw [List.mem_singleton.1 hx]; exact hr
theorem OwnRs.rows {w : World} {B : Nat} {rs : List RV} (h : OwnRs w B rs) : RowsIn w rs := fun r hr => by
  obtain ⟨a, c, e, h1⟩ := (h r hr).row
  simp only [Value.slice.injEq] at e
  obtain ⟨e1, e2, e3⟩ := e
  exact ⟨by rw [e1, e2]; exact h1, (h r hr).cap⟩
theorem OwnRs.tu {F : Nat → Prop} {w w' : World} {B : Nat} {rs : List RV} (h : OwnRs w B rs) (ht : Tu F w w') (hF : ∀ j cur, w.heap[j]? = some (.cells cur 53 (0, 0)) → ¬ F j) : OwnRs w' B rs := fun r hr =>
  (h r hr).tu ht fun j hj => by
    obtain ⟨cur, hc⟩ := (h r hr).blkU hj
    exact hF j cur hc

/-- What a store is at: its block and that of its rows. -/
def stF (g : Nat) (v : Value) (k : Nat) : Prop := k = g ∨ v.ownBlock = some k
/-- A store of k blocks of z bytes, of at most m rows, at block g: it keeps rs in v; all of it lies at B or behind. -/
structure StAt (w : World) (g B : Nat) (k z : Int) (m : Nat) (v : Value) (rs : List RV) (ov : Bool) : Prop where
  blk : Bk5 87 w g (.int .i64 k) (.int .i64 z) (.int .i64 (m : Int)) v (.bool ov)
  lo : B ≤ g
  own : OwnS w B v rs
  rows : OwnRs w B rs
  le : rs.length ≤ m
  most : m ≤ 256
  short : shortR rs
theorem StAt.below {w w' : World} {g B : Nat} {k z : Int} {m : Nat} {v : Value} {rs : List RV} {ov : Bool} (h : StAt w g B k z m v rs ov) (hb : Below w.heap.size w w') : StAt w' g B k z m v rs ov :=
  ⟨h.blk.below hb, h.lo, h.own.below hb, h.rows.below hb, h.le, h.most, h.short⟩
theorem StAt.lt {w : World} {g B : Nat} {k z : Int} {m : Nat} {v : Value} {rs : List RV} {ov : Bool} (h : StAt w g B k z m v rs ov) : g < w.heap.size := h.blk.lt
theorem StAt.low {w : World} {g B : Nat} {k z : Int} {m : Nat} {v : Value} {rs : List RV} {ov : Bool} (h : StAt w g B k z m v rs ov) : ∀ j, j < B → ¬ stF g v j := fun j hj hf => by
  rcases hf with rfl | hf
  · have := h.lo; omega
  · have := (World.ownsRow.lt h.own j hf).1; omega
theorem StAt.words {w : World} {g B : Nat} {k z : Int} {m : Nat} {v : Value} {rs : List RV} {ov : Bool} (h : StAt w g B k z m v rs ov) : ∀ j cur, w.heap[j]? = some (.cells cur 53 (0, 0)) → ¬ stF g v j := fun j cur hc hf => by
  rcases hf with rfl | hf
  · have := h.blk
    unfold Bk5 at this
    rw [this] at hc
    simp only [Option.some.injEq, Obj.cells.injEq] at hc
    exact absurd hc.2.1 (by decide)
  · obtain ⟨cur2, h2⟩ := h.own.blk5 hf
    rw [h2] at hc
    simp only [Option.some.injEq, Obj.cells.injEq] at hc
    exact absurd hc.2.1 (by decide)
/-- Nothing below B has turned where a store behind B has. -/
theorem StAt.keeps {w w' : World} {g B : Nat} {k z : Int} {m : Nat} {v : Value} {rs : List RV} {ov : Bool} (h : StAt w g B k z m v rs ov) (ht : Tu (stF g v) w w') (hB : B ≤ w.heap.size) : Below B w w' := ht.below hB h.low
theorem StAt.lob {w : World} {g B : Nat} {k z : Int} {m : Nat} {v : Value} {rs : List RV} {ov : Bool} (h : StAt w g B k z m v rs ov) : B ≤ w.heap.size := Nat.le_of_lt (Nat.lt_of_le_of_lt h.lo h.lt)
/-- Another store is as it was. -/
theorem StAt.other {w w' : World} {g B g2 B2 : Nat} {k z k2 z2 : Int} {m m2 : Nat} {v v2 : Value} {rs rs2 : List RV} {ov ov2 : Bool} (h : StAt w g B k z m v rs ov) (h2 : StAt w g2 B2 k2 z2 m2 v2 rs2 ov2)
    (hg : g ≠ g2) (hv : ∀ j, v.ownBlock = some j → v2.ownBlock ≠ some j) (ht : Tu (stF g2 v2) w w') : StAt w' g B k z m v rs ov := by
  refine ⟨h.blk.tu ht fun hf => ?_, h.lo, h.own.tu ht fun j hj hf => ?_, h.rows.tu ht h2.words, h.le, h.most, h.short⟩
  · rcases hf with hf | hf
    · exact hg hf
    · obtain ⟨cur2, h3⟩ := h2.own.blk5 hf
      have := h.blk
      unfold Bk5 at this
      rw [this] at h3
      simp only [Option.some.injEq, Obj.cells.injEq] at h3
      exact absurd h3.2.1 (by decide)
  · rcases hf with rfl | hf
    · obtain ⟨cur2, h3⟩ := h.own.blk5 hj
      have := h2.blk
      unfold Bk5 at this
      rw [this] at h3
      simp only [Option.some.injEq, Obj.cells.injEq] at h3
      exact absurd h3.2.1 (by decide)
    · exact hv j hj hf
theorem StAt.at {w : World} {g B : Nat} {k z : Int} {m : Nat} {v : Value} {rs : List RV} {ov : Bool} (h : StAt w g B k z m v rs ov) : ∃ a c, v = .slice a rs.length c ∧ RowsAt w a rs.length rs ∧ rs.length ≤ c ∧ c ≤ 9223372036854775807 := h.own.rows h.rows.rows

/-- Does the row fit? -/
def fitB (k z : Int) (x : List Nat × ByteArray) : Bool := validB k x.1 && decide (0 < cnt x.1) && decide ((x.2.size : Int) = z)
/-- What is kept behind a put, whether one was left over, and what is told. -/
def putL (k z : Int) (m : Nat) (L : List (List Nat × ByteArray)) (x : List Nat × ByteArray) : List (List Nat × ByteArray) := if fitB k z x = true ∧ L.length < m then L ++ [x] else L
def putO (k z : Int) (m : Nat) (L : List (List Nat × ByteArray)) (o : Bool) (x : List Nat × ByteArray) : Bool := if fitB k z x = true ∧ ¬ L.length < m then true else o
def putE (k z : Int) (m : Nat) (L : List (List Nat × ByteArray)) (x : List Nat × ByteArray) : Int := if fitB k z x = true then (if L.length < m then 0 else 5) else 1
theorem shortR.snoc {rs : List RV} {r : RV} (h : shortR rs) (hn : r.n ≤ 10) (hs : r.s.size ≤ 1000) : shortR (rs ++ [r]) := fun i => by
  by_cases hi : i < rs.length
  · rw [List.getD_eq_getElem?_getD, List.getElem?_append_left hi, ← List.getD_eq_getElem?_getD]; exact h i
  · by_cases he : i = rs.length
    · rw [he, List.getD_eq_getElem?_getD, List.getElem?_append_right (Nat.le_refl _), Nat.sub_self]; exact ⟨hn, hs⟩
    · rw [List.getD_eq_getElem?_getD, List.getElem?_eq_none (by rw [List.length_append, List.length_singleton]; omega)]; exact ⟨Nat.zero_le _, Nat.zero_le _⟩
end Go.Proofs.YteamniigiogaeaaGreatDoor
namespace Go.Proofs.YteamniigiogaeaaGreatDoor
open Go.RowKit Go.Sort
set_option linter.unusedVariables false
set_option maxRecDepth 4000

/-- From 0 to 256. -/
def capN (n : Int) : Nat := min (max n 0).toNat 256
theorem capN_le (n : Int) : capN n ≤ 256 := Nat.min_le_right _ _
theorem cap_min (n : Int) : min (max n 0) 256 = (capN n : Int) := by unfold capN; omega
theorem max_run (n : Int) (ts : Array TypeId) (t : TypeId) (w : World) : (Builtin.max_ ts t #[.int .i64 n, .int .i64 0]).run Tryz.prog w = .ok (.int .i64 (max n 0)) w := by
  rw [run_max_int2]
  congr 2
  split <;> omega
theorem cap_run (n : Int) (ts : Array TypeId) (t : TypeId) (w : World) : (Builtin.min_ ts t #[.int .i64 (max n 0), .int .i64 256]).run Tryz.prog w = .ok (.int .i64 (capN n : Int)) w := by
  rw [run_min_int2, ← cap_min]
  congr 2
  split <;> omega

theorem stnew_any (k z n : Int) (w : World) :
    Calls Tryz.prog 63 #[.int .i64 k, .int .i64 z, .int .i64 n] w fun e w' => e = .returned (.pointer (some ⟨w.heap.size, 0, none⟩)) ∧ StAt w' w.heap.size w.heap.size k z (capN n) (.slice none 0 0) [] false ∧ Below w.heap.size w w' := by
  have h1 := max_run n
  have h2 := cap_run n
  go_enter Tryz.func63, Tryz.ntmps63
  go_wp2
  go_ret
  exact ⟨rfl, ⟨bk5_new _ _ _ _ _ _ _, Nat.le_refl _, OwnS.nil _ _, OwnRs.nil _ _, Nat.zero_le _, capN_le n, short_nil⟩, (Below.refl _ _).alloc (Nat.le_refl _) _⟩

theorem len_any (g B : Nat) (k z : Int) (m : Nat) (v : Value) (rs : List RV) (ov : Bool) (w : World) (h : StAt w g B k z m v rs ov) :
    Calls Tryz.prog 31 #[.pointer (some ⟨g, 0, none⟩)] w fun e w' => e = .returned (.int .i64 (rs.length : Int)) ∧ w' = w := by
  obtain ⟨a, c, rfl, -, -, -⟩ := h.at
  obtain ⟨h0, h1, h2, h3, h4⟩ := h.blk.at
  clear h
  go_enter Tryz.func31, Tryz.ntmps31
  go_wp2
  go_ret
  exact ⟨rfl, rfl⟩
theorem len_nil (w : World) : Calls Tryz.prog 31 #[.pointer none] w fun e w' => e = .returned (.int .i64 0) ∧ w' = w := by
  go_enter Tryz.func31, Tryz.ntmps31
  go_wp2
  go_ret
  exact ⟨rfl, rfl⟩
theorem over_any (g B : Nat) (k z : Int) (m : Nat) (v : Value) (rs : List RV) (ov : Bool) (w : World) (h : StAt w g B k z m v rs ov) :
    Calls Tryz.prog 32 #[.pointer (some ⟨g, 0, none⟩)] w fun e w' => e = .returned (.bool ov) ∧ w' = w := by
  obtain ⟨h0, h1, h2, h3, h4⟩ := h.blk.at
  clear h
  go_enter Tryz.func32, Tryz.ntmps32
  go_wp2
  go_ret
  exact ⟨rfl, rfl⟩
theorem over_nil (w : World) : Calls Tryz.prog 32 #[.pointer none] w fun e w' => e = .returned (.bool false) ∧ w' = w := by
  go_enter Tryz.func32, Tryz.ntmps32
  go_wp2
  go_ret
  exact ⟨rfl, rfl⟩
/-- How many bring something anew. -/
def rankN (rs : List RV) : Nat := (keepL (vecsL rs) rs.length).length
theorem rank_any (g B : Nat) (k z : Int) (m : Nat) (v : Value) (rs : List RV) (ov : Bool) (w : World) (ht : Tab w) (h : StAt w g B k z m v rs ov) :
    Calls Tryz.prog 29 #[.pointer (some ⟨g, 0, none⟩)] w fun e w' => e = .returned (.int .i64 (rankN rs : Int)) ∧ Below w.heap.size w w' := by
  obtain ⟨a, c, rfl, hR, -, -⟩ := h.at
  obtain ⟨h0, h1, h2, h3, h4⟩ := h.blk.at
  have HK := hide (grank_any a rs.length c rs w ht hR h.rows.rows h.short (by have := h.le; have := h.most; omega))
  clear h hR ht
  go_enter Tryz.func29, Tryz.ntmps29
  go_wp2_with (go_at_call 51; refine (unhide HK).mono ?_; rintro e w1 ⟨rfl, hb1⟩)
  go_ret
  exact ⟨rfl, hb1⟩
theorem rank_nil (w : World) : Calls Tryz.prog 29 #[.pointer none] w fun e w' => e = .returned (.int .i64 0) ∧ w' = w := by
  go_enter Tryz.func29, Tryz.ntmps29
  go_wp2
  go_ret
  exact ⟨rfl, rfl⟩
theorem rows_nil15 (w : World) : Calls Tryz.prog 66 #[.pointer none] w fun e w' => e = .returned (.slice none 0 0) ∧ w' = w := by
  go_enter Tryz.func66, Tryz.ntmps66
  go_wp2
  go_ret
  exact ⟨rfl, rfl⟩
theorem put_nil (v0 v1 : Value) (w : World) : Calls Tryz.prog 49 #[.pointer none, .agg #[v0, v1]] w fun e w' => e = .returned (.int .i64 1) ∧ Below w.heap.size w w' := by
  go_enter Tryz.func49, Tryz.ntmps49
  go_wp2
  go_ret
  exact ⟨rfl, (Below.refl _ _).alloc (Nat.le_refl _) _⟩

theorem BoxW.belowB {w w' : World} {g B : Nat} {x y : Value} (h : BoxW w g x y) (hb : Below B w w') (hg : g < B) : BoxW w' g x y :=
  ⟨⟨(hb.cell (p := ⟨g, 0, none⟩) hg).trans h.1.1, (hb.cell (p := ⟨g, 1, none⟩) hg).trans h.1.2⟩, (hb.frozen (p := ⟨g, 0, none⟩) hg).trans h.2.1, (hb.frozen (p := ⟨g, 1, none⟩) hg).trans h.2.2⟩
set_option maxHeartbeats 1000000 in
theorem copyOf_any (a : Option Addr) (n c : Nat) (xs : List Nat) (s : ByteArray) (w : World) (h : RowAt w a n xs) (hn : n ≤ 1048576) (hs : s.size ≤ 1048576) :
    Calls Tryz.prog 85 #[.agg #[.slice a n c, .string s]] w fun e w' => ∃ a2 c2, e = .returned (.agg #[.slice a2 n c2, .string s]) ∧ Own w' w.heap.size (.slice a2 n c2) xs ∧ Below w.heap.size w w' := by
  have hx1 := (boxW_new w (.slice a n c) (.string s)).alloc (.cells #[.slice none 0 0, .string ⟨#[]⟩] 29)
  have hx2 := boxW_new (w.alloc (.cells #[.slice a n c, .string s] 29)) (.slice none 0 0) (.string ⟨#[]⟩)
  rw [alloc_size] at hx2
  have hb0 : Below w.heap.size w ((w.alloc (.cells #[.slice a n c, .string s] 29)).alloc (.cells #[.slice none 0 0, .string ⟨#[]⟩] 29)) := below2 (Below.refl _ w) (Below.refl _ _)
  have hsz : ((w.alloc (.cells #[.slice a n c, .string s] 29)).alloc (.cells #[.slice none 0 0, .string ⟨#[]⟩] 29)).heap.size = w.heap.size + 2 := by rw [alloc_size, alloc_size]
  have hr := h.below hb0
  have hnn := h.1
  generalize hW : (w.alloc (.cells #[.slice a n c, .string s] 29)).alloc (.cells #[.slice none 0 0, .string ⟨#[]⟩] 29) = W at *
  have HCL := hide (fun wx (hb : Below W.heap.size W wx) => clone_any a n c xs wx (hr.below hb) (by omega))
  have HSC := hide (fun wx => sclone_any s wx hs)
  have HQ := hide (fun wx (hb : Below W.heap.size W wx) => show _ ∧ _ from ⟨hx1.below hb, hx2.below hb⟩)
  have HB0 := hide hb0
  have HN := hide hnn
  have HZ := hide hsz
  obtain ⟨⟨c0, c1⟩, -, -⟩ := hx1
  clear h hr hx2 hb0 hnn hsz
  go_enter Tryz.func85, Tryz.ntmps85
  go_wp2_with fail
  go_region_held3 (fun w' => w'.cell? ⟨w.heap.size, 0, none⟩ = some (.slice a n c) ∧ w'.cell? ⟨w.heap.size, 1, none⟩ = some (.string s)) (go_keep) (first
    | (go_at_call 102; refine (unhide HCL _ (by first | exact unhide D2 | exact (Below.refl _ _).drew)).mono ?_; rintro e w1 ⟨v1, rfl, ho1, hb1⟩; obtain ⟨a2, c2, rfl, -⟩ := ho1.row; have D1 := hide (show Below W.heap.size W w1 from below0 (by first | exact unhide D2 | exact (Below.refl _ _).drew) hb1); rw [unhide HN] at ho1 ⊢; have HO1 := hide (ho1.mono (B' := w.heap.size + 2) (Nat.le_of_eq (unhide HZ).symm)); obtain ⟨⟨⟨q0, q1⟩, -, -⟩, ⟨⟨y0, y1⟩, f0, f1⟩⟩ := unhide HQ w1 (unhide D1); clear ho1 hb1)
    | (go_at_call 30; refine (unhide HSC _).mono ?_; rintro e w2 ⟨rfl, hb2⟩; have D2 := hide (show Below W.heap.size W w2 from below0 (by first | exact unhide D1 | exact (Below.refl _ _).drew) hb2); (first | (have HO1 := hide ((unhide HO1).below hb2)) | skip); obtain ⟨⟨⟨q0, q1⟩, -, -⟩, ⟨⟨y0, y1⟩, f0, f1⟩⟩ := unhide HQ w2 (unhide D2); clear hb2))
  all_goals go_wp2
  exact bodyPost_ret (v := .agg #[.slice a2 n c2, .string s]) (by simp [results, Tryz.results85, go_sem, y0, y1]) rfl
    ⟨a2, c2, rfl, (((unhide HO1).other 0 _ (Nat.lt_succ_self _)).other 1 _ (Nat.lt_succ_self _)).mono (Nat.le_add_right _ _), ((below0 (unhide HB0) (unhide D2)).setCell (p := ⟨w.heap.size + 1, 0, none⟩) (Nat.le_succ _) _).setCell (p := ⟨w.heap.size + 1, 1, none⟩) (Nat.le_succ _) _⟩

/-- A block of five cells of whatever world, as it is read. -/
theorem StAt.cells {w w' : World} {g B : Nat} {k z : Int} {m : Nat} {v : Value} {rs : List RV} {ov : Bool} (h : StAt w g B k z m v rs ov) (hb : Below w.heap.size w w') :
    w'.cell? ⟨g, 0, none⟩ = some (.int .i64 k) ∧ w'.cell? ⟨g, 1, none⟩ = some (.int .i64 z) ∧ w'.cell? ⟨g, 2, none⟩ = some (.int .i64 (m : Int)) ∧ w'.cell? ⟨g, 3, none⟩ = some v ∧ w'.cell? ⟨g, 4, none⟩ = some (.bool ov) := (h.blk.below hb).at
set_option maxHeartbeats 2000000 in
theorem fits_any (g B : Nat) (k z : Int) (m : Nat) (v : Value) (rs : List RV) (ov : Bool) (a : Option Addr) (n c : Nat) (xs : List Nat) (s : ByteArray) (w : World) (h : StAt w g B k z m v rs ov) (hr : RowAt w a n xs) (hn : n ≤ 1048576) (hs : s.size ≤ 1048576) :
    Calls Tryz.prog 79 #[.pointer (some ⟨g, 0, none⟩), .agg #[.slice a n c, .string s]] w fun e w' => e = .returned (.bool (fitB k z (xs, s))) ∧ Below w.heap.size w w' := by
  have hb0 : Below w.heap.size w (w.alloc (.cells #[.slice a n c, .string s] 29)) := (Below.refl _ _).alloc (Nat.le_refl _) _
  have hx := box_new w (.slice a n c) (.string s)
  have hst := h.below hb0
  have hrr := hr.below hb0
  generalize hW : w.alloc (.cells #[.slice a n c, .string s] 29) = W at *
  have cV := hide (quietB (W := W) (fun w' hb => (valid_any a n c xs k w' (hrr.below hb)).mono fun e w'' ⟨he, hb2⟩ => ⟨retV he, hb2⟩))
  have cC := hide (quietB (W := W) (fun w' hb => same_below (count_any a n c xs w' (hrr.below hb) hn)))
  obtain ⟨k0, k1, -, -, -⟩ := hst.blk.at
  obtain ⟨c0, c1⟩ := hx
  have r0 := cell_regrown k0
  have r1 := cell_regrown k1
  have r2 := cell_regrown c0
  have r3 := cell_regrown c1
  have HB0 := hide hb0
  have hfit : fitB k z (xs, s) = (validB k xs && decide (0 < cnt xs) && decide ((s.size : Int) = z)) := rfl
  rw [hfit]
  clear h hr hst hrr hb0 hfit k0 k1 c0 c1
  generalize cnt xs = N at *
  generalize validB k xs = V at *
  have hd2 : decide ((0 : Int) < (N : Int)) = decide (0 < N) := by by_cases h : 0 < N <;> simp [h]
  have hd3 : ((s.size : Int) == z) = decide ((s.size : Int) = z) := by by_cases h : (s.size : Int) = z <;> simp [h]
  go_enter Tryz.func79, Tryz.ntmps79
  cases hv : V <;> cases h0 : decide (0 < N) <;> cases h1 : decide ((s.size : Int) = z)
  all_goals (subst hv; rw [h0] at hd2; rw [h1] at hd3)
  all_goals go_wp2_with fail
  all_goals refine wp_region_quiet_below (by kernel_rfl) (by kernel_rfl) ?_
  all_goals (repeat (with_reducible refine wpQuiet_step (fun K hK => ?_); go_simp; first | (with_reducible refine hK _ ?_; clear hK K) | (apply Exists.intro; apply And.intro; (intro _; first | (go_at_call 77; exact unhide cV _ _) | (go_at_call 78; exact unhide cC _ _)); with_reducible refine hK _ ?_; clear hK K)))
  all_goals refine wpQuiet_nil ?_
  all_goals (intro _ hw'; obtain ⟨⟨dq, osq⟩, hw''⟩ := hw'; subst hw'')
  all_goals have C1 := hide (below_regrown W dq osq)
  all_goals clear cV cC r0 r1 r2 r3
  all_goals go_wp2
  all_goals go_ret
  all_goals exact ⟨rfl, below0 (unhide HB0) (unhide C1)⟩
end Go.Proofs.YteamniigiogaeaaGreatDoor
namespace Go.Proofs.YteamniigiogaeaaGreatDoor
open Go.RowKit Go.Sort
set_option linter.unusedVariables false
set_option maxRecDepth 4000

theorem refuse_any (p v0 v1 : Value) (w : World) : Calls Tryz.prog 80 #[p, .agg #[v0, v1]] w fun e w' => e = .returned (.int .i64 1) ∧ Below w.heap.size w w' := by
  go_enter Tryz.func80, Tryz.ntmps80
  go_wp2
  go_ret
  exact ⟨rfl, (Below.refl _ _).alloc (Nat.le_refl _) _⟩
theorem overflow_any (g B : Nat) (k z : Int) (m : Nat) (v : Value) (rs : List RV) (ov : Bool) (v0 v1 : Value) (w : World) (h : StAt w g B k z m v rs ov) :
    Calls Tryz.prog 81 #[.pointer (some ⟨g, 0, none⟩), .agg #[v0, v1]] w fun e w' => e = .returned (.int .i64 5) ∧ StAt w' g B k z m v rs true ∧ Tu (stF g v) w w' := by
  have hb0 : Below w.heap.size w (w.alloc (.cells #[v0, v1] 29)) := (Below.refl _ _).alloc (Nat.le_refl _) _
  have hst := h.below hb0
  have HS := hide hst
  have HB0 := hide hb0
  obtain ⟨k0, k1, k2, k3, k4⟩ := hst.blk.at
  have f4 := hst.blk.frz 4
  clear h hst hb0
  go_enter Tryz.func81, Tryz.ntmps81
  go_wp2
  go_ret
  have hst := unhide HS
  have hg := gb_setCell (w.alloc (.cells #[v0, v1] 29)) g 4 (.bool true)
  have ht : Tu (stF g v) (w.alloc (.cells #[v0, v1] 29)) ((w.alloc (.cells #[v0, v1] 29)).setCell ⟨g, 4, none⟩ (.bool true)) := Tu.of_gb hg fun j _ e => .inl (Option.some.inj e).symm
  refine ⟨rfl, ⟨hst.blk.set4 _, hst.lo, ?_, ?_, hst.le, hst.most, hst.short⟩, ht.after (unhide HB0)⟩
  · refine World.ownsRow.kept hst.own hg ?_
    by_cases hv : v.ownBlock = none
    · exact .inl hv
    · refine .inr fun e => ?_
      obtain ⟨cur, hc⟩ := hst.own.blk5 e
      have := hst.blk
      unfold Bk5 at this
      rw [this] at hc
      simp only [Option.some.injEq, Obj.cells.injEq] at hc
      exact absurd hc.2.1 (by decide)
  · exact hst.rows.tu ht hst.words

/-- 'append(own, row)' as a step of a region that draws its order. -/
theorem append_stepR {ops : Array Oper} {o : Oper} {a : Act} {w : World} {K : Act → World → Prop} {Q : Exit → Act → World → Prop} {E : Prop} (hgd : o.guard = none) (s x : Operand)
    (ho : o.op = .call { callee := .builtin .append, args := #[s, x], argTypes := #[32, 32] }) (B : Nat) (v : Value) (rs : List RV) (r : RV) (hs : a.eval s = v) (hown : OwnS w B v rs) (b : Nat)
    (hx : a.eval x = .slice (some ⟨b, 0, none⟩) 1 1) (hb : w.heap[b]? = some (.cells #[.slice r.a r.n r.c, .string r.s] 29 (0, 0))) (hn : rs.length ≤ 1000000) (hB : B ≤ w.heap.size)
    (h : ∀ g cap w', OwnS w' B (.slice (some ⟨g, 0, none⟩) (rs.length + 1) cap) (rs ++ [r]) → w.grownBy w' v.ownBlock → (v.ownBlock = some g ∨ g = w.heap.size) → K (a.put o.dst (.slice (some ⟨g, 0, none⟩) (rs.length + 1) cap)) w') :
    if Region.wanted o (yielded ops a.tmps) = true then Oper.wp Tryz.prog o a w K Q else E := by
  obtain ⟨i0, hi, hz0, hz1, hz2⟩ := info_parts info_rowZ
  refine step_append_lies w hgd s x 32 ho B 29 i0 (.agg #[.slice none 0 0, .string ⟨#[]⟩]) 2 40 Tryz.underlying32 hi hz0 hz1 hz2 rfl (by decide) v rs.length (cellsR rs) hs hown ⟨b, 0, none⟩ 1 1 [.slice r.a r.n r.c, .string r.s] hx rfl
    (World.news_of_block hb) (fun u hu => by rcases List.mem_cons.1 hu with rfl | hu; · rfl
                                             · rw [List.mem_singleton.1 hu]; rfl) (by decide) (by unfold maxLen; omega) (by omega) hB _ rfl (fun g cap w' h2 h3 h4 _ => h g cap w' ?_ h3 h4)
  show w'.ownsRow B 29 2 _ (rs ++ [r]).length (cellsR (rs ++ [r]))
  rw [List.length_append, cellsR_append]
  exact h2

theorem kept_done {w W w1 w2 : World} {g B : Nat} {k z : Int} {m : Nat} {v : Value} {rs : List RV} {ov : Bool} {n : Nat} {xs : List Nat} {s : ByteArray} {a2 : Option Addr} {c2 g2 cap : Nat} (hgw : g < w.heap.size) (hb0 : Below w.heap.size w W) (hst : StAt W g B k z m v rs ov) (hd1 : Below W.heap.size W w1)
    (ho1 : Own w1 W.drew.heap.size (.slice a2 n c2) xs) (hb2 : Below w1.heap.size w1 (w1.alloc (.cells #[.slice a2 n c2, .string s] 29)))
    (ho2 : OwnS w2 B (.slice (some ⟨g2, 0, none⟩) (rs.length + 1) cap) (rs ++ [⟨a2, n, c2, xs, s⟩])) (hg2 : (w1.alloc (.cells #[.slice a2 n c2, .string s] 29)).grownBy w2 v.ownBlock) (hat : v.ownBlock = some g2 ∨ g2 = (w1.alloc (.cells #[.slice a2 n c2, .string s] 29)).heap.size)
    (hn : n ≤ 10) (hs : s.size ≤ 1000) (hl : rs.length < m) :
    ∃ v' r, (Ending.returned (.int .i64 0) : Ending) = .returned (.int .i64 0) ∧ core r = (xs, s) ∧ StAt (w2.setCell ⟨g, 3, none⟩ (.slice (some ⟨g2, 0, none⟩) (rs.length + 1) cap)) g B k z m v' (rs ++ [r]) ov ∧ Tu (stF g v) w (w2.setCell ⟨g, 3, none⟩ (.slice (some ⟨g2, 0, none⟩) (rs.length + 1) cap)) ∧
      (v'.ownBlock = v.ownBlock ∨ ∀ j, v'.ownBlock = some j → w.heap.size ≤ j) := by
  have h1 := (hst.below hd1).below hb2
  generalize hX : w1.alloc (.cells #[.slice a2 n c2, .string s] 29) = X at *
  have hne : some g ≠ v.ownBlock := fun e => by
    obtain ⟨cur, hc⟩ := h1.own.blk5 e.symm
    have := h1.blk
    unfold Bk5 at this
    rw [this] at hc
    simp only [Option.some.injEq, Obj.cells.injEq] at hc
    exact absurd hc.2.1 (by decide)
  have hk2 := h1.blk.kept hg2 hne
  have hgg : g ≠ g2 := fun e => by
    subst e
    obtain ⟨cur, hc⟩ := ho2.blk5 (g := g) rfl
    have := hk2
    unfold Bk5 at this
    rw [this] at hc
    simp only [Option.some.injEq, Obj.cells.injEq] at hc
    exact absurd hc.2.1 (by decide)
  have hgs := gb_setCell w2 g 3 (.slice (some ⟨g2, 0, none⟩) (rs.length + 1) cap)
  have ht : Tu (stF g v) X (w2.setCell ⟨g, 3, none⟩ (.slice (some ⟨g2, 0, none⟩) (rs.length + 1) cap)) :=
    (Tu.of_gb (F := stF g v) hg2 fun j _ e => .inr e).trans (Tu.of_gb (F := stF g v) hgs fun j _ e => .inl (Option.some.inj e).symm) fun _ _ h => h
  have hbx : Below w.heap.size w X := below0 (below0 hb0 hd1) hb2
  have hw1 : W.drew.heap.size = W.heap.size := rfl
  have ho1' : Own X B (.slice a2 n c2) xs := (ho1.mono (by rw [hw1]; exact hst.lob)).below hb2
  refine ⟨_, ⟨a2, n, c2, xs, s⟩, rfl, rfl, ⟨hk2.set3 _, hst.lo, ?_, ?_, ?_, hst.most, hst.short.snoc hn hs⟩, ht.after hbx, ?_⟩
  · refine World.ownsRow.kept ho2 hgs (.inr fun e => hgg ?_)
    exact (Option.some.inj e).symm
  · exact (h1.rows.tu ht h1.words).snoc (ho1'.tu ht fun j hj => by
      obtain ⟨cur, hc⟩ := ho1'.blkU hj
      exact h1.words j cur hc)
  · rw [List.length_append, List.length_singleton]; omega
  · rcases hat with e | e
    · exact .inl (by rw [e]; rfl)
    · refine .inr fun j hj => ?_
      obtain rfl : g2 = j := Option.some.inj hj
      rw [e]
      exact hbx.size

set_option maxHeartbeats 2000000 in
theorem stkeep_any (g B : Nat) (k z : Int) (m : Nat) (v : Value) (rs : List RV) (ov : Bool) (a : Option Addr) (n c : Nat) (xs : List Nat) (s : ByteArray) (w : World) (h : StAt w g B k z m v rs ov) (hr : RowAt w a n xs) (hn : n ≤ 10) (hs : s.size ≤ 1000) (hl : rs.length < m) :
    Calls Tryz.prog 82 #[.pointer (some ⟨g, 0, none⟩), .agg #[.slice a n c, .string s]] w fun e w' => ∃ v' r, e = .returned (.int .i64 0) ∧ core r = (xs, s) ∧ StAt w' g B k z m v' (rs ++ [r]) ov ∧ Tu (stF g v) w w' ∧
      (v'.ownBlock = v.ownBlock ∨ ∀ j, v'.ownBlock = some j → w.heap.size ≤ j) := by
  have hb0 : Below w.heap.size w (w.alloc (.cells #[.slice a n c, .string s] 29)) := (Below.refl _ _).alloc (Nat.le_refl _) _
  have hx := box_new w (.slice a n c) (.string s)
  have hst := h.below hb0
  have hrr := hr.below hb0
  have hgw : g < w.heap.size := h.lt
  generalize hW : w.alloc (.cells #[.slice a n c, .string s] 29) = W at *
  have HCO := hide (copyOf_any a n c xs s W.drew (hrr.below (Below.refl _ _).drew) (by omega) (by omega))
  obtain ⟨k0, k1, k2, k3, k4⟩ := hst.blk.at
  obtain ⟨c0, c1⟩ := hx
  have HB0 := hide hb0
  have HS := hide hst
  have HLN : Hid (rs.length ≤ 1000000) := hide (by have := hst.most; omega)
  have HNE : Hid (some g ≠ v.ownBlock) := hide fun e => by
    obtain ⟨cur, hc⟩ := hst.own.blk5 e.symm
    have := hst.blk
    unfold Bk5 at this
    rw [this] at hc
    simp only [Option.some.injEq, Obj.cells.injEq] at hc
    exact absurd hc.2.1 (by decide)
  have HNX : Hid (some w.heap.size ≠ v.ownBlock) := hide fun e => by
    have := (World.ownsRow.lt h.own _ e.symm).2
    omega
  have hne : g ≠ w.heap.size := Nat.ne_of_lt hgw
  have hne2 : w.heap.size ≠ g := Nat.ne_of_gt hgw
  clear h hr hst hrr hb0
  go_enter Tryz.func82, Tryz.ntmps82
  go_wp2_with fail
  go_region_law (first
    | (go_simp; go_at_call 85; refine (unhide HCO).mono ?_; rintro e w1 ⟨a2, c2, rfl, ho1, hb1⟩; have D1 := hide (show Below W.heap.size W w1 from below0 (Below.refl _ _).drew hb1); have hs1 := (unhide HS).below (unhide D1); have HS1 := hide hs1; have HO1 := hide ho1; obtain ⟨-, -, -, q3, -⟩ := hs1.blk.at; have q0 := ((unhide D1).cell (p := ⟨w.heap.size, 0, none⟩) (World.block_lt_of_cell? W _ c0)).trans c0; have q1 := ((unhide D1).cell (p := ⟨w.heap.size, 1, none⟩) (World.block_lt_of_cell? W _ c1)).trans c1; have hb2 : Below w1.heap.size w1 (w1.alloc (.cells #[.slice a2 n c2, .string s] 29)) := (Below.refl _ _).alloc (Nat.le_refl _) _; have HB2 := hide hb2; have q3' := (hb2.cell (p := ⟨g, 3, none⟩) (World.block_lt_of_cell? w1 _ q3)).trans q3; have hnw := heap_alloc_new w1 (.cells #[.slice a2 n c2, .string s] 29); have HNW := hide hnw; have HBB := hide (Nat.le_trans (unhide HS1).lob hb2.size); clear ho1 hb1 hs1 hb2 hnw)
    | (refine append_stepR (by rfl) _ _ (by rfl) B v rs ⟨a2, n, c2, xs, s⟩ (by rfl) ((unhide HS1).own.below (unhide HB2)) w1.heap.size (by rfl) (unhide HNW) (unhide HLN) (unhide HBB) ?_; intro g2 cap w2 ho2 hg2 hat; have HO2 := hide ho2; have HG2 := hide hg2; have HAT := hide hat; have hgb := (unhide HS1).below (unhide HB2); have hk2 := hgb.blk.kept hg2 (unhide HNE); obtain ⟨-, -, -, u3, -⟩ := hk2.at; have uf := hk2.frz 3; have HK2 := hide hk2; have u0 := hg2.cell (a := ⟨w.heap.size, 0, none⟩) (((unhide HB2).cell (World.block_lt_of_cell? w1 _ q0)).trans q0) (unhide HNX); have u1 := hg2.cell (a := ⟨w.heap.size, 1, none⟩) (((unhide HB2).cell (World.block_lt_of_cell? w1 _ q1)).trans q1) (unhide HNX); clear ho2 hg2 hat hgb hk2))
  all_goals go_wp2
  all_goals go_ret
  all_goals exact kept_done hgw (unhide HB0) (unhide HS) (unhide D1) (unhide HO1) (unhide HB2) (unhide HO2) (unhide HG2) (unhide HAT) hn hs hl

/-- Which method takes a row. -/
def takF (f l : Bool) : FuncId := match f, l with
  | false, _ => 80
  | true, true => 82
  | true, false => 81
set_option maxHeartbeats 1000000 in
theorem taker_any (g B : Nat) (k z : Int) (m : Nat) (v : Value) (rs : List RV) (ov : Bool) (a : Option Addr) (n c : Nat) (xs : List Nat) (s : ByteArray) (w : World) (h : StAt w g B k z m v rs ov) (hr : RowAt w a n xs) (hn : n ≤ 10) (hs : s.size ≤ 1000) :
    Calls Tryz.prog 64 #[.pointer (some ⟨g, 0, none⟩), .agg #[.slice a n c, .string s]] w fun e w' => e = .returned (.func (.func (takF (fitB k z (xs, s)) (decide (rs.length < m)))) #[.pointer (some ⟨g, 0, none⟩)] #[]) ∧ Below w.heap.size w w' := by
  have hmf : ∀ (fn : Fn) (first cap : Array Value) (w : World), (Instr.makeFunc fn first cap).run Tryz.prog w = .ok (.func fn first cap) w := fun _ _ _ _ => rfl
  have hb0 : Below w.heap.size w (w.alloc (.cells #[.slice a n c, .string s] 29)) := (Below.refl _ _).alloc (Nat.le_refl _) _
  have hst := h.below hb0
  have hle := h.le
  have HF := hide (fits_any g B k z m v rs ov a n c xs s _ hst (hr.below hb0) (by omega) (by omega))
  obtain ⟨av, cv, rfl, -, -, -⟩ := hst.at
  have HS := hide hst
  have HB0 := hide hb0
  clear h hr hst hb0
  generalize hT : takF (fitB k z (xs, s)) (decide (rs.length < m)) = T
  have HT := hide hT
  clear hT
  go_enter Tryz.func64, Tryz.ntmps64
  go_wp2_with fail
  refine (unhide HF).mono ?_
  rintro e w1 ⟨rfl, hb1⟩
  have HB1 := hide (below0 (unhide HB0) hb1)
  obtain ⟨k0, k1, k2, k3, k4⟩ := ((unhide HS).below hb1).blk.at
  clear HF HS hb1
  generalize fitB k z (xs, s) = F at *
  cases F
  · go_wp2
    go_ret
    exact ⟨by rw [← unhide HT]; rfl, unhide HB1⟩
  · by_cases hl : rs.length < m
    · have hd : ((rs.length : Int) == (m : Int)) = false := by rw [beq_eq_false_iff_ne]; omega
      go_wp2
      go_quiet (fail)
      go_wp2
      go_ret
      exact ⟨by rw [← unhide HT, decide_eq_true hl]; rfl, ⟨(unhide HB1).os, (unhide HB1).tape, (unhide HB1).output, (unhide HB1).size, (unhide HB1).block⟩⟩
    · have hd : ((rs.length : Int) == (m : Int)) = true := by rw [beq_iff_eq]; omega
      go_wp2
      go_quiet (fail)
      go_wp2
      go_ret
      exact ⟨by rw [← unhide HT, decide_eq_false hl]; rfl, ⟨(unhide HB1).os, (unhide HB1).tape, (unhide HB1).output, (unhide HB1).size, (unhide HB1).block⟩⟩
end Go.Proofs.YteamniigiogaeaaGreatDoor
namespace Go.Proofs.YteamniigiogaeaaGreatDoor
open Go.RowKit Go.Sort
set_option linter.unusedVariables false
set_option maxRecDepth 4000

/-- What a put leaves. -/
def PutP (w w' : World) (g B : Nat) (k z : Int) (m : Nat) (v : Value) (rs : List RV) (ov : Bool) (x : List Nat × ByteArray) (e : Ending) : Prop :=
  e = .returned (.int .i64 (putE k z m (rs.map core) x)) ∧ ∃ v' rs', StAt w' g B k z m v' rs' (putO k z m (rs.map core) ov x) ∧ rs'.map core = putL k z m (rs.map core) x ∧ Tu (stF g v) w w' ∧ (v'.ownBlock = v.ownBlock ∨ ∀ j, v'.ownBlock = some j → w.heap.size ≤ j)
theorem put_no {k z : Int} {m : Nat} {L : List (List Nat × ByteArray)} {x : List Nat × ByteArray} (h : fitB k z x = false) : putE k z m L x = 1 ∧ putL k z m L x = L ∧ ∀ o, putO k z m L o x = o := by
  unfold putE putL putO
  simp [h]
theorem put_in {k z : Int} {m : Nat} {L : List (List Nat × ByteArray)} {x : List Nat × ByteArray} (h : fitB k z x = true) (hl : L.length < m) : putE k z m L x = 0 ∧ putL k z m L x = L ++ [x] ∧ ∀ o, putO k z m L o x = o := by
  unfold putE putL putO
  simp [h, hl]
theorem put_full {k z : Int} {m : Nat} {L : List (List Nat × ByteArray)} {x : List Nat × ByteArray} (h : fitB k z x = true) (hl : ¬ L.length < m) : putE k z m L x = 5 ∧ putL k z m L x = L ∧ ∀ o, putO k z m L o x = true := by
  unfold putE putL putO
  simp only [h, hl, if_true, if_false, and_false, true_and, not_false_eq_true]
  exact fun _ => trivial
set_option maxHeartbeats 1000000 in
theorem put_any (g B : Nat) (k z : Int) (m : Nat) (v : Value) (rs : List RV) (ov : Bool) (a : Option Addr) (n c : Nat) (xs : List Nat) (s : ByteArray) (w : World) (h : StAt w g B k z m v rs ov) (hr : RowAt w a n xs) (hn : n ≤ 10) (hs : s.size ≤ 1000) :
    Calls Tryz.prog 49 #[.pointer (some ⟨g, 0, none⟩), .agg #[.slice a n c, .string s]] w fun e w' => PutP w w' g B k z m v rs ov (xs, s) e := by
  have hb0 : Below w.heap.size w (w.alloc (.cells #[.slice a n c, .string s] 29)) := (Below.refl _ _).alloc (Nat.le_refl _) _
  have hx := box_new w (.slice a n c) (.string s)
  have hst := h.below hb0
  have HTK := hide (taker_any g B k z m v rs ov a n c xs s _ hst (hr.below hb0) hn hs)
  have HX := hide hx
  have HS := hide hst
  have HR := hide (hr.below hb0)
  have HB0 := hide hb0
  have HLM := hide (show (rs.map core).length = rs.length from List.length_map core)
  obtain ⟨c0, c1⟩ := hx
  clear h hr hst hb0
  go_enter Tryz.func49, Tryz.ntmps49
  go_wp2_with fail
  refine (unhide HTK).mono ?_
  rintro e w1 ⟨rfl, hb1⟩
  obtain ⟨d0, d1⟩ := (unhide HX).below hb1
  have HB1 := hide (below0 (unhide HB0) hb1)
  have HS1 := hide ((unhide HS).below hb1)
  have HR1 := hide ((unhide HR).below hb1)
  clear HTK HX HS HR hb1 c0 c1
  cases hf : fitB k z (xs, s)
  · rw [show takF false (decide (rs.length < m)) = 80 from rfl]
    go_wp2_with (go_at_call 80; refine (refuse_any _ _ _ _).mono ?_; rintro e w2 ⟨rfl, hb2⟩)
    go_ret
    obtain ⟨p1, p2, p3⟩ := put_no (m := m) (L := rs.map core) hf
    refine ⟨by rw [p1]; rfl, v, rs, ?_, p2.symm, Tu.of_below (below0 (unhide HB1) hb2), .inl rfl⟩
    rw [p3]
    exact (unhide HS1).below hb2
  · by_cases hl : rs.length < m
    · rw [show takF true (decide (rs.length < m)) = 82 by rw [decide_eq_true hl]; rfl]
      have HK := hide (stkeep_any g B k z m v rs ov a n c xs s w1 (unhide HS1) (unhide HR1) hn hs hl)
      go_wp2_with (go_at_call 82; refine (unhide HK).mono ?_; rintro e w2 ⟨v2, r2, rfl, hc2, hs2, ht2, hv2⟩)
      go_ret
      obtain ⟨p1, p2, p3⟩ := put_in (m := m) (L := rs.map core) hf (by rw [unhide HLM]; exact hl)
      refine ⟨by rw [p1]; rfl, v2, rs ++ [r2], ?_, ?_, ht2.after (unhide HB1), hv2.imp id fun q j hj => Nat.le_trans (unhide HB1).size (q j hj)⟩
      · rw [p3]; exact hs2
      · rw [p2, List.map_append, ← hc2]; rfl
    · rw [show takF true (decide (rs.length < m)) = 81 by rw [decide_eq_false hl]; rfl]
      have HK := hide (overflow_any g B k z m v rs ov (.slice a n c) (.string s) w1 (unhide HS1))
      go_wp2_with (go_at_call 81; refine (unhide HK).mono ?_; rintro e w2 ⟨rfl, hs2, ht2⟩)
      go_ret
      obtain ⟨p1, p2, p3⟩ := put_full (m := m) (L := rs.map core) hf (by rw [unhide HLM]; exact hl)
      refine ⟨by rw [p1]; rfl, v, rs, ?_, p2.symm, ht2.after (unhide HB1), .inl rfl⟩
      rw [p3]; exact hs2

/-- The cells of a slice that is made and then filled, row by row. -/
def fillS (n : Nat) (us : List RV) : List RV := us ++ List.replicate (n - us.length) zR
theorem fillS_zero (n : Nat) : fillS n [] = List.replicate n zR := by simp [fillS]
theorem fillS_length {n : Nat} {us : List RV} (h : us.length ≤ n) : (fillS n us).length = n := by simp [fillS]; omega
theorem fillS_all {n : Nat} {us : List RV} (h : us.length = n) : fillS n us = us := by simp [fillS, h]
theorem fillS_next {n : Nat} {us : List RV} (r : RV) (h : us.length < n) : (fillS n us).set us.length r = fillS n (us ++ [r]) := by
  unfold fillS
  rw [List.set_append_right _ _ (Nat.le_refl _), Nat.sub_self, List.length_append, List.length_singleton, List.append_assoc, show n - us.length = (n - (us.length + 1)) + 1 by omega, List.replicate_succ, List.set_cons_zero]
  rfl
theorem OwnRs.set {w : World} {B g : Nat} {rs : List RV} (h : OwnRs w B rs) (i : Nat) (u : Value) (hg : g < B) : OwnRs (w.setCell ⟨g, i, none⟩ u) B rs := fun r hr => (h r hr).other i u hg
/-- What is handed out: new rows, each as one of the store's. -/
def OutP (w w' : World) (rs : List RV) (e : Ending) : Prop := ∃ b c us, e = .returned (.slice (some ⟨b, 0, none⟩) rs.length c) ∧ OwnS w' w.heap.size (.slice (some ⟨b, 0, none⟩) rs.length c) us ∧ OwnRs w' w.heap.size us ∧ us.map core = rs.map core ∧ Below w.heap.size w w'
set_option maxHeartbeats 2000000 in
theorem rows_any (g B : Nat) (k z : Int) (m : Nat) (v : Value) (rs : List RV) (ov : Bool) (w : World) (h : StAt w g B k z m v rs ov) :
    Calls Tryz.prog 66 #[.pointer (some ⟨g, 0, none⟩)] w fun e w' => OutP w w' rs e := by
  obtain ⟨a, c, rfl, hR, -, -⟩ := h.at
  obtain ⟨k0, k1, k2, k3, k4⟩ := h.blk.at
  have hln : rs.length ≤ 256 := Nat.le_trans h.le h.most
  have hmk := make_r rs.length (by omega)
  have HM := hide (made_r w rs.length (by omega) (fillS rs.length []) (fillS_zero _))
  have hbm : Below w.heap.size w (w.alloc (.cells (madeCells #[.slice none 0 0, .string ⟨#[]⟩] (rs.length * 2)) 29)) := (Below.refl _ _).alloc (Nat.le_refl _) _
  obtain ⟨j0, j1, j2, j3, j4⟩ := (h.blk.below hbm).at
  have HBM := hide hbm
  have HZ := hide (show w.heap.size + 1 ≤ (w.alloc (.cells (madeCells #[.slice none 0 0, .string ⟨#[]⟩] (rs.length * 2)) 29)).heap.size by rw [alloc_size]; exact Nat.le_refl _)
  have Hh := hide hR
  have HSH := hide h.short
  have HCR := hide h.rows.rows
  clear h hR hbm
  go_enter Tryz.func66, Tryz.ntmps66
  go_wp2
  go_loopw [19] (fun i wr => ∃ us : List RV, us.length ≤ rs.length ∧ i = .int .i64 us.length ∧ Hid (OwnS wr w.heap.size (.slice (some ⟨w.heap.size, 0, none⟩) rs.length rs.length) (fillS rs.length us)) ∧ Hid (OwnRs wr (w.heap.size + 1) us) ∧ Hid (us.map core = (rs.take us.length).map core) ∧ Hid (Below w.heap.size w wr) ∧ Hid (w.heap.size + 1 ≤ wr.heap.size)) (fun i _ => rs.length - (intOf i).toNat)
  case atStart => exact ⟨[], Nat.zero_le _, rfl, HM, hide (OwnRs.nil _ _), hide rfl, HBM, HZ⟩
  case round =>
    obtain ⟨us, hk, rfl, HI, HU, HC, HB, HZ2⟩ := hrel
    clear HM HBM HZ
    by_cases hlt : us.length < rs.length
    · obtain ⟨b, off, rfl, hcl⟩ := ((unhide Hh).below (unhide HB)).at hlt
      obtain ⟨hc0, hc1⟩ := hcl us.length hlt
      have hlt' : (us.length : Int) < (rs.length : Int) := by omega
      have hrow := ((unhide Hh).below (unhide HB)).2.1 us.length hlt
      have hsh := unhide HSH us.length
      have HTS := hide (take_snocR rs us.length hlt)
      generalize rs.getD us.length default = r at *
      have hb1 : Below wr.heap.size wr (wr.alloc (.cells #[.slice r.a r.n r.c, .string r.s] 29)) := (Below.refl _ _).alloc (Nat.le_refl _) _
      have HCO := hide (copyOf_any r.a r.n r.c r.xs r.s _ (hrow.below hb1) (by omega) (by omega))
      have HB1 := hide hb1
      obtain ⟨hx0, hx1⟩ := box_new wr (.slice r.a r.n r.c) (.string r.s)
      clear hcl hrow hb1
      go_wp2_with fail
      refine (unhide HCO).mono ?_
      rintro e w2 ⟨a2, c2, rfl, ho2, hb2⟩
      have hB2 := below0 (unhide HB1) hb2
      have hI := (unhide HI).below hB2
      have hfl := fillS_length hk
      have hcg := cellsR_get (fillS rs.length us) us.length (by omega)
      have hcell0 := hI.cellAt hcg.1
      have hcell1 := hI.cellAt hcg.2
      have hI' : w2.ownsRow w.heap.size 29 2 (.slice (some ⟨w.heap.size, 0, none⟩) rs.length rs.length) rs.length (cellsR (fillS rs.length us)) := by
        have : w2.ownsRow w.heap.size 29 2 (.slice (some ⟨w.heap.size, 0, none⟩) rs.length rs.length) (fillS rs.length us).length (cellsR (fillS rs.length us)) := hI
        rwa [hfl] at this
      have hfz0 := hI'.frozenAt (us.length * 2)
      have hfz1 := hI'.frozenAt (us.length * 2 + 1)
      have hs2 := hI.stored us.length ⟨a2, r.n, c2, r.xs, r.s⟩
      rw [fillS_next _ hlt] at hs2
      have hZ := Nat.le_trans (unhide HZ2) (Nat.le_trans (unhide HB1).size (Nat.le_refl _))
      have hu2 := (((unhide HU).below hB2).snoc (r := ⟨a2, r.n, c2, r.xs, r.s⟩) (ho2.mono hZ))
      have HU2 := hide ((hu2.set (us.length * 2) (.slice a2 r.n c2) (Nat.lt_succ_self _)).set (us.length * 2 + 1) (.string r.s) (Nat.lt_succ_self _))
      have HC2 := hide (show (us ++ [(⟨a2, r.n, c2, r.xs, r.s⟩ : RV)]).map core = (rs.take (us ++ [(⟨a2, r.n, c2, r.xs, r.s⟩ : RV)]).length).map core by
        rw [List.length_append, List.length_singleton, ← unhide HTS, List.map_append, List.map_append, unhide HC]; rfl)
      have HS := hide hs2
      have HB2 := hide (((below0 (unhide HB) hB2).setCell (p := ⟨w.heap.size, us.length * 2, none⟩) (Nat.le_refl _) (.slice a2 r.n c2)).setCell (p := ⟨w.heap.size, us.length * 2 + 1, none⟩) (Nat.le_refl _) (.string r.s))
      have HZ3 := hide (show w.heap.size + 1 ≤ ((w2.setCell ⟨w.heap.size, us.length * 2, none⟩ (.slice a2 r.n c2)).setCell ⟨w.heap.size, us.length * 2 + 1, none⟩ (.string r.s)).heap.size by
        have := hB2.size
        have := unhide HZ2
        simp
        omega)
      have HLE := hide (show (us ++ [(⟨a2, r.n, c2, r.xs, r.s⟩ : RV)]).length = us.length + 1 by rw [List.length_append]; rfl)
      clear HCO HB1 ho2 hb2 hB2 hI hI' hfl hcg hs2 hu2 hZ HI HB HU HC HZ2 HTS
      generalize (fillS rs.length us).getD us.length default = zz at *
      go_wp2
      go_roundw
      case rel => exact ⟨us ++ [⟨a2, r.n, c2, r.xs, r.s⟩], by rw [unhide HLE]; omega, by rw [unhide HLE]; go_num, HS, HU2, HC2, HB2, HZ3⟩
      case measure => simp [intOf]; omega
    · have hul : us.length = rs.length := by omega
      rw [fillS_all hul] at HI
      rw [hul, List.take_length] at HC
      go_wp2
      go_ret
      exact ⟨_, _, us, rfl, unhide HI, (unhide HU).mono (Nat.le_succ _), unhide HC, unhide HB⟩
/-- How many bring something anew, of the rows' cores. -/
def rankC (L : List (List Nat × ByteArray)) : Nat := (keepL (L.map Prod.fst) L.length).length
theorem vecsL_fst (rs : List RV) : vecsL rs = (rs.map core).map Prod.fst := by
  unfold vecsL
  rw [List.map_map]; rfl
theorem rankN_core (rs : List RV) : rankN rs = rankC (rs.map core) := by
  unfold rankN rankC
  rw [vecsL_fst, List.length_map]
theorem StAt.step {w0 w w' : World} {g B : Nat} {k z : Int} {m : Nat} {v : Value} {rs : List RV} {ov : Bool} (h : StAt w g B k z m v rs ov) (hb : Below B w0 w) (ht : Tu (stF g v) w w') : Below B w0 w' := hb.trans (h.keeps ht h.lob)
theorem alloc_low (w : World) (o : Obj) : Below w.heap.size w (w.alloc o) := (Below.refl _ _).alloc (Nat.le_refl _) _
theorem short_same {w w' : World} {us rs : List RV} (hu : RowsIn w us) (he : us.map core = rs.map core) (hr : RowsIn w' rs) (hs : shortR rs) : shortR us :=
  short_core hu he fun x hx => by
    obtain ⟨r, hm, rfl⟩ := List.mem_map.1 hx
    obtain ⟨i, hi, rfl⟩ := List.mem_iff_getElem.1 hm
    have h1 := (hr _ (List.getElem_mem hi)).1.1
    have h2 := hs i
    rw [List.getD_eq_getElem?_getD, List.getElem?_eq_getElem hi] at h2
    simp only [Option.getD_some] at h2
    exact ⟨by show (rs[i]).xs.length ≤ 10; rw [h1]; exact h2.1, h2.2⟩
/-- What was handed out can be read. -/
theorem OutP.at {w w' : World} {B : Nat} {rs us : List RV} {a : Option Addr} {n c : Nat} (ho : OwnS w' B (.slice a n c) us) (hr : OwnRs w' B us) (he : us.map core = rs.map core) (hi : RowsIn w rs) (hs : shortR rs) : RowsAt w' a n us ∧ RowsIn w' us ∧ shortR us ∧ n = us.length ∧ n ≤ c :=
  ⟨(ho.at' hr.rows).1, hr.rows, short_same hr.rows he hi hs, (ho.at' hr.rows).2.1, (ho.at' hr.rows).2.2.1⟩
theorem rankC_snoc (L : List (List Nat × ByteArray)) (x : List Nat × ByteArray) : rankC (L ++ [x]) = rankC L ∨ rankC (L ++ [x]) = rankC L + 1 := by
  unfold rankC
  have := keep_more_len (L.map Prod.fst) x.1
  rw [show L.map Prod.fst ++ [x.1] = (L ++ [x]).map Prod.fst by simp, List.length_map, List.length_map] at this
  exact this
theorem rankC_put (k z : Int) (m : Nat) (L : List (List Nat × ByteArray)) (x : List Nat × ByteArray) : rankC (putL k z m L x) = rankC L ∨ rankC (putL k z m L x) = rankC L + 1 := by
  unfold putL
  split
  · exact rankC_snoc L x
  · exact .inl rfl
theorem rankC_le (L : List (List Nat × ByteArray)) : rankC L ≤ L.length := keep_len _ _
theorem rankN_le (rs : List RV) : rankN rs ≤ rs.length := keep_len _ _
theorem rankN_put {k z : Int} {m : Nat} {rs rs' : List RV} {x : List Nat × ByteArray} (h : rs'.map core = putL k z m (rs.map core) x) : rankN rs' = rankN rs ∨ rankN rs' = rankN rs + 1 := by
  rw [rankN_core, rankN_core, h]
  exact rankC_put k z m _ x
theorem StAt.mono {w : World} {g B B' : Nat} {k z : Int} {m : Nat} {v : Value} {rs : List RV} {ov : Bool} (h : StAt w g B k z m v rs ov) (hB : B' ≤ B) : StAt w g B' k z m v rs ov :=
  ⟨h.blk, Nat.le_trans hB h.lo, h.own.mono hB, h.rows.mono hB, h.le, h.most, h.short⟩
end Go.Proofs.YteamniigiogaeaaGreatDoor
