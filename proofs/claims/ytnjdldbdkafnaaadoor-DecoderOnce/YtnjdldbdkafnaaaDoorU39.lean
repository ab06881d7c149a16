/-
  A block of many cells ('BkA'). No condition.
  The decoder in memory ('DcAt'): its block, its store, what it is at. No condition.
-/
import Derived.Test.YtnjdldbdkafnaaaDoorU34
import Derived.Test.YtnjdldbdkafnaaaDoorU1
import Derived.Test.YtnjdldbdkafnaaaDoorU35
import Derived.Test.YtnjdldbdkafnaaaDoorOM
namespace Go.Proofs.YtnjdldbdkafnaaaDoor
open Go.RowKit
set_option linter.unusedVariables false
set_option linter.unusedSimpArgs false
set_option maxRecDepth 4000

/-- A block of cells, none of them frozen. -/
def BkA (T : TypeId) (w : World) (g : Nat) (cs : List Value) : Prop := w.heap[g]? = some (.cells cs.toArray T (0, 0))
theorem bkA_new (T : TypeId) (w : World) (cs : List Value) : BkA T (w.alloc (.cells cs.toArray T)) w.heap.size cs := by
  show (w.heap.push _)[w.heap.size]? = _
  simp
theorem BkA.lt {T : TypeId} {w : World} {g : Nat} {cs : List Value} (h : BkA T w g cs) : g < w.heap.size := (Array.getElem?_eq_some_iff.1 h).1
theorem BkA.belowB {T : TypeId} {w w' : World} {g B : Nat} {cs : List Value} (h : BkA T w g cs) (hb : Below B w w') (hg : g < B) : BkA T w' g cs := (hb.block g hg).trans h
theorem BkA.below {T : TypeId} {w w' : World} {g : Nat} {cs : List Value} (h : BkA T w g cs) (hb : Below w.heap.size w w') : BkA T w' g cs := h.belowB hb h.lt
theorem BkA.at {T : TypeId} {w : World} {g : Nat} {cs : List Value} (h : BkA T w g cs) (i : Nat) {v : Value} (hv : cs[i]? = some v) : w.cell? ⟨g, i, none⟩ = some v := by
  unfold BkA at h
  rw [cell_of_row w g _ _ _ _ h]
  simpa using hv
theorem BkA.frz {T : TypeId} {w : World} {g : Nat} {cs : List Value} (h : BkA T w g cs) (i : Nat) : w.frozen? ⟨g, i, none⟩ = false := by
  unfold BkA at h
  simp [World.frozen?, h]
theorem BkA.set {T : TypeId} {w : World} {g : Nat} {cs : List Value} (h : BkA T w g cs) (i : Nat) (v : Value) : BkA T (w.setCell ⟨g, i, none⟩ v) g (cs.set i v) := by
  have := heap_setCell_same w g i _ _ v h
  rw [List.setIfInBounds_toArray] at this
  exact this
theorem BkA.kept {T : TypeId} {w w' : World} {g : Nat} {cs : List Value} {row : Option Nat} (h : BkA T w g cs) (hg : w.grownBy w' row) (hne : some g ≠ row) : BkA T w' g cs := (hg.block g h.lt hne).trans h
theorem BkA.tu {T : TypeId} {F : Nat → Prop} {w w' : World} {g : Nat} {cs : List Value} (h : BkA T w g cs) (ht : Tu F w w') (hF : ¬ F g) : BkA T w' g cs := (ht.block g h.lt hF).trans h
theorem BkA.ne {T T' : TypeId} {w : World} {g g' : Nat} {cs : List Value} {cur : Array Value} {fz : Nat × Nat} (h : BkA T w g cs) (h' : w.heap[g']? = some (.cells cur T' fz)) (hT : T ≠ T') : g ≠ g' := fun e => by
  subst e
  unfold BkA at h
  rw [h] at h'
  simp only [Option.some.injEq, Obj.cells.injEq] at h'
  exact hT h'.2.1
theorem BkA.neS {T : TypeId} {w : World} {g B : Nat} {cs : List Value} {v : Value} {rs : List RV} (h : BkA T w g cs) (ho : OwnS w B v rs) (hT : T ≠ 31) : v.ownBlock ≠ some g := fun e => by
  obtain ⟨cur, hc⟩ := ho.blk5 e
  exact h.ne hc hT rfl
theorem BkA.neSt {T : TypeId} {w : World} {g gs B : Nat} {cs : List Value} {k z : Int} {m : Nat} {v : Value} {rs : List RV} {ov : Bool} (h : BkA T w g cs) (hs : StAt w gs B k z m v rs ov) (hT : T ≠ 51) : g ≠ gs := h.ne hs.blk hT
/-- A block of another type is none of a store's. -/
theorem BkA.outSt {T : TypeId} {w : World} {g gs B : Nat} {cs : List Value} {k z : Int} {m : Nat} {v : Value} {rs : List RV} {ov : Bool} (h : BkA T w g cs) (hs : StAt w gs B k z m v rs ov) (hT : T ≠ 51) (hR : T ≠ 31) : ¬ stF gs v g := fun hf => by
  rcases hf with hf | hf
  · exact h.neSt hs hT hf
  · exact h.neS hs.own hR hf
theorem tu_set (w : World) (g i : Nat) (u : Value) : Tu (fun j => j = g) w (w.setCell ⟨g, i, none⟩ u) := Tu.of_gb (gb_setCell _ _ _ _) fun j _ e => (Option.some.inj e).symm
/-- A store is as it was where a block of another type is written. -/
theorem StAt.sets {T : TypeId} {w w' : World} {g gs B : Nat} {cs : List Value} {k z : Int} {m : Nat} {v : Value} {rs : List RV} {ov : Bool} (hs : StAt w gs B k z m v rs ov) (h : BkA T w g cs) (ht : Tu (fun j => j = g) w w') (hT : T ≠ 51) (hR : T ≠ 31) (hU : T ≠ 38) : StAt w' gs B k z m v rs ov :=
  ⟨hs.blk.tu ht (fun e => h.neSt hs hT e.symm), hs.lo, hs.own.tu ht (fun j hj e => h.outSt hs hT hR (e ▸ .inr hj)), hs.rows.tu ht (fun j cur hc e => h.ne hc hU e.symm), hs.le, hs.most, hs.short⟩
end Go.Proofs.YtnjdldbdkafnaaaDoor
namespace Go.Proofs.YtnjdldbdkafnaaaDoor
open Go.RowKit Go.Sort
set_option linter.unusedVariables false
set_option linter.unusedSimpArgs false
set_option maxRecDepth 4000

/-- A store is as it was where none of its blocks turned. -/
theorem StAt.tu {F : Nat → Prop} {w w' : World} {g B : Nat} {k z : Int} {m : Nat} {v : Value} {rs : List RV} {ov : Bool} (h : StAt w g B k z m v rs ov) (ht : Tu F w w') (hs : ∀ j, stF g v j → ¬ F j) (hw : ∀ j cur, w.heap[j]? = some (.cells cur 38 (0, 0)) → ¬ F j) : StAt w' g B k z m v rs ov :=
  ⟨h.blk.tu ht (hs g (.inl rfl)), h.lo, h.own.tu ht (fun j hj => hs j (.inr hj)), h.rows.tu ht hw, h.le, h.most, h.short⟩

/-- The cells of a decoder. -/
def decC (M : Int) (s : DS) (p : Option Addr) : List Value := [.int .i64 M, .int .i64 s.o, .int .i64 s.l, .int .i64 s.k, .int .i64 s.z, .pointer p, .bool s.dn, .string s.ob]
def ptrD (b : Bool) (gs : Nat) : Option Addr := if b = true then some ⟨gs, 0, none⟩ else none
/-- What a decoder is at. -/
def dcF (g gs : Nat) (v : Value) (k : Nat) : Prop := k = g ∨ stF gs v k
/-- A decoder at block g, of at most M rows: its store at gs, its rows rs in v; all of it lies at B or behind. -/
structure DcAt (w : World) (g B : Nat) (M : Int) (s : DS) (gs : Nat) (v : Value) (rs : List RV) : Prop where
  blk : BkA 43 w g (decC M s (ptrD s.bg gs))
  lo : B ≤ g
  begun : s.bg = true → StAt w gs B s.k s.z (capN M) v rs s.ov ∧ DInv s
  fresh : s.bg = false → s = zDS ∧ v = .slice none 0 0 ∧ gs = g
  co : rs.map core = s.L
theorem DcAt.below {w w' : World} {g B : Nat} {M : Int} {s : DS} {gs : Nat} {v : Value} {rs : List RV} (h : DcAt w g B M s gs v rs) (hb : Below w.heap.size w w') : DcAt w' g B M s gs v rs :=
  ⟨h.blk.below hb, h.lo, fun e => ⟨(h.begun e).1.below hb, (h.begun e).2⟩, h.fresh, h.co⟩
theorem DcAt.lt {w : World} {g B : Nat} {M : Int} {s : DS} {gs : Nat} {v : Value} {rs : List RV} (h : DcAt w g B M s gs v rs) : g < w.heap.size := h.blk.lt
theorem DcAt.lob {w : World} {g B : Nat} {M : Int} {s : DS} {gs : Nat} {v : Value} {rs : List RV} (h : DcAt w g B M s gs v rs) : B ≤ w.heap.size := Nat.le_of_lt (Nat.lt_of_le_of_lt h.lo h.lt)
theorem DcAt.mono {w : World} {g B B' : Nat} {M : Int} {s : DS} {gs : Nat} {v : Value} {rs : List RV} (h : DcAt w g B M s gs v rs) (hB : B' ≤ B) : DcAt w g B' M s gs v rs :=
  ⟨h.blk, Nat.le_trans hB h.lo, fun e => ⟨(h.begun e).1.mono hB, (h.begun e).2⟩, h.fresh, h.co⟩
theorem DcAt.low {w : World} {g B : Nat} {M : Int} {s : DS} {gs : Nat} {v : Value} {rs : List RV} (h : DcAt w g B M s gs v rs) : ∀ j, j < B → ¬ dcF g gs v j := fun j hj hf => by
  have hlo := h.lo
  rcases hf with rfl | hf
  · omega
  · cases hb : s.bg
    · obtain ⟨_, rfl, rfl⟩ := h.fresh hb
      rcases hf with rfl | hf
      · omega
      · cases hf
    · exact (h.begun hb).1.low j hj hf
/-- Nothing below B has turned where a decoder behind B has. -/
theorem DcAt.keeps {w w' : World} {g B : Nat} {M : Int} {s : DS} {gs : Nat} {v : Value} {rs : List RV} (h : DcAt w g B M s gs v rs) (ht : Tu (dcF g gs v) w w') : Below B w w' := ht.below h.lob h.low
theorem DcAt.step {w0 w w' : World} {g B : Nat} {M : Int} {s : DS} {gs : Nat} {v : Value} {rs : List RV} (h : DcAt w g B M s gs v rs) (hb : Below B w0 w) (ht : Tu (dcF g gs v) w w') : Below B w0 w' := hb.trans (h.keeps ht)
/-- No row of words lies where a decoder is. -/
theorem DcAt.words {w : World} {g B : Nat} {M : Int} {s : DS} {gs : Nat} {v : Value} {rs : List RV} (h : DcAt w g B M s gs v rs) : ∀ j cur, w.heap[j]? = some (.cells cur 38 (0, 0)) → ¬ dcF g gs v j := fun j cur hc hf => by
  rcases hf with rfl | hf
  · exact h.blk.ne hc (by decide) rfl
  · cases hb : s.bg
    · obtain ⟨_, rfl, rfl⟩ := h.fresh hb
      rcases hf with rfl | hf
      · exact h.blk.ne hc (by decide) rfl
      · cases hf
    · exact (h.begun hb).1.words j cur hc hf
/-- A block of another type is none of a decoder's. -/
theorem DcAt.out {w : World} {g B : Nat} {M : Int} {s : DS} {gs : Nat} {v : Value} {rs : List RV} (h : DcAt w g B M s gs v rs) {T : TypeId} {p : Nat} {cur : Array Value} {fz : Nat × Nat} (hp : w.heap[p]? = some (.cells cur T fz)) (h1 : 43 ≠ T) (h2 : 51 ≠ T) (h3 : 31 ≠ T) : ¬ dcF g gs v p := fun hf => by
  rcases hf with rfl | hf
  · exact h.blk.ne hp h1 rfl
  · cases hb : s.bg
    · obtain ⟨_, rfl, rfl⟩ := h.fresh hb
      rcases hf with rfl | hf
      · exact h.blk.ne hp h1 rfl
      · cases hf
    · have hs := (h.begun hb).1
      rcases hf with rfl | hf
      · have := hs.blk
        unfold Bk5 at this
        rw [this] at hp
        simp only [Option.some.injEq, Obj.cells.injEq] at hp
        exact h2 hp.2.1
      · obtain ⟨cur2, hc2⟩ := hs.own.blk5 hf
        rw [hc2] at hp
        simp only [Option.some.injEq, Obj.cells.injEq] at hp
        exact h3 hp.2.1
/-- Where a decoder's blocks have gone: where they were, or to new memory. -/
def Mv (w : World) (gs : Nat) (v : Value) (gs' : Nat) (v' : Value) : Prop := (gs' = gs ∨ w.heap.size ≤ gs') ∧ (v'.ownBlock = v.ownBlock ∨ ∀ j, v'.ownBlock = some j → w.heap.size ≤ j)
theorem Mv.refl (w : World) (gs : Nat) (v : Value) : Mv w gs v gs v := ⟨.inl rfl, .inl rfl⟩
theorem Mv.at {w : World} {gs gs' : Nat} {v v' : Value} (h : Mv w gs v gs' v') (g j : Nat) (hj : j < w.heap.size) (hf : dcF g gs' v' j) : dcF g gs v j := by
  rcases hf with rfl | rfl | hf
  · exact .inl rfl
  · rcases h.1 with e | e
    · exact .inr (.inl e)
    · omega
  · rcases h.2 with e | e
    · exact .inr (.inr (e ▸ hf))
    · have := e j hf; omega
theorem Mv.trans {w w1 : World} {gs gs1 gs2 : Nat} {v v1 v2 : Value} (h : Mv w gs v gs1 v1) (k : Mv w1 gs1 v1 gs2 v2) (hs : w.heap.size ≤ w1.heap.size) : Mv w gs v gs2 v2 := by
  refine ⟨?_, ?_⟩
  · rcases k.1 with e | e
    · rw [e]; exact h.1
    · exact .inr (by omega)
  · rcases k.2 with e | e
    · rw [e]; exact h.2
    · exact .inr fun j hj => Nat.le_trans hs (e j hj)
theorem Mv.new {w w1 : World} {gs gs1 : Nat} {v v1 : Value} (h : Mv w1 gs v gs1 v1) (hs : w.heap.size ≤ w1.heap.size) : Mv w gs v gs1 v1 := (Mv.refl w gs v).trans h hs
theorem tu_trans {w w1 w2 : World} {g gs gs1 : Nat} {v v1 : Value} (h : Tu (dcF g gs v) w w1) (k : Tu (dcF g gs1 v1) w1 w2) (hm : Mv w gs v gs1 v1) : Tu (dcF g gs v) w w2 := h.trans k fun j hj hf => hm.at g j hj hf
/-- A new decoder. -/
theorem dc_new (w : World) (M : Int) : DcAt (w.alloc (.cells #[.int .i64 M, .int .i64 0, .int .i64 0, .int .i64 0, .int .i64 0, .pointer none, .bool false, .string ⟨#[]⟩] 43)) w.heap.size w.heap.size M zDS w.heap.size (.slice none 0 0) [] :=
  ⟨bkA_new 43 w (decC M zDS none), Nat.le_refl _, (fun e => by cases e), (fun _ => ⟨rfl, rfl, rfl⟩), rfl⟩
/-- The cells of a decoder that has not begun, and of one that has. -/
theorem DcAt.cells {w : World} {g B : Nat} {M : Int} {s : DS} {gs : Nat} {v : Value} {rs : List RV} (h : DcAt w g B M s gs v rs) :
    w.cell? ⟨g, 0, none⟩ = some (.int .i64 M) ∧ w.cell? ⟨g, 1, none⟩ = some (.int .i64 s.o) ∧ w.cell? ⟨g, 2, none⟩ = some (.int .i64 s.l) ∧ w.cell? ⟨g, 3, none⟩ = some (.int .i64 s.k) ∧ w.cell? ⟨g, 4, none⟩ = some (.int .i64 s.z) ∧
      w.cell? ⟨g, 5, none⟩ = some (.pointer (ptrD s.bg gs)) ∧ w.cell? ⟨g, 6, none⟩ = some (.bool s.dn) ∧ w.cell? ⟨g, 7, none⟩ = some (.string s.ob) :=
  ⟨h.blk.at 0 rfl, h.blk.at 1 rfl, h.blk.at 2 rfl, h.blk.at 3 rfl, h.blk.at 4 rfl, h.blk.at 5 rfl, h.blk.at 6 rfl, h.blk.at 7 rfl⟩
end Go.Proofs.YtnjdldbdkafnaaaDoor
