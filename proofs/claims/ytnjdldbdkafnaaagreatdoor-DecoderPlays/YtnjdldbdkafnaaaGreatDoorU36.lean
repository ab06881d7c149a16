/-
  A block of many cells ('BkA'). No condition.
  The decoder in memory ('DcAt'): its block, its store, what it is at. No condition.
  Contracts of packet.within, shaped, bounded, rowed, Check, of bucketlineref07.sizes, Check, and of bucketlinelaw07.few: for every packet.
-/
import Derived.Test.YtnjdldbdkafnaaaGreatDoorU32
import Derived.Test.YtnjdldbdkafnaaaGreatDoorU0
import Derived.Test.YtnjdldbdkafnaaaGreatDoorU33
import Derived.Test.YtnjdldbdkafnaaaGreatDoorOM
import Derived.Test.YtnjdldbdkafnaaaGreatDoorU34
namespace Go.Proofs.YtnjdldbdkafnaaaGreatDoor
open Go.RowKit
set_option linter.unusedVariables false
set_option linter.unusedSimpArgs false
set_option maxRecDepth 4000

/-- A block of cells, none of them frozen. -/
def BkA (T : TypeId) (w : World) (g : Nat) (cs : List Value) : Prop := w.heap[g]? = some (.cells cs.toArray T (0, 0))
theorem bkA_new (T : TypeId) (w : World) (cs : List Value) : BkA T (w.alloc (.cells cs.toArray T)) w.heap.size cs := by
  show (w.heap.push _)[w.heap.size]? = _
  simp
theorem BkA.lt {T : TypeId} {w : World} {g : Nat} {cs : List Value} (h : BkA T w g cs) : g < w.heap.size := (Array.getElem?_eq_some_iff.1 h).1
theorem BkA.belowB {T : TypeId} {w w' : World} {g B : Nat} {cs : List Value} (h : BkA T w g cs) (hb : Below B w w') (hg : g < B) : BkA T w' g cs := (hb.block g hg).trans h
theorem BkA.below {T : TypeId} {w w' : World} {g : Nat} {cs : List Value} (h : BkA T w g cs) (hb : Below w.heap.size w w') : BkA T w' g cs := h.belowB hb h.lt
theorem BkA.at {T : TypeId} {w : World} {g : Nat} {cs : List Value} (h : BkA T w g cs) (i : Nat) {v : Value} (hv : cs[i]? = some v) : w.cell? ⟨g, i, none⟩ = some v := by
  unfold BkA at h
  rw [cell_of_row w g _ _ _ _ h]
  simpa using hv
theorem BkA.frz {T : TypeId} {w : World} {g : Nat} {cs : List Value} (h : BkA T w g cs) (i : Nat) : w.frozen? ⟨g, i, none⟩ = false := by
  unfold BkA at h
  simp [World.frozen?, h]
theorem BkA.set {T : TypeId} {w : World} {g : Nat} {cs : List Value} (h : BkA T w g cs) (i : Nat) (v : Value) : BkA T (w.setCell ⟨g, i, none⟩ v) g (cs.set i v) := by
  have := heap_setCell_same w g i _ _ v h
  rw [List.setIfInBounds_toArray] at this
  exact this
theorem BkA.kept {T : TypeId} {w w' : World} {g : Nat} {cs : List Value} {row : Option Nat} (h : BkA T w g cs) (hg : w.grownBy w' row) (hne : some g ≠ row) : BkA T w' g cs := (hg.block g h.lt hne).trans h
theorem BkA.tu {T : TypeId} {F : Nat → Prop} {w w' : World} {g : Nat} {cs : List Value} (h : BkA T w g cs) (ht : Tu F w w') (hF : ¬ F g) : BkA T w' g cs := (ht.block g h.lt hF).trans h
theorem BkA.ne {T T' : TypeId} {w : World} {g g' : Nat} {cs : List Value} {cur : Array Value} {fz : Nat × Nat} (h : BkA T w g cs) (h' : w.heap[g']? = some (.cells cur T' fz)) (hT : T ≠ T') : g ≠ g' := fun e => by
  subst e
  unfold BkA at h
  rw [h] at h'
  simp only [Option.some.injEq, Obj.cells.injEq] at h'
  exact hT h'.2.1
theorem BkA.neS {T : TypeId} {w : World} {g B : Nat} {cs : List Value} {v : Value} {rs : List RV} (h : BkA T w g cs) (ho : OwnS w B v rs) (hT : T ≠ 29) : v.ownBlock ≠ some g := fun e => by
  obtain ⟨cur, hc⟩ := ho.blk5 e
  exact h.ne hc hT rfl
theorem BkA.neSt {T : TypeId} {w : World} {g gs B : Nat} {cs : List Value} {k z : Int} {m : Nat} {v : Value} {rs : List RV} {ov : Bool} (h : BkA T w g cs) (hs : StAt w gs B k z m v rs ov) (hT : T ≠ 87) : g ≠ gs := h.ne hs.blk hT
/-- A block of another type is none of a store's. -/
theorem BkA.outSt {T : TypeId} {w : World} {g gs B : Nat} {cs : List Value} {k z : Int} {m : Nat} {v : Value} {rs : List RV} {ov : Bool} (h : BkA T w g cs) (hs : StAt w gs B k z m v rs ov) (hT : T ≠ 87) (hR : T ≠ 29) : ¬ stF gs v g := fun hf => by
  rcases hf with hf | hf
  · exact h.neSt hs hT hf
  · exact h.neS hs.own hR hf
theorem tu_set (w : World) (g i : Nat) (u : Value) : Tu (fun j => j = g) w (w.setCell ⟨g, i, none⟩ u) := Tu.of_gb (gb_setCell _ _ _ _) fun j _ e => (Option.some.inj e).symm
/-- A store is as it was where a block of another type is written. -/
theorem StAt.sets {T : TypeId} {w w' : World} {g gs B : Nat} {cs : List Value} {k z : Int} {m : Nat} {v : Value} {rs : List RV} {ov : Bool} (hs : StAt w gs B k z m v rs ov) (h : BkA T w g cs) (ht : Tu (fun j => j = g) w w') (hT : T ≠ 87) (hR : T ≠ 29) (hU : T ≠ 53) : StAt w' gs B k z m v rs ov :=
  ⟨hs.blk.tu ht (fun e => h.neSt hs hT e.symm), hs.lo, hs.own.tu ht (fun j hj e => h.outSt hs hT hR (e ▸ .inr hj)), hs.rows.tu ht (fun j cur hc e => h.ne hc hU e.symm), hs.le, hs.most, hs.short⟩
theorem BkA.setAll {T : TypeId} {w : World} {g : Nat} {cs us : List Value} (h : BkA T w g cs) (hl : us.length = cs.length) : BkA T (w.setCells g 0 us) g us := by
  obtain ⟨cur, h1, h2, h3⟩ := setCells_block g T us 0 w cs.toArray h
  unfold BkA
  rw [h1]
  have : cur = us.toArray := by
    apply Array.ext_getElem?
    intro j
    by_cases hj : j < cs.length
    · rw [h3 j (by simpa using hj), if_pos (by omega)]; simp
    · rw [Array.getElem?_eq_none (by rw [h2]; simpa using hj), Array.getElem?_eq_none (by simp; omega)]
  rw [this]
end Go.Proofs.YtnjdldbdkafnaaaGreatDoor
namespace Go.Proofs.YtnjdldbdkafnaaaGreatDoor
open Go.RowKit Go.Sort
set_option linter.unusedVariables false
set_option linter.unusedSimpArgs false
set_option maxRecDepth 4000

/-- A store is as it was where none of its blocks turned. -/
theorem StAt.tu {F : Nat → Prop} {w w' : World} {g B : Nat} {k z : Int} {m : Nat} {v : Value} {rs : List RV} {ov : Bool} (h : StAt w g B k z m v rs ov) (ht : Tu F w w') (hs : ∀ j, stF g v j → ¬ F j) (hw : ∀ j cur, w.heap[j]? = some (.cells cur 53 (0, 0)) → ¬ F j) : StAt w' g B k z m v rs ov :=
  ⟨h.blk.tu ht (hs g (.inl rfl)), h.lo, h.own.tu ht (fun j hj => hs j (.inr hj)), h.rows.tu ht hw, h.le, h.most, h.short⟩

/-- The cells of a decoder. -/
def decC (M : Int) (s : DS) (p : Option Addr) : List Value := [.int .i64 M, .int .i64 s.o, .int .i64 s.l, .int .i64 s.k, .int .i64 s.z, .pointer p, .bool s.dn, .string s.ob]
def ptrD (b : Bool) (gs : Nat) : Option Addr := if b = true then some ⟨gs, 0, none⟩ else none
/-- What a decoder is at. -/
def dcF (g gs : Nat) (v : Value) (k : Nat) : Prop := k = g ∨ stF gs v k
/-- A decoder at block g, of at most M rows: its store at gs, its rows rs in v; all of it lies at B or behind. -/
structure DcAt (w : World) (g B : Nat) (M : Int) (s : DS) (gs : Nat) (v : Value) (rs : List RV) : Prop where
  blk : BkA 58 w g (decC M s (ptrD s.bg gs))
  lo : B ≤ g
  begun : s.bg = true → StAt w gs B s.k s.z (capN M) v rs s.ov ∧ DInv s
  fresh : s.bg = false → s = zDS ∧ v = .slice none 0 0 ∧ gs = g
  co : rs.map core = s.L
theorem DcAt.below {w w' : World} {g B : Nat} {M : Int} {s : DS} {gs : Nat} {v : Value} {rs : List RV} (h : DcAt w g B M s gs v rs) (hb : Below w.heap.size w w') : DcAt w' g B M s gs v rs :=
  ⟨h.blk.below hb, h.lo, fun e => ⟨(h.begun e).1.below hb, (h.begun e).2⟩, h.fresh, h.co⟩
theorem DcAt.lt {w : World} {g B : Nat} {M : Int} {s : DS} {gs : Nat} {v : Value} {rs : List RV} (h : DcAt w g B M s gs v rs) : g < w.heap.size := h.blk.lt
theorem DcAt.lob {w : World} {g B : Nat} {M : Int} {s : DS} {gs : Nat} {v : Value} {rs : List RV} (h : DcAt w g B M s gs v rs) : B ≤ w.heap.size := Nat.le_of_lt (Nat.lt_of_le_of_lt h.lo h.lt)
theorem DcAt.mono {w : World} {g B B' : Nat} {M : Int} {s : DS} {gs : Nat} {v : Value} {rs : List RV} (h : DcAt w g B M s gs v rs) (hB : B' ≤ B) : DcAt w g B' M s gs v rs :=
  ⟨h.blk, Nat.le_trans hB h.lo, fun e => ⟨(h.begun e).1.mono hB, (h.begun e).2⟩, h.fresh, h.co⟩
theorem DcAt.low {w : World} {g B : Nat} {M : Int} {s : DS} {gs : Nat} {v : Value} {rs : List RV} (h : DcAt w g B M s gs v rs) : ∀ j, j < B → ¬ dcF g gs v j := fun j hj hf => by
  have hlo := h.lo
  rcases hf with rfl | hf
  · omega
  · cases hb : s.bg
    · obtain ⟨_, rfl, rfl⟩ := h.fresh hb
      rcases hf with rfl | hf
      · omega
      · cases hf
    · exact (h.begun hb).1.low j hj hf
/-- Nothing below B has turned where a decoder behind B has. -/
theorem DcAt.keeps {w w' : World} {g B : Nat} {M : Int} {s : DS} {gs : Nat} {v : Value} {rs : List RV} (h : DcAt w g B M s gs v rs) (ht : Tu (dcF g gs v) w w') : Below B w w' := ht.below h.lob h.low
theorem DcAt.step {w0 w w' : World} {g B : Nat} {M : Int} {s : DS} {gs : Nat} {v : Value} {rs : List RV} (h : DcAt w g B M s gs v rs) (hb : Below B w0 w) (ht : Tu (dcF g gs v) w w') : Below B w0 w' := hb.trans (h.keeps ht)
/-- No row of words lies where a decoder is. -/
theorem DcAt.words {w : World} {g B : Nat} {M : Int} {s : DS} {gs : Nat} {v : Value} {rs : List RV} (h : DcAt w g B M s gs v rs) : ∀ j cur, w.heap[j]? = some (.cells cur 53 (0, 0)) → ¬ dcF g gs v j := fun j cur hc hf => by
  rcases hf with rfl | hf
  · exact h.blk.ne hc (by decide) rfl
  · cases hb : s.bg
    · obtain ⟨_, rfl, rfl⟩ := h.fresh hb
      rcases hf with rfl | hf
      · exact h.blk.ne hc (by decide) rfl
      · cases hf
    · exact (h.begun hb).1.words j cur hc hf
/-- A block of another type is none of a decoder's. -/
theorem DcAt.out {w : World} {g B : Nat} {M : Int} {s : DS} {gs : Nat} {v : Value} {rs : List RV} (h : DcAt w g B M s gs v rs) {T : TypeId} {p : Nat} {cur : Array Value} {fz : Nat × Nat} (hp : w.heap[p]? = some (.cells cur T fz)) (h1 : 58 ≠ T) (h2 : 87 ≠ T) (h3 : 29 ≠ T) : ¬ dcF g gs v p := fun hf => by
  rcases hf with rfl | hf
  · exact h.blk.ne hp h1 rfl
  · cases hb : s.bg
    · obtain ⟨_, rfl, rfl⟩ := h.fresh hb
      rcases hf with rfl | hf
      · exact h.blk.ne hp h1 rfl
      · cases hf
    · have hs := (h.begun hb).1
      rcases hf with rfl | hf
      · have := hs.blk
        unfold Bk5 at this
        rw [this] at hp
        simp only [Option.some.injEq, Obj.cells.injEq] at hp
        exact h2 hp.2.1
      · obtain ⟨cur2, hc2⟩ := hs.own.blk5 hf
        rw [hc2] at hp
        simp only [Option.some.injEq, Obj.cells.injEq] at hp
        exact h3 hp.2.1
/-- Where a decoder's blocks have gone: where they were, or to new memory. -/
def Mv (w : World) (gs : Nat) (v : Value) (gs' : Nat) (v' : Value) : Prop := (gs' = gs ∨ w.heap.size ≤ gs') ∧ (v'.ownBlock = v.ownBlock ∨ ∀ j, v'.ownBlock = some j → w.heap.size ≤ j)
theorem Mv.refl (w : World) (gs : Nat) (v : Value) : Mv w gs v gs v := ⟨.inl rfl, .inl rfl⟩
theorem Mv.at {w : World} {gs gs' : Nat} {v v' : Value} (h : Mv w gs v gs' v') (g j : Nat) (hj : j < w.heap.size) (hf : dcF g gs' v' j) : dcF g gs v j := by
  rcases hf with rfl | rfl | hf
  · exact .inl rfl
  · rcases h.1 with e | e
    · exact .inr (.inl e)
    · omega
  · rcases h.2 with e | e
    · exact .inr (.inr (e ▸ hf))
    · have := e j hf; omega
theorem Mv.trans {w w1 : World} {gs gs1 gs2 : Nat} {v v1 v2 : Value} (h : Mv w gs v gs1 v1) (k : Mv w1 gs1 v1 gs2 v2) (hs : w.heap.size ≤ w1.heap.size) : Mv w gs v gs2 v2 := by
  refine ⟨?_, ?_⟩
  · rcases k.1 with e | e
    · rw [e]; exact h.1
    · exact .inr (by omega)
  · rcases k.2 with e | e
    · rw [e]; exact h.2
    · exact .inr fun j hj => Nat.le_trans hs (e j hj)
theorem Mv.new {w w1 : World} {gs gs1 : Nat} {v v1 : Value} (h : Mv w1 gs v gs1 v1) (hs : w.heap.size ≤ w1.heap.size) : Mv w gs v gs1 v1 := (Mv.refl w gs v).trans h hs
theorem tu_trans {w w1 w2 : World} {g gs gs1 : Nat} {v v1 : Value} (h : Tu (dcF g gs v) w w1) (k : Tu (dcF g gs1 v1) w1 w2) (hm : Mv w gs v gs1 v1) : Tu (dcF g gs v) w w2 := h.trans k fun j hj hf => hm.at g j hj hf
/-- A new decoder. -/
theorem dc_new (w : World) (M : Int) : DcAt (w.alloc (.cells #[.int .i64 M, .int .i64 0, .int .i64 0, .int .i64 0, .int .i64 0, .pointer none, .bool false, .string ⟨#[]⟩] 58)) w.heap.size w.heap.size M zDS w.heap.size (.slice none 0 0) [] :=
  ⟨bkA_new 58 w (decC M zDS none), Nat.le_refl _, (fun e => by cases e), (fun _ => ⟨rfl, rfl, rfl⟩), rfl⟩
/-- The cells of a decoder that has not begun, and of one that has. -/
theorem DcAt.cells {w : World} {g B : Nat} {M : Int} {s : DS} {gs : Nat} {v : Value} {rs : List RV} (h : DcAt w g B M s gs v rs) :
    w.cell? ⟨g, 0, none⟩ = some (.int .i64 M) ∧ w.cell? ⟨g, 1, none⟩ = some (.int .i64 s.o) ∧ w.cell? ⟨g, 2, none⟩ = some (.int .i64 s.l) ∧ w.cell? ⟨g, 3, none⟩ = some (.int .i64 s.k) ∧ w.cell? ⟨g, 4, none⟩ = some (.int .i64 s.z) ∧
      w.cell? ⟨g, 5, none⟩ = some (.pointer (ptrD s.bg gs)) ∧ w.cell? ⟨g, 6, none⟩ = some (.bool s.dn) ∧ w.cell? ⟨g, 7, none⟩ = some (.string s.ob) :=
  ⟨h.blk.at 0 rfl, h.blk.at 1 rfl, h.blk.at 2 rfl, h.blk.at 3 rfl, h.blk.at 4 rfl, h.blk.at 5 rfl, h.blk.at 6 rfl, h.blk.at 7 rfl⟩
end Go.Proofs.YtnjdldbdkafnaaaGreatDoor
namespace Go.Proofs.YtnjdldbdkafnaaaGreatDoor
open Go.RowKit
set_option linter.unusedVariables false
set_option linter.unusedSimpArgs false
set_option maxRecDepth 4000

/-- A block that holds a packet. -/
def PkAt (w : World) (g : Nat) (v0 v1 v2 v3 v4 v5 v6 : Value) : Prop :=
  w.cell? ⟨g, 0, none⟩ = some v0 ∧ w.cell? ⟨g, 1, none⟩ = some v1 ∧ w.cell? ⟨g, 2, none⟩ = some v2 ∧ w.cell? ⟨g, 3, none⟩ = some v3 ∧ w.cell? ⟨g, 4, none⟩ = some v4 ∧ w.cell? ⟨g, 5, none⟩ = some v5 ∧ w.cell? ⟨g, 6, none⟩ = some v6
theorem pk_new (w : World) (v0 v1 v2 v3 v4 v5 v6 : Value) : PkAt (w.alloc (.cells #[v0, v1, v2, v3, v4, v5, v6] 31)) w.heap.size v0 v1 v2 v3 v4 v5 v6 := by
  refine ⟨?_, ?_, ?_, ?_, ?_, ?_, ?_⟩ <;> simp
theorem PkAt.below {w w' : World} {g : Nat} {v0 v1 v2 v3 v4 v5 v6 : Value} (h : PkAt w g v0 v1 v2 v3 v4 v5 v6) (hb : Below w.heap.size w w') : PkAt w' g v0 v1 v2 v3 v4 v5 v6 := by
  obtain ⟨h0, h1, h2, h3, h4, h5, h6⟩ := h
  have e : ∀ o, w'.cell? ⟨g, o, none⟩ = w.cell? ⟨g, o, none⟩ := fun o => hb.cell (show g < w.heap.size from World.block_lt_of_cell? w ⟨g, 0, none⟩ h0)
  exact ⟨(e _).trans h0, (e _).trans h1, (e _).trans h2, (e _).trans h3, (e _).trans h4, (e _).trans h5, (e _).trans h6⟩
theorem PkAt.alloc {w : World} {g : Nat} {v0 v1 v2 v3 v4 v5 v6 : Value} (h : PkAt w g v0 v1 v2 v3 v4 v5 v6) (o : Obj) : PkAt (w.alloc o) g v0 v1 v2 v3 v4 v5 v6 := h.below ((Below.refl _ _).alloc (Nat.le_refl _) _)
theorem below_new (w : World) (o : Obj) : Below w.heap.size w (w.alloc o) := (Below.refl _ _).alloc (Nat.le_refl _) _

set_option maxHeartbeats 400000 in
theorem pwithin_any (n lo hi : Int) (w : World) (b : Bool) (hb : TB b (lo ≤ n ∧ n ≤ hi)) :
    Calls Tryz.prog 76 #[.int .i64 n, .int .i64 lo, .int .i64 hi] w fun e w' => e = .returned (.bool b) ∧ w' = w := by
  have HB := hide hb
  clear hb
  by_cases h1 : lo ≤ n
  · by_cases h2 : n ≤ hi
    · go_enter Tryz.func76, Tryz.ntmps76
      go_wp2
      go_ret
      exact ⟨ret_bool ((unhide HB).yes ⟨h1, h2⟩).symm, rfl⟩
    · go_enter Tryz.func76, Tryz.ntmps76
      go_wp2
      go_ret
      exact ⟨ret_bool ((unhide HB).no (fun h => by omega)).symm, rfl⟩
  · go_enter Tryz.func76, Tryz.ntmps76
    go_wp2
    go_ret
    exact ⟨ret_bool ((unhide HB).no (fun h => by omega)).symm, rfl⟩

set_option maxHeartbeats 400000 in
theorem shaped_any (o l k z h : Int) (x y : Value) (w : World) (b : Bool) (hb : TB b (shapedP k z)) :
    Calls Tryz.prog 75 #[.agg #[.int .i64 o, .int .i64 l, .int .i64 k, .int .i64 z, .int .i64 h, x, y]] w fun e w' => e = .returned (.bool b) ∧ Below w.heap.size w w' := by
  have HB := hide hb
  obtain ⟨b1, h1⟩ := tb_ex (1 ≤ k ∧ k ≤ 128)
  obtain ⟨b2, h2⟩ := tb_ex (1 ≤ z ∧ z ≤ 64)
  have H1 := hide h1
  have H2 := hide h2
  clear hb h1 h2
  have B0 := hide (below_new w (.cells #[.int .i64 o, .int .i64 l, .int .i64 k, .int .i64 z, .int .i64 h, x, y] 31))
  go_enter Tryz.func75, Tryz.ntmps75
  go_wp2_with fail
  refine (pwithin_any k 1 128 _ b1 (unhide H1)).mono ?_
  rintro e w' ⟨rfl, hw⟩
  obtain rfl := hw.symm
  clear hw
  cases b1
  · go_wp2
    go_ret
    exact ⟨ret_bool ((unhide HB).no (fun h => by simpa using (unhide H1).2 h.1)).symm, unhide B0⟩
  · go_wp2_with fail
    refine (pwithin_any z 1 64 _ b2 (unhide H2)).mono ?_
    rintro e w' ⟨rfl, hw⟩
    obtain rfl := hw.symm
    clear hw
    cases b2
    · go_wp2
      go_ret
      exact ⟨ret_bool ((unhide HB).no (fun h => by simpa using (unhide H2).2 h.2)).symm, unhide B0⟩
    · go_wp2
      go_ret
      exact ⟨ret_bool ((unhide HB).yes ⟨(unhide H1).1 rfl, (unhide H2).1 rfl⟩).symm, unhide B0⟩

set_option maxHeartbeats 1000000 in
theorem bounded_any (o l k z h : Int) (x y : Value) (w : World) (b : Bool) (hb : TB b (boundP o l k z h)) :
    Calls Tryz.prog 61 #[.agg #[.int .i64 o, .int .i64 l, .int .i64 k, .int .i64 z, .int .i64 h, x, y]] w fun e w' => e = .returned (.bool b) ∧ Below w.heap.size w w' := by
  have HB := hide hb
  obtain ⟨b1, h1⟩ := tb_ex (shapedP k z)
  obtain ⟨b2, h2⟩ := tb_ex (0 ≤ o ∧ o ≤ 4294967295)
  obtain ⟨b3, h3⟩ := tb_ex (0 ≤ l ∧ l ≤ k * z)
  obtain ⟨b4, h4⟩ := tb_ex (0 ≤ h ∧ h ≤ 15)
  have H1 := hide h1
  have H2 := hide h2
  have H3 := hide h3
  have H4 := hide h4
  clear hb h1 h2 h3 h4
  have B0 := hide (below_new w (.cells #[.int .i64 o, .int .i64 l, .int .i64 k, .int .i64 z, .int .i64 h, x, y] 31))
  have HX := hide (pk_new w (.int .i64 o) (.int .i64 l) (.int .i64 k) (.int .i64 z) (.int .i64 h) x y)
  go_enter Tryz.func61, Tryz.ntmps61
  go_wp2_with fail
  refine (shaped_any o l k z h x y _ b1 (unhide H1)).mono ?_
  rintro e w1 ⟨rfl, hb1⟩
  obtain ⟨k0, k1, k2, k3, k4, k5, k6⟩ := (unhide HX).below hb1
  have B1 := hide (below0 (unhide B0) hb1)
  clear hb1
  cases b1
  · go_wp2
    go_ret
    exact ⟨ret_bool ((unhide HB).no (fun h => by simpa using (unhide H1).2 h.1)).symm, unhide B1⟩
  · have hm := mul_le ((unhide H1).1 rfl)
    have HW := hide (show wrap64 (k * z) = k * z by unfold wrap64; omega)
    clear hm
    go_wp2_with fail
    refine (pwithin_any o 0 4294967295 _ b2 (unhide H2)).mono ?_
    rintro e w' ⟨rfl, hw⟩
    obtain rfl := hw.symm
    clear hw
    cases b2
    · go_wp2
      go_ret
      exact ⟨ret_bool ((unhide HB).no (fun h => by simpa using (unhide H2).2 h.2.1)).symm, unhide B1⟩
    · go_wp2_with fail
      refine (pwithin_any l 0 (wrap64 (k * z)) _ b3 (by rw [unhide HW]; exact unhide H3)).mono ?_
      rintro e w' ⟨rfl, hw⟩
      obtain rfl := hw.symm
      clear hw
      cases b3
      · go_wp2
        go_ret
        exact ⟨ret_bool ((unhide HB).no (fun h => by simpa using (unhide H3).2 h.2.2.1)).symm, unhide B1⟩
      · go_wp2_with fail
        refine (pwithin_any h 0 15 _ b4 (unhide H4)).mono ?_
        rintro e w' ⟨rfl, hw⟩
        obtain rfl := hw.symm
        clear hw
        cases b4
        · go_wp2
          go_ret
          exact ⟨ret_bool ((unhide HB).no (fun h => by simpa using (unhide H4).2 h.2.2.2)).symm, unhide B1⟩
        · go_wp2
          go_ret
          exact ⟨ret_bool ((unhide HB).yes ⟨(unhide H1).1 rfl, (unhide H2).1 rfl, (unhide H3).1 rfl, (unhide H4).1 rfl⟩).symm, unhide B1⟩

theorem valid_len {k : Int} {xs : List Nat} (h : ValidP k xs) : xs.length ≤ 2 := by
  have := sizeOfK_le k
  have := h.2.1
  omega

set_option maxHeartbeats 1000000 in
theorem rowed_any (o l k z h : Int) (a : Option Addr) (n c : Nat) (xs : List Nat) (s : ByteArray) (w : World) (hr : RowAt w a n xs) (b : Bool) (hb : TB b (rowedP k z xs s.size)) :
    Calls Tryz.prog 62 #[.agg #[.int .i64 o, .int .i64 l, .int .i64 k, .int .i64 z, .int .i64 h, .slice a n c, .string s]] w fun e w' => e = .returned (.bool b) ∧ Below w.heap.size w w' := by
  have HB := hide hb
  have hlen := hr.1
  have HR := hide (row_alloc hr (.cells #[.int .i64 o, .int .i64 l, .int .i64 k, .int .i64 z, .int .i64 h, .slice a n c, .string s] 31))
  have B0 := hide (below_new w (.cells #[.int .i64 o, .int .i64 l, .int .i64 k, .int .i64 z, .int .i64 h, .slice a n c, .string s] 31))
  have HX := hide (pk_new w (.int .i64 o) (.int .i64 l) (.int .i64 k) (.int .i64 z) (.int .i64 h) (.slice a n c) (.string s))
  have HL := hide hlen
  clear hb hr hlen
  go_enter Tryz.func62, Tryz.ntmps62
  go_wp2_with fail
  refine (valid_any a n c xs k _ (unhide HR)).mono ?_
  rintro e w1 ⟨⟨b1, rfl, hb1⟩, hbl⟩
  obtain ⟨k0, k1, k2, k3, k4, k5, k6⟩ := (unhide HX).below hbl
  have B1 := hide (below0 (unhide B0) hbl)
  have HR1 := hide ((unhide HR).below hbl)
  have H1 := hide hb1
  clear hbl hb1
  cases b1
  · go_wp2
    go_ret
    exact ⟨ret_bool ((unhide HB).no (fun h => by simpa using (unhide H1).2 h.1)).symm, unhide B1⟩
  · have hv := (unhide H1).1 rfl
    have hn : n ≤ 1048576 := by have := valid_len hv; have := unhide HL; omega
    have HC := hide (count_any a n c xs w1 (unhide HR1) hn)
    have HV := hide hv
    clear hv hn
    rcases Nat.eq_zero_or_pos (cnt xs) with hc | hc
    · rw [hc] at HC
      have HZ := hide hc
      clear hc
      go_wp2_with fail
      refine (unhide HC).mono ?_
      rintro e w' ⟨rfl, hw⟩
      obtain rfl := hw.symm
      clear hw
      go_wp2
      go_ret
      exact ⟨ret_bool ((unhide HB).no (fun h => by have := h.2.1; have := unhide HZ; omega)).symm, unhide B1⟩
    · have HZ := hide hc
      have hc' : (0 : Int) < ((cnt xs : Nat) : Int) := by omega
      generalize ((cnt xs : Nat) : Int) = m at *
      clear hc
      by_cases hz : (s.size : Int) = z
      · have hz' : ((s.size : Int) == z) = true := by rw [beq_iff_eq]; exact hz
        have HQ := hide hz
        clear hz
        go_wp2_with fail
        refine (unhide HC).mono ?_
        rintro e w' ⟨rfl, hw⟩
        obtain rfl := hw.symm
        clear hw
        go_wp2
        go_ret
        exact ⟨ret_bool ((unhide HB).yes ⟨unhide HV, unhide HZ, unhide HQ⟩).symm, unhide B1⟩
      · have hz' : ((s.size : Int) == z) = false := by rw [beq_eq_false_iff_ne]; exact hz
        have HQ := hide hz
        clear hz
        go_wp2_with fail
        refine (unhide HC).mono ?_
        rintro e w' ⟨rfl, hw⟩
        obtain rfl := hw.symm
        clear hw
        go_wp2
        go_ret
        exact ⟨ret_bool ((unhide HB).no (fun h => unhide HQ h.2.2)).symm, unhide B1⟩

set_option maxHeartbeats 1000000 in
theorem check_any (o l k z h : Int) (a : Option Addr) (n c : Nat) (xs : List Nat) (s : ByteArray) (w : World) (hr : RowAt w a n xs) (en : Nat) (hen : CkP en (CheckP o l k z h xs s.size)) :
    Calls Tryz.prog 46 #[.agg #[.int .i64 o, .int .i64 l, .int .i64 k, .int .i64 z, .int .i64 h, .slice a n c, .string s]] w fun e w' => e = .returned (.int .i64 ((en : Nat) : Int)) ∧ Below w.heap.size w w' := by
  have HE := hide hen
  obtain ⟨b1, h1⟩ := tb_ex (boundP o l k z h)
  obtain ⟨b2, h2⟩ := tb_ex (rowedP k z xs s.size)
  have H1 := hide h1
  have H2 := hide h2
  have HR := hide (row_alloc hr (.cells #[.int .i64 o, .int .i64 l, .int .i64 k, .int .i64 z, .int .i64 h, .slice a n c, .string s] 31))
  have B0 := hide (below_new w (.cells #[.int .i64 o, .int .i64 l, .int .i64 k, .int .i64 z, .int .i64 h, .slice a n c, .string s] 31))
  have HX := hide (pk_new w (.int .i64 o) (.int .i64 l) (.int .i64 k) (.int .i64 z) (.int .i64 h) (.slice a n c) (.string s))
  clear hen hr h1 h2
  go_enter Tryz.func46, Tryz.ntmps46
  go_wp2_with fail
  refine (bounded_any o l k z h _ _ _ b1 (unhide H1)).mono ?_
  rintro e w1 ⟨rfl, hb1⟩
  obtain ⟨k0, k1, k2, k3, k4, k5, k6⟩ := (unhide HX).below hb1
  have HR1 := hide ((unhide HR).below hb1)
  have B1 := hide (below0 (unhide B0) hb1)
  clear hb1
  cases b1
  · go_wp2
    go_ret
    exact ⟨ret_int (by rw [(unhide HE).no (fun h => by simpa using (unhide H1).2 h.1)]; rfl), unhide B1⟩
  · go_wp2_with fail
    refine (rowed_any o l k z h a n c xs s _ (unhide HR1) b2 (unhide H2)).mono ?_
    rintro e w2 ⟨rfl, hb2⟩
    have B2 := hide (below0 (unhide B1) hb2)
    clear hb2
    cases b2
    · go_wp2
      go_ret
      exact ⟨ret_int (by rw [(unhide HE).no (fun h => by simpa using (unhide H2).2 h.2)]; rfl), unhide B2⟩
    · go_wp2
      go_ret
      exact ⟨ret_int (by rw [(unhide HE).yes ⟨(unhide H1).1 rfl, (unhide H2).1 rfl⟩]; rfl), unhide B2⟩
end Go.Proofs.YtnjdldbdkafnaaaGreatDoor
