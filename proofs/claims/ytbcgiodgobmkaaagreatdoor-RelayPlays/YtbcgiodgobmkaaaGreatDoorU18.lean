/-
  The buffer in memory ('BfAt'); packets whose words are one's own ('OwnKs'); slices of packets that are made and filled. No condition.
  Contracts of buffer.New, Len, Clear, copyOf, objectOf, rows, degrees.
-/
import Derived.Test.YtbcgiodgobmkaaaGreatDoorU16
import Derived.Test.YtbcgiodgobmkaaaGreatDoorU17
import Derived.Deep.RegionHeld3
import Derived.BigQuiet
namespace Go.Proofs.YtbcgiodgobmkaaaGreatDoor
open Go.RowKit Go.Sort
set_option linter.unusedVariables false
set_option linter.unusedSimpArgs false
set_option maxRecDepth 4000

/-- Packets whose words are one's own. -/
def OwnKs (w : World) (B : Nat) (ps : List PKV) : Prop := ∀ p ∈ ps, Own w B (.slice p.r.a p.r.n p.r.c) p.r.xs
theorem OwnKs.nil (w : World) (B : Nat) : OwnKs w B [] := fun r hr => by cases hr
theorem OwnKs.below {w w' : World} {B : Nat} {ps : List PKV} (h : OwnKs w B ps) (hb : Below w.heap.size w w') : OwnKs w' B ps := fun r hr => (h r hr).below hb
theorem OwnKs.mono {w : World} {B B' : Nat} {ps : List PKV} (h : OwnKs w B ps) (hB : B' ≤ B) : OwnKs w B' ps := fun r hr => (h r hr).mono hB
theorem OwnKs.snoc {w : World} {B : Nat} {ps : List PKV} {p : PKV} (h : OwnKs w B ps) (hr : Own w B (.slice p.r.a p.r.n p.r.c) p.r.xs) : OwnKs w B (ps ++ [p]) := fun x hx => by
  rcases List.mem_append.1 hx with hx | hx
  · exact h x hx
  · rw [List.mem_singleton.1 hx]; exact hr
theorem OwnKs.sub {w : World} {B : Nat} {a b : List PKV} (h : OwnKs w B b) (hs : ∀ p ∈ a, p ∈ b) : OwnKs w B a := fun p hp => h p (hs p hp)
theorem OwnKs.ks {w : World} {B : Nat} {ps : List PKV} (h : OwnKs w B ps) : KsIn w ps := fun r hr => by
  obtain ⟨a, c, e, h1⟩ := (h r hr).row
  simp only [Value.slice.injEq] at e
  obtain ⟨e1, e2, e3⟩ := e
  exact ⟨by rw [e1, e2]; exact h1, (h r hr).cap⟩
theorem OwnKs.tu {F : Nat → Prop} {w w' : World} {B : Nat} {ps : List PKV} (h : OwnKs w B ps) (ht : Tu F w w') (hF : ∀ j cur, w.heap[j]? = some (.cells cur 59 (0, 0)) → ¬ F j) : OwnKs w' B ps := fun r hr =>
  (h r hr).tu ht fun j hj => by
    obtain ⟨cur, hc⟩ := (h r hr).blkU hj
    exact hF j cur hc

/-- What a buffer is at: its block and that of its packets. -/
def bfF (g : Nat) (v : Value) (k : Nat) : Prop := k = g ∨ v.ownBlock = some k
/-- A buffer of at most m packets at block g: it keeps ps in v; all of it lies at B or behind. -/
structure BfAt (w : World) (g B m : Nat) (v : Value) (ps : List PKV) : Prop where
  blk : BkA 87 w g [.int .i64 (m : Int), v]
  lo : B ≤ g
  own : OwnP w B v ps
  rows : OwnKs w B ps
  inv : BInv m (ps.map PKV.pd)
  most : m ≤ 256
theorem BfAt.below {w w' : World} {g B m : Nat} {v : Value} {ps : List PKV} (h : BfAt w g B m v ps) (hb : Below w.heap.size w w') : BfAt w' g B m v ps :=
  ⟨h.blk.below hb, h.lo, h.own.below hb, h.rows.below hb, h.inv, h.most⟩
theorem BfAt.mono {w : World} {g B B' m : Nat} {v : Value} {ps : List PKV} (h : BfAt w g B m v ps) (hB : B' ≤ B) : BfAt w g B' m v ps :=
  ⟨h.blk, Nat.le_trans hB h.lo, h.own.mono hB, h.rows.mono hB, h.inv, h.most⟩
theorem BfAt.lt {w : World} {g B m : Nat} {v : Value} {ps : List PKV} (h : BfAt w g B m v ps) : g < w.heap.size := h.blk.lt
theorem BfAt.lob {w : World} {g B m : Nat} {v : Value} {ps : List PKV} (h : BfAt w g B m v ps) : B ≤ w.heap.size := Nat.le_of_lt (Nat.lt_of_le_of_lt h.lo h.lt)
theorem BfAt.len {w : World} {g B m : Nat} {v : Value} {ps : List PKV} (h : BfAt w g B m v ps) : ps.length ≤ m ∧ ps.length ≤ 256 := by
  have h1 := h.inv.le
  have h2 := h.most
  rw [List.length_map] at h1
  omega
theorem BfAt.low {w : World} {g B m : Nat} {v : Value} {ps : List PKV} (h : BfAt w g B m v ps) : ∀ j, j < B → ¬ bfF g v j := fun j hj hf => by
  rcases hf with rfl | hf
  · have := h.lo; omega
  · have := (World.ownsRow.lt h.own j hf).1; omega
theorem BfAt.words {w : World} {g B m : Nat} {v : Value} {ps : List PKV} (h : BfAt w g B m v ps) : ∀ j cur, w.heap[j]? = some (.cells cur 59 (0, 0)) → ¬ bfF g v j := fun j cur hc hf => by
  rcases hf with rfl | hf
  · exact h.blk.ne hc (by decide) rfl
  · obtain ⟨cur2, h2⟩ := h.own.blk hf
    rw [h2] at hc
    simp only [Option.some.injEq, Obj.cells.injEq] at hc
    exact absurd hc.2.1 (by decide)
theorem BfAt.keeps {w w' : World} {g B m : Nat} {v : Value} {ps : List PKV} (h : BfAt w g B m v ps) (ht : Tu (bfF g v) w w') : Below B w w' := ht.below h.lob h.low
theorem BfAt.step {w0 w w' : World} {g B m : Nat} {v : Value} {ps : List PKV} (h : BfAt w g B m v ps) (hb : Below B w0 w) (ht : Tu (bfF g v) w w') : Below B w0 w' := hb.trans (h.keeps ht)
theorem BfAt.tu {F : Nat → Prop} {w w' : World} {g B m : Nat} {v : Value} {ps : List PKV} (h : BfAt w g B m v ps) (ht : Tu F w w') (hs : ∀ j, bfF g v j → ¬ F j) (hw : ∀ j cur, w.heap[j]? = some (.cells cur 59 (0, 0)) → ¬ F j) : BfAt w' g B m v ps :=
  ⟨h.blk.tu ht (hs g (.inl rfl)), h.lo, h.own.tu ht (fun j hj => hs j (.inr hj)), h.rows.tu ht hw, h.inv, h.most⟩
theorem BfAt.at {w : World} {g B m : Nat} {v : Value} {ps : List PKV} (h : BfAt w g B m v ps) : ∃ a c, v = .slice a ps.length c ∧ PksAt w a ps.length ps ∧ ps.length ≤ c ∧ c ≤ 9223372036854775807 := h.own.pks h.rows.ks
theorem BfAt.cells {w w' : World} {g B m : Nat} {v : Value} {ps : List PKV} (h : BfAt w g B m v ps) (hb : Below w.heap.size w w') : w'.cell? ⟨g, 0, none⟩ = some (.int .i64 (m : Int)) ∧ w'.cell? ⟨g, 1, none⟩ = some v :=
  ⟨(h.blk.below hb).at 0 rfl, (h.blk.below hb).at 1 rfl⟩
/-- Where the packets have gone: where they were, or to new memory. -/
def MvB (w : World) (v v' : Value) : Prop := v'.ownBlock = v.ownBlock ∨ ∀ j, v'.ownBlock = some j → w.heap.size ≤ j
theorem MvB.refl (w : World) (v : Value) : MvB w v v := .inl rfl
theorem MvB.at {w : World} {v v' : Value} (h : MvB w v v') (g j : Nat) (hj : j < w.heap.size) (hf : bfF g v' j) : bfF g v j := by
  rcases hf with rfl | hf
  · exact .inl rfl
  · rcases h with e | e
    · exact .inr (e ▸ hf)
    · have := e j hf; omega
theorem MvB.trans {w w1 : World} {v v1 v2 : Value} (h : MvB w v v1) (k : MvB w1 v1 v2) (hs : w.heap.size ≤ w1.heap.size) : MvB w v v2 := by
  rcases k with e | e
  · unfold MvB; rw [e]; exact h
  · exact .inr fun j hj => Nat.le_trans hs (e j hj)
theorem MvB.new {w w1 : World} {v v1 : Value} (h : MvB w1 v v1) (hs : w.heap.size ≤ w1.heap.size) : MvB w v v1 := (MvB.refl w v).trans h hs
theorem tuB_trans {w w1 w2 : World} {g : Nat} {v v1 : Value} (h : Tu (bfF g v) w w1) (k : Tu (bfF g v1) w1 w2) (hm : MvB w v v1) : Tu (bfF g v) w w2 := h.trans k fun j hj hf => hm.at g j hj hf
/-- The buffer with other packets in the same or other memory, its second cell written. -/
theorem BfAt.puts {w w1 : World} {g B m : Nat} {v v1 : Value} {ps ps1 : List PKV} (h : BfAt w g B m v ps) (ht : Tu (fun j => v.ownBlock = some j) w w1) (ho : OwnP w1 B v1 ps1) (hr : OwnKs w1 B ps1) (hi : BInv m (ps1.map PKV.pd)) (hm : MvB w v v1) :
    BfAt (w1.setCell ⟨g, 1, none⟩ v1) g B m v1 ps1 ∧ Tu (bfF g v) w (w1.setCell ⟨g, 1, none⟩ v1) := by
  have hb1 : BkA 87 w1 g [.int .i64 (m : Int), v] := h.blk.tu ht fun e => h.blk.neP h.own (by decide) e
  have hset := tu_set w1 g 1 v1
  refine ⟨⟨hb1.set 1 v1, h.lo, ho.tu hset fun j hj e => hb1.neP ho (by decide) (by rw [hj, e]), hr.tu hset fun j cur hc e => hb1.ne hc (by decide) e.symm, hi, h.most⟩, ?_⟩
  exact ((Tu.refl (bfF g v) w).trans ht (fun _ _ e => .inr e)).trans hset (fun _ _ e => .inl e)
theorem bf_new (w : World) (m : Nat) (hm : m ≤ 256) : BfAt (w.alloc (.cells #[.int .i64 (m : Int), .slice none 0 0] 87)) w.heap.size w.heap.size m (.slice none 0 0) [] :=
  ⟨bkA_new 87 w [.int .i64 (m : Int), .slice none 0 0], Nat.le_refl _, OwnP.nil _ _, OwnKs.nil _ _, BInv.nil _, hm⟩

/-- No packet. -/
def zK : PKV := ⟨0, 0, 0, 0, 0, ⟨none, 0, 0, [], ⟨#[]⟩⟩⟩
def fillK (n : Nat) (us : List PKV) : List PKV := us ++ List.replicate (n - us.length) zK
theorem fillK_zero (n : Nat) : fillK n [] = List.replicate n zK := by simp [fillK]
theorem fillK_length {n : Nat} {us : List PKV} (h : us.length ≤ n) : (fillK n us).length = n := by simp [fillK]; omega
theorem fillK_all {n : Nat} {us : List PKV} (h : us.length = n) : fillK n us = us := by simp [fillK, h]
theorem fillK_next {n : Nat} {us : List PKV} (r : PKV) (h : us.length < n) : (fillK n us).set us.length r = fillK n (us ++ [r]) := by
  unfold fillK
  rw [List.set_append_right _ _ (Nat.le_refl _), Nat.sub_self, List.length_append, List.length_singleton, List.append_assoc, show n - us.length = (n - (us.length + 1)) + 1 by omega, List.replicate_succ, List.set_cons_zero]
  rfl
theorem cellsK_set : ∀ (ps : List PKV) (k : Nat) (p : PKV), (((((((cellsK ps).set (k * 7) (.int .i64 p.o)).set (k * 7 + 1) (.int .i64 p.l)).set (k * 7 + 2) (.int .i64 p.k)).set (k * 7 + 3) (.int .i64 p.z)).set (k * 7 + 4) (.int .i64 p.h)).set (k * 7 + 5) (.slice p.r.a p.r.n p.r.c)).set (k * 7 + 6) (.string p.r.s) = cellsK (ps.set k p)
  | [], k, p => by simp [cellsK]
  | x :: ps, 0, p => by simp [cellsK, PKV.cells]
  | x :: ps, k + 1, p => by
    have h := cellsK_set ps k p
    have e : ∀ (l : List Value) (j : Nat) (u : Value), (x.cells ++ l).set (7 + j) u = x.cells ++ l.set j u := fun l j u => by
      rw [List.set_append_right _ _ (by show 7 ≤ _; omega)]
      show _ ++ l.set (7 + j - 7) u = _
      rw [Nat.add_sub_cancel_left]
    show (((((((x.cells ++ cellsK ps).set ((k + 1) * 7) _).set ((k + 1) * 7 + 1) _).set ((k + 1) * 7 + 2) _).set ((k + 1) * 7 + 3) _).set ((k + 1) * 7 + 4) _).set ((k + 1) * 7 + 5) _).set ((k + 1) * 7 + 6) _ = x.cells ++ cellsK (ps.set k p)
    rw [show (k + 1) * 7 = 7 + k * 7 by omega, Nat.add_assoc, Nat.add_assoc, Nat.add_assoc, Nat.add_assoc, Nat.add_assoc, Nat.add_assoc, e, e, e, e, e, e, e, h]
theorem cellsK_zeros : ∀ n : Nat, (madeCells #[.int .i64 0, .int .i64 0, .int .i64 0, .int .i64 0, .int .i64 0, .slice none 0 0, .string ⟨#[]⟩] (n * 7)).toList = cellsK (List.replicate n zK)
  | 0 => by simp [madeCells, cellsK]
  | n + 1 => by
    rw [List.replicate_succ', cellsK_append, ← cellsK_zeros n]
    unfold madeCells
    rw [show (n + 1) * 7 = n * 7 + 1 + 1 + 1 + 1 + 1 + 1 + 1 by omega]
    simp only [Array.toList_map, Array.toList_range]
    rw [List.range_succ, List.range_succ, List.range_succ, List.range_succ, List.range_succ, List.range_succ, List.range_succ]
    simp [cellsK, PKV.cells, zK, Nat.mul_mod_left]
theorem make_k (n : Nat) (hn : n ≤ 1048576) (wx : World) : (Instr.makeSlice 30 (.int .i64 (n : Int)) (.int .i64 (n : Int))).run Tryz.prog wx = .ok (.slice (some ⟨wx.heap.size, 0, none⟩) n n) (wx.alloc (.cells (madeCells #[.int .i64 0, .int .i64 0, .int .i64 0, .int .i64 0, .int .i64 0, .slice none 0 0, .string ⟨#[]⟩] (n * 7)) 42)) := by
  obtain ⟨i0, hi0, hz0, hzs, hzb⟩ := info_parts info_pktZ
  have := run_make (P := Tryz.prog) wx 30 42 i0 _ Tryz.underlying30 hi0 hz0 .i64 .i64 (n : Int) (n : Int) (by omega) (Int.le_refl _) (by rw [hzb]; omega) (by omega)
  rw [hzs] at this
  simpa [Value.cells] using this
theorem made_k (w : World) (n : Nat) (hn : n ≤ 1048576) (ps : List PKV) (hps : ps = List.replicate n zK) : OwnP (w.alloc (.cells (madeCells #[.int .i64 0, .int .i64 0, .int .i64 0, .int .i64 0, .int .i64 0, .slice none 0 0, .string ⟨#[]⟩] (n * 7)) 42)) w.heap.size (.slice (some ⟨w.heap.size, 0, none⟩) n n) ps := by
  subst hps
  refine ⟨cellsK_length _, .inr ⟨w.heap.size, n, madeCells #[.int .i64 0, .int .i64 0, .int .i64 0, .int .i64 0, .int .i64 0, .slice none 0 0, .string ⟨#[]⟩] (n * 7), by simp, Nat.le_refl _, heap_alloc_new w _, by simp, by unfold maxLen; omega, by simp [size_madeCells], ?_⟩⟩
  rw [cellsK_zeros, List.take_of_length_le (by rw [cellsK_length]; exact Nat.le_refl _)]
/-- The cells of a packet in the midst of a block are written. -/
def setK (w : World) (g off : Nat) (p : PKV) : World := ((((((w.setCell ⟨g, off, none⟩ (.int .i64 p.o)).setCell ⟨g, off + 1, none⟩ (.int .i64 p.l)).setCell ⟨g, off + 2, none⟩ (.int .i64 p.k)).setCell ⟨g, off + 3, none⟩ (.int .i64 p.z)).setCell ⟨g, off + 4, none⟩ (.int .i64 p.h)).setCell ⟨g, off + 5, none⟩ (.slice p.r.a p.r.n p.r.c)).setCell ⟨g, off + 6, none⟩ (.string p.r.s)
theorem OwnP.stored {w : World} {B g cap n : Nat} {ps : List PKV} (h : OwnP w B (.slice (some ⟨g, 0, none⟩) n cap) ps) (k : Nat) (p : PKV) : OwnP (setK w g (k * 7) p) B (.slice (some ⟨g, 0, none⟩) n cap) (ps.set k p) := by
  obtain rfl : n = ps.length := by
    rcases h.2 with ⟨e, _⟩ | ⟨g1, cap1, cur, e, _⟩
    · cases e
    · simp only [Value.slice.injEq] at e; exact e.2.1
  have ho : w.ownsRow B 42 7 (.slice (some ⟨g, 0, none⟩) ps.length cap) ps.length (cellsK ps) := h
  have := ((((((((ho.stored (k * 7) (.int .i64 p.o)).1.stored (k * 7 + 1) (.int .i64 p.l)).1.stored (k * 7 + 2) (.int .i64 p.k)).1.stored (k * 7 + 3) (.int .i64 p.z)).1.stored (k * 7 + 4) (.int .i64 p.h)).1.stored (k * 7 + 5) (.slice p.r.a p.r.n p.r.c)).1.stored (k * 7 + 6) (.string p.r.s))).1
  rw [cellsK_set] at this
  show World.ownsRow _ B 42 7 _ (ps.set k p).length _
  rw [List.length_set]
  exact this
theorem belowK {B : Nat} {a w : World} (h : Below B a w) {g : Nat} (hg : B ≤ g) (off : Nat) (p : PKV) : Below B a (setK w g off p) :=
  ((((((h.setCell (p := ⟨g, off, none⟩) hg _).setCell (p := ⟨g, off + 1, none⟩) hg _).setCell (p := ⟨g, off + 2, none⟩) hg _).setCell (p := ⟨g, off + 3, none⟩) hg _).setCell (p := ⟨g, off + 4, none⟩) hg _).setCell (p := ⟨g, off + 5, none⟩) hg _).setCell (p := ⟨g, off + 6, none⟩) hg _
theorem OwnKs.set {w : World} {B g : Nat} {ps : List PKV} (h : OwnKs w B ps) (i : Nat) (u : Value) (hg : g < B) : OwnKs (w.setCell ⟨g, i, none⟩ u) B ps := fun r hr => (h r hr).other i u hg
theorem OwnKs.setK {w : World} {B g : Nat} {ps : List PKV} (h : OwnKs w B ps) (off : Nat) (p : PKV) (hg : g < B) : OwnKs (setK w g off p) B ps :=
  ((((((h.set off _ hg).set (off + 1) _ hg).set (off + 2) _ hg).set (off + 3) _ hg).set (off + 4) _ hg).set (off + 5) _ hg).set (off + 6) _ hg
theorem setK_size (w : World) (g off : Nat) (p : PKV) : (setK w g off p).heap.size = w.heap.size := by unfold setK; simp
end Go.Proofs.YtbcgiodgobmkaaaGreatDoor
namespace Go.Proofs.YtbcgiodgobmkaaaGreatDoor
open Go.RowKit Go.Sort
set_option linter.unusedVariables false
set_option linter.unusedSimpArgs false
set_option maxRecDepth 4000

theorem bunew_any (n : Int) (w : World) :
    Calls Tryz.prog 23 #[.int .i64 n] w fun e w' => e = .returned (.pointer (some ⟨w.heap.size, 0, none⟩)) ∧ BfAt w' w.heap.size w.heap.size (capN n) (.slice none 0 0) [] ∧ Below w.heap.size w w' := by
  have h1 := max_run n
  have h2 := cap_run n
  go_enter Tryz.func23, Tryz.ntmps23
  go_wp2
  go_ret
  exact ⟨rfl, bf_new w (capN n) (capN_le n), (Below.refl _ _).alloc (Nat.le_refl _) _⟩
theorem bulen_any (g B m : Nat) (v : Value) (ps : List PKV) (w : World) (h : BfAt w g B m v ps) :
    Calls Tryz.prog 126 #[.pointer (some ⟨g, 0, none⟩)] w fun e w' => e = .returned (.int .i64 (ps.length : Int)) ∧ w' = w := by
  obtain ⟨a, c, rfl, -, -, -⟩ := h.at
  obtain ⟨h0, h1⟩ := h.cells (Below.refl _ _)
  clear h
  go_enter Tryz.func126, Tryz.ntmps126
  go_wp2
  go_ret
  exact ⟨rfl, rfl⟩
theorem buclear_any (g B m : Nat) (v : Value) (ps : List PKV) (w : World) (h : BfAt w g B m v ps) :
    Calls Tryz.prog 125 #[.pointer (some ⟨g, 0, none⟩)] w fun e w' => e = .returned (.tuple #[]) ∧ BfAt w' g B m (.slice none 0 0) [] ∧ Tu (bfF g v) w w' := by
  obtain ⟨h0, h1⟩ := h.cells (Below.refl _ _)
  have f1 := h.blk.frz 1
  have HS := hide (h.puts (w1 := w) (v1 := .slice none 0 0) (ps1 := []) (Tu.refl _ _) (OwnP.nil _ _) (OwnKs.nil _ _) (BInv.nil _) (.inr fun j hj => by cases hj))
  clear h
  go_enter Tryz.func125, Tryz.ntmps125
  go_wp2
  go_end0
  exact ⟨rfl, unhide HS⟩
theorem bobj_any (p : PKV) (w : World) :
    Calls Tryz.prog 141 #[p.val] w fun e w' => e = .returned (.agg #[.int .i64 p.o, .int .i64 p.l, .int .i64 p.k, .int .i64 p.z]) ∧ Below w.heap.size w w' := by
  unfold PKV.val
  go_enter Tryz.func141, Tryz.ntmps141
  go_wp2
  exact bodyPost_ret (v := .agg #[.int .i64 p.o, .int .i64 p.l, .int .i64 p.k, .int .i64 p.z]) (by simp [results, Tryz.results141, go_sem]) rfl ⟨rfl, ((Below.refl _ _).alloc (Nat.le_refl _) _).alloc (by simp) _⟩
set_option maxHeartbeats 1000000 in
theorem eq_bobj (o l k z o' l' k' z' : Int) (W : World) :
    (binOp .eql 172 (.agg #[.int .i64 o, .int .i64 l, .int .i64 k, .int .i64 z]) (.agg #[.int .i64 o', .int .i64 l', .int .i64 k', .int .i64 z'])).run Tryz.prog W = .ok (.bool (decide (o = o' ∧ l = l' ∧ k = k' ∧ z = z'))) W := by
  rw [run_eql_struct, run_equalIn_struct (d := 9999) (ht := by kernel_rfl) (hp := by kernel_rfl)]
  simp only [Program.fieldsOf, Tryz.underlying172]
  by_cases h1 : o = o'
  · by_cases h2 : l = l'
    · by_cases h3 : k = k'
      · by_cases h4 : z = z'
        · simp [Op.eqFields, part, go_sem, Tryz.underlying3, h1, h2, h3, h4]
        · simp [Op.eqFields, part, go_sem, Tryz.underlying3, h1, h2, h3, h4]
      · simp [Op.eqFields, part, go_sem, Tryz.underlying3, h1, h2, h3]
    · simp [Op.eqFields, part, go_sem, Tryz.underlying3, h1, h2]
  · simp [Op.eqFields, part, go_sem, Tryz.underlying3, h1]

theorem Own.setB7 {w : World} {B g : Nat} {v : Value} {xs : List Nat} (h : Own w B v xs) (hg : g < B) (u0 u1 u2 u3 u4 u5 u6 : Value) : Own (set7 w g u0 u1 u2 u3 u4 u5 u6) B v xs :=
  ((((((h.other 0 u0 hg).other 1 u1 hg).other 2 u2 hg).other 3 u3 hg).other 4 u4 hg).other 5 u5 hg).other 6 u6 hg
/-- The copy, as it is returned. -/
theorem bcopy_res {wx : World} {tmps : Array Value} {b : Nat} {o l k z h : Int} {v5 u5 : Value} {s : ByteArray} {z0 z1 z2 z3 z4 z5 z6 : Value} (ht : tmps.getD 2 undef = .pointer (some ⟨b + 1, 0, none⟩)) (hq : PkB wx (b + 1) z0 z1 z2 z3 z4 z5 z6) :
    (results Tryz.f128 tmps).run Tryz.prog (set7 ((wx.setCell ⟨b, 5, none⟩ v5).setCell ⟨b, 6, none⟩ (.string s)) (b + 1) (.int .i64 o) (.int .i64 l) (.int .i64 k) (.int .i64 z) (.int .i64 h) u5 (.string s)) =
      .ok (.agg #[.int .i64 o, .int .i64 l, .int .i64 k, .int .i64 z, .int .i64 h, u5, .string s]) (set7 ((wx.setCell ⟨b, 5, none⟩ v5).setCell ⟨b, 6, none⟩ (.string s)) (b + 1) (.int .i64 o) (.int .i64 l) (.int .i64 k) (.int .i64 z) (.int .i64 h) u5 (.string s)) := by
  have hk := ((hq.other (a := ⟨b, 5, none⟩) (Nat.succ_ne_self b) v5).other (a := ⟨b, 6, none⟩) (Nat.succ_ne_self b) (.string s)).sets (.int .i64 o) (.int .i64 l) (.int .i64 k) (.int .i64 z) (.int .i64 h) u5 (.string s)
  obtain ⟨r0, r1, r2, r3, r4, r5, r6⟩ := hk.at
  have ht' : tmps[2]?.getD undef = .pointer (some ⟨b + 1, 0, none⟩) := by simpa using ht
  generalize set7 ((wx.setCell ⟨b, 5, none⟩ v5).setCell ⟨b, 6, none⟩ (.string s)) (b + 1) (.int .i64 o) (.int .i64 l) (.int .i64 k) (.int .i64 z) (.int .i64 h) u5 (.string s) = X at *
  simp [results, Tryz.results128, go_sem, ht', r0, r1, r2, r3, r4, r5, r6]
theorem bcopy_own {w wx : World} {a2 : Option Addr} {n c2 : Nat} {xs : List Nat} {o l k z h : Int} {s : ByteArray} (ho : Own wx (w.heap.size + 2) (.slice a2 n c2) xs) (hb : Below w.heap.size w wx) :
    Own (set7 ((wx.setCell ⟨w.heap.size, 5, none⟩ (.slice a2 n c2)).setCell ⟨w.heap.size, 6, none⟩ (.string s)) (w.heap.size + 1) (.int .i64 o) (.int .i64 l) (.int .i64 k) (.int .i64 z) (.int .i64 h) (.slice a2 n c2) (.string s)) w.heap.size (.slice a2 n c2) xs ∧
      Below w.heap.size w (set7 ((wx.setCell ⟨w.heap.size, 5, none⟩ (.slice a2 n c2)).setCell ⟨w.heap.size, 6, none⟩ (.string s)) (w.heap.size + 1) (.int .i64 o) (.int .i64 l) (.int .i64 k) (.int .i64 z) (.int .i64 h) (.slice a2 n c2) (.string s)) :=
  ⟨(((ho.other 5 _ (by omega)).other 6 _ (by omega)).setB7 (by omega) _ _ _ _ _ _ _).mono (Nat.le_add_right _ _), below7 ((hb.setCell (p := ⟨w.heap.size, 5, none⟩) (Nat.le_refl _) _).setCell (p := ⟨w.heap.size, 6, none⟩) (Nat.le_refl _) _) (Nat.le_succ _) _ _ _ _ _ _ _⟩
set_option maxHeartbeats 2000000 in
theorem bcopy_any (p : PKV) (w : World) (h : RowAt w p.r.a p.r.n p.r.xs) (hn : p.r.n ≤ 1048576) (hs : p.r.s.size ≤ 1048576) :
    Calls Tryz.prog 128 #[p.val] w fun e w' => ∃ a2 c2, e = .returned (PKV.val ⟨p.o, p.l, p.k, p.z, p.h, ⟨a2, p.r.n, c2, p.r.xs, p.r.s⟩⟩) ∧ Own w' w.heap.size (.slice a2 p.r.n c2) p.r.xs ∧ Below w.heap.size w w' := by
  obtain ⟨o, l, k, z, hp, a, n, c, xs, s⟩ := p
  unfold PKV.val
  dsimp only at h hn hs ⊢
  have hx1 := (pkb_new w (.int .i64 o) (.int .i64 l) (.int .i64 k) (.int .i64 z) (.int .i64 hp) (.slice a n c) (.string s)).below ((Below.refl _ _).alloc (Nat.le_refl _) (.cells #[.int .i64 0, .int .i64 0, .int .i64 0, .int .i64 0, .int .i64 0, .slice none 0 0, .string ⟨#[]⟩] 42))
  have hx2 := pkb_new (w.alloc (.cells #[.int .i64 o, .int .i64 l, .int .i64 k, .int .i64 z, .int .i64 hp, .slice a n c, .string s] 42)) (.int .i64 0) (.int .i64 0) (.int .i64 0) (.int .i64 0) (.int .i64 0) (.slice none 0 0) (.string ⟨#[]⟩)
  rw [alloc_size] at hx2
  have hb0 : Below w.heap.size w ((w.alloc (.cells #[.int .i64 o, .int .i64 l, .int .i64 k, .int .i64 z, .int .i64 hp, .slice a n c, .string s] 42)).alloc (.cells #[.int .i64 0, .int .i64 0, .int .i64 0, .int .i64 0, .int .i64 0, .slice none 0 0, .string ⟨#[]⟩] 42)) := below2 (Below.refl _ w) (Below.refl _ _)
  have hsz : ((w.alloc (.cells #[.int .i64 o, .int .i64 l, .int .i64 k, .int .i64 z, .int .i64 hp, .slice a n c, .string s] 42)).alloc (.cells #[.int .i64 0, .int .i64 0, .int .i64 0, .int .i64 0, .int .i64 0, .slice none 0 0, .string ⟨#[]⟩] 42)).heap.size = w.heap.size + 2 := by rw [alloc_size, alloc_size]
  have hr := h.below hb0
  have hnn := h.1
  generalize hW : (w.alloc (.cells #[.int .i64 o, .int .i64 l, .int .i64 k, .int .i64 z, .int .i64 hp, .slice a n c, .string s] 42)).alloc (.cells #[.int .i64 0, .int .i64 0, .int .i64 0, .int .i64 0, .int .i64 0, .slice none 0 0, .string ⟨#[]⟩] 42) = W at *
  have HCL := hide (fun wx (hb : Below W.heap.size W wx) => clone_any a n c xs wx (hr.below hb) (by omega))
  have HSC := hide (fun wx => sclone_any s wx hs)
  have HQ := hide (fun wx (hb : Below W.heap.size W wx) => show _ ∧ _ from ⟨hx1.below hb, hx2.below hb⟩)
  have HB0 := hide hb0
  have HN := hide hnn
  have HZ := hide hsz
  obtain ⟨-, -, -, -, -, c5, c6⟩ := hx1.at
  clear h hr hx1 hx2 hb0 hnn hsz
  go_enter Tryz.func128, Tryz.ntmps128
  go_wp2_with fail
  go_region_law (first
    | (go_simp; go_at_call 76; refine (unhide HCL _ (by first | exact unhide D2 | exact (Below.refl _ _).drew)).mono ?_; rintro e w1 ⟨v1, rfl, ho1, hb1⟩; obtain ⟨a2, c2, rfl, -⟩ := ho1.row; have D1 := hide (show Below W.heap.size W w1 from below0 (by first | exact unhide D2 | exact (Below.refl _ _).drew) hb1); rw [unhide HN] at ho1 ⊢; have HO1 := hide (ho1.mono (B' := w.heap.size + 2) (by rw [← unhide HZ]; first | exact (unhide D2).size | exact Nat.le_refl _)); obtain ⟨⟨q0, q1, q2, q3, q4, q5, q6⟩, ⟨y0, y1, y2, y3, y4, y5, y6⟩⟩ := And.intro (unhide HQ w1 (unhide D1)).1.at (unhide HQ w1 (unhide D1)).2.at; have f5 := (unhide HQ w1 (unhide D1)).1.frz 5; have f6 := (unhide HQ w1 (unhide D1)).1.frz 6; have gz := (unhide HQ w1 (unhide D1)).2.frz; clear ho1 hb1)
    | (go_simp; go_at_call 132; refine (unhide HSC _).mono ?_; rintro e w2 ⟨rfl, hb2⟩; have D2 := hide (show Below W.heap.size W w2 from below0 (by first | exact unhide D1 | exact (Below.refl _ _).drew) hb2); (first | (have HO1 := hide ((unhide HO1).below hb2)) | skip); obtain ⟨⟨q0, q1, q2, q3, q4, q5, q6⟩, ⟨y0, y1, y2, y3, y4, y5, y6⟩⟩ := And.intro (unhide HQ w2 (unhide D2)).1.at (unhide HQ w2 (unhide D2)).2.at; have f5 := (unhide HQ w2 (unhide D2)).1.frz 5; have f6 := (unhide HQ w2 (unhide D2)).1.frz 6; have gz := (unhide HQ w2 (unhide D2)).2.frz; clear hb2)
    | fail)
  all_goals go_wp2
  all_goals first
    | exact bodyPost_ret (bcopy_res (wx := w2) rfl (unhide HQ w2 (unhide D2)).2) rfl ⟨a2, c2, rfl, bcopy_own (unhide HO1) (below0 (unhide HB0) (unhide D2))⟩
    | exact bodyPost_ret (bcopy_res (wx := w1) rfl (unhide HQ w1 (unhide D1)).2) rfl ⟨a2, c2, rfl, bcopy_own (unhide HO1) (below0 (unhide HB0) (unhide D1))⟩
end Go.Proofs.YtbcgiodgobmkaaaGreatDoor
