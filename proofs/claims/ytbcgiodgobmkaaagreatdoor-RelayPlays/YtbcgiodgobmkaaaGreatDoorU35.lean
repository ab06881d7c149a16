/-
  A relay in memory ('RlAt'): its block and the buffer's behind an interface. No condition.
  Contracts of relay.New, Put, Crash, Inc, Kept, Rank.
-/
import Derived.Test.YtbcgiodgobmkaaaGreatDoorU23
import Derived.Test.YtbcgiodgobmkaaaGreatDoorU33
import Derived.Test.YtbcgiodgobmkaaaGreatDoorDA
namespace Go.Proofs.YtbcgiodgobmkaaaGreatDoor
open Go.RowKit Go.Sort
set_option linter.unusedVariables false
set_option linter.unusedSimpArgs false
set_option maxRecDepth 4000

/-- The cells of a relay: the buffer behind an interface, the target, the incarnation. -/
def rlC (gb : Nat) (t i : Int) : List Value := [.iface 60 (.pointer (some ⟨gb, 0, none⟩)), .int .i64 t, .int .i64 i]
/-- What a relay is at. -/
def rlF (g gb : Nat) (v : Value) (k : Nat) : Prop := k = g ∨ bfF gb v k
/-- A relay at block g, its buffer of at most m packets at gb: target t, incarnation i, it keeps ps in v; all of it lies at B or behind. -/
structure RlAt (w : World) (g gb B m : Nat) (t i : Int) (v : Value) (ps : List PKV) : Prop where
  blk : BkA 65 w g (rlC gb t i)
  lo : B ≤ g
  buf : BfAt w gb B m v ps
theorem RlAt.below {w w' : World} {g gb B m : Nat} {t i : Int} {v : Value} {ps : List PKV} (h : RlAt w g gb B m t i v ps) (hb : Below w.heap.size w w') : RlAt w' g gb B m t i v ps := ⟨h.blk.below hb, h.lo, h.buf.below hb⟩
theorem RlAt.mono {w : World} {g gb B B' m : Nat} {t i : Int} {v : Value} {ps : List PKV} (h : RlAt w g gb B m t i v ps) (hB : B' ≤ B) : RlAt w g gb B' m t i v ps := ⟨h.blk, Nat.le_trans hB h.lo, h.buf.mono hB⟩
theorem RlAt.lt {w : World} {g gb B m : Nat} {t i : Int} {v : Value} {ps : List PKV} (h : RlAt w g gb B m t i v ps) : g < w.heap.size := h.blk.lt
theorem RlAt.lob {w : World} {g gb B m : Nat} {t i : Int} {v : Value} {ps : List PKV} (h : RlAt w g gb B m t i v ps) : B ≤ w.heap.size := h.buf.lob
theorem RlAt.cells {w : World} {g gb B m : Nat} {t i : Int} {v : Value} {ps : List PKV} (h : RlAt w g gb B m t i v ps) : w.cell? ⟨g, 0, none⟩ = some (.iface 60 (.pointer (some ⟨gb, 0, none⟩))) ∧ w.cell? ⟨g, 1, none⟩ = some (.int .i64 t) ∧ w.cell? ⟨g, 2, none⟩ = some (.int .i64 i) :=
  ⟨h.blk.at 0 rfl, h.blk.at 1 rfl, h.blk.at 2 rfl⟩
/-- The relay's block is none of its buffer's. -/
theorem RlAt.out {w : World} {g gb B m : Nat} {t i : Int} {v : Value} {ps : List PKV} (h : RlAt w g gb B m t i v ps) : ¬ bfF gb v g := fun hf => by
  rcases hf with e | e
  · exact h.blk.ne h.buf.blk (by decide) e
  · exact h.blk.neP h.buf.own (by decide) e
theorem RlAt.low {w : World} {g gb B m : Nat} {t i : Int} {v : Value} {ps : List PKV} (h : RlAt w g gb B m t i v ps) : ∀ j, j < B → ¬ rlF g gb v j := fun j hj hf => by
  rcases hf with rfl | hf
  · have := h.lo; omega
  · exact h.buf.low j hj hf
theorem RlAt.words {w : World} {g gb B m : Nat} {t i : Int} {v : Value} {ps : List PKV} (h : RlAt w g gb B m t i v ps) : ∀ j cur, w.heap[j]? = some (.cells cur 59 (0, 0)) → ¬ rlF g gb v j := fun j cur hc hf => by
  rcases hf with rfl | hf
  · exact h.blk.ne hc (by decide) rfl
  · exact h.buf.words j cur hc hf
theorem RlAt.keeps {w w' : World} {g gb B m : Nat} {t i : Int} {v : Value} {ps : List PKV} (h : RlAt w g gb B m t i v ps) (ht : Tu (rlF g gb v) w w') : Below B w w' := ht.below h.lob h.low
theorem RlAt.step {w0 w w' : World} {g gb B m : Nat} {t i : Int} {v : Value} {ps : List PKV} (h : RlAt w g gb B m t i v ps) (hb : Below B w0 w) (ht : Tu (rlF g gb v) w w') : Below B w0 w' := hb.trans (h.keeps ht)
theorem RlAt.tu {F : Nat → Prop} {w w' : World} {g gb B m : Nat} {t i : Int} {v : Value} {ps : List PKV} (h : RlAt w g gb B m t i v ps) (ht : Tu F w w') (hs : ∀ j, rlF g gb v j → ¬ F j) (hw : ∀ j cur, w.heap[j]? = some (.cells cur 59 (0, 0)) → ¬ F j) : RlAt w' g gb B m t i v ps :=
  ⟨h.blk.tu ht (hs g (.inl rfl)), h.lo, h.buf.tu ht (fun j hj => hs j (.inr hj)) hw⟩
theorem tuR {w w' : World} {g gb : Nat} {v : Value} (h : Tu (bfF gb v) w w') : Tu (rlF g gb v) w w' := (Tu.refl (rlF g gb v) w).trans h fun _ _ e => .inr e
/-- The buffer has turned, the relay's own block has not. -/
theorem RlAt.bufs {w w' : World} {g gb B m : Nat} {t i : Int} {v v' : Value} {ps ps' : List PKV} (h : RlAt w g gb B m t i v ps) (hd : BfAt w' gb B m v' ps') (ht : Tu (bfF gb v) w w') : RlAt w' g gb B m t i v' ps' :=
  ⟨h.blk.tu ht h.out, h.lo, hd⟩
/-- .. and the incarnation is written. -/
theorem RlAt.inc {w : World} {g gb B m : Nat} {t i : Int} {v : Value} {ps : List PKV} (h : RlAt w g gb B m t i v ps) (i' : Int) : RlAt (w.setCell ⟨g, 2, none⟩ (.int .i64 i')) g gb B m t i' v ps ∧ Tu (fun j => j = g) w (w.setCell ⟨g, 2, none⟩ (.int .i64 i')) := by
  have hs := tu_set w g 2 (.int .i64 i')
  exact ⟨⟨h.blk.set 2 _, h.lo, h.buf.tu hs (fun j hj e => h.out (e ▸ hj)) (fun j cur hc e => h.blk.ne hc (by decide) e.symm)⟩, hs⟩
theorem rl_new {w : World} {gb B m : Nat} {v : Value} {ps : List PKV} (t : Int) (h : BfAt w gb B m v ps) : RlAt (w.alloc (.cells #[.iface 60 (.pointer (some ⟨gb, 0, none⟩)), .int .i64 t, .int .i64 0] 65)) w.heap.size gb B m t 0 v ps :=
  ⟨bkA_new 65 w (rlC gb t 0), h.lob, h.below ((Below.refl _ _).alloc (Nat.le_refl _) _)⟩
/-- Draws are none of a relay's blocks. -/
theorem RlAt.apart {w : World} {g gb B m : Nat} {t i : Int} {v : Value} {ps : List PKV} {T : TypeId} {gd : Nat} {u0 u1 : Value} (h : RlAt w g gb B m t i v ps) (hd : Bk2 T w gd u0 u1) (h1 : T ≠ 65) (h2 : T ≠ 87) (h3 : T ≠ 42) : ¬ rlF g gb v gd := fun hf => by
  rcases hf with e | e | e
  · exact h.blk.ne hd (Ne.symm h1) e.symm
  · exact h.buf.blk.ne hd (Ne.symm h2) e.symm
  · obtain ⟨cur, hc⟩ := h.buf.own.blk e
    unfold Bk2 at hd
    rw [hc] at hd
    simp only [Option.some.injEq, Obj.cells.injEq] at hd
    exact h3 hd.2.1.symm
/-- A relay stands where a block of draws turns. -/
theorem RlAt.drawn {w w' : World} {g gb B m : Nat} {t i : Int} {v : Value} {ps : List PKV} {T : TypeId} {gd : Nat} {u0 u1 : Value} (h : RlAt w g gb B m t i v ps) (hd : Bk2 T w gd u0 u1) (h1 : T ≠ 65) (h2 : T ≠ 87) (h3 : T ≠ 42) (h4 : T ≠ 59) (hg : w.grownBy w' (some gd)) : RlAt w' g gb B m t i v ps :=
  h.tu (Tu.of_gb (F := fun j => j = gd) hg fun j _ e => (Option.some.inj e).symm) (fun j hj e => h.apart hd h1 h2 h3 (e ▸ hj)) fun j cur hc e => by
    subst e
    unfold Bk2 at hd
    rw [hc] at hd
    simp only [Option.some.injEq, Obj.cells.injEq] at hd
    exact h4 hd.2.1.symm
end Go.Proofs.YtbcgiodgobmkaaaGreatDoor
namespace Go.Proofs.YtbcgiodgobmkaaaGreatDoor
open Go.RowKit Go.Sort
set_option linter.unusedVariables false
set_option linter.unusedSimpArgs false
set_option maxRecDepth 4000

theorem eq_kept (a : Addr) (w : World) : (binOp .eql 63 (.iface 60 (.pointer (some a))) .nilIface).run Tryz.prog w = .ok (.bool false) w := by kernel_rfl
theorem mk_kept (x : Value) (w : World) : (Instr.makeInterface 60 x).run Tryz.prog w = .ok (.iface 60 x) w := run_makeInterface w 60 x (by kernel_rfl)
theorem meth_len (a : Addr) (w : World) : (method 280 60 (.pointer (some a)) "Len").run Tryz.prog w = .ok (126, .pointer (some a)) w := by kernel_rfl
theorem meth_put (a : Addr) (w : World) : (method 280 60 (.pointer (some a)) "Put").run Tryz.prog w = .ok (127, .pointer (some a)) w := by kernel_rfl
theorem meth_all (a : Addr) (w : World) : (method 280 60 (.pointer (some a)) "All").run Tryz.prog w = .ok (124, .pointer (some a)) w := by kernel_rfl
theorem meth_clear (a : Addr) (w : World) : (method 280 60 (.pointer (some a)) "Clear").run Tryz.prog w = .ok (125, .pointer (some a)) w := by kernel_rfl

theorem rlnone_any (g gb B m : Nat) (t i : Int) (v : Value) (ps : List PKV) (w : World) (h : RlAt w g gb B m t i v ps) :
    Calls Tryz.prog 35 #[.pointer (some ⟨g, 0, none⟩)] w fun e w' => e = .returned (.bool false) ∧ w' = w := by
  obtain ⟨h0, h1, h2⟩ := h.cells
  have he := eq_kept ⟨gb, 0, none⟩
  clear h
  go_enter Tryz.func35, Tryz.ntmps35
  go_wp2
  go_ret
  exact ⟨rfl, rfl⟩
theorem rlnew_any (n t : Int) (w : World) :
    Calls Tryz.prog 7 #[.int .i64 n, .int .i64 t] w fun e w' => ∃ g gb, e = .returned (.pointer (some ⟨g, 0, none⟩)) ∧ RlAt w' g gb w.heap.size (capN n) (clampT t) 0 (.slice none 0 0) [] ∧ Below w.heap.size w w' := by
  have hmx := max_runZ t (-1099511627776)
  have hmn := min_runZ (max t (-1099511627776)) 1099511627776
  have hmk := mk_kept
  have hcl : min (max t (-1099511627776)) 1099511627776 = clampT t := rfl
  rw [hcl] at hmn
  clear hcl
  generalize max t (-1099511627776) = t1 at *
  go_enter Tryz.func7, Tryz.ntmps7
  go_wp2_with (go_at_call 23; refine (bunew_any n _).mono ?_; rintro e w1 ⟨rfl, hd1, hb1⟩; have HD1 := hide hd1; have HB1 := hide hb1; clear hd1 hb1)
  go_ret
  exact ⟨_, _, rfl, rl_new _ (unhide HD1), (unhide HB1).alloc (unhide HB1).size _⟩
theorem rlkept_any (g gb B m : Nat) (t i : Int) (v : Value) (ps : List PKV) (w : World) (h : RlAt w g gb B m t i v ps) :
    Calls Tryz.prog 16 #[.pointer (some ⟨g, 0, none⟩)] w fun e w' => e = .returned (.int .i64 (ps.length : Int)) ∧ w' = w := by
  obtain ⟨h0, h1, h2⟩ := h.cells
  have hme := meth_len ⟨gb, 0, none⟩
  have HN := hide (rlnone_any g gb B m t i v ps w h)
  have HL := hide (bulen_any gb B m v ps w h.buf)
  clear h
  go_enter Tryz.func16, Tryz.ntmps16
  go_wp2_with (first
    | (go_at_call 35; refine (unhide HN).mono ?_; rintro e w1 ⟨rfl, hw1⟩; obtain rfl := hw1.symm; clear hw1)
    | (go_at_call 126; refine (unhide HL).mono ?_; rintro e w1 ⟨rfl, hw1⟩; obtain rfl := hw1.symm; clear hw1))
  go_ret
  exact ⟨rfl, rfl⟩
theorem rlrank_any (g gb B m : Nat) (t i : Int) (v : Value) (ps : List PKV) (w : World) (h : RlAt w g gb B m t i v ps) :
    Calls Tryz.prog 17 #[.pointer (some ⟨g, 0, none⟩)] w fun e w' => e = .returned (.int .i64 (ps.length : Int)) ∧ w' = w := by
  have HK := hide (rlkept_any g gb B m t i v ps w h)
  clear h
  go_enter Tryz.func17, Tryz.ntmps17
  go_wp2_with (go_at_call 16; refine (unhide HK).mono ?_; rintro e w1 ⟨rfl, hw1⟩; obtain rfl := hw1.symm; clear hw1)
  go_ret
  exact ⟨rfl, rfl⟩
theorem rlinc_any (g gb B m : Nat) (t i : Int) (v : Value) (ps : List PKV) (w : World) (h : RlAt w g gb B m t i v ps) :
    Calls Tryz.prog 18 #[.pointer (some ⟨g, 0, none⟩)] w fun e w' => e = .returned (.int .i64 i) ∧ w' = w := by
  obtain ⟨h0, h1, h2⟩ := h.cells
  have HN := hide (rlnone_any g gb B m t i v ps w h)
  clear h
  go_enter Tryz.func18, Tryz.ntmps18
  go_wp2_with (go_at_call 35; refine (unhide HN).mono ?_; rintro e w1 ⟨rfl, hw1⟩; obtain rfl := hw1.symm; clear hw1)
  go_ret
  exact ⟨rfl, rfl⟩
theorem rlcrash_any (g gb B m : Nat) (t i : Int) (v : Value) (ps : List PKV) (w : World) (h : RlAt w g gb B m t i v ps) (hi : 0 ≤ i ∧ i ≤ 1099511627776) :
    Calls Tryz.prog 13 #[.pointer (some ⟨g, 0, none⟩)] w fun e w' => e = .returned (.tuple #[]) ∧ RlAt w' g gb B m t (i + 1) (.slice none 0 0) [] ∧ Tu (rlF g gb v) w w' := by
  obtain ⟨h0, h1, h2⟩ := h.cells
  have hme := meth_clear ⟨gb, 0, none⟩
  have HN := hide (rlnone_any g gb B m t i v ps w h)
  have HL := hide (buclear_any gb B m v ps w h.buf)
  have H := hide h
  clear h
  go_enter Tryz.func13, Tryz.ntmps13
  go_wp2_with (first
    | (go_at_call 35; refine (unhide HN).mono ?_; rintro e w1 ⟨rfl, hw1⟩; obtain rfl := hw1.symm; clear hw1)
    | (go_at_call 125; refine (unhide HL).mono ?_; rintro e w1 ⟨rfl, hd1, ht1⟩; have h1 := (unhide H).bufs hd1 ht1; have H1 := hide h1; have HT1 := hide ht1; obtain ⟨k0, k1, k2⟩ := h1.cells; have kf := h1.blk.frz 2; clear h1 hd1 ht1))
  obtain ⟨r1, r2⟩ := (unhide H1).inc (i + 1)
  go_end0
  exact ⟨rfl, r1, (tuR (g := g) (unhide HT1)).trans r2 fun j _ e => .inl e⟩
/-- What a put leaves. -/
def PutL (w w' : World) (g gb B m : Nat) (t i : Int) (v : Value) (ps : List PKV) (p : PKV) (e : Ending) : Prop :=
  e = .returned (.bool (takeD m (ps.map PKV.pd) p.pd)) ∧ ∃ v' ps', RlAt w' g gb B m t i v' ps' ∧ ps'.map PKV.pd = bput m (ps.map PKV.pd) p.pd ∧ Tu (rlF g gb v) w w' ∧ MvB w v v'
set_option maxHeartbeats 4000000 in
theorem rlput_any (g gb B m : Nat) (t i : Int) (v : Value) (ps : List PKV) (p : PKV) (w : World) (ht : Tab w) (h : RlAt w g gb B m t i v ps) (hr : ∀ w', Tu (rlF g gb v) w w' → RowAt w' p.r.a p.r.n p.r.xs) (hn : p.r.n ≤ 10) (hs : p.r.s.size ≤ 1000) :
    Calls Tryz.prog 15 #[.pointer (some ⟨g, 0, none⟩), p.val] w fun e w' => PutL w w' g gb B m t i v ps p e := by
  have hb0 := pk_low w p
  have hx : BkA 42 (w.alloc (.cells #[.int .i64 p.o, .int .i64 p.l, .int .i64 p.k, .int .i64 p.z, .int .i64 p.h, .slice p.r.a p.r.n p.r.c, .string p.r.s] 42)) w.heap.size p.cells := bkA_new 42 w p.cells
  have hgw := h.buf.lt
  have HNB : Hid (¬ bfF gb v w.heap.size) := hide fun hf => by
    rcases hf with e | e
    · omega
    · have := (World.ownsRow.lt h.buf.own _ e).2; omega
  unfold PKV.val
  generalize hW : w.alloc (.cells #[.int .i64 p.o, .int .i64 p.l, .int .i64 p.k, .int .i64 p.z, .int .i64 p.h, .slice p.r.a p.r.n p.r.c, .string p.r.s] 42) = W at *
  have HNO := hide (fun wx (hb : Below W.heap.size W wx) => rlnone_any g gb B m t i v ps wx ((h.below hb0).below hb))
  have HPU := fun wx (hb : Below W.heap.size W wx) => buput_any gb B m v ps p wx ((ht.below hb0).below hb) ((h.below hb0).below hb).buf (fun w' htu => hr w' ((tuR htu).after (below0 hb0 hb))) hn hs
  unfold PKV.val at HPU
  have HPB := hide HPU
  have HRL := hide (fun wx (hb : Below W.heap.size W wx) => (h.below hb0).below hb)
  have HX := hide hx
  have HB0 := hide hb0
  have hme := meth_put ⟨gb, 0, none⟩
  obtain ⟨c0, -, -⟩ := (h.below hb0).cells
  obtain ⟨q0, q1, q2, q3, q4, q5, q6⟩ : PkAt W w.heap.size (.int .i64 p.o) (.int .i64 p.l) (.int .i64 p.k) (.int .i64 p.z) (.int .i64 p.h) (.slice p.r.a p.r.n p.r.c) (.string p.r.s) := ⟨hx.at 0 rfl, hx.at 1 rfl, hx.at 2 rfl, hx.at 3 rfl, hx.at 4 rfl, hx.at 5 rfl, hx.at 6 rfl⟩
  clear h hx hb0 hr ht HPU
  go_enter Tryz.func15, Tryz.ntmps15
  go_wp2_with fail
  go_region_held3 (fun w' => w'.cell? ⟨g, 0, none⟩ = some (.iface 60 (.pointer (some ⟨gb, 0, none⟩))) ∧ w'.cell? ⟨w.heap.size, 0, none⟩ = some (.int .i64 p.o) ∧ w'.cell? ⟨w.heap.size, 1, none⟩ = some (.int .i64 p.l) ∧ w'.cell? ⟨w.heap.size, 2, none⟩ = some (.int .i64 p.k) ∧ w'.cell? ⟨w.heap.size, 3, none⟩ = some (.int .i64 p.z) ∧ w'.cell? ⟨w.heap.size, 4, none⟩ = some (.int .i64 p.h) ∧ w'.cell? ⟨w.heap.size, 5, none⟩ = some (.slice p.r.a p.r.n p.r.c) ∧ w'.cell? ⟨w.heap.size, 6, none⟩ = some (.string p.r.s)) (go_keep) (first
    | (go_at_call 35; refine (unhide HNO _ (Below.refl _ _).drew).mono ?_; rintro e w1 ⟨rfl, hw1⟩; obtain rfl := hw1.symm; clear hw1)
    | (go_at_call 127; refine (unhide HPB _ (Below.refl _ _).drew).mono ?_; rintro e w2 ⟨rfl, v2, ps2, hd2, hp2, ht2, hm2⟩; have hl2 := (unhide HRL _ (Below.refl _ _).drew).bufs hd2 ht2; have HL2 := hide hl2; have HP2 := hide hp2; have HT2 := hide ht2; have HM2 := hide hm2; obtain ⟨e0, -, -⟩ := hl2.cells; have hk := ((unhide HX).below (Below.refl _ _).drew).tu ht2 (unhide HNB); obtain ⟨y0, y1, y2, y3, y4, y5, y6⟩ : PkAt w2 w.heap.size (.int .i64 p.o) (.int .i64 p.l) (.int .i64 p.k) (.int .i64 p.z) (.int .i64 p.h) (.slice p.r.a p.r.n p.r.c) (.string p.r.s) := ⟨hk.at 0 rfl, hk.at 1 rfl, hk.at 2 rfl, hk.at 3 rfl, hk.at 4 rfl, hk.at 5 rfl, hk.at 6 rfl⟩; clear hl2 hp2 ht2 hm2 hk hd2))
  go_wp2
  go_ret
  exact ⟨rfl, v2, ps2, unhide HL2, unhide HP2, (tuR (unhide HT2)).after (below0 (unhide HB0) (Below.refl _ _).drew), (unhide HM2).new (unhide HB0).size⟩
end Go.Proofs.YtbcgiodgobmkaaaGreatDoor
