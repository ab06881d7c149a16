/-
  Packets that came in and a buffer that turns; two buffers side by side; a buffer and the reference's packets. No condition.
-/
import Derived.Test.YtmdmipojbeppiaaGreatDoorUL
import Derived.Test.YtmdmipojbeppiaaGreatDoorM13
namespace Go.Proofs.YtmdmipojbeppiaaGreatDoor
open Go.RowKit Go.Sort
set_option linter.unusedVariables false
set_option maxRecDepth 4000

theorem own_lit (w : World) (x : Nat) (hx : x < 18446744073709551616) : Own (w.alloc (.cells #[.int .u64 (x : Int)] 65)) w.heap.size (.slice (some ⟨w.heap.size, 0, none⟩) 1 1) [x] := by
  refine ⟨fun y hy => by rw [List.mem_singleton.1 hy]; exact hx, ⟨rfl, .inr ⟨w.heap.size, 1, #[.int .u64 (x : Int)], rfl, Nat.le_refl _, heap_alloc_new w _, Nat.le_refl 1, by decide, rfl, rfl⟩⟩⟩
/-- The row of a packet of one's own stands where a buffer turns. -/
theorem own_row_tu {w : World} {g B m B2 : Nat} {v : Value} {ps : List PKV} {a : Option Addr} {n c : Nat} {xs : List Nat} (h : BfAt w g B m v ps) (ho : Own w B2 (.slice a n c) xs) : ∀ w', Tu (bfF g v) w w' → RowAt w' a n xs := fun w' ht => by
  have h1 := ho.tu ht fun j hj => by
    obtain ⟨cur, hc⟩ := ho.blkU hj
    exact h.words j cur hc
  obtain ⟨a', c', e, hr⟩ := h1.row
  simp only [Value.slice.injEq] at e
  rw [e.1, e.2.1]
  exact hr
/-- What came in can be read in whatever world is as it was below. -/
theorem PksAt.oldk {W w : World} {a : Option Addr} {n : Nat} {ps : List PKV} (h : PksAt W a n ps) (hb : Below W.heap.size W w) {i : Nat} (hi : i < n) : ∃ b off, a = some ⟨b, off, none⟩ ∧ PkCells w b (off + i * 7) (ps.getD i .dflt) ∧ RowAt w (ps.getD i .dflt).r.a (ps.getD i .dflt).r.n (ps.getD i .dflt).r.xs := by
  obtain ⟨b, off, e, hc⟩ := (h.below hb).at hi
  exact ⟨b, off, e, hc i hi, (h.below hb).2.1 i hi⟩
/-- Put of a packet that came in, in a buffer that lies behind all that came in. -/
theorem buput_in {W w : World} {g m : Nat} {v : Value} {ps : List PKV} (ht : Tab W) (h : BfAt w g W.heap.size m v ps) (hb : Below W.heap.size W w) (p : PKV) (hr : RowAt W p.r.a p.r.n p.r.xs) (hn : p.r.n ≤ 10) (hs : p.r.s.size ≤ 1000) :
    Calls Tryz.prog 130 #[.pointer (some ⟨g, 0, none⟩), .agg #[.int .i64 p.o, .int .i64 p.l, .int .i64 p.k, .int .i64 p.z, .int .i64 p.h, .slice p.r.a p.r.n p.r.c, .string p.r.s]] w fun e w' => PutB w w' g W.heap.size m v ps p e :=
  buput_any g W.heap.size m v ps p w (ht.below hb) h (fun w' htu => hr.below (h.step hb htu)) hn hs
theorem PksAt.front {w : World} {a : Option Addr} {n : Nat} {ps : List PKV} (h : PksAt w a n ps) {k : Nat} (hk : k ≤ n) : PksAt w a k (ps.take k) := by
  have hl := h.1
  have e : ∀ i, i < k → (ps.take k).getD i .dflt = ps.getD i .dflt := fun i hi => by
    rw [List.getD_eq_getElem?_getD, List.getD_eq_getElem?_getD, List.getElem?_take, if_pos hi]
  refine ⟨by rw [List.length_take]; omega, fun i hi => by rw [e i hi]; exact h.2.1 i (by omega), ?_⟩
  rcases h.2.2 with h0 | ⟨b, off, ea, hc⟩
  · exact .inl (by omega)
  · exact .inr ⟨b, off, ea, fun i hi => by rw [e i hi]; exact hc i (by omega)⟩
theorem shortK_of {w : World} {a : Option Addr} {n m : Nat} {ps : List PKV} {L : List PD} (h : PksAt w a n ps) (he : ps.map PKV.pd = L) (hi : BInv m L) : shortK ps := fun i hlt => by
  have h1 := (hi.get (i := i) (by rw [← he, List.length_map]; exact hlt)).1
  rw [← he, pdGet hlt] at h1
  have h2 := okD_len h1
  have h3 := (h.2.1 i (by rw [← h.1]; exact hlt)).1
  have h4 : (ps.getD i .dflt).r.xs.length ≤ 2 := h2
  omega
/-- Two buffers that share nothing. -/
structure TwoB (w : World) (ga gb B m : Nat) (va vb : Value) (ps qs : List PKV) : Prop where
  a : BfAt w ga B m va ps
  b : BfAt w gb B m vb qs
  ne : ga ≠ gb
  sep : ∀ j, va.ownBlock = some j → vb.ownBlock ≠ some j
theorem TwoB.swap {w : World} {ga gb B m : Nat} {va vb : Value} {ps qs : List PKV} (h : TwoB w ga gb B m va vb ps qs) : TwoB w gb ga B m vb va qs ps := ⟨h.b, h.a, h.ne.symm, fun j hj e => h.sep j e hj⟩
theorem TwoB.below {w w' : World} {ga gb B m : Nat} {va vb : Value} {ps qs : List PKV} (h : TwoB w ga gb B m va vb ps qs) (hb : Below w.heap.size w w') : TwoB w' ga gb B m va vb ps qs := ⟨h.a.below hb, h.b.below hb, h.ne, h.sep⟩
theorem TwoB.left {w w' : World} {ga gb B m : Nat} {va vb va' : Value} {ps qs ps' : List PKV} (h : TwoB w ga gb B m va vb ps qs) (hd : BfAt w' ga B m va' ps') (ht : Tu (bfF ga va) w w') (hm : MvB w va va') : TwoB w' ga gb B m va' vb ps' qs := by
  refine ⟨hd, h.b.tu ht (fun j hj hf => ?_) h.a.words, h.ne, fun j hj e => ?_⟩
  · rcases hj with rfl | hj <;> rcases hf with hf | hf
    · exact h.ne hf.symm
    · exact h.b.blk.neP h.a.own (by decide) hf
    · exact h.a.blk.neP h.b.own (by decide) (hf ▸ hj)
    · exact h.sep j hf hj
  · rcases hm with q | q
    · exact h.sep j (q ▸ hj) e
    · have h1 := q j hj
      have h2 := (World.ownsRow.lt h.b.own j e).2
      omega
/-- A buffer and the reference's packets, which are some of those that came in. -/
structure PlB (W w : World) (g m : Nat) (v : Value) (qs : List PKV) (vc : Value) (cs ps : List PKV) : Prop where
  b : BfAt w g W.heap.size m v qs
  own : OwnP w W.heap.size vc cs
  src : ∀ q ∈ cs, q ∈ ps
  eq : qs.map PKV.pd = cs.map PKV.pd
  sep : ∀ j, v.ownBlock = some j → vc.ownBlock ≠ some j
  low : Below W.heap.size W w
/-- The reference's step: both have not yet met. -/
structure PlH (W w : World) (g m : Nat) (v : Value) (qs : List PKV) (vc : Value) (cs ps : List PKV) : Prop where
  b : BfAt w g W.heap.size m v qs
  own : OwnP w W.heap.size vc cs
  src : ∀ q ∈ cs, q ∈ ps
  sep : ∀ j, v.ownBlock = some j → vc.ownBlock ≠ some j
  low : Below W.heap.size W w
theorem PlB.half {W w : World} {g m : Nat} {v : Value} {qs : List PKV} {vc : Value} {cs ps : List PKV} (h : PlB W w g m v qs vc cs ps) : PlH W w g m v qs vc cs ps := ⟨h.b, h.own, h.src, h.sep, h.low⟩
theorem PlB.below {W w w' : World} {g m : Nat} {v : Value} {qs : List PKV} {vc : Value} {cs ps : List PKV} (h : PlB W w g m v qs vc cs ps) (hb : Below w.heap.size w w') : PlB W w' g m v qs vc cs ps := ⟨h.b.below hb, h.own.below hb, h.src, h.eq, h.sep, below0 h.low hb⟩
theorem PlB.refput {W w w' : World} {g m : Nat} {v : Value} {qs : List PKV} {vc : Value} {cs ps : List PKV} (h : PlB W w g m v qs vc cs ps) {p : PKV} (hp : p ∈ ps) {v' : Value} {cs' : List PKV} (ho : (v' = vc ∧ cs' = cs) ∨ OwnP w' w.heap.size v' cs') (hs : ∀ q ∈ cs', q ∈ cs ∨ q = p) (hb : Below w.heap.size w w') : PlH W w' g m v qs v' cs' ps := by
  refine ⟨h.b.below hb, ?_, fun q hq => ?_, fun j hj e => ?_, below0 h.low hb⟩
  · rcases ho with ⟨rfl, rfl⟩ | ho
    · exact h.own.below hb
    · exact ho.mono h.low.size
  · rcases hs q hq with e | e
    · exact h.src q e
    · rw [e]; exact hp
  · rcases ho with ⟨rfl, rfl⟩ | ho
    · exact h.sep j hj e
    · have h1 := (World.ownsRow.lt ho j e).1
      have h2 := (World.ownsRow.lt h.b.own j hj).2
      omega
theorem PlH.put {W w w' : World} {g m : Nat} {v v2 : Value} {qs qs2 : List PKV} {vc : Value} {cs ps : List PKV} (h : PlH W w g m v qs vc cs ps) (hd : BfAt w' g W.heap.size m v2 qs2) (ht : Tu (bfF g v) w w') (hm : MvB w v v2) (he : qs2.map PKV.pd = cs.map PKV.pd) : PlB W w' g m v2 qs2 vc cs ps := by
  refine ⟨hd, h.own.tu ht (fun j hj hf => ?_), h.src, he, fun j hj e => ?_, h.b.step h.low ht⟩
  · rcases hf with rfl | hf
    · exact h.b.blk.neP h.own (by decide) hj
    · exact h.sep j hf hj
  · rcases hm with q | q
    · exact h.sep j (q ▸ hj) e
    · have h1 := q j hj
      have h2 := (World.ownsRow.lt h.own j e).2
      omega
/-- What came in: rows that can be read, not too long. -/
def InP (W : World) (ps : List PKV) : Prop := ∀ q ∈ ps, RowAt W q.r.a q.r.n q.r.xs ∧ q.r.n ≤ q.r.c ∧ q.r.n ≤ 10
theorem InP.ks {W w : World} {ps cs : List PKV} (h : InP W ps) (hs : ∀ q ∈ cs, q ∈ ps) (hb : Below W.heap.size W w) : KsIn w cs := fun q hq => ⟨(h q (hs q hq)).1.below hb, (h q (hs q hq)).2.1⟩
theorem InP.short {W : World} {ps cs : List PKV} (h : InP W ps) (hs : ∀ q ∈ cs, q ∈ ps) : shortK cs := fun i hi => by
  have := (h (cs.getD i .dflt) (hs _ (by rw [List.getD_eq_getElem?_getD, List.getElem?_eq_getElem hi]; exact List.getElem_mem hi))).2.2
  omega
end Go.Proofs.YtmdmipojbeppiaaGreatDoor
