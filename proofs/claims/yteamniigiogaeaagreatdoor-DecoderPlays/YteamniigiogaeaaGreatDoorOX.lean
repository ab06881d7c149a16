/-
  The decoder and the reference's, side by side ('PlE'). No condition.
-/
import Derived.Test.YteamniigiogaeaaGreatDoorM22
namespace Go.Proofs.YteamniigiogaeaaGreatDoor
open Go.RowKit Go.Sort
set_option linter.unusedVariables false
set_option maxRecDepth 4000

/-- What is told is one. -/
theorem dput_uniq {M : Int} {s : DS} {p : PKV} {a b : ByteArray} (ha : admB s p = true → TellsP M (begS s p) (p.r.xs, p.r.s) a) (hb : admB s p = true → TellsP M (begS s p) (p.r.xs, p.r.s) b) : dput M s p a = dput M s p b := by
  cases h : admB s p
  · rw [(dput_no h).1, (dput_no h).1]
  · rw [(dput_yes h).1, (dput_yes h).1]; exact (ha h).uniq (hb h)
/-- The decoder keeps s, the reference's, in block c, s'. -/
structure PlE (W w : World) (g c : Nat) (M : Int) (s : DS) (gs : Nat) (v : Value) (rs : List RV) (s' : DS) (f : PKV) (v2 : Value) (ts : List RV) : Prop where
  dc : DcAt w g W.heap.size M s gs v rs
  cb : BkA 36 w c (rdC M s' f v2)
  lo : W.heap.size ≤ c
  rf : RfD w W.heap.size M s' f v2 ts
  src : RowsIn W ts
  sep : ∀ j, v.ownBlock = some j → v2.ownBlock ≠ some j
  low : Below W.heap.size W w
theorem PlE.below {W w w' : World} {g c : Nat} {M : Int} {s s' : DS} {gs : Nat} {v : Value} {rs : List RV} {f : PKV} {v2 : Value} {ts : List RV} (h : PlE W w g c M s gs v rs s' f v2 ts) (hb : Below w.heap.size w w') : PlE W w' g c M s gs v rs s' f v2 ts :=
  ⟨h.dc.below hb, h.cb.below hb, h.lo, h.rf.below hb, h.src, h.sep, below0 h.low hb⟩
/-- The reference has put: its new decoder is written to c. -/
theorem PlE.refd {W w w1 w2 : World} {g c : Nat} {M : Int} {s s1 : DS} {gs : Nat} {v : Value} {rs : List RV} {f f1 : PKV} {v2 v3 : Value} {ts t1 : List RV} {p : PKV} (h : PlE W w g c M s gs v rs s f v2 ts) (hb : Below w.heap.size w w1) (hrf : RfD w1 W.heap.size M s1 f1 v3 t1) (hv : v3 = v2 ∨ ∀ j, v3.ownBlock = some j → w.heap.size ≤ j) (hts : t1 = ts ∨ t1 = ts ++ [p.r]) (hr : RowAt W p.r.a p.r.n p.r.xs) (hc : p.r.n ≤ p.r.c)
    (hc2 : BkA 36 w2 c (rdC M s1 f1 v3)) (ht : Tu (fun j => j = c) w1 w2) : PlE W w2 g c M s gs v rs s1 f1 v3 t1 := by
  have h1 := h.below hb
  have hsrc : RowsIn W t1 := by
    rcases hts with rfl | rfl
    · exact h.src
    · exact h.src.append (RowsIn.one hr hc)
  have hlow : Below W.heap.size W w2 := h1.low.trans (ht.below h1.dc.lob fun j hj e => by have := h.lo; omega)
  refine ⟨h1.dc.sets h1.cb ht (by decide) (by decide) (by decide) (by decide), hc2, h.lo, ⟨hrf.al, hrf.inv, hrf.z, hrf.nil, hrf.own.tu ht (fun j hj e => h1.cb.neS hrf.own (by decide) (e ▸ hj)), hsrc.below hlow, hrf.short, hrf.co, hrf.le⟩, hsrc, fun j hj e => ?_, hlow⟩
  rcases hv with rfl | hv
  · exact h.sep j hj e
  · have h2 := hv j e
    cases hb : s.bg
    · obtain ⟨_, rfl, _⟩ := h.dc.fresh hb; cases hj
    · have := (World.ownsRow.lt (h.dc.begun hb).1.own j hj).2; omega
/-- The reference's rows are none of the decoder's blocks. -/
theorem PlE.out {W w : World} {g c : Nat} {M : Int} {s s' : DS} {gs : Nat} {v : Value} {rs : List RV} {f : PKV} {v2 : Value} {ts : List RV} (h : PlE W w g c M s gs v rs s' f v2 ts) {j : Nat} (hj : v2.ownBlock = some j) : ¬ dcF g gs v j := fun hf => by
  obtain ⟨cur, hc⟩ := h.rf.own.blk5 hj
  rcases hf with rfl | hf
  · exact h.dc.blk.ne hc (by decide) rfl
  · cases hb : s.bg
    · obtain ⟨_, rfl, rfl⟩ := h.dc.fresh hb
      rcases hf with rfl | hf
      · exact h.dc.blk.ne hc (by decide) rfl
      · cases hf
    · rcases hf with rfl | hf
      · have h2 := (h.dc.begun hb).1.blk
        unfold Bk5 at h2
        rw [h2] at hc
        simp only [Option.some.injEq, Obj.cells.injEq] at hc
        exact absurd hc.2.1 (by decide)
      · exact h.sep j hf hj
/-- The decoder has put, too. -/
theorem PlE.put {W w w' : World} {g c : Nat} {M : Int} {s s1 s' : DS} {gs gs' : Nat} {v v' : Value} {rs rs' : List RV} {f : PKV} {v2 : Value} {ts : List RV} (h : PlE W w g c M s gs v rs s' f v2 ts) (hd : DcAt w' g W.heap.size M s1 gs' v' rs') (ht : Tu (dcF g gs v) w w') (hm : Mv w gs v gs' v') : PlE W w' g c M s1 gs' v' rs' s' f v2 ts := by
  have hlow := h.dc.step h.low ht
  refine ⟨hd, h.cb.tu ht (h.dc.out h.cb (by decide) (by decide) (by decide)), h.lo, ⟨h.rf.al, h.rf.inv, h.rf.z, h.rf.nil, h.rf.own.tu ht (fun j hj => h.out hj), h.src.below hlow, h.rf.short, h.rf.co, h.rf.le⟩, h.src, fun j hj e => ?_, hlow⟩
  rcases hm.2 with q | q
  · exact h.sep j (q ▸ hj) e
  · have h1 := q j hj
    have h2 := (World.ownsRow.lt h.rf.own j e).2
    omega
theorem ple_start {W w : World} {g c : Nat} {M : Int} (hd : DcAt w g W.heap.size M zDS g (.slice none 0 0) []) (hc : BkA 36 w c (rdC M zDS zPK (.slice none 0 0))) (lo : W.heap.size ≤ c) (low : Below W.heap.size W w) : PlE W w g c M zDS g (.slice none 0 0) [] zDS zPK (.slice none 0 0) [] :=
  ⟨hd, hc, lo, ⟨(fun e => by cases e), (fun e => by cases e), (fun _ => ⟨rfl, rfl, rfl⟩), .inl ⟨rfl, rfl⟩, OwnS.nil _ _, RowsIn.nil _, short_nil, rfl, Nat.zero_le _⟩, RowsIn.nil _, (fun j hj => by cases hj), low⟩
/-- A store of the whole, as a step of a region that draws its order. -/
theorem rd_step {ops : Array Oper} {dst : Option Tmp} {typ : TypeId} {pos : String} {aft : Array Edge} {a : Act} {w : World} {K : Act → World → Prop} {Q : Exit → Act → World → Prop} {E : Prop} (x y : Tmp) (R : Nat) (cs us : List Value) (hx : a.eval (.tmp x) = .pointer (some ⟨R, 0, none⟩)) (hy : a.eval (.tmp y) = .agg us.toArray) (hb : BkA 36 w R cs) (hc : cs.length = 17) (hl : us.length = 17) (h1 : ∀ u ∈ us, u.oneCell' = true)
    (h : ∀ w', BkA 36 w' R us → Tu (fun j => j = R) w w' → K (a.put dst undef) w') :
    if Region.wanted { dst := dst, op := .store 36 (.tmp x) (.tmp y), type := typ, pos := pos, after := aft, guard := none } (yielded ops a.tmps) = true then Oper.wp Tryz.prog { dst := dst, op := .store 36 (.tmp x) (.tmp y), type := typ, pos := pos, after := aft, guard := none } a w K Q else E := by
  have hw : Region.wanted { dst := dst, op := .store 36 (.tmp x) (.tmp y), type := typ, pos := pos, after := aft, guard := none } (yielded ops a.tmps) = true := by simp [Region.wanted]
  rw [if_pos hw]
  refine wp_store_mid 36 (.tmp x) (.tmp y) rfl R 0 us.toArray hx hy (fun j hj => ?_) (by rw [List.size_toArray, hl]; exact info_rd) (all_oneCell_toArray h1) (h _ (hb.setAll (by show us.length = cs.length; omega)) (Tu.of_gb (setCells_gb R us 0 w) fun j _ e => (Option.some.inj e).symm))
  rw [List.size_toArray] at hj
  obtain ⟨u, hu⟩ : ∃ u, cs[j]? = some u := ⟨cs[j]'(by omega), List.getElem?_eq_getElem (by omega)⟩
  rw [Nat.zero_add]
  exact ⟨by rw [hb.at j hu]; rfl, hb.frz j⟩
theorem DcAt.rdput {w : World} {g B : Nat} {M : Int} {s : DS} {gs : Nat} {v : Value} {rs : List RV} (h : DcAt w g B M s gs v rs) : s.bg = false → s = zDS := fun e => (h.fresh e).1
end Go.Proofs.YteamniigiogaeaaGreatDoor
