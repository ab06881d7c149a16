/-
  The walk of StorePlays: for every input it tells true and writes nothing that was there.
-/
import Derived.Test.YtbfkhioljpgjjaaDoorII
import Derived.Test.YtbfkhioljpgjjaaDoorIE
import Derived.Deep.CutRange
namespace Go.Proofs.YtbfkhioljpgjjaaDoor
open Go.RowKit Go.Sort
set_option linter.unusedVariables false
set_option maxRecDepth 4000

/-- The store and the reference's, side by side: both keep the same. -/
structure PlJ (W w : World) (gs p : Nat) (k z : Int) (m : Nat) (v : Value) (ts : List RV) (ov : Bool) (v2 : Value) (ts2 : List RV) : Prop where
  st : StAt w gs W.heap.size k z m v ts ov
  bk : Bk5 30 w p (.int .i64 k) (.int .i64 z) (.int .i64 (m : Int)) v2 (.bool ov)
  lo : W.heap.size ≤ p
  own : OwnS w W.heap.size v2 ts2
  nil : NilS v2 ts2
  src : RowsIn W ts2
  short : shortR ts2
  sep : ∀ j, v.ownBlock = some j → v2.ownBlock ≠ some j
  co : ts.map core = ts2.map core
  low : Below W.heap.size W w
theorem PlJ.below {W w w' : World} {gs p : Nat} {k z : Int} {m : Nat} {v : Value} {ts : List RV} {ov : Bool} {v2 : Value} {ts2 : List RV} (h : PlJ W w gs p k z m v ts ov v2 ts2) (hb : Below w.heap.size w w') : PlJ W w' gs p k z m v ts ov v2 ts2 :=
  ⟨h.st.below hb, h.bk.below hb, h.lo, h.own.below hb, h.nil, h.src, h.short, h.sep, h.co, h.low.trans (hb.mono h.st.lob)⟩
theorem Bk5.neT {T T' : TypeId} {w : World} {g g' : Nat} {v0 v1 v2 v3 v4 u0 u1 u2 u3 u4 : Value} (h : Bk5 T w g v0 v1 v2 v3 v4) (h' : Bk5 T' w g' u0 u1 u2 u3 u4) (hT : T ≠ T') : g ≠ g' := fun e => by
  subst e
  unfold Bk5 at h h'
  rw [h] at h'
  simp only [Option.some.injEq, Obj.cells.injEq] at h'
  exact hT h'.2.1
theorem Bk5.neS {T : TypeId} {w : World} {g B : Nat} {v0 v1 v2 v3 v4 v : Value} {rs : List RV} (h : Bk5 T w g v0 v1 v2 v3 v4) (ho : OwnS w B v rs) (hT : T ≠ 36) : v.ownBlock ≠ some g := fun e => by
  obtain ⟨cur, hc⟩ := ho.blk5 e
  unfold Bk5 at h
  rw [h] at hc
  simp only [Option.some.injEq, Obj.cells.injEq] at hc
  exact hT hc.2.1
/-- The reference's store is none of the store's blocks. -/
theorem PlJ.out {W w : World} {gs p : Nat} {k z : Int} {m : Nat} {v : Value} {ts : List RV} {ov : Bool} {v2 : Value} {ts2 : List RV} (h : PlJ W w gs p k z m v ts ov v2 ts2) : ¬ stF gs v p := fun hf => by
  rcases hf with hf | hf
  · exact h.bk.neT h.st.blk (by decide) hf
  · exact h.bk.neS h.st.own (by decide) hf
/-- The reference has put a row: its new store lies in q; it is stored at p. -/
theorem gb5 (w : World) (g : Nat) (u0 u1 u2 u3 u4 : Value) : w.grownBy (((((w.setCell ⟨g, 0, none⟩ u0).setCell ⟨g, 1, none⟩ u1).setCell ⟨g, 2, none⟩ u2).setCell ⟨g, 3, none⟩ u3).setCell ⟨g, 4, none⟩ u4) (some g) :=
  gb_trans (gb_trans (gb_trans (gb_trans (gb_setCell _ _ _ _) (gb_setCell _ _ _ _) (.inl rfl)) (gb_setCell _ _ _ _) (.inl rfl)) (gb_setCell _ _ _ _) (.inl rfl)) (gb_setCell _ _ _ _) (.inl rfl)
/-- What stands between: the reference has put, the store not yet. -/
structure PlM (W w : World) (gs p : Nat) (k z : Int) (m : Nat) (v : Value) (ts : List RV) (ov ov2 : Bool) (v2 : Value) (ts2 : List RV) : Prop where
  st : StAt w gs W.heap.size k z m v ts ov
  bk : Bk5 30 w p (.int .i64 k) (.int .i64 z) (.int .i64 (m : Int)) v2 (.bool ov2)
  lo : W.heap.size ≤ p
  own : OwnS w W.heap.size v2 ts2
  sep : ∀ j, v.ownBlock = some j → v2.ownBlock ≠ some j
  low : Below W.heap.size W w
theorem PlJ.stored {W w w1 : World} {gs p : Nat} {k z : Int} {m : Nat} {v : Value} {ts : List RV} {ov ov3 : Bool} {v2 v3 : Value} {ts2 ts3 : List RV} (h : PlJ W w gs p k z m v ts ov v2 ts2) (hb : Below w.heap.size w w1) (ho : OwnS w1 W.heap.size v3 ts3)
    (hv : v3 = v2 ∨ ∀ j, v3.ownBlock = some j → w.heap.size ≤ j) :
    PlM W (((((w1.setCell ⟨p, 0, none⟩ (.int .i64 k)).setCell ⟨p, 1, none⟩ (.int .i64 z)).setCell ⟨p, 2, none⟩ (.int .i64 (m : Int))).setCell ⟨p, 3, none⟩ v3).setCell ⟨p, 4, none⟩ (.bool ov3)) gs p k z m v ts ov ov3 v3 ts3 := by
  have h1 := h.below hb
  have hg := gb5 w1 p (.int .i64 k) (.int .i64 z) (.int .i64 (m : Int)) v3 (.bool ov3)
  have ht := Tu.of_gb (F := fun j => j = p) hg fun j _ e => (Option.some.inj e).symm
  refine ⟨⟨h1.st.blk.tu ht (fun e => h1.bk.neT h1.st.blk (by decide) e.symm), h1.st.lo, h1.st.own.tu ht (fun j hj e => h1.bk.neS h1.st.own (by decide) (e ▸ hj)), h1.st.rows.tu ht (fun j cur hc e => ?_), h1.st.le, h1.st.most, h1.st.short⟩, h1.bk.sets _ _ _ _ _, h.lo, ho.tu ht (fun j hj e => h1.bk.neS ho (by decide) (e ▸ hj)), fun j hj e => ?_, h1.low.trans (gb_below hg h1.st.lob (fun j e => (Option.some.inj e) ▸ h.lo))⟩
  · subst e
    have := h1.bk
    unfold Bk5 at this
    rw [this] at hc
    simp only [Option.some.injEq, Obj.cells.injEq] at hc
    exact absurd hc.2.1 (by decide)
  · rcases hv with rfl | hv
    · exact h.sep j hj e
    · have h2 := hv j e
      have h3 := (World.ownsRow.lt h.st.own j hj).2
      omega
theorem PlM.put {W w w1 : World} {gs p : Nat} {k z : Int} {m : Nat} {v v1 : Value} {ts t1 : List RV} {ov ov2 : Bool} {v2 : Value} {ts2 : List RV} (h : PlM W w gs p k z m v ts ov ov2 v2 ts2) (hs : StAt w1 gs W.heap.size k z m v1 t1 ov2) (ht : Tu (stF gs v) w w1)
    (hv : v1.ownBlock = v.ownBlock ∨ ∀ j, v1.ownBlock = some j → w.heap.size ≤ j) (hn : NilS v2 ts2) (hsrc : RowsIn W ts2) (hsh : shortR ts2) (hc : t1.map core = ts2.map core) : PlJ W w1 gs p k z m v1 t1 ov2 v2 ts2 := by
  refine ⟨hs, h.bk.tu ht (fun hf => ?_), h.lo, h.own.tu ht (fun j hj hf => ?_), hn, hsrc, hsh, fun j hj e => ?_, hc, h.st.step h.low ht⟩
  · rcases hf with hf | hf
    · exact h.bk.neT h.st.blk (by decide) hf
    · exact h.bk.neS h.st.own (by decide) hf
  · rcases hf with rfl | hf
    · exact h.st.blk.neS h.own (by decide) hj
    · exact h.sep j hf hj
  · rcases hv with hv | hv
    · exact h.sep j (hv ▸ hj) e
    · have h1 := hv j hj
      have h2 := (World.ownsRow.lt h.own j e).2
      omega
theorem rput_rows {W : World} {k z : Int} {m : Nat} {ts : List RV} {r : RV} (h : RowsIn W ts) (hr : RowAt W r.a r.n r.xs) (hc : r.n ≤ r.c) : RowsIn W (rputR k z m ts r) := by
  unfold rputR
  split
  · exact h.append (RowsIn.one hr hc)
  · exact h
theorem rput_short {k z : Int} {m : Nat} {ts : List RV} {r : RV} (h : shortR ts) (hr : r.n ≤ 10 ∧ r.s.size ≤ 1000) : shortR (rputR k z m ts r) := by
  unfold rputR
  split
  · exact h.snoc hr.1 hr.2
  · exact h
theorem stnew_ex (k z n : Int) (w : World) :
    Calls Tryd.prog 10 #[.int .i64 k, .int .i64 z, .int .i64 n] w fun e w' => ∃ g, e = .returned (.pointer (some ⟨g, 0, none⟩)) ∧ StAt w' g w.heap.size k z (capN n) (.slice none 0 0) [] false ∧ Below w.heap.size w w' :=
  (stnew_any k z n w).mono fun e w' ⟨h1, h2, h3⟩ => ⟨_, h1, h2, h3⟩

theorem pl_start {W w : World} {gs p : Nat} {k z : Int} {m : Nat} (hs : StAt w gs W.heap.size k z m (.slice none 0 0) [] false) (hb : Bk5 30 w p (.int .i64 k) (.int .i64 z) (.int .i64 (m : Int)) (.slice none 0 0) (.bool false)) (lo : W.heap.size ≤ p) (low : Below W.heap.size W w) :
    PlJ W w gs p k z m (.slice none 0 0) [] false (.slice none 0 0) [] :=
  ⟨hs, hb, lo, OwnS.nil _ _, .inl ⟨rfl, rfl⟩, RowsIn.nil _, short_nil, (fun j hj => by cases hj), rfl, low⟩
theorem pl_start2 {W w : World} {gs p : Nat} {k z : Int} {m : Nat} {u0 u1 u2 u3 u4 : Value} (hs : StAt w gs W.heap.size k z m (.slice none 0 0) [] false) (hb : Bk5 30 w p u0 u1 u2 u3 u4) (lo : W.heap.size ≤ p) (low : Below W.heap.size W w) :
    PlJ W (((((w.setCell ⟨p, 0, none⟩ (.int .i64 k)).setCell ⟨p, 1, none⟩ (.int .i64 z)).setCell ⟨p, 2, none⟩ (.int .i64 (m : Int))).setCell ⟨p, 3, none⟩ (.slice none 0 0)).setCell ⟨p, 4, none⟩ (.bool false)) gs p k z m (.slice none 0 0) [] false (.slice none 0 0) [] := by
  have hg := gb5 w p (.int .i64 k) (.int .i64 z) (.int .i64 (m : Int)) (.slice none 0 0) (.bool false)
  have ht := Tu.of_gb (F := fun j => j = p) hg fun j _ e => (Option.some.inj e).symm
  refine pl_start ⟨hs.blk.tu ht (fun e => hb.neT hs.blk (by decide) e.symm), hs.lo, OwnS.nil _ _, OwnRs.nil _ _, hs.le, hs.most, hs.short⟩ (hb.sets _ _ _ _ _) lo (low.trans (gb_below hg low.size (fun j e => (Option.some.inj e) ▸ lo)))

set_option maxHeartbeats 8000000 in
theorem stplays_walk (K Z M : Int) (a : Option Addr) (n c : Nat) (rs : List RV) (w : World) (ht : Tab w) (h : RowsAt w a n rs) (hn : n ≤ 9223372036854775807) (hcap : CapR rs) (hbig : ∀ i, (rs.getD i .dflt).n ≤ 9223372036854775807 ∧ (rs.getD i .dflt).s.size ≤ 9223372036854775807) :
    Calls Tryd.prog 3 #[.agg #[.int .i64 K, .int .i64 Z, .int .i64 M], .slice a n c] w fun e w' => e = .returned (.bool true) ∧ Below w.heap.size w w' := by
  have hb0 := alloc_low w (.cells #[.int .i64 K, .int .i64 Z, .int .i64 M] 23)
  have hz := sz_new w K Z M
  have hsw := alloc_size w (.cells #[.int .i64 K, .int .i64 Z, .int .i64 M] 23)
  have HAW := hide (fun (w1 : World) (hb : Below w.heap.size w w1) => awake_any w1 (ht.below hb))
  have HT := hide ht
  have HC := hide hcap
  have HNL := hide h.1
  generalize hW : w.alloc (.cells #[.int .i64 K, .int .i64 Z, .int .i64 M] 23) = W at *
  have HF := hide (fewR_any a n c rs W (h.below hb0) hn hbig)
  have Hh := hide (h.below hb0)
  have HB0 := hide hb0
  have HSZ := hide (fun wx (hb : Below W.heap.size W wx) => hz.belowB hb (by omega))
  have hne1 : W.heap.size ≠ w.heap.size := by omega
  have HNE := hide (show ∀ j, W.heap.size ≤ j → j ≠ w.heap.size from fun j hj => by omega)
  have HBZ : Hid (Below W.heap.size W (W.drew.alloc (.cells #[.int .i64 0, .int .i64 0, .int .i64 0, .slice none 0 0, .bool false] 30))) := hide ((Below.refl _ _).drew.alloc (Nat.le_refl _) _)
  obtain ⟨z0, z1, z2⟩ := hz
  clear h hb0 hbig ht hsw hcap
  go_enter Tryd.func3, Tryd.ntmps3
  go_wp2_with fail
  refine (unhide HF).mono ?_
  rintro e w0 ⟨hf, hw⟩
  obtain rfl := hw.symm
  clear hw HF
  rcases hf with ⟨rfl, hf⟩ | ⟨rfl, hf⟩
  case inr =>
    clear hf
    go_wp2_with (go_at_call 9; refine (unhide HAW _ (unhide HB0)).mono ?_; rintro e w1 ⟨rfl, hb1⟩)
    go_ret
    exact ⟨rfl, below0 (unhide HB0) hb1⟩
  have Hf := hide hf.2
  clear hf
  by_cases h6 : 80 < n
  · have hd : decide ((80 : Int) < (n : Int)) = true := by rw [decide_eq_true_iff]; omega
    go_wp2_with (go_at_call 9; refine (unhide HAW _ (unhide HB0)).mono ?_; rintro e w1 ⟨rfl, hb1⟩)
    go_ret
    exact ⟨rfl, below0 (unhide HB0) hb1⟩
  have hd : decide ((80 : Int) < (n : Int)) = false := by rw [decide_eq_false_iff_not]; omega
  go_wp2_with fail
  go_cut [5, 6] from 19 to 32 (fun s t wx => ∃ gs p, s = .pointer (some ⟨gs, 0, none⟩) ∧ t = .pointer (some ⟨p, 0, none⟩) ∧ Hid (PlJ W wx gs p K Z (capN M) (.slice none 0 0) [] false (.slice none 0 0) []))
  case first =>
    go_region_held3 (fun w' => w'.cell? ⟨w.heap.size, 0, none⟩ = some (.int .i64 K) ∧ w'.cell? ⟨w.heap.size, 1, none⟩ = some (.int .i64 Z) ∧ w'.cell? ⟨w.heap.size, 2, none⟩ = some (.int .i64 M)) (go_keep) (first
      | (go_at_call 10; refine (stnew_ex K Z M _).mono ?_; rintro e w1 ⟨gs, rfl, hs1, hb1⟩; have D1 := hide (show Below W.heap.size W w1 from below0 (by first | exact (Below.refl _ _).drew | exact unhide HBZ) hb1); have HS1 := hide (hs1.mono (B' := W.heap.size) (by first | exact Nat.le_refl _ | exact (unhide HBZ).size)); (first | (have X1 := hide (show Bk5 30 w1 W.heap.size (.int .i64 0) (.int .i64 0) (.int .i64 0) (.slice none 0 0) (.bool false) from (bk5_new 30 W.drew (.int .i64 0) (.int .i64 0) (.int .i64 0) (.slice none 0 0) (.bool false)).below hb1)) | skip); obtain ⟨y0, y1, y2⟩ := unhide HSZ w1 (unhide D1); have hn1 : w1.heap.size ≠ w.heap.size := unhide HNE _ (unhide D1).size; clear hs1 hb1)
      | (go_at_call 11; refine (rnew15_any K Z M _).mono ?_; rintro e w2 ⟨rfl, hb2⟩; have D2 := hide (show Below W.heap.size W w2 from below0 (by first | exact unhide D1 | exact (unhide D1).alloc (unhide D1).size _) hb2); have HS2 := hide (show StAt w2 gs W.heap.size K Z (capN M) (.slice none 0 0) [] false from (by first | exact (unhide HS1).below hb2 | exact ((unhide HS1).below (alloc_low w1 _)).below hb2)); (first | (have X2 := hide ((unhide X1).below hb2); obtain ⟨x0, x1, x2, x3, x4⟩ := (unhide X2).at; have xf0 := (unhide X2).frz 0; have xf1 := (unhide X2).frz 1; have xf2 := (unhide X2).frz 2; have xf3 := (unhide X2).frz 3; have xf4 := (unhide X2).frz 4) | (have X2 := hide ((bk5_new 30 w1 (.int .i64 0) (.int .i64 0) (.int .i64 0) (.slice none 0 0) (.bool false)).below hb2); obtain ⟨x0, x1, x2, x3, x4⟩ := (unhide X2).at; have xf0 := (unhide X2).frz 0; have xf1 := (unhide X2).frz 1; have xf2 := (unhide X2).frz 2; have xf3 := (unhide X2).frz 3; have xf4 := (unhide X2).frz 4) | skip); obtain ⟨t0, t1, t2⟩ := unhide HSZ w2 (unhide D2); have hn2 : w2.heap.size ≠ w.heap.size := unhide HNE _ (unhide D2).size; clear hb2)
      | fail)
    all_goals (try go_wp2_with fail)
    all_goals go_meet
    all_goals first
      | (have hx1 := unhide X1; exact ⟨gs, W.heap.size, rfl, rfl, hide (pl_start2 (unhide HS2) (unhide X2) (Nat.le_refl _) (unhide D2))⟩)
      | (have hx2 := unhide X2; exact ⟨gs, w1.heap.size, rfl, rfl, hide (pl_start2 (unhide HS2) (unhide X2) (unhide D1).size (unhide D2))⟩)
      | exact ⟨gs, w2.heap.size, rfl, rfl, hide (pl_start ((unhide HS2).below (alloc_low w2 _)) (bk5_new _ _ _ _ _ _ _) (unhide D2).size ((unhide D2).alloc (unhide D2).size _))⟩
  case rest =>
    obtain ⟨gs, p, rfl, rfl, HJ0⟩ := hcut
    clear z0 z1 z2 HSZ hne1 HNE HBZ
    go_wp2
    go_loopw [7] (fun i wr => ∃ (j : Nat) (v : Value) (ts : List RV) (ov : Bool) (v2 : Value) (ts2 : List RV), j ≤ n ∧ i = .int .i64 j ∧ Hid (PlJ W wr gs p K Z (capN M) v ts ov v2 ts2)) (fun i _ => n - (intOf i).toNat)
    case atStart => exact ⟨0, _, _, _, _, _, Nat.zero_le _, rfl, HJ0⟩
    case round =>
      obtain ⟨j, v, ts, ov, v2, ts2, hj, rfl, HJ⟩ := hrel
      clear HJ0
      by_cases hlt : j < n
      · have hRa := unhide Hh
        obtain ⟨b, off, rfl, -⟩ := hRa.at hlt
        have hrow := hRa.2.1 j hlt
        have hcp := unhide HC j (by have := unhide HNL; omega)
        have hsh := unhide Hf j
        have hlt' : (j : Int) < (n : Int) := by omega
        have HCL := hide (fun wx (hb : Below W.heap.size W wx) => (show wx.cell? ⟨b, off + j * 2, none⟩ = some (.slice (rs.getD j .dflt).a (rs.getD j .dflt).n (rs.getD j .dflt).c) ∧ wx.cell? ⟨b, off + j * 2 + 1, none⟩ = some (.string (rs.getD j .dflt).s) from by
          obtain ⟨b', off', e', hc'⟩ := (hRa.below hb).at hlt
          simp only [Option.some.injEq, Addr.mk.injEq, and_true] at e'
          obtain ⟨rfl, rfl⟩ := e'
          exact hc' j hlt))
        generalize rs.getD j .dflt = r at *
        have HRO := hide (fun wx (hb : Below W.heap.size W wx) => hrow.below hb)
        have hbW : b < W.heap.size := by
          obtain ⟨q0, q1⟩ := unhide HCL W (Below.refl _ _)
          exact World.block_lt_of_cell? W _ q0
        have HRW := hide hrow
        clear hRa hrow
        have hJ := unhide HJ
        obtain ⟨av2, cv2, rfl⟩ := hJ.own.shape
        have hlen2 : ts.length = ts2.length := by rw [← List.length_map core, hJ.co, List.length_map]
        have hle2 : ts2.length ≤ 256 := by have := hJ.st.le; have := hJ.st.most; omega
        have HRP := hide (fun wx (hb : Below wr.heap.size wr wx) => rput_any W.heap.size K Z (capN M) (.slice av2 ts2.length cv2) ts2 ov r wx hJ.nil (hJ.own.below hb) (Nat.le_trans hJ.st.lob hb.size) (unhide HRO wx (hJ.low.trans (hb.mono hJ.st.lob))) hsh.1 hsh.2 hle2 hJ.st.most)
        have HLW := hide (fun wx (hb : Below wr.heap.size wr wx) => hJ.low.trans (hb.mono hJ.st.lob))
        have HBK := hide (fun wx (hb : Below wr.heap.size wr wx) => hJ.bk.below hb)
        have HBZ2 : Hid (Below wr.heap.size wr (wr.drew.alloc (.cells #[.int .i64 0, .int .i64 0, .int .i64 0, .slice none 0 0, .bool false] 30))) := hide ((Below.refl _ _).drew.alloc (Nat.le_refl _) _)
        have hpr : p < wr.heap.size := hJ.bk.lt
        have hbr : b < wr.heap.size := Nat.lt_of_lt_of_le hbW hJ.st.lob
        obtain ⟨k0, k1, k2, k3, k4⟩ := hJ.bk.at
        obtain ⟨hc0, hc1⟩ := unhide HCL wr hJ.low
        have hnr1 : wr.heap.size ≠ p := by omega
        have hnr2 : wr.heap.size ≠ b := by omega
        have HNE := hide (show ∀ i, wr.heap.size ≤ i → i ≠ p ∧ i ≠ b from fun i hi => by omega)
        clear hJ hlen2
        go_wp2_with fail
        go_cut [8, 9] from 33 to 71 (fun u e wx => ∃ q v3, u = .pointer (some ⟨q, 0, none⟩) ∧ e = .int .i64 (putE K Z (capN M) (ts2.map core) (core r)) ∧ Hid (Bk5 30 wx q (.int .i64 K) (.int .i64 Z) (.int .i64 (capN M : Int)) v3 (.bool (putO K Z (capN M) (ts2.map core) ov (core r))) ∧ NilS v3 (rputR K Z (capN M) ts2 r) ∧ OwnS wx W.heap.size v3 (rputR K Z (capN M) ts2 r) ∧ Below wr.heap.size wr wx ∧ (v3 = .slice av2 ts2.length cv2 ∨ ∀ j, v3.ownBlock = some j → wr.heap.size ≤ j) ∧ wr.heap.size ≤ q))
        case first =>
          go_region_held3 (fun w' => w'.cell? ⟨b, off + j * 2, none⟩ = some (.slice r.a r.n r.c) ∧ w'.cell? ⟨b, off + j * 2 + 1, none⟩ = some (.string r.s) ∧ w'.cell? ⟨p, 0, none⟩ = some (.int .i64 K) ∧ w'.cell? ⟨p, 1, none⟩ = some (.int .i64 Z) ∧ w'.cell? ⟨p, 2, none⟩ = some (.int .i64 (capN M : Int)) ∧ w'.cell? ⟨p, 3, none⟩ = some (.slice av2 ts2.length cv2) ∧ w'.cell? ⟨p, 4, none⟩ = some (.bool ov)) (go_keep) (first
            | (go_at_call 12; refine (unhide HRP _ (by first | exact (Below.refl _ _).drew | exact unhide HBZ2)).mono ?_; rintro e w2 ⟨v3, rfl, hn3, ho3, hb3, hv3⟩; obtain ⟨av3, cv3, rfl⟩ := ho3.shape; have D2 := hide (show Below wr.heap.size wr w2 from below0 (by first | exact (Below.refl _ _).drew | exact unhide HBZ2) hb3); have HN3 := hide hn3; have HO3 := hide ho3; have HV3 := hide (show (Value.slice av3 (rputR K Z (capN M) ts2 r).length cv3) = .slice av2 ts2.length cv2 ∨ ∀ i, (Value.slice av3 (rputR K Z (capN M) ts2 r).length cv3).ownBlock = some i → wr.heap.size ≤ i from hv3.imp id fun q i hi => Nat.le_trans (by first | exact Nat.le_refl _ | exact (unhide HBZ2).size) (q i hi)); (first | (have X2 := hide (show Bk5 30 w2 wr.heap.size (.int .i64 0) (.int .i64 0) (.int .i64 0) (.slice none 0 0) (.bool false) from (bk5_new 30 wr.drew (.int .i64 0) (.int .i64 0) (.int .i64 0) (.slice none 0 0) (.bool false)).below hb3); obtain ⟨x0, x1, x2, x3, x4⟩ := (unhide X2).at; have xf0 := (unhide X2).frz 0; have xf1 := (unhide X2).frz 1; have xf2 := (unhide X2).frz 2; have xf3 := (unhide X2).frz 3; have xf4 := (unhide X2).frz 4) | skip); obtain ⟨t0, t1, t2, t3, t4⟩ := (unhide HBK _ (unhide D2)).at; obtain ⟨d0, d1⟩ := unhide HCL _ (unhide HLW _ (unhide D2)); obtain ⟨hn1, hn2⟩ := unhide HNE _ (unhide D2).size; clear hn3 ho3 hb3 hv3)
            | fail)
          all_goals (try go_wp2_with fail)
          all_goals go_meet
          all_goals first
            | (have hx2 := unhide X2; exact ⟨wr.heap.size, _, rfl, rfl, hide ⟨(unhide X2).sets _ _ _ _ _, unhide HN3, OwnS.set5 (unhide HO3) ((unhide X2).neS (unhide HO3) (by decide)) _ _ _ _ _, below5 (unhide D2) (Nat.le_refl _) _ _ _ _ _, unhide HV3, Nat.le_refl _⟩⟩)
            | exact ⟨w2.heap.size, _, rfl, rfl, hide ⟨bk5_new _ _ _ _ _ _ _, unhide HN3, (unhide HO3).below (alloc_low w2 _), below0 (unhide D2) (alloc_low w2 _), unhide HV3, (unhide D2).size⟩⟩
        case rest =>
          obtain ⟨q, v3, rfl, rfl, HQ⟩ := hcut
          obtain ⟨hq5, hn3, ho3, hb3, hv3, hql⟩ := unhide HQ
          obtain ⟨av3, cv3, rfl⟩ := ho3.shape
          have hJ := unhide HJ
          have hM := hJ.stored hb3 ho3 hv3 (ov3 := putO K Z (capN M) (ts2.map core) ov (core r))
          have HSR := hide (rput_rows (k := K) (z := Z) (m := capN M) hJ.src (unhide HRW) hcp)
          have HSS := hide (rput_short (k := K) (z := Z) (m := capN M) hJ.short hsh)
          have hco := rputR_core K Z (capN M) ts2 r
          have hcc := hJ.co
          have HPU := hide (fun wx (hs : StAt wx gs W.heap.size K Z (capN M) v ts ov) (hb : Below W.heap.size W wx) => (put_any gs _ K Z (capN M) v ts ov r.a r.n r.c r.xs r.s wx hs (unhide HRO wx hb) hsh.1 hsh.2).mono fun e w' ⟨h1, v', rs', h2, h3, h4, h5⟩ =>
            (show e = Ending.returned (.int .i64 (putE K Z (capN M) (ts2.map core) (core r))) ∧ ∃ v' rs', StAt w' gs W.heap.size K Z (capN M) v' rs' (putO K Z (capN M) (ts2.map core) ov (core r)) ∧ rs'.map core = (rputR K Z (capN M) ts2 r).map core ∧ Tu (stF gs v) wx w' ∧ (v'.ownBlock = v.ownBlock ∨ ∀ j, v'.ownBlock = some j → wx.heap.size ≤ j) from
              ⟨by rw [h1, hcc]; rfl, v', rs', by rw [hcc] at h2; exact h2, by rw [h3, hcc, hco]; rfl, h4, h5⟩))
          obtain ⟨x0, x1, x2, x3, x4⟩ := hq5.at
          have hbk := unhide HBK wc hb3
          obtain ⟨t0, t1, t2, t3, t4⟩ := hbk.at
          have f0 := hbk.frz 0
          have f1 := hbk.frz 1
          have f2 := hbk.frz 2
          have f3 := hbk.frz 3
          have f4 := hbk.frz 4
          have HN3 := hide hn3
          clear hJ hco hcc hn3 hv3 hql hbk ho3 hq5 HQ HRP HBZ2 HNE k0 k1 k2 k3 k4 hc0 hc1
          generalize rputR K Z (capN M) ts2 r = T3 at *
          generalize putO K Z (capN M) (ts2.map core) ov (core r) = OV at *
          generalize putE K Z (capN M) (ts2.map core) (core r) = E at *
          have hFlow := hM.low
          obtain ⟨-, -, -, p3, p4⟩ := hM.bk.at
          have HM := hide hM
          clear hM
          generalize hFe : ((((wc.setCell ⟨p, 0, none⟩ (.int .i64 K)).setCell ⟨p, 1, none⟩ (.int .i64 Z)).setCell ⟨p, 2, none⟩ (.int .i64 (capN M : Int))).setCell ⟨p, 3, none⟩ (.slice av3 T3.length cv3)).setCell ⟨p, 4, none⟩ (.bool OV) = F at *
          obtain ⟨d0, d1⟩ := unhide HCL F hFlow
          have HP := hide (unhide HPU F.drew ((unhide HM).st.below (Below.refl _ _).drew) (hFlow.trans (Below.refl _ _).drew))
          have hov1 : (OV != OV) = false := by cases OV <;> rfl
          have hov2 : (OV == OV) = true := by cases OV <;> rfl
          clear HPU hFlow
          go_wp2_with fail
          go_region_held3 (fun w' => w'.cell? ⟨b, off + j * 2, none⟩ = some (.slice r.a r.n r.c) ∧ w'.cell? ⟨b, off + j * 2 + 1, none⟩ = some (.string r.s) ∧ w'.cell? ⟨p, 3, none⟩ = some (.slice av3 T3.length cv3) ∧ w'.cell? ⟨p, 4, none⟩ = some (.bool OV)) (go_keep) (first
            | (go_at_call 13; refine (unhide HP).mono ?_; rintro e w4 ⟨rfl, v4, ts4, hs4, hc4, ht4, hv4⟩; have hJ4 := (unhide HM).put hs4 (ht4.after (Below.refl _ _).drew) hv4 (unhide HN3) (unhide HSR) (unhide HSS) hc4; have hl4 : ts4.length = T3.length := (by rw [← List.length_map core, hc4, List.length_map]); have hLN := len_any _ _ K Z (capN M) v4 ts4 OV w4 hs4; rw [hl4] at hLN; have HLN := hide hLN; have HOV := hide (over_any _ _ K Z (capN M) v4 ts4 OV w4 hs4); obtain ⟨-, -, -, s3, s4⟩ := hJ4.bk.at; obtain ⟨e0, e1⟩ := unhide HCL w4 hJ4.low; have HJ4 := hide hJ4; clear hs4 hc4 ht4 hv4 hJ4 hl4 hLN)
            | (go_at_call 14; refine (unhide HLN).mono ?_; rintro e w9 ⟨rfl, hw⟩; obtain rfl := hw.symm; clear hw)
            | (go_at_call 15; refine (unhide HOV).mono ?_; rintro e w9 ⟨rfl, hw⟩; obtain rfl := hw.symm; clear hw)
            | fail)
          all_goals go_wp2
          go_roundw
          case rel => exact ⟨j + 1, v4, ts4, OV, .slice av3 T3.length cv3, T3, by omega, by go_num, HJ4⟩
          case measure => simp [intOf]; omega
      · have hJ := unhide HJ
        obtain ⟨av2, cv2, rfl⟩ := hJ.own.shape
        have hlen2 : ts.length = ts2.length := by rw [← List.length_map core, hJ.co, List.length_map]
        have hle2 : ts2.length ≤ 256 := by have := hJ.st.le; have := hJ.st.most; omega
        have hle1 : ts.length ≤ 256 := by omega
        clear hlen2
        obtain ⟨-, -, -, k3, -⟩ := hJ.bk.at
        have HR1 := hide (rows_any _ _ K Z (capN M) v ts ov wr.drew (hJ.st.below (Below.refl _ _).drew))
        have HQ := hide (fun wx (hb : Below wr.heap.size wr wx) => hJ.below hb)
        have HIN := hide (fun wx (hb : Below wr.heap.size wr wx) => (hJ.src.below (hJ.below hb).low))
        have HSI := hide hJ.st.rows.rows
        have HSS := hide hJ.st.short
        have HS2 := hide hJ.short
        have HCO := hide hJ.co
        have HL0 := hide (below0 (unhide HB0) hJ.low)
        have HRN := hide (show (basisL (vecsL ts2)).length = rankN ts by
          have hI := hJ.src
          have hkr : (keepL (vecsL ts2) ts2.length).length = (basisL (vecsL ts2)).length := by rw [← vecsL_len]; exact keep_rank (fit_of hI hJ.short)
          rw [← hkr]; show rankN ts2 = _; rw [rankN_core, rankN_core, hJ.co])
        clear hJ
        go_wp2_with fail
        go_region_held3 (fun w' => w'.cell? ⟨p, 3, none⟩ = some (.slice av2 ts2.length cv2)) (go_keep) (first
          | (go_at_call 17; refine (unhide HR1).mono ?_; rintro e w2 ⟨g2, c2, us2, rfl, ho2, hr2, he2, hb2⟩; have D2 := hide (show Below wr.heap.size wr w2 from below0 (Below.refl _ _).drew hb2); obtain ⟨hA2, hI2, hSh2, -, -⟩ := OutP.at ho2 hr2 he2 (unhide HSI) (unhide HSS); have hT2 := ((unhide HQ w2 (unhide D2)).own.at' (unhide HIN w2 (unhide D2))).1; have HAL := hide (rall_any (some ⟨g2, 0, none⟩) ts.length c2 us2 av2 ts2.length cv2 ts2 w2 hA2 hT2 (he2.trans (unhide HCO)) hSh2 (by omega)); obtain ⟨-, -, -, s3, -⟩ := (unhide HQ w2 (unhide D2)).bk.at; clear ho2 hr2 he2 hb2 hA2 hI2 hSh2 hT2)
          | (go_at_call 16; refine (unhide HAL).mono ?_; rintro e w3 ⟨rfl, hb3⟩; have D3 := hide (below0 (unhide D2) hb3); have hJ3 := unhide HQ w3 (unhide D3); have HRK := hide (rank_any _ _ K Z (capN M) v ts ov w3 ((unhide HT).below (below0 (unhide HB0) hJ3.low)) hJ3.st); obtain ⟨-, -, -, s4, -⟩ := hJ3.bk.at; clear hb3 hJ3)
          | (go_at_call 18; refine (unhide HRK).mono ?_; rintro e w4 ⟨rfl, hb4⟩; have D4 := hide (below0 (unhide D3) hb4); have hJ4 := unhide HQ w4 (unhide D4); have hT4 := (hJ4.own.at' (unhide HIN w4 (unhide D4))).1; have hKR := rgrank_any av2 ts2.length cv2 ts2 w4 hT4 (unhide HIN w4 (unhide D4)) (unhide HS2) (by omega); rw [unhide HRN] at hKR; have HKR := hide hKR; obtain ⟨-, -, -, s5, -⟩ := hJ4.bk.at; clear hb4 hJ4 hT4 hKR)
          | (go_at_call 19; refine (unhide HKR).mono ?_; rintro e w5 ⟨rfl, hb5⟩; have D5 := hide (below0 (unhide D4) hb5); obtain ⟨-, -, -, s6, -⟩ := (unhide HQ w5 (unhide D5)).bk.at; clear hb5)
          | (go_at_call 9; refine (unhide HAW _ (below0 (unhide HL0) (unhide D5))).mono ?_; rintro e w6 ⟨rfl, hb6⟩; have D6 := hide (below0 (unhide D5) hb6); obtain ⟨-, -, -, s7, -⟩ := (unhide HQ w6 (unhide D6)).bk.at; clear hb6)
          | fail)
        all_goals go_wp2
        go_ret
        exact ⟨rfl, below0 (unhide HL0) (unhide D6)⟩
end Go.Proofs.YtbfkhioljpgjjaaDoor
