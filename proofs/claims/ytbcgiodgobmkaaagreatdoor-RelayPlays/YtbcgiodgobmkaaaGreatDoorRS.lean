/-
  The walk of RelayPlays: for every input it tells true and writes nothing that was there.
-/
import Derived.Test.YtbcgiodgobmkaaaGreatDoorRQ
import Derived.Deep.CutRange
namespace Go.Proofs.YtbcgiodgobmkaaaGreatDoor
open Go.RowKit Go.Sort
set_option linter.unusedVariables false
set_option linter.unusedSimpArgs false
set_option maxRecDepth 4000

theorem few_yes {e : Ending} {P : Prop} (h : (e = .returned (.bool true) ∧ P) ∨ (e = .returned (.bool false) ∧ ¬ P)) (hp : P) : e = .returned (.bool true) := h.elim (fun h => h.1) fun h => absurd hp h.2
theorem few_no {e : Ending} {P : Prop} (h : (e = .returned (.bool true) ∧ P) ∨ (e = .returned (.bool false) ∧ ¬ P)) (hp : ¬ P) : e = .returned (.bool false) := h.elim (fun h => absurd h.2 hp) fun h => h.1
theorem alloc_under (w : World) (o : Obj) : Below w.heap.size w (w.alloc o) := (Below.refl _ _).alloc (Nat.le_refl _) _
/-- A deed that came in, in whatever world is as it was below. -/
theorem DeedsAt.old {W w : World} {a : Option Addr} {n : Nat} {ds : List DV} (h : DeedsAt W a n ds) (hb : Below W.heap.size W w) {i : Nat} (hi : i < n) : ∃ b off, a = some ⟨b, off, none⟩ ∧ w.cell? ⟨b, off + i * 8, none⟩ = some (.int .i64 (ds.getD i .dflt).kd) ∧ PkCells w b (off + i * 8 + 1) (ds.getD i .dflt).p := by
  obtain ⟨b, off, e, hc⟩ := (h.below hb).at hi
  exact ⟨b, off, e, (hc i hi).1, (hc i hi).2⟩
theorem pj_set4 {W w : World} {g gb m z : Nat} {t i : Int} {v : Value} {qs : List PKV} {u0 u1 u2 u3 : Value} (hr : RlAt w g gb W.heap.size m t i v qs) (hz : BkA 32 w z [u0, u1, u2, u3]) (lo : W.heap.size ≤ z) (low : Below W.heap.size W w) (v0 v1 v2 v3 : Value) :
    RlAt ((((w.setCell ⟨z, 0, none⟩ v0).setCell ⟨z, 1, none⟩ v1).setCell ⟨z, 2, none⟩ v2).setCell ⟨z, 3, none⟩ v3) g gb W.heap.size m t i v qs ∧ BkA 32 ((((w.setCell ⟨z, 0, none⟩ v0).setCell ⟨z, 1, none⟩ v1).setCell ⟨z, 2, none⟩ v2).setCell ⟨z, 3, none⟩ v3) z [v0, v1, v2, v3] ∧ W.heap.size ≤ z ∧ Below W.heap.size W ((((w.setCell ⟨z, 0, none⟩ v0).setCell ⟨z, 1, none⟩ v1).setCell ⟨z, 2, none⟩ v2).setCell ⟨z, 3, none⟩ v3) := by
  have ht := set_tu4 w z v0 v1 v2 v3
  refine ⟨hr.tu ht (fun j hj e => ?_) (fun j cur hu e => hz.ne hu (by decide) e.symm), hz.set4 v0 v1 v2 v3, lo, low.trans (ht.below low.size fun j hj e => by omega)⟩
  subst e
  rcases hj with e | e | e
  · exact hr.blk.ne hz (by decide) e.symm
  · exact hr.buf.blk.ne hz (by decide) e.symm
  · exact hz.neP hr.buf.own (by decide) e
set_option maxHeartbeats 64000000 in
theorem rlplays_walk (M0 T : Int) (a : Option Addr) (n c : Nat) (ds : List DV) (a1 : Option Addr) (m1 c1 : Nat) (D : List Nat) (w : World) (ht : Tab w) (h : DeedsAt w a n ds) (hn : n ≤ 9223372036854775807) (hcap : ∀ i, i < ds.length → (ds.getD i .dflt).p.r.n ≤ (ds.getD i .dflt).p.r.c) (hbig : ∀ i, (ds.getD i .dflt).p.r.n ≤ 9223372036854775807 ∧ (ds.getD i .dflt).p.r.s.size ≤ 9223372036854775807) (hw : RowAt w a1 m1 D) :
    Calls Tryz.prog 3 #[.agg #[.int .i64 M0, .int .i64 T], .slice a n c, .slice a1 m1 c1] w fun e w' => e = .returned (.bool true) ∧ Below w.heap.size w w' := by
  obtain rfl := hw.1
  obtain rfl := h.1
  have hb0 : Below w.heap.size w (w.alloc (.cells #[.int .i64 M0, .int .i64 T] 23)) := (Below.refl _ _).alloc (Nat.le_refl _) _
  have hbx : BkA 23 (w.alloc (.cells #[.int .i64 M0, .int .i64 T] 23)) w.heap.size [.int .i64 M0, .int .i64 T] := bkA_new 23 w _
  generalize hWW : w.alloc (.cells #[.int .i64 M0, .int .i64 T] 23) = W at *
  have HAW := hide (fun (w1 : World) (hb : Below W.heap.size W w1) => awake_any w1 ((ht.below hb0).below hb))
  have HF := hide (few19_any a ds.length c ds W (h.below hb0) hn hbig)
  have HT := hide (ht.below hb0)
  have Hh := hide (h.below hb0)
  have HD := hide (hw.below hb0)
  have HB0 := hide hb0
  have m0 := hbx.at 0 rfl
  have m1 := hbx.at 1 rfl
  have HSZ := hide (fun wx (hb : Below W.heap.size W wx) => And.intro ((hbx.below hb).at 0 rfl) ((hbx.below hb).at 1 rfl))
  have hltW := hbx.lt
  have hne1 : W.heap.size ≠ w.heap.size := by omega
  have HNE := hide (show ∀ i, W.heap.size ≤ i → i ≠ w.heap.size from fun i hi => by omega)
  have HBZ : Hid (Below W.heap.size W (W.drew.alloc (.cells #[.int .i64 0, .int .i64 0, .int .i64 0, .slice none 0 0] 32))) := hide ((Below.refl _ _).drew.alloc (Nat.le_refl _) _)
  have HCP := hide hcap
  clear h ht hbig hcap hw hb0 hbx hltW
  by_cases hf : FewDs ds
  · by_cases hm3 : 300 < D.length
    · have hm4 : (300 : Int) < (D.length : Int) := by omega
      go_enter Tryz.func3, Tryz.ntmps3
      go_wp2_with (first
        | (go_at_call 5; refine (unhide HF).mono ?_; rintro e w1 ⟨he, hw1⟩; obtain rfl := hw1.symm; obtain rfl := few_yes he hf; clear hw1 he HF)
        | (go_at_call 6; refine (unhide HAW _ (Below.refl _ _)).mono ?_; rintro e w2 ⟨rfl, hb2⟩; have HB2 := hide hb2; clear hb2))
      go_ret
      exact ⟨rfl, below0 (unhide HB0) (unhide HB2)⟩
    · have hm4 : ¬ (300 : Int) < (D.length : Int) := by omega
      have hl : ds.length ≤ 60 := hf.1
      have HS := hide hf.2
      have HIN : Hid (InP W (ds.map DV.p)) := hide fun q hq => by
        obtain ⟨d, hd, rfl⟩ := List.mem_map.1 hq
        obtain ⟨i, hi, rfl⟩ := List.getElem_of_mem hd
        have h1 := (unhide Hh).2.1 i hi
        have h2 := unhide HCP i hi
        have h3 := (hf.2 i).1
        rw [List.getD_eq_getElem?_getD, List.getElem?_eq_getElem hi] at h1 h2 h3
        exact ⟨h1, h2, h3⟩
      go_enter Tryz.func3, Tryz.ntmps3
      go_wp2_with (first
        | (go_at_call 5; refine (unhide HF).mono ?_; rintro e w1 ⟨he, hw1⟩; obtain rfl := hw1.symm; obtain rfl := few_yes he hf; clear hw1 he HF))
      clear hf HCP
      go_cut [7, 8] from 27 to 36 (fun s u wx => ∃ g gb z, s = .pointer (some ⟨g, 0, none⟩) ∧ u = .pointer (some ⟨z, 0, none⟩) ∧ Hid (RlAt wx g gb W.heap.size (capN M0) (clampT T) 0 (.slice none 0 0) [] ∧ BkA 32 wx z (rrC (capN M0) (clampT T) 0 (.slice none 0 0)) ∧ W.heap.size ≤ z ∧ Below W.heap.size W wx))
      case first =>
        go_region_held3 (fun w' => w'.cell? ⟨w.heap.size, 0, none⟩ = some (.int .i64 M0) ∧ w'.cell? ⟨w.heap.size, 1, none⟩ = some (.int .i64 T)) (go_keep) (first
          | (go_at_call 7; refine (rlnew_any M0 T _).mono ?_; rintro e w1 ⟨g, gb, rfl, hs1, hb1⟩; have D1 := hide (show Below W.heap.size W w1 from below0 (by first | exact (Below.refl _ _).drew | exact unhide HBZ) hb1); have HS1 := hide (hs1.mono (B' := W.heap.size) (by first | exact Nat.le_refl _ | exact (unhide HBZ).size)); (first | (have X1 := hide (show BkA 32 w1 W.heap.size [.int .i64 0, .int .i64 0, .int .i64 0, .slice none 0 0] from (bkA_new 32 W.drew [.int .i64 0, .int .i64 0, .int .i64 0, .slice none 0 0]).below hb1)) | skip); obtain ⟨y0, y1⟩ := unhide HSZ w1 (unhide D1); have hn1 : w1.heap.size ≠ w.heap.size := unhide HNE _ (unhide D1).size; clear hs1 hb1)
          | (go_at_call 8; refine (rrnew_any M0 T _).mono ?_; rintro e w2 ⟨rfl, hb2⟩; unfold rrV; have D2 := hide (show Below W.heap.size W w2 from below0 (by first | exact unhide D1 | exact (unhide D1).alloc (unhide D1).size _) hb2); have HS2 := hide (show RlAt w2 g gb W.heap.size (capN M0) (clampT T) 0 (.slice none 0 0) [] from (by first | exact (unhide HS1).below hb2 | exact ((unhide HS1).below (alloc_under w1 _)).below hb2)); (first | (have X2 := hide ((unhide X1).below hb2); have x0 := (unhide X2).at 0 rfl; have x1 := (unhide X2).at 1 rfl; have x2 := (unhide X2).at 2 rfl; have x3 := (unhide X2).at 3 rfl; have xf := (unhide X2).frz) | (have X2 := hide ((bkA_new 32 w1 [.int .i64 0, .int .i64 0, .int .i64 0, .slice none 0 0]).below hb2); have x0 := (unhide X2).at 0 rfl; have x1 := (unhide X2).at 1 rfl; have x2 := (unhide X2).at 2 rfl; have x3 := (unhide X2).at 3 rfl; have xf := (unhide X2).frz) | skip); obtain ⟨t0, t1⟩ := unhide HSZ w2 (unhide D2); have hn2 : w2.heap.size ≠ w.heap.size := unhide HNE _ (unhide D2).size; clear hb2)
          | fail)
        all_goals (try go_wp2_with fail)
        all_goals go_meet
        all_goals first
          | (have hx1 := unhide X1; exact ⟨g, gb, W.heap.size, rfl, rfl, hide (pj_set4 (unhide HS2) (unhide X2) (Nat.le_refl _) (unhide D2) _ _ _ _)⟩)
          | (have hx2 := unhide X2; exact ⟨g, gb, w1.heap.size, rfl, rfl, hide (pj_set4 (unhide HS2) (unhide X2) (unhide D1).size (unhide D2) _ _ _ _)⟩)
          | exact ⟨g, gb, w2.heap.size, rfl, rfl, hide ⟨(unhide HS2).below (alloc_under w2 _), bkA_new 32 w2 (rrC (capN M0) (clampT T) 0 (.slice none 0 0)), (unhide D2).size, (unhide D2).alloc (unhide D2).size _⟩⟩
      case rest =>
        obtain ⟨g, gb, z, rfl, rfl, HC0⟩ := hcut
        clear m0 m1 HSZ hne1 HNE HBZ
        have htt := clamp_in T
        have hm256 := capN_le M0
        generalize clampT T = t at *
        generalize capN M0 = m at *
        go_wp2_with (go_at_call 9; refine (new_any a1 D.length c1 D _ ((unhide HD).below (unhide HC0).2.2.2) (by omega)).mono ?_; rintro e w3 ⟨gd, rfl, hg3, hd3, hb3⟩; have HG3 := hide hg3; have HD3 := hide hd3; have HB3 := hide hb3; clear hg3 hd3 hb3)
        have HP0 : Hid (PJ W (w3.alloc (.cells #[.slice a1 D.length c1, .int .i64 0] 38)) g gb m t 0 (.slice none 0 0) [] z 0 (.slice none 0 0) [] (ds.map DV.p) gd w3.heap.size D 0 w3.heap.size a1 c1 0) := hide (by
          obtain ⟨r1, r2, r3, r4⟩ := unhide HC0
          have hbn := alloc_under w3 (.cells #[.slice a1 D.length c1, .int .i64 0] 38)
          have hB3 := unhide HB3
          exact ⟨(r1.below hB3).below hbn, (r2.below hB3).below hbn, OwnP.nil _ _, (fun q hq => by cases hq), (fun j hj => by cases hj), (unhide HD3).below hbn, hbn.size, bk2_new _ _ _ _, Nat.le_trans r4.size (unhide HG3), Nat.le_trans r4.size hB3.size, r3, below0 (below0 r4 hB3) hbn⟩)
        generalize w3.alloc (.cells #[.slice a1 D.length c1, .int .i64 0] 38) = w4 at *
        clear HC0 HG3 HD3 HB3
        generalize w3.heap.size = gr at *
        obtain ⟨Bd, hBd⟩ : ∃ Bd, gr = Bd := ⟨_, rfl⟩
        rw [show PJ W w4 g gb m t 0 (.slice none 0 0) [] z 0 (.slice none 0 0) [] (ds.map DV.p) gd gr D 0 gr a1 c1 0 = PJ W w4 g gb m t 0 (.slice none 0 0) [] z 0 (.slice none 0 0) [] (ds.map DV.p) gd Bd D 0 gr a1 c1 0 by rw [hBd]] at HP0
        clear hBd
        go_loopw [11] (fun i wr => ∃ (j N : Nat) (I : Int) (v : Value) (qs : List PKV) (av : Option Addr) (cv : Nat) (cs : List PKV), j ≤ ds.length ∧ N ≤ j ∧ (0 ≤ I ∧ I ≤ j) ∧ i = .int .i64 j ∧ Hid (PJ W wr g gb m t I v qs z I (.slice av cs.length cv) cs (ds.map DV.p) gd Bd D N gr a1 c1 N) ∧ Hid (qs.map PKV.pd = cs.map PKV.pd)) (fun i _ => ds.length - (intOf i).toNat)
        case atStart => exact ⟨0, 0, 0, _, _, none, 0, [], Nat.zero_le _, Nat.le_refl _, ⟨Int.le_refl _, Int.le_refl _⟩, rfl, HP0, hide rfl⟩
        case round =>
          obtain ⟨j, N, I, v, qs, av, cv, cs, hj, hNj, hIj, rfl, HJ, HEQ⟩ := hrel
          clear HP0
          by_cases hlt : j < ds.length
          · have HOK := hide (fun wx (hb : Below W.heap.size W wx) => (unhide Hh).old hb hlt)
            obtain ⟨b, off, rfl, hkd, -⟩ := unhide HOK _ (unhide HJ).low
            have hlt' : (j : Int) < (ds.length : Int) := by omega
            have hrW := (unhide Hh).2.1 j hlt
            have hsz := unhide HS j
            have HME : Hid ((ds.getD j .dflt).p ∈ ds.map DV.p) := hide (List.mem_map_of_mem (by rw [List.getD_eq_getElem?_getD, List.getElem?_eq_getElem hlt]; exact List.getElem_mem hlt))
            have HQ : Hid (∀ wx, Below W.heap.size W wx → PkCells wx b (off + j * 8 + 1) (ds.getD j .dflt).p) := hide fun wx hb => by
              obtain ⟨b', off', eb, -, hc⟩ := unhide HOK wx hb
              simp only [Option.some.injEq, Addr.mk.injEq, and_true] at eb
              rwa [← eb.1, ← eb.2] at hc
            clear HOK
            generalize (ds.getD j .dflt).p = p at *
            generalize (ds.getD j .dflt).kd = kd at *
            by_cases hk1 : kd = 1
            · subst hk1
              have hks := InP.ks (unhide HIN) (unhide HJ).src (unhide HJ).low
              have hinv : BInv m (cs.map PKV.pd) := by rw [← unhide HEQ]; exact (unhide HJ).r.buf.inv
              have HSH := hide (short_kept hks hinv)
              have hcl : cs.length ≤ 256 := by have := hinv.le; rw [List.length_map] at this; omega
              have HE0 := rlemit_any g gb W.heap.size m t I v qs gd Bd D N wr ((unhide HT).below (unhide HJ).low) (unhide HJ).r (unhide HJ).d (unhide HJ).bd (by omega) htt
              have HRE0 := fun wx (hJ : PJ W wx g gb m t I v qs z I (.slice av cs.length cv) cs (ds.map DV.p) gd Bd D (usedO (qs.map PKV.pd) N) gr a1 c1 N) => rremit_any av cv m t I cs gr a1 c1 D N wx (hJ.own.at' (InP.ks (unhide HIN) hJ.src hJ.low)).1 (InP.ks (unhide HIN) hJ.src hJ.low) (unhide HSH) hcl hJ.f (by omega) ((unhide HD).below hJ.low) (by omega) htt
              simp only [← unhide HEQ] at HRE0
              have HLA := hide (show ∀ q : PKV, q.pd = (emitO (qs.map PKV.pd) D N t).getD zPK.pd → q.r.xs.length ≤ 1048576 from fun q hq => by
                have e : q.r.xs = q.pd.xs := rfl
                rw [e, hq]
                cases ho : emitO (qs.map PKV.pd) D N t with
                | none => exact Nat.zero_le _
                | some d =>
                  obtain ⟨ws, hm⟩ := emitO_mix ho
                  have h5 := okD_len (mixD_ok (unhide HJ).r.buf.inv.ok hm).1
                  show d.xs.length ≤ _
                  omega)
              have hul := usedO_le (qs.map PKV.pd) N
              unfold rrV at HRE0
              generalize emitO (qs.map PKV.pd) D N t = o at *
              generalize usedO (qs.map PKV.pd) N = N2 at *
              have HE := hide HE0
              have HRE := hide HRE0
              have HSM := hide (fun (x y : PKV) (hxy : x.pd = y.pd) wx (hx : RowAt wx x.r.a x.r.n x.r.xs) (hy : RowAt wx y.r.a y.r.n y.r.xs) (h1 : x.r.xs.length ≤ 1048576) (h2 : y.r.xs.length ≤ 1048576) => show Calls _ _ _ wx fun e w' => e = .returned (.bool true) ∧ Below wx.heap.size wx w' from by
                have := rpsame_is x y wx hx hy (by rw [← hx.1]; exact h1) (by rw [← hy.1]; exact h2)
                rwa [sameD_refl hxy] at this)
              clear HE0 HRE0 hks hinv hrW hsz hcl HQ
              go_wp2_with fail
              refine (unhide HE).mono ?_
              rintro e y1 ⟨he, hd1, hg1⟩
              obtain ⟨q, rfl, hq, hr⟩ := he.row
              unfold PKV.val
              have hb2 := alloc_under y1 (.cells #[.int .i64 q.o, .int .i64 q.l, .int .i64 q.k, .int .i64 q.z, .int .i64 q.h, .slice q.r.a q.r.n q.r.c, .string q.r.s] 42)
              have hJ2 := ((unhide HJ).drawD hd1 hg1).below hb2
              have HJ2 := hide hJ2
              have HK2 := hide (pkb_new y1 (.int .i64 q.o) (.int .i64 q.l) (.int .i64 q.k) (.int .i64 q.z) (.int .i64 q.h) (.slice q.r.a q.r.n q.r.c) (.string q.r.s))
              have HR2 := hide (hr.below hb2)
              have HQ2 := hide hq
              have u0 := hJ2.c.at 0 rfl
              have u1 := hJ2.c.at 1 rfl
              have u2 := hJ2.c.at 2 rfl
              have u3 := hJ2.c.at 3 rfl
              clear he hd1 hg1 hq hr hb2 hJ2 HE HJ
              go_wp2_with fail
              generalize hy2 : y1.alloc (.cells #[.int .i64 q.o, .int .i64 q.l, .int .i64 q.k, .int .i64 q.z, .int .i64 q.h, .slice q.r.a q.r.n q.r.c, .string q.r.s] 42) = y2 at *
              refine (unhide HRE y2 (unhide HJ2)).mono ?_
              rintro e y3 ⟨he, hf3, hg3⟩
              obtain ⟨x, rfl, hx, hr⟩ := he.row
              unfold PKV.val
              have hb4 := alloc_under y3 (.cells #[.int .i64 x.o, .int .i64 x.l, .int .i64 x.k, .int .i64 x.z, .int .i64 x.h, .slice x.r.a x.r.n x.r.c, .string x.r.s] 42)
              have hJ4 := ((unhide HJ2).drawF hf3 hg3).below hb4
              have hk3 : PkB y3 y1.heap.size (.int .i64 q.o) (.int .i64 q.l) (.int .i64 q.k) (.int .i64 q.z) (.int .i64 q.h) (.slice q.r.a q.r.n q.r.c) (.string q.r.s) := (hg3.block _ (unhide HK2).lt fun e => (unhide HJ2).f.not (unhide HK2) (by decide) (Option.some.inj e)).trans (unhide HK2)
              have hk2 := hk3.below hb4
              have hk4 := pkb_new y3 (.int .i64 x.o) (.int .i64 x.l) (.int .i64 x.k) (.int .i64 x.z) (.int .i64 x.h) (.slice x.r.a x.r.n x.r.c) (.string x.r.s)
              have HR4 := hide (hr.below hb4)
              have HR5 := hide (((unhide HR2).kept hg3 ((unhide HJ2).f.apart (unhide HR2))).below hb4)
              have HQ4 := hide hx
              have HJ4 := hide hJ4
              obtain ⟨f0, f1, f2, f3, f4, f5, f6⟩ := hk2.at
              obtain ⟨g0, g1, g2, g3, g4, g5, g6⟩ := hk4.at
              clear he hf3 hg3 hx hr hb4 hJ4 hk2 hk3 hk4 hy2 HRE u0 u1 u2 u3 HJ2 HK2
              generalize o.isSome = ob at *
              have hob : (ob != ob) = false := by cases ob <;> rfl
              have HPQ := hide ((unhide HQ2).trans (unhide HQ4).symm)
              have HN1 := hide (unhide HLA q (unhide HQ2))
              have HN2 := hide (unhide HLA x (unhide HQ4))
              go_wp2_with fail
              generalize hy4 : y3.alloc (.cells #[.int .i64 x.o, .int .i64 x.l, .int .i64 x.k, .int .i64 x.z, .int .i64 x.h, .slice x.r.a x.r.n x.r.c, .string x.r.s] 42) = y4 at *
              refine (unhide HSM q x (unhide HPQ) y4 (unhide HR5) (unhide HR4) (unhide HN1) (unhide HN2)).mono ?_
              rintro e y5 ⟨rfl, hb5⟩
              have HJ5 := hide ((unhide HJ4).below hb5)
              clear hb5 hy4 HJ4 f0 f1 f2 f3 f4 f5 f6 g0 g1 g2 g3 g4 g5 g6 HPQ HN1 HN2 HSM HLA HQ2 HQ4 HR2 HR4 HR5
              have hll : qs.length = cs.length := by have := congrArg List.length (unhide HEQ); simpa using this
              have HK0 := fun wx (hb : Below y5.heap.size y5 wx) => rlkept_any g gb _ m t I v qs wx ((unhide HJ5).below hb).r
              have HK1 := fun wx (hb : Below y5.heap.size y5 wx) => rlrank_any g gb _ m t I v qs wx ((unhide HJ5).below hb).r
              rw [hll] at HK0 HK1
              have HKE := hide HK0
              have HRK := hide HK1
              have HIN2 := hide (fun wx (hb : Below y5.heap.size y5 wx) => rlinc_any g gb _ m t I v qs wx ((unhide HJ5).below hb).r)
              have HUS := hide (fun wx (hb : Below y5.heap.size y5 wx) => used_any gd Bd D N2 wx ((unhide HJ5).below hb).d)
              have b2 := (unhide HJ5).c.at 2 rfl
              have b3 := (unhide HJ5).c.at 3 rfl
              have b9 := (unhide HJ5).f.at1
              clear hll HK0 HK1
              go_wp2_with fail
              go_region_held3 (fun w' => w'.cell? ⟨z, 2, none⟩ = some (.int .i64 I) ∧ w'.cell? ⟨z, 3, none⟩ = some (.slice av cs.length cv) ∧ w'.cell? ⟨gr, 1, none⟩ = some (.int .i64 (N2 : Int))) (go_keep) (first
                | (go_at_call 16; refine (unhide HKE _ (Below.refl _ _).drew).mono ?_; rintro e x ⟨rfl, hx⟩; obtain rfl := hx.symm; clear hx)
                | (go_at_call 17; refine (unhide HRK _ (Below.refl _ _).drew).mono ?_; rintro e x ⟨rfl, hx⟩; obtain rfl := hx.symm; clear hx)
                | (go_at_call 18; refine (unhide HIN2 _ (Below.refl _ _).drew).mono ?_; rintro e x ⟨rfl, hx⟩; obtain rfl := hx.symm; clear hx)
                | (go_at_call 19; refine (unhide HUS _ (Below.refl _ _).drew).mono ?_; rintro e x ⟨rfl, hx⟩; obtain rfl := hx.symm; clear hx))
              go_wp2
              go_roundw
              case rel => exact ⟨j + 1, N2, I, v, qs, av, cv, cs, by omega, by omega, ⟨by omega, by omega⟩, by go_num, hide ((unhide HJ5).below (Below.refl _ _).drew), HEQ⟩
              case measure => simp [intOf]; omega
            · by_cases hk2 : kd = 2
              · subst hk2
                have HCR := hide (rlcrash_any g gb W.heap.size m t I v qs wr (unhide HJ).r (by omega))
                clear hrW hsz HQ
                go_wp2_with fail
                refine (unhide HCR).mono ?_
                rintro e y1 ⟨rfl, hr1, ht1⟩
                have hJ1 := (unhide HJ).relay hr1 ht1 (.inr fun j hj => by cases hj)
                have HJ1 := hide hJ1
                have u2 := hJ1.c.at 2 rfl
                have u3 := hJ1.c.at 3 rfl
                have uf := hJ1.c.frz
                have hJ2 := hJ1.write (ib' := I + 1) (vc' := .slice none 0 0) (cs' := []) ((hJ1.c.set 3 (.slice none 0 0)).set 2 (.int .i64 (I + 1))) (set_tu2 y1 z 3 2 (.slice none 0 0) (.int .i64 (I + 1))) (OwnP.nil _ _) (fun q hq => by cases hq) (fun j hj => by cases hj)
                have HX2 : Hid (∃ (v2 : Value) (es fs : List PKV) (av2 : Option Addr) (cv2 : Nat), PJ W ((y1.setCell ⟨z, 3, none⟩ (.slice none 0 0)).setCell ⟨z, 2, none⟩ (.int .i64 (I + 1))) g gb m t (I + 1) v2 es z (I + 1) (.slice av2 fs.length cv2) fs (ds.map DV.p) gd Bd D N gr a1 c1 N ∧ es.map PKV.pd = fs.map PKV.pd) := hide ⟨_, [], [], none, 0, hJ2, rfl⟩
                clear hr1 ht1 hJ1 hJ2 HCR HJ HJ1
                go_wp2_with fail
                generalize hy2 : (y1.setCell ⟨z, 3, none⟩ (.slice none 0 0)).setCell ⟨z, 2, none⟩ (.int .i64 (I + 1)) = y2 at *
                obtain ⟨v2, es, fs, av2, cv2, hJ3, hE3⟩ := unhide HX2
                have HJ3 := hide hJ3
                have HE3 := hide hE3
                clear hJ3 hE3 HX2 hy2 u2 u3 uf
                have hll : es.length = fs.length := by have := congrArg List.length (unhide HE3); simpa using this
                have HK0 := fun wx (hb : Below y2.heap.size y2 wx) => rlkept_any g gb _ m t (I + 1) v2 es wx ((unhide HJ3).below hb).r
                have HK1 := fun wx (hb : Below y2.heap.size y2 wx) => rlrank_any g gb _ m t (I + 1) v2 es wx ((unhide HJ3).below hb).r
                rw [hll] at HK0 HK1
                have HKE := hide HK0
                have HRK := hide HK1
                have HIN2 := hide (fun wx (hb : Below y2.heap.size y2 wx) => rlinc_any g gb _ m t (I + 1) v2 es wx ((unhide HJ3).below hb).r)
                have HUS := hide (fun wx (hb : Below y2.heap.size y2 wx) => used_any gd Bd D N wx ((unhide HJ3).below hb).d)
                have b2 := (unhide HJ3).c.at 2 rfl
                have b3 := (unhide HJ3).c.at 3 rfl
                have b9 := (unhide HJ3).f.at1
                clear hll HK0 HK1
                go_wp2_with fail
                go_region_held3 (fun w' => w'.cell? ⟨z, 2, none⟩ = some (.int .i64 (I + 1)) ∧ w'.cell? ⟨z, 3, none⟩ = some (.slice av2 fs.length cv2) ∧ w'.cell? ⟨gr, 1, none⟩ = some (.int .i64 (N : Int))) (go_keep) (first
                  | (go_at_call 16; refine (unhide HKE _ (Below.refl _ _).drew).mono ?_; rintro e x ⟨rfl, hx⟩; obtain rfl := hx.symm; clear hx)
                  | (go_at_call 17; refine (unhide HRK _ (Below.refl _ _).drew).mono ?_; rintro e x ⟨rfl, hx⟩; obtain rfl := hx.symm; clear hx)
                  | (go_at_call 18; refine (unhide HIN2 _ (Below.refl _ _).drew).mono ?_; rintro e x ⟨rfl, hx⟩; obtain rfl := hx.symm; clear hx)
                  | (go_at_call 19; refine (unhide HUS _ (Below.refl _ _).drew).mono ?_; rintro e x ⟨rfl, hx⟩; obtain rfl := hx.symm; clear hx))
                go_wp2
                go_roundw
                case rel => exact ⟨j + 1, N, (I + 1), v2, es, av2, cv2, fs, by omega, by omega, ⟨by omega, by omega⟩, by go_num, hide ((unhide HJ3).below (Below.refl _ _).drew), HE3⟩
                case measure => simp [intOf]; omega
              · have hk3 : (kd == 1) = false := by rw [beq_eq_false_iff_ne]; exact hk1
                have hk4 : (kd == 2) = false := by rw [beq_eq_false_iff_ne]; exact hk2
                have hks := InP.ks (unhide HIN) (unhide HJ).src (unhide HJ).low
                have hinv : BInv m (cs.map PKV.pd) := by rw [← unhide HEQ]; exact (unhide HJ).r.buf.inv
                have HRP0 := fun wx (hb : Below wr.heap.size wr wx) => rrput_any av cv m t I cs p wx (((unhide HJ).below hb).own.at' (hks.below hb)).1 (hks.below hb) hinv hm256 (hrW.below ((unhide HJ).below hb).low) hsz.1
                unfold rrV PKV.val at HRP0
                have HRP := hide HRP0
                have HBK := hide (fun wx (hb : Below wr.heap.size wr wx) => (unhide HJ).c.below hb)
                have HLW := hide (fun wx (hb : Below wr.heap.size wr wx) => below0 (unhide HJ).low hb)
                have HBZ2 : Hid (Below wr.heap.size wr (wr.drew.alloc (.cells #[.int .i64 0, .int .i64 0, .int .i64 0, .slice none 0 0] 32))) := hide ((Below.refl _ _).drew.alloc (Nat.le_refl _) _)
                have hzr : z < wr.heap.size := (unhide HJ).c.lt
                obtain ⟨q0, q1, q2, q3, q4, q5, q6⟩ := unhide HQ wr (unhide HJ).low
                have hbr : b < wr.heap.size := World.block_lt_of_cell? wr _ q0
                have k0 := (unhide HJ).c.at 0 rfl
                have k1 := (unhide HJ).c.at 1 rfl
                have k2 := (unhide HJ).c.at 2 rfl
                have k3 := (unhide HJ).c.at 3 rfl
                have hnr1 : wr.heap.size ≠ z := by omega
                have hnr2 : wr.heap.size ≠ b := by omega
                have HNE2 := hide (show ∀ i, wr.heap.size ≤ i → i ≠ z ∧ i ≠ b from fun i hi => by omega)
                have HTE : Hid (takeD m (cs.map PKV.pd) p.pd = takeD m (qs.map PKV.pd) p.pd ∧ bput m (cs.map PKV.pd) p.pd = bput m (qs.map PKV.pd) p.pd) := hide (by rw [unhide HEQ]; exact ⟨rfl, rfl⟩)
                clear hks hinv HRP0
                go_wp2_with fail
                go_cut [16, 17] from 53 to 62 (fun u e wx => ∃ zq v3 cs3, u = .pointer (some ⟨zq, 0, none⟩) ∧ e = .bool (takeD m (cs.map PKV.pd) p.pd) ∧ Hid (BkA 32 wx zq (rrC m t I v3) ∧ cs3.map PKV.pd = bput m (cs.map PKV.pd) p.pd ∧ ((v3 = .slice av cs.length cv ∧ cs3 = cs) ∨ OwnP wx wr.heap.size v3 cs3) ∧ (∀ q ∈ cs3, q ∈ cs ∨ q = p) ∧ Below wr.heap.size wr wx))
                case first =>
                  go_region_held3 (fun w' => w'.cell? ⟨b, off + j * 8 + 1, none⟩ = some (.int .i64 p.o) ∧ w'.cell? ⟨b, off + j * 8 + 1 + 1, none⟩ = some (.int .i64 p.l) ∧ w'.cell? ⟨b, off + j * 8 + 1 + 2, none⟩ = some (.int .i64 p.k) ∧ w'.cell? ⟨b, off + j * 8 + 1 + 3, none⟩ = some (.int .i64 p.z) ∧ w'.cell? ⟨b, off + j * 8 + 1 + 4, none⟩ = some (.int .i64 p.h) ∧ w'.cell? ⟨b, off + j * 8 + 1 + 5, none⟩ = some (.slice p.r.a p.r.n p.r.c) ∧ w'.cell? ⟨b, off + j * 8 + 1 + 6, none⟩ = some (.string p.r.s) ∧ w'.cell? ⟨z, 0, none⟩ = some (.int .i64 (m : Int)) ∧ w'.cell? ⟨z, 1, none⟩ = some (.int .i64 t) ∧ w'.cell? ⟨z, 2, none⟩ = some (.int .i64 I) ∧ w'.cell? ⟨z, 3, none⟩ = some (.slice av cs.length cv)) (go_keep) (first
                    | (go_at_call 14; refine (unhide HRP _ (by first | exact (Below.refl _ _).drew | exact unhide HBZ2)).mono ?_; rintro e w2 ⟨v3, cs3, rfl, hp3, ho3, hs3, hb3⟩; unfold rrV; obtain ⟨a3, n3, c3, rfl⟩ : ∃ a3 n3 c3, v3 = Value.slice a3 n3 c3 := (by rcases ho3 with ⟨e, _⟩ | ho3; exact ⟨_, _, _, e⟩; obtain ⟨a3, c3, e⟩ := ho3.shape; exact ⟨_, _, _, e⟩); have D2 := hide (show Below wr.heap.size wr w2 from below0 (by first | exact (Below.refl _ _).drew | exact unhide HBZ2) hb3); have HP3 := hide hp3; have HO3 := hide (show (Value.slice a3 n3 c3 = .slice av cs.length cv ∧ cs3 = cs) ∨ OwnP w2 wr.heap.size (.slice a3 n3 c3) cs3 from ho3.imp id fun q => q.mono (by first | exact Nat.le_refl _ | exact (unhide HBZ2).size)); have HS3 := hide hs3; (first | (have X2 := hide (show BkA 32 w2 wr.heap.size [.int .i64 0, .int .i64 0, .int .i64 0, .slice none 0 0] from (bkA_new 32 wr.drew [.int .i64 0, .int .i64 0, .int .i64 0, .slice none 0 0]).below hb3); have x0 := (unhide X2).at 0 rfl; have x1 := (unhide X2).at 1 rfl; have x2 := (unhide X2).at 2 rfl; have x3 := (unhide X2).at 3 rfl; have xf := (unhide X2).frz) | skip); have t0 := (unhide HBK _ (unhide D2)).at 0 rfl; have t1 := (unhide HBK _ (unhide D2)).at 1 rfl; have t2 := (unhide HBK _ (unhide D2)).at 2 rfl; have t3 := (unhide HBK _ (unhide D2)).at 3 rfl; obtain ⟨d0, d1, d2, d3, d4, d5, d6⟩ := unhide HQ _ (unhide HLW _ (unhide D2)); obtain ⟨hn1, hn2⟩ := unhide HNE2 _ (unhide D2).size; clear hp3 ho3 hs3 hb3)
                    | fail)
                  all_goals (try go_wp2_with fail)
                  all_goals go_meet
                  all_goals first
                    | (have hx2 := unhide X2; exact ⟨wr.heap.size, _, cs3, rfl, rfl, hide ⟨(unhide X2).set4 _ _ _ _, unhide HP3, (unhide HO3).imp id fun q => q.tu (set_tu4 _ _ _ _ _ _) (fun j hj e => (unhide X2).neP q (by decide) (e ▸ hj)), unhide HS3, (unhide D2).trans ((set_tu4 _ _ _ _ _ _).below (unhide D2).size fun j hj e => by omega)⟩⟩)
                    | exact ⟨w2.heap.size, _, cs3, rfl, rfl, hide ⟨bkA_new 32 w2 (rrC m t I (.slice a3 n3 c3)), unhide HP3, (unhide HO3).imp id fun q => q.below (alloc_under w2 _), unhide HS3, below0 (unhide D2) (alloc_under w2 _)⟩⟩
                case rest =>
                  obtain ⟨zq, v3, cs3, rfl, rfl, HQ3⟩ := hcut
                  obtain ⟨hq4, hp3, ho3, hs3, hb3⟩ := unhide HQ3
                  obtain ⟨a3, c3, rfl⟩ : ∃ a3 c3, v3 = Value.slice a3 cs3.length c3 := by
                    rcases ho3 with ⟨e, e2⟩ | ho3
                    · exact ⟨_, _, by rw [e, e2]⟩
                    · exact ho3.shape
                  have hJ1 := (unhide HJ).below hb3
                  obtain ⟨ho4, hse4⟩ := (unhide HJ).sep' hb3 ho3
                  have hJ2 := hJ1.write (ib' := I) (vc' := .slice a3 cs3.length c3) (cs' := cs3) (hJ1.c.set4 (.int .i64 (m : Int)) (.int .i64 t) (.int .i64 I) (.slice a3 cs3.length c3)) (set_tu4 wc z (.int .i64 (m : Int)) (.int .i64 t) (.int .i64 I) (.slice a3 cs3.length c3)) ho4 (fun q hq => (hs3 q hq).elim (fun e => (unhide HJ).src q e) (fun e => by rw [e]; exact unhide HME)) hse4
                  have x0 := hq4.at 0 rfl
                  have x1 := hq4.at 1 rfl
                  have x2 := hq4.at 2 rfl
                  have x3 := hq4.at 3 rfl
                  have z0 := hJ1.c.at 0 rfl
                  have z1 := hJ1.c.at 1 rfl
                  have z2 := hJ1.c.at 2 rfl
                  have z3 := hJ1.c.at 3 rfl
                  have zf := hJ1.c.frz
                  have HJ2 := hide hJ2
                  have HP3 := hide hp3
                  clear hJ1 hJ2 ho4 hse4 hq4 hp3 ho3 hs3 hb3 HQ3 HRP HBK HLW HBZ2 HNE2 hnr1 hnr2 q0 q1 q2 q3 q4 q5 q6 k0 k1 k2 k3 HJ
                  generalize hF : (((wc.setCell ⟨z, 0, none⟩ (.int .i64 (m : Int))).setCell ⟨z, 1, none⟩ (.int .i64 t)).setCell ⟨z, 2, none⟩ (.int .i64 I)).setCell ⟨z, 3, none⟩ (.slice a3 cs3.length c3) = Y at *
                  obtain ⟨d0, d1, d2, d3, d4, d5, d6⟩ := unhide HQ Y (unhide HJ2).low
                  have HPU := hide (rlput_in (unhide HT) (unhide HJ2).r (unhide HJ2).low p hrW hsz.1 hsz.2)
                  have HTT := hide (unhide HTE).1
                  have HBE : Hid (cs3.map PKV.pd = bput m (qs.map PKV.pd) p.pd) := hide ((unhide HP3).trans (unhide HTE).2)
                  rw [unhide HTT]
                  obtain ⟨TK, hTK⟩ : ∃ TK, takeD m (qs.map PKV.pd) p.pd = TK := ⟨_, rfl⟩
                  rw [hTK]
                  have HTK := hide hTK
                  have hne : (TK != TK) = false := by cases TK <;> rfl
                  clear hTK hrW hsz HTE HTT HP3
                  go_wp2_with fail
                  refine (unhide HPU).mono ?_
                  rintro e y2 ⟨he2, v2, qs2, hr2, hp2, ht2, hm2⟩
                  rw [unhide HTK] at he2
                  subst he2
                  have HJ3 := hide ((unhide HJ2).relay hr2 ht2 hm2)
                  have HE3 := hide (show qs2.map PKV.pd = cs3.map PKV.pd by rw [hp2, unhide HBE])
                  clear hr2 hp2 ht2 hm2 HPU HBE HJ2 HTK d0 d1 d2 d3 d4 d5 d6 x0 x1 x2 x3 z0 z1 z2 z3 zf hF HQ HEQ
                  have hll : qs2.length = cs3.length := by have := congrArg List.length (unhide HE3); simpa using this
                  have HK0 := fun wx (hb : Below y2.heap.size y2 wx) => rlkept_any g gb _ m t I v2 qs2 wx ((unhide HJ3).below hb).r
                  have HK1 := fun wx (hb : Below y2.heap.size y2 wx) => rlrank_any g gb _ m t I v2 qs2 wx ((unhide HJ3).below hb).r
                  rw [hll] at HK0 HK1
                  have HKE := hide HK0
                  have HRK := hide HK1
                  have HIN2 := hide (fun wx (hb : Below y2.heap.size y2 wx) => rlinc_any g gb _ m t I v2 qs2 wx ((unhide HJ3).below hb).r)
                  have HUS := hide (fun wx (hb : Below y2.heap.size y2 wx) => used_any gd Bd D N wx ((unhide HJ3).below hb).d)
                  have b2 := (unhide HJ3).c.at 2 rfl
                  have b3 := (unhide HJ3).c.at 3 rfl
                  have b9 := (unhide HJ3).f.at1
                  clear hll HK0 HK1
                  go_wp2_with fail
                  go_region_held3 (fun w' => w'.cell? ⟨z, 2, none⟩ = some (.int .i64 I) ∧ w'.cell? ⟨z, 3, none⟩ = some (.slice a3 cs3.length c3) ∧ w'.cell? ⟨gr, 1, none⟩ = some (.int .i64 (N : Int))) (go_keep) (first
                    | (go_at_call 16; refine (unhide HKE _ (Below.refl _ _).drew).mono ?_; rintro e x ⟨rfl, hx⟩; obtain rfl := hx.symm; clear hx)
                    | (go_at_call 17; refine (unhide HRK _ (Below.refl _ _).drew).mono ?_; rintro e x ⟨rfl, hx⟩; obtain rfl := hx.symm; clear hx)
                    | (go_at_call 18; refine (unhide HIN2 _ (Below.refl _ _).drew).mono ?_; rintro e x ⟨rfl, hx⟩; obtain rfl := hx.symm; clear hx)
                    | (go_at_call 19; refine (unhide HUS _ (Below.refl _ _).drew).mono ?_; rintro e x ⟨rfl, hx⟩; obtain rfl := hx.symm; clear hx))
                  go_wp2
                  go_roundw
                  case rel => exact ⟨j + 1, N, I, v2, qs2, a3, c3, cs3, by omega, by omega, ⟨by omega, by omega⟩, by go_num, hide ((unhide HJ3).below (Below.refl _ _).drew), HE3⟩
                  case measure => simp [intOf]; omega
          · go_wp2_with (go_at_call 6; refine (unhide HAW _ (unhide HJ).low).mono ?_; rintro e w6 ⟨rfl, hb6⟩; have HB6 := hide (below0 (unhide HJ).low hb6); clear hb6)
            go_ret
            exact ⟨rfl, below0 (unhide HB0) (unhide HB6)⟩
  · go_enter Tryz.func3, Tryz.ntmps3
    go_wp2_with (first
      | (go_at_call 5; refine (unhide HF).mono ?_; rintro e w1 ⟨he, hw1⟩; obtain rfl := hw1.symm; obtain rfl := few_no he hf; clear hw1 he HF)
      | (go_at_call 6; refine (unhide HAW _ (Below.refl _ _)).mono ?_; rintro e w2 ⟨rfl, hb2⟩; have HB2 := hide hb2; clear hb2))
    go_ret
    exact ⟨rfl, below0 (unhide HB0) (unhide HB2)⟩
end Go.Proofs.YtbcgiodgobmkaaaGreatDoor
