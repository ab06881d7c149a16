/-
  Two relays side by side; the walk of RelayCrash: for every input it tells true and writes nothing that was there.
-/
import Derived.Test.YtmdmipojbeppiaaGreatDoorM25
namespace Go.Proofs.YtmdmipojbeppiaaGreatDoor
open Go.RowKit Go.Sort
set_option linter.unusedVariables false
set_option maxRecDepth 4000

/-- Two relays that share nothing. -/
structure TwoR (w : World) (ga ha gb hb B m : Nat) (t ia ib : Int) (va vb : Value) (ps qs : List PKV) : Prop where
  a : RlAt w ga ha B m t ia va ps
  b : RlAt w gb hb B m t ib vb qs
  ne : ga ≠ gb
  neb : ha ≠ hb
  sep : ∀ j, va.ownBlock = some j → vb.ownBlock ≠ some j
theorem TwoR.swap {w : World} {ga ha gb hb B m : Nat} {t ia ib : Int} {va vb : Value} {ps qs : List PKV} (h : TwoR w ga ha gb hb B m t ia ib va vb ps qs) : TwoR w gb hb ga ha B m t ib ia vb va qs ps := ⟨h.b, h.a, h.ne.symm, h.neb.symm, fun j hj e => h.sep j e hj⟩
theorem TwoR.below {w w' : World} {ga ha gb hb B m : Nat} {t ia ib : Int} {va vb : Value} {ps qs : List PKV} (h : TwoR w ga ha gb hb B m t ia ib va vb ps qs) (hw : Below w.heap.size w w') : TwoR w' ga ha gb hb B m t ia ib va vb ps qs := ⟨h.a.below hw, h.b.below hw, h.ne, h.neb, h.sep⟩
theorem TwoR.left {w w' : World} {ga ha gb hb B m : Nat} {t ia ia' ib : Int} {va vb va' : Value} {ps qs ps' : List PKV} (h : TwoR w ga ha gb hb B m t ia ib va vb ps qs) (hd : RlAt w' ga ha B m t ia' va' ps') (ht : Tu (rlF ga ha va) w w') (hm : MvB w va va') : TwoR w' ga ha gb hb B m t ia' ib va' vb ps' qs := by
  refine ⟨hd, h.b.tu ht (fun j hj hf => ?_) h.a.words, h.ne, h.neb, fun j hj e => ?_⟩
  · rcases hj with rfl | rfl | hj <;> rcases hf with hf | hf | hf
    · exact h.ne hf.symm
    · exact h.b.blk.ne h.a.buf.blk (by decide) hf
    · exact h.b.blk.neP h.a.buf.own (by decide) hf
    · exact h.a.blk.ne h.b.buf.blk (by decide) hf.symm
    · exact h.neb hf.symm
    · exact h.b.buf.blk.neP h.a.buf.own (by decide) hf
    · exact h.a.blk.neP h.b.buf.own (by decide) (hf ▸ hj)
    · exact h.a.buf.blk.neP h.b.buf.own (by decide) (hf ▸ hj)
    · exact h.sep j hf hj
  · rcases hm with q | q
    · exact h.sep j (q ▸ hj) e
    · have h1 := q j hj
      have h2 := (World.ownsRow.lt h.b.buf.own j e).2
      omega
set_option maxHeartbeats 16000000 in
theorem rlcrash_walk (M T : Int) (a : Option Addr) (n c : Nat) (ps : List PKV) (a2 : Option Addr) (n2 c2 : Nat) (ps2 : List PKV) (w : World) (ht : Tab w) (h : PksAt w a n ps) (hn : n ≤ 9223372036854775807) (hbig : (∀ i, (ps.getD i .dflt).r.n ≤ 9223372036854775807 ∧ (ps.getD i .dflt).r.s.size ≤ 9223372036854775807))
    (h2 : PksAt w a2 n2 ps2) (hn2 : n2 ≤ 9223372036854775807) (hbig2 : (∀ i, (ps2.getD i .dflt).r.n ≤ 9223372036854775807 ∧ (ps2.getD i .dflt).r.s.size ≤ 9223372036854775807)) :
    Calls Tryz.prog 5 #[.agg #[.int .i64 M, .int .i64 T], .slice a n c, .slice a2 n2 c2] w fun e w' => e = .returned (.bool true) ∧ Below w.heap.size w w' := by
  obtain rfl := h.1
  obtain rfl := h2.1
  have hb0 : Below w.heap.size w (w.alloc (.cells #[.int .i64 M, .int .i64 T] 23)) := (Below.refl _ _).alloc (Nat.le_refl _) _
  have hbx : BkA 23 (w.alloc (.cells #[.int .i64 M, .int .i64 T] 23)) w.heap.size [.int .i64 M, .int .i64 T] := bkA_new 23 w _
  generalize hWW : w.alloc (.cells #[.int .i64 M, .int .i64 T] 23) = W at *
  have HAW := hide (fun (w1 : World) (hb : Below W.heap.size W w1) => awake_any w1 ((ht.below hb0).below hb))
  have HF := hide (fewP_any a ps.length c ps W (h.below hb0) hn hbig)
  have HG := hide (fewP_any a2 ps2.length c2 ps2 W (h2.below hb0) hn2 hbig2)
  have HT := hide (ht.below hb0)
  have Hh := hide (h.below hb0)
  have Hh2 := hide (h2.below hb0)
  have HB0 := hide hb0
  have HBX := hide hbx
  have m0 := hbx.at 0 rfl
  have m1 := hbx.at 1 rfl
  clear h h2 ht hbig hbig2 hb0 hbx
  go_enter Tryz.func5, Tryz.ntmps5
  go_wp2_with fail
  refine (unhide HF).mono ?_
  rintro e w1 ⟨he, hw1⟩
  obtain rfl := hw1.symm
  clear HF hw1
  rcases he with ⟨rfl, hf⟩ | ⟨rfl, hf⟩
  case inr =>
    clear hf HG
    go_wp2_with (go_at_call 9; refine (unhide HAW _ (Below.refl _ _)).mono ?_; rintro e w1 ⟨rfl, hb1⟩)
    go_ret
    exact ⟨rfl, below0 (unhide HB0) hb1⟩
  have HS := hide hf.2
  have hl : ps.length ≤ 60 := hf.1
  clear hf
  go_wp2_with fail
  refine (unhide HG).mono ?_
  rintro e w1 ⟨he, hw1⟩
  obtain rfl := hw1.symm
  clear HG hw1
  rcases he with ⟨rfl, hf⟩ | ⟨rfl, hf⟩
  case inr =>
    clear hf
    go_wp2_with (go_at_call 9; refine (unhide HAW _ (Below.refl _ _)).mono ?_; rintro e w1 ⟨rfl, hb1⟩)
    go_ret
    exact ⟨rfl, below0 (unhide HB0) hb1⟩
  have HS2 := hide hf.2
  have hl2 : ps2.length ≤ 60 := hf.1
  have HF1 : Hid True := hide trivial
  clear hf
  go_wp2_with fail
  go_region_held3 (fun w' => w'.cell? ⟨w.heap.size, 0, none⟩ = some (.int .i64 M) ∧ w'.cell? ⟨w.heap.size, 1, none⟩ = some (.int .i64 T)) (go_keep) (first
    | (clear HF1; go_at_call 10; refine (rlnew_any M T _).mono ?_; rintro e w1 ⟨ga, ha, rfl, hr1, hb1⟩; have HR1 := hide hr1; have hB1 := below0 (Below.refl W.heap.size W).drew hb1; have HB1 := hide hB1; have p0 := ((unhide HBX).below hB1).at 0 rfl; have p1 := ((unhide HBX).below hB1).at 1 rfl; clear hr1 hb1 hB1)
    | (go_at_call 10; refine (rlnew_any M T w1).mono ?_; rintro e w2 ⟨gb, hb, rfl, hr2, hb2⟩; have HR2 := hide hr2; have hB2 := below0 (unhide HB1) hb2; have HB2 := hide hB2; have HL2 := hide hb2; have r0 := ((unhide HBX).below hB2).at 0 rfl; have r1 := ((unhide HBX).below hB2).at 1 rfl; clear hr2 hb2 hB2))
  have HTW : Hid (TwoR w2 ga ha gb hb W.heap.size (capN M) (clampT T) 0 0 (.slice none 0 0) (.slice none 0 0) [] []) := hide ⟨(unhide HR1).below (unhide HL2), (unhide HR2).mono (unhide HB1).size, fun e => by
    have h1 := (unhide HR1).lt
    have h2 := (unhide HR2).lo
    omega, fun e => by
    have h1 := (unhide HR1).buf.lt
    have h2 := (unhide HR2).buf.lo
    omega, fun j hj => by cases hj⟩
  have htt := clamp_in T
  generalize clampT T = t at *
  clear HR1 HR2 HL2 HB1 m0 m1 p0 p1 r0 r1
  go_wp2
  go_loopw [9] (fun i wr => ∃ (j : Nat) (v : Value) (qs : List PKV), j ≤ ps.length ∧ i = .int .i64 j ∧ Hid (TwoR wr ga ha gb hb W.heap.size (capN M) t 0 0 v (.slice none 0 0) qs []) ∧ Hid (Below W.heap.size W wr)) (fun i _ => ps.length - (intOf i).toNat)
  case atStart => exact ⟨0, _, _, Nat.zero_le _, rfl, HTW, HB2⟩
  case round =>
    obtain ⟨j, v, qs, hj, rfl, HD, HB⟩ := hrel
    clear HTW HB2
    by_cases hlt : j < ps.length
    · obtain ⟨b, off, rfl, ⟨q0, q1, q2, q3, q4, q5, q6⟩, -⟩ := (unhide Hh).oldk (unhide HB) hlt
      have hlt' : (j : Int) < (ps.length : Int) := by omega
      have hrW := (unhide Hh).2.1 j hlt
      have hsz := unhide HS j
      generalize ps.getD j .dflt = p at *
      have HP := hide (rlput_in (unhide HT) (unhide HD).a (unhide HB) p hrW hsz.1 hsz.2)
      clear hrW hsz
      go_wp2_with fail
      refine (unhide HP).mono ?_
      rintro e w3 ⟨rfl, v2, qs2, hd2, -, ht2, hm2⟩
      have HB2 := hide ((unhide HD).a.step (unhide HB) ht2)
      have HD2 := hide ((unhide HD).left hd2 ht2 hm2)
      clear hd2 ht2 hm2 HP HD HB q0 q1 q2 q3 q4 q5 q6
      generalize takeD (capN M) (qs.map PKV.pd) p.pd = TK at *
      go_wp2
      go_roundw
      case rel => exact ⟨j + 1, _, _, by omega, by go_num, HD2, HB2⟩
      case measure => simp [intOf]; omega
    · have HCL := hide (rlcrash_any _ _ _ _ _ _ _ _ _ (unhide HD).a (by decide))
      go_wp2_with fail
      refine (unhide HCL).mono ?_
      rintro e X ⟨rfl, hdx, htx⟩
      have HBX2 := hide ((unhide HD).a.step (unhide HB) htx)
      have HTX := hide ((unhide HD).left hdx htx (.inr fun j hj => by cases hj))
      clear hdx htx HCL HD HB
      go_wp2
      go_loopw [10] (fun i wq => ∃ (j : Nat) (va vb : Value) (qa qb : List PKV), j ≤ ps2.length ∧ i = .int .i64 j ∧ Hid (TwoR wq ga ha gb hb W.heap.size (capN M) t (0 + 1) 0 va vb qa qb) ∧ Hid (qa.map PKV.pd = qb.map PKV.pd) ∧ Hid (Below W.heap.size W wq)) (fun i _ => ps2.length - (intOf i).toNat)
      case atStart => exact ⟨0, _, _, _, _, Nat.zero_le _, rfl, HTX, hide rfl, HBX2⟩
      case round =>
        obtain ⟨j, va, vb, qa, qb, hj, rfl, HD, HE, HB⟩ := hrel
        clear HTX HBX2
        by_cases hlt : j < ps2.length
        · have HOK := hide (fun wx (hb : Below W.heap.size W wx) => (unhide Hh2).oldk hb hlt)
          obtain ⟨b, off, rfl, ⟨q0, q1, q2, q3, q4, q5, q6⟩, -⟩ := unhide HOK _ (unhide HB)
          have hlt' : (j : Int) < (ps2.length : Int) := by omega
          have hrW := (unhide Hh2).2.1 j hlt
          have hsz := unhide HS2 j
          generalize ps2.getD j .dflt = p at *
          have HP := hide (fun wx va vb qa qb (hd : TwoR wx ga ha gb hb W.heap.size (capN M) t (0 + 1) 0 va vb qa qb) (hb : Below W.heap.size W wx) => rlput_in (unhide HT) hd.a hb p hrW hsz.1 hsz.2)
          have HPb := hide (fun wx va vb qa qb (hd : TwoR wx ga ha gb hb W.heap.size (capN M) t (0 + 1) 0 va vb qa qb) (hb : Below W.heap.size W wx) => rlput_in (unhide HT) hd.b hb p hrW hsz.1 hsz.2)
          have HQ : Hid (∀ wx, Below W.heap.size W wx → PkCells wx b (off + j * 7) p) := hide fun wx hb => by
            obtain ⟨b', off', eb, hc, -⟩ := unhide HOK wx hb
            simp only [Option.some.injEq, Addr.mk.injEq, and_true] at eb
            rwa [← eb.1, ← eb.2] at hc
          have HDR : Hid (TwoR wr.drew ga ha gb hb W.heap.size (capN M) t (0 + 1) 0 va vb qa qb) := hide ((unhide HD).below (Below.refl _ _).drew)
          have HBR : Hid (Below W.heap.size W wr.drew) := hide (below0 (unhide HB) (Below.refl _ _).drew)
          have HF2 : Hid True := hide trivial
          clear hrW hsz HOK
          go_wp2_with fail
          go_region_held3 (fun w' => w'.cell? ⟨b, off + j * 7, none⟩ = some (.int .i64 p.o) ∧ w'.cell? ⟨b, off + j * 7 + 1, none⟩ = some (.int .i64 p.l) ∧ w'.cell? ⟨b, off + j * 7 + 2, none⟩ = some (.int .i64 p.k) ∧ w'.cell? ⟨b, off + j * 7 + 3, none⟩ = some (.int .i64 p.z) ∧ w'.cell? ⟨b, off + j * 7 + 4, none⟩ = some (.int .i64 p.h) ∧ w'.cell? ⟨b, off + j * 7 + 5, none⟩ = some (.slice p.r.a p.r.n p.r.c) ∧ w'.cell? ⟨b, off + j * 7 + 6, none⟩ = some (.string p.r.s)) (go_keep) (first
            | (clear HF2; go_at_call 18; refine (unhide HP _ va vb qa qb (unhide HDR) (unhide HBR)).mono ?_; rintro e y1 ⟨rfl, v1, qs1, hd1, hp1, ht1, hm1⟩; have HD1 := hide ((unhide HDR).left hd1 ht1 hm1); have HB1 := hide ((unhide HDR).a.step (unhide HBR) ht1); have HE1 := hide hp1; obtain ⟨t0, t1, t2, t3, t4, t5, t6⟩ := unhide HQ y1 (unhide HB1); clear hd1 hp1 ht1 hm1)
            | (go_at_call 18; refine (unhide HPb _ v1 vb qs1 qb (unhide HD1) (unhide HB1)).mono ?_; rintro e y2 ⟨rfl, v2, qs2, hd2, hp2, ht2, hm2⟩; have HD2 := hide ((unhide HD1).swap.left hd2 ht2 hm2).swap; have HB2 := hide ((unhide HD1).b.step (unhide HB1) ht2); have HE2 := hide hp2; obtain ⟨t0, t1, t2, t3, t4, t5, t6⟩ := unhide HQ y2 (unhide HB2); clear hd2 hp2 ht2 hm2))
          have hTT : takeD (capN M) (qa.map PKV.pd) p.pd = takeD (capN M) (qb.map PKV.pd) p.pd := by rw [unhide HE]
          have HE3 : Hid (qs1.map PKV.pd = qs2.map PKV.pd) := hide (by rw [unhide HE1, unhide HE2, unhide HE])
          rw [hTT]
          clear hTT HE1 HE2 HE HD HB HP HPb HQ HDR HBR HD1 HB1 q0 q1 q2 q3 q4 q5 q6 t0 t1 t2 t3 t4 t5 t6
          generalize takeD (capN M) (qb.map PKV.pd) p.pd = TK at *
          cases TK
          · go_wp2
            go_roundw
            case rel => exact ⟨j + 1, _, _, _, _, by omega, by go_num, HD2, HE3, HB2⟩
            case measure => simp [intOf]; omega
          · go_wp2
            go_roundw
            case rel => exact ⟨j + 1, _, _, _, _, by omega, by go_num, HD2, HE3, HB2⟩
            case measure => simp [intOf]; omega
        · have HEA := hide (rlemit_free _ _ _ _ _ _ _ _ _ ((unhide HT).below (unhide HB)) (unhide HD).a htt)
          have HEB0 := fun wx (hb2 : Below wr.heap.size wr wx) => rlemit_free _ _ _ _ _ _ _ _ _ ((unhide HT).below (below0 (unhide HB) hb2)) ((unhide HD).below hb2).b htt
          simp only [← unhide HE] at HEB0
          have HEB := hide HEB0
          have hll : qb.length = qa.length := by have := congrArg List.length (unhide HE); simpa using this.symm
          have HLA := hide (show ∀ q : PKV, q.pd = (emitO (qa.map PKV.pd) [] 0 t).getD zPK.pd → q.r.xs.length ≤ 1048576 from fun q hq => by
            have e : q.r.xs = q.pd.xs := rfl
            rw [e, hq]
            cases ho : emitO (qa.map PKV.pd) [] 0 t with
            | none => exact Nat.zero_le _
            | some d =>
              obtain ⟨ws, hm⟩ := emitO_mix ho
              have h5 := okD_len (mixD_ok (unhide HD).a.buf.inv.ok hm).1
              show d.xs.length ≤ _
              omega)
          have HKE0 := fun wx (hb2 : Below wr.heap.size wr wx) => rlkept_any _ _ _ _ _ _ _ _ _ ((unhide HD).below hb2).b
          simp only [hll] at HKE0
          have HKE := hide HKE0
          clear HKE0 HEB0 hll HE
          generalize emitO (qa.map PKV.pd) [] 0 t = o at *
          have HSM := hide (fun (x y : PKV) (hxy : x.pd = y.pd) wx (hx : RowAt wx x.r.a x.r.n x.r.xs) (hy : RowAt wx y.r.a y.r.n y.r.xs) (h1 : x.r.xs.length ≤ 1048576) (h2 : y.r.xs.length ≤ 1048576) => show Calls _ _ _ wx fun e w' => e = .returned (.bool true) ∧ Below wx.heap.size wx w' from by
            have := rpsame_is x y wx hx hy (by rw [← hx.1]; exact h1) (by rw [← hy.1]; exact h2)
            rwa [sameD_refl hxy] at this)
          go_wp2_with fail
          refine (unhide HEA).mono ?_
          rintro e y1 ⟨he, hb1⟩
          obtain ⟨p, rfl, hp, hr⟩ := he.row
          unfold PKV.val
          have hb2 := (Below.refl y1.heap.size y1).alloc (Nat.le_refl _) (.cells #[.int .i64 p.o, .int .i64 p.l, .int .i64 p.k, .int .i64 p.z, .int .i64 p.h, .slice p.r.a p.r.n p.r.c, .string p.r.s] 42)
          have HK2 := hide (pkb_new y1 (.int .i64 p.o) (.int .i64 p.l) (.int .i64 p.k) (.int .i64 p.z) (.int .i64 p.h) (.slice p.r.a p.r.n p.r.c) (.string p.r.s))
          have HL2 := hide (below0 hb1 hb2)
          have HR2 := hide (hr.below hb2)
          have HP2 := hide hp
          clear he hb1 hr hb2 hp HEA
          go_wp2_with fail
          generalize hy2 : y1.alloc (.cells #[.int .i64 p.o, .int .i64 p.l, .int .i64 p.k, .int .i64 p.z, .int .i64 p.h, .slice p.r.a p.r.n p.r.c, .string p.r.s] 42) = y2 at *
          refine (unhide HEB _ (unhide HL2)).mono ?_
          rintro e y3 ⟨he, hb3⟩
          obtain ⟨q, rfl, hq, hr⟩ := he.row
          unfold PKV.val
          have hb4 := (Below.refl y3.heap.size y3).alloc (Nat.le_refl _) (.cells #[.int .i64 q.o, .int .i64 q.l, .int .i64 q.k, .int .i64 q.z, .int .i64 q.h, .slice q.r.a q.r.n q.r.c, .string q.r.s] 42)
          have hk4 := pkb_new y3 (.int .i64 q.o) (.int .i64 q.l) (.int .i64 q.k) (.int .i64 q.z) (.int .i64 q.h) (.slice q.r.a q.r.n q.r.c) (.string q.r.s)
          have hk2 := ((unhide HK2).below hb3).below hb4
          have HL4 := hide (below0 (below0 (unhide HL2) hb3) hb4)
          have HR4 := hide (hr.below hb4)
          have HR5 := hide (((unhide HR2).below hb3).below hb4)
          have HQ4 := hide hq
          obtain ⟨x0, x1, x2, x3, x4, x5, x6⟩ := hk2.at
          obtain ⟨z0, z1, z2, z3, z4, z5, z6⟩ := hk4.at
          clear he hb3 hr hb4 hk4 hk2 hq hy2 HEB
          generalize o.isSome = ob at *
          have hob : (ob == ob) = true := by cases ob <;> rfl
          have HPQ := hide ((unhide HP2).trans (unhide HQ4).symm)
          have HN1 := hide (unhide HLA p (unhide HP2))
          have HN2 := hide (unhide HLA q (unhide HQ4))
          go_wp2_with fail
          generalize hy4 : y3.alloc (.cells #[.int .i64 q.o, .int .i64 q.l, .int .i64 q.k, .int .i64 q.z, .int .i64 q.h, .slice q.r.a q.r.n q.r.c, .string q.r.s] 42) = y4 at *
          refine (unhide HSM p q (unhide HPQ) y4 (unhide HR5) (unhide HR4) (unhide HN1) (unhide HN2)).mono ?_
          rintro e y5 ⟨rfl, hb5⟩
          have HL5 := hide (below0 (unhide HL4) hb5)
          have HD5 := hide ((unhide HD).below (unhide HL5))
          have HB5 := hide (below0 (unhide HB) (unhide HL5))
          clear hb5 hy4 x0 x1 x2 x3 x4 x5 x6 z0 z1 z2 z3 z4 z5 z6
          go_wp2_with fail
          refine (rlinc_any _ _ _ _ _ _ _ _ _ (unhide HD5).a).mono ?_
          rintro e x ⟨rfl, hx⟩
          obtain rfl := hx.symm
          clear hx
          go_wp2_with fail
          refine (rlinc_any _ _ _ _ _ _ _ _ _ (unhide HD5).b).mono ?_
          rintro e x ⟨rfl, hx⟩
          obtain rfl := hx.symm
          clear hx
          go_wp2_with fail
          refine (rlkept_any _ _ _ _ _ _ _ _ _ (unhide HD5).a).mono ?_
          rintro e x ⟨rfl, hx⟩
          obtain rfl := hx.symm
          clear hx
          go_wp2_with fail
          refine (unhide HKE _ (unhide HL5)).mono ?_
          rintro e x ⟨rfl, hx⟩
          obtain rfl := hx.symm
          clear hx
          go_wp2_with fail
          refine (unhide HAW _ (unhide HB5)).mono ?_
          rintro e y6 ⟨rfl, hb6⟩
          have HB6 := hide (below0 (unhide HB5) hb6)
          go_wp2
          go_ret
          exact ⟨rfl, below0 (unhide HB0) (unhide HB6)⟩
end Go.Proofs.YtmdmipojbeppiaaGreatDoor
