/-
  Contract of calm.Script. Condition: the config can be read.
-/
import Derived.Test.YtakoaadimhpclaaGreatDoorU43
namespace Go.Proofs.YtakoaadimhpclaaGreatDoor
open Go.RowKit Go.Sort Go.Shelf
set_option linter.unusedVariables false
set_option linter.unusedSimpArgs false
set_option maxRecDepth 4000
attribute [local go_sem] Oper.semAt_some

theorem RndP.pos {f : CFV} {k : Int} (h : RndP f k) (hk : k ≠ 0) : ChkR f 0 ∧ k = planK f.obj.size f.size := by
  rcases h with h | ⟨_, h⟩
  · exact h
  · exact absurd h hk
theorem RndP.none {f : CFV} (h : RndP f 0) : ¬ ChkR f 0 := by
  rcases h with ⟨h1, h2⟩ | ⟨h1, _⟩
  · have h3 := h1.cfg.2
    unfold planK at h2
    rw [if_pos h3] at h2
    have := kc_pos (f.obj.size : Int).toNat f.size.toNat
    omega
  · exact h1
/-- The nodes of the way but the last one. -/
def sndM (L : List Nat) : List Int := (natZ L).take (L.length - 1)
theorem sndM_len (L : List Nat) : (sndM L).length = L.length - 1 := by simp [sndM, natZ]
theorem sndM_get (L : List Nat) {q : Nat} (h : q < (sndM L).length) : (sndM L).getD q 0 = ((L.getD q 0 : Nat) : Int) := by
  rw [sndM_len] at h
  unfold sndM natZ
  rw [List.getD_eq_getElem?_getD, List.getElem?_take_of_lt h, List.getElem?_map, List.getD_eq_getElem?_getD]
  cases L[q]? <;> rfl
set_option maxRecDepth 100000 in
set_option maxHeartbeats 8000000 in
theorem script_any (f : CFV) (rounds : Int) (w : World) (hf : CfIn w f) :
    Calls Tryz.prog 13 #[f.val, .int .i64 rounds] w fun e w' => ∃ v es, e = .returned v ∧ OwnE w' w.heap.size v es ∧ DrsP w' w.heap.size es ∧ ScriptP f rounds (es.map EVV.data) ∧ Below w.heap.size w w' := by
  refine (callsIn_wide (n := 15)).1 ?_
  have X := hide (bkA_new 51 w [.slice f.a f.n f.c, .string f.obj, .int .i64 f.size, .int .i64 f.spread, .int .i64 f.buffer, .int .i64 f.queue, .int .i64 f.cache, .float .f64 f.rate, .int .i64 f.timeout, .int .i64 f.target])
  have HB := hide (alloc_low w (.cells #[.slice f.a f.n f.c, .string f.obj, .int .i64 f.size, .int .i64 f.spread, .int .i64 f.buffer, .int .i64 f.queue, .int .i64 f.cache, .float .f64 f.rate, .int .i64 f.timeout, .int .i64 f.target] 51))
  have HRN := hide (carnd_any f _ (hf.below (unhide HB)))
  have HF := hide hf
  have x0 := (unhide X).at 0 rfl
  have x1 := (unhide X).at 1 rfl
  have x2 := (unhide X).at 2 rfl
  have x3 := (unhide X).at 3 rfl
  have x4 := (unhide X).at 4 rfl
  have x5 := (unhide X).at 5 rfl
  have x6 := (unhide X).at 6 rfl
  have x7 := (unhide X).at 7 rfl
  have x8 := (unhide X).at 8 rfl
  have x9 := (unhide X).at 9 rfl
  clear hf
  unfold CFV.val at *
  refine callsIn_of_wp_marks Tryz.func13 rfl trivial ?_ rfl
  simp only [Tryz.ntmps13, List.size_toArray, List.length_cons, List.length_nil, Nat.reduceAdd, Nat.reduceSub, Array.replicate_succ, Array.replicate_zero, List.push_toArray, List.append_toArray, List.nil_append, List.cons_append]
  gi_wp2
  refine ⟨trivial, ?_⟩
  refine (callsIn_wide.2 (unhide HRN)).mono ?_
  rintro e w1 ⟨k, rfl, hrn, hb⟩
  have HB1 := hide (below0 (unhide HB) hb)
  have X1 := hide ((unhide X).below hb)
  have HK := hide hrn
  clear hrn hb x0 x1 x2 x3 x4 x5 x6 x7 x8 x9 HRN
  by_cases h0 : k = 0
  · subst h0
    have HP := hide (show ScriptP f rounds (([] : List EVV).map EVV.data) from .inl ⟨(unhide HK).none, rfl⟩)
    have HB2 := hide (below0 (unhide HB1) (alloc_low w1 (.cells #[.int .i64 0] 3)))
    gi_wp2
    exact ⟨_, results_tmp rfl _ _ _, .slice none 0 0, [], rfl, OwnE.nil _ _, (fun e he => by cases he), unhide HP, unhide HB2⟩
  have hk0 : (k == 0) = false := beq_eq_false_iff_ne.2 h0
  obtain ⟨hck, hkk⟩ := (unhide HK).pos h0
  obtain ⟨s, hs1, hs2, hs3⟩ := src_one f.n hck.cfg.1.2.2
  obtain ⟨L, hL⟩ := sink_ex f s
  have hb2 := alloc_low w1 (.cells #[.int .i64 k] 3)
  have HB2 := hide (below0 (unhide HB1) hb2)
  have X2 := hide ((unhide X1).below hb2)
  have bK := Boxed.new w1 3 (.int .i64 k)
  have HPT := hide (pts_any f s L _ ((unhide HF).below (unhide HB2)) hck hs1 hs2 hs3 hL)
  unfold CFV.val at HPT
  have z0 := (unhide X2).at 0 rfl
  have z1 := (unhide X2).at 1 rfl
  have z2 := (unhide X2).at 2 rfl
  have z3 := (unhide X2).at 3 rfl
  have z4 := (unhide X2).at 4 rfl
  have z5 := (unhide X2).at 5 rfl
  have z6 := (unhide X2).at 6 rfl
  have z7 := (unhide X2).at 7 rfl
  have z8 := (unhide X2).at 8 rfl
  have z9 := (unhide X2).at 9 rfl
  have HFIN := hide (show ∀ D, D = roundsD f.ds k L (min (max rounds 0) 128).toNat → ScriptP f rounds D from fun D e => .inr ⟨hck, s, L, hs1, hs2, hL, by rw [e, ← hkk]⟩)
  have hmx := max0_run' rounds
  obtain ⟨R, hR, hR128⟩ : ∃ R : Nat, min (max rounds 0) 128 = (R : Int) ∧ R ≤ 128 := ⟨(min (max rounds 0) 128).toNat, by omega, by omega⟩
  have hR2 : (min (max rounds 0) 128).toNat = R := by omega
  rw [hR2] at HFIN
  have HCK := hide hck
  have hsn := hs1
  have HLL := hide hL
  obtain ⟨mr, hmr⟩ : ∃ mr : Nat, mr = rounds.toNat := ⟨_, rfl⟩
  have hmn := min_runZ (mr : Int) 128
  rw [show min (mr : Int) 128 = (R : Int) by omega] at hmn
  rw [← hmr] at hmx
  clear hck hkk hs1 hs2 hs3 hL h0 hR hR2 HK hb2 hmr
  gi_wp2_with (first
    | (refine ⟨trivial, ?_⟩; gi_at_call 30; refine (callsIn_wide.2 (unhide HPT)).mono ?_; rintro e wp ⟨v, rfl, hop, hbp⟩
       obtain ⟨ap, cp, rfl, hzp⟩ := hop.ints
       have HOP := hide hop
       clear hop)
    | fail)
  have hlp := hzp.1
  have HNL := hide (show (natZ L).length = L.length from by simp [natZ])
  have hL8 := (unhide HLL).len
  have hnb : (natZ L).length ≤ 1048576 := by rw [unhide HNL]; omega
  have hcap := (unhide HOP).cap
  have hwp := (unhide HB2).size
  have HBP := hide (below0 (unhide HB2) hbp)
  have XP := hide ((unhide X2).below hbp)
  have bKP : Boxed wp w1.heap.size 3 (.int .i64 k) := (hbp.block _ bK.lt).trans bK
  have HZM := hide (show IntzAt wp ap (sndM L).length (sndM L) from by
    have := hzp.take (k := L.length - 1) (by rw [unhide HNL]; omega)
    rw [sndM_len]
    exact this)
  have HSI := hide (show ScI wp wp.heap.size [] (roundsD f.ds k L 0) (wp.alloc (.cells #[.slice none 0 0] 46)) from ⟨⟨_, [], Boxed.new wp _ _, OwnE.nil _ _, (fun e he => by cases he), rfl⟩, alloc_low _ _, ⟨fun D hD => by simp at hD, List.nodup_nil⟩⟩)
  have HND := hide ((unhide HF).nds.below (unhide HBP))
  have HMM := hide ((unhide HLL).mem (unhide HCK) (show s < f.n from hsn))
  clear hbp hlp z0 z1 z2 z3 z4 z5 z6 z7 z8 z9 hzp HPT bK hmx hmn hwp
  refine wpIn_loop (fun ac wr => ∃ (i : Nat) (Ds : List Nat) (u8 u20 u21 u22 u23 u38 : Value), i ≤ R ∧ ac = { tmps := #[.agg #[.slice f.a f.n f.c, .string f.obj, .int .i64 f.size, .int .i64 f.spread, .int .i64 f.buffer, .int .i64 f.queue, .int .i64 f.cache, .float .f64 f.rate, .int .i64 f.timeout, .int .i64 f.target], .int .i64 rounds, .pointer (some ⟨w.heap.size, 0, none⟩), undef, .slice none 0 0, .pointer (some ⟨w1.heap.size, 0, none⟩), .slice ap (natZ L).length cp, .pointer (some ⟨wp.heap.size, 0, none⟩), u8, undef, .agg #[.slice f.a f.n f.c, .string f.obj, .int .i64 f.size, .int .i64 f.spread, .int .i64 f.buffer, .int .i64 f.queue, .int .i64 f.cache, .float .f64 f.rate, .int .i64 f.timeout, .int .i64 f.target], .int .i64 k, .int .i64 k, .bool false, .agg #[.slice f.a f.n f.c, .string f.obj, .int .i64 f.size, .int .i64 f.spread, .int .i64 f.buffer, .int .i64 f.queue, .int .i64 f.cache, .float .f64 f.rate, .int .i64 f.timeout, .int .i64 f.target], .slice ap (natZ L).length cp, .int .i64 rounds, .int .i64 (mr : Int), .int .i64 (R : Int), .int .i64 (i : Int), u20, u21, u22, u23, undef, undef, undef, undef, undef, undef, undef, undef, undef, undef, undef, undef, undef, undef, u38, undef], defers := markL Ds } ∧ Hid (ScI wp wp.heap.size Ds (roundsD f.ds k L i) wr)) (fun ac _ => R - (intOf (ac.tmps.getD 19 undef)).toNat) ⟨0, [], _, _, _, _, _, _, Nat.zero_le _, rfl, HSI⟩ ?round
  case round =>
    rintro ac wr ⟨i, Ds, u8, u20, u21, u22, u23, u38, hi, rfl, HS1⟩
    by_cases hlt : i < R
    · have hlt' : (i : Int) < (R : Int) := by omega
      gi_wp2_with (first
        | (refine ⟨trivial, ?_⟩; gi_at_call 31; refine (callsIn_wide.2 (senders_any ap (natZ L).length cp _ hcap hnb)).mono ?_; rintro e w2 ⟨rfl, rfl⟩)
        | fail)
      obtain ⟨Wl, hWl⟩ : ∃ Wl, Wl = (wr.alloc (.cells #[.int .i64 (i : Int)] 3)).alloc (.cells #[.slice ap ((natZ L).length - 1) cp] 58) := ⟨_, rfl⟩
      have hbl : Below wr.heap.size wr Wl := by rw [hWl]; exact ((Below.refl _ wr).alloc (Nat.le_refl _) _).alloc (by simp) _
      have hszl : Wl.heap.size = wr.heap.size + 2 := by rw [hWl]; simp
      have bI : Boxed Wl wr.heap.size 3 (.int .i64 (i : Int)) := by rw [hWl]; exact (Boxed.new wr _ _).alloc _
      have bS : Boxed Wl (wr.heap.size + 1) 58 (.slice ap (sndM L).length cp) := by
        rw [hWl, sndM_len, ← unhide HNL]
        have := Boxed.new (wr.alloc (.cells #[.int .i64 (i : Int)] 3)) 58 (.slice ap ((natZ L).length - 1) cp)
        rwa [World.size_alloc] at this
      have hS1 := unhide HS1
      have hDs : ∀ E, E ∈ Ds → E < wr.heap.size := fun E hE => (Array.getElem?_eq_some_iff.1 (hS1.marks.1 E hE).2).1
      have HSL := hide (show ScI wp wp.heap.size Ds (roundsD f.ds k L i ++ (([] : List (BelowT (sndM L))).map fun x => sendD f.ds k i L x.1).flatten) Wl from by
        rw [hWl, List.map_nil, List.flatten_nil, List.append_nil]
        have h1 := hS1.kept (B := wr.heap.size) (World.grownBy_alloc wr (.cells #[.int .i64 (i : Int)] 3) none) hS1.low.size (fun q e => by cases e) hDs
        exact h1.kept (B := wr.heap.size) (World.grownBy_alloc _ (.cells #[.slice ap ((natZ L).length - 1) cp] 58) none) hS1.low.size (fun q e => by cases e) hDs)
      rw [← hWl]
      clear hWl hbl hS1
      have hlowl := (unhide HSL).low
      have hmx : Tryz.prog.follows .mixedOrders = true := by kernel_rfl
      refine wpIn_rangeFunc_ownG rfl (by omega) (gf := 71) (lb := #[.pointer (some ⟨wr.heap.size + 1, 0, none⟩)]) rfl trivial (enters_of Tryz.func71 (by kernel_rfl) rfl)
        (values1_stops (15 - 1) (by omega) (wr.heap.size + 1) ap cp (sndM L) wp Wl hlowl (unhide HZM) (by rw [sndM_len]; omega) bS.cell) belowK_t (belowK_b hlowl.size) (Below.refl _ _) (fun _ => rfl)
        (fun pre W => ScI wp wp.heap.size Ds (roundsD f.ds k L i ++ (pre.map fun x => sendD f.ds k i L x.1).flatten) W ∧ Boxed W wr.heap.size 3 (.int .i64 (i : Int)))
        (fun _ _ _ => False)
        (OwnFrom.and (ScI.own (D := fun pre : List (BelowT (sndM L)) => roundsD f.ds k L i ++ (pre.map fun x => sendD f.ds k i L x.1).flatten) hlowl.size (fun E hE => by have := hDs E hE; omega)) (Own.from (boxed_own _ _ _) _))
        (fun _ _ _ _ _ hs _ _ => hs)
        ⟨unhide HSL, bI⟩
        (fun x => { tmps := #[.agg #[.slice f.a f.n f.c, .string f.obj, .int .i64 f.size, .int .i64 f.spread, .int .i64 f.buffer, .int .i64 f.queue, .int .i64 f.cache, .float .f64 f.rate, .int .i64 f.timeout, .int .i64 f.target], .int .i64 rounds, .pointer (some ⟨w.heap.size, 0, none⟩), undef, .slice none 0 0, .pointer (some ⟨w1.heap.size, 0, none⟩), .slice ap (natZ L).length cp, .pointer (some ⟨wp.heap.size, 0, none⟩), .pointer (some ⟨wr.heap.size, 0, none⟩), .int .i64 ((sndM L).getD x.1 0), .agg #[.slice f.a f.n f.c, .string f.obj, .int .i64 f.size, .int .i64 f.spread, .int .i64 f.buffer, .int .i64 f.queue, .int .i64 f.cache, .float .f64 f.rate, .int .i64 f.timeout, .int .i64 f.target], .int .i64 k, .int .i64 k, .bool false, .agg #[.slice f.a f.n f.c, .string f.obj, .int .i64 f.size, .int .i64 f.spread, .int .i64 f.buffer, .int .i64 f.queue, .int .i64 f.cache, .float .f64 f.rate, .int .i64 f.timeout, .int .i64 f.target], .slice ap (natZ L).length cp, .int .i64 rounds, .int .i64 (mr : Int), .int .i64 (R : Int), .int .i64 (i : Int), .bool true, .int .i64 (i : Int), .slice ap (natZ L).length cp, .func (.func 71) #[] #[.pointer (some ⟨wr.heap.size + 1, 0, none⟩)], .int .i64 ((sndM L).getD x.1 0), undef, undef, undef, undef, undef, undef, undef, undef, undef, undef, undef, undef, undef, u38, undef], defers := [] })
        ?assign ?body ?done ?stop
      case assign =>
        intro l x W K hK
        gi_wp2
        exact hK
      case body =>
        rintro l pre x W ⟨hSc, hbi⟩ hlt2
        obtain ⟨q, hq⟩ := x
        obtain ⟨v, es, hout, hoe, hdr, hdat⟩ := hSc.out
        have hqg := sndM_get L hq
        have hqL : q < L.length := by rw [sndM_len] at hq; omega
        have hnm : L.getD q 0 ∈ L := by rw [List.getD_eq_getElem?_getD, List.getElem?_eq_getElem hqL]; exact List.getElem_mem _
        have hndn := (unhide HMM) _ hnm
        obtain ⟨b, off, hfa, hcl⟩ := (unhide HND).at hndn
        obtain ⟨hkc, -⟩ := hcl _ hndn
        have HFN := hide (show ∀ Wf, ScI wp wp.heap.size Ds ((roundsD f.ds k L i ++ (pre.map fun x => sendD f.ds k i L x.1).flatten) ++ turnD ((L.getD q 0 : Nat) : Int) (drawsF (f.ds.getD (L.getD q 0) .dflt).kd k (i : Int))) Wf → ScI wp wp.heap.size Ds (roundsD f.ds k L i ++ ((pre ++ [(⟨q, hq⟩ : BelowT (sndM L))]).map fun x => sendD f.ds k i L x.1).flatten) Wf from fun Wf h => by
          rw [List.map_append, List.flatten_append, ← List.append_assoc]
          simpa [sendD, kdN] using h)
        have hes : es.length + 10 ≤ 1000000 := by
          have h1 := congrArg List.length hdat
          have h2 := roundsD_len f.ds k L i
          have h3 : pre.length ≤ 8 := by rw [sndM_len] at hlt2; omega
          have h4 : ((pre.map fun x => sendD f.ds k i L x.1).flatten).length = 10 * pre.length := by
            clear hdat hSc hlt2 h1 h3 HFN
            induction pre with
            | nil => rfl
            | cons y ys ih => rw [List.map_cons, List.flatten_cons, List.length_append, ih, sendD_len, List.length_cons]; omega
          rw [List.length_map, List.length_append, h2, h4] at h1
          have h5 : 10 * (L.length - 1) * i ≤ 70 * 128 := Nat.mul_le_mul (by omega) (by omega)
          omega
        dsimp only
        rw [hqg]
        have hwr : wp.heap.size < wr.heap.size := by
          obtain ⟨_, _, hh, _⟩ := (unhide HS1).out
          exact hh.lt
        clear hqg hqL hnm hcl hlt2
        generalize L.getD q 0 = nd at *
        generalize (f.ds.getD nd .dflt).kd = kd at *
        have hndn' : (nd : Int) < (f.n : Int) := by omega
        have x0 := (unhide XP).at 0 rfl
        rw [hfa] at x0
        have hblt := World.block_lt_of_cell? wp _ hkc
        have hw1p := bKP.lt
        have hwsp := World.block_lt_of_cell? wp _ x0
        have HS4 := hide (fun (wx : World) (hb : Below W.heap.size W wx) => show (wx.cell? ⟨w.heap.size, 0, none⟩ = some (.slice (some ⟨b, off, none⟩) f.n f.c) ∧ wx.cell? ⟨b, off + nd * 2, none⟩ = some (.int .i64 kd) ∧ wx.cell? ⟨w1.heap.size, 0, none⟩ = some (.int .i64 k) ∧ wx.cell? ⟨wr.heap.size, 0, none⟩ = some (.int .i64 (i : Int))) from by
          have hl := hSc.low.trans (hb.mono hSc.low.size)
          exact ⟨(hl.cell (p := ⟨w.heap.size, 0, none⟩) hwsp).trans x0, (hl.cell hblt).trans hkc, (hl.cell (p := ⟨w1.heap.size, 0, none⟩) bKP.lt).trans bKP.cell, (hb.cell (p := ⟨wr.heap.size, 0, none⟩) hbi.lt).trans hbi.cell⟩)
        have hno : v.ownBlock ≠ some wr.heap.size := (hbi.not_row (by decide) hoe).symm
        have HS7 := hide (fun (W6 wx : World) (hb : Below W.heap.size W W6) (hg : W6.grownBy wx v.ownBlock) => show (wx.cell? ⟨w.heap.size, 0, none⟩ = some (.slice (some ⟨b, off, none⟩) f.n f.c) ∧ wx.cell? ⟨b, off + nd * 2, none⟩ = some (.int .i64 kd) ∧ wx.cell? ⟨w1.heap.size, 0, none⟩ = some (.int .i64 k) ∧ wx.cell? ⟨wr.heap.size, 0, none⟩ = some (.int .i64 (i : Int))) from by
          have hlo := gb_below hg (B := wp.heap.size) (Nat.le_trans hSc.low.size hb.size) fun j hj => by
            rcases hoe.2 with ⟨e, _⟩ | ⟨g, cap, cur, e, hgb, _⟩
            · rw [e] at hj; cases hj
            · rw [e] at hj
              have : g = j := by simpa [Value.ownBlock] using hj
              omega
          have h4 := (unhide HS4) W6 hb
          have hbi6 : Boxed W6 wr.heap.size 3 (.int .i64 (i : Int)) := (hb.block _ hbi.lt).trans hbi
          exact ⟨(hlo.cell (p := ⟨w.heap.size, 0, none⟩) hwsp).trans h4.1, (hlo.cell hblt).trans h4.2.1, (hlo.cell (p := ⟨w1.heap.size, 0, none⟩) hw1p).trans h4.2.2.1, (hbi6.kept hg hno.symm).cell⟩)
        have HB7 := hide (fun (W6 wx : World) (hb : Below W.heap.size W W6) (hg : W6.grownBy wx v.ownBlock) => show Boxed wx wp.heap.size 46 v from Boxed.kept (show Boxed W6 wp.heap.size 46 v from (hb.block _ hout.lt).trans hout) hg (hout.not_row (by decide) hoe))
        have HS8 := hide (fun (wy : World) (u : Value) (h4 : (wy.cell? ⟨w.heap.size, 0, none⟩ = some (.slice (some ⟨b, off, none⟩) f.n f.c) ∧ wy.cell? ⟨b, off + nd * 2, none⟩ = some (.int .i64 kd) ∧ wy.cell? ⟨w1.heap.size, 0, none⟩ = some (.int .i64 k) ∧ wy.cell? ⟨wr.heap.size, 0, none⟩ = some (.int .i64 (i : Int)))) => show ((wy.setCell ⟨wp.heap.size, 0, none⟩ u).cell? ⟨w.heap.size, 0, none⟩ = some (.slice (some ⟨b, off, none⟩) f.n f.c) ∧ (wy.setCell ⟨wp.heap.size, 0, none⟩ u).cell? ⟨b, off + nd * 2, none⟩ = some (.int .i64 kd) ∧ (wy.setCell ⟨wp.heap.size, 0, none⟩ u).cell? ⟨w1.heap.size, 0, none⟩ = some (.int .i64 k) ∧ (wy.setCell ⟨wp.heap.size, 0, none⟩ u).cell? ⟨wr.heap.size, 0, none⟩ = some (.int .i64 (i : Int))) from by
          have hne : ∀ (a : Addr), a.block ≠ wp.heap.size → (wy.setCell ⟨wp.heap.size, 0, none⟩ u).cell? a = wy.cell? a := fun a ha => World.cell?_setCell_other _ _ _ _ (fun e => ha (by rw [← e]))
          exact ⟨(hne _ (Nat.ne_of_lt hwsp)).trans h4.1, (hne _ (Nat.ne_of_lt hblt)).trans h4.2.1, (hne _ (Nat.ne_of_lt hw1p)).trans h4.2.2.1, (hne _ (Nat.ne_of_gt hwr)).trans h4.2.2.2⟩)
        have hdd : min 10 10 = 10 := rfl
        gi_wp2
        refine region_round (S := fun wx => (wx.cell? ⟨w.heap.size, 0, none⟩ = some (.slice (some ⟨b, off, none⟩) f.n f.c) ∧ wx.cell? ⟨b, off + nd * 2, none⟩ = some (.int .i64 kd) ∧ wx.cell? ⟨w1.heap.size, 0, none⟩ = some (.int .i64 k) ∧ wx.cell? ⟨wr.heap.size, 0, none⟩ = some (.int .i64 (i : Int)))) hmx (by kernel_rfl) (fun ⟨_, _, h⟩ => h) ?_
        have hHeld := (unhide HS4) W.drew (Below.refl _ W).drew
        refine wpAnyH_take (i := 1) (v := ?_) rfl (by kernel_rfl) (by kernel_rfl) (by kernel_rfl) (fun _ _ _ h => h) (Or.inl ⟨by rfl, ?f1⟩) (by assumption) ?_
        case f1 => (intro w hSw; (try dsimp only at hSw); go_simp; try with_reducible rfl)
        refine wpAnyH_take (i := 2) (v := ?_) rfl (by kernel_rfl) (by kernel_rfl) (by kernel_rfl) (fun _ _ _ h => h) (Or.inl ⟨by rfl, ?f2⟩) (by assumption) ?_
        case f2 => (intro w hSw; (try dsimp only at hSw); go_simp; try with_reducible rfl)
        refine wpAnyH_take (i := 3) (v := ?_) rfl (by kernel_rfl) (by kernel_rfl) (by kernel_rfl) (fun _ _ _ h => h) (Or.inl ⟨by rfl, ?f3⟩) (by assumption) ?_
        case f3 => (intro w hSw; (try dsimp only at hSw); go_simp; try with_reducible rfl)
        refine wpAnyH_take (i := 4) (v := ?_) rfl (by kernel_rfl) (by kernel_rfl) (by kernel_rfl) (fun _ _ _ h => h) (Or.inl ⟨by rfl, ?f4⟩) (by assumption) ?_
        case f4 => (intro w hSw; (try dsimp only at hSw); go_simp; try with_reducible rfl)
        refine wpAnyH_take (i := 5) (v := ?_) rfl (by kernel_rfl) (by kernel_rfl) (by kernel_rfl) (fun _ _ _ h => h) (Or.inl ⟨by rfl, ?f5⟩) (by assumption) ?_
        case f5 => (intro w hSw; (try dsimp only at hSw); go_simp; try with_reducible rfl)
        refine wpAnyH_take (i := 6) (v := ?_) rfl (by kernel_rfl) (by kernel_rfl) (by kernel_rfl) (fun _ _ _ h => h) (Or.inl ⟨by rfl, ?f6⟩) (by assumption) ?_
        case f6 => (intro w hSw; (try dsimp only at hSw); go_simp; try with_reducible rfl)
        refine wpAnyH_take (i := 7) (v := ?_) rfl (by kernel_rfl) (by kernel_rfl) (by kernel_rfl) (fun _ _ _ h => h) (Or.inl ⟨by rfl, ?f7⟩) (by assumption) ?_
        case f7 => (intro w hSw; (try dsimp only at hSw); go_simp; try with_reducible rfl)
        refine wpAnyH_take (i := 8) (v := ?_) rfl (by kernel_rfl) (by kernel_rfl) (by kernel_rfl) (fun _ _ _ h => h) (Or.inl ⟨by rfl, ?f8⟩) (by assumption) ?_
        case f8 => (intro w hSw; (try dsimp only at hSw); go_simp; try with_reducible rfl)
        refine wpAnyH_take (i := 9) (v := ?_) rfl (by kernel_rfl) (by kernel_rfl) (by kernel_rfl) (fun _ _ _ h => h) (Or.inl ⟨by rfl, ?f9⟩) (by assumption) ?_
        case f9 => (intro w hSw; (try dsimp only at hSw); go_simp; try with_reducible rfl)
        refine wpAnyH_ready (rs := [0, 10]) (by kernel_rfl) (by simp) ?_
        refine AllReadyH.cons rfl (fun K hK => ?_) (AllReadyH.cons rfl (fun K hK => ?_) AllReadyH.nil)
        · have ho5 := hout.cell
          go_simp
          refine hK.out _ _ hHeld (fun hHeld => ?_)
          clear hK K
          refine wpAnyH_ready (rs := [10]) (by kernel_rfl) (by simp) ?_
          refine AllReadyH.cons rfl (fun K hK => ?_) AllReadyH.nil
          go_simp
          refine (drawsof_any kd k i (by omega) W.drew).mono ?_
          rintro e W5 ⟨v5, rfl, h5, b5⟩
          obtain ⟨a5, c5, rfl, hr5⟩ := h5.row
          dsimp only
          have b5W : Below W.heap.size W W5 := (Below.refl _ W).drew.trans b5
          have hS5 := (unhide HS4) W5 b5W
          have ho5 := (b5W.cell (p := ⟨wp.heap.size, 0, none⟩) hout.lt).trans hout.cell
          refine hK.out _ _ hS5 (fun hHeld => ?_)
          clear hK K
          refine wpAnyH_ready (rs := [11]) (by kernel_rfl) (by simp) ?_
          refine AllReadyH.cons rfl (fun K hK => ?_) AllReadyH.nil
          go_simp
          refine (turn_any (nd : Int) a5 (drawsF kd k (i : Int)).length c5 (drawsF kd k (i : Int)) W5).mono ?_
          rintro e W6 ⟨g6, c6, rfl, h6, b6⟩
          dsimp only
          have b6W : Below W.heap.size W W6 := below0 b5W b6
          have hS6 := (unhide HS4) W6 b6W
          have ho6 := (b6W.cell (p := ⟨wp.heap.size, 0, none⟩) hout.lt).trans hout.cell
          refine hK.out _ _ hS6 (fun hHeld => ?_)
          clear hK K
          refine wpAnyH_ready (rs := [12]) (by kernel_rfl) (by simp) ?_
          refine AllReadyH.cons rfl (fun K hK => ?_) AllReadyH.nil
          refine appE_if rfl (.tmp 25) (.tmp 36) rfl wp.heap.size v es (turnE (nd : Int) a5 (drawsF kd k (i : Int)).length c5 (drawsF kd k (i : Int))) (by first | rfl | simp [Act.eval, Act.put]) (hoe.below b6W) ⟨g6, 0, none⟩ 10 c6 (by first | rfl | simp [Act.eval, Act.put]) rfl (fun j u hu => World.ownsRow.cells h6 (g := g6) rfl j u hu) (by omega) (by omega) (Nat.le_trans hSc.low.size b6W.size) (fun g7 c7 W7 h7 hg7 => ?_)
          obtain ⟨j1, j2, j3, j4⟩ := hSc.step hout hoe hdr hdat h5 b5W b6 h7 hg7 (Nat.le_refl _)
          have hS7 := (unhide HS7) W6 W7 b6W hg7
          have ho7 := (unhide HB7) W6 W7 b6W hg7
          have hf7 := ho7.frozen
          have hc7 := ho7.cell
          have hS8 := (unhide HS8) W7 (.slice (some ⟨g7, 0, none⟩) (es.length + 10) c7) hS7
          refine hK.out _ _ hS7 (fun hHeld => ?_)
          clear hK K
          refine wpAnyH_ready (rs := [13]) (by kernel_rfl) (by simp) ?_
          refine AllReadyH.cons rfl (fun K hK => ?_) AllReadyH.nil
          go_simp
          refine hK.out _ _ hS8 (fun hHeld => ?_)
          clear hK K
          refine wpAnyH_done (by kernel_rfl) ?_ _
          exact ⟨j1.from _, j2, (unhide HFN) _ j3, j4 _ _ _ (by decide) (by decide) hbi⟩
        · go_simp
          refine (drawsof_any kd k i (by omega) W.drew).mono ?_
          rintro e W5 ⟨v5, rfl, h5, b5⟩
          obtain ⟨a5, c5, rfl, hr5⟩ := h5.row
          dsimp only
          have b5W : Below W.heap.size W W5 := (Below.refl _ W).drew.trans b5
          have hS5 := (unhide HS4) W5 b5W
          have ho5 := (b5W.cell (p := ⟨wp.heap.size, 0, none⟩) hout.lt).trans hout.cell
          refine hK.out _ _ hS5 (fun hHeld => ?_)
          clear hK K
          refine wpAnyH_ready (rs := [0, 11]) (by kernel_rfl) (by simp) ?_
          refine AllReadyH.cons rfl (fun K hK => ?_) (AllReadyH.cons rfl (fun K hK => ?_) AllReadyH.nil)
          · go_simp
            refine hK.out _ _ hS5 (fun hHeld => ?_)
            clear hK K
            refine wpAnyH_ready (rs := [11]) (by kernel_rfl) (by simp) ?_
            refine AllReadyH.cons rfl (fun K hK => ?_) AllReadyH.nil
            go_simp
            refine (turn_any (nd : Int) a5 (drawsF kd k (i : Int)).length c5 (drawsF kd k (i : Int)) W5).mono ?_
            rintro e W6 ⟨g6, c6, rfl, h6, b6⟩
            dsimp only
            have b6W : Below W.heap.size W W6 := below0 b5W b6
            have hS6 := (unhide HS4) W6 b6W
            have ho6 := (b6W.cell (p := ⟨wp.heap.size, 0, none⟩) hout.lt).trans hout.cell
            refine hK.out _ _ hS6 (fun hHeld => ?_)
            clear hK K
            refine wpAnyH_ready (rs := [12]) (by kernel_rfl) (by simp) ?_
            refine AllReadyH.cons rfl (fun K hK => ?_) AllReadyH.nil
            refine appE_if rfl (.tmp 25) (.tmp 36) rfl wp.heap.size v es (turnE (nd : Int) a5 (drawsF kd k (i : Int)).length c5 (drawsF kd k (i : Int))) (by first | rfl | simp [Act.eval, Act.put]) (hoe.below b6W) ⟨g6, 0, none⟩ 10 c6 (by first | rfl | simp [Act.eval, Act.put]) rfl (fun j u hu => World.ownsRow.cells h6 (g := g6) rfl j u hu) (by omega) (by omega) (Nat.le_trans hSc.low.size b6W.size) (fun g7 c7 W7 h7 hg7 => ?_)
            obtain ⟨j1, j2, j3, j4⟩ := hSc.step hout hoe hdr hdat h5 b5W b6 h7 hg7 (Nat.le_refl _)
            have hS7 := (unhide HS7) W6 W7 b6W hg7
            have ho7 := (unhide HB7) W6 W7 b6W hg7
            have hf7 := ho7.frozen
            have hc7 := ho7.cell
            have hS8 := (unhide HS8) W7 (.slice (some ⟨g7, 0, none⟩) (es.length + 10) c7) hS7
            refine hK.out _ _ hS7 (fun hHeld => ?_)
            clear hK K
            refine wpAnyH_ready (rs := [13]) (by kernel_rfl) (by simp) ?_
            refine AllReadyH.cons rfl (fun K hK => ?_) AllReadyH.nil
            go_simp
            refine hK.out _ _ hS8 (fun hHeld => ?_)
            clear hK K
            refine wpAnyH_done (by kernel_rfl) ?_ _
            exact ⟨j1.from _, j2, (unhide HFN) _ j3, j4 _ _ _ (by decide) (by decide) hbi⟩
          · go_simp
            refine (turn_any (nd : Int) a5 (drawsF kd k (i : Int)).length c5 (drawsF kd k (i : Int)) W5).mono ?_
            rintro e W6 ⟨g6, c6, rfl, h6, b6⟩
            dsimp only
            have b6W : Below W.heap.size W W6 := below0 b5W b6
            have hS6 := (unhide HS4) W6 b6W
            have ho6 := (b6W.cell (p := ⟨wp.heap.size, 0, none⟩) hout.lt).trans hout.cell
            refine hK.out _ _ hS6 (fun hHeld => ?_)
            clear hK K
            refine wpAnyH_ready (rs := [0]) (by kernel_rfl) (by simp) ?_
            refine AllReadyH.cons rfl (fun K hK => ?_) AllReadyH.nil
            go_simp
            refine hK.out _ _ hS6 (fun hHeld => ?_)
            clear hK K
            refine wpAnyH_ready (rs := [12]) (by kernel_rfl) (by simp) ?_
            refine AllReadyH.cons rfl (fun K hK => ?_) AllReadyH.nil
            refine appE_if rfl (.tmp 25) (.tmp 36) rfl wp.heap.size v es (turnE (nd : Int) a5 (drawsF kd k (i : Int)).length c5 (drawsF kd k (i : Int))) (by first | rfl | simp [Act.eval, Act.put]) (hoe.below b6W) ⟨g6, 0, none⟩ 10 c6 (by first | rfl | simp [Act.eval, Act.put]) rfl (fun j u hu => World.ownsRow.cells h6 (g := g6) rfl j u hu) (by omega) (by omega) (Nat.le_trans hSc.low.size b6W.size) (fun g7 c7 W7 h7 hg7 => ?_)
            obtain ⟨j1, j2, j3, j4⟩ := hSc.step hout hoe hdr hdat h5 b5W b6 h7 hg7 (Nat.le_refl _)
            have hS7 := (unhide HS7) W6 W7 b6W hg7
            have ho7 := (unhide HB7) W6 W7 b6W hg7
            have hf7 := ho7.frozen
            have hc7 := ho7.cell
            have hS8 := (unhide HS8) W7 (.slice (some ⟨g7, 0, none⟩) (es.length + 10) c7) hS7
            refine hK.out _ _ hS7 (fun hHeld => ?_)
            clear hK K
            refine wpAnyH_ready (rs := [13]) (by kernel_rfl) (by simp) ?_
            refine AllReadyH.cons rfl (fun K hK => ?_) AllReadyH.nil
            go_simp
            refine hK.out _ _ hS8 (fun hHeld => ?_)
            clear hK K
            refine wpAnyH_done (by kernel_rfl) ?_ _
            exact ⟨j1.from _, j2, (unhide HFN) _ j3, j4 _ _ _ (by decide) (by decide) hbi⟩
      case done =>
        rintro D ys W hD hys ⟨hSc, hbi⟩ hK
        have HS := hide (show ScI wp wp.heap.size (D :: Ds) (roundsD f.ds k L (i + 1)) W from by
          have e : roundsD f.ds k L (i + 1) = roundsD f.ds k L i ++ (ys.map fun x => sendD f.ds k i L x.1).flatten := by
            rw [roundsD_succ]
            unfold sentD
            rw [← sndM_len, ← hys, List.map_map]
            rfl
          rw [e]
          refine ⟨hSc.out, hSc.low, fun E hE => ?_, List.nodup_cons.2 ⟨fun hm => ?_, hSc.marks.2⟩⟩
          · rcases List.mem_cons.1 hE with rfl | hE
            · exact ⟨Nat.le_trans hlowl.size hD, hK⟩
            · exact hSc.marks.1 E hE
          · have := hDs D hm
            omega)
        gi_wp2
        exact ⟨⟨i + 1, D :: Ds, _, _, _, _, _, _, hlt, rfl, HS⟩, by simp [intOf]; omega⟩
      case stop =>
        rintro D c pre W _ _ h _
        exact h.elim
    · obtain rfl : i = R := by omega
      obtain ⟨v, es, hout, hoe, hdr, hdat⟩ := (unhide HS1).out
      have hcb := hout.cell
      obtain ⟨ve, ce, rfl⟩ := hoe.len
      gi_wp2
      refine leaves_marks (B := wp.heap.size) (I := fun wx => OwnE wx w.heap.size (.slice ve es.length ce) es ∧ DrsP wx w.heap.size es ∧ Below w.heap.size w wx) ?_ ?_ Ds wr (unhide HS1).marks ⟨hoe.mono (unhide HBP).size, hdr.mono (unhide HBP).size, (unhide HBP).trans ((unhide HS1).low.mono (unhide HBP).size)⟩
      · rintro wx D o hBD hD ⟨h1, h2, h3⟩
        have hn : ∀ {e : TypeId} {B size : Nat} {v : Value} {n : Nat} {xs : List Value}, wx.ownsRow B e size v n xs → v.ownBlock = none ∨ v.ownBlock ≠ some D := fun {e B size v n xs} k => by
          rcases k.2 with ⟨rfl, _⟩ | ⟨g, cap, cur, rfl, _, hgg, _⟩
          · exact .inl rfl
          · refine .inr fun e => ?_
            have e' : g = D := by simpa [Value.ownBlock] using e
            rw [e', hD] at hgg
            cases hgg
        refine ⟨World.ownsRow.kept h1 (grownBy_putObj' wx D o) (hn h1), fun e he => (h2 e he).kept (grownBy_putObj' wx D o) (hn (h2 e he).2), h3.trans (gb_below (grownBy_putObj' wx D o) h3.size fun k hk => by rw [← Option.some.inj hk]; exact Nat.le_trans (unhide HBP).size hBD)⟩
      · rintro wx ⟨h1, h2, h3⟩
        exact ⟨_, results_tmp rfl _ _ _, .slice ve es.length ce, es, rfl, h1, h2, (unhide HFIN) _ hdat, h3⟩
end Go.Proofs.YtakoaadimhpclaaGreatDoor
