/-
  A buffer and the reference's packets side by side; the walk of BufferPlays: for every input it tells true and writes nothing that was there.
-/
import Derived.Test.YtbppanebpfpioaaDoorUU
namespace Go.Proofs.YtbppanebpfpioaaDoor
open Go.RowKit Go.Sort
set_option linter.unusedVariables false
set_option maxRecDepth 4000

set_option maxHeartbeats 8000000 in
theorem buplays_walk (M : Int) (a : Option Addr) (n c : Nat) (ps : List PKV) (w : World) (ht : Tab w) (h : PksAt w a n ps) (hn : n ≤ 9223372036854775807) (hbig : ∀ i, (ps.getD i .dflt).r.n ≤ 9223372036854775807 ∧ (ps.getD i .dflt).r.s.size ≤ 9223372036854775807) (hcp : ∀ i, i < ps.length → (ps.getD i .dflt).r.n ≤ (ps.getD i .dflt).r.c) :
    Calls Tryd.prog 3 #[.int .i64 M, .slice a n c] w fun e w' => e = .returned (.bool true) ∧ Below w.heap.size w w' := by
  obtain rfl := h.1
  have HAW := hide (fun (w1 : World) (hb : Below w.heap.size w w1) => awake_any w1 (ht.below hb))
  have HF := hide (fewP_any a ps.length c ps w h hn hbig)
  have HT := hide ht
  have Hh := hide h
  have HCP := hide hcp
  clear h ht hbig hcp
  go_enter Tryd.func3, Tryd.ntmps3
  go_wp2_with fail
  refine (unhide HF).mono ?_
  rintro e w1 ⟨he, hw1⟩
  obtain rfl := hw1.symm
  clear HF hw1
  rcases he with ⟨rfl, hf⟩ | ⟨rfl, hf⟩
  case inr =>
    clear hf
    go_wp2_with (go_at_call 9; refine (unhide HAW _ (Below.refl _ _)).mono ?_; rintro e w1 ⟨rfl, hb1⟩)
    go_ret
    exact ⟨rfl, hb1⟩
  have HS := hide hf.2
  have hl : ps.length ≤ 60 := hf.1
  have HIN : Hid (InP w ps) := hide fun q hq => by
    obtain ⟨i, hi, rfl⟩ := List.getElem_of_mem hq
    have h1 := (unhide Hh).2.1 i hi
    have h2 := unhide HCP i hi
    have h3 := (unhide HS i).1
    rw [List.getD_eq_getElem?_getD, List.getElem?_eq_getElem hi] at h1 h2 h3
    exact ⟨h1, h2, h3⟩
  clear hf
  go_wp2_with fail
  refine (bunew_any M w).mono ?_
  rintro e w1 ⟨rfl, hd1, hb1⟩
  have HPL : Hid (PlB w w1 w.heap.size (capN M) (.slice none 0 0) [] (.slice none 0 0) [] ps) := hide ⟨hd1, OwnP.nil _ _, (fun q hq => by cases hq), rfl, (fun j hj => by cases hj), hb1⟩
  clear hd1 hb1
  go_wp2
  go_loopw [6, 7] (fun o i wr => ∃ (j : Nat) (v : Value) (qs : List PKV) (ac : Option Addr) (cc : Nat) (cs : List PKV), j ≤ ps.length ∧ i = .int .i64 j ∧ o = .slice ac cs.length cc ∧ Hid (PlB w wr w.heap.size (capN M) v qs (.slice ac cs.length cc) cs ps)) (fun _ i _ => ps.length - (intOf i).toNat)
  case atStart => exact ⟨0, _, _, none, 0, [], Nat.zero_le _, rfl, rfl, HPL⟩
  case round =>
    obtain ⟨j, v, qs, ac, cc, cs, hj, rfl, rfl, HD⟩ := hrel
    clear HPL
    by_cases hlt : j < ps.length
    · have HOK := hide (fun wx (hb : Below w.heap.size w wx) => (unhide Hh).oldk hb hlt)
      obtain ⟨b, off, rfl, ⟨q0, q1, q2, q3, q4, q5, q6⟩, -⟩ := unhide HOK _ (unhide HD).low
      have hlt' : (j : Int) < (ps.length : Int) := by omega
      have hrW := (unhide Hh).2.1 j hlt
      have hsz := unhide HS j
      have HMEM : Hid (ps.getD j .dflt ∈ ps) := hide (by rw [List.getD_eq_getElem?_getD, List.getElem?_eq_getElem hlt]; exact List.getElem_mem hlt)
      generalize ps.getD j .dflt = p at *
      have HQ : Hid (∀ wx, Below w.heap.size w wx → PkCells wx b (off + j * 7) p) := hide fun wx hb => by
        obtain ⟨b', off', eb, hc, -⟩ := unhide HOK wx hb
        simp only [Option.some.injEq, Addr.mk.injEq, and_true] at eb
        rwa [← eb.1, ← eb.2] at hc
      have hDR : PlB w wr.drew w.heap.size (capN M) v qs (.slice ac cs.length cc) cs ps := (unhide HD).below (Below.refl _ _).drew
      have hks := (unhide HIN).ks hDR.src hDR.low
      have hbi : BInv (capN M) (cs.map PKV.pd) := by rw [← hDR.eq]; exact hDR.b.inv
      have HRP0 := rbput_any ac cc (capN M) cs p wr.drew (hDR.own.at' hks).1 hks hbi (capN_le M) (hrW.below hDR.low) hsz.1
      unfold PKV.val at HRP0
      have HRP := hide HRP0
      have HDR := hide hDR
      have HPU := hide (fun wx v qs vc cs (hd : PlH w wx w.heap.size (capN M) v qs vc cs ps) => buput_in (unhide HT) hd.b hd.low p hrW hsz.1 hsz.2)
      have HTE : Hid (takeD (capN M) (cs.map PKV.pd) p.pd = takeD (capN M) (qs.map PKV.pd) p.pd) := hide (by rw [hDR.eq])
      have HBE : Hid (bput (capN M) (cs.map PKV.pd) p.pd = bput (capN M) (qs.map PKV.pd) p.pd) := hide (by rw [hDR.eq])
      clear HRP0 hks hbi hDR hrW hsz HOK HD
      go_wp2_with fail
      go_region_held3 (fun w' => w'.cell? ⟨b, off + j * 7, none⟩ = some (.int .i64 p.o) ∧ w'.cell? ⟨b, off + j * 7 + 1, none⟩ = some (.int .i64 p.l) ∧ w'.cell? ⟨b, off + j * 7 + 2, none⟩ = some (.int .i64 p.k) ∧ w'.cell? ⟨b, off + j * 7 + 3, none⟩ = some (.int .i64 p.z) ∧ w'.cell? ⟨b, off + j * 7 + 4, none⟩ = some (.int .i64 p.h) ∧ w'.cell? ⟨b, off + j * 7 + 5, none⟩ = some (.slice p.r.a p.r.n p.r.c) ∧ w'.cell? ⟨b, off + j * 7 + 6, none⟩ = some (.string p.r.s)) (go_keep) (first
        | (go_at_call 12; refine (rcap_any M _).mono ?_; rintro e y0 ⟨rfl, hy0⟩; obtain rfl := hy0.symm)
        | (go_at_call 11; refine (unhide HRP).mono ?_; rintro e y1 ⟨v1, cs1, rfl, hp1, ho1, hs1, hb1⟩; have HH1 := hide ((unhide HDR).refput (unhide HMEM) ho1 hs1 hb1); have HP1 := hide hp1; obtain ⟨a1, c1, rfl⟩ := (unhide HH1).own.shape; obtain ⟨t0, t1, t2, t3, t4, t5, t6⟩ := unhide HQ y1 (unhide HH1).low; clear hp1 ho1 hs1 hb1))
      have HPB := hide (unhide HPU y1 v qs _ cs1 (unhide HH1))
      rw [unhide HTE]
      generalize hTK : takeD (capN M) (qs.map PKV.pd) p.pd = TK at *
      clear q0 q1 q2 q3 q4 q5 q6 HDR HRP HPU
      go_wp2_with fail
      refine (unhide HPB).mono ?_
      rintro e y2 ⟨he2, v2, qs2, hd2, hp2, ht2, hm2⟩
      rw [hTK] at he2
      subst he2
      have hD2 := (unhide HH1).put hd2 ht2 hm2 (by rw [hp2, unhide HP1, unhide HBE])
      have HD2 := hide hD2
      have HL2 := hide (bulen_any _ _ _ _ _ _ hD2.b)
      have hll : qs2.length = cs1.length := by have := congrArg List.length hD2.eq; simpa using this
      rw [hll] at HL2
      clear hd2 hp2 ht2 hm2 hD2 HPB HH1 HP1 HBE HTE hTK t0 t1 t2 t3 t4 t5 t6
      have hne : (TK != TK) = false := by cases TK <;> rfl
      go_wp2_with fail
      refine (unhide HL2).mono ?_
      rintro e y3 ⟨rfl, hy3⟩
      obtain rfl := hy3.symm
      have HAL := hide (buall_any _ _ _ _ _ _ (unhide HD2).b)
      go_wp2_with fail
      refine (unhide HAL).mono ?_
      rintro e y4 ⟨b4, c4, us, rfl, ho4, hk4, hp4, hb4⟩
      have hD4 := (unhide HD2).below hb4
      obtain ⟨hP4, -⟩ := ho4.at' hk4.ks
      obtain ⟨hPc, -⟩ := hD4.own.at' ((unhide HIN).ks hD4.src hD4.low)
      have HA3 := rpall_any (some ⟨b4, 0, none⟩) qs2.length c4 us a1 cs1.length c1 cs1 y4 hP4 hPc (by rw [hp4, hD4.eq]) (shortK_of hP4 hp4 hD4.b.inv) ((unhide HIN).short hD4.src) (by have := hD4.b.len.2; omega)
      rw [hll] at HA3 ⊢
      have HA := hide HA3
      have HD4 := hide hD4
      clear ho4 hk4 hp4 hb4 hD4 hP4 hPc HA3 HAL HL2 HD2 hll
      go_wp2_with fail
      refine (unhide HA).mono ?_
      rintro e y5 ⟨rfl, hb5⟩
      have HD5 := hide ((unhide HD4).below hb5)
      clear hb5 HA HD4
      go_wp2
      go_roundw
      case rel => exact ⟨j + 1, _, _, _, _, _, by omega, by go_num, rfl, HD5⟩
      case measure => simp [intOf]; omega
    · have HCL := hide (buclear_any _ _ _ _ _ _ (unhide HD).b)
      go_wp2_with fail
      refine (unhide HCL).mono ?_
      rintro e X ⟨rfl, hdx, htx⟩
      have HBX := hide ((unhide HD).b.step (unhide HD).low htx)
      have HDX := hide hdx
      have HL := hide (bulen_any _ _ _ _ _ _ hdx)
      have HAL := hide (buall_any _ _ _ _ _ _ hdx)
      clear hdx htx HCL HD
      go_wp2_with fail
      refine (unhide HL).mono ?_
      rintro e y1 ⟨rfl, hy1⟩
      obtain rfl := hy1.symm
      go_wp2_with fail
      refine (unhide HAL).mono ?_
      rintro e y2 ⟨b2, c2, us, rfl, -, -, -, hb2⟩
      have HB2 := hide (below0 (unhide HBX) hb2)
      clear hb2 HAL HL
      go_wp2_with fail
      refine (unhide HAW _ (unhide HB2)).mono ?_
      rintro e y4 ⟨rfl, hb4⟩
      go_wp2
      go_ret
      exact ⟨rfl, below0 (unhide HB2) hb4⟩
end Go.Proofs.YtbppanebpfpioaaDoor
