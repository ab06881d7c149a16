/-
  Two buffers side by side; the walk of BufferClear: for every input it tells true and writes nothing that was there.
-/
import Derived.Test.YtbppanebpfpioaaDoorUT
namespace Go.Proofs.YtbppanebpfpioaaDoor
open Go.RowKit Go.Sort
set_option linter.unusedVariables false
set_option maxRecDepth 4000

set_option maxHeartbeats 8000000 in
theorem buclear_walk (M : Int) (a : Option Addr) (n c : Nat) (ps : List PKV) (a2 : Option Addr) (n2 c2 : Nat) (ps2 : List PKV) (w : World) (ht : Tab w) (h : PksAt w a n ps) (hn : n ≤ 9223372036854775807) (hbig : ∀ i, (ps.getD i .dflt).r.n ≤ 9223372036854775807 ∧ (ps.getD i .dflt).r.s.size ≤ 9223372036854775807)
    (h2 : PksAt w a2 n2 ps2) (hn2 : n2 ≤ 9223372036854775807) (hbig2 : ∀ i, (ps2.getD i .dflt).r.n ≤ 9223372036854775807 ∧ (ps2.getD i .dflt).r.s.size ≤ 9223372036854775807) :
    Calls Tryd.prog 6 #[.int .i64 M, .slice a n c, .slice a2 n2 c2] w fun e w' => e = .returned (.bool true) ∧ Below w.heap.size w w' := by
  obtain rfl := h.1
  obtain rfl := h2.1
  have HAW := hide (fun (w1 : World) (hb : Below w.heap.size w w1) => awake_any w1 (ht.below hb))
  have HF := hide (fewP_any a ps.length c ps w h hn hbig)
  have HF2 := hide (fewP_any a2 ps2.length c2 ps2 w h2 hn2 hbig2)
  have HT := hide ht
  have Hh := hide h
  have Hh2 := hide h2
  clear h h2 ht hbig hbig2
  go_enter Tryd.func6, Tryd.ntmps6
  go_wp2_with fail
  refine (unhide HF).mono ?_
  rintro e w1 ⟨he, hw1⟩
  obtain rfl := hw1.symm
  clear HF hw1
  rcases he with ⟨rfl, hf⟩ | ⟨rfl, hf⟩
  case inr =>
    clear hf HF2
    go_wp2_with (go_at_call 9; refine (unhide HAW _ (Below.refl _ _)).mono ?_; rintro e w1 ⟨rfl, hb1⟩)
    go_ret
    exact ⟨rfl, hb1⟩
  have HS := hide hf.2
  have hl : ps.length ≤ 60 := hf.1
  clear hf
  go_wp2_with fail
  refine (unhide HF2).mono ?_
  rintro e w1 ⟨he, hw1⟩
  obtain rfl := hw1.symm
  clear HF2 hw1
  rcases he with ⟨rfl, hf⟩ | ⟨rfl, hf⟩
  case inr =>
    clear hf
    go_wp2_with (go_at_call 9; refine (unhide HAW _ (Below.refl _ _)).mono ?_; rintro e w1 ⟨rfl, hb1⟩)
    go_ret
    exact ⟨rfl, hb1⟩
  have HS2 := hide hf.2
  have hl2 : ps2.length ≤ 60 := hf.1
  clear hf
  go_wp2_with fail
  refine (bunew_any M w).mono ?_
  rintro e w1 ⟨rfl, hd1, hb1⟩
  have HD1 := hide hd1
  have HB1 := hide hb1
  clear hd1 hb1
  go_wp2_with fail
  refine (bunew_any M w1).mono ?_
  rintro e w2 ⟨rfl, hd2, hb2⟩
  have HTW : Hid (TwoB w2 w.heap.size w1.heap.size w.heap.size (capN M) (.slice none 0 0) (.slice none 0 0) [] []) := hide ⟨(unhide HD1).below hb2, hd2.mono (unhide HB1).size, Nat.ne_of_lt (unhide HD1).lt, fun j hj => by cases hj⟩
  have HB2 := hide (below0 (unhide HB1) hb2)
  clear hd2 hb2 HD1 HB1
  generalize w1.heap.size = gb at *
  go_wp2
  go_loopw [9] (fun i wr => ∃ (j : Nat) (v : Value) (qs : List PKV), j ≤ ps.length ∧ i = .int .i64 j ∧ Hid (TwoB wr w.heap.size gb w.heap.size (capN M) v (.slice none 0 0) qs []) ∧ Hid (Below w.heap.size w wr)) (fun i _ => ps.length - (intOf i).toNat)
  case atStart => exact ⟨0, _, _, Nat.zero_le _, rfl, HTW, HB2⟩
  case round =>
    obtain ⟨j, v, qs, hj, rfl, HD, HB⟩ := hrel
    clear HTW HB2
    by_cases hlt : j < ps.length
    · obtain ⟨b, off, rfl, ⟨q0, q1, q2, q3, q4, q5, q6⟩, -⟩ := (unhide Hh).oldk (unhide HB) hlt
      have hlt' : (j : Int) < (ps.length : Int) := by omega
      have hrW := (unhide Hh).2.1 j hlt
      have hsz := unhide HS j
      generalize ps.getD j .dflt = p at *
      have HP := hide (buput_in (unhide HT) (unhide HD).a (unhide HB) p hrW hsz.1 hsz.2)
      clear hrW hsz
      go_wp2_with fail
      refine (unhide HP).mono ?_
      rintro e w2 ⟨rfl, v2, qs2, hd2, -, ht2, hm2⟩
      have HB2 := hide ((unhide HD).a.step (unhide HB) ht2)
      have HD2 := hide ((unhide HD).left hd2 ht2 hm2)
      clear hd2 ht2 hm2 HP HD HB q0 q1 q2 q3 q4 q5 q6
      generalize takeD (capN M) (qs.map PKV.pd) p.pd = TK at *
      go_wp2
      go_roundw
      case rel => exact ⟨j + 1, _, _, by omega, by go_num, HD2, HB2⟩
      case measure => simp [intOf]; omega
    · have HCL := hide (buclear_any _ _ _ _ _ _ (unhide HD).a)
      go_wp2_with fail
      refine (unhide HCL).mono ?_
      rintro e X ⟨rfl, hdx, htx⟩
      have HBX := hide ((unhide HD).a.step (unhide HB) htx)
      have HTX := hide ((unhide HD).left hdx htx (.inr fun j hj => by cases hj))
      clear hdx htx HCL HD HB
      go_wp2
      go_loopw [10] (fun i wq => ∃ (j : Nat) (va vb : Value) (qa qb : List PKV), j ≤ ps2.length ∧ i = .int .i64 j ∧ Hid (TwoB wq w.heap.size gb w.heap.size (capN M) va vb qa qb) ∧ Hid (qa.map PKV.pd = qb.map PKV.pd) ∧ Hid (Below w.heap.size w wq)) (fun i _ => ps2.length - (intOf i).toNat)
      case atStart => exact ⟨0, _, _, _, _, Nat.zero_le _, rfl, HTX, hide rfl, HBX⟩
      case round =>
        obtain ⟨j, va, vb, qa, qb, hj, rfl, HD, HE, HB⟩ := hrel
        clear HTX HBX
        by_cases hlt : j < ps2.length
        · have HOK := hide (fun wx (hb : Below w.heap.size w wx) => (unhide Hh2).oldk hb hlt)
          obtain ⟨b, off, rfl, ⟨q0, q1, q2, q3, q4, q5, q6⟩, -⟩ := unhide HOK _ (unhide HB)
          have hlt' : (j : Int) < (ps2.length : Int) := by omega
          have hrW := (unhide Hh2).2.1 j hlt
          have hsz := unhide HS2 j
          generalize ps2.getD j .dflt = p at *
          have HP := hide (fun wx va vb qa qb (hd : TwoB wx w.heap.size gb w.heap.size (capN M) va vb qa qb) (hb : Below w.heap.size w wx) => buput_in (unhide HT) hd.a hb p hrW hsz.1 hsz.2)
          have HPb := hide (fun wx va vb qa qb (hd : TwoB wx w.heap.size gb w.heap.size (capN M) va vb qa qb) (hb : Below w.heap.size w wx) => buput_in (unhide HT) hd.b hb p hrW hsz.1 hsz.2)
          have HQ : Hid (∀ wx, Below w.heap.size w wx → PkCells wx b (off + j * 7) p) := hide fun wx hb => by
            obtain ⟨b', off', eb, hc, -⟩ := unhide HOK wx hb
            simp only [Option.some.injEq, Addr.mk.injEq, and_true] at eb
            rwa [← eb.1, ← eb.2] at hc
          have HDR : Hid (TwoB wr.drew w.heap.size gb w.heap.size (capN M) va vb qa qb) := hide ((unhide HD).below (Below.refl _ _).drew)
          have HBR : Hid (Below w.heap.size w wr.drew) := hide (below0 (unhide HB) (Below.refl _ _).drew)
          have HF1 : Hid True := hide trivial
          clear hrW hsz HOK
          go_wp2_with fail
          go_region_held3 (fun w' => w'.cell? ⟨b, off + j * 7, none⟩ = some (.int .i64 p.o) ∧ w'.cell? ⟨b, off + j * 7 + 1, none⟩ = some (.int .i64 p.l) ∧ w'.cell? ⟨b, off + j * 7 + 2, none⟩ = some (.int .i64 p.k) ∧ w'.cell? ⟨b, off + j * 7 + 3, none⟩ = some (.int .i64 p.z) ∧ w'.cell? ⟨b, off + j * 7 + 4, none⟩ = some (.int .i64 p.h) ∧ w'.cell? ⟨b, off + j * 7 + 5, none⟩ = some (.slice p.r.a p.r.n p.r.c) ∧ w'.cell? ⟨b, off + j * 7 + 6, none⟩ = some (.string p.r.s)) (go_keep) (first
            | (clear HF1; go_at_call 13; refine (unhide HP _ va vb qa qb (unhide HDR) (unhide HBR)).mono ?_; rintro e y1 ⟨rfl, v1, qs1, hd1, hp1, ht1, hm1⟩; have HD1 := hide ((unhide HDR).left hd1 ht1 hm1); have HB1 := hide ((unhide HDR).a.step (unhide HBR) ht1); have HE1 := hide hp1; obtain ⟨t0, t1, t2, t3, t4, t5, t6⟩ := unhide HQ y1 (unhide HB1); clear hd1 hp1 ht1 hm1)
            | (go_at_call 13; refine (unhide HPb _ v1 vb qs1 qb (unhide HD1) (unhide HB1)).mono ?_; rintro e y2 ⟨rfl, v2, qs2, hd2, hp2, ht2, hm2⟩; have HD2 := hide ((unhide HD1).swap.left hd2 ht2 hm2).swap; have HB2 := hide ((unhide HD1).b.step (unhide HB1) ht2); have HE2 := hide hp2; obtain ⟨t0, t1, t2, t3, t4, t5, t6⟩ := unhide HQ y2 (unhide HB2); clear hd2 hp2 ht2 hm2))
          have hTT : takeD (capN M) (qa.map PKV.pd) p.pd = takeD (capN M) (qb.map PKV.pd) p.pd := by rw [unhide HE]
          have HE3 : Hid (qs1.map PKV.pd = qs2.map PKV.pd) := hide (by rw [unhide HE1, unhide HE2, unhide HE])
          rw [hTT]
          clear hTT HE1 HE2 HE HD HB HP HPb HQ HDR HBR HD1 HB1 q0 q1 q2 q3 q4 q5 q6 t0 t1 t2 t3 t4 t5 t6
          generalize takeD (capN M) (qb.map PKV.pd) p.pd = TK at *
          cases TK
          · go_wp2
            go_roundw
            case rel => exact ⟨j + 1, _, _, _, _, by omega, by go_num, HD2, HE3, HB2⟩
            case measure => simp [intOf]; omega
          · go_wp2
            go_roundw
            case rel => exact ⟨j + 1, _, _, _, _, by omega, by go_num, HD2, HE3, HB2⟩
            case measure => simp [intOf]; omega
        · have HAL := hide (buall_any _ _ _ _ _ _ (unhide HD).a)
          have hqa := (unhide HD).a.len.2
          have HIA := hide (unhide HD).a.inv
          have HIB := hide (unhide HD).b.inv
          go_wp2_with fail
          refine (unhide HAL).mono ?_
          rintro e y1 ⟨b1, c1, u1, rfl, ho1, hk1, hp1, hb1⟩
          have HO1 := hide ho1
          have HK1 := hide hk1
          have HP1 := hide hp1
          have HB1 := hide (below0 (unhide HB) hb1)
          have HAL2 := hide (buall_any _ _ _ _ _ _ ((unhide HD).b.below hb1))
          clear ho1 hk1 hp1 hb1 HAL HD HB
          go_wp2_with fail
          refine (unhide HAL2).mono ?_
          rintro e y2 ⟨b2, c3, u2, rfl, ho2, hk2, hp2, hb2⟩
          obtain ⟨hPb, -⟩ := ho2.at' hk2.ks
          obtain ⟨hPa, -⟩ := ((unhide HO1).below hb2).at' ((unhide HK1).below hb2).ks
          have HAL3 := hide (rpall_any (some ⟨b1, 0, none⟩) qa.length c1 u1 (some ⟨b2, 0, none⟩) qb.length c3 u2 y2 hPa hPb (by rw [unhide HP1, hp2, unhide HE]) (shortK_of hPa (unhide HP1) (unhide HIA)) (shortK_of hPb hp2 (unhide HIB)) (by omega))
          have HB2 := hide (below0 (unhide HB1) hb2)
          clear ho2 hk2 hp2 hb2 hPa hPb HAL2 HO1 HK1 HP1 HIA HIB HE HB1
          go_wp2_with fail
          refine (unhide HAL3).mono ?_
          rintro e y3 ⟨rfl, hb3⟩
          have HB3 := hide (below0 (unhide HB2) hb3)
          clear hb3 HAL3
          go_wp2_with fail
          refine (unhide HAW _ (unhide HB3)).mono ?_
          rintro e y4 ⟨rfl, hb4⟩
          go_wp2
          go_ret
          exact ⟨rfl, below0 (unhide HB3) hb4⟩
end Go.Proofs.YtbppanebpfpioaaDoor
