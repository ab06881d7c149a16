/-
  The walk of the law EncoderEmits: for every input, in every world that holds the table of soliton, it tells true and writes nothing that was there.
-/
import Derived.Test.YtigmckjjoabfeaaDoorM13
namespace Go.Proofs.YtigmckjjoabfeaaDoor
open Go.RowKit
set_option linter.unusedVariables false
set_option maxRecDepth 4000

/-- Both sources and both draws, of which as many were used. -/
def EmJ (w0 w : World) (g r gd ge B : Nat) (o l z : Int) (M k : Nat) (a2 : Option Addr) (c2 : Nat) (ss : List ByteArray) (L : List Nat) (N : Nat) : Prop :=
  SrcAt w g o l z M ss ∧ RsB w r (.int .i64 o) (.int .i64 l) (.int .i64 z) (.int .i64 (M : Int)) (.slice a2 k c2) ∧ TextsAt w a2 k ss ∧ DrAt w gd B L N ∧ RfAt w ge B L N ∧ Below w0.heap.size w0 w ∧ B ≤ w.heap.size
def EmS (w0 : World) (r gd ge : Nat) : Prop := w0.heap.size ≤ gd ∧ w0.heap.size ≤ ge ∧ r ≠ gd ∧ r ≠ ge ∧ gd ≠ ge
theorem EmJ.below {w0 w w' : World} {g r gd ge B : Nat} {o l z : Int} {M k : Nat} {a2 : Option Addr} {c2 : Nat} {ss : List ByteArray} {L : List Nat} {N : Nat} (h : EmJ w0 w g r gd ge B o l z M k a2 c2 ss L N) (hb : Below w.heap.size w w') : EmJ w0 w' g r gd ge B o l z M k a2 c2 ss L N := by
  obtain ⟨h1, h2, h3, h4, h5, h6, h7⟩ := h
  exact ⟨h1.below hb, h2.below hb, h3.below hb, h4.below (hb.mono h7), h5.below (hb.mono h7), below0 h6 hb, Nat.le_trans h7 hb.size⟩
/-- Both packets were made, one behind the other. -/
theorem EmJ.emit {w0 w w1 : World} {g r gd ge B : Nat} {o l z : Int} {M k : Nat} {a2 : Option Addr} {c2 : Nat} {ss : List ByteArray} {L : List Nat} {N N' : Nat} (h : EmJ w0 w g r gd ge B o l z M k a2 c2 ss L N) (hs : EmS w0 r gd ge)
    (hg1 : w.grownBy w1 (some gd)) (hd1 : DrAt w1 gd B L N') : (SrcAt w1 g o l z M ss ∧ RsB w1 r (.int .i64 o) (.int .i64 l) (.int .i64 z) (.int .i64 (M : Int)) (.slice a2 k c2) ∧ TextsAt w1 a2 k ss ∧ RfAt w1 ge B L N ∧ Below w0.heap.size w0 w1 ∧ B ≤ w1.heap.size) ∧
      ∀ w2, (w1.grownBy w2 (some ge) → RfAt w2 ge B L N' → EmJ w0 w2 g r gd ge B o l z M k a2 c2 ss L N') := by
  obtain ⟨h1, h2, h3, h4, h5, h6, h7⟩ := h
  obtain ⟨s1, s2, s3, s4, s5⟩ := hs
  obtain ⟨_, _, _, hb⟩ := h4.blk
  have k1 := h1.kept hg1 hb
  have k2 := h2.kept hg1 (fun e => s3 (Option.some.inj e))
  have k3 := h3.kept hg1 hb
  have k5 := h5.kept hg1 (fun e => s5 e.symm) hb
  have k6 := below_gb h6 hg1 h6.size s1
  have k7 := Nat.le_trans h7 hg1.size
  refine ⟨⟨k1, k2, k3, k5, k6, k7⟩, fun w2 hg2 hd2 => ?_⟩
  obtain ⟨_, _, _, hb2⟩ := k5.blk
  exact ⟨k1.kept hg2 hb2, k2.kept hg2 (fun e => s4 (Option.some.inj e)), k3.kept hg2 hb2, hd1.kept hg2 s5 hb2, hd2, below_gb k6 hg2 k6.size s2, Nat.le_trans k7 hg2.size⟩

set_option maxHeartbeats 4000000 in
theorem emits_walk (o z p : Int) (s : ByteArray) (a : Option Addr) (len cap : Nat) (xs : List Nat) (n : Int) (w : World) (ht : PTab w) (hs : s.size ≤ 9223372036854775807) (hr : RowAt w a len xs) (hm : len ≤ 9223372036854775807) :
    Calls Tryd.prog 4 #[.agg #[.int .i64 o, .int .i64 z, .int .i64 p, .string s], .slice a len cap, .int .i64 n] w fun e w' => e = .returned (.bool true) ∧ Below w.heap.size w w' := by
  have m0 := md_new w o z p s
  have M0 := hide m0
  have B0 := hide (below_new w (.cells #[.int .i64 o, .int .i64 z, .int .i64 p, .string s] 23))
  have HP := hide ht
  have HR := hide (row_alloc hr (.cells #[.int .i64 o, .int .i64 z, .int .i64 p, .string s] 23))
  clear ht hr m0
  by_cases hl : 300 < len
  · have hl' : (300 : Int) < (len : Int) := by omega
    clear HR M0
    go_enter Tryd.func4, Tryd.ntmps4
    go_wp2_with fail
    refine (awake_any _ ((unhide HP).below (unhide B0))).mono ?_
    rintro e w9 ⟨rfl, hb9⟩
    have B9 := hide (below0 (unhide B0) hb9)
    clear hb9 B0
    go_wp2
    go_ret
    exact ⟨rfl, unhide B9⟩
  have hl' : ¬ ((300 : Int) < (len : Int)) := by omega
  by_cases hn : 20 < n
  · clear HR M0
    go_enter Tryd.func4, Tryd.ntmps4
    go_wp2_with fail
    refine (awake_any _ ((unhide HP).below (unhide B0))).mono ?_
    rintro e w9 ⟨rfl, hb9⟩
    have B9 := hide (below0 (unhide B0) hb9)
    clear hb9 B0
    go_wp2
    go_ret
    exact ⟨rfl, unhide B9⟩
  by_cases hE : newE o s.size z p = 0
  · obtain ⟨O, Z, Q, rfl, hO, rfl, rfl, hz1, hz2, hk2⟩ := newE_yes hE
    have HN := hide (fun wx => new_yes O s Z Q wx hO hz1 hz2 hk2)
    have HRN := hide (fun wx => rnew_yes O s Z Q wx hO hz1 hz2 hk2)
    have HL := hide (blocksL_length (tx s) Z (kc s.size Z))
    have HSH := hide (shorts_blocks (tx s) Z (kc s.size Z) hz2)
    have hkp := kc_pos s.size Z
    have hsz : min Q (kc s.size Z) ≤ kc s.size Z := Nat.min_le_right _ _
    clear hE
    generalize blocksL (tx s) Z (kc s.size Z) = ss at *
    generalize min Q (kc s.size Z) = M at *
    generalize kc s.size Z = k at *
    go_enter Tryd.func4, Tryd.ntmps4
    go_wp2_with fail
    refine (unhide HN _).mono ?_
    rintro e w1 ⟨g, rfl, hs1, hb1⟩
    have B1 := hide (below0 (unhide B0) hb1)
    have S1 := hide hs1
    have R1 := hide ((unhide HR).below hb1)
    obtain ⟨m0, m1, m2, m3⟩ := (unhide M0).below hb1
    clear hs1 hb1 HN M0 B0 HR
    go_wp2_with fail
    refine (unhide HRN _).mono ?_
    rintro e w2 ⟨a2, c2, rfl, ht2, hb2⟩
    have B2 := hide (below0 (unhide B1) hb2)
    have S2 := hide ((unhide S1).below hb2)
    have hA := below_new w2 (.cells #[.int .i64 (O : Int), .int .i64 (s.size : Int), .int .i64 (Z : Int), .int .i64 (M : Int), .slice a2 k c2] 30)
    have B3 := hide (below0 (unhide B2) hA)
    have S3 := hide ((unhide S2).below hA)
    have T3 := hide (ht2.below hA)
    have R3 := hide (((unhide R1).below hb2).below hA)
    have X3 := hide (rsb_new w2 (.int .i64 (O : Int)) (.int .i64 (s.size : Int)) (.int .i64 (Z : Int)) (.int .i64 (M : Int)) (.slice a2 k c2))
    have hr3 := (unhide X3).lt
    have hr0 := (unhide B2).size
    clear m0 m1 m2 m3 hb2 ht2 S1 B1 S2 B2 R1 hA HRN
    have HNW := hide (new_any a len cap xs (w2.alloc (.cells #[.int .i64 (O : Int), .int .i64 (s.size : Int), .int .i64 (Z : Int), .int .i64 (M : Int), .slice a2 k c2] 30)) (unhide R3) (by omega))
    go_wp2_with fail
    refine (unhide HNW).mono ?_
    rintro e w4 ⟨gd, rfl, hgd, hd4, hb4⟩
    have B4 := hide (below0 (unhide B3) hb4)
    have S4 := hide ((unhide S3).below hb4)
    have T4 := hide ((unhide T3).below hb4)
    have R4 := hide ((unhide R3).below hb4)
    have X4 := hide ((unhide X3).below hb4)
    have D4 := hide hd4
    generalize w2.heap.size = r at *
    have hrd : r < gd := Nat.lt_of_lt_of_le hr3 hgd
    have hdl := hd4.1
    clear hgd hd4 hb4 S3 T3 R3 X3 B3 HNW hr3
    have hA := below_new w4 (.cells #[.slice a len cap, .int .i64 0] 43)
    have hsz4 := alloc_size w4 (.cells #[.slice a len cap, .int .i64 0] 43)
    have J := hide (show EmJ w (w4.alloc (.cells #[.slice a len cap, .int .i64 0] 43)) g r gd w4.heap.size (w4.heap.size + 1) (O : Int) (s.size : Int) (Z : Int) M k a2 c2 ss xs 0 from
      ⟨(unhide S4).below hA, (unhide X4).below hA, (unhide T4).below hA, ((unhide D4).below hA).mono (Nat.le_succ _), ⟨Nat.lt_succ_self _, a, len, cap, bk2_new _ _ _ _, by omega, (unhide R4).below hA, (unhide R4).lt.imp id fun q ad e => Nat.lt_succ_of_lt (q ad e)⟩, below0 (unhide B4) hA, by rw [hsz4]; exact Nat.le_refl _⟩)
    have HS := hide (show EmS w r gd w4.heap.size from ⟨by omega, (unhide B4).size, by omega, by omega, by omega⟩)
    have HLS := hide (unhide R4).2.1
    clear S4 X4 T4 D4 R4 B4 hA hsz4 hrd hdl
    go_wp2_with fail
    generalize w4.alloc (.cells #[.slice a len cap, .int .i64 0] 43) = W at *
    generalize w4.heap.size + 1 = B at *
    generalize w4.heap.size = ge at *
    go_loopw [13] (fun i wr => ∃ q : Nat, q ≤ n.toNat ∧ i = .int .i64 q ∧ Hid (∃ N, N ≤ q * 129 ∧ EmJ w wr g r gd ge B (O : Int) (s.size : Int) (Z : Int) M k a2 c2 ss xs N)) (fun i _ => n.toNat - (intOf i).toNat)
    case atStart => exact ⟨0, Nat.zero_le _, rfl, hide ⟨0, Nat.zero_le _, unhide J⟩⟩
    case round =>
      rename_i wr
      obtain ⟨q, hq, rfl, HQ⟩ := hrel
      clear J
      obtain ⟨N, hN, hJ⟩ := unhide HQ
      clear HQ
      have J := hide hJ
      by_cases hlt : (q : Int) < n
      · have JD := hide (hJ.below (Below.refl _ _).drew)
        have hN2 : N ≤ 2580 := by omega
        have hdin := degL_in k M xs N hkp (by omega)
        have HEM := hide (fun wx hp ht hd hB => emit_any g gd B (O : Int) (s.size : Int) (Z : Int) M k ss xs N wx hp (unhide HL) hkp hk2 hsz (unhide HSH) ht hd hB (by omega))
        have HRM := hide (fun wx ht hd hB => remit_any ge B (O : Int) (s.size : Int) (Z : Int) M k a2 c2 ss xs N wx ht hkp hk2 hsz (unhide HSH) hd (unhide HLS) hB (by omega))
        have HNB := hide (show nextN k M xs N ≤ (q + 1) * 129 from by unfold nextN; omega)
        have hm2 := sizeOfK_le (k : Int)
        obtain ⟨r0, r1, r2, r3, r4⟩ := hJ.2.1.cells
        clear hJ hdin J
        generalize vecL k M xs N = vs at *
        generalize nextN k M xs N = nn at *
        generalize st (ofL ss vs k) = dt at *
        generalize sizeOfK (k : Int) = m at *
        go_wp2_with fail
        refine wp_region_held_drew (S := (fun w' => w'.cell? ⟨r, 0, none⟩ = some (.int .i64 (O : Int)) ∧ w'.cell? ⟨r, 1, none⟩ = some (.int .i64 (s.size : Int)) ∧ w'.cell? ⟨r, 2, none⟩ = some (.int .i64 (Z : Int)) ∧ w'.cell? ⟨r, 3, none⟩ = some (.int .i64 (M : Int)) ∧ w'.cell? ⟨r, 4, none⟩ = some (.slice a2 k c2))) (by kernel_rfl) ?_ (fun hHeld => ?_)
        · go_keep
        refine wpAnyH_take (i := 0) (v := ?_) rfl (by kernel_rfl) (by kernel_rfl) (by kernel_rfl) (fun _ _ _ h => h) (Or.inl ⟨by rfl, ?f0⟩) (by assumption) ?_
        case f0 => (intro w hSw; (try dsimp only at hSw); go_simp; try with_reducible rfl)
        refine wpAnyH_take (i := 1) (v := ?_) rfl (by kernel_rfl) (by kernel_rfl) (by kernel_rfl) (fun _ _ _ h => h) (Or.inl ⟨by rfl, ?f1⟩) (by assumption) ?_
        case f1 => (intro w hSw; (try dsimp only at hSw); go_simp; try with_reducible rfl)
        refine wpAnyH_take (i := 3) (v := ?_) rfl (by kernel_rfl) (by kernel_rfl) (by kernel_rfl) (fun _ _ _ h => h) (Or.inl ⟨by rfl, ?f3⟩) (by assumption) ?_
        case f3 => (intro w hSw; (try dsimp only at hSw); go_simp; try with_reducible rfl)
        refine wpAnyH_take (i := 4) (v := ?_) rfl (by kernel_rfl) (by kernel_rfl) (by kernel_rfl) (fun _ _ _ h => h) (Or.inl ⟨by rfl, ?f4⟩) (by assumption) ?_
        case f4 => (intro w hSw; (try dsimp only at hSw); go_simp; try with_reducible rfl)
        refine wpAnyH_ready (rs := [2]) (by kernel_rfl) (by simp) ?_
        refine AllReadyH.cons rfl (fun K hK => ?_) AllReadyH.nil
        go_simp
        go_wp2_with (go_at_call 16; refine (unhide HEM _ (unhide JD).1 ((unhide HP).below (unhide JD).2.2.2.2.2.1) (unhide JD).2.2.2.1 (unhide JD).2.2.2.2.2.2).mono ?_; rintro e w5 ⟨a5, c5, rfl, hr5, hd5, hg5⟩; have he5 := (unhide JD).emit (unhide HS) hg5 hd5; have E5 := hide he5; have R5 := hide hr5; obtain ⟨u0, u1, u2, u3, u4⟩ := he5.1.2.1.cells; clear hr5 hd5 hg5 he5)
        refine hK.out _ _ ?_ (fun hHeld => ?_)
        · go_keep
        clear hK K
        refine wpAnyH_ready (rs := [5]) (by kernel_rfl) (by simp) ?_
        refine AllReadyH.cons rfl (fun K hK => ?_) AllReadyH.nil
        go_simp
        go_wp2_with (go_at_call 17; refine (unhide HRM _ (unhide E5).1.2.2.1 (unhide E5).1.2.2.2.1 (unhide E5).1.2.2.2.2.2).mono ?_; rintro e w6 ⟨a6, c6, rfl, hr6, hd6, hg6⟩; have hj6 := (unhide E5).2 w6 hg6 hd6; have J6 := hide hj6; have R6 := hide ((unhide R5).drawnR hg6 (unhide E5).1.2.2.2.1); have Q6 := hide hr6; obtain ⟨t0, t1, t2, t3, t4⟩ := hj6.2.1.cells; clear hr6 hd6 hg6 hj6)
        refine hK.out _ _ ?_ (fun hHeld => ?_)
        · go_keep
        clear hK K
        refine wpAnyH_ready (rs := [6]) (by kernel_rfl) (by simp) ?_
        refine AllReadyH.cons rfl (fun K hK => ?_) AllReadyH.nil
        go_simp
        go_wp2_with (go_at_call 15; refine (rpsame_yes _ _ _ _ _ a5 m c5 vs dt a6 m c6 w6 (unhide R6) (unhide Q6) (by omega)).mono ?_; rintro e w7 ⟨rfl, hb7⟩; have hj7 := (unhide J6).below hb7; have J7 := hide hj7; obtain ⟨x0, x1, x2, x3, x4⟩ := hj7.2.1.cells; obtain ⟨_, _, _, hbk⟩ := hj7.2.2.2.2.1.blk; have hNN := hbk.at1; clear hb7 hj7 hbk)
        refine hK.out _ _ ?_ (fun hHeld => ?_)
        · go_keep
        clear hK K
        refine wpAnyH_take (i := 7) (v := ?_) rfl (by kernel_rfl) (by kernel_rfl) (by kernel_rfl) (fun _ _ _ h => h) (Or.inl ⟨by rfl, ?f7⟩) (by assumption) ?_
        case f7 => (intro w hSw; (try dsimp only at hSw); go_simp; try with_reducible rfl)
        refine wpAnyH_take (i := 8) (v := ?_) rfl (by kernel_rfl) (by kernel_rfl) (by kernel_rfl) (fun _ _ _ h => h) (Or.inl ⟨by rfl, ?f8⟩) (by assumption) ?_
        case f8 => (intro w hSw; (try dsimp only at hSw); go_simp; try with_reducible rfl)
        refine wpAnyH_take (i := 9) (v := ?_) rfl (by kernel_rfl) (by kernel_rfl) (by kernel_rfl) (fun _ _ _ h => h) (Or.inl ⟨by rfl, ?f9⟩) (by assumption) ?_
        case f9 => (intro w hSw; (try dsimp only at hSw); go_simp; try with_reducible rfl)
        refine wpAnyH_take (i := 11) (v := ?_) rfl (by kernel_rfl) (by kernel_rfl) (by kernel_rfl) (fun _ _ _ h => h) (Or.inl ⟨by rfl, ?f11⟩) (by assumption) ?_
        case f11 => (intro w hSw; (try dsimp only at hSw); go_simp; try with_reducible rfl)
        refine wpAnyH_take (i := 12) (v := ?_) rfl (by kernel_rfl) (by kernel_rfl) (by kernel_rfl) (fun _ _ _ h => h) (Or.inl ⟨by rfl, ?f12⟩) (by assumption) ?_
        case f12 => (intro w hSw; (try dsimp only at hSw); go_simp; try with_reducible rfl)
        refine wpAnyH_take (i := 13) (v := ?_) rfl (by kernel_rfl) (by kernel_rfl) (by kernel_rfl) (fun _ _ _ h => h) (Or.inl ⟨by rfl, ?f13⟩) (by assumption) ?_
        case f13 => (intro w hSw; (try dsimp only at hSw); go_simp; try with_reducible rfl)
        refine wpAnyH_ready (rs := [10, 14]) (by kernel_rfl) (by simp) ?_
        refine AllReadyH.cons rfl (fun K hK => ?_) (AllReadyH.cons rfl (fun K hK => ?_) AllReadyH.nil)
        · go_simp
          go_wp2_with (go_at_call 18; refine (used_any gd B xs nn w7 (unhide J7).2.2.2.1).mono ?_; rintro e w' ⟨rfl, hw⟩; obtain rfl := hw.symm; clear hw)
          refine hK.out _ _ ?_ (fun hHeld => ?_)
          · go_keep
          clear hK K
          refine wpAnyH_ready (rs := [14]) (by kernel_rfl) (by simp) ?_
          refine AllReadyH.cons rfl (fun K hK => ?_) AllReadyH.nil
          go_simp
          refine hK.out _ _ ?_ (fun hHeld => ?_)
          · go_keep
          clear hK K
          refine wpAnyH_take (i := 15) (v := ?_) rfl (by kernel_rfl) (by kernel_rfl) (by kernel_rfl) (fun _ _ _ h => h) (Or.inl ⟨by rfl, ?f15⟩) (by assumption) ?_
          case f15 => (intro w hSw; (try dsimp only at hSw); go_simp; try with_reducible rfl)
          refine wpAnyH_take (i := 16) (v := ?_) rfl (by kernel_rfl) (by kernel_rfl) (by kernel_rfl) (fun _ _ _ h => h) (Or.inl ⟨by rfl, ?f16⟩) (by assumption) ?_
          case f16 => (intro w hSw; (try dsimp only at hSw); go_simp; try with_reducible rfl)
          refine wpAnyH_done (by kernel_rfl) ?_ _
          go_wp2
          go_roundw
          case rel => exact ⟨q + 1, by omega, by go_num, hide ⟨nn, unhide HNB, unhide J7⟩⟩
          case measure => simp [intOf]; omega
        · go_simp
          refine hK.out _ _ ?_ (fun hHeld => ?_)
          · go_keep
          clear hK K
          refine wpAnyH_ready (rs := [10]) (by kernel_rfl) (by simp) ?_
          refine AllReadyH.cons rfl (fun K hK => ?_) AllReadyH.nil
          go_simp
          go_wp2_with (go_at_call 18; refine (used_any gd B xs nn w7 (unhide J7).2.2.2.1).mono ?_; rintro e w' ⟨rfl, hw⟩; obtain rfl := hw.symm; clear hw)
          refine hK.out _ _ ?_ (fun hHeld => ?_)
          · go_keep
          clear hK K
          refine wpAnyH_take (i := 15) (v := ?_) rfl (by kernel_rfl) (by kernel_rfl) (by kernel_rfl) (fun _ _ _ h => h) (Or.inl ⟨by rfl, ?f15⟩) (by assumption) ?_
          case f15 => (intro w hSw; (try dsimp only at hSw); go_simp; try with_reducible rfl)
          refine wpAnyH_take (i := 16) (v := ?_) rfl (by kernel_rfl) (by kernel_rfl) (by kernel_rfl) (fun _ _ _ h => h) (Or.inl ⟨by rfl, ?f16⟩) (by assumption) ?_
          case f16 => (intro w hSw; (try dsimp only at hSw); go_simp; try with_reducible rfl)
          refine wpAnyH_done (by kernel_rfl) ?_ _
          go_wp2
          go_roundw
          case rel => exact ⟨q + 1, by omega, by go_num, hide ⟨nn, unhide HNB, unhide J7⟩⟩
          case measure => simp [intOf]; omega
      · go_wp2_with fail
        refine (awake_any wr ((unhide HP).below hJ.2.2.2.2.2.1)).mono ?_
        rintro e w9 ⟨rfl, hb9⟩
        have B9 := hide (below0 hJ.2.2.2.2.2.1 hb9)
        clear hb9 hJ
        go_wp2
        go_ret
        exact ⟨rfl, unhide B9⟩
  · have HN := hide (fun wx => new_bad o s z p wx hs hE)
    have HRN := hide (fun wx => rnew_bad o s z p wx hs hE)
    have hE' : (newE o s.size z p != 0) = true := bne_iff_ne.2 hE
    clear hE
    generalize newE o s.size z p = E0 at *
    go_enter Tryd.func4, Tryd.ntmps4
    go_wp2_with fail
    refine (unhide HN _).mono ?_
    rintro e w1 ⟨rfl, hb1⟩
    have B1 := hide (below0 (unhide B0) hb1)
    obtain ⟨m0, m1, m2, m3⟩ := (unhide M0).below hb1
    clear hb1 HN M0 B0
    go_wp2_with fail
    refine (unhide HRN _).mono ?_
    rintro e w2 ⟨rfl, hb2⟩
    have B2 := hide (below0 (unhide B1) hb2)
    have hA := below_new w2 (.cells #[.int .i64 0, .int .i64 0, .int .i64 0, .int .i64 0, .slice none 0 0] 30)
    have B3 := hide (below0 (unhide B2) hA)
    clear m0 m1 m2 m3 hb2 B1 B2 hA HRN
    go_wp2_with fail
    refine (awake_any _ ((unhide HP).below (unhide B3))).mono ?_
    rintro e w9 ⟨rfl, hb9⟩
    have B9 := hide (below0 (unhide B3) hb9)
    clear hb9 B3
    go_wp2
    go_ret
    exact ⟨rfl, unhide B9⟩
end Go.Proofs.YtigmckjjoabfeaaDoor
