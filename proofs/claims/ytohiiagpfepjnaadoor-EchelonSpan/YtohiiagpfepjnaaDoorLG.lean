/-
  The walk of the law EchelonSpan.
-/
import Derived.Test.YtohiiagpfepjnaaDoorLE
namespace Go.Proofs.YtohiiagpfepjnaaDoor
open Go.RowKit
set_option linter.unusedVariables false

set_option maxHeartbeats 4000000 in
theorem span_walk (a : Option Addr) (n c : Nat) (rs : List (List Nat)) (w : World) (ht : Tab w) (h : VecsAt w a n rs) :
    Calls Tryd.prog 6 #[.slice a n c] w fun e w' => e = .returned (.bool true) ∧ Below w.heap.size w w' := by
  go_enter Tryd.func6, Tryd.ntmps6
  go_wp2_with fail
  refine (few_any a n c rs _ h).mono ?_
  rintro e w' ⟨he, hw⟩
  obtain rfl := hw.symm
  rcases he with rfl | ⟨hF, rfl⟩
  · clear h
    go_wp2_with (go_at_call 13; refine (awake_any _ ht).mono ?_; rintro e w5 ⟨rfl, hb⟩)
    go_ret
    exact ⟨rfl, hb⟩
  · have hf := hF.fit h
    have hn : n ≤ 150 := by rw [← h.1]; exact hF.1
    have hbf := basis_fit hf
    have hbl := basis_len hf
    rw [h.1] at hbl
    have HIN := hide (fun i (hi : i < n) => basis_in hf (v := rs.getD i []) (by rw [List.getD_eq_getElem?_getD, List.getElem?_eq_getElem (by rw [h.1]; exact hi)]; exact List.getElem_mem _))
    have HIN2 := hide (fun i (hi : i < n) => basis_in2 hf (v := rs.getD i []) (u := rs.getD 0 []) (by rw [List.getD_eq_getElem?_getD, List.getElem?_eq_getElem (by rw [h.1]; exact hi)]; exact List.getElem_mem _) (by rw [List.getD_eq_getElem?_getD, List.getElem?_eq_getElem (by rw [h.1]; omega)]; exact List.getElem_mem _))
    clear hF
    go_wp2_with fail
    refine (basis_any a n c rs _ ht h hf (by omega)).mono ?_
    rintro e w1 ⟨v1, vs1, rfl, hV1, hb1⟩
    obtain ⟨a1, c1, rfl, hv1⟩ := hV1.vecs
    have HB1 := hide hb1
    have HV1 := hide hv1
    clear hV1 hb1 hv1
    generalize basisL rs = B at *
    go_wp2
    go_loopw [4] (fun i wr => ∃ k : Nat, k ≤ n ∧ i = .int .i64 k ∧ Hid (Below w1.heap.size w1 wr)) (fun i _ => n - (intOf i).toNat)
    case atStart => exact ⟨0, Nat.zero_le _, rfl, hide (Below.refl _ _)⟩
    case round =>
      obtain ⟨k, hk, rfl, HB⟩ := hrel
      have hB := unhide HB
      have hBw := below0 (unhide HB1) hB
      by_cases hlt : k < n
      · obtain ⟨b, off, rfl, hc⟩ := (h.below hBw).at hlt
        obtain ⟨ai, ci, hcell, hrow⟩ := hc k hlt
        obtain ⟨a0, c0, hcell0, hrow0⟩ := hc 0 (by omega)
        rw [Nat.add_zero] at hcell0
        have hyl := (hf.getD k).2
        have hy0l := (hf.getD 0).2
        have hxl : (xorL (rs.getD k []) (rs.getD 0 [])).length ≤ 1048576 := by rw [xorL_length]; omega
        have HINK := hide (unhide HIN k hlt)
        have HIN2K := hide (unhide HIN2 k hlt)
        have hB0 : Below w1.heap.size w1 wr.drew := hB.drew
        have hBw0 : Below w.heap.size w wr.drew := hBw.drew
        have hd : Below wr.heap.size wr wr.drew := (Below.refl _ _).drew
        have hrowd := hrow.below hd
        have hrow0d := hrow0.below hd
        have hI := in_any a1 _ c1 B ai _ ci (rs.getD k []) wr.drew (ht.below hBw0) ((unhide HV1).below hB0) hbf hrowd (by omega) hyl
        rw [show decide (firstI (reduceL B (rs.getD k [])) < 0) = true by rw [decide_eq_true_iff]; exact unhide HINK] at hI
        have HI := hide hI
        have HRD := hide hrowd
        have HR0D := hide hrow0d
        have HB0 := hide hB0
        have HBw0 := hide hBw0
        have HCELL := hide hcell
        have HCELL0 := hide hcell0
        have hltI : (k : Int) < (n : Int) := by omega
        have hn0 : (0 : Int) < (n : Int) := by omega
        have hn0' : 0 < n := by omega
        clear hc hrow hrow0 h HIN HIN2 hI hrowd hrow0d hB0 hBw0 hB hBw HINK hd HB
        generalize rs.getD k [] = y at *
        generalize rs.getD 0 [] = y0 at *
        go_wp2_with fail
        refine wp_region_any (by kernel_rfl) ?_
        change wpAny _ _ _ _ _ _ _ (World.drew _)
        refine wpAny_take (i := 0) (v := ?_) rfl (by kernel_rfl) (by kernel_rfl) (by kernel_rfl) (fun _ _ _ h => h) (Or.inl ⟨by rfl, ?f0⟩) ?_
        case f0 => (intro w; go_simp; try with_reducible rfl)
        refine wpAny_take (i := 1) (v := ?_) rfl (by kernel_rfl) (by kernel_rfl) (by kernel_rfl) (fun _ _ _ h => h) (Or.inl ⟨by rfl, ?f1⟩) ?_
        case f1 => (intro w; go_simp; try with_reducible rfl)
        refine wpAny_take (i := 2) (v := ?_) rfl (by kernel_rfl) (by kernel_rfl) (by kernel_rfl) (fun _ _ _ h => h) (Or.inl ⟨by rfl, ?f2⟩) ?_
        case f2 => (intro w; go_simp; try with_reducible rfl)
        refine wpAny_take (i := 3) (v := ?_) rfl (by kernel_rfl) (by kernel_rfl) (by kernel_rfl) (fun _ _ _ h => h) (Or.inl ⟨by rfl, ?f3⟩) ?_
        case f3 => (intro w; go_simp; try with_reducible rfl)
        refine wpAny_ready (rs := [4]) (by kernel_rfl) (by simp) ?_
        refine AllReady.cons rfl (fun K hK => ?_) AllReady.nil
        go_simp
        refine hK _ _ ?_
        clear hK K
        refine wpAny_ready (rs := [5]) (by kernel_rfl) (by simp) ?_
        refine AllReady.cons rfl (fun K hK => ?_) AllReady.nil
        go_simp
        refine (unhide HI).mono ?_
        rintro e w2 ⟨rfl, hb2⟩
        have hcell2 : w2.cell? ⟨b, off + k, none⟩ = some (.slice ai y.length ci) := (hb2.cell (p := ⟨b, off + k, none⟩) (World.block_lt_of_cell? wr _ (unhide HCELL))).trans (unhide HCELL)
        have hcell02 : w2.cell? ⟨b, off, none⟩ = some (.slice a0 y0.length c0) := (hb2.cell (p := ⟨b, off, none⟩) (World.block_lt_of_cell? wr _ (unhide HCELL0))).trans (unhide HCELL0)
        have HR2 := hide ((unhide HRD).below hb2)
        have HR02 := hide ((unhide HR0D).below hb2)
        have HBw2 := hide (below0 (unhide HBw0) hb2)
        have HB2 := hide (below0 (unhide HB0) hb2)
        have HV2 := hide ((unhide HV1).below (unhide HB2))
        clear hb2 HRD HR0D HBw0 HB0 HI hcell hcell0
        refine hK _ _ ?_
        clear hK K
        refine wpAny_take (i := 6) (v := ?_) rfl (by kernel_rfl) (by kernel_rfl) (by kernel_rfl) (fun _ _ _ h => h) (Or.inl ⟨by rfl, ?f6⟩) ?_
        case f6 => (intro w; go_simp; try with_reducible rfl)
        refine wpAny_take (i := 7) (v := ?_) rfl (by kernel_rfl) (by kernel_rfl) (by kernel_rfl) (fun _ _ _ h => h) (Or.inl ⟨by rfl, ?f7⟩) ?_
        case f7 => (intro w; go_simp; try with_reducible rfl)
        refine wpAny_take (i := 8) (v := ?_) rfl (by kernel_rfl) (by kernel_rfl) (by kernel_rfl) (fun _ _ _ h => h) (Or.inl ⟨by rfl, ?f8⟩) ?_
        case f8 => (intro w; go_simp; try with_reducible rfl)
        refine wpAny_take (i := 9) (v := ?_) rfl (by kernel_rfl) (by kernel_rfl) (by kernel_rfl) (fun _ _ _ h => h) (Or.inl ⟨by rfl, ?f9⟩) ?_
        case f9 => (intro w; go_simp; try with_reducible rfl)
        refine wpAny_take (i := 10) (v := ?_) rfl (by kernel_rfl) (by kernel_rfl) (by kernel_rfl) (fun _ _ _ h => h) (Or.inl ⟨by rfl, ?f10⟩) ?_
        case f10 => (intro w; go_simp; try with_reducible rfl)
        refine wpAny_take (i := 11) (v := ?_) rfl (by kernel_rfl) (by kernel_rfl) (by kernel_rfl) (fun _ _ _ h => h) (Or.inl ⟨by rfl, ?f11⟩) ?_
        case f11 => (intro w; go_simp; try with_reducible rfl)
        refine wpAny_take (i := 13) (v := ?_) rfl (by kernel_rfl) (by kernel_rfl) (by kernel_rfl) (fun _ _ _ h => h) (Or.inl ⟨by rfl, ?f13⟩) ?_
        case f13 => (intro w; go_simp; try with_reducible rfl)
        refine wpAny_take (i := 14) (v := ?_) rfl (by kernel_rfl) (by kernel_rfl) (by kernel_rfl) (fun _ _ _ h => h) (Or.inl ⟨by rfl, ?f14⟩) ?_
        case f14 => (intro w; go_simp; try with_reducible rfl)
        refine wpAny_ready (rs := [12, 15]) (by kernel_rfl) (by simp) ?_
        refine AllReady.cons rfl (fun K hK => ?r1) (AllReady.cons rfl (fun K hK => ?r2) AllReady.nil)
        case r1 =>
          go_simp
          refine hK _ _ ?_
          clear hK K
          refine wpAny_ready (rs := [15]) (by kernel_rfl) (by simp) ?_
          refine AllReady.cons rfl (fun K hK => ?_) AllReady.nil
          go_simp
          refine hK _ _ ?_
          clear hK K
          refine wpAny_ready (rs := [16]) (by kernel_rfl) (by simp) ?_
          refine AllReady.cons rfl (fun K hK => ?_) AllReady.nil
          go_simp
          refine (rxor_any ai _ ci y a0 _ c0 y0 _ (unhide HR2) (unhide HR02) hyl hy0l).mono ?_
          rintro e w3 ⟨v3, rfl, ho3, hb3⟩
          obtain ⟨a3, c3, rfl, hr3⟩ := ho3.row
          have hI2 := in_any a1 _ c1 B a3 _ c3 (xorL y y0) w3 (ht.below (below0 (unhide HBw2) hb3)) ((unhide HV2).below hb3) hbf hr3 (by omega) hxl
          rw [show decide (firstI (reduceL B (xorL y y0)) < 0) = true by rw [decide_eq_true_iff]; exact unhide HIN2K] at hI2
          have HI2 := hide hI2
          have HB3 := hide (below0 (unhide HB2) hb3)
          clear ho3 hr3 hb3 hI2
          refine hK _ _ ?_
          clear hK K
          refine wpAny_ready (rs := [17]) (by kernel_rfl) (by simp) ?_
          refine AllReady.cons rfl (fun K hK => ?_) AllReady.nil
          go_simp
          refine (unhide HI2).mono ?_
          rintro e w4 ⟨rfl, hb4⟩
          have HB4 := hide (below0 (unhide HB3) hb4)
          clear hb4 HI2 HB3
          refine hK _ _ ?_
          clear hK K
          refine wpAny_take (i := 18) (v := ?_) rfl (by kernel_rfl) (by kernel_rfl) (by kernel_rfl) (fun _ _ _ h => h) (Or.inl ⟨by rfl, ?f18⟩) ?_
          case f18 => (intro w; go_simp; try with_reducible rfl)
          refine wpAny_take (i := 19) (v := ?_) rfl (by kernel_rfl) (by kernel_rfl) (by kernel_rfl) (fun _ _ _ h => h) (Or.inl ⟨by rfl, ?f19⟩) ?_
          case f19 => (intro w; go_simp; try with_reducible rfl)
          refine wpAny_done (by kernel_rfl) ?_ _
          clear HR2 HR02 HV2 HB2 HBw2 hcell2 hcell02
          go_wp2
          go_roundw
          case rel => exact ⟨k + 1, by omega, by go_num, HB4⟩
          case measure => simp [intOf]; omega
        case r2 =>
          go_simp
          refine hK _ _ ?_
          clear hK K
          refine wpAny_ready (rs := [12]) (by kernel_rfl) (by simp) ?_
          refine AllReady.cons rfl (fun K hK => ?_) AllReady.nil
          go_simp
          refine hK _ _ ?_
          clear hK K
          refine wpAny_ready (rs := [16]) (by kernel_rfl) (by simp) ?_
          refine AllReady.cons rfl (fun K hK => ?_) AllReady.nil
          go_simp
          refine (rxor_any ai _ ci y a0 _ c0 y0 _ (unhide HR2) (unhide HR02) hyl hy0l).mono ?_
          rintro e w3 ⟨v3, rfl, ho3, hb3⟩
          obtain ⟨a3, c3, rfl, hr3⟩ := ho3.row
          have hI2 := in_any a1 _ c1 B a3 _ c3 (xorL y y0) w3 (ht.below (below0 (unhide HBw2) hb3)) ((unhide HV2).below hb3) hbf hr3 (by omega) hxl
          rw [show decide (firstI (reduceL B (xorL y y0)) < 0) = true by rw [decide_eq_true_iff]; exact unhide HIN2K] at hI2
          have HI2 := hide hI2
          have HB3 := hide (below0 (unhide HB2) hb3)
          clear ho3 hr3 hb3 hI2
          refine hK _ _ ?_
          clear hK K
          refine wpAny_ready (rs := [17]) (by kernel_rfl) (by simp) ?_
          refine AllReady.cons rfl (fun K hK => ?_) AllReady.nil
          go_simp
          refine (unhide HI2).mono ?_
          rintro e w4 ⟨rfl, hb4⟩
          have HB4 := hide (below0 (unhide HB3) hb4)
          clear hb4 HI2 HB3
          refine hK _ _ ?_
          clear hK K
          refine wpAny_take (i := 18) (v := ?_) rfl (by kernel_rfl) (by kernel_rfl) (by kernel_rfl) (fun _ _ _ h => h) (Or.inl ⟨by rfl, ?f18⟩) ?_
          case f18 => (intro w; go_simp; try with_reducible rfl)
          refine wpAny_take (i := 19) (v := ?_) rfl (by kernel_rfl) (by kernel_rfl) (by kernel_rfl) (fun _ _ _ h => h) (Or.inl ⟨by rfl, ?f19⟩) ?_
          case f19 => (intro w; go_simp; try with_reducible rfl)
          refine wpAny_done (by kernel_rfl) ?_ _
          clear HR2 HR02 HV2 HB2 HBw2 hcell2 hcell02
          go_wp2
          go_roundw
          case rel => exact ⟨k + 1, by omega, by go_num, HB4⟩
          case measure => simp [intOf]; omega
      · have hle : decide ((B.length : Int) ≤ (n : Int)) = true := by simp; omega
        clear h HIN HIN2
        go_wp2_with (go_at_call 13; refine (awake_any _ (ht.below hBw)).mono ?_; rintro e w5 ⟨rfl, hb⟩)
        go_ret
        exact ⟨rfl, below0 hBw hb⟩
end Go.Proofs.YtohiiagpfepjnaaDoor
