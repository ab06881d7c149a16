/-
  The walks of the laws EchelonBases and EchelonRises: for every input, in every world that holds the table of math/bits, each tells true and writes nothing that was there.
-/
import Derived.Test.YtohiiagpfepjnaaDoorEG
namespace Go.Proofs.YtohiiagpfepjnaaDoor
open Go.RowKit
set_option linter.unusedVariables false

set_option maxHeartbeats 2000000 in
theorem bases_walk (a : Option Addr) (n c : Nat) (rs : List (List Nat)) (w : World) (ht : Tab w) (h : VecsAt w a n rs) :
    Calls Tryd.prog 3 #[.slice a n c] w fun e w' => e = .returned (.bool true) ∧ Below w.heap.size w w' := by
  go_enter Tryd.func3, Tryd.ntmps3
  go_wp2_with fail
  refine (few_any a n c rs _ h).mono ?_
  rintro e w' ⟨he, hw⟩
  obtain rfl := hw.symm
  rcases he with rfl | ⟨hF, rfl⟩
  · clear h
    go_wp2
    go_ret
    exact ⟨rfl, Below.refl _ _⟩
  · have hf := hF.fit h
    have hn : n ≤ 150 := by rw [← h.1]; exact hF.1
    have hbf := basis_fit hf
    have hbl := basis_len hf
    rw [h.1] at hbl
    clear hF
    go_wp2_with fail
    refine (basis_any a n c rs _ ht h hf (by omega)).mono ?_
    rintro e w1 ⟨v1, vs1, rfl, hV1, hb1⟩
    obtain ⟨a1, c1, rfl, hv1⟩ := hV1.vecs
    have HV1 := hide hv1
    have HB1 := hide hb1
    clear hV1 hv1 hb1
    go_wp2_with fail
    refine (rbasis_any a n c rs _ (h.below (unhide HB1)) hf (by omega)).mono ?_
    rintro e w2 ⟨v2, vs2, rfl, hV2, hb2⟩
    obtain ⟨a2, c2, rfl, hv2⟩ := hV2.vecs
    have HV2 := hide hv2
    have HV12 := hide ((unhide HV1).below hb2)
    have HB2 := hide (below0 (unhide HB1) hb2)
    clear hV2 hv2 hb2 HV1 HB1
    go_wp2_with fail
    refine (same3_any a1 _ c1 (basisL rs) a2 _ c2 (basisL rs) _ (unhide HV12) hbf (unhide HV2) hbf (SameR.refl _) (by omega)).mono ?_
    rintro e w3 ⟨rfl, hb3⟩
    have HB3 := hide (below0 (unhide HB2) hb3)
    clear hb3 HB2 HV12 HV2
    go_wp2_with fail
    refine (rank_any a n c rs _ (ht.below (unhide HB3)) (h.below (unhide HB3)) hf (by omega)).mono ?_
    rintro e w4 ⟨rfl, hb4⟩
    have HB4 := hide (below0 (unhide HB3) hb4)
    clear hb4 HB3
    go_wp2_with fail
    refine (rrank_any a n c rs _ (h.below (unhide HB4)) hf (by omega)).mono ?_
    rintro e w5 ⟨rfl, hb5⟩
    have HB5 := hide (below0 (unhide HB4) hb5)
    clear hb5 HB4
    generalize (basisL rs).length = q at *
    go_wp2_with fail
    refine (awake_any _ (ht.below (unhide HB5))).mono ?_
    rintro e w6 ⟨rfl, hb6⟩
    have HB6 := hide (below0 (unhide HB5) hb6)
    clear hb6 HB5 h
    go_wp2
    go_ret
    exact ⟨rfl, unhide HB6⟩

set_option maxHeartbeats 4000000 in
theorem rises_walk (a : Option Addr) (n c : Nat) (rs : List (List Nat)) (w : World) (ht : Tab w) (h : VecsAt w a n rs) :
    Calls Tryd.prog 5 #[.slice a n c] w fun e w' => e = .returned (.bool true) ∧ Below w.heap.size w w' := by
  go_enter Tryd.func5, Tryd.ntmps5
  go_wp2_with fail
  refine (few_any a n c rs _ h).mono ?_
  rintro e w' ⟨he, hw⟩
  obtain rfl := hw.symm
  rcases he with rfl | ⟨hF, rfl⟩
  · clear h
    go_wp2_with (go_at_call 13; refine (awake_any _ ht).mono ?_; rintro e w5 ⟨rfl, hb⟩)
    go_ret
    exact ⟨rfl, hb⟩
  · have hf := hF.fit h
    have hn : n ≤ 150 := by rw [← h.1]; exact hF.1
    have hbf := basis_fit hf
    have hbl := basis_len hf
    rw [h.1] at hbl
    have HRI := hide (fun i hi => basis_rises hf (i := i) hi)
    clear hF
    go_wp2_with fail
    refine (basis_any a n c rs _ ht h hf (by omega)).mono ?_
    rintro e w1 ⟨v1, vs1, rfl, hV1, hb1⟩
    obtain ⟨a1, c1, rfl, hv1⟩ := hV1.vecs
    have HB1 := hide hb1
    have HT1 := hide (ht.below hb1)
    clear hV1 hb1 h hf
    generalize basisL rs = B at *
    go_wp2
    go_loopw [4] (fun i wr => ∃ k : Nat, k ≤ B.length ∧ i = .int .i64 k ∧ wr = w1) (fun i _ => B.length - (intOf i).toNat)
    case atStart => exact ⟨0, Nat.zero_le _, rfl, rfl⟩
    case round =>
      obtain ⟨i, hi, rfl, rfl⟩ := hrel
      generalize wr = w9 at *
      by_cases hlt : i < B.length
      · obtain ⟨b, off, rfl, hc⟩ := hv1.at hlt
        obtain ⟨ai, ci, hcell, hrow⟩ := hc i hlt
        obtain ⟨hpos, hprev, hoth⟩ := unhide HRI i hlt
        have hlk := (hbf.getD i).2
        have hfl := firstI_le (hbf.getD i).1
        have HF := hide (rfirst_any ai _ ci (B.getD i []) w9 hrow hlk)
        have HO := hide hoth
        have hfm : firstI (B.getD i []) ≤ 9223372036854775807 := by omega
        have hdp : decide (firstI (B.getD i []) < 0) = false := by rw [decide_eq_false_iff_not]; omega
        have HV := hide hv1
        clear hoth hrow hv1
        cases i with
        | zero =>
          rw [Nat.add_zero] at hcell
          generalize B.getD 0 [] = y at *
          clear hprev hc
          generalize firstI y = f at *
          go_wp2_with fail
          refine (unhide HF).mono ?_
          rintro e w' ⟨rfl, hw⟩
          obtain rfl := hw.symm
          clear HF
          go_wp2
          go_loopw [6] (fun j wx => ∃ k : Nat, k ≤ B.length ∧ j = .int .i64 k ∧ wx = w9) (fun j _ => B.length - (intOf j).toNat)
          case atStart => exact ⟨0, Nat.zero_le _, rfl, rfl⟩
          case round =>
            obtain ⟨k, hk, rfl, hw9⟩ := hrel
            obtain rfl := hw9.symm
            by_cases hkl : k < B.length
            · by_cases hki : k = 0
              · subst hki
                go_wp2
                go_roundw
                case rel => exact ⟨1, by omega, by go_num, by simp⟩
                case measure => simp [intOf]; omega
              · obtain ⟨b2, off2, e2, hc2⟩ := (unhide HV).at hkl
                simp only [Option.some.injEq, Addr.mk.injEq, and_true] at e2
                obtain ⟨rfl, rfl⟩ := e2
                obtain ⟨ak, ck, hcellk, hrowk⟩ := hc2 k hkl
                have hG := rget_any ak _ ck (B.getD k []) f _ hrowk (hbf.getD k).2 hfm
                rw [unhide HO k hkl hki] at hG
                have HG := hide hG
                clear hG hrowk hc2
                generalize B.getD k [] = z at *
                go_wp2_with fail
                refine (unhide HG).mono ?_
                rintro e w' ⟨rfl, hw⟩
                obtain rfl := hw.symm
                clear HG
                go_wp2
                go_roundw
                case rel => exact ⟨k + 1, by omega, by go_num, by simp⟩
                case measure => simp [intOf]; omega
            · go_wp2
              go_roundw
              case rel => exact ⟨1, by omega, by go_num, by simp⟩
              case measure => simp [intOf]; omega
        | succ j0 =>
          obtain ⟨ap, cp, hcellp, hrowp⟩ := hc j0 (by omega)
          have HP := hide (rfirst_any ap _ cp (B.getD j0 []) w9 hrowp (hbf.getD j0).2)
          have hprev := hprev (by omega)
          rw [Nat.add_sub_cancel] at hprev
          clear hrowp hc
          generalize B.getD (j0 + 1) [] = y at *
          generalize B.getD j0 [] = yp at *
          generalize firstI y = f at *
          generalize firstI yp = fp at *
          go_wp2_with fail
          refine (unhide HF).mono ?_
          rintro e w' ⟨rfl, hw⟩
          obtain rfl := hw.symm
          clear HF
          go_wp2_with fail
          refine (unhide HP).mono ?_
          rintro e w' ⟨rfl, hw⟩
          obtain rfl := hw.symm
          clear HP
          go_wp2
          go_loopw [6] (fun j wx => ∃ k : Nat, k ≤ B.length ∧ j = .int .i64 k ∧ wx = w9) (fun j _ => B.length - (intOf j).toNat)
          case atStart => exact ⟨0, Nat.zero_le _, rfl, rfl⟩
          case round =>
            obtain ⟨k, hk, rfl, hw9⟩ := hrel
            obtain rfl := hw9.symm
            by_cases hkl : k < B.length
            · by_cases hki : k = j0 + 1
              · subst hki
                go_wp2
                go_roundw
                case rel => exact ⟨j0 + 1 + 1, by omega, by go_num, by simp⟩
                case measure => simp [intOf]; omega
              · obtain ⟨b2, off2, e2, hc2⟩ := (unhide HV).at hkl
                simp only [Option.some.injEq, Addr.mk.injEq, and_true] at e2
                obtain ⟨rfl, rfl⟩ := e2
                obtain ⟨ak, ck, hcellk, hrowk⟩ := hc2 k hkl
                have hG := rget_any ak _ ck (B.getD k []) f _ hrowk (hbf.getD k).2 hfm
                rw [unhide HO k hkl hki] at hG
                have HG := hide hG
                have hne : ((k : Int) != ((j0 + 1 : Nat) : Int)) = true := by rw [bne_iff_ne]; omega
                clear hG hrowk hc2
                generalize B.getD k [] = z at *
                go_wp2_with fail
                refine (unhide HG).mono ?_
                rintro e w' ⟨rfl, hw⟩
                obtain rfl := hw.symm
                clear HG
                go_wp2
                go_roundw
                case rel => exact ⟨k + 1, by omega, by go_num, by simp⟩
                case measure => simp [intOf]; omega
            · go_wp2
              go_roundw
              case rel => exact ⟨j0 + 1 + 1, by omega, by go_num, by simp⟩
              case measure => simp [intOf]; omega
      · clear hv1
        go_wp2_with (go_at_call 13; refine (awake_any _ (unhide HT1)).mono ?_; rintro e w5 ⟨rfl, hb⟩)
        go_ret
        exact ⟨rfl, below0 (unhide HB1) hb⟩
end Go.Proofs.YtohiiagpfepjnaaDoor
