/-
  Contract of bucketlineref04.Express: for rows of at most 1000 words, at most 100000 of them.
-/
import Derived.Test.YtnjdldbdkafnaaaGreatDoorU28
namespace Go.Proofs.YtnjdldbdkafnaaaGreatDoor
open Go.RowKit Go.Sort
set_option linter.unusedVariables false
set_option linter.unusedSimpArgs false
set_option maxRecDepth 4000

/-- What is told, by the place of the first bit that is left. -/
def RexIs (EX : List Nat) (EB : Bool) (ps : List Nat) (W : Nat) (r : List Nat) : Prop := EX = rexL ps W r ∧ EB = rexB W r
def RexF (EX : List Nat) (EB : Bool) (CH : List Nat) (W : Nat) (f : Int) : Prop := ((f < 0 ∨ 64 * (W : Int) ≤ f) → EX = CH ∧ EB = true) ∧ ((0 ≤ f ∧ f < 64 * (W : Int)) → EX = [] ∧ EB = false)
theorem RexIs.at {EX : List Nat} {EB : Bool} {ps : List Nat} {W : Nat} {r : List Nat} (h : RexIs EX EB ps W r) : RexF EX EB (chosenL ps (fun i => getB r (64 * W + i)) ps.length) W (firstI r) := by
  obtain ⟨rfl, rfl⟩ := h
  refine ⟨fun hf => ?_, fun hf => ?_⟩
  · have hn : ¬ (0 ≤ firstI r ∧ firstI r < 64 * (W : Int)) := by omega
    unfold rexL rexB
    rw [if_neg hn, decide_eq_false hn]
    exact ⟨rfl, rfl⟩
  · unfold rexL rexB
    rw [if_pos hf, decide_eq_true hf]
    exact ⟨rfl, rfl⟩

set_option maxHeartbeats 8000000 in
theorem rexpress_walk (a : Option Addr) (n0 c : Nat) (rs : List (List Nat)) (a' : Option Addr) (m c' : Nat) (xs : List Nat) (w : World) (h : VecsAt w a n0 rs) (hf : Fit 1000 rs) (h' : RowAt w a' m xs) (hn : n0 ≤ 100000) (hm : m ≤ 1000) :
    Calls Tryz.prog 59 #[.slice a n0 c, .slice a' m c'] w fun e w' => ∃ v, e = .returned (.tuple #[v, .bool (rexB (max (widthL rs rs.length) m) (reduceL (basisL (extL rs (keepL rs rs.length) (max (widthL rs rs.length) m))) xs))]) ∧
      OwnI w' w.heap.size v (rexL (keepL rs rs.length) (max (widthL rs rs.length) m) (reduceL (basisL (extL rs (keepL rs rs.length) (max (widthL rs rs.length) m))) xs)) ∧ Below w.heap.size w w' := by
  have hf2 : Fit 1048576 rs := fun b hb => ⟨(hf b hb).1, by have := (hf b hb).2; omega⟩
  obtain rfl : n0 = rs.length := h.1.symm
  have hkl := keep_len rs rs.length
  have HKLT := hide (keep_lt rs rs.length)
  have HX := hide (rkeep_any a rs.length c rs w h hf2 hn)
  have hW1 := width_le rs 1000 (fun i => (hf.getD i).2) rs.length
  have hWg := width_ge rs rs.length
  obtain ⟨W, hWe⟩ : ∃ W, max (widthL rs rs.length) m = W := ⟨_, rfl⟩
  have hW : W ≤ 1000 := by omega
  have hWm : m ≤ W := by omega
  have hWr : ∀ i, (rs.getD i []).length ≤ W := fun i => by
    by_cases hi : i < rs.length
    · have := hWg i hi; omega
    · rw [List.getD_eq_getElem?_getD, List.getElem?_eq_none (by omega)]; exact Nat.zero_le _
  have hfW : Fit W rs := fun b hb => ⟨(hf b hb).1, by
    obtain ⟨i, hi, rfl⟩ := List.getElem_of_mem hb
    have := hWr i
    rwa [List.getD_eq_getElem?_getD, List.getElem?_eq_getElem hi, Option.getD_some] at this⟩
  rw [hWe]
  have HWE := hide hWe
  have HWR := hide hWr
  clear hWe hWg hWr
  generalize keepL rs rs.length = kk at *
  have hEf : Fit 1048576 (extL rs kk W) := ext_fit hfW kk (by omega)
  have hEl := extL_len rs kk W
  have HEG := hide (extL_get rs kk W)
  have HBT := hide (fun k (hk : k < kk.length) => basis_take (l := extL rs kk W) (k := k) (by rw [hEl]; exact hk))
  have hER : ∀ i, extRow rs kk W i = setB (rs.getD (kk.getD i 0) [] ++ zeros (W + kk.length / 64 + 1 - (rs.getD (kk.getD i 0) []).length)) (64 * W + i) true := fun _ => rfl
  have HER := hide hER
  obtain ⟨n, hnk⟩ : ∃ n, kk.length = n := ⟨_, rfl⟩
  obtain ⟨L, hL⟩ : ∃ L, W + n / 64 + 1 = L := ⟨_, rfl⟩
  rw [hnk] at hkl hEl HBT HEG
  rw [hnk, hL] at HER
  have hL2 : (W : Int) + (n : Int) / 64 + 1 = (L : Int) := by omega
  have hL3 : L ≤ 10000 := by omega
  have hL4 : 64 * W + n < 64 * L := by omega
  have hL5 : W ≤ L := by omega
  have HNK := hide hnk
  have HEL := hide hEl
  have HRX : RexIs (rexL kk W (reduceL (basisL (extL rs kk W)) xs)) (rexB W (reduceL (basisL (extL rs kk W)) xs)) kk W (reduceL (basisL (extL rs kk W)) xs) := ⟨rfl, rfl⟩
  generalize rexL kk W (reduceL (basisL (extL rs kk W)) xs) = EX at *
  generalize rexB W (reduceL (basisL (extL rs kk W)) xs) = EB at *
  clear hER hnk hL hEl
  obtain ⟨i0, hi0, hz0, hzs, hzb⟩ := info_parts info_u64
  have hmk : ∀ wx : World, (Instr.makeSlice 27 (.int .i64 (L : Int)) (.int .i64 (L : Int))).run Tryz.prog wx = .ok (.slice (some ⟨wx.heap.size, 0, none⟩) L L) (wx.alloc (.cells (madeCells #[.int .u64 0] L) 53)) := fun wx => by
    have := run_make (P := Tryz.prog) wx 27 53 i0 (.int .u64 0) Tryz.underlying27 hi0 hz0 .i64 .i64 (L : Int) (L : Int) (by omega) (Int.le_refl _) (by rw [hzb]; omega) (by omega)
    rw [hzs] at this
    simpa [Value.cells] using this
  clear hi0 hz0 hzs hzb
  obtain ⟨mkW, hmkW⟩ : ∃ f : World → World, ∀ wx, f wx = wx.alloc (.cells (madeCells #[.int .u64 0] L) 53) := ⟨fun wx => wx.alloc (.cells (madeCells #[.int .u64 0] L) 53), fun _ => rfl⟩
  have hmk2 : ∀ wx : World, (Instr.makeSlice 27 (.int .i64 (L : Int)) (.int .i64 (L : Int))).run Tryz.prog wx = .ok (.slice (some ⟨wx.heap.size, 0, none⟩) L L) (mkW wx) := fun wx => by rw [hmk wx, hmkW]
  have HMW := hide hmkW
  clear hmk hmkW
  go_enter Tryz.func59, Tryz.ntmps59
  go_wp2_with fail
  refine (unhide HX).mono ?_
  rintro e w1 ⟨vk, rfl, hI1, hb1⟩
  obtain ⟨ak, ck, rfl, hik⟩ := hI1.ints
  rw [unhide HNK] at hik
  rw [unhide HNK]
  have HIK := hide hik
  have HB1 := hide hb1
  have HV1 := hide (h.below hb1)
  clear hI1 hik HX
  go_wp2
  go_loopw [7, 8] (fun v i wr => ∃ k : Nat, k ≤ rs.length ∧ i = .int .i64 k ∧ v = .int .i64 ((widthL rs k : Nat) : Int) ∧ wr = w1) (fun _ i _ => rs.length - (intOf i).toNat)
  case atStart => exact ⟨0, Nat.zero_le _, rfl, rfl, rfl⟩
  case round =>
    obtain ⟨k, hk, rfl, rfl, hw1⟩ := hrel
    obtain rfl := hw1.symm
    by_cases hlt : k < rs.length
    · obtain ⟨b, off, rfl, hc⟩ := (unhide HV1).at hlt
      obtain ⟨ai, ci, hcell, hrow⟩ := hc k hlt
      have hmx : ∀ (ts : Array TypeId) (t : TypeId) (w : World), (Builtin.max_ ts t #[.int .i64 ((widthL rs k : Nat) : Int), .int .i64 ((rs.getD k []).length : Int)]).run Tryz.prog w = .ok (.int .i64 ((widthL rs (k + 1) : Nat) : Int)) w := fun ts t w => by
        rw [run_max_int2]
        simp only [widthL]
        congr 2
        split <;> omega
      clear hc hrow h h'
      obtain ⟨wk1, hwk1⟩ : ∃ x, widthL rs (k + 1) = x := ⟨_, rfl⟩
      rw [hwk1] at hmx
      have HWK := hide hwk1
      clear hwk1
      generalize widthL rs k = wk at *
      generalize (rs.getD k []).length = yl at *
      go_wp2
      go_roundw
      case rel => exact ⟨k + 1, by omega, by go_num, by rw [unhide HWK], by simp⟩
      case measure => simp [intOf]; omega
    · obtain rfl : k = rs.length := by omega
      have hmx : ∀ (ts : Array TypeId) (t : TypeId) (w : World), (Builtin.max_ ts t #[.int .i64 ((widthL rs rs.length : Nat) : Int), .int .i64 (m : Int)]).run Tryz.prog w = .ok (.int .i64 (W : Int)) w := fun ts t w => by
        rw [run_max_int2, ← unhide HWE]
        congr 2
        split <;> omega
      generalize widthL rs rs.length = wk at *
      go_wp2
      clear hb1 hmx
      go_loopw [9, 10] (fun bv i wx => ∃ k : Nat, k ≤ n ∧ i = .int .i64 k ∧ ∃ a1 l1 c1 vs, bv = .slice a1 l1 c1 ∧ Hid (OwnV wx w.heap.size (.slice a1 l1 c1) vs (basisL ((extL rs kk W).take k))) ∧ Hid (Below w.heap.size w wx) ∧ Hid (Below w1.heap.size w1 wx)) (fun _ i _ => n - (intOf i).toNat)
      case atStart => exact ⟨0, Nat.zero_le _, rfl, none, 0, 0, [], rfl, hide (OwnV.nil _ _), HB1, hide (Below.refl _ _)⟩
      case round =>
        obtain ⟨k, hk, rfl, a1, l1, c1, vs, rfl, HV, HB, HBr⟩ := hrel
        have hB := unhide HB
        have hBr := unhide HBr
        by_cases hlt : k < n
        · obtain ⟨bk, ok, rfl, hck⟩ := (unhide HIK).at hlt
          have hcellk := (hBr.cell (World.block_lt_of_cell? w1 _ (hck k hlt))).trans (hck k hlt)
          have hplt : kk.getD k 0 < rs.length := by
            refine unhide HKLT _ ?_
            rw [List.getD_eq_getElem?_getD, List.getElem?_eq_getElem (show k < kk.length by rw [unhide HNK]; exact hlt)]
            exact List.getElem_mem _
          have hbt := unhide HBT k hlt
          have her := unhide HER k
          rw [unhide HEG k hlt, her] at hbt
          generalize kk.getD k 0 = pl at *
          have hlen := unhide HWR pl
          obtain ⟨b, off, rfl, hc⟩ := (unhide HV1).at hplt
          obtain ⟨ai, ci, hcell1, hrow1⟩ := hc pl hplt
          have hcell := (hBr.cell (World.block_lt_of_cell? w1 _ hcell1)).trans hcell1
          have hpl2 : (pl : Int) < (rs.length : Int) := by omega
          have hfe : Fit 1048576 (basisL ((extL rs kk W).take k)) := basis_fit (hEf.take k)
          have hfr : Ech.Red ((basisL ((extL rs kk W).take k)).map val) := basis_red (hEf.take k)
          have hbl := basis_len (hEf.take k)
          have htl : ((extL rs kk W).take k).length ≤ k := List.length_take_le _ _
          have hsm := hrow1.2.1
          generalize rs.getD pl [] = y at *
          have hE1 : setI (y ++ zeros (L - y.length)) (64 * (W : Int) + (k : Int)) true = setB (y ++ zeros (L - y.length)) (64 * W + k) true := by
            unfold setI
            rw [if_neg (by omega), show (64 * (W : Int) + (k : Int)).toNat = 64 * W + k by omega]
          have hyl : (y ++ zeros (L - y.length)).length = L := by rw [List.length_append, zeros_len]; omega
          have hsE : smalls (setB (y ++ zeros (L - y.length)) (64 * W + k) true) := setB_small (app_small hsm (zeros_small _)) _ _
          have hlE : (setB (y ++ zeros (L - y.length)) (64 * W + k) true).length = L := by rw [setB_length, hyl]
          rw [← radd_eq hfe hfr hsE (by omega)] at hbt
          have HBT1 := hide hbt
          have hO1 := made_words wr L (by omega)
          have hbm : Below wr.heap.size wr (wr.alloc (.cells (madeCells #[.int .u64 0] L) 53)) := (Below.refl _ _).alloc (Nat.le_refl _) _
          rw [← unhide HMW wr] at hO1 hbm
          obtain ⟨w2, hw2⟩ : ∃ x, mkW wr = x := ⟨_, rfl⟩
          rw [hw2] at hO1 hbm
          obtain ⟨g2, hg2⟩ : ∃ x, wr.heap.size = x := ⟨_, rfl⟩
          have hcellk2 := (hbm.cell (World.block_lt_of_cell? wr _ hcellk)).trans hcellk
          have hcell2 := (hbm.cell (World.block_lt_of_cell? wr _ hcell)).trans hcell
          have HROW := hide ((hrow1.below hBr).below hbm)
          have HB2 := hide (below0 hB hbm)
          have HBr2 := hide (below0 hBr hbm)
          have hsz := hB.size
          have hszm := hbm.size
          rw [hg2] at hO1 hbm hsz hszm
          have HBM := hide hbm
          have HG2 := hide hg2
          obtain ⟨_, _, e1, hvec⟩ := (unhide HV).vecs
          simp only [Value.slice.injEq] at e1
          obtain ⟨rfl, rfl, rfl⟩ := e1
          have HVEC := hide hvec
          have HO1 := hide hO1
          have HYL := hide hyl
          have HE1 := hide hE1
          have HLE := hide hlE
          have HBT2 := hide hfe
          clear hck hcell1 hrow1 hc hbt her hsE hlE hyl hE1 hO1 hbm h h' hcell hcellk hB hBr hfe hfr HER HEG HBT hvec HV
          generalize basisL ((extL rs kk W).take k) = BK at *
          go_wp2_with (first | (refine wpList_copyU rfl _ _ rfl g2 g2 L ai y.length ci y rfl rfl (unhide HO1) (unhide HROW) (by omega) hszm ?_; intro ucp w3 hO3 hb3))
          have hb23 : Below wr.heap.size wr w3 := by rw [unhide HG2]; exact (unhide HBM).trans hb3
          have HVEC3 := hide ((unhide HVEC).below hb23)
          have HB3 := hide (below0 (unhide HB) hb23)
          have HBr3 := hide (below0 (unhide HBr) hb23)
          obtain ⟨_, _, e3, hr3⟩ := hO3.row
          rw [unhide HYL] at e3 hr3
          simp only [Value.slice.injEq, true_and] at e3
          obtain ⟨rfl, rfl⟩ := e3
          have hST := rset_any (some ⟨g2, 0, none⟩) L L (y ++ zeros (L - y.length)) (64 * (W : Int) + (k : Int)) true w3 hr3 (by omega) (by omega)
          rw [unhide HE1] at hST
          have HST := hide hST
          clear hST hr3 hO3 hb3 hb23 HO1 HROW HB2 HBr2 HBM HVEC HB HBr hcell2 hcellk2 hw2
          generalize setB (y ++ zeros (L - y.length)) (64 * W + k) true = er at *
          go_wp2_with fail
          refine (unhide HST).mono ?_
          rintro e w4 ⟨v4, rfl, ho4, hb4⟩
          obtain ⟨a4, c4, rfl, hr4⟩ := ho4.row
          rw [unhide HLE] at hr4
          rw [unhide HLE]
          have HAD := hide (radd_any a1 _ c1 BK a4 L c4 er w4 ((unhide HVEC3).below hb4) (unhide HBT2) hr4 (by omega) (by omega))
          have HB4 := hide (below0 (unhide HB3) hb4)
          have HBr4 := hide (below0 (unhide HBr3) hb4)
          clear ho4 hr4 hb4 HB3 HBr3 HVEC3 HST
          generalize decide (0 ≤ firstI (reduceL BK er)) = bo at *
          go_wp2_with fail
          refine (unhide HAD).mono ?_
          rintro e w5 ⟨v5, vs5, rfl, hV5, hb5⟩
          rw [← unhide HBT1] at hV5
          have hV5 := hV5.mono (unhide HB4).size
          obtain ⟨a5, c5, rfl⟩ := hV5.shape
          have HV5 := hide hV5
          have HB5 := hide (below0 (unhide HB4) hb5)
          have HBr5 := hide (below0 (unhide HBr4) hb5)
          clear hV5 hb5 HB4 HBr4 HAD HBT1
          go_wp2
          go_roundw
          case rel => exact ⟨k + 1, by omega, by go_num, a5, _, c5, vs5, rfl, HV5, HB5, HBr5⟩
          case measure => simp [intOf]; omega
        · obtain rfl : n = k := by omega
          have hke : (extL rs kk W).take n = extL rs kk W := List.take_of_length_le (by rw [unhide HEL]; exact Nat.le_refl _)
          rw [hke] at HV
          have hfe : Fit 1048576 (basisL (extL rs kk W)) := basis_fit hEf
          have hbl := basis_len hEf
          rw [unhide HEL] at hbl
          obtain ⟨_, _, e1, hvec⟩ := (unhide HV).vecs
          simp only [Value.slice.injEq] at e1
          obtain ⟨rfl, rfl, rfl⟩ := e1
          have HRD := hide (rreduce_any a1 _ c1 (basisL (extL rs kk W)) a' m c' xs wr hvec hfe (h'.below hB) (by omega) (by omega))
          have hrl := reduce_small hfe h'.2.1 (by rw [h'.1]; omega : xs.length ≤ 1048576)
          clear hvec HV HBT HER HEG hke
          generalize basisL (extL rs kk W) = BE at *
          generalize reduceL BE xs = r at *
          have HFI := hide (fun (w2 : World) (ar : Option Addr) (cr : Nat) (hr : RowAt w2 ar r.length r) => rfirst_any ar r.length cr r w2 hr hrl.2)
          have hfl := firstI_le hrl.1
          have HRF := HRX.at
          rw [unhide HNK] at HRF
          clear HRX
          generalize hfe2 : firstI r = f at *
          clear hfe2
          go_wp2_with fail
          refine (unhide HRD).mono ?_
          rintro e w2 ⟨v2, rfl, ho2, hb2⟩
          obtain ⟨ar, cr, rfl, hr2⟩ := ho2.row
          have HFI2 := hide (unhide HFI w2 ar cr hr2)
          have HR2 := hide hr2
          have HB2 := hide (below0 hB hb2)
          have HIK2 := hide ((unhide HIK).below (below0 hBr hb2))
          clear hr2 ho2 hb2 HFI HRD hB hBr HB HBr
          go_wp2_with fail
          refine (unhide HFI2).mono ?_
          rintro e w3 ⟨rfl, hw⟩
          obtain rfl := hw.symm
          clear HFI2
          have hthree : f < 0 ∨ (0 ≤ f ∧ f < 64 * (W : Int)) ∨ (0 ≤ f ∧ 64 * (W : Int) ≤ f) := by omega
          rcases hthree with hA | hA | hA
          · obtain ⟨hex, heb⟩ := HRF.1 (by omega)
            subst heb
            have HCH : Hid (∀ j, chosenL kk (fun i => getB r (64 * W + i)) (j + 1) = if getB r (64 * W + j) = true then chosenL kk (fun i => getB r (64 * W + i)) j ++ [kk.getD j 0] else chosenL kk (fun i => getB r (64 * W + i)) j) := fun _ => rfl
            have HLEN := hide (chosen_len kk (fun i => getB r (64 * W + i)))
            have H0 : Hid (OwnI w2 w2.heap.size (.slice none 0 0) (chosenL kk (fun i => getB r (64 * W + i)) 0)) := OwnI.nil _ _
            have HEX := hide hex
            clear hex HRF
            generalize hch : chosenL kk (fun i => getB r (64 * W + i)) = CH at *
            clear hch
            have hd1 : decide (0 ≤ f) = false := by rw [decide_eq_false_iff_not]; omega
            clear h h' hA
            go_wp2
            go_loopw [14, 15] (fun v i wx => ∃ j : Nat, j ≤ n ∧ i = .int .i64 j ∧ ∃ a3 l3 c3, v = .slice a3 l3 c3 ∧ Hid (OwnI wx w2.heap.size (.slice a3 l3 c3) (CH j)) ∧ Hid (Below w2.heap.size w2 wx)) (fun _ i _ => n - (intOf i).toNat)
            case atStart => exact ⟨0, Nat.zero_le _, rfl, none, 0, 0, rfl, H0, hide (Below.refl _ _)⟩
            case round =>
              obtain ⟨j, hj, rfl, a3, l3, c3, rfl, HI, HB22⟩ := hrel
              by_cases hlt : j < n
              · obtain ⟨bk, ok, rfl, hck⟩ := ((unhide HIK2).below (unhide HB22)).at hlt
                have hcell := hck j hlt
                have hGe := rget_any ar r.length cr r (64 * (W : Int) + (j : Int)) wr ((unhide HR2).below (unhide HB22)) hrl.2 (by omega)
                rw [show 64 * (W : Int) + (j : Int) = ((64 * W + j : Nat) : Int) by simp, getI_nat, show ((64 * W + j : Nat) : Int) = 64 * (W : Int) + (j : Int) by simp] at hGe
                have hch := unhide HCH j
                have hle := unhide HLEN j
                cases hgb : getB r (64 * W + j) with
                | false =>
                  rw [hgb] at hGe hch
                  rw [if_neg (by decide)] at hch
                  have HI2 := HI
                  rw [← hch] at HI2
                  have HGe := hide hGe
                  clear hGe hch hck HI hgb HCH HLEN H0
                  generalize kk.getD j 0 = pl at *
                  go_wp2_with fail
                  refine (unhide HGe).mono ?_
                  rintro e w5 ⟨rfl, hw⟩
                  obtain rfl := hw.symm
                  clear HGe
                  go_wp2
                  go_roundw
                  case rel => exact ⟨j + 1, by omega, by go_num, a3, l3, c3, rfl, HI2, HB22⟩
                  case measure => simp [intOf]; omega
                | true =>
                  rw [hgb] at hGe hch
                  rw [if_pos rfl] at hch
                  have HHC := hide hch
                  have HGe := hide hGe
                  clear hGe hch hck hgb HCH HLEN H0
                  generalize kk.getD j 0 = pl at *
                  go_wp2_with fail
                  refine (unhide HGe).mono ?_
                  rintro e w5 ⟨rfl, hw⟩
                  obtain rfl := hw.symm
                  clear HGe
                  have hl3 : (CH j).length ≤ 1048576 := by omega
                  go_wp2_with (first | (at_builtin; refine wpList_pushI rfl _ _ rfl w2.heap.size (.slice a3 l3 c3) (CH j) pl rfl rfl (unhide HI) (unhide HB22).size hl3 ?_; intro s4 w4 hI4 hg4; have HB24 := hide ((unhide HB22).trans ((unhide HI).grown hg4 (unhide HB22).size)); rw [← unhide HHC] at hI4; obtain ⟨a4, c4, rfl, _⟩ := hI4.ints; have HI4 := hide hI4; clear hg4 hI4 HI HB22 HHC))
                  go_roundw
                  case rel => exact ⟨j + 1, by omega, by go_num, a4, _, c4, rfl, HI4, HB24⟩
                  case measure => simp [intOf]; omega
              · obtain rfl : n = j := by omega
                rw [← unhide HEX] at HI
                clear H0 HCH HLEN
                go_wp2
                go_ret2
                exact ⟨_, rfl, (unhide HI).mono (unhide HB2).size, below0 (unhide HB2) (unhide HB22)⟩
          · obtain ⟨hex, heb⟩ := HRF.2 hA
            subst heb
            subst hex
            have hd1 : decide (0 ≤ f) = true := by rw [decide_eq_true_iff]; omega
            have hd2 : decide (f < 64 * (W : Int)) = true := by rw [decide_eq_true_iff]; omega
            clear h h' HRF hA
            go_wp2
            go_ret2
            exact ⟨_, rfl, OwnI.nil _ _, unhide HB2⟩
          · obtain ⟨hex, heb⟩ := HRF.1 (by omega)
            subst heb
            have HCH : Hid (∀ j, chosenL kk (fun i => getB r (64 * W + i)) (j + 1) = if getB r (64 * W + j) = true then chosenL kk (fun i => getB r (64 * W + i)) j ++ [kk.getD j 0] else chosenL kk (fun i => getB r (64 * W + i)) j) := fun _ => rfl
            have HLEN := hide (chosen_len kk (fun i => getB r (64 * W + i)))
            have H0 : Hid (OwnI w2 w2.heap.size (.slice none 0 0) (chosenL kk (fun i => getB r (64 * W + i)) 0)) := OwnI.nil _ _
            have HEX := hide hex
            clear hex HRF
            generalize hch : chosenL kk (fun i => getB r (64 * W + i)) = CH at *
            clear hch
            have hd1 : decide (0 ≤ f) = true := by rw [decide_eq_true_iff]; omega
            have hd2 : decide (f < 64 * (W : Int)) = false := by rw [decide_eq_false_iff_not]; omega
            clear h h' hA
            go_wp2
            go_loopw [14, 15] (fun v i wx => ∃ j : Nat, j ≤ n ∧ i = .int .i64 j ∧ ∃ a3 l3 c3, v = .slice a3 l3 c3 ∧ Hid (OwnI wx w2.heap.size (.slice a3 l3 c3) (CH j)) ∧ Hid (Below w2.heap.size w2 wx)) (fun _ i _ => n - (intOf i).toNat)
            case atStart => exact ⟨0, Nat.zero_le _, rfl, none, 0, 0, rfl, H0, hide (Below.refl _ _)⟩
            case round =>
              obtain ⟨j, hj, rfl, a3, l3, c3, rfl, HI, HB22⟩ := hrel
              by_cases hlt : j < n
              · obtain ⟨bk, ok, rfl, hck⟩ := ((unhide HIK2).below (unhide HB22)).at hlt
                have hcell := hck j hlt
                have hGe := rget_any ar r.length cr r (64 * (W : Int) + (j : Int)) wr ((unhide HR2).below (unhide HB22)) hrl.2 (by omega)
                rw [show 64 * (W : Int) + (j : Int) = ((64 * W + j : Nat) : Int) by simp, getI_nat, show ((64 * W + j : Nat) : Int) = 64 * (W : Int) + (j : Int) by simp] at hGe
                have hch := unhide HCH j
                have hle := unhide HLEN j
                cases hgb : getB r (64 * W + j) with
                | false =>
                  rw [hgb] at hGe hch
                  rw [if_neg (by decide)] at hch
                  have HI2 := HI
                  rw [← hch] at HI2
                  have HGe := hide hGe
                  clear hGe hch hck HI hgb HCH HLEN H0
                  generalize kk.getD j 0 = pl at *
                  go_wp2_with fail
                  refine (unhide HGe).mono ?_
                  rintro e w5 ⟨rfl, hw⟩
                  obtain rfl := hw.symm
                  clear HGe
                  go_wp2
                  go_roundw
                  case rel => exact ⟨j + 1, by omega, by go_num, a3, l3, c3, rfl, HI2, HB22⟩
                  case measure => simp [intOf]; omega
                | true =>
                  rw [hgb] at hGe hch
                  rw [if_pos rfl] at hch
                  have HHC := hide hch
                  have HGe := hide hGe
                  clear hGe hch hck hgb HCH HLEN H0
                  generalize kk.getD j 0 = pl at *
                  go_wp2_with fail
                  refine (unhide HGe).mono ?_
                  rintro e w5 ⟨rfl, hw⟩
                  obtain rfl := hw.symm
                  clear HGe
                  have hl3 : (CH j).length ≤ 1048576 := by omega
                  go_wp2_with (first | (at_builtin; refine wpList_pushI rfl _ _ rfl w2.heap.size (.slice a3 l3 c3) (CH j) pl rfl rfl (unhide HI) (unhide HB22).size hl3 ?_; intro s4 w4 hI4 hg4; have HB24 := hide ((unhide HB22).trans ((unhide HI).grown hg4 (unhide HB22).size)); rw [← unhide HHC] at hI4; obtain ⟨a4, c4, rfl, _⟩ := hI4.ints; have HI4 := hide hI4; clear hg4 hI4 HI HB22 HHC))
                  go_roundw
                  case rel => exact ⟨j + 1, by omega, by go_num, a4, _, c4, rfl, HI4, HB24⟩
                  case measure => simp [intOf]; omega
              · obtain rfl : n = j := by omega
                rw [← unhide HEX] at HI
                clear H0 HCH HLEN
                go_wp2
                go_ret2
                exact ⟨_, rfl, (unhide HI).mono (unhide HB2).size, below0 (unhide HB2) (unhide HB22)⟩
end Go.Proofs.YtnjdldbdkafnaaaGreatDoor
