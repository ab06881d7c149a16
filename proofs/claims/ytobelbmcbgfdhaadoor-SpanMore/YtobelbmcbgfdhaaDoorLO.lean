/-
  The walk of the law SpanMore: for every input (as long as it has room), in every world that holds the table of math/bits, it tells true and writes nothing that was there.
-/
import Derived.Test.YtobelbmcbgfdhaaDoorLN
namespace Go.Proofs.YtobelbmcbgfdhaaDoor
open Go.RowKit Go.Sort
set_option linter.unusedVariables false

set_option maxHeartbeats 4000000 in
theorem more_walk (a : Option Addr) (n c : Nat) (rs : List (List Nat)) (a' : Option Addr) (m c' : Nat) (xs : List Nat) (w : World) (ht : Tab w) (h : VecsAt w a n rs) (h' : RowAt w a' m xs) (hmc : m ≤ c') :
    Calls Tryd.prog 7 #[.slice a n c, .slice a' m c'] w fun e w' => e = .returned (.bool true) ∧ Below w.heap.size w w' := by
  go_enter Tryd.func7, Tryd.ntmps7
  go_wp2_with fail
  refine (few_any a n c rs _ h).mono ?_
  rintro e w' ⟨he, hw⟩
  obtain rfl := hw.symm
  rcases he with rfl | ⟨hF, rfl⟩
  · clear h h'
    go_wp2_with (go_at_call 9; refine (awake4_any _ ht).mono ?_; rintro e w5 ⟨rfl, hb⟩)
    go_ret
    exact ⟨rfl, hb⟩
  · by_cases hv : 4 < m
    · have hdv : decide ((4 : Int) < (m : Int)) = true := by rw [decide_eq_true_iff]; omega
      clear h h'
      go_wp2_with (go_at_call 9; refine (awake4_any _ ht).mono ?_; rintro e w5 ⟨rfl, hb⟩)
      go_ret
      exact ⟨rfl, hb⟩
    · have hdv : decide ((4 : Int) < (m : Int)) = false := by rw [decide_eq_false_iff_not]; omega
      have hf := hF.fit h
      have hn : n ≤ 150 := by rw [← h.1]; exact hF.1
      obtain rfl : n = rs.length := h.1.symm
      obtain rfl : m = xs.length := h'.1.symm
      have hf2 : Fit 1048576 (rs ++ [xs]) := fun b hb => by
        rcases List.mem_append.1 hb with hb | hb
        · exact hf b hb
        · rw [List.mem_singleton.1 hb]; exact ⟨h'.2.1, by omega⟩
      have hkl := keep_len rs rs.length
      have hkm := keep_more rs xs
      have hkm2 : keepL (rs ++ [xs]) (rs ++ [xs]).length = if freshB rs xs = true then keepL rs rs.length ++ [rs.length] else keepL rs rs.length := by
        rw [List.length_append, List.length_singleton, hkm]
        unfold freshB
        by_cases hy : firstI (reduceL (broughtL rs) xs) < 0
        · rw [if_pos hy, decide_eq_true hy, if_neg (by decide)]
        · rw [if_neg hy, decide_eq_false hy]; rfl
      have HKM := hide hkm2
      have HH := hide h
      have HH' := hide h'
      have HKA := hide (keep_any a rs.length c rs w ht h hf (by omega))
      have HKA2 := hide (fun (w1 : World) (hb : Below w.heap.size w w1) (a3 : Option Addr) (c3 : Nat) (hv : VecsAt w1 a3 (rs.length + 1) (rs ++ [xs])) => keep_any a3 (rs.length + 1) c3 (rs ++ [xs]) w1 (ht.below hb) hv hf2 (by omega))
      have HFR := hide (fun (w1 : World) (hb : Below w.heap.size w w1) => fresh_any a rs.length c rs a' xs.length c' xs w1 (ht.below hb) ((unhide HH).below hb) hf ((unhide HH').below hb) (by omega) (by omega))
      clear hF h h' hkm hkm2
      generalize keepL (rs ++ [xs]) (rs ++ [xs]).length = ps2 at *
      generalize keepL rs rs.length = ps at *
      generalize freshB rs xs = fb at *
      go_wp2_with fail
      refine (unhide HKA).mono ?_
      rintro e w1 ⟨v1, rfl, hI1, hb1⟩
      obtain ⟨a1, c1, rfl, hi1⟩ := hI1.ints
      have HB1 := hide hb1
      have HI1 := hide hi1
      have HV1 := hide ((unhide HH).below hb1)
      clear hI1 hi1 hb1 HKA
      go_wp2_with (first
        | (at_builtin; refine wpList_append_vecs rfl _ _ rfl a rs.length c rs rfl rfl (unhide HV1) (by omega) ?_; intro v2 w2 cs hF2 hO2 hb2; obtain ⟨a2, c2, rfl, _⟩ := Fits.vecs hO2 (hF2.below hb2); have HB2 := hide (below0 (unhide HB1) hb2); have HI2 := hide ((unhide HI1).below hb2); have HF2 := hide hF2; have HO2 := hide hO2; have hw12 := hb2.size; have HB12 := hide hb2; clear hF2 hO2 hb2)
        | (at_builtin; refine wpList_pushF rfl _ _ rfl w1.heap.size (.slice a2 rs.length c2) rs.length cs (.slice a' xs.length c') rfl rfl (unhide HO2) hw12 rfl (by omega) ?_; intro s3 w3 hO3 hg3; have HO3 := hide hO3; have HG3 := hide hg3; clear hO3 hg3))
      have hB13 : Below w1.heap.size w1 w3 := (unhide HB12).trans (gb_below (unhide HG3) hw12 (fun j hj => ((unhide HO2).lt j hj).1))
      have hBw3 : Below w.heap.size w w3 := below0 (unhide HB1) hB13
      obtain ⟨a3, c3, rfl, hv3⟩ := Fits.vecs (unhide HO3) (((unhide HF2).below hB13).append (Fits.single ((unhide HH').below hBw3) hmc))
      have HK3 := hide (unhide HKA2 w3 hBw3 a3 c3 hv3)
      have HI3 := hide ((unhide HI1).below hB13)
      have HB3 := hide hBw3
      clear hv3 hB13 hBw3 HO3 HG3 HO2 HF2 HB12 HB2 HI2 HB1 HI1 HV1 HKA2
      refine (unhide HK3).mono ?_
      rintro e w4 ⟨v4, rfl, hI4, hb4⟩
      obtain ⟨a4, c4, rfl, hi4⟩ := hI4.ints
      have HI4 := hide hi4
      have HI34 := hide ((unhide HI3).below hb4)
      have HB4 := hide (below0 (unhide HB3) hb4)
      clear hI4 hi4 hb4 HK3 HI3 HB3
      go_wp2_with fail
      refine (unhide HFR _ (unhide HB4)).mono ?_
      rintro e w5 ⟨rfl, hb5⟩
      have HI5 := hide ((unhide HI4).below hb5)
      have HI35 := hide ((unhide HI34).below hb5)
      have HB5 := hide (below0 (unhide HB4) hb5)
      clear hb5 HI4 HI34 HB4 HFR
      have hpl : ps.length ≤ 1048576 := by omega
      cases fb with
      | true =>
        have hps := unhide HKM
        rw [if_pos rfl] at hps
        have HPS := hide hps
        have hpl2 : (ps ++ [rs.length]).length ≤ 1048576 := by rw [List.length_append, List.length_singleton]; omega
        clear hps HKM
        go_wp2_with (at_builtin; refine wpList_append_ints rfl _ _ rfl a1 ps.length c1 ps rfl rfl (unhide HI35) hpl ?_)
        intro v6 w6 hI6 hb6
        obtain ⟨a6, c6, rfl, -⟩ := hI6.ints
        have HB56 := hide hb6
        have HI6 := hide hI6
        have h56 := hb6.size
        clear hI6 hb6 HI35
        go_wp2_with (at_builtin; refine wpList_pushI rfl _ _ rfl w5.heap.size (.slice a6 ps.length c6) ps rs.length rfl rfl (unhide HI6) h56 hpl ?_)
        intro s7 w7 hI7 hg7
        have HB57 := hide ((unhide HB56).trans ((unhide HI6).grown hg7 h56))
        obtain ⟨q7, hq7⟩ : ∃ q, ps ++ [rs.length] = q := ⟨_, rfl⟩
        rw [hq7] at hI7 hpl2 HPS
        obtain ⟨a7, c7, rfl, hi7⟩ := hI7.ints
        have HI7 := hide hi7
        have HI57 := hide ((unhide HI5).below (unhide HB57))
        clear hI7 hg7 hi7 HI6 HB56 hq7
        go_wp2_with fail
        refine (ints_any a7 _ c7 q7 a4 _ c4 ps2 w7 (unhide HI7) (unhide HI57) (unhide HPS).symm hpl2).mono ?_
        rintro e w8 ⟨rfl, hb8⟩
        have HB8 := hide (below0 (below0 (unhide HB5) (unhide HB57)) hb8)
        clear hb8 HB5 HB57 HI7 HI57 HI5
        go_wp2_with fail
        refine (awake4_any _ (ht.below (unhide HB8))).mono ?_
        rintro e w9 ⟨rfl, hb9⟩
        have HB9 := hide (below0 (unhide HB8) hb9)
        clear hb9 HB8
        go_wp2
        go_ret
        exact ⟨rfl, unhide HB9⟩
      | false =>
        have hps := unhide HKM
        rw [if_neg (by decide)] at hps
        have HPS := hide hps
        clear hps HKM
        go_wp2_with fail
        refine (ints_any a1 _ c1 ps a4 _ c4 ps2 w5 (unhide HI35) (unhide HI5) (unhide HPS).symm hpl).mono ?_
        rintro e w8 ⟨rfl, hb8⟩
        have HB8 := hide (below0 (unhide HB5) hb8)
        clear hb8 HB5 HI5 HI35
        go_wp2_with fail
        refine (awake4_any _ (ht.below (unhide HB8))).mono ?_
        rintro e w9 ⟨rfl, hb9⟩
        have HB9 := hide (below0 (unhide HB8) hb9)
        clear hb9 HB8
        go_wp2
        go_ret
        exact ⟨rfl, unhide HB9⟩
end Go.Proofs.YtobelbmcbgfdhaaDoor
