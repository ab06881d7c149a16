/-
  The walk of the law SpanSums: for every input, in every world that holds the table of math/bits, it tells true and writes nothing that was there.
-/
import Derived.Test.YtobelbmcbgfdhaaDoorLK
namespace Go.Proofs.YtobelbmcbgfdhaaDoor
open Go.RowKit Go.Sort
set_option linter.unusedVariables false

/-- What is told of a row: the places rise, are below, and the rows there are xored to it. -/
theorem ex_facts {rs : List (List Nat)} (hf : Fit 1048576 rs) (hn : rs.length ≤ 100000) {xs : List Nat} (hx : smalls xs) (hl : xs.length ≤ 1048576) (hy : freshB rs xs = false) :
    (∀ i, i < (exL rs xs).length → (exL rs xs).getD i 0 < rs.length) ∧ (∀ i, i + 1 < (exL rs xs).length → (exL rs xs).getD i 0 < (exL rs xs).getD (i + 1) 0) ∧ cnt (xorL (sumL rs (exL rs xs)) xs) = 0 ∧ (exL rs xs).length ≤ rs.length := by
  have hy2 : firstI (reduceL (broughtL rs) xs) < 0 := by
    unfold freshB at hy
    simpa using hy
  obtain ⟨c, hc⟩ := choice_of hf ((brought_in hf hx hl).1 hy2)
  have he : exL rs xs = chosenL (keepL rs rs.length) (fun i => c.testBit i) (keepL rs rs.length).length := by
    unfold exL
    rw [if_pos hy2, expr_choice hf hn hx hc]
  rw [he]
  have h1 := chosen_lt (rs := rs) (p := fun i => c.testBit i) (Nat.le_refl (keepL rs rs.length).length)
  have h2 := chosen_rise (rs := rs) (p := fun i => c.testBit i) (Nat.le_refl (keepL rs rs.length).length)
  have h3 := hc.sum hf
  have h4 := chosen_len (keepL rs rs.length) (fun i => c.testBit i) (keepL rs rs.length).length
  have h5 := keep_len rs rs.length
  generalize chosenL (keepL rs rs.length) (fun i => c.testBit i) (keepL rs rs.length).length = ps at *
  refine ⟨fun i hi => ?_, fun i hi => ?_, ?_, by omega⟩
  · rw [List.getD_eq_getElem?_getD, List.getElem?_eq_getElem hi]
    exact h1 _ (List.getElem_mem _)
  · rw [List.getD_eq_getElem?_getD, List.getD_eq_getElem?_getD, List.getElem?_eq_getElem (show i < ps.length by omega), List.getElem?_eq_getElem hi]
    exact List.pairwise_iff_getElem.1 h2 i (i + 1) (by omega) hi (by omega)
  · apply cnt_of_zero
    rw [← val_zero, val_xor (sum_small hf ps).1 hx, h3, Nat.xor_self]

set_option maxHeartbeats 4000000 in
theorem sums_walk (a : Option Addr) (n c : Nat) (rs : List (List Nat)) (a' : Option Addr) (m c' : Nat) (xs : List Nat) (w : World) (ht : Tab w) (h : VecsAt w a n rs) (h' : RowAt w a' m xs) :
    Calls Tryd.prog 5 #[.slice a n c, .slice a' m c'] w fun e w' => e = .returned (.bool true) ∧ Below w.heap.size w w' := by
  go_enter Tryd.func5, Tryd.ntmps5
  go_wp2_with fail
  refine (few_any a n c rs _ h).mono ?_
  rintro e w' ⟨he, hw⟩
  obtain rfl := hw.symm
  rcases he with rfl | ⟨hF, rfl⟩
  · clear h h'
    go_wp2_with (go_at_call 9; refine (awake4_any _ ht).mono ?_; rintro e w5 ⟨rfl, hb⟩)
    go_ret
    exact ⟨rfl, hb⟩
  · by_cases hv : 4 < m
    · have hdv : decide ((4 : Int) < (m : Int)) = true := by rw [decide_eq_true_iff]; omega
      clear h h'
      go_wp2_with (go_at_call 9; refine (awake4_any _ ht).mono ?_; rintro e w5 ⟨rfl, hb⟩)
      go_ret
      exact ⟨rfl, hb⟩
    · have hdv : decide ((4 : Int) < (m : Int)) = false := by rw [decide_eq_false_iff_not]; omega
      have hf := hF.fit h
      have hn : n ≤ 150 := by rw [← h.1]; exact hF.1
      obtain rfl : n = rs.length := h.1.symm
      have hxl := h'.1
      have HFA := hide (ex_facts hf (by omega) h'.2.1 (by omega : xs.length ≤ 1048576))
      have HEN : Hid (freshB rs xs = true → exL rs xs = []) := hide (fun hy => by
        unfold freshB at hy
        unfold exL
        rw [if_neg (by simpa using hy)])
      have HH := hide h
      have HH' := hide h'
      clear hF h h'
      have HE := hide (express_any a rs.length c rs a' m c' xs w ht (unhide HH) hf (unhide HH') (by omega) (by omega))
      have HR := hide (fun (w1 : World) (hb : Below w.heap.size w w1) => fresh_any a rs.length c rs a' m c' xs w1 (ht.below hb) ((unhide HH).below hb) hf ((unhide HH').below hb) (by omega) (by omega))
      generalize exL rs xs = ps at *
      generalize freshB rs xs = fb at *
      cases fb with
      | true =>
        have hps := unhide HEN rfl
        subst hps
        clear HEN HFA
        go_wp2_with fail
        refine (unhide HE).mono ?_
        rintro e w1 ⟨v1, rfl, hI1, hb1⟩
        obtain ⟨a1, c1, rfl, -⟩ := hI1.ints
        have HB1 := hide hb1
        clear hI1 hb1 HE
        go_wp2_with fail
        refine (unhide HR _ (unhide HB1)).mono ?_
        rintro e w2 ⟨rfl, hb2⟩
        have HB2 := hide (below0 (unhide HB1) hb2)
        clear hb2 HB1 HR
        go_wp2_with fail
        refine (awake4_any _ (ht.below (unhide HB2))).mono ?_
        rintro e w6 ⟨rfl, hb6⟩
        have HB6 := hide (below0 (unhide HB2) hb6)
        clear hb6 HB2
        go_wp2
        go_ret
        exact ⟨rfl, unhide HB6⟩
      | false =>
        obtain ⟨hlt, hri, hsum, hpl⟩ := unhide HFA rfl
        have HLT := hide hlt
        have HRI := hide hri
        have HSUM := hide hsum
        clear HEN HFA hlt hri hsum
        go_wp2_with fail
        refine (unhide HE).mono ?_
        rintro e w1 ⟨v1, rfl, hI1, hb1⟩
        obtain ⟨a1, c1, rfl, hi1⟩ := hI1.ints
        have HB1 := hide hb1
        have HI1 := hide hi1
        clear hI1 hi1 hb1 HE
        go_wp2_with fail
        refine (unhide HR _ (unhide HB1)).mono ?_
        rintro e w2 ⟨rfl, hb2⟩
        have HB2 := hide (below0 (unhide HB1) hb2)
        have HI2 := hide ((unhide HI1).below hb2)
        have HV2 := hide ((unhide HH).below (below0 (unhide HB1) hb2))
        clear hb2 HB1 HR HI1
        go_wp2
        go_loopw [7, 8] (fun v i wr => ∃ k : Nat, k ≤ ps.length ∧ i = .int .i64 k ∧ ∃ ax lx cx, v = .slice ax lx cx ∧ Hid (RowAt wr ax lx (sumL rs (ps.take k))) ∧ Hid (Below w2.heap.size w2 wr)) (fun _ i _ => ps.length - (intOf i).toNat)
        case atStart => exact ⟨0, Nat.zero_le _, rfl, none, 0, 0, rfl, hide (row_nil _), hide (Below.refl _ _)⟩
        case round =>
          obtain ⟨k, hk, rfl, ax, lx, cx, rfl, HX, HB⟩ := hrel
          have hB := unhide HB
          by_cases hkl : k < ps.length
          · obtain ⟨bk, ok, rfl, hck⟩ := ((unhide HI2).below hB).at hkl
            have hcell := hck k hkl
            have hpl1 := unhide HLT k hkl
            have HSS := hide (sum_take rs ps k hkl)
            have hsm := sum_small hf (ps.take k)
            have hxl2 : lx ≤ 1048576 := by rw [← (unhide HX).1]; exact hsm.2
            have hnext : 0 < k → ∃ q : Nat, wr.cell? ⟨bk, ok + (k - 1), none⟩ = some (.int .i64 (q : Int)) ∧ q < ps.getD k 0 := fun h0 => by
              refine ⟨ps.getD (k - 1) 0, hck (k - 1) (by omega), ?_⟩
              have := unhide HRI (k - 1) (by omega)
              rwa [show k - 1 + 1 = k by omega] at this
            generalize ps.getD k 0 = pl at *
            obtain ⟨b, off, rfl, hc⟩ := ((unhide HV2).below hB).at hpl1
            obtain ⟨ai, ci, hcell2, hrow⟩ := hc pl hpl1
            have HXR := hide (fun wx (hbx : Below wr.heap.size wr wx) => rxor_any ax lx cx (sumL rs (ps.take k)) ai (rs.getD pl []).length ci (rs.getD pl []) wx ((unhide HX).below hbx) (hrow.below hbx) hxl2 (hf.getD pl).2)
            rw [← unhide HSS] at HXR
            have hd1 : decide ((pl : Int) < 0) = false := by rw [decide_eq_false_iff_not]; omega
            have hd2 : decide ((rs.length : Int) ≤ (pl : Int)) = false := by rw [decide_eq_false_iff_not]; omega
            have HNX := hide hnext
            clear hck hc hrow HX hnext HSS
            generalize rs.getD pl [] = y at *
            cases k with
            | zero =>
              clear HNX
              rw [Nat.add_zero] at hcell
              have q0 := cell_regrown hcell
              go_wp2_with fail
              refine wp_region_quiet_below (by kernel_rfl) (by kernel_rfl) ?_
              repeat (with_reducible refine wpQuiet_step (fun K hK => ?_); go_simp; (with_reducible refine hK _ ?_; clear hK K))
              refine wpQuiet_nil ?_
              intro _ hw'
              obtain ⟨⟨dq, osq⟩, hw''⟩ := hw'
              subst hw''
              have hbr := below_regrown wr dq osq
              have hcellA := (hbr.cell (World.block_lt_of_cell? wr _ hcell)).trans hcell
              have hcellB := (hbr.cell (World.block_lt_of_cell? wr _ hcell2)).trans hcell2
              have HXR2 := hide (unhide HXR _ hbr)
              have HB2r := hide (below0 hB hbr)
              clear hbr HXR hB HB hcell hcell2 q0
              generalize grow (redrawn wr dq) osq = w3 at *
              go_wp2_with fail
              refine (unhide HXR2).mono ?_
              rintro e w4 ⟨v4, rfl, ho4, hb4⟩
              obtain ⟨a4, c4, rfl, hr4⟩ := ho4.row
              have HX4 := hide hr4
              have HB4 := hide (below0 (unhide HB2r) hb4)
              clear ho4 hr4 hb4 HXR2 HB2r
              go_wp2
              go_roundw
              case rel => exact ⟨0 + 1, by omega, by go_num, a4, _, c4, rfl, HX4, HB4⟩
              case measure => simp [intOf]; omega
            | succ k0 =>
              obtain ⟨q, hq, hqlt⟩ := unhide HNX (by omega)
              rw [Nat.add_sub_cancel] at hq
              have q0 := cell_regrown hcell
              have q1 := cell_regrown hq
              have hd3 : decide ((pl : Int) ≤ (q : Int)) = false := by rw [decide_eq_false_iff_not]; omega
              have hkI : (k0 : Int) + 1 < (ps.length : Int) := by omega
              have hkJ : (k0 : Int) < (ps.length : Int) := by omega
              have hkN : (0 : Int) ≤ (k0 : Int) + 1 := by omega
              have hwr1 : wrap64 (k0 : Int) = (k0 : Int) := by unfold wrap64; omega
              have hwr2 : IntKind.i64.wrap (k0 : Int) = (k0 : Int) := by rw [IntKind.wrap_i64]; omega
              have hd4 : decide ((0 : Int) < (k0 : Int) + 1) = true := by rw [decide_eq_true_iff]; omega
              clear HNX
              go_wp2_with fail
              refine wp_region_quiet_below (by kernel_rfl) (by kernel_rfl) ?_
              repeat (with_reducible refine wpQuiet_step (fun K hK => ?_); go_simp; (with_reducible refine hK _ ?_; clear hK K))
              refine wpQuiet_nil ?_
              intro _ hw'
              obtain ⟨⟨dq, osq⟩, hw''⟩ := hw'
              subst hw''
              have hbr := below_regrown wr dq osq
              have hcellA := (hbr.cell (World.block_lt_of_cell? wr _ hcell)).trans hcell
              have hcellB := (hbr.cell (World.block_lt_of_cell? wr _ hcell2)).trans hcell2
              have HXR2 := hide (unhide HXR _ hbr)
              have HB2r := hide (below0 hB hbr)
              clear hbr HXR hB HB hcell hcell2 q0 q1 hq
              generalize grow (redrawn wr dq) osq = w3 at *
              go_wp2_with fail
              refine (unhide HXR2).mono ?_
              rintro e w4 ⟨v4, rfl, ho4, hb4⟩
              obtain ⟨a4, c4, rfl, hr4⟩ := ho4.row
              have HX4 := hide hr4
              have HB4 := hide (below0 (unhide HB2r) hb4)
              clear ho4 hr4 hb4 HXR2 HB2r
              go_wp2
              go_roundw
              case rel => exact ⟨k0 + 1 + 1, by omega, by go_num, a4, _, c4, rfl, HX4, HB4⟩
              case measure => simp [intOf]; omega
          · have hke : ps.take k = ps := List.take_of_length_le (by omega)
            rw [hke] at HX
            have hsm := sum_small hf ps
            have hsl : lx ≤ 1048576 := by rw [← (unhide HX).1]; exact hsm.2
            have hS := rsame_any ax lx cx (sumL rs ps) a' m c' xs wr (unhide HX) ((unhide HH').below (below0 (unhide HB2) hB)) hsl (by omega)
            rw [decide_eq_true (unhide HSUM)] at hS
            have HS := hide hS
            clear hS hke hsm HX
            go_wp2_with fail
            refine (unhide HS).mono ?_
            rintro e w5 ⟨rfl, hb5⟩
            have HB5 := hide (below0 (below0 (unhide HB2) hB) hb5)
            clear hb5 HS hB HB
            go_wp2_with fail
            refine (awake4_any _ (ht.below (unhide HB5))).mono ?_
            rintro e w6 ⟨rfl, hb6⟩
            have HB6 := hide (below0 (unhide HB5) hb6)
            clear hb6 HB5
            go_wp2
            go_ret
            exact ⟨rfl, unhide HB6⟩
end Go.Proofs.YtobelbmcbgfdhaaDoor
