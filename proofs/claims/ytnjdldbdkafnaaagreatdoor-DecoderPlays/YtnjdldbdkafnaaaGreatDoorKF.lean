/-
  Contract of span.Express: for rows of at most 2^20 words, at most 100000 of them, in every world that holds the table of math/bits. Laid by gen_kf.py.
-/
import Derived.Test.YtnjdldbdkafnaaaGreatDoorU27
namespace Go.Proofs.YtnjdldbdkafnaaaGreatDoor
open Go.RowKit Go.Sort
set_option linter.unusedVariables false
set_option linter.unusedSimpArgs false
set_option maxRecDepth 4000

set_option maxHeartbeats 1000000 in
theorem express_no (a : Option Addr) (n0 c : Nat) (rs : List (List Nat)) (a' : Option Addr) (m c' : Nat) (xs : List Nat) (w : World) (ht : Tab w) (h : VecsAt w a n0 rs) (hf : Fit 1048576 rs) (h' : RowAt w a' m xs) (hn : n0 ≤ 100000) (hm : m ≤ 1048576)
    (hno : ¬ firstI (reduceL (broughtL rs) xs) < 0) :
    Calls Tryz.prog 99 #[.slice a n0 c, .slice a' m c'] w fun e w' => e = .returned (.tuple #[.slice none 0 0, .bool false]) ∧ Below w.heap.size w w' := by
  have HX := hide (sift_any a n0 c rs w ht h hf hn)
  have hbf := brought_fit hf
  have hbl := brought_len hf
  have hrl := h.1
  have HY := hide (fun (w1 : World) (a1 : Option Addr) (c1 : Nat) (hb : Below w.heap.size w w1) (hv : VecsAt w1 a1 (broughtL rs).length (broughtL rs)) => in_any a1 _ c1 (broughtL rs) a' m c' xs w1 (ht.below hb) hv hbf (h'.below hb) (by omega) hm)
  rw [decide_eq_false hno] at HY
  clear h h' hno hf
  generalize keepL rs rs.length = kk at *
  generalize broughtL rs = bb at *
  go_enter Tryz.func99, Tryz.ntmps99
  go_wp2_with fail
  refine (unhide HX).mono ?_
  rintro e w1 ⟨vk, vb, vs, rfl, hI, hV, hb⟩
  obtain ⟨a1, c1, rfl, _⟩ := hI.ints
  obtain ⟨a2, c2, rfl, hvec⟩ := hV.vecs
  have HY1 := hide (unhide HY w1 a2 c2 hb hvec)
  have HB := hide hb
  clear hI hV hb HX HY hvec
  go_wp2_with fail
  refine (unhide HY1).mono ?_
  rintro e w2 ⟨rfl, hb2⟩
  have HB2 := hide (below0 (unhide HB) hb2)
  clear hb2 HB HY1
  go_wp2
  go_ret2
  exact ⟨rfl, unhide HB2⟩

set_option maxHeartbeats 8000000 in
theorem express_yes (a : Option Addr) (n0 c : Nat) (rs : List (List Nat)) (a' : Option Addr) (m c' : Nat) (xs : List Nat) (w : World) (ht : Tab w) (h : VecsAt w a n0 rs) (hf : Fit 1048576 rs) (h' : RowAt w a' m xs) (hn : n0 ≤ 100000) (hm : m ≤ 1048576)
    (hyes : firstI (reduceL (broughtL rs) xs) < 0) :
    Calls Tryz.prog 99 #[.slice a n0 c, .slice a' m c'] w fun e w' => ∃ v, e = .returned (.tuple #[v, .bool true]) ∧ OwnI w' w.heap.size v (exprL rs xs) ∧ Below w.heap.size w w' := by
  have HX := hide (sift_any a n0 c rs w ht h hf hn)
  have hbf := brought_fit hf
  have hbl := brought_len hf
  obtain rfl : n0 = rs.length := h.1.symm
  have hbc := brought_count rs
  have hpos := brought_pos hf
  have HFB := hide (firsts_small hf)
  have hkl := keep_len rs rs.length
  have HKLT := hide (keep_lt rs rs.length)
  have HY := hide (fun (w1 : World) (a1 : Option Addr) (c1 : Nat) (hb : Below w.heap.size w w1) (hv : VecsAt w1 a1 (broughtL rs).length (broughtL rs)) => in_any a1 _ c1 (broughtL rs) a' m c' xs w1 (ht.below hb) hv hbf (h'.below hb) (by omega) hm)
  rw [decide_eq_true hyes] at HY
  have HZ := hide (fun (w1 : World) (a1 : Option Addr) (c1 : Nat) (hb : Below w.heap.size w w1) (hv : VecsAt w1 a1 (broughtL rs).length (broughtL rs)) => firsts_any a1 _ c1 (broughtL rs) w1 (ht.below hb) hv hbf (by omega) hpos)
  have HE : Hid (exprL rs xs = chosenL (keepL rs rs.length) (fun i => getB (reduceL (broughtL ((marksL rs (keepL rs rs.length) (firstsL (broughtL rs)) (sizeL (keepL rs rs.length).length) (keepL rs rs.length).length).take (keepL rs rs.length).length))
    (pickL (zeros (sizeL (keepL rs rs.length).length)) xs (firstsL (broughtL rs)) (keepL rs rs.length).length)) ((keepL rs rs.length).length + i)) (keepL rs rs.length).length) := rfl
  generalize exprL rs xs = EX at *
  clear hyes hpos
  have hfl := firstsL_len (broughtL rs)
  generalize firstsL (broughtL rs) = fs at *
  generalize broughtL rs = bb at *
  generalize keepL rs rs.length = kk at *
  rw [hbc] at hfl
  have HFL := hide hfl
  obtain ⟨n, hnk⟩ : ∃ n, kk.length = n := ⟨_, rfl⟩
  have hs1 := size_ok n
  have hs2 := size_le n (by omega)
  obtain ⟨s, hse⟩ : ∃ s, sizeL n = s := ⟨_, rfl⟩
  have hsq : ((2 : Int) * (n : Int) + 64 - 1) / 64 = (s : Int) := by rw [← hse]; unfold sizeL; omega
  rw [hse] at hs1 hs2
  rw [hnk, hse] at HE
  rw [hnk] at hbc HFL hkl
  rw [hbc] at HY HZ
  have HNK := hide hnk
  have HBC := hide hbc
  clear hse hfl hnk hbc hbl
  go_enter Tryz.func99, Tryz.ntmps99
  go_wp2_with fail
  refine (unhide HX).mono ?_
  rintro e w1 ⟨vk, vb, vs, rfl, hI, hV, hb⟩
  obtain ⟨a1, c1, rfl, -⟩ := hI.ints
  obtain ⟨a2, c2, rfl, hvec⟩ := hV.vecs
  rw [unhide HBC] at hvec
  rw [unhide HBC]
  rw [unhide HNK]
  have HY1 := hide (unhide HY w1 a2 c2 hb hvec)
  have HB := hide hb
  have HI1 := hide hI
  have HV1 := hide hvec
  clear hI hV hb HX HY hvec
  go_wp2_with fail
  refine (unhide HY1).mono ?_
  rintro e w2 ⟨rfl, hb2⟩
  have HB2 := hide (below0 (unhide HB) hb2)
  have HI2 := hide ((unhide HI1).below hb2)
  have HZ2 := hide (unhide HZ w2 a2 c2 (unhide HB2) ((unhide HV1).below hb2))
  clear hb2 HB HY1 HI1 HV1 HZ
  go_wp2_with fail
  refine (unhide HZ2).mono ?_
  rintro e w3 ⟨vf, rfl, hF3, hb3⟩
  obtain ⟨af, cf, rfl, hif⟩ := hF3.ints
  rw [unhide HFL] at hif
  rw [unhide HFL]
  have HIF := hide hif
  have HB3 := hide (below0 (unhide HB2) hb3)
  have HI3 := hide ((unhide HI2).below hb3)
  clear hb3 HB2 HI2 HZ2 hF3 hif
  have hC4 := cut_any (n + 1) s w3 (by omega) hs2
  rw [show ((n + 1 : Nat) : Int) = (n : Int) + 1 by simp] at hC4
  have HC4 := hide hC4
  have hii : IntsAt w3 a1 n kk := by
    obtain ⟨_, _, e, hi⟩ := (unhide HI3).ints
    rw [unhide HNK] at e hi
    simp only [Value.slice.injEq, true_and] at e
    rw [e.1]; exact hi
  have HII := hide hii
  clear hC4 hii HI3
  go_wp2_with fail
  refine (unhide HC4).mono ?_
  rintro e w4 ⟨rfl, hC, hb4⟩
  have hlw := (unhide HB3).size
  obtain ⟨P, hPe⟩ : ∃ P, w3.heap.size = P := ⟨_, rfl⟩
  rw [hPe] at hC hb4 hlw
  rw [hPe]
  obtain ⟨R, hRe⟩ : ∃ R, P + 1 = R := ⟨_, rfl⟩
  rw [hRe] at hC
  rw [hRe]
  have HPE := hide hPe
  rw [show List.replicate (n + 1) (zeros s) = marksL rs kk fs s 0 by rw [marks_zero, unhide HNK]] at hC
  have H0 := hide (And.intro hC hb4)
  clear hC hb4 hPe hRe HC4 hsq
  go_wp2
  go_loopw [38] (fun i wr => ∃ k : Nat, k ≤ n ∧ i = .int .i64 k ∧ Hid (CutAt wr P P R s (n + 1) (marksL rs kk fs s k) ∧ Below P w3 wr)) (fun i _ => n - (intOf i).toNat)
  case atStart => exact ⟨0, Nat.zero_le _, rfl, H0⟩
  case round =>
    obtain ⟨k, hk, rfl, HS⟩ := hrel
    obtain ⟨hC, hB⟩ := unhide HS
    clear H0 HS
    have hB' : Below w3.heap.size w3 wr := by rw [unhide HPE]; exact hB
    have hPw : P ≤ wr.heap.size := by have := hB.size; rw [unhide HPE] at this; exact this
    have hml : (marksL rs kk fs s k).length = n + 1 := by rw [marks_len, unhide HNK]
    by_cases hlt : k < n
    · have hkN : k < n + 1 := by omega
      obtain ⟨bk, ok, rfl, hck⟩ := (unhide HII).at hlt
      have hcellk := (hB'.cell (World.block_lt_of_cell? w3 _ (hck k hlt))).trans (hck k hlt)
      have hplt : kk.getD k 0 < rs.length := by
        refine unhide HKLT _ ?_
        rw [List.getD_eq_getElem?_getD, List.getElem?_eq_getElem (show k < kk.length by rw [unhide HNK]; exact hlt)]
        exact List.getElem_mem _
      have hMS : (marksL rs kk fs s k).set k (setB (pickL (zeros s) (rs.getD (kk.getD k 0) []) fs n) (n + k) true) = marksL rs kk fs s (k + 1) := by
        have := marks_set rs kk fs s k (by rw [unhide HNK]; omega)
        unfold markRow at this
        rw [unhide HNK] at this
        exact this
      have HMS := hide hMS
      have hmg : (marksL rs kk fs s k).getD k [] = zeros s := by rw [marks_get _ _ _ _ _ _ (by rw [unhide HNK]; omega), if_neg (by omega)]
      generalize kk.getD k 0 = pl at *
      obtain ⟨b, off, rfl, hc⟩ := (h.below (unhide HB3)).at hplt
      obtain ⟨ai, ci, hcell3, hrow3⟩ := hc pl hplt
      have hcell := (hB'.cell (World.block_lt_of_cell? w3 _ hcell3)).trans hcell3
      have hcellR := (hC.row hkN).2.1
      have hBD' : Below w3.heap.size w3 wr.drew := hB'.drew
      have hBD : Below P w3 wr.drew := hB.drew
      have hlen := (hf.getD pl).2
      have hPI := pick_any P P R s (n + 1) k (marksL rs kk fs s k) ai (rs.getD pl []).length ci (rs.getD pl []) af n cf fs wr.drew (hC.below ((Below.refl _ _).drew)) hkN (hrow3.below hBD')
        (hrow3.lt.imp id fun hl ad e e2 => by have h1 := hl ad e; have h2 := Option.some.inj e2; rw [unhide HPE] at h1; omega) ((unhide HIF).below hBD')
        ((unhide HIF).lt.imp id fun hl ad e e2 => by have h1 := hl ad e; have h2 := Option.some.inj e2; rw [unhide HPE] at h1; omega) (unhide HFB) (by omega) hs2 hlen
      rw [hmg] at hPI
      generalize rs.getD pl [] = y at *
      obtain ⟨po, hpo⟩ : ∃ po, k * s = po := ⟨_, rfl⟩
      rw [hpo] at hPI hcellR
      have HPO := hide hpo
      have HPI := hide hPI
      have HML := hide hml
      have HBD := hide hBD
      have hpl2 : (pl : Int) < (rs.length : Int) := by omega
      have hk1 : (k : Int) < (n : Int) + 1 := by omega
      clear hPI hC hc hck hcell3 hrow3 hMS hmg hB hB' hBD' h h' HIF HII HE HFB HKLT hml hpo hBD
      go_wp2_with fail
      refine wp_region_any (by kernel_rfl) ?_
      change wpAny _ _ _ _ _ _ _ (World.drew _)
      refine wpAny_take (i := 0) (v := ?_) rfl (by kernel_rfl) (by kernel_rfl) (by kernel_rfl) (fun _ _ _ h => h) (Or.inl ⟨by rfl, ?f0⟩) ?_
      case f0 => (intro w; go_simp; try with_reducible rfl)
      refine wpAny_take (i := 1) (v := ?_) rfl (by kernel_rfl) (by kernel_rfl) (by kernel_rfl) (fun _ _ _ h => h) (Or.inl ⟨by rfl, ?f1⟩) ?_
      case f1 => (intro w; go_simp; try with_reducible rfl)
      refine wpAny_take (i := 2) (v := ?_) rfl (by kernel_rfl) (by kernel_rfl) (by kernel_rfl) (fun _ _ _ h => h) (Or.inl ⟨by rfl, ?f2⟩) ?_
      case f2 => (intro w; go_simp; try with_reducible rfl)
      refine wpAny_take (i := 4) (v := ?_) rfl (by kernel_rfl) (by kernel_rfl) (by kernel_rfl) (fun _ _ _ h => h) (Or.inl ⟨by rfl, ?f4⟩) ?_
      case f4 => (intro w; go_simp; try with_reducible rfl)
      refine wpAny_take (i := 5) (v := ?_) rfl (by kernel_rfl) (by kernel_rfl) (by kernel_rfl) (fun _ _ _ h => h) (Or.inl ⟨by rfl, ?f5⟩) ?_
      case f5 => (intro w; go_simp; try with_reducible rfl)
      refine wpAny_take (i := 6) (v := ?_) rfl (by kernel_rfl) (by kernel_rfl) (by kernel_rfl) (fun _ _ _ h => h) (Or.inl ⟨by rfl, ?f6⟩) ?_
      case f6 => (intro w; go_simp; try with_reducible rfl)
      refine wpAny_take (i := 8) (v := ?_) rfl (by kernel_rfl) (by kernel_rfl) (by kernel_rfl) (fun _ _ _ h => h) (Or.inl ⟨by rfl, ?f8⟩) ?_
      case f8 => (intro w; go_simp; try with_reducible rfl)
      refine wpAny_ready (rs := [3, 7]) (by kernel_rfl) (by simp) ?_
      refine AllReady.cons rfl (fun K hK => ?r1) (AllReady.cons rfl (fun K hK => ?r2) AllReady.nil)
      case r1 =>
        go_simp
        refine hK _ _ ?_
        clear hK K
        refine wpAny_ready (rs := [7]) (by kernel_rfl) (by simp) ?_
        refine AllReady.cons rfl (fun K hK => ?_) AllReady.nil
        go_simp
        refine hK _ _ ?_
        clear hK K
        refine wpAny_ready (rs := [9]) (by kernel_rfl) (by simp) ?_
        refine AllReady.cons rfl (fun K hK => ?_) AllReady.nil
        go_simp
        refine (unhide HPI).mono ?_
        rintro e w5 ⟨rfl, hC5, hg5⟩
        have hB5 := (unhide HBD).trans (gb_below hg5 (show P ≤ wr.drew.heap.size from hPw) (fun j hj => by have := Option.some.inj hj; omega))
        have hcell5 := (hC5.row hkN).2.1
        obtain ⟨x, hx1, hx2, hx3, hx4⟩ := pick_store hC5 hkN (unhide HML) (show n + k < 64 * s by omega)
        rw [unhide HPO] at hx1 hx3 hx4 hcell5
        have hX := sset_any P po s s (n + k) x w5 (by omega) (by omega) hx1 hx2 hx3
        rw [show ((n + k : Nat) : Int) = (n : Int) + (k : Int) by simp] at hX
        have HX := hide hX
        rw [unhide HMS] at hx4
        have HN := hide (And.intro hx4 (hB5.setCell (p := ⟨P, po + (n + k) / 64, none⟩) (by exact Nat.le_refl _) (.int .u64 ((setW x ((n + k) % 64) true : Nat) : Int))))
        clear hX hx1 hx3 hx4 hB5 hC5 hg5 HPI HBD
        refine hK _ _ ?_
        clear hK K
        refine wpAny_done (by kernel_rfl) ?_ _
        go_wp2_with fail
        refine (unhide HX).mono ?_
        rintro e w6 ⟨rfl, hw⟩
        rw [← hw] at HN
        clear hw HX hcell5
        go_wp2
        go_roundw
        case rel => exact ⟨k + 1, by omega, by go_num, HN⟩
        case measure => simp [intOf]; omega
      case r2 =>
        go_simp
        refine hK _ _ ?_
        clear hK K
        refine wpAny_ready (rs := [3]) (by kernel_rfl) (by simp) ?_
        refine AllReady.cons rfl (fun K hK => ?_) AllReady.nil
        go_simp
        refine hK _ _ ?_
        clear hK K
        refine wpAny_ready (rs := [9]) (by kernel_rfl) (by simp) ?_
        refine AllReady.cons rfl (fun K hK => ?_) AllReady.nil
        go_simp
        refine (unhide HPI).mono ?_
        rintro e w5 ⟨rfl, hC5, hg5⟩
        have hB5 := (unhide HBD).trans (gb_below hg5 (show P ≤ wr.drew.heap.size from hPw) (fun j hj => by have := Option.some.inj hj; omega))
        have hcell5 := (hC5.row hkN).2.1
        obtain ⟨x, hx1, hx2, hx3, hx4⟩ := pick_store hC5 hkN (unhide HML) (show n + k < 64 * s by omega)
        rw [unhide HPO] at hx1 hx3 hx4 hcell5
        have hX := sset_any P po s s (n + k) x w5 (by omega) (by omega) hx1 hx2 hx3
        rw [show ((n + k : Nat) : Int) = (n : Int) + (k : Int) by simp] at hX
        have HX := hide hX
        rw [unhide HMS] at hx4
        have HN := hide (And.intro hx4 (hB5.setCell (p := ⟨P, po + (n + k) / 64, none⟩) (by exact Nat.le_refl _) (.int .u64 ((setW x ((n + k) % 64) true : Nat) : Int))))
        clear hX hx1 hx3 hx4 hB5 hC5 hg5 HPI HBD
        refine hK _ _ ?_
        clear hK K
        refine wpAny_done (by kernel_rfl) ?_ _
        go_wp2_with fail
        refine (unhide HX).mono ?_
        rintro e w6 ⟨rfl, hw⟩
        rw [← hw] at HN
        clear hw HX hcell5
        go_wp2
        go_roundw
        case rel => exact ⟨k + 1, by omega, by go_num, HN⟩
        case measure => simp [intOf]; omega
    · obtain rfl : k = n := by omega
      have hkN : k < k + 1 := by omega
      have hmg : (marksL rs kk fs s k).getD k [] = zeros s := by rw [marks_get _ _ _ _ _ _ (by rw [unhide HNK]; omega), if_neg (by omega)]
      have hcellR := (hC.row hkN).2.1
      have h3 := h'.below (unhide HB3)
      have hPI := pick_any P P R s (k + 1) k (marksL rs kk fs s k) a' m c' xs af k cf fs wr hC hkN (h3.below hB')
        (h3.lt.imp id fun hl ad e e2 => by have h1 := hl ad e; have h2 := Option.some.inj e2; rw [unhide HPE] at h1; omega) ((unhide HIF).below hB')
        ((unhide HIF).lt.imp id fun hl ad e e2 => by have h1 := hl ad e; have h2 := Option.some.inj e2; rw [unhide HPE] at h1; omega) (unhide HFB) (by omega) hs2 hm
      rw [hmg] at hPI
      have hqs := pick_small (zeros_small s) xs fs k
      have hql : (pickL (zeros s) xs fs k).length = s := by rw [pick_len, zeros_len]
      have hfR := marks_fit rs kk fs s k k (pickL (zeros s) xs fs k) hqs hql 1048576 (by omega)
      have hmt : ((marksL rs kk fs s k).set k (pickL (zeros s) xs fs k)).take k = (marksL rs kk fs s k).take k := by
        have := marks_take rs kk fs s (pickL (zeros s) xs fs k)
        rw [unhide HNK] at this
        exact this
      have hqg : ((marksL rs kk fs s k).set k (pickL (zeros s) xs fs k)).getD k [] = pickL (zeros s) xs fs k := by rw [getD_setR _ _ _ _ (by omega), if_pos rfl]
      obtain ⟨po, hpo⟩ : ∃ po, k * s = po := ⟨_, rfl⟩
      rw [hmt] at hfR
      generalize pickL (zeros s) xs fs k = q at *
      rw [hpo] at hPI hcellR
      have HPO := hide hpo
      have HQL := hide hql
      have HPI := hide hPI
      have HB := hide hB
      have HBw := hide (((unhide HB3).trans ((hB.mono hlw))))
      have HMT := hide hmt
      have HQG := hide hqg
      have hvs := vslice_hi R 0 (k + 1) (k + 1) k (by omega)
      clear hPI hC hmg hB' h h' h3 HFB HKLT HIF hB hmt hqg hml hpo hql
      go_wp2_with fail
      refine (unhide HPI).mono ?_
      rintro e w5 ⟨rfl, hC5, hg5⟩
      have hB5 : Below P w3 w5 := (unhide HB).trans (gb_below hg5 hPw (fun j hj => by have := Option.some.inj hj; omega))
      have hBw5 : Below w.heap.size w w5 := (unhide HBw).trans (gb_below hg5 (unhide HBw).size (fun j hj => by have := Option.some.inj hj; omega))
      have hv5 := hC5.vecs (k := k) (by omega)
      rw [unhide HMT] at hv5
      have HSI := hide (sift_any (some ⟨R, 0, none⟩) k (k + 1) ((marksL rs kk fs s k).take k) w5 (ht.below hBw5) hv5 hfR (by omega))
      have hii5 : IntsAt w5 a1 k kk := (unhide HII).below (by rw [unhide HPE]; exact hB5)
      have HII5 := hide hii5
      have HC5 := hide hC5
      have HBw5 := hide hBw5
      have hmf := brought_fit hfR
      have hmb := brought_len hfR
      have htl : ((marksL rs kk fs s k).take k).length ≤ k := List.length_take_le _ _
      generalize (marksL rs kk fs s k).take k = RL at *
      generalize (marksL rs kk fs s k).set k q = RN at *
      clear hB5 hBw5 hv5 hii5 hC5 hg5 HPI HB HBw HII HMT hcellR hfR
      go_wp2_with fail
      refine (unhide HSI).mono ?_
      rintro e w6 ⟨vk6, vb6, vs6, rfl, hI6, hV6, hb6⟩
      obtain ⟨a6, c6, rfl, -⟩ := hI6.ints
      obtain ⟨a7, c7, rfl, hv7⟩ := hV6.vecs
      obtain ⟨hrq, hcq, -⟩ := ((unhide HC5).below hb6).row hkN
      rw [unhide HQG, unhide HPO] at hrq
      rw [unhide HPO] at hcq
      have HBw6 := hide (below0 (unhide HBw5) hb6)
      have HII6 := hide ((unhide HII5).below hb6)
      have HRD := hide (reduce_any a7 _ c7 (broughtL RL) (some ⟨P, po, none⟩) s s q w6 (ht.below (unhide HBw6)) hv7 hmf hrq (by omega) (by omega))
      have hrl := reduce_small hmf hqs (by rw [unhide HQL]; omega : q.length ≤ 1048576)
      clear hI6 hV6 hv7 hrq hb6 HSI HC5 HII5 HBw5
      generalize keepL RL RL.length = kk6 at *
      generalize broughtL RL = br at *
      go_wp2_with fail
      refine (unhide HRD).mono ?_
      rintro e w7 ⟨v7, rfl, ho7, hb7⟩
      obtain ⟨ar, cr, rfl, hr7⟩ := ho7.row
      have HCH := hide (chosen_any a1 k c1 kk ar _ cr (reduceL br q) w7 ((unhide HII6).below hb7) hr7 (by omega) hrl.2)
      have HBw7 := hide (below0 (unhide HBw6) hb7)
      clear ho7 hr7 hb7 HBw6 HII6 HRD
      rw [← unhide HE] at HCH
      generalize reduceL br q = rq at *
      go_wp2_with fail
      refine (unhide HCH).mono ?_
      rintro e w8 ⟨v8, rfl, hI8, hb8⟩
      obtain ⟨a8, c8, rfl, -⟩ := hI8.ints
      have HI8 := hide (hI8.mono (unhide HBw7).size)
      have HB8 := hide (below0 (unhide HBw7) hb8)
      clear hI8 hb8 HBw7 HCH
      go_wp2
      go_ret2
      exact ⟨_, rfl, unhide HI8, unhide HB8⟩
end Go.Proofs.YtnjdldbdkafnaaaGreatDoor
