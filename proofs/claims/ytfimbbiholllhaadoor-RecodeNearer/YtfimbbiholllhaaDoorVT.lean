/-
  Walk of RecodeNearer: for every input it tells true.
-/
import Derived.Test.YtfimbbiholllhaaDoorVQ
namespace Go.Proofs.YtfimbbiholllhaaDoor
open Go.RowKit Go.Sort
set_option linter.unusedVariables false
set_option maxRecDepth 4000

theorem sel_cast {α : Type} {dd : α} (l : List α) : ∀ (ps : List Nat), (∀ i ∈ ps, i < l.length) → selL dd l (castZ ps) = ps.map fun i => l.getD i dd
  | [], _ => rfl
  | p :: ps, h => by
    have hp := h p List.mem_cons_self
    have ih := sel_cast (dd := dd) l ps fun i hi => h i (List.mem_cons_of_mem _ hi)
    show List.filterMap _ ((p : Int) :: castZ ps) = _
    rw [List.filterMap_cons, if_pos ⟨Int.natCast_nonneg _, by omega⟩, List.map_cons]
    show _ :: selL dd l (castZ ps) = _
    rw [ih]
    rfl
theorem deg_places {rs : List RV} {ps : List Nat} (h : ∀ i ∈ ps, i < rs.length) : degL18 rs (castZ ps) = cnt (sumV (vecsR rs) ps) := by
  unfold degL18
  rw [sel_cast rs ps h]
  unfold vecL sumV
  rw [List.foldl_map]
  congr 1
  have : ∀ (ps : List Nat) (a : List Nat), (∀ i ∈ ps, i < rs.length) → ps.foldl (fun x y => xorL x (rs.getD y .dflt).xs) a = ps.foldl (fun x y => xorL x ((vecsR rs).getD y [])) a := fun ps => by
    induction ps with
    | nil => intro a _; rfl
    | cons p ps ih =>
      intro a hp
      rw [List.foldl_cons, List.foldl_cons, vecsR_get (hp p List.mem_cons_self)]
      exact ih _ fun i hi => hp i (List.mem_cons_of_mem _ hi)
  exact this ps [] h
/-- What is chosen, as the law asks it. -/
structure NrP (rs : List RV) (t : Int) (p : Nat) (L : List Int) : Prop where
  len : L.length ≤ 32
  lo : ∀ i, i < L.length → 0 ≤ L.getD i 0 ∧ L.getD i 0 < (rs.length : Int)
  rise : ∀ i, i + 1 < L.length → L.getD i 0 < L.getD (i + 1) 0
  mem : (p : Int) ∈ L
  near : distZ (degL18 rs L) t ≤ distZ (degL18 rs [(p : Int)]) t
theorem nearer_of {rs : List RV} {b t : Int} (h0 : ¬ rs.length = 0) : NrP rs t (placeN b rs.length) (chooseL rs b t) := by
  have hp := (place_is b (show 0 < rs.length by omega)).2
  generalize hP : placeN b rs.length = p at *
  have hI := chTo_inv (V := vecsR rs) (t := t) (p := p) (by rw [vecsR_len]; exact hp) 31
  rw [show chooseL rs b t = castZ (placesCh (chTo (vecsR rs) t p 31).ch rs.length) from by unfold chooseL; rw [if_neg h0, hP]]
  obtain ⟨h1, h2, h3, h4, h5⟩ := hI
  rw [vecsR_len] at h1 h3 h4
  generalize hs : chTo (vecsR rs) t p 31 = s at *
  have hr := places_rise s.ch rs.length
  have hm : ∀ i, i ∈ placesCh s.ch rs.length → i < rs.length := fun i hi => (places_mem.1 hi).1
  have hg : ∀ i, i < (placesCh s.ch rs.length).length → (placesCh s.ch rs.length).getD i 0 ∈ placesCh s.ch rs.length := fun i hi => by
    rw [List.getD_eq_getElem?_getD, List.getElem?_eq_getElem hi]
    exact List.getElem_mem hi
  refine ⟨by rw [castZ_length]; omega, fun i hi => ?_, fun i hi => ?_, ?_, ?_⟩
  · rw [castZ_length] at hi
    rw [castZ_getD]
    have := hm _ (hg i hi)
    omega
  · rw [castZ_length] at hi
    rw [castZ_getD, castZ_getD]
    have := List.pairwise_iff_getElem.1 hr i (i + 1) (by omega) hi (by omega)
    rw [List.getD_eq_getElem?_getD, List.getElem?_eq_getElem (show i < _ by omega), List.getD_eq_getElem?_getD, List.getElem?_eq_getElem hi]
    simpa using this
  · unfold castZ
    exact List.mem_map.2 ⟨p, places_mem.2 ⟨hp, h2⟩, rfl⟩
  · rw [deg_places hm, places_sum, ← h4]
    have e : degL18 rs [(p : Int)] = cnt ((vecsR rs).getD p []) := by
      have h6 := deg_places (rs := rs) (ps := [p]) fun i hi => by rw [List.mem_singleton.1 hi]; exact hp
      rw [show castZ [p] = [(p : Int)] from rfl] at h6
      rw [h6]
      show cnt (xorL [] _) = _
      rw [xorL_comm, xorL_nil]
    rw [e]
    exact h5

set_option maxHeartbeats 16000000 in
theorem nearer_walk (a : Option Addr) (n c : Nat) (rs : List RV) (b t : Int) (w : World) (ht : Tab w) (h : RowsAt w a n rs) (hn : n ≤ 9223372036854775807) (hcap : CapR rs) (hbig : ∀ i, (rs.getD i .dflt).n ≤ 9223372036854775807 ∧ (rs.getD i .dflt).s.size ≤ 9223372036854775807) (hb : -9223372036854775808 ≤ b ∧ b ≤ 9223372036854775807) :
    Calls Tryd.prog 7 #[.slice a n c, .int .i64 b, .int .i64 t] w fun e w' => e = .returned (.bool true) ∧ Below w.heap.size w w' := by
  have HAW := hide (fun (w1 : World) (hb : Below w.heap.size w w1) => awake_any w1 (ht.below hb))
  have HF := hide (fewR_any a n c rs w h hn hbig)
  have HFR := hide (fun wx => lfar_any t wx)
  by_cases hf : FewR rs
  · cases hfar : farB t
    · rw [hfar] at HFR
      have hn3 : n ≤ 300 := by rw [← h.1]; exact hf.1
      have htt := farB_no hfar
      by_cases hn0 : n = 0
      · subst hn0
        clear h hbig hfar hcap hn hn3
        go_enter Tryd.func7, Tryd.ntmps7
        go_wp2_with (first
          | (go_at_call 8; refine (unhide HF).mono ?_; rintro e w1 ⟨he, hw1⟩; obtain rfl := hw1.symm; obtain rfl := retI_yes he hf; clear hw1 he HF)
          | (go_at_call 9; refine (unhide HFR _).mono ?_; rintro e w1 ⟨rfl, hw1⟩; obtain rfl := hw1.symm; clear hw1)
          | (go_at_call 10; refine (unhide HAW _ (Below.refl _ _)).mono ?_; rintro e w2 ⟨rfl, hb2⟩; have HB2 := hide hb2; clear hb2))
        go_ret
        exact ⟨rfl, unhide HB2⟩
      · obtain rfl := h.1
        have h0 : ¬ rs.length = 0 := hn0
        have h0' : ¬ (rs.length : Int) = 0 := by omega
        have h0b : ((rs.length : Int) == 0) = false := beq_eq_false_iff_ne.2 h0'
        have hpe := (place_emod b (show 0 < rs.length by omega)).symm
        have h2 : (b.tmod rs.length) < rs.length := Int.tmod_lt_of_pos _ (by omega)
        have h3 : -(rs.length : Int) < b.tmod rs.length := by
          have := Int.lt_tmod_of_pos b (show (0 : Int) < rs.length by omega)
          omega
        have HNR := hide (nearer_of (b := b) (t := t) h0)
        have HD := hide (choose_any a rs.length c rs b t w h hf.2 hn3 hb htt)
        have HDG := hide (fun wx a' m c' ws (hbx : Below w.heap.size w wx) (hw : IntzAt wx a' m ws) (hm : m ≤ 300) => rdeg18_any a rs.length c rs a' m c' ws wx (h.below hbx) hcap hf.2 hw hn3 hm)
        have HDL := hide (fun ws => show degL18 rs ws ≤ 640 from by
          have h1 := cnt_le (vecL (selL .dflt rs ws))
          have h2 := vecs_short ((RowsIn.of h hcap).sub fun r hr => selL_mem hr) (short_sub hf.2 fun r (hr : r ∈ selL .dflt rs ws) => selL_mem hr)
          unfold degL18
          omega)
        have HE0 := hide hpe
        generalize placeN b rs.length = p at *
        generalize chooseL rs b t = L at *
        clear h hbig hfar hcap hpe
        go_enter Tryd.func7, Tryd.ntmps7
        go_wp2_with (first
          | (go_at_call 8; refine (unhide HF).mono ?_; rintro e w1 ⟨he, hw1⟩; obtain rfl := hw1.symm; obtain rfl := retI_yes he hf; clear hw1 he HF)
          | (go_at_call 9; refine (unhide HFR _).mono ?_; rintro e w1 ⟨rfl, hw1⟩; obtain rfl := hw1.symm; clear hw1))
        rw [unhide HE0]
        clear h2 h3
        generalize b.tmod rs.length + rs.length = z10 at *
        generalize b.tmod rs.length = z11 at *
        refine (unhide HD).mono ?_
        rintro e w2 ⟨v2, rfl, ho2, hb2⟩
        obtain ⟨a2, m2, c2, rfl, hi2⟩ : ∃ a m c, v2 = Value.slice a m c ∧ IntzAt w2 a m L := (by obtain ⟨a, c, e, hi⟩ := ho2.ints; exact ⟨a, _, c, e, hi⟩)
        have HB2 := hide hb2
        have HLL := hide hi2.1
        have hm32 : m2 ≤ 32 := by rw [← hi2.1]; exact (unhide HNR).len
        have HI2 := hide hi2
        clear ho2 hb2 HD hi2
        go_wp2
        go_loopw [10, 11] (fun inn i wr => ∃ k : Nat, ∃ x : Bool, k ≤ m2 ∧ i = .int .i64 k ∧ inn = .bool x ∧ Hid (x = decide ((p : Int) ∈ L.take k)) ∧ Hid (Below w2.heap.size w2 wr)) (fun _ i _ => m2 - (intOf i).toNat)
        case atStart => exact ⟨0, false, Nat.zero_le _, rfl, rfl, hide (by rw [List.take_zero]; rfl), hide (Below.refl _ _)⟩
        case round =>
          obtain ⟨k, x, hk, rfl, rfl, HX, HB⟩ := hrel
          by_cases hlt : k < m2
          · have hlL : k < L.length := by rw [unhide HLL]; exact hlt
            have hI := (unhide HI2).below (unhide HB)
            obtain ⟨bb, off, rfl, hcl⟩ := hI.at hlt
            have hcell := hcl k hlt
            have hcells := hcl
            have hlt' : (k : Int) < (m2 : Int) := by omega
            have HTK := hide (take_snocZ L k hlL)
            obtain ⟨hy0, hy1⟩ := (unhide HNR).lo k hlL
            have HRS := hide (unhide HNR).rise
            clear hI
            by_cases hk0 : k = 0
            · have hkd : decide (0 < k) = false := decide_eq_false (by omega)
              clear hk0
              generalize L.getD k 0 = y at *
              have hy2 : ¬ (y < 0) := by omega
              have hy3 : ¬ ((rs.length : Int) ≤ y) := by omega
              have k0 := cell_regrown hcell
              have k1 := k0
              clear hcl HRS
              go_wp2_with fail
              refine wp_region_quiet_below (by kernel_rfl) (by kernel_rfl) ?_
              repeat (with_reducible refine wpQuiet_step (fun K hK => ?_); go_simp; first | (with_reducible refine hK _ ?_; clear hK K) | (refine ite_no (by decide) ?_; with_reducible refine hK _ ?_; clear hK K))
              refine wpQuiet_nil ?_
              intro _ hw'
              obtain ⟨⟨dq, osq⟩, hw''⟩ := hw'
              subst hw''
              have hbr := below_regrown wr dq osq
              have hcell3 := (hbr.cell (World.block_lt_of_cell? wr _ hcell)).trans hcell
              have HB3 := hide (below0 (unhide HB) hbr)
              clear hbr hcell hcells k0 k1
              generalize grow (redrawn wr dq) osq = w3 at *
              cases x
              · by_cases hyp : y = (p : Int)
                · subst hyp
                  have HXN := hide (show true = decide ((p : Int) ∈ L.take (k + 1)) from by rw [unhide HTK, decide_eq_true]; exact List.mem_append.2 (.inr (List.mem_singleton.2 rfl)))
                  go_wp2
                  go_roundw
                  case rel => exact ⟨k + 1, true, by omega, by go_num, rfl, HXN, HB3⟩
                  case measure => simp [intOf]; omega
                · have hyb : (y == (p : Int)) = false := beq_eq_false_iff_ne.2 hyp
                  have HXN := hide (show false = decide ((p : Int) ∈ L.take (k + 1)) from by
                    rw [unhide HTK, eq_comm, decide_eq_false_iff_not, List.mem_append, List.mem_singleton]
                    intro h5
                    rcases h5 with h5 | h5
                    · have h6 := unhide HX
                      rw [decide_eq_true h5] at h6
                      cases h6
                    · exact hyp h5.symm)
                  go_wp2
                  go_roundw
                  case rel => exact ⟨k + 1, false, by omega, by go_num, rfl, HXN, HB3⟩
                  case measure => simp [intOf]; omega
              · have HXN := hide (show true = decide ((p : Int) ∈ L.take (k + 1)) from by
                  rw [unhide HTK, decide_eq_true]
                  exact List.mem_append.2 (.inl (of_decide_eq_true (unhide HX).symm)))
                go_wp2
                go_roundw
                case rel => exact ⟨k + 1, true, by omega, by go_num, rfl, HXN, HB3⟩
                case measure => simp [intOf]; omega
            · obtain ⟨j, hj⟩ : ∃ j, k = j + 1 := ⟨k - 1, by omega⟩
              have hrise := unhide HRS j (by omega)
              rw [← hj] at hrise
              have hcj := hcells j (by omega)
              have hkz : (0 : Int) < (k : Int) := by omega
              have hkn : 0 < k := by omega
              have hkd : decide (0 < k) = true := decide_eq_true hkn
              have hjw : IntKind.i64.wrap (j : Int) = (j : Int) := by rw [IntKind.wrap_i64]; omega
              have hkw2 : (k : Int) - 1 = (j : Int) := by omega
              generalize L.getD k 0 = y at *
              generalize L.getD j 0 = y0 at *
              have hy2 : ¬ (y < 0) := by omega
              have hy3 : ¬ ((rs.length : Int) ≤ y) := by omega
              have hy4 : ¬ (y ≤ y0) := by omega
              have hjm : (j : Int) < (m2 : Int) := by omega
              clear hj hk0
              have k0 := cell_regrown hcell
              have k1 := cell_regrown hcj
              clear hcl HRS hcj
              go_wp2_with fail
              refine wp_region_quiet_below (by kernel_rfl) (by kernel_rfl) ?_
              repeat (with_reducible refine wpQuiet_step (fun K hK => ?_); go_simp; first | (with_reducible refine hK _ ?_; clear hK K) | (refine ite_no (by decide) ?_; with_reducible refine hK _ ?_; clear hK K))
              refine wpQuiet_nil ?_
              intro _ hw'
              obtain ⟨⟨dq, osq⟩, hw''⟩ := hw'
              subst hw''
              have hbr := below_regrown wr dq osq
              have hcell3 := (hbr.cell (World.block_lt_of_cell? wr _ hcell)).trans hcell
              have HB3 := hide (below0 (unhide HB) hbr)
              clear hbr hcell hcells k0 k1
              generalize grow (redrawn wr dq) osq = w3 at *
              cases x
              · by_cases hyp : y = (p : Int)
                · subst hyp
                  have HXN := hide (show true = decide ((p : Int) ∈ L.take (k + 1)) from by rw [unhide HTK, decide_eq_true]; exact List.mem_append.2 (.inr (List.mem_singleton.2 rfl)))
                  go_wp2
                  go_roundw
                  case rel => exact ⟨k + 1, true, by omega, by go_num, rfl, HXN, HB3⟩
                  case measure => simp [intOf]; omega
                · have hyb : (y == (p : Int)) = false := beq_eq_false_iff_ne.2 hyp
                  have HXN := hide (show false = decide ((p : Int) ∈ L.take (k + 1)) from by
                    rw [unhide HTK, eq_comm, decide_eq_false_iff_not, List.mem_append, List.mem_singleton]
                    intro h5
                    rcases h5 with h5 | h5
                    · have h6 := unhide HX
                      rw [decide_eq_true h5] at h6
                      cases h6
                    · exact hyp h5.symm)
                  go_wp2
                  go_roundw
                  case rel => exact ⟨k + 1, false, by omega, by go_num, rfl, HXN, HB3⟩
                  case measure => simp [intOf]; omega
              · have HXN := hide (show true = decide ((p : Int) ∈ L.take (k + 1)) from by
                  rw [unhide HTK, decide_eq_true]
                  exact List.mem_append.2 (.inl (of_decide_eq_true (unhide HX).symm)))
                go_wp2
                go_roundw
                case rel => exact ⟨k + 1, true, by omega, by go_num, rfl, HXN, HB3⟩
                case measure => simp [intOf]; omega
          · have hke : L.take k = L := List.take_of_length_le (by rw [unhide HLL]; omega)
            rw [hke, decide_eq_true (unhide HNR).mem] at HX
            obtain rfl := unhide HX
            have hB := (unhide HB2).trans ((unhide HB).mono (unhide HB2).size)
            have HBW := hide hB
            have HD1 := hide (unhide HDG wr a2 m2 c2 L hB ((unhide HI2).below (unhide HB)) (by omega))
            have HD2 := hide (fun wx (hbx : Below w.heap.size w wx) => unhide HDG (wx.alloc (.cells #[.int .i64 (p : Int)] 3)) (some ⟨wx.heap.size, 0, none⟩) 1 1 [(p : Int)] (hbx.alloc hbx.size _) (ints1 wx (p : Int)) (by decide))
            have hnr := (unhide HNR).near
            rw [distZ_abs, distZ_abs] at hnr
            have hq1 := unhide HDL L
            have hq2 := unhide HDL [(p : Int)]
            generalize degL18 rs L = e1 at *
            generalize degL18 rs [(p : Int)] = e2 at *
            have hmaxr := max_runZ
            clear HDG HNR HDL HX hB hke HI2 HB2 HB HLL
            go_wp2_with (first
              | (go_at_call 15; refine (unhide HD1).mono ?_; rintro e w3 ⟨rfl, hb3⟩; have HB3 := hide (below0 (unhide HBW) hb3); clear hb3)
              | (go_at_call 15; refine (unhide HD2 w3 (unhide HB3)).mono ?_; rintro e w4 ⟨rfl, hb4⟩; have HB4 := hide (below0 (below0 (unhide HB3) ((Below.refl _ _).alloc (Nat.le_refl _) _)) hb4); clear hb4)
              | (go_at_call 10; refine (unhide HAW _ (unhide HB4)).mono ?_; rintro e w5 ⟨rfl, hb5⟩; have HB5 := hide (below0 (unhide HB4) hb5); clear hb5))
            go_ret
            exact ⟨rfl, unhide HB5⟩
    · rw [hfar] at HFR
      clear h hbig hfar hcap
      go_enter Tryd.func7, Tryd.ntmps7
      go_wp2_with (first
        | (go_at_call 8; refine (unhide HF).mono ?_; rintro e w1 ⟨he, hw1⟩; obtain rfl := hw1.symm; obtain rfl := retI_yes he hf; clear hw1 he HF)
        | (go_at_call 9; refine (unhide HFR _).mono ?_; rintro e w1 ⟨rfl, hw1⟩; obtain rfl := hw1.symm; clear hw1)
        | (go_at_call 10; refine (unhide HAW _ (Below.refl _ _)).mono ?_; rintro e w2 ⟨rfl, hb2⟩; have HB2 := hide hb2; clear hb2))
      go_ret
      exact ⟨rfl, unhide HB2⟩
  · clear h hbig hcap
    go_enter Tryd.func7, Tryd.ntmps7
    go_wp2_with (first
      | (go_at_call 8; refine (unhide HF).mono ?_; rintro e w1 ⟨he, hw1⟩; obtain rfl := hw1.symm; obtain rfl := retI_no he hf; clear hw1 he HF)
      | (go_at_call 10; refine (unhide HAW _ (Below.refl _ _)).mono ?_; rintro e w2 ⟨rfl, hb2⟩; have HB2 := hide hb2; clear hb2))
    go_ret
    exact ⟨rfl, unhide HB2⟩
end Go.Proofs.YtfimbbiholllhaaDoor
