/-
  The walk of StoreBound: for every input it tells true and writes nothing that was there.
-/
import Derived.Test.YtbfkhioljpgjjaaDoorIG
namespace Go.Proofs.YtbfkhioljpgjjaaDoor
open Go.RowKit Go.Sort
set_option linter.unusedVariables false
set_option maxRecDepth 4000

theorem put_len (k z : Int) (m : Nat) (L : List (List Nat × ByteArray)) (x : List Nat × ByteArray) :
    (putE k z m L x = 0 ∧ putL k z m L x = L ++ [x]) ∨ (putE k z m L x ≠ 0 ∧ putL k z m L x = L) := by
  unfold putE putL
  by_cases h : fitB k z x = true
  · by_cases hl : L.length < m
    · left; simp [h, hl]
    · right
      rw [if_pos h, if_neg hl, if_neg (fun q => hl q.2)]
      exact ⟨by decide, rfl⟩
  · right
    rw [if_neg h, if_neg (fun q => h q.1)]
    exact ⟨by decide, rfl⟩
theorem capN_max (M : Int) : (capN M : Int) ≤ max M 0 := by unfold capN; omega

/-- What lies behind all of a store is no part of it. -/
theorem StAt.far {w : World} {g B : Nat} {k z : Int} {m : Nat} {v : Value} {rs : List RV} {ov : Bool} (h : StAt w g B k z m v rs ov) : ∀ j, w.heap.size ≤ j → ¬ stF g v j := fun j hj hf => by
  rcases hf with rfl | hf
  · have := h.lt; omega
  · have := (World.ownsRow.lt h.own j hf).2; omega
set_option maxHeartbeats 4000000 in
theorem stbound_walk (K Z M : Int) (a : Option Addr) (n c : Nat) (rs : List RV) (w : World) (ht : Tab w) (h : RowsAt w a n rs) (hn : n ≤ 9223372036854775807) (hbig : ∀ i, (rs.getD i .dflt).n ≤ 9223372036854775807 ∧ (rs.getD i .dflt).s.size ≤ 9223372036854775807) :
    Calls Tryd.prog 4 #[.agg #[.int .i64 K, .int .i64 Z, .int .i64 M], .slice a n c] w fun e w' => e = .returned (.bool true) ∧ Below w.heap.size w w' := by
  have hb0 := alloc_low w (.cells #[.int .i64 K, .int .i64 Z, .int .i64 M] 23)
  have hz := sz_new w K Z M
  have hsw := alloc_size w (.cells #[.int .i64 K, .int .i64 Z, .int .i64 M] 23)
  have HAW := hide (fun (w1 : World) (hb : Below w.heap.size w w1) => awake_any w1 (ht.below hb))
  generalize hW : w.alloc (.cells #[.int .i64 K, .int .i64 Z, .int .i64 M] 23) = W at *
  have HF := hide (fewR_any a n c rs W (h.below hb0) hn hbig)
  have Hh := hide (h.below hb0)
  have HB0 := hide hb0
  have HSZ := hide (fun wx (hb : Below W.heap.size W wx) => hz.belowB hb (by omega))
  have hmx := max_run M
  have HCM := hide (capN_max M)
  obtain ⟨z0, z1, z2⟩ := hz
  clear h hb0 hbig ht hsw
  go_enter Tryd.func4, Tryd.ntmps4
  go_wp2_with fail
  refine (unhide HF).mono ?_
  rintro e w0 ⟨hf, hw⟩
  obtain rfl := hw.symm
  clear hw HF
  rcases hf with ⟨rfl, hf⟩ | ⟨rfl, hf⟩
  case inr =>
    clear hf
    go_wp2_with (go_at_call 9; refine (unhide HAW _ (unhide HB0)).mono ?_; rintro e w1 ⟨rfl, hb1⟩)
    go_ret
    exact ⟨rfl, below0 (unhide HB0) hb1⟩
  have Hf := hide hf.2
  clear hf
  by_cases h6 : 80 < n
  · have hd : decide ((80 : Int) < (n : Int)) = true := by rw [decide_eq_true_iff]; omega
    go_wp2_with (go_at_call 9; refine (unhide HAW _ (unhide HB0)).mono ?_; rintro e w1 ⟨rfl, hb1⟩)
    go_ret
    exact ⟨rfl, below0 (unhide HB0) hb1⟩
  have hd : decide ((80 : Int) < (n : Int)) = false := by rw [decide_eq_false_iff_not]; omega
  go_wp2_with fail
  refine (stnew_any K Z M W).mono ?_
  rintro e w1 ⟨rfl, hs1, hb1⟩
  have HS1 := hide hs1
  have HB1 := hide hb1
  clear hs1 hb1 z0 z1 z2
  go_wp2
  go_loopw [6] (fun i wr => ∃ (j : Nat) (v : Value) (ts : List RV) (ov : Bool), j ≤ n ∧ i = .int .i64 j ∧ Hid (StAt wr W.heap.size W.heap.size K Z (capN M) v ts ov) ∧ Hid (Below W.heap.size W wr)) (fun i _ => n - (intOf i).toNat)
  case atStart => exact ⟨0, .slice none 0 0, [], false, Nat.zero_le _, rfl, HS1, HB1⟩
  case round =>
    obtain ⟨j, v, ts, ov, hj, rfl, HS, HB⟩ := hrel
    clear HS1 HB1
    by_cases hlt : j < n
    · have hRa := unhide Hh
      obtain ⟨b, off, rfl, -⟩ := hRa.at hlt
      have hrow := hRa.2.1 j hlt
      have hsh := unhide Hf j
      have hlt' : (j : Int) < (n : Int) := by omega
      have HCL := hide (fun wx (hb : Below W.heap.size W wx) => (show wx.cell? ⟨b, off + j * 2, none⟩ = some (.slice (rs.getD j .dflt).a (rs.getD j .dflt).n (rs.getD j .dflt).c) ∧ wx.cell? ⟨b, off + j * 2 + 1, none⟩ = some (.string (rs.getD j .dflt).s) from by
        obtain ⟨b', off', e', hc'⟩ := (hRa.below hb).at hlt
        simp only [Option.some.injEq, Addr.mk.injEq, and_true] at e'
        obtain ⟨rfl, rfl⟩ := e'
        exact hc' j hlt))
      generalize rs.getD j .dflt = r at *
      have HRO := hide (fun wx (hb : Below W.heap.size W wx) => hrow.below hb)
      have HW1 := hide (rows_any _ _ K Z (capN M) v ts ov wr (unhide HS))
      have hss := unhide HS
      have hsi := hss.rows.rows
      have hsr := hss.short
      have hll := hss.le
      have hlm := hss.most
      clear hRa hrow hss
      go_wp2_with fail
      refine (unhide HW1).mono ?_
      rintro e w2 ⟨g2, c2, us2, rfl, ho2, hr2, he2, hb2⟩
      have hB2 := below0 (unhide HB) hb2
      obtain ⟨hA2, hI2, hSh2, -, -⟩ := OutP.at ho2 hr2 he2 hsi hsr
      have hs2 := (unhide HS).below hb2
      have HP := hide (put_any _ _ K Z (capN M) v ts ov r.a r.n r.c r.xs r.s w2 hs2 (unhide HRO _ hB2) hsh.1 hsh.2)
      obtain ⟨hc0, hc1⟩ := unhide HCL _ hB2
      have HS2 := hide hs2
      have HB2 := hide hB2
      have HO2 := hide ho2
      have HR2 := hide hr2
      have HE2 := hide he2
      have HH2 := hide hSh2
      have HA2 := hide hA2
      have HFAR := hide (show ∀ j, wr.heap.size ≤ j → ¬ stF W.heap.size v j from (unhide HS).far)
      clear HW1 hs2 hB2 ho2 hr2 he2 hSh2 hA2 hb2 hI2
      go_wp2_with fail
      refine (unhide HP).mono ?_
      rintro e w3 ⟨rfl, v3, ts3, hs3, hc3, ht3, -⟩
      have hB3 := (unhide HS2).step (unhide HB2) ht3
      have ho3 := (unhide HO2).tu ht3 (fun j hj => unhide HFAR j (World.ownsRow.lt (unhide HO2) j hj).1)
      have hr3 := (unhide HR2).tu ht3 (unhide HS2).words
      have HW3 := hide (rows_any _ _ K Z (capN M) v3 ts3 _ w3 hs3)
      have HO3 := hide ho3
      have HR3 := hide hr3
      have HS3 := hide hs3
      have HB3 := hide hB3
      have hll3 := hs3.le
      have hsi3 := hs3.rows.rows
      have hsr3 := hs3.short
      clear HP hs3 ht3 hB3 ho3 hr3 HO2 HR2 HA2 HS2 hc0 hc1
      have hcm := unhide HCM
      generalize putO K Z (capN M) (ts.map core) ov (r.xs, r.s) = ov3 at *
      rcases put_len K Z (capN M) (ts.map core) (r.xs, r.s) with ⟨hE, hL⟩ | ⟨hE, hL⟩
      · rw [hE]
        rw [hL] at hc3
        have hl3 : ts3.length = ts.length + 1 := by rw [← List.length_map core, hc3, List.length_append, List.length_map]; rfl
        clear hE hL
        go_wp2_with fail
        refine (unhide HW3).mono ?_
        rintro e w4 ⟨g4, c4, us4, rfl, ho4, hr4, he4, hb4⟩
        obtain ⟨hA4, hI4, hSh4, hn4, hc4⟩ := OutP.at ho4 hr4 he4 hsi3 hsr3
        have hu2 := OutP.at ((unhide HO3).below hb4) ((unhide HR3).below hb4) (unhide HE2) hsi hsr
        have hl4 : us4.length = ts.length + 1 := by rw [← hn4, hl3]
        have hco : (us4.take ts.length).map core = us2.map core := by
          rw [List.map_take, he4, hc3, unhide HE2, List.take_append_of_le_length (by rw [List.length_map]; exact Nat.le_refl _), List.take_of_length_le (by rw [List.length_map]; exact Nat.le_refl _)]
        have hcl : core (us4.getD ts.length .dflt) = (r.xs, r.s) := by
          have h1 := core_at (L := us4.map core) rfl (i := ts.length) (by omega)
          rw [he4, hc3, List.getD_eq_getElem?_getD, List.getElem?_append_right (by rw [List.length_map]; exact Nat.le_refl _), List.length_map, Nat.sub_self] at h1
          exact h1.symm
        have hsl := slice_hi g4 0 (ts.length + 1) c4 ts.length (by omega)
        have HAL := hide (rall_any (some ⟨g4, 0, none⟩) ts.length c4 (us4.take ts.length) (some ⟨g2, 0, none⟩) ts.length c2 us2 w4 (hA4.take ts.length (by omega)) hu2.1 hco (short_take hSh4 _) (by omega))
        have hB4 := below0 (unhide HB3) hb4
        have HOI := hide (show ∀ wx, Below w4.heap.size w4 wx → OwnS wx w3.heap.size (.slice (some ⟨g4, 0, none⟩) ts3.length c4) us4 ∧ RowAt wx (us4.getD ts.length .dflt).a (us4.getD ts.length .dflt).n (us4.getD ts.length .dflt).xs from fun wx hb => ⟨ho4.below hb, ((hI4.get (i := ts.length) (by omega)).1.below hb)⟩)
        have hsq := hSh4 ts.length
        have HB4 := hide hB4
        have HS4 := hide ((unhide HS3).below hb4)
        have HU4 := hide hl4
        clear hA4 hI4 hSh4 hn4 hu2 hco ho4 hr4 he4 hb4 hB4 HW3 HS3 HO3 HR3 HB3 hc3 hsi3 hsr3
        rw [hl3]
        obtain ⟨z0, z1, z2⟩ := unhide HSZ w4 (unhide HB4)
        have q1 : decide (max M 0 < ((ts.length + 1 : Nat) : Int)) = false := by rw [decide_eq_false_iff_not]; omega
        have q2 : decide (((ts.length + 1 : Nat) : Int) < (ts.length : Int)) = false := by rw [decide_eq_false_iff_not]; omega
        have q3 : (((ts.length + 1 : Nat) : Int) == (ts.length : Int) + 1) = true := by rw [beq_iff_eq]; omega
        go_wp2_with (go_at_call 16; refine (unhide HAL).mono ?_; rintro e w5 ⟨rfl, hb5⟩; have HB5 := hide hb5; clear hb5)
        have hB5 := below0 (unhide HB4) (unhide HB5)
        obtain ⟨hoi, hri⟩ := unhide HOI w5 (unhide HB5)
        have hcg := cellsR_get us4 ts.length (by have := unhide HU4; omega)
        have hd0 := hoi.cellAt hcg.1
        have hd1 := hoi.cellAt hcg.2
        obtain ⟨hc0, hc1⟩ := unhide HCL w5 hB5
        have hrr := unhide HRO w5 hB5
        generalize us4.getD ts.length .dflt = q at *
        have hq1 : q.xs = r.xs := congrArg Prod.fst hcl
        have hq2 : q.s = r.s := congrArg Prod.snd hcl
        have cS := quietB (W := w5) (fun w' hb => rsame2_any q.a q.n q.c q.xs q.s r.a r.n r.c r.xs r.s w' (hri.below hb) (hrr.below hb) (by omega) (by omega))
        rw [hq1, hq2, same_self, decide_eq_true rfl] at cS
        rw [hq2] at hd1
        have hix : (ts.length : Int) < (ts.length : Int) + 1 := by omega
        have k0 := cell_regrown hc0
        have k1 := cell_regrown hc1
        have k2 := cell_regrown hd0
        have k3 := cell_regrown hd1
        have HB5' := hide hB5
        clear hcl hq1 hq2 hoi hri hrr hcg hc0 hc1 hd0 hd1 hB5 HOI HCL HRO HAL
        refine wp_region_quiet_below (by kernel_rfl) (by kernel_rfl) ?_
        repeat (with_reducible refine wpQuiet_step (fun K hK => ?_); go_simp; first | (with_reducible refine hK _ ?_; clear hK K) | (apply Exists.intro; apply And.intro; (intro _; (go_at_call 20; exact cS _ _)); with_reducible refine hK _ ?_; clear hK K))
        refine wpQuiet_nil ?_
        intro _ hw'
        obtain ⟨⟨dq, osq⟩, hw''⟩ := hw'
        subst hw''
        have HB6 := hide (below_regrown w5 dq osq)
        clear cS k0 k1 k2 k3
        generalize grow (redrawn w5 dq) osq = w6 at *
        go_wp2
        go_roundw
        case rel => exact ⟨j + 1, v3, ts3, ov3, by omega, by go_num, hide (((unhide HS4).below (unhide HB5)).below (unhide HB6)), hide (below0 (unhide HB5') (unhide HB6))⟩
        case measure => simp [intOf]; omega
      · rw [hL] at hc3
        have hl3 : ts3.length = ts.length := by rw [← List.length_map core, hc3, List.length_map]
        clear hL
        generalize putE K Z (capN M) (ts.map core) (r.xs, r.s) = E at *
        go_wp2_with fail
        refine (unhide HW3).mono ?_
        rintro e w4 ⟨g4, c4, us4, rfl, ho4, hr4, he4, hb4⟩
        obtain ⟨hA4, hI4, hSh4, hn4, hc4⟩ := OutP.at ho4 hr4 he4 hsi3 hsr3
        have hu2 := OutP.at ((unhide HO3).below hb4) ((unhide HR3).below hb4) (unhide HE2) hsi hsr
        rw [hl3] at hA4 hn4 hc4
        have hco : (us4.take ts.length).map core = us2.map core := by
          rw [List.map_take, he4, hc3, unhide HE2, List.take_of_length_le (by rw [List.length_map]; exact Nat.le_refl _)]
        have hsl := slice_hi g4 0 ts.length c4 ts.length (by omega)
        have HAL := hide (rall_any (some ⟨g4, 0, none⟩) ts.length c4 (us4.take ts.length) (some ⟨g2, 0, none⟩) ts.length c2 us2 w4 (hA4.take ts.length (Nat.le_refl _)) hu2.1 hco (short_take hSh4 _) (by omega))
        have hB4 := below0 (unhide HB3) hb4
        have HB4 := hide hB4
        have HS4 := hide ((unhide HS3).below hb4)
        clear hA4 hI4 hSh4 hn4 hu2 hco ho4 hr4 he4 hb4 hB4 HW3 HS3 HO3 HR3 HB3 hc3 hsi3 hsr3
        rw [hl3]
        obtain ⟨z0, z1, z2⟩ := unhide HSZ w4 (unhide HB4)
        have q1 : decide (max M 0 < (ts.length : Int)) = false := by rw [decide_eq_false_iff_not]; omega
        have q2 : decide ((ts.length : Int) < (ts.length : Int)) = false := by rw [decide_eq_false_iff_not]; omega
        have q3 : ((ts.length : Int) == (ts.length : Int) + 1) = false := by rw [beq_eq_false_iff_ne]; omega
        have q4 : (E == 0) = false := by rw [beq_eq_false_iff_ne]; exact hE
        go_wp2_with (go_at_call 16; refine (unhide HAL).mono ?_; rintro e w5 ⟨rfl, hb5⟩; have HB5 := hide hb5; clear hb5)
        refine wp_region_quiet_below (by kernel_rfl) (by kernel_rfl) ?_
        repeat (with_reducible refine wpQuiet_step (fun K hK => ?_); go_simp; (with_reducible refine hK _ ?_; clear hK K))
        refine wpQuiet_nil ?_
        intro _ hw'
        obtain ⟨⟨dq, osq⟩, hw''⟩ := hw'
        subst hw''
        have HB6 := hide (below_regrown w5 dq osq)
        generalize grow (redrawn w5 dq) osq = w6 at *
        go_wp2
        go_roundw
        case rel => exact ⟨j + 1, v3, ts3, ov3, by omega, by go_num, hide (((unhide HS4).below (unhide HB5)).below (unhide HB6)), hide (below0 (below0 (unhide HB4) (unhide HB5)) (unhide HB6))⟩
        case measure => simp [intOf]; omega
    · clear HS
      go_wp2_with (go_at_call 9; refine (unhide HAW _ (below0 (unhide HB0) (unhide HB))).mono ?_; rintro e w6 ⟨rfl, hb6⟩; have HB6 := hide (below0 (below0 (unhide HB0) (unhide HB)) hb6); clear hb6)
      go_ret
      exact ⟨rfl, unhide HB6⟩
end Go.Proofs.YtbfkhioljpgjjaaDoor
