/-
  The walk of DecoderTrue: for every input it tells true and writes nothing that was there. (Written by gen_ot.py.)
-/
import Derived.Test.YtnjdldbdkafnaaaGreatDoorU45
import Derived.Test.YtnjdldbdkafnaaaGreatDoorU40
import Derived.Test.YtnjdldbdkafnaaaGreatDoorU6
namespace Go.Proofs.YtnjdldbdkafnaaaGreatDoor
open Go.RowKit Go.Sort
set_option linter.unusedVariables false
set_option linter.unusedSimpArgs false
set_option maxRecDepth 4000

theorem blkS_short (t : ByteArray) (Z : Nat) (hz : Z ≤ 64) : shorts (blkS t Z) := fun s hs => by
  obtain ⟨i, hi, rfl⟩ := List.mem_iff_getElem.1 hs
  have := blkS_get t Z i hi
  rw [List.getD_eq_getElem?_getD, List.getElem?_eq_getElem hi, Option.getD_some] at this
  omega

set_option maxHeartbeats 16000000 in
theorem dtrue_walk (t : ByteArray) (a : Option Addr) (n c : Nat) (ps : List PKV) (M : Int) (w : World) (ht : Tab w) (hts : t.size ≤ 9223372036854775807) (h : PksAt w a n ps) (hn : n ≤ 9223372036854775807) (hbig : ∀ i, (ps.getD i .dflt).r.n ≤ 9223372036854775807 ∧ (ps.getD i .dflt).r.s.size ≤ 9223372036854775807) :
    Calls Tryz.prog 5 #[.string t, .slice a n c, .int .i64 M] w fun e w' => e = .returned (.bool true) ∧ Below w.heap.size w w' := by
  have HAW := hide (fun (w1 : World) (hb : Below w.heap.size w w1) => awake_any w1 (ht.below hb))
  have HF := hide (fewP_any a n c ps w h hn hbig)
  have HH := hide h
  have HT := hide ht
  have HL1 := hide h.1
  clear h ht hbig
  go_enter Tryz.func5, Tryz.ntmps5
  go_wp2_with fail
  refine (unhide HF).mono ?_
  rintro e w0 ⟨hf, hw⟩
  obtain rfl := hw.symm
  clear hw HF
  rcases hf with ⟨rfl, hf⟩ | ⟨rfl, hf⟩
  case inr =>
    clear hf
    go_wp2_with (go_at_call 7; refine (unhide HAW _ (Below.refl _ _)).mono ?_; rintro e w1 ⟨rfl, hb1⟩)
    go_ret
    exact ⟨rfl, hb1⟩
  have HS := hide hf.2
  have hl : n ≤ 60 := by rw [← unhide HL1]; exact hf.1
  clear hf
  by_cases hn0 : n = 0
  · have e0 : ((n : Int) == 0) = true := by rw [hn0]; rfl
    go_wp2_with (go_at_call 7; refine (unhide HAW _ (Below.refl _ _)).mono ?_; rintro e w1 ⟨rfl, hb1⟩)
    go_ret
    exact ⟨rfl, hb1⟩
  have e0 : ((n : Int) == 0) = false := by rw [beq_eq_false_iff_ne]; omega
  by_cases h8 : 8192 < t.size
  · have e8 : decide ((8192 : Int) < (t.size : Int)) = true := by rw [decide_eq_true_iff]; omega
    go_wp2_with (go_at_call 7; refine (unhide HAW _ (Below.refl _ _)).mono ?_; rintro e w1 ⟨rfl, hb1⟩)
    go_ret
    exact ⟨rfl, hb1⟩
  have e8 : decide ((8192 : Int) < (t.size : Int)) = false := by rw [decide_eq_false_iff_not]; omega
  have hpos : 0 < n := by omega
  obtain ⟨b, off, rfl, -⟩ := (unhide HH).at hpos
  have HCJ := hide (fun j (hj : j < n) wx (hb : Below w.heap.size w wx) => (show PkCells wx b (off + j * 7) (ps.getD j .dflt) from by
    obtain ⟨b', off', e', hc'⟩ := ((unhide HH).below hb).at hj
    simp only [Option.some.injEq, Addr.mk.injEq, and_true] at e'
    obtain ⟨rfl, rfl⟩ := e'
    exact hc' j hj))
  have HCL0 := hide (fun wx (hb : Below w.heap.size w wx) => (show PkCells wx b off (ps.getD 0 .dflt) from by
    have := unhide HCJ 0 hpos wx hb
    rwa [Nat.zero_mul, Nat.add_zero] at this))
  obtain ⟨p0, hp0⟩ : ∃ p0, p0 = ps.getD 0 .dflt := ⟨_, rfl⟩
  rw [← hp0] at HCL0
  have HP0 := hide hp0
  clear hp0 hn0 h8
  go_wp2
  go_loopw [7] (fun i wr => ∃ j : Nat, j ≤ n ∧ i = .int .i64 j ∧ Hid (Below w.heap.size w wr) ∧ Hid (∀ i, i < j → ∃ Z : Nat, p0.z = (Z : Int) ∧ 1 ≤ Z ∧ TruP t Z (ps.getD i .dflt))) (fun i _ => n - (intOf i).toNat)
  case atStart => exact ⟨0, Nat.zero_le _, rfl, hide (Below.refl _ _), hide (fun i hi => by omega)⟩
  case round =>
    obtain ⟨j, hj, rfl, HB, HG⟩ := hrel
    by_cases hlt : j < n
    · obtain ⟨q0, q1, q2, q3, q4, q5, q6⟩ := unhide HCJ j hlt wr (unhide HB)
      have HRO := hide ((unhide HH).2.1 j hlt)
      have HSJ := hide (unhide HS j)
      have HGN := hide (fun (hx : ∃ Z : Nat, p0.z = (Z : Int) ∧ 1 ≤ Z ∧ TruP t Z (ps.getD j .dflt)) => (show ∀ i, i < j + 1 → ∃ Z : Nat, p0.z = (Z : Int) ∧ 1 ≤ Z ∧ TruP t Z (ps.getD i .dflt) from fun i hi => by
        by_cases e : i = j
        · rw [e]; exact hx
        · exact unhide HG i (by omega)))
      have hlt' : (j : Int) < (n : Int) := by omega
      clear HG
      generalize ps.getD j .dflt = p at *
      have hb0 := alloc_low wr (.cells #[.int .i64 p.o, .int .i64 p.l, .int .i64 p.k, .int .i64 p.z, .int .i64 p.h, .slice p.r.a p.r.n p.r.c, .string p.r.s] 31)
      have hx : BkA 31 (wr.alloc (.cells #[.int .i64 p.o, .int .i64 p.l, .int .i64 p.k, .int .i64 p.z, .int .i64 p.h, .slice p.r.a p.r.n p.r.c, .string p.r.s] 31)) wr.heap.size [.int .i64 p.o, .int .i64 p.l, .int .i64 p.k, .int .i64 p.z, .int .i64 p.h, .slice p.r.a p.r.n p.r.c, .string p.r.s] := bkA_new 31 wr [.int .i64 p.o, .int .i64 p.l, .int .i64 p.k, .int .i64 p.z, .int .i64 p.h, .slice p.r.a p.r.n p.r.c, .string p.r.s]
      have hbW := below0 (unhide HB) hb0
      generalize hW : wr.alloc (.cells #[.int .i64 p.o, .int .i64 p.l, .int .i64 p.k, .int .i64 p.z, .int .i64 p.h, .slice p.r.a p.r.n p.r.c, .string p.r.s] 31) = W at *
      have HSN := hide (fun h => rsplit_no t p.z W hts h)
      have HSY := hide (fun Z => rsplit_yes t Z W)
      have x3 := hx.at 3 rfl
      have HX := hide hx
      have HBW := hide hbW
      clear hx hb0 hbW
      by_cases hpl : planE (t.size : Int) p.z = 0
      · obtain ⟨Z, hZ, hz1, hz2, hk2⟩ := plan_yes hpl
        have hsy := unhide HSY Z hz1 hz2 hk2
        rw [← hZ] at hsy
        have HSP := hide hsy
        have HPZ := hide hZ
        have HBL := hide (show (blocksL (tx t) Z (kc t.size Z)).length = kc t.size Z from blocksL_length _ _ _)
        clear HSN HSY hsy hpl hZ
        go_wp2_with fail
        refine (unhide HSP).mono ?_
        rintro e w3 ⟨v, rfl, ho, hb3⟩
        obtain ⟨av, cv, rfl, hv⟩ := ho.texts
        rw [unhide HBL] at hv ⊢
        have hx3 := (unhide HX).below hb3
        have HB3 := hide (below0 (unhide HBW) hb3)
        have HV := hide (show TextsAt w3 av (kc t.size Z) (blkS t Z) from hv)
        clear HSP ho hb3 hv x3 HX HBW q0 q1 q2 q3 q4 q5 q6
        have k0 := cell_regrown (hx3.at 0 rfl)
        have k1 := cell_regrown (hx3.at 1 rfl)
        have k2 := cell_regrown (hx3.at 2 rfl)
        have k3 := cell_regrown (hx3.at 3 rfl)
        have k4 := cell_regrown (hx3.at 4 rfl)
        have k5 := cell_regrown (hx3.at 5 rfl)
        have k6 := cell_regrown (hx3.at 6 rfl)
        obtain ⟨m0, m1, m2, m3, m4, m5, m6⟩ := unhide HCL0 w3 (unhide HB3)
        have l0 := cell_regrown m0
        have l1 := cell_regrown m1
        have l2 := cell_regrown m2
        have l3 := cell_regrown m3
        have l4 := cell_regrown m4
        have l5 := cell_regrown m5
        have l6 := cell_regrown m6
        clear hx3 m0 m1 m2 m3 m4 m5 m6
        have HR3 := hide (fun w' (hb : Below w3.heap.size w3 w') => (unhide HRO).below (below0 (unhide HB3) hb))
        cases hok : okB p
        · have cC := hide (quietB (W := w3) (fun w' hb => rcheck_any p.o p.l p.k p.z p.h p.r.a p.r.n p.r.c p.r.xs p.r.s w' (unhide HR3 w' hb) 1 (ck_no hok)))
          have cA := hide trivial
          have cH := hide trivial
          clear hok HGN HSJ HR3 HV
          go_wp2_with fail
          refine wp_region_quiet_below (by kernel_rfl) (by kernel_rfl) ?_
          repeat (with_reducible refine wpQuiet_step (fun K hK => ?_); go_simp; first | (with_reducible refine hK _ ?_; clear hK K) | (apply Exists.intro; apply And.intro; (intro _; first | (go_at_call 19; exact unhide cC _ _) | (go_at_call 20; exact unhide cA _ _) | (go_at_call 21; exact unhide cH _ _)); with_reducible refine hK _ ?_; clear hK K))
          refine wpQuiet_nil ?_
          intro w4 hw4
          obtain ⟨⟨dq, osq⟩, hw4⟩ := hw4
          have D4 := hide (show Below w3.heap.size w3 w4 from by rw [hw4]; exact below_regrown _ dq osq)
          clear hw4 dq osq k0 k1 k2 k3 k4 k5 k6 l0 l1 l2 l3 l4 l5 l6
          go_wp2_with (go_at_call 7; refine (unhide HAW _ (below0 (unhide HB3) (unhide D4))).mono ?_; rintro e w6 ⟨rfl, hb6⟩; have HB6 := hide (below0 (below0 (unhide HB3) (unhide D4)) hb6); clear hb6)
          go_ret
          exact ⟨rfl, unhide HB6⟩
        · have cC := hide (quietB (W := w3) (fun w' hb => rcheck_any p.o p.l p.k p.z p.h p.r.a p.r.n p.r.c p.r.xs p.r.s w' (unhide HR3 w' hb) 0 (ck_yes hok)))
          obtain ⟨ba, hba⟩ := tb_ex (p.o = p0.o ∧ p.l = p0.l ∧ p.k = p0.k ∧ p.z = p0.z)
          have cA := hide (quietB (W := w3) (fun w' hb => ralike_any p.o p.l p.k p.z p.h p.r.a p.r.n p.r.c p.r.s p0.o p0.l p0.k p0.z p0.h p0.r.a p0.r.n p0.r.c p0.r.s w' ba hba))
          have cH := hide (quietB (W := w3) (fun w' hb => rholds_any av (kc t.size Z) cv (blkS t Z) p.r.a p.r.n p.r.c p.r.xs p.r.s w' ((unhide HV).below hb) (blkS_short t Z hz2) (by omega) (unhide HR3 w' hb) (by have := (unhide HSJ).1; omega) (by have := (unhide HSJ).2; omega)))
          have HOK := hide hok
          clear hok HR3 HV
          cases ba
          · clear hba HGN HSJ HOK
            go_wp2_with fail
            refine wp_region_quiet_below (by kernel_rfl) (by kernel_rfl) ?_
            repeat (with_reducible refine wpQuiet_step (fun K hK => ?_); go_simp; first | (with_reducible refine hK _ ?_; clear hK K) | (apply Exists.intro; apply And.intro; (intro _; first | (go_at_call 19; exact unhide cC _ _) | (go_at_call 20; exact unhide cA _ _) | (go_at_call 21; exact unhide cH _ _)); with_reducible refine hK _ ?_; clear hK K))
            refine wpQuiet_nil ?_
            intro w4 hw4
            obtain ⟨⟨dq, osq⟩, hw4⟩ := hw4
            have D4 := hide (show Below w3.heap.size w3 w4 from by rw [hw4]; exact below_regrown _ dq osq)
            clear hw4 dq osq k0 k1 k2 k3 k4 k5 k6 l0 l1 l2 l3 l4 l5 l6
            go_wp2_with (go_at_call 7; refine (unhide HAW _ (below0 (unhide HB3) (unhide D4))).mono ?_; rintro e w6 ⟨rfl, hb6⟩; have HB6 := hide (below0 (below0 (unhide HB3) (unhide D4)) hb6); clear hb6)
            go_ret
            exact ⟨rfl, unhide HB6⟩
          · have HAL := hide (hba.1 rfl)
            clear hba
            by_cases hpl : p.l = (t.size : Int)
            · have HPL := hide hpl
              have hpe : (p.l != (t.size : Int)) = false := by rw [hpl]; exact bne_self_eq_false _
              clear hpl
              by_cases hpk : p.k = (kc t.size Z : Int)
              · have HPK := hide hpk
                have hke : (p.k != (kc t.size Z : Int)) = false := by rw [hpk]; exact bne_self_eq_false _
                clear hpk
                cases hho : holdsB (blkS t Z) p.r.xs p.r.s
                · rw [hho] at cH
                  clear hho HGN HSJ HOK HAL HPL HPK
                  generalize kc t.size Z = K at *
                  go_wp2_with fail
                  refine wp_region_quiet_below (by kernel_rfl) (by kernel_rfl) ?_
                  repeat (with_reducible refine wpQuiet_step (fun K hK => ?_); go_simp; first | (with_reducible refine hK _ ?_; clear hK K) | (apply Exists.intro; apply And.intro; (intro _; first | (go_at_call 19; exact unhide cC _ _) | (go_at_call 20; exact unhide cA _ _) | (go_at_call 21; exact unhide cH _ _)); with_reducible refine hK _ ?_; clear hK K))
                  refine wpQuiet_nil ?_
                  intro w4 hw4
                  obtain ⟨⟨dq, osq⟩, hw4⟩ := hw4
                  have D4 := hide (show Below w3.heap.size w3 w4 from by rw [hw4]; exact below_regrown _ dq osq)
                  clear hw4 dq osq k0 k1 k2 k3 k4 k5 k6 l0 l1 l2 l3 l4 l5 l6
                  go_wp2_with (go_at_call 7; refine (unhide HAW _ (below0 (unhide HB3) (unhide D4))).mono ?_; rintro e w6 ⟨rfl, hb6⟩; have HB6 := hide (below0 (below0 (unhide HB3) (unhide D4)) hb6); clear hb6)
                  go_ret
                  exact ⟨rfl, unhide HB6⟩
                · rw [hho] at cH
                  have HN := hide (unhide HGN ⟨Z, by rw [← (unhide HAL).2.2.2]; exact unhide HPZ, hz1, unhide HOK, unhide HPL, unhide HPK, unhide HPZ, hho⟩)
                  clear hho HGN HSJ HOK HAL HPL HPK HPZ HBL
                  generalize kc t.size Z = K at *
                  go_wp2_with fail
                  refine wp_region_quiet_below (by kernel_rfl) (by kernel_rfl) ?_
                  repeat (with_reducible refine wpQuiet_step (fun K hK => ?_); go_simp; first | (with_reducible refine hK _ ?_; clear hK K) | (apply Exists.intro; apply And.intro; (intro _; first | (go_at_call 19; exact unhide cC _ _) | (go_at_call 20; exact unhide cA _ _) | (go_at_call 21; exact unhide cH _ _)); with_reducible refine hK _ ?_; clear hK K))
                  refine wpQuiet_nil ?_
                  intro w4 hw4
                  obtain ⟨⟨dq, osq⟩, hw4⟩ := hw4
                  have D4 := hide (show Below w3.heap.size w3 w4 from by rw [hw4]; exact below_regrown _ dq osq)
                  clear hw4 dq osq k0 k1 k2 k3 k4 k5 k6 l0 l1 l2 l3 l4 l5 l6
                  go_wp2
                  go_roundw
                  case rel => exact ⟨j + 1, by omega, by go_num, hide (below0 (unhide HB3) (unhide D4)), HN⟩
                  case measure => simp [intOf]; omega
              · have hke : (p.k != (kc t.size Z : Int)) = true := by rw [bne_iff_ne]; exact hpk
                clear hpk HGN HSJ HOK HAL HPL
                generalize kc t.size Z = K at *
                go_wp2_with fail
                refine wp_region_quiet_below (by kernel_rfl) (by kernel_rfl) ?_
                repeat (with_reducible refine wpQuiet_step (fun K hK => ?_); go_simp; first | (with_reducible refine hK _ ?_; clear hK K) | (apply Exists.intro; apply And.intro; (intro _; first | (go_at_call 19; exact unhide cC _ _) | (go_at_call 20; exact unhide cA _ _) | (go_at_call 21; exact unhide cH _ _)); with_reducible refine hK _ ?_; clear hK K))
                refine wpQuiet_nil ?_
                intro w4 hw4
                obtain ⟨⟨dq, osq⟩, hw4⟩ := hw4
                have D4 := hide (show Below w3.heap.size w3 w4 from by rw [hw4]; exact below_regrown _ dq osq)
                clear hw4 dq osq k0 k1 k2 k3 k4 k5 k6 l0 l1 l2 l3 l4 l5 l6
                go_wp2_with (go_at_call 7; refine (unhide HAW _ (below0 (unhide HB3) (unhide D4))).mono ?_; rintro e w6 ⟨rfl, hb6⟩; have HB6 := hide (below0 (below0 (unhide HB3) (unhide D4)) hb6); clear hb6)
                go_ret
                exact ⟨rfl, unhide HB6⟩
            · have hpe : (p.l != (t.size : Int)) = true := by rw [bne_iff_ne]; exact hpl
              clear hpl HGN HSJ HOK HAL
              go_wp2_with fail
              refine wp_region_quiet_below (by kernel_rfl) (by kernel_rfl) ?_
              repeat (with_reducible refine wpQuiet_step (fun K hK => ?_); go_simp; first | (with_reducible refine hK _ ?_; clear hK K) | (apply Exists.intro; apply And.intro; (intro _; first | (go_at_call 19; exact unhide cC _ _) | (go_at_call 20; exact unhide cA _ _) | (go_at_call 21; exact unhide cH _ _)); with_reducible refine hK _ ?_; clear hK K))
              refine wpQuiet_nil ?_
              intro w4 hw4
              obtain ⟨⟨dq, osq⟩, hw4⟩ := hw4
              have D4 := hide (show Below w3.heap.size w3 w4 from by rw [hw4]; exact below_regrown _ dq osq)
              clear hw4 dq osq k0 k1 k2 k3 k4 k5 k6 l0 l1 l2 l3 l4 l5 l6
              go_wp2_with (go_at_call 7; refine (unhide HAW _ (below0 (unhide HB3) (unhide D4))).mono ?_; rintro e w6 ⟨rfl, hb6⟩; have HB6 := hide (below0 (below0 (unhide HB3) (unhide D4)) hb6); clear hb6)
              go_ret
              exact ⟨rfl, unhide HB6⟩
      · have HSP := hide (unhide HSN hpl)
        have hpe : (planE (t.size : Int) p.z != 0) = true := by rw [bne_iff_ne]; exact hpl
        clear HSN HSY hpl
        generalize planE (t.size : Int) p.z = E at *
        go_wp2_with fail
        refine (unhide HSP).mono ?_
        rintro e w3 ⟨rfl, hw⟩
        obtain rfl := hw.symm
        have HB3 := HBW
        have hx3 := unhide HX
        clear hw HSP HX HBW HGN HSJ
        have k0 := cell_regrown (hx3.at 0 rfl)
        have k1 := cell_regrown (hx3.at 1 rfl)
        have k2 := cell_regrown (hx3.at 2 rfl)
        have k3 := cell_regrown (hx3.at 3 rfl)
        have k4 := cell_regrown (hx3.at 4 rfl)
        have k5 := cell_regrown (hx3.at 5 rfl)
        have k6 := cell_regrown (hx3.at 6 rfl)
        obtain ⟨m0, m1, m2, m3, m4, m5, m6⟩ := unhide HCL0 W (unhide HB3)
        have l0 := cell_regrown m0
        have l1 := cell_regrown m1
        have l2 := cell_regrown m2
        have l3 := cell_regrown m3
        have l4 := cell_regrown m4
        have l5 := cell_regrown m5
        have l6 := cell_regrown m6
        clear hx3 m0 m1 m2 m3 m4 m5 m6
        have cC := hide trivial
        have cA := hide trivial
        have cH := hide trivial
        go_wp2_with fail
        refine wp_region_quiet_below (by kernel_rfl) (by kernel_rfl) ?_
        repeat (with_reducible refine wpQuiet_step (fun K hK => ?_); go_simp; first | (with_reducible refine hK _ ?_; clear hK K) | (apply Exists.intro; apply And.intro; (intro _; first | (go_at_call 19; exact unhide cC _ _) | (go_at_call 20; exact unhide cA _ _) | (go_at_call 21; exact unhide cH _ _)); with_reducible refine hK _ ?_; clear hK K))
        refine wpQuiet_nil ?_
        intro w4 hw4
        obtain ⟨⟨dq, osq⟩, hw4⟩ := hw4
        have D4 := hide (show Below W.heap.size W w4 from by rw [hw4]; exact below_regrown _ dq osq)
        clear hw4 dq osq k0 k1 k2 k3 k4 k5 k6 l0 l1 l2 l3 l4 l5 l6
        go_wp2_with (go_at_call 7; refine (unhide HAW _ (below0 (unhide HB3) (unhide D4))).mono ?_; rintro e w6 ⟨rfl, hb6⟩; have HB6 := hide (below0 (below0 (unhide HB3) (unhide D4)) hb6); clear hb6)
        go_ret
        exact ⟨rfl, unhide HB6⟩
    · obtain rfl : j = n := by omega
      obtain ⟨Z, hZ, hz1, -⟩ := unhide HG 0 hpos
      have HTR := hide (show ∀ i, i < j → TruP t Z (ps.getD i .dflt) from fun i hi => by
        obtain ⟨Z', hZ', _, h2⟩ := unhide HG i hi
        obtain rfl : Z = Z' := by omega
        exact h2)
      clear HG hZ hj
      go_wp2_with fail
      refine (denew_any M wr).mono ?_
      rintro e w1 ⟨rfl, hd1, hb1⟩
      have HD1 := hide (hd1.mono (unhide HB).size)
      have HB1 := hide (below0 (unhide HB) hb1)
      clear hd1 hb1
      generalize wr.heap.size = g at *
      go_wp2
      go_loopw [12] (fun i wr => ∃ (j2 : Nat) (s : DS) (gs : Nat) (v : Value) (rs : List RV), j2 ≤ j ∧ i = .int .i64 j2 ∧ Hid (DcAt wr g w.heap.size M s gs v rs) ∧ Hid (TrS t Z s) ∧ Hid (Below w.heap.size w wr)) (fun i _ => j - (intOf i).toNat)
      case atStart => exact ⟨0, _, _, _, _, Nat.zero_le _, rfl, HD1, hide (TrS.zero t Z), HB1⟩
      case round =>
        obtain ⟨j2, s, gs, v, rs, hj2, rfl, HD, HTS, HB2⟩ := hrel
        clear HD1 HB1
        by_cases hlt2 : j2 < j
        · obtain ⟨q0, q1, q2, q3, q4, q5, q6⟩ := unhide HCJ j2 hlt2 _ (unhide HB2)
          have HP := hide (dput_of (unhide HT) (unhide HB2) (unhide HD) (unhide HH) (unhide HS) hlt2)
          have HTP := hide (unhide HTR j2 hlt2)
          have hro := (unhide HH).2.1 j2 hlt2
          have hsj := unhide HS j2
          have HXS := hide (show smalls (ps.getD j2 .dflt).r.xs ∧ (ps.getD j2 .dflt).r.s.size ≤ 1000 ∧ (ps.getD j2 .dflt).r.xs.length ≤ 10 from ⟨hro.2.1, hsj.2, by rw [hro.1]; exact hsj.1⟩)
          have hlt2' : (j2 : Int) < (j : Int) := by omega
          clear hro hsj
          generalize ps.getD j2 .dflt = p at *
          go_wp2_with fail
          refine (unhide HP).mono ?_
          rintro e w2 ⟨gs2, v2, rs2, ob2, rfl, hT2, hd2, ht2, -⟩
          have HB3 := hide ((unhide HD).step (unhide HB2) ht2)
          have HTS2 := hide ((unhide HTS).put (fun e => ((unhide HD).begun e).2) hz1 (unhide HTP) (unhide HXS) hT2)
          have HD2 := hide hd2
          clear hd2 ht2 hT2 HP HD HB2 HTS HTP HXS q0 q1 q2 q3 q4 q5 q6
          go_wp2
          go_roundw
          case rel => exact ⟨j2 + 1, _, _, _, _, by omega, by go_num, HD2, HTS2, HB3⟩
          case measure => simp [intOf]; omega
        · have HDN := hide (fun wx hb => dedone_any _ _ _ _ _ _ _ wx ((unhide HD).below hb))
          have HOB := hide (deobj_any _ _ _ _ _ _ _ _ (unhide HD))
          have HTD := hide (unhide HTS).told
          have HND := hide (show s.dn = false → s.ob = ⟨#[]⟩ from fun e => by
            cases hb : s.bg
            · rw [((unhide HD).fresh hb).1]; rfl
            · exact ((unhide HD).begun hb).2.ob e)
          clear HD HTS
          cases hdn : s.dn
          · rw [hdn] at HDN
            have hob := unhide HND hdn
            rw [hob] at HOB
            clear hob hdn HTD HND
            go_wp2_with (first
              | (go_at_call 13; refine (unhide HDN _ (Below.refl _ _)).mono ?_; rintro e w7 ⟨rfl, hw⟩; obtain rfl := hw.symm; clear hw)
              | (go_at_call 14; refine (unhide HOB).mono ?_; rintro e w6 ⟨rfl, hb6⟩; have HB6 := hide (below0 (unhide HB2) hb6); clear hb6)
              | (go_at_call 7; refine (unhide HAW _ (unhide HB6)).mono ?_; rintro e w8 ⟨rfl, hb8⟩; have HB8 := hide (below0 (unhide HB6) hb8); clear hb8)
              | fail)
            go_ret
            exact ⟨rfl, unhide HB8⟩
          · rw [hdn] at HDN
            have hob := unhide HTD hdn
            rw [hob] at HOB
            clear hob hdn HTD HND
            go_wp2_with (first
              | (go_at_call 13; refine (unhide HDN _ (Below.refl _ _)).mono ?_; rintro e w7 ⟨rfl, hw⟩; obtain rfl := hw.symm; clear hw)
              | (go_at_call 14; refine (unhide HOB).mono ?_; rintro e w6 ⟨rfl, hb6⟩; have HB6 := hide (below0 (unhide HB2) hb6); clear hb6)
              | (go_at_call 7; refine (unhide HAW _ (unhide HB6)).mono ?_; rintro e w8 ⟨rfl, hb8⟩; have HB8 := hide (below0 (unhide HB6) hb8); clear hb8)
              | fail)
            go_ret
            exact ⟨rfl, unhide HB8⟩
end Go.Proofs.YtnjdldbdkafnaaaGreatDoor
