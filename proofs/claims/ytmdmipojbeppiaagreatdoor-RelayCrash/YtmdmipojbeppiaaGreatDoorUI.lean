/-
  Contract of Buffer.takes.
-/
import Derived.Test.YtmdmipojbeppiaaGreatDoorM12
namespace Go.Proofs.YtmdmipojbeppiaaGreatDoor
open Go.RowKit Go.Sort
set_option linter.unusedVariables false
set_option maxRecDepth 4000

set_option maxHeartbeats 4000000 in
theorem butakes_any (g B m : Nat) (v : Value) (ps : List PKV) (p : PKV) (w : World) (ht : Tab w) (h : BfAt w g B m v ps) (hr : RowAt w p.r.a p.r.n p.r.xs) (hn : p.r.n ≤ 10) :
    Calls Tryz.prog 132 #[.pointer (some ⟨g, 0, none⟩), p.val] w fun e w' => e = .returned (.bool (takeD m (ps.map PKV.pd) p.pd)) ∧ Below w.heap.size w w' := by
  unfold PKV.val
  have hln := h.len.2
  have hb0 := pk_low w p
  have hB := h.below hb0
  have hrr := hr.below hb0
  have htt := ht.below hb0
  have hx := pk_new w (.int .i64 p.o) (.int .i64 p.l) (.int .i64 p.k) (.int .i64 p.z) (.int .i64 p.h) (.slice p.r.a p.r.n p.r.c) (.string p.r.s)
  generalize hW : w.alloc (.cells #[.int .i64 p.o, .int .i64 p.l, .int .i64 p.k, .int .i64 p.z, .int .i64 p.h, .slice p.r.a p.r.n p.r.c, .string p.r.s] 42) = W at *
  obtain ⟨q0, q1, q2, q3, q4, q5, q6⟩ := id hx
  obtain ⟨k0, -⟩ := hB.cells (Below.refl _ _)
  have HB0 := hide hb0
  have HTK : Hid (takeD m (ps.map PKV.pd) p.pd = (decide (0 < m) && okD p.pd && alkH (ps.map PKV.pd) p.pd && freshB (vecsD (ps.map PKV.pd)) p.r.xs)) := hide rfl
  by_cases hm : 0 < m
  · have hd : decide ((0 : Int) < (m : Int)) = true := by simp; omega
    cases hok : okD p.pd
    · have r0 := cell_regrown k0
      have s0 := cell_regrown q0
      have s1 := cell_regrown q1
      have s2 := cell_regrown q2
      have s3 := cell_regrown q3
      have s4 := cell_regrown q4
      have s5 := cell_regrown q5
      have s6 := cell_regrown q6
      have cC := hide (quietB (W := W) (fun w' hb => check_any p.o p.l p.k p.z p.h p.r.a p.r.n p.r.c p.r.xs p.r.s w' (hrr.below hb) 1 (ckD_no hok)))
      have HE : Hid (takeD m (ps.map PKV.pd) p.pd = false) := hide (by rw [unhide HTK, hok]; simp)
      clear h hr ht hB hrr htt hb0 hx q0 q1 q2 q3 q4 q5 q6 k0 hok HTK
      generalize takeD m (ps.map PKV.pd) p.pd = T at *
      go_enter Tryz.func132, Tryz.ntmps132
      go_wp2_with fail
      refine wp_region_quiet_below (by kernel_rfl) (by kernel_rfl) ?_
      repeat (with_reducible refine wpQuiet_step (fun K hK => ?_); go_simp; first | (with_reducible refine hK _ ?_; clear hK K) | (apply Exists.intro; apply And.intro; (intro _; (go_at_call 136; exact unhide cC _ _)); with_reducible refine hK _ ?_; clear hK K))
      refine wpQuiet_nil ?_
      intro w3 hw3
      obtain ⟨⟨dq, osq⟩, hw3⟩ := hw3
      have B3 := hide (below0 (unhide HB0) (show Below W.heap.size W w3 by rw [hw3]; exact below_regrown _ dq osq))
      clear hw3 dq osq
      go_wp2
      go_ret
      exact ⟨by rw [unhide HE]; rfl, unhide B3⟩
    · cases hal : alkH (ps.map PKV.pd) p.pd
      · have r0 := cell_regrown k0
        have s0 := cell_regrown q0
        have s1 := cell_regrown q1
        have s2 := cell_regrown q2
        have s3 := cell_regrown q3
        have s4 := cell_regrown q4
        have s5 := cell_regrown q5
        have s6 := cell_regrown q6
        have cC := hide (quietB (W := W) (fun w' hb => check_any p.o p.l p.k p.z p.h p.r.a p.r.n p.r.c p.r.xs p.r.s w' (hrr.below hb) 0 (ckD_yes hok)))
        have cA := quietB (W := W) (fun w' hb => bualike_any g B m v ps p w' (hB.below hb))
        rw [hal] at cA
        unfold PKV.val at cA
        have cA := hide cA
        have HE : Hid (takeD m (ps.map PKV.pd) p.pd = false) := hide (by rw [unhide HTK, hal]; simp)
        clear h hr ht hB hrr htt hb0 hx q0 q1 q2 q3 q4 q5 q6 k0 hok hal HTK
        generalize takeD m (ps.map PKV.pd) p.pd = T at *
        go_enter Tryz.func132, Tryz.ntmps132
        go_wp2_with fail
        refine wp_region_quiet_below (by kernel_rfl) (by kernel_rfl) ?_
        repeat (with_reducible refine wpQuiet_step (fun K hK => ?_); go_simp; first | (with_reducible refine hK _ ?_; clear hK K) | (apply Exists.intro; apply And.intro; (intro _; first | (go_at_call 136; exact unhide cC _ _) | (go_at_call 137; exact unhide cA _ _)); with_reducible refine hK _ ?_; clear hK K))
        refine wpQuiet_nil ?_
        intro w3 hw3
        obtain ⟨⟨dq, osq⟩, hw3⟩ := hw3
        have B3 := hide (below0 (unhide HB0) (show Below W.heap.size W w3 by rw [hw3]; exact below_regrown _ dq osq))
        clear hw3 dq osq
        go_wp2
        go_ret
        exact ⟨by rw [unhide HE]; rfl, unhide B3⟩
      · have HC := hide (fun wx (hb : Below W.heap.size W wx) => check_any p.o p.l p.k p.z p.h p.r.a p.r.n p.r.c p.r.xs p.r.s wx (hrr.below hb) 0 (ckD_yes hok))
        have HA := (fun wx (hb : Below W.heap.size W wx) => bualike_any g B m v ps p wx (hB.below hb))
        rw [hal] at HA
        unfold PKV.val at HA
        have HA := hide HA
        have HR := hide (fun wx (hb : Below W.heap.size W wx) => burows_any g B m v ps wx (hB.below hb))
        have HF := hide (fun wx a1 c1 (hb : Below W.heap.size W wx) (hv : VecsAt wx a1 ps.length (vecsD (ps.map PKV.pd))) => fresh_any a1 ps.length c1 (vecsD (ps.map PKV.pd)) p.r.a p.r.n p.r.c p.r.xs wx (htt.below hb) hv hB.inv.fit (hrr.below hb) (by omega) (by omega))
        have HV : Hid (∀ wx v1 B1, Below W.heap.size W wx → OwnW wx B1 v1 (ps.map PKV.r) → ∃ a1 c1, v1 = .slice a1 ps.length c1 ∧ VecsAt wx a1 ps.length (vecsD (ps.map PKV.pd))) := hide fun wx v1 B1 hb ho => by
          obtain ⟨a1, c1, e, hv⟩ := ho.vecs (rowsOf (hB.rows.ks.below hb))
          rw [List.length_map] at e hv
          rw [vecsOf] at hv
          exact ⟨a1, c1, e, hv⟩
        have HQ := hide (fun wx (hb : Below W.heap.size W wx) => show _ ∧ _ from ⟨(hB.cells hb).1, hx.below hb⟩)
        have HE : Hid (takeD m (ps.map PKV.pd) p.pd = freshB (vecsD (ps.map PKV.pd)) p.r.xs) := hide (by rw [unhide HTK, hal, hok, decide_eq_true hm]; rfl)
        clear h hr ht hB hrr htt hb0 hx hok hal HTK
        generalize takeD m (ps.map PKV.pd) p.pd = T at *
        generalize freshB (vecsD (ps.map PKV.pd)) p.r.xs = FR at *
        go_enter Tryz.func132, Tryz.ntmps132
        go_wp2_with fail
        go_region_held3 (fun w' => w'.cell? ⟨g, 0, none⟩ = some (.int .i64 (m : Int)) ∧ w'.cell? ⟨w.heap.size, 0, none⟩ = some (.int .i64 p.o) ∧ w'.cell? ⟨w.heap.size, 1, none⟩ = some (.int .i64 p.l) ∧ w'.cell? ⟨w.heap.size, 2, none⟩ = some (.int .i64 p.k) ∧ w'.cell? ⟨w.heap.size, 3, none⟩ = some (.int .i64 p.z) ∧ w'.cell? ⟨w.heap.size, 4, none⟩ = some (.int .i64 p.h) ∧ w'.cell? ⟨w.heap.size, 5, none⟩ = some (.slice p.r.a p.r.n p.r.c) ∧ w'.cell? ⟨w.heap.size, 6, none⟩ = some (.string p.r.s)) (go_keep) (first
          | (go_at_call 136; refine (unhide HC _ (Below.refl _ _).drew).mono ?_; rintro e w1 ⟨rfl, hb1⟩; have D1 := hide (show Below W.heap.size W w1 from below0 (Below.refl _ _).drew hb1); obtain ⟨u0, t0, t1, t2, t3, t4, t5, t6⟩ := unhide HQ w1 (unhide D1); clear hb1)
          | (go_at_call 137; refine (unhide HA _ (unhide D1)).mono ?_; rintro e w2 ⟨rfl, hb2⟩; have D2 := hide (below0 (unhide D1) hb2); obtain ⟨u0, t0, t1, t2, t3, t4, t5, t6⟩ := unhide HQ w2 (unhide D2); clear hb2)
          | (go_at_call 139; refine (unhide HR _ (unhide D2)).mono ?_; rintro e w3 ⟨v3, rfl, ho3, hb3⟩; have D3 := hide (below0 (unhide D2) hb3); obtain ⟨a3, c3, rfl, hv3⟩ := unhide HV w3 v3 _ (unhide D3) ho3; have HV3 := hide hv3; obtain ⟨u0, t0, t1, t2, t3, t4, t5, t6⟩ := unhide HQ w3 (unhide D3); clear hb3 ho3 hv3)
          | (go_at_call 138; refine (unhide HF _ a3 c3 (unhide D3) (unhide HV3)).mono ?_; rintro e w4 ⟨rfl, hb4⟩; have D4 := hide (below0 (unhide D3) hb4); obtain ⟨u0, t0, t1, t2, t3, t4, t5, t6⟩ := unhide HQ w4 (unhide D4); clear hb4))
        all_goals go_wp2
        all_goals go_ret
        all_goals exact ⟨by rw [unhide HE]; rfl, below0 (unhide HB0) (unhide D4)⟩
  · obtain rfl : m = 0 := by omega
    have r0 := cell_regrown k0
    have HE : Hid (takeD 0 (ps.map PKV.pd) p.pd = false) := hide (by rw [unhide HTK]; rfl)
    clear h hr ht hB hrr htt hb0 hx q0 q1 q2 q3 q4 q5 q6 k0 HTK
    generalize takeD 0 (ps.map PKV.pd) p.pd = T at *
    go_enter Tryz.func132, Tryz.ntmps132
    go_wp2_with fail
    refine wp_region_quiet_below (by kernel_rfl) (by kernel_rfl) ?_
    repeat (with_reducible refine wpQuiet_step (fun K hK => ?_); go_simp; first | (with_reducible refine hK _ ?_; clear hK K))
    refine wpQuiet_nil ?_
    intro w3 hw3
    obtain ⟨⟨dq, osq⟩, hw3⟩ := hw3
    have B3 := hide (below0 (unhide HB0) (show Below W.heap.size W w3 by rw [hw3]; exact below_regrown _ dq osq))
    clear hw3 dq osq
    go_wp2
    go_ret
    exact ⟨by rw [unhide HE]; rfl, unhide B3⟩
end Go.Proofs.YtmdmipojbeppiaaGreatDoor
