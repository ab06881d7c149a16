/-
  Contracts of Buffer.alike, takes.
-/
import Derived.Test.YtbppanebpfpioaaDoorUG
namespace Go.Proofs.YtbppanebpfpioaaDoor
open Go.RowKit Go.Sort
set_option linter.unusedVariables false
set_option maxRecDepth 4000

theorem alkH_nil (p : PD) : alkH [] p = true := rfl
theorem pk_low (w : World) (p : PKV) : Below w.heap.size w (w.alloc (.cells #[.int .i64 p.o, .int .i64 p.l, .int .i64 p.k, .int .i64 p.z, .int .i64 p.h, .slice p.r.a p.r.n p.r.c, .string p.r.s] 34)) := (Below.refl _ _).alloc (Nat.le_refl _) _
set_option maxHeartbeats 2000000 in
theorem bualike_any (g B m : Nat) (v : Value) (ps : List PKV) (p : PKV) (w : World) (h : BfAt w g B m v ps) :
    Calls Tryd.prog 37 #[.pointer (some ⟨g, 0, none⟩), p.val] w fun e w' => e = .returned (.bool (alkH (ps.map PKV.pd) p.pd)) ∧ Below w.heap.size w w' := by
  unfold PKV.val
  have hln := h.len.2
  have hb0 := pk_low w p
  have hB := h.below hb0
  obtain ⟨q0, q1, q2, q3, q4, q5, q6⟩ := pk_new w (.int .i64 p.o) (.int .i64 p.l) (.int .i64 p.k) (.int .i64 p.z) (.int .i64 p.h) (.slice p.r.a p.r.n p.r.c) (.string p.r.s)
  generalize hW : w.alloc (.cells #[.int .i64 p.o, .int .i64 p.l, .int .i64 p.k, .int .i64 p.z, .int .i64 p.h, .slice p.r.a p.r.n p.r.c, .string p.r.s] 34) = W at *
  obtain ⟨a, c, rfl, hP, -, -⟩ := hB.at
  obtain ⟨k0, k1⟩ := hB.cells (Below.refl _ _)
  have r1 := cell_regrown k1
  have s0 := cell_regrown q0
  have s1 := cell_regrown q1
  have s2 := cell_regrown q2
  have s3 := cell_regrown q3
  have s4 := cell_regrown q4
  have s5 := cell_regrown q5
  have s6 := cell_regrown q6
  have HB0 := hide hb0
  have hgq : Tryd.prog.eqGuardType Tryd.prog.depth 72 = false := by kernel_rfl
  have cP := hide (quietB (W := W) (fun w' hb => bobj_any p w'))
  unfold PKV.val at cP
  cases ps with
  | nil =>
    clear h hB hb0 hP k0 k1 q0 q1 q2 q3 q4 q5 q6 cP
    go_enter Tryd.func37, Tryd.ntmps37
    go_wp2_with fail
    refine wp_region_quiet_below (by kernel_rfl) (by kernel_rfl) ?_
    repeat (with_reducible refine wpQuiet_step (fun K hK => ?_); go_simp; first | (with_reducible refine hK _ ?_; clear hK K))
    refine wpQuiet_nil ?_
    intro w3 hw3
    obtain ⟨⟨dq, osq⟩, hw3⟩ := hw3
    have B3 := hide (below0 (unhide HB0) (show Below W.heap.size W w3 by rw [hw3]; exact below_regrown _ dq osq))
    clear hw3 dq osq
    go_wp2
    go_ret
    exact ⟨rfl, unhide B3⟩
  | cons q qs =>
    obtain ⟨b, off, rfl, hcl⟩ := hP.at (i := 0) (by simp)
    obtain ⟨d0, d1, d2, d3, d4, d5, d6⟩ := hcl 0 (by simp)
    simp only [Nat.zero_mul, Nat.add_zero, List.getD_cons_zero] at d0 d1 d2 d3 d4 d5 d6
    have y0 := cell_regrown d0
    have y1 := cell_regrown d1
    have y2 := cell_regrown d2
    have y3 := cell_regrown d3
    have y4 := cell_regrown d4
    have y5 := cell_regrown d5
    have y6 := cell_regrown d6
    have cQ := hide (quietB (W := W) (fun w' hb => bobj_any q w'))
    unfold PKV.val at cQ
    have heq := eq_bobj p.o p.l p.k p.z q.o q.l q.k q.z
    have hal : decide (p.o = q.o ∧ p.l = q.l ∧ p.k = q.k ∧ p.z = q.z) = alkH ((q :: qs).map PKV.pd) p.pd := by
      show _ = alkD q.pd p.pd
      unfold alkD
      rw [decide_eq_decide]
      exact ⟨fun h => ⟨h.1.symm, h.2.1.symm, h.2.2.1.symm, h.2.2.2.symm⟩, fun h => ⟨h.1.symm, h.2.1.symm, h.2.2.1.symm, h.2.2.2.symm⟩⟩
    rw [hal] at heq
    generalize alkH ((q :: qs).map PKV.pd) p.pd = AL at *
    have hn0 : 0 < (q :: qs).length := Nat.succ_pos _
    clear h hB hb0 hP k0 k1 q0 q1 q2 q3 q4 q5 q6 hcl d0 d1 d2 d3 d4 d5 d6 hal
    generalize (q :: qs).length = n at *
    have hn1 : (0 : Int) < (n : Int) := by omega
    have hd : ((n : Int) == 0) = false := by rw [beq_eq_false_iff_ne]; omega
    go_enter Tryd.func37, Tryd.ntmps37
    go_wp2_with fail
    refine wp_region_quiet_below (by kernel_rfl) (by kernel_rfl) ?_
    repeat (with_reducible refine wpQuiet_step (fun K hK => ?_); go_simp; first | (with_reducible refine hK _ ?_; clear hK K) | (apply Exists.intro; apply And.intro; (intro _; (go_at_call 50; first | with_reducible exact unhide cP _ _ | with_reducible exact unhide cQ _ _)); with_reducible refine hK _ ?_; clear hK K))
    refine wpQuiet_nil ?_
    intro w3 hw3
    obtain ⟨⟨dq, osq⟩, hw3⟩ := hw3
    have B3 := hide (below0 (unhide HB0) (show Below W.heap.size W w3 by rw [hw3]; exact below_regrown _ dq osq))
    clear hw3 dq osq
    go_wp2
    go_ret
    exact ⟨rfl, unhide B3⟩
end Go.Proofs.YtbppanebpfpioaaDoor
