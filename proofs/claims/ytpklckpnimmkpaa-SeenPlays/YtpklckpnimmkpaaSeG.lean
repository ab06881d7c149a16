/-
  The walk of bucketlinelaw23.SeenPrints: for every packet and every number of hops.
-/
import Derived.Test.YtpklckpnimmkpaaSeF
namespace Go.Proofs.Ytpklckpnimmkpaa
open Go.RowKit Go.Sort Go.Maps
set_option linter.unusedVariables false
set_option maxRecDepth 4000

/-- A packet with other hops. -/
def PKV.hop (p : PKV) (h : Int) : PKV := ⟨p.o, p.l, p.k, p.z, h, p.r⟩
theorem pr_hop {p : PKV} {h : Int} (h1 : okD p.pd = true) (h2 : okD (p.hop h).pd = true) : prD p.pd = prD (p.hop h).pd := by
  rw [prD_yes h1, prD_yes h2]; rfl
/-- Two packets in memory, one above the other, that share their row. -/
structure TwP (w wk : World) (p q : PKV) : Prop where
  ro : RowAt wk p.r.a p.r.n p.r.xs
  pa : BkA 26 wk w.heap.size [.int .i64 p.o, .int .i64 p.l, .int .i64 p.k, .int .i64 p.z, .int .i64 p.h, .slice p.r.a p.r.n p.r.c, .string p.r.s]
  pb : BkA 26 wk (w.heap.size + 1) [.int .i64 q.o, .int .i64 q.l, .int .i64 q.k, .int .i64 q.z, .int .i64 q.h, .slice q.r.a q.r.n q.r.c, .string q.r.s]
  bel : Below w.heap.size w wk
theorem TwP.below {w wk w' : World} {p q : PKV} (h : TwP w wk p q) (hb : Below wk.heap.size wk w') : TwP w w' p q := ⟨h.ro.below hb, h.pa.below hb, h.pb.below hb, below0 h.bel hb⟩
theorem TwP.start {w : World} {p : PKV} (hr : RowAt w p.r.a p.r.n p.r.xs) (h : Int) :
    TwP w ((w.alloc (.cells #[.int .i64 p.o, .int .i64 p.l, .int .i64 p.k, .int .i64 p.z, .int .i64 p.h, .slice p.r.a p.r.n p.r.c, .string p.r.s] 26)).alloc
      (.cells #[.int .i64 p.o, .int .i64 p.l, .int .i64 p.k, .int .i64 p.z, .int .i64 h, .slice p.r.a p.r.n p.r.c, .string p.r.s] 26)) p (p.hop h) := by
  have b1 := below_new w (.cells #[.int .i64 p.o, .int .i64 p.l, .int .i64 p.k, .int .i64 p.z, .int .i64 p.h, .slice p.r.a p.r.n p.r.c, .string p.r.s] 26)
  have k1 := bkA_new 26 w [.int .i64 p.o, .int .i64 p.l, .int .i64 p.k, .int .i64 p.z, .int .i64 p.h, .slice p.r.a p.r.n p.r.c, .string p.r.s]
  generalize e1 : w.alloc (.cells #[.int .i64 p.o, .int .i64 p.l, .int .i64 p.k, .int .i64 p.z, .int .i64 p.h, .slice p.r.a p.r.n p.r.c, .string p.r.s] 26) = w2 at *
  have z2 : w2.heap.size = w.heap.size + 1 := by rw [← e1, alloc_size]
  have b2 := below_new w2 (.cells #[.int .i64 p.o, .int .i64 p.l, .int .i64 p.k, .int .i64 p.z, .int .i64 h, .slice p.r.a p.r.n p.r.c, .string p.r.s] 26)
  have k2 := bkA_new 26 w2 [.int .i64 p.o, .int .i64 p.l, .int .i64 p.k, .int .i64 p.z, .int .i64 h, .slice p.r.a p.r.n p.r.c, .string p.r.s]
  rw [z2] at k2
  exact ⟨(hr.below b1).below b2, k1.below b2, k2, below0 b1 b2⟩
theorem ckD_ex (p : PKV) : ∃ e : Nat, (e = 0 ∧ okD p.pd = true ∨ e = 1) ∧ CkP e (CheckP p.o p.l p.k p.z p.h p.r.xs p.r.s.size) := by
  cases h : okD p.pd
  · exact ⟨1, .inr rfl, ckD_no h⟩
  · exact ⟨0, .inl ⟨rfl, rfl⟩, ckD_yes h⟩

set_option maxHeartbeats 4000000 in
theorem seprints_walk (p : PKV) (hops : Int) (W : World) (hr : RowAt W p.r.a p.r.n p.r.xs) (hn : p.r.n ≤ 9223372036854775807) (hs : p.r.s.size ≤ 9223372036854775807) :
    Calls Try.prog 3 #[p.val, .int .i64 hops] W fun e w' => e = .returned (.bool true) ∧ Below W.heap.size W w' := by
  have HA := hide (fun wx => seawake_any wx)
  have HT := hide (TwP.start hr hops)
  have B0 := hide (below_new W (.cells #[.int .i64 p.o, .int .i64 p.l, .int .i64 p.k, .int .i64 p.z, .int .i64 p.h, .slice p.r.a p.r.n p.r.c, .string p.r.s] 26))
  have hA0 := seawake_any (W.alloc (.cells #[.int .i64 p.o, .int .i64 p.l, .int .i64 p.k, .int .i64 p.z, .int .i64 p.h, .slice p.r.a p.r.n p.r.c, .string p.r.s] 26))
  have HA0 := hide hA0
  by_cases h1 : 100 < p.r.n
  · have hd1 : decide (100 < (p.r.n : Int)) = true := by simp only [decide_eq_true_eq]; omega
    unfold PKV.val
    clear hr HT HA hA0 hs h1
    generalize p.r = x at *
    go_enter Try.func3, Try.ntmps3
    go_wp2_with (first | (go_at_call 8; refine (unhide HA0).mono ?_; rintro e w1 ⟨rfl, hb1⟩; have HB1 := hide (below0 (unhide B0) hb1); clear hb1) | fail)
    go_ret
    exact ⟨rfl, unhide HB1⟩
  · have hd1 : decide (100 < (p.r.n : Int)) = false := by simp only [decide_eq_false_iff_not]; omega
    by_cases h2 : 1000 < p.r.s.size
    · have hd2 : decide (1000 < (p.r.s.size : Int)) = true := by simp only [decide_eq_true_eq]; omega
      unfold PKV.val
      clear hr HT HA hA0 h1 h2
      generalize p.r = x at *
      go_enter Try.func3, Try.ntmps3
      go_wp2_with (first | (go_at_call 8; refine (unhide HA0).mono ?_; rintro e w1 ⟨rfl, hb1⟩; have HB1 := hide (below0 (unhide B0) hb1); clear hb1) | fail)
      go_ret
      exact ⟨rfl, unhide HB1⟩
    · have hd2 : decide (1000 < (p.r.s.size : Int)) = false := by simp only [decide_eq_false_iff_not]; omega
      obtain ⟨e1, ho1, hc1⟩ := ckD_ex p
      obtain ⟨e2, ho2, hc2⟩ := ckD_ex (p.hop hops)
      have HC1 := hide hc1
      have HC2 := hide hc2
      have hXY : e1 = 0 → e2 = 0 → prD p.pd = prD (p.hop hops).pd := fun f1 f2 => pr_hop (by rcases ho1 with h | h; exact h.2; omega) (by rcases ho2 with h | h; exact h.2; omega)
      have ho1' : e1 = 0 ∨ e1 = 1 := ho1.imp (·.1) id
      have ho2' : e2 = 0 ∨ e2 = 1 := ho2.imp (·.1) id
      have HP1 := hide (fun wx (h : TwP W wx p (p.hop hops)) => pr_any p wx h.ro)
      have HP2 := hide (fun wx (h : TwP W wx p (p.hop hops)) => pr_any (p.hop hops) wx h.ro)
      have HR1 := hide (fun wx (h : TwP W wx p (p.hop hops)) => rpr_any p wx h.ro)
      have HR2 := hide (fun wx (h : TwP W wx p (p.hop hops)) => rpr_any (p.hop hops) wx h.ro)
      have HK1 := hide (fun wx (h : TwP W wx p (p.hop hops)) => rcheck_any p.o p.l p.k p.z p.h p.r.a p.r.n p.r.c p.r.xs p.r.s wx h.ro e1 (unhide HC1))
      have HK2 := hide (fun wx (h : TwP W wx p (p.hop hops)) => rcheck_any p.o p.l p.k p.z hops p.r.a p.r.n p.r.c p.r.xs p.r.s wx h.ro e2 (unhide HC2))
      generalize prD p.pd = X at *
      generalize prD (p.hop hops).pd = Y at *
      unfold PKV.val
      unfold PKV.val at HP1 HP2 HR1 HR2
      simp only [PKV.hop] at HP2 HR2
      clear hr hA0 HA0 h1 h2 B0 ho1 ho2 hc1 hc2 HC1 HC2
      go_enter Try.func3, Try.ntmps3
      go_wp2_with fail
      generalize hW1 : (W.alloc (.cells #[.int .i64 p.o, .int .i64 p.l, .int .i64 p.k, .int .i64 p.z, .int .i64 p.h, .slice p.r.a p.r.n p.r.c, .string p.r.s] 26)).alloc (.cells #[.int .i64 p.o, .int .i64 p.l, .int .i64 p.k, .int .i64 p.z, .int .i64 hops, .slice p.r.a p.r.n p.r.c, .string p.r.s] 26) = W1 at HT ⊢
      have k0 := cell_regrown ((unhide HT).pa.at 0 rfl)
      have k1 := cell_regrown ((unhide HT).pa.at 1 rfl)
      have k2 := cell_regrown ((unhide HT).pa.at 2 rfl)
      have k3 := cell_regrown ((unhide HT).pa.at 3 rfl)
      have k4 := cell_regrown ((unhide HT).pa.at 4 rfl)
      have k5 := cell_regrown ((unhide HT).pa.at 5 rfl)
      have k6 := cell_regrown ((unhide HT).pa.at 6 rfl)
      have j0 := cell_regrown ((unhide HT).pb.at 0 rfl)
      have j1 := cell_regrown ((unhide HT).pb.at 1 rfl)
      have j2 := cell_regrown ((unhide HT).pb.at 2 rfl)
      have j3 := cell_regrown ((unhide HT).pb.at 3 rfl)
      have j4 := cell_regrown ((unhide HT).pb.at 4 rfl)
      have j5 := cell_regrown ((unhide HT).pb.at 5 rfl)
      have j6 := cell_regrown ((unhide HT).pb.at 6 rfl)
      simp only [PKV.hop] at j0 j1 j2 j3 j4 j5 j6
      have c1 := quietB (W := W1) (fun w' hb => unhide HK1 w' ((unhide HT).below hb))
      have c2 := quietB (W := W1) (fun w' hb => unhide HK2 w' ((unhide HT).below hb))
      have c3 := quietB (W := W1) (fun w' hb => unhide HP1 w' ((unhide HT).below hb))
      have c4 := quietB (W := W1) (fun w' hb => unhide HP2 w' ((unhide HT).below hb))
      clear HK1 HK2 hW1
      have hneq : e1 = 0 → e2 = 0 → ((X : Int) != (Y : Int)) = false := fun f1 f2 => by rw [hXY f1 f2]; simp
      clear hXY
      rcases ho1' with rfl | rfl
      · rcases ho2' with rfl | rfl
        · have hne := hneq rfl rfl
          clear hneq
          refine wp_region_quiet_below (by kernel_rfl) (by kernel_rfl) ?_
          repeat (with_reducible refine wpQuiet_step (fun K hK => ?_); go_simp; first | (with_reducible refine hK _ ?_; clear hK K) | (apply Exists.intro; apply And.intro; (intro _; first | (go_at_call 9; first | exact c1 _ _ | exact c2 _ _) | (go_at_call 10; first | exact c3 _ _ | exact c4 _ _)); with_reducible refine hK _ ?_; clear hK K))
          refine wpQuiet_nil ?_
          intro W2 hw2
          obtain ⟨⟨dq, osq⟩, hw2⟩ := hw2
          have hb2 : Below W1.heap.size W1 W2 := by rw [hw2]; exact below_regrown _ dq osq
          have HT2 := hide ((unhide HT).below hb2)
          clear hw2 hb2 c1 c2 c3 c4 k0 k1 k2 k3 k4 k5 k6 j0 j1 j2 j3 j4 j5 j6 HT dq osq
          have k0 := cell_regrown ((unhide HT2).pa.at 0 rfl)
          have k1 := cell_regrown ((unhide HT2).pa.at 1 rfl)
          have k2 := cell_regrown ((unhide HT2).pa.at 2 rfl)
          have k3 := cell_regrown ((unhide HT2).pa.at 3 rfl)
          have k4 := cell_regrown ((unhide HT2).pa.at 4 rfl)
          have k5 := cell_regrown ((unhide HT2).pa.at 5 rfl)
          have k6 := cell_regrown ((unhide HT2).pa.at 6 rfl)
          have j0 := cell_regrown ((unhide HT2).pb.at 0 rfl)
          have j1 := cell_regrown ((unhide HT2).pb.at 1 rfl)
          have j2 := cell_regrown ((unhide HT2).pb.at 2 rfl)
          have j3 := cell_regrown ((unhide HT2).pb.at 3 rfl)
          have j4 := cell_regrown ((unhide HT2).pb.at 4 rfl)
          have j5 := cell_regrown ((unhide HT2).pb.at 5 rfl)
          have j6 := cell_regrown ((unhide HT2).pb.at 6 rfl)
          simp only [PKV.hop] at j0 j1 j2 j3 j4 j5 j6
          have d1 := quietB (W := W2) (fun w' hb => unhide HP1 w' ((unhide HT2).below hb))
          have d2 := quietB (W := W2) (fun w' hb => unhide HP2 w' ((unhide HT2).below hb))
          have d3 := quietB (W := W2) (fun w' hb => unhide HR1 w' ((unhide HT2).below hb))
          have d4 := quietB (W := W2) (fun w' hb => unhide HR2 w' ((unhide HT2).below hb))
          have d5 := quietB (W := W2) (fun w' hb => unhide HA w')
          clear HP1 HP2 HR1 HR2 HA
          go_wp2_with fail
          refine wp_region_quiet_below (by kernel_rfl) (by kernel_rfl) ?_
          repeat (with_reducible refine wpQuiet_step (fun K hK => ?_); go_simp; first | (with_reducible refine hK _ ?_; clear hK K) | (apply Exists.intro; apply And.intro; (intro _; first | (go_at_call 10; first | exact d1 _ _ | exact d2 _ _) | (go_at_call 11; first | exact d3 _ _ | exact d4 _ _) | (go_at_call 8; exact d5 _ _)); with_reducible refine hK _ ?_; clear hK K))
          refine wpQuiet_nil ?_
          intro W3 hw3
          obtain ⟨⟨dq, osq⟩, hw3⟩ := hw3
          have hb3 : Below W2.heap.size W2 W3 := by rw [hw3]; exact below_regrown _ dq osq
          have HB3 := hide (below0 (unhide HT2).bel hb3)
          clear hw3 hb3 d1 d2 d3 d4 d5
          go_wp2
          go_ret
          exact ⟨rfl, unhide HB3⟩
        · clear hneq
          refine wp_region_quiet_below (by kernel_rfl) (by kernel_rfl) ?_
          repeat (with_reducible refine wpQuiet_step (fun K hK => ?_); go_simp; first | (with_reducible refine hK _ ?_; clear hK K) | (apply Exists.intro; apply And.intro; (intro _; first | (go_at_call 9; first | exact c1 _ _ | exact c2 _ _) | (go_at_call 10; first | exact c3 _ _ | exact c4 _ _)); with_reducible refine hK _ ?_; clear hK K))
          refine wpQuiet_nil ?_
          intro W2 hw2
          obtain ⟨⟨dq, osq⟩, hw2⟩ := hw2
          have hb2 : Below W1.heap.size W1 W2 := by rw [hw2]; exact below_regrown _ dq osq
          have HT2 := hide ((unhide HT).below hb2)
          clear hw2 hb2 c1 c2 c3 c4 k0 k1 k2 k3 k4 k5 k6 j0 j1 j2 j3 j4 j5 j6 HT dq osq
          have k0 := cell_regrown ((unhide HT2).pa.at 0 rfl)
          have k1 := cell_regrown ((unhide HT2).pa.at 1 rfl)
          have k2 := cell_regrown ((unhide HT2).pa.at 2 rfl)
          have k3 := cell_regrown ((unhide HT2).pa.at 3 rfl)
          have k4 := cell_regrown ((unhide HT2).pa.at 4 rfl)
          have k5 := cell_regrown ((unhide HT2).pa.at 5 rfl)
          have k6 := cell_regrown ((unhide HT2).pa.at 6 rfl)
          have j0 := cell_regrown ((unhide HT2).pb.at 0 rfl)
          have j1 := cell_regrown ((unhide HT2).pb.at 1 rfl)
          have j2 := cell_regrown ((unhide HT2).pb.at 2 rfl)
          have j3 := cell_regrown ((unhide HT2).pb.at 3 rfl)
          have j4 := cell_regrown ((unhide HT2).pb.at 4 rfl)
          have j5 := cell_regrown ((unhide HT2).pb.at 5 rfl)
          have j6 := cell_regrown ((unhide HT2).pb.at 6 rfl)
          simp only [PKV.hop] at j0 j1 j2 j3 j4 j5 j6
          have d1 := quietB (W := W2) (fun w' hb => unhide HP1 w' ((unhide HT2).below hb))
          have d2 := quietB (W := W2) (fun w' hb => unhide HP2 w' ((unhide HT2).below hb))
          have d3 := quietB (W := W2) (fun w' hb => unhide HR1 w' ((unhide HT2).below hb))
          have d4 := quietB (W := W2) (fun w' hb => unhide HR2 w' ((unhide HT2).below hb))
          have d5 := quietB (W := W2) (fun w' hb => unhide HA w')
          clear HP1 HP2 HR1 HR2 HA
          go_wp2_with fail
          refine wp_region_quiet_below (by kernel_rfl) (by kernel_rfl) ?_
          repeat (with_reducible refine wpQuiet_step (fun K hK => ?_); go_simp; first | (with_reducible refine hK _ ?_; clear hK K) | (apply Exists.intro; apply And.intro; (intro _; first | (go_at_call 10; first | exact d1 _ _ | exact d2 _ _) | (go_at_call 11; first | exact d3 _ _ | exact d4 _ _) | (go_at_call 8; exact d5 _ _)); with_reducible refine hK _ ?_; clear hK K))
          refine wpQuiet_nil ?_
          intro W3 hw3
          obtain ⟨⟨dq, osq⟩, hw3⟩ := hw3
          have hb3 : Below W2.heap.size W2 W3 := by rw [hw3]; exact below_regrown _ dq osq
          have HB3 := hide (below0 (unhide HT2).bel hb3)
          clear hw3 hb3 d1 d2 d3 d4 d5
          go_wp2
          go_ret
          exact ⟨rfl, unhide HB3⟩
      · clear ho2' hneq
        refine wp_region_quiet_below (by kernel_rfl) (by kernel_rfl) ?_
        repeat (with_reducible refine wpQuiet_step (fun K hK => ?_); go_simp; first | (with_reducible refine hK _ ?_; clear hK K) | (apply Exists.intro; apply And.intro; (intro _; first | (go_at_call 9; first | exact c1 _ _ | exact c2 _ _) | (go_at_call 10; first | exact c3 _ _ | exact c4 _ _)); with_reducible refine hK _ ?_; clear hK K))
        refine wpQuiet_nil ?_
        intro W2 hw2
        obtain ⟨⟨dq, osq⟩, hw2⟩ := hw2
        have hb2 : Below W1.heap.size W1 W2 := by rw [hw2]; exact below_regrown _ dq osq
        have HT2 := hide ((unhide HT).below hb2)
        clear hw2 hb2 c1 c2 c3 c4 k0 k1 k2 k3 k4 k5 k6 j0 j1 j2 j3 j4 j5 j6 HT dq osq
        have k0 := cell_regrown ((unhide HT2).pa.at 0 rfl)
        have k1 := cell_regrown ((unhide HT2).pa.at 1 rfl)
        have k2 := cell_regrown ((unhide HT2).pa.at 2 rfl)
        have k3 := cell_regrown ((unhide HT2).pa.at 3 rfl)
        have k4 := cell_regrown ((unhide HT2).pa.at 4 rfl)
        have k5 := cell_regrown ((unhide HT2).pa.at 5 rfl)
        have k6 := cell_regrown ((unhide HT2).pa.at 6 rfl)
        have j0 := cell_regrown ((unhide HT2).pb.at 0 rfl)
        have j1 := cell_regrown ((unhide HT2).pb.at 1 rfl)
        have j2 := cell_regrown ((unhide HT2).pb.at 2 rfl)
        have j3 := cell_regrown ((unhide HT2).pb.at 3 rfl)
        have j4 := cell_regrown ((unhide HT2).pb.at 4 rfl)
        have j5 := cell_regrown ((unhide HT2).pb.at 5 rfl)
        have j6 := cell_regrown ((unhide HT2).pb.at 6 rfl)
        simp only [PKV.hop] at j0 j1 j2 j3 j4 j5 j6
        have d1 := quietB (W := W2) (fun w' hb => unhide HP1 w' ((unhide HT2).below hb))
        have d2 := quietB (W := W2) (fun w' hb => unhide HP2 w' ((unhide HT2).below hb))
        have d3 := quietB (W := W2) (fun w' hb => unhide HR1 w' ((unhide HT2).below hb))
        have d4 := quietB (W := W2) (fun w' hb => unhide HR2 w' ((unhide HT2).below hb))
        have d5 := quietB (W := W2) (fun w' hb => unhide HA w')
        clear HP1 HP2 HR1 HR2 HA
        go_wp2_with fail
        refine wp_region_quiet_below (by kernel_rfl) (by kernel_rfl) ?_
        repeat (with_reducible refine wpQuiet_step (fun K hK => ?_); go_simp; first | (with_reducible refine hK _ ?_; clear hK K) | (apply Exists.intro; apply And.intro; (intro _; first | (go_at_call 10; first | exact d1 _ _ | exact d2 _ _) | (go_at_call 11; first | exact d3 _ _ | exact d4 _ _) | (go_at_call 8; exact d5 _ _)); with_reducible refine hK _ ?_; clear hK K))
        refine wpQuiet_nil ?_
        intro W3 hw3
        obtain ⟨⟨dq, osq⟩, hw3⟩ := hw3
        have hb3 : Below W2.heap.size W2 W3 := by rw [hw3]; exact below_regrown _ dq osq
        have HB3 := hide (below0 (unhide HT2).bel hb3)
        clear hw3 hb3 d1 d2 d3 d4 d5
        go_wp2
        go_ret
        exact ⟨rfl, unhide HB3⟩
end Go.Proofs.Ytpklckpnimmkpaa
