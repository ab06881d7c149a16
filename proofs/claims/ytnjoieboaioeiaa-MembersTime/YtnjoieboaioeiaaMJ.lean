/-
  The walk of MembersTime: for every input it tells true and writes nothing that was there. No condition.
-/
import Derived.Test.YtnjoieboaioeiaaMI
namespace Go.Proofs.Ytnjoieboaioeiaa
open Go.RowKit Go.Sort
set_option linter.unusedVariables false
set_option maxRecDepth 4000

theorem memO_zero (x : Int) : memO (List.replicate 16 0) x = (0, 0) := by
  have : ∀ j, (List.replicate 16 (0 : Int)).getD j 0 = 0 := fun j => by
    rw [List.getD_eq_getElem?_getD, List.getElem?_replicate]; split <;> rfl
  cases hx : nodeB x
  · exact memO_out _ hx
  · obtain ⟨n, hn, rfl⟩ := node_nat hx
    rw [memO_in _ hn, this, this]
theorem alive_zero (T x t : Int) : aliveB T (List.replicate 16 0) x t = false := by unfold aliveB; rw [memO_zero]; rfl
theorem inc_zero (x : Int) : incO (List.replicate 16 0) x = -1 := by unfold incO; rw [memO_zero]; rfl
/-- Behind a word that was taken. -/
theorem heard_alive {T : Int} {Z : List Int} (h : InvM Z) {x i t m : Int} (hb : hearB Z x i t = true) (hm : 0 ≤ m) (htm : t + m ≤ 1099511627776) : aliveB T (hearZ Z x i t) x (t + m) = decide (m ≤ T) := by
  have ht := timeB_iff.1 (hearB_node hb).2.1
  unfold aliveB aliveP
  rw [memO_hear h, if_pos ⟨hb, rfl⟩, hd_new ht.1, timeB_iff.2 ⟨by omega, htm⟩]
  simp only [Bool.true_and]
  rw [decide_eq_true (show 0 ≤ t + m - (t + 1 - 1) by omega), Bool.true_and]
  apply decide_eq_decide.2
  omega
theorem heard_inc {Z : List Int} (h : InvM Z) {x i t : Int} (hb : hearB Z x i t = true) : incO (hearZ Z x i t) x = i := by
  have ht := timeB_iff.1 (hearB_node hb).2.1
  have e : memO (hearZ Z x i t) x = (i, t + 1) := by rw [memO_hear h, if_pos ⟨hb, rfl⟩]
  unfold incO incP
  rw [e, hd_new ht.1, if_pos rfl]
set_option maxHeartbeats 8000000 in
theorem mbtime_walk (T x i t m : Int) (w : World) : Calls Try.prog 4 #[.int .i64 T, .agg #[.int .i64 x, .int .i64 i, .int .i64 t], .int .i64 m] w fun e w' => e = .returned (.bool true) ∧ Below w.heap.size w w' := by
  have hq : BkA 32 (w.alloc (.cells #[.int .i64 x, .int .i64 i, .int .i64 t] 32)) w.heap.size [.int .i64 x, .int .i64 i, .int .i64 t] := bkA_new _ _ _
  have hb := alloc_low w (.cells #[.int .i64 x, .int .i64 i, .int .i64 t] 32)
  generalize hW : w.alloc (.cells #[.int .i64 x, .int .i64 i, .int .i64 t] 32) = W at *
  have HQ := hide hq
  have HB := hide hb
  have HLT := hide hq.lt
  have HLW := hide hb.size
  have q0 := hq.at 0 rfl
  have q1 := hq.at 1 rfl
  have q2 := hq.at 2 rfl
  clear hq hb
  by_cases h1 : T < 0
  case pos =>
    have dh1 : decide (T < 0) = true := decide_eq_true h1
    go_enter Try.func4, Try.ntmps4
    go_wp2_with (first
      | (go_at_call 8; refine (awake_any _).mono ?_; rintro e w1 ⟨rfl, hb1⟩; have HB := hide (below0 (unhide HB) hb1); clear hb1)
      | fail)
    go_ret
    exact ⟨rfl, unhide HB⟩
  have dh1 : decide (T < 0) = false := decide_eq_false h1
  by_cases h2 : 1048576 < T
  case pos =>
    have dh2 : decide (1048576 < T) = true := decide_eq_true h2
    go_enter Try.func4, Try.ntmps4
    go_wp2_with (first
      | (go_at_call 8; refine (awake_any _).mono ?_; rintro e w1 ⟨rfl, hb1⟩; have HB := hide (below0 (unhide HB) hb1); clear hb1)
      | fail)
    go_ret
    exact ⟨rfl, unhide HB⟩
  have dh2 : decide (1048576 < T) = false := decide_eq_false h2
  by_cases h3 : m < 0
  case pos =>
    have dh3 : decide (m < 0) = true := decide_eq_true h3
    go_enter Try.func4, Try.ntmps4
    go_wp2_with (first
      | (go_at_call 8; refine (awake_any _).mono ?_; rintro e w1 ⟨rfl, hb1⟩; have HB := hide (below0 (unhide HB) hb1); clear hb1)
      | fail)
    go_ret
    exact ⟨rfl, unhide HB⟩
  have dh3 : decide (m < 0) = false := decide_eq_false h3
  by_cases h4 : 1073741824 < m
  case pos =>
    have dh4 : decide (1073741824 < m) = true := decide_eq_true h4
    go_enter Try.func4, Try.ntmps4
    go_wp2_with (first
      | (go_at_call 8; refine (awake_any _).mono ?_; rintro e w1 ⟨rfl, hb1⟩; have HB := hide (below0 (unhide HB) hb1); clear hb1)
      | fail)
    go_ret
    exact ⟨rfl, unhide HB⟩
  have dh4 : decide (1073741824 < m) = false := decide_eq_false h4
  by_cases h5 : 549755813888 < t
  case pos =>
    have dh5 : decide (549755813888 < t) = true := decide_eq_true h5
    go_enter Try.func4, Try.ntmps4
    go_wp2_with (first
      | (go_at_call 8; refine (awake_any _).mono ?_; rintro e w1 ⟨rfl, hb1⟩; have HB := hide (below0 (unhide HB) hb1); clear hb1)
      | fail)
    go_ret
    exact ⟨rfl, unhide HB⟩
  have dh5 : decide (549755813888 < t) = false := decide_eq_false h5
  have htk : tickZ T = T := by unfold tickZ; omega
  have HN := hide (mbnew_any T W)
  rw [htk] at HN
  have HX := hide (fun wx (h : MbAt wx W.heap.size T (List.replicate 16 0)) => mbhear_any W.heap.size T (List.replicate 16 0) x i t wx h)
  clear htk
  cases hh : hearB (List.replicate 16 0) x i t
  case false =>
    rw [hh, hearZ_no hh] at HX
    have az := alive_zero T x t
    have iz := inc_zero x
    clear h1 h2 h3 h4 h5 hh
    go_enter Try.func4, Try.ntmps4
    go_wp2_with (first
      | (go_at_call 9; refine (unhide HN).mono ?_; rintro e w1 ⟨rfl, hm1, hb1⟩; have HM := hide hm1; have hq1 := (unhide HQ).below hb1; have HQ := hide hq1; have HB := hide (below0 (unhide HB) hb1); have q0 := hq1.at 0 rfl; have q1 := hq1.at 1 rfl; have q2 := hq1.at 2 rfl; clear hq1; clear hm1 hb1)
      | (go_at_call 12; refine (unhide HX _ (unhide HM)).mono ?_; rintro e w1 ⟨rfl, hm1, ht1⟩; have HM := hide hm1; have hq1 := (unhide HQ).tu ht1 (fun e => by have := (unhide HLT); omega); have HQ := hide hq1; have HB := hide (tu_low (unhide HB) ht1 (unhide HLW)); have q0 := hq1.at 0 rfl; have q1 := hq1.at 1 rfl; have q2 := hq1.at 2 rfl; clear hq1 hm1 ht1)
      | (go_at_call 13; refine (mbalive_any W.heap.size T _ _ _ _ (unhide HM)).mono ?_; rintro e w1 ⟨rfl, hb1⟩; have HM := hide ((unhide HM).below hb1); have hq1 := (unhide HQ).below hb1; have HQ := hide hq1; have HB := hide (below0 (unhide HB) hb1); have q0 := hq1.at 0 rfl; have q1 := hq1.at 1 rfl; have q2 := hq1.at 2 rfl; clear hq1; clear hb1; rw [az])
      | (go_at_call 15; refine (mbinc_any W.heap.size T _ _ _ (unhide HM)).mono ?_; rintro e w1 ⟨rfl, hb1⟩; have HM := hide ((unhide HM).below hb1); have hq1 := (unhide HQ).below hb1; have HQ := hide hq1; have HB := hide (below0 (unhide HB) hb1); have q0 := hq1.at 0 rfl; have q1 := hq1.at 1 rfl; have q2 := hq1.at 2 rfl; clear hq1; clear hb1; rw [iz])
      | (go_at_call 8; refine (awake_any _).mono ?_; rintro e w1 ⟨rfl, hb1⟩; have HB := hide (below0 (unhide HB) hb1); clear hb1)
      | fail)
    go_ret
    exact ⟨rfl, unhide HB⟩
  have ht := timeB_iff.1 (hearB_node hh).2.1
  have hw : IntKind.i64.wrap (t + m) = t + m := by rw [IntKind.wrap_i64]; omega
  have HA1 := heard_alive (T := T) InvM.zero hh (m := 0) (Int.le_refl _) (by omega)
  rw [Int.add_zero, decide_eq_true (show (0 : Int) ≤ T by omega)] at HA1
  have HA2 := heard_alive (T := T) InvM.zero hh (m := m) (by omega) (by omega)
  have HI := heard_inc InvM.zero hh
  rw [hh] at HX
  clear h1 h2 h3 h4 h5 hh ht
  generalize hearZ (List.replicate 16 0) x i t = Z' at *
  have HA1 := hide HA1
  have HA2 := hide HA2
  have HI := hide HI
  go_enter Try.func4, Try.ntmps4
  go_wp2_with (first
    | (go_at_call 9; refine (unhide HN).mono ?_; rintro e w1 ⟨rfl, hm1, hb1⟩; have HM := hide hm1; have hq1 := (unhide HQ).below hb1; have HQ := hide hq1; have HB := hide (below0 (unhide HB) hb1); have q0 := hq1.at 0 rfl; have q1 := hq1.at 1 rfl; have q2 := hq1.at 2 rfl; clear hq1; clear hm1 hb1)
    | (go_at_call 12; refine (unhide HX _ (unhide HM)).mono ?_; rintro e w5 ⟨rfl, hm1, ht1⟩; have HM := hide hm1; have hq1 := (unhide HQ).tu ht1 (fun e => by have := (unhide HLT); omega); have HQ := hide hq1; have HB := hide (tu_low (unhide HB) ht1 (unhide HLW)); have k0 := cell_regrown (hq1.at 0 rfl); have k1 := cell_regrown (hq1.at 1 rfl); have k2 := cell_regrown (hq1.at 2 rfl); clear hq1 hm1 ht1)
    | fail)
  have cA1 := quietB (W := w5) (fun w' hb => by have := mbalive_any W.heap.size T Z' x t w' ((unhide HM).below hb); rw [unhide HA1] at this; exact this)
  have cA2 := quietB (W := w5) (fun w' hb => by have := mbalive_any W.heap.size T Z' x (t + m) w' ((unhide HM).below hb); rw [unhide HA2] at this; exact this)
  have cI := quietB (W := w5) (fun w' hb => by have := mbinc_any W.heap.size T Z' x w' ((unhide HM).below hb); rw [unhide HI] at this; exact this)
  have cW := quietB (W := w5) (fun w' hb => awake_any w')
  clear q0 q1 q2
  refine wp_region_quiet_below (by kernel_rfl) (by kernel_rfl) ?_
  repeat (with_reducible refine wpQuiet_step (fun K hK => ?_); go_simp; first | (with_reducible refine hK _ ?_; clear hK K) | (apply Exists.intro; apply And.intro; (intro _; first | (go_at_call 13; exact cA1 _ _) | (go_at_call 13; exact cA2 _ _) | (go_at_call 15; exact cI _ _) | (go_at_call 8; exact cW _ _)); with_reducible refine hK _ ?_; clear hK K))
  refine wpQuiet_nil ?_
  intro _ hw'
  obtain ⟨⟨dq, osq⟩, hw''⟩ := hw'
  subst hw''
  go_wp2
  go_ret
  exact ⟨rfl, below0 (unhide HB) (below_regrown _ dq osq)⟩
end Go.Proofs.Ytnjoieboaioeiaa
