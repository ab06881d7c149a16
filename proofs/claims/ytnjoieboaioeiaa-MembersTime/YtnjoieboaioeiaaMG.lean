/-
  Contracts of bucketlineref20.Alive, Hear, All. No condition.
-/
import Derived.Test.YtnjoieboaioeiaaMF
namespace Go.Proofs.Ytnjoieboaioeiaa
open Go.RowKit Go.Sort
set_option linter.unusedVariables false
set_option maxRecDepth 4000

set_option maxHeartbeats 4000000 in
theorem rmalive_any (T : Int) (Z : List Int) (H : List Bool) (I N : List Int) (x t : Int) (w : World) (h : Rm Z H I N) :
    Calls Try.prog 14 #[.agg (rmC T H I N).toArray, .int .i64 x, .int .i64 t] w fun e w' => e = .returned (.bool (aliveB T Z x t)) ∧ Below w.heap.size w w' := by
  have hb := rm_box T H I N w
  have hlo := hide (alloc_low w (.cells (rmC T H I N).toArray 29))
  cases hx : nodeB x
  case false =>
    rw [alive_out hx]
    clear hb h
    generalize hW : w.alloc (.cells (rmC T H I N).toArray 29) = W at *
    have cS := quietB (W := W) (fun w' _ => same_below (ris_any x w'))
    have cM := quietB (W := W) (fun w' _ => same_below (rmoment_any t w'))
    rw [hx] at cS
    go_enter Try.func14, Try.ntmps14
    go_wp2_with fail
    refine wp_region_quiet_below (by kernel_rfl) (by kernel_rfl) ?_
    repeat (with_reducible refine wpQuiet_step (fun K hK => ?_); go_simp; first | (with_reducible refine hK _ ?_; clear hK K) | (apply Exists.intro; apply And.intro; (intro _; first | (go_at_call 21; exact cS _ _) | (go_at_call 22; exact cM _ _)); with_reducible refine hK _ ?_; clear hK K))
    refine wpQuiet_nil ?_
    intro _ hw'
    obtain ⟨⟨dq, osq⟩, hw''⟩ := hw'
    subst hw''
    go_wp2
    go_ret
    exact ⟨rfl, below0 (unhide hlo) (below_regrown _ dq osq)⟩
  obtain ⟨n, hn, rfl⟩ := node_nat hx
  have hn' : (n : Int) < 8 := by omega
  obtain ⟨c1, -, c17, c0⟩ := rm_cells hb h.len hn
  cases ht : timeB t
  case false =>
    rw [alive_time ht]
    clear hb h c1 c17 c0
    generalize hW : w.alloc (.cells (rmC T H I N).toArray 29) = W at *
    have cS := quietB (W := W) (fun w' _ => same_below (ris_any (n : Int) w'))
    have cM := quietB (W := W) (fun w' _ => same_below (rmoment_any t w'))
    rw [hx] at cS
    rw [ht] at cM
    go_enter Try.func14, Try.ntmps14
    go_wp2_with fail
    refine wp_region_quiet_below (by kernel_rfl) (by kernel_rfl) ?_
    repeat (with_reducible refine wpQuiet_step (fun K hK => ?_); go_simp; first | (with_reducible refine hK _ ?_; clear hK K) | (apply Exists.intro; apply And.intro; (intro _; first | (go_at_call 21; exact cS _ _) | (go_at_call 22; exact cM _ _)); with_reducible refine hK _ ?_; clear hK K))
    refine wpQuiet_nil ?_
    intro _ hw'
    obtain ⟨⟨dq, osq⟩, hw''⟩ := hw'
    subst hw''
    go_wp2
    go_ret
    exact ⟨rfl, below0 (unhide hlo) (below_regrown _ dq osq)⟩
  rw [h.alive T t hn ht]
  have hbd := h.bound hn
  clear hb h
  have htt := timeB_iff.1 ht
  generalize hW : w.alloc (.cells (rmC T H I N).toArray 29) = W at *
  have k0 := cell_regrown c0
  have k1 := cell_regrown c1
  have k17 := cell_regrown c17
  have cS := quietB (W := W) (fun w' _ => same_below (ris_any (n : Int) w'))
  have cM := quietB (W := W) (fun w' _ => same_below (rmoment_any t w'))
  rw [hx] at cS
  rw [ht] at cM
  clear c0 c1 c17
  generalize N.getD n 0 = q at *
  cases hh : H.getD n false
  case false =>
    rw [hh] at k1
    clear hbd hh
    go_enter Try.func14, Try.ntmps14
    go_wp2_with fail
    refine wp_region_quiet_below (by kernel_rfl) (by kernel_rfl) ?_
    repeat (with_reducible refine wpQuiet_step (fun K hK => ?_); go_simp; first | (with_reducible refine hK _ ?_; clear hK K) | (apply Exists.intro; apply And.intro; (intro _; first | (go_at_call 21; exact cS _ _) | (go_at_call 22; exact cM _ _)); with_reducible refine hK _ ?_; clear hK K))
    refine wpQuiet_nil ?_
    intro _ hw'
    obtain ⟨⟨dq, osq⟩, hw''⟩ := hw'
    subst hw''
    go_wp2
    go_ret
    exact ⟨rfl, below0 (unhide hlo) (below_regrown _ dq osq)⟩
  rw [hh] at k1
  have hq := hbd hh
  clear hbd hh
  rw [Bool.true_and]
  by_cases h1 : q ≤ t
  case neg =>
    have d1 : decide (q ≤ t) = false := decide_eq_false h1
    rw [d1, Bool.false_and]
    clear h1 hq htt
    go_enter Try.func14, Try.ntmps14
    go_wp2_with fail
    refine wp_region_quiet_below (by kernel_rfl) (by kernel_rfl) ?_
    repeat (with_reducible refine wpQuiet_step (fun K hK => ?_); go_simp; first | (with_reducible refine hK _ ?_; clear hK K) | (apply Exists.intro; apply And.intro; (intro _; first | (go_at_call 21; exact cS _ _) | (go_at_call 22; exact cM _ _)); with_reducible refine hK _ ?_; clear hK K))
    refine wpQuiet_nil ?_
    intro _ hw'
    obtain ⟨⟨dq, osq⟩, hw''⟩ := hw'
    subst hw''
    go_wp2
    go_ret
    exact ⟨rfl, below0 (unhide hlo) (below_regrown _ dq osq)⟩
  have d1 : decide (q ≤ t) = true := decide_eq_true h1
  rw [d1, Bool.true_and]
  have hw : IntKind.i64.wrap (t - q) = t - q := by rw [IntKind.wrap_i64]; omega
  clear hq htt
  go_enter Try.func14, Try.ntmps14
  go_wp2_with fail
  refine wp_region_quiet_below (by kernel_rfl) (by kernel_rfl) ?_
  repeat (with_reducible refine wpQuiet_step (fun K hK => ?_); go_simp; first | (with_reducible refine hK _ ?_; clear hK K) | (apply Exists.intro; apply And.intro; (intro _; first | (go_at_call 21; exact cS _ _) | (go_at_call 22; exact cM _ _)); with_reducible refine hK _ ?_; clear hK K))
  refine wpQuiet_nil ?_
  intro _ hw'
  obtain ⟨⟨dq, osq⟩, hw''⟩ := hw'
  subst hw''
  go_wp2
  go_ret
  exact ⟨rfl, below0 (unhide hlo) (below_regrown _ dq osq)⟩

theorem results_rm2 {tmps : Array Value} {W : World} {g : Nat} {b : Bool} {cs : List Value} (h2 : tmps.getD 8 undef = .pointer (some ⟨g, 0, none⟩)) (h3 : tmps.getD 9 undef = .bool b) (hq : BkA 29 W g cs) (hl : cs.length = 25) :
    (results Try.f11 tmps).run Try.prog W = .ok (.tuple #[.agg cs.toArray, .bool b]) W := by
  have hld := hq.load Try.underlying29 rfl info_rm hl
  have h2' : tmps[8]?.getD undef = .pointer (some ⟨g, 0, none⟩) := by simpa using h2
  have h3' : tmps[9]?.getD undef = .bool b := by simpa using h3
  simp [results, Try.results11, asAddr, h2', h3', hld]
theorem rm_boxes (cs : List Value) (w : World) : BkA 29 ((w.alloc (.cells cs.toArray 29)).alloc (.cells #[.int .i64 0, .bool false, .bool false, .bool false, .bool false, .bool false, .bool false, .bool false, .bool false, .int .i64 0, .int .i64 0, .int .i64 0, .int .i64 0, .int .i64 0, .int .i64 0, .int .i64 0, .int .i64 0, .int .i64 0, .int .i64 0, .int .i64 0, .int .i64 0, .int .i64 0, .int .i64 0, .int .i64 0, .int .i64 0] 29)) w.heap.size cs ∧ BkA 29 ((w.alloc (.cells cs.toArray 29)).alloc (.cells #[.int .i64 0, .bool false, .bool false, .bool false, .bool false, .bool false, .bool false, .bool false, .bool false, .int .i64 0, .int .i64 0, .int .i64 0, .int .i64 0, .int .i64 0, .int .i64 0, .int .i64 0, .int .i64 0, .int .i64 0, .int .i64 0, .int .i64 0, .int .i64 0, .int .i64 0, .int .i64 0, .int .i64 0, .int .i64 0] 29)) (w.heap.size + 1) [.int .i64 0, .bool false, .bool false, .bool false, .bool false, .bool false, .bool false, .bool false, .bool false, .int .i64 0, .int .i64 0, .int .i64 0, .int .i64 0, .int .i64 0, .int .i64 0, .int .i64 0, .int .i64 0, .int .i64 0, .int .i64 0, .int .i64 0, .int .i64 0, .int .i64 0, .int .i64 0, .int .i64 0, .int .i64 0] ∧ Below w.heap.size w ((w.alloc (.cells cs.toArray 29)).alloc (.cells #[.int .i64 0, .bool false, .bool false, .bool false, .bool false, .bool false, .bool false, .bool false, .bool false, .int .i64 0, .int .i64 0, .int .i64 0, .int .i64 0, .int .i64 0, .int .i64 0, .int .i64 0, .int .i64 0, .int .i64 0, .int .i64 0, .int .i64 0, .int .i64 0, .int .i64 0, .int .i64 0, .int .i64 0, .int .i64 0] 29)) := by
  have l1 := alloc_low w (.cells cs.toArray 29)
  have b1 : BkA 29 (w.alloc (.cells cs.toArray 29)) w.heap.size cs := bkA_new 29 w cs
  have z1 := alloc_size w (.cells cs.toArray 29)
  generalize w.alloc (.cells cs.toArray 29) = w1 at *
  have l2 := alloc_low w1 (.cells #[.int .i64 0, .bool false, .bool false, .bool false, .bool false, .bool false, .bool false, .bool false, .bool false, .int .i64 0, .int .i64 0, .int .i64 0, .int .i64 0, .int .i64 0, .int .i64 0, .int .i64 0, .int .i64 0, .int .i64 0, .int .i64 0, .int .i64 0, .int .i64 0, .int .i64 0, .int .i64 0, .int .i64 0, .int .i64 0] 29)
  have b2 : BkA 29 (w1.alloc (.cells #[.int .i64 0, .bool false, .bool false, .bool false, .bool false, .bool false, .bool false, .bool false, .bool false, .int .i64 0, .int .i64 0, .int .i64 0, .int .i64 0, .int .i64 0, .int .i64 0, .int .i64 0, .int .i64 0, .int .i64 0, .int .i64 0, .int .i64 0, .int .i64 0, .int .i64 0, .int .i64 0, .int .i64 0, .int .i64 0] 29)) w1.heap.size [.int .i64 0, .bool false, .bool false, .bool false, .bool false, .bool false, .bool false, .bool false, .bool false, .int .i64 0, .int .i64 0, .int .i64 0, .int .i64 0, .int .i64 0, .int .i64 0, .int .i64 0, .int .i64 0, .int .i64 0, .int .i64 0, .int .i64 0, .int .i64 0, .int .i64 0, .int .i64 0, .int .i64 0, .int .i64 0] := bkA_new 29 w1 [.int .i64 0, .bool false, .bool false, .bool false, .bool false, .bool false, .bool false, .bool false, .bool false, .int .i64 0, .int .i64 0, .int .i64 0, .int .i64 0, .int .i64 0, .int .i64 0, .int .i64 0, .int .i64 0, .int .i64 0, .int .i64 0, .int .i64 0, .int .i64 0, .int .i64 0, .int .i64 0, .int .i64 0, .int .i64 0]
  refine ⟨b1.below l2, ?_, below0 l1 l2⟩
  rwa [z1] at b2
/-- What the reference's Hear leaves. -/
def RhP (w w' : World) (T : Int) (Z : List Int) (x i t : Int) (e : Ending) : Prop := ∃ H' I' N', e = .returned (.tuple #[.agg (rmC T H' I' N').toArray, .bool (hearB Z x i t)]) ∧ Rm (hearZ Z x i t) H' I' N' ∧ Below w.heap.size w w'
theorem rm_sets {T : Int} {H : List Bool} {I N : List Int} {W : World} {g : Nat} (hb : BkA 29 W g (rmC T H I N)) (h : Len8 H I N) {n : Nat} (hn : n < 8) (i t : Int) :
    BkA 29 (((W.setCell ⟨g, 1 + n, none⟩ (.bool true)).setCell ⟨g, 9 + n, none⟩ (.int .i64 i)).setCell ⟨g, 17 + n, none⟩ (.int .i64 t)) g (rmC T (H.set n true) (I.set n i) (N.set n t)) ∧ Tu (fun j => j = g) W (((W.setCell ⟨g, 1 + n, none⟩ (.bool true)).setCell ⟨g, 9 + n, none⟩ (.int .i64 i)).setCell ⟨g, 17 + n, none⟩ (.int .i64 t)) := by
  have h1 := hb.set (1 + n) (.bool true)
  rw [rmC_seth h hn] at h1
  have l1 : Len8 (H.set n true) I N := ⟨by rw [List.length_set]; exact h.h, h.i, h.n⟩
  have h2 := h1.set (9 + n) (.int .i64 i)
  rw [rmC_seti l1 hn] at h2
  have l2 : Len8 (H.set n true) (I.set n i) N := ⟨l1.h, by rw [List.length_set]; exact h.i, h.n⟩
  have h3 := h2.set (17 + n) (.int .i64 t)
  rw [rmC_setn l2 hn] at h3
  exact ⟨h3, ((tu_set W g _ _).trans (tu_set _ g _ _) fun _ _ e => e).trans (tu_set _ g _ _) fun _ _ e => e⟩
set_option maxHeartbeats 4000000 in
theorem rmhear_any (T : Int) (Z : List Int) (H : List Bool) (I N : List Int) (x i t : Int) (w : World) (h : Rm Z H I N) :
    Calls Try.prog 11 #[.agg (rmC T H I N).toArray, .int .i64 x, .int .i64 i, .int .i64 t] w fun e w' => RhP w w' T Z x i t e := by
  obtain ⟨hD, hR, hB⟩ := rm_boxes (rmC T H I N) w
  have HL8 := hide h.len
  have HD := hide hD
  have HR := hide hR
  have HB := hide hB
  have HNX := hide (fun (hb : hearB Z x i t = false) (w' : World) (hlo : Below w.heap.size w w') => (show RhP w w' T Z x i t (.returned (.tuple #[.agg (rmC T H I N).toArray, .bool false])) from ⟨H, I, N, by rw [hb], by rw [hearZ_no hb]; exact h, hlo⟩))
  clear hD hR hB
  cases hx : nodeB x
  case false =>
    have HNO := hide (unhide HNX (hear_out hx))
    have ht : True := trivial
    clear h HNX
    generalize hW : ((w.alloc (.cells (rmC T H I N).toArray 29)).alloc (.cells #[.int .i64 0, .bool false, .bool false, .bool false, .bool false, .bool false, .bool false, .bool false, .bool false, .int .i64 0, .int .i64 0, .int .i64 0, .int .i64 0, .int .i64 0, .int .i64 0, .int .i64 0, .int .i64 0, .int .i64 0, .int .i64 0, .int .i64 0, .int .i64 0, .int .i64 0, .int .i64 0, .int .i64 0, .int .i64 0] 29)) = W at *
    go_enter Try.func11, Try.ntmps11
    go_wp2_with (first
      | (go_at_call 21; refine (ris_any _ _).mono ?_; rintro e w1 ⟨rfl, hw1⟩; obtain rfl := hw1.symm; clear hw1; rw [hx])
      | (go_at_call 22; refine (rmoment_any _ _).mono ?_; rintro e w1 ⟨rfl, hw1⟩; obtain rfl := hw1.symm; clear hw1)
      | ((with_reducible refine bw_load 29 Try.underlying29 rfl info_rm 4 w.heap.size (rmC T H I N) ?_ (unhide HD) (rmC_len (unhide HL8)) ?_); (focus rfl))
      | ((with_reducible refine bw_store 29 info_rm 8 36 (w.heap.size + 1) [.int .i64 0, .bool false, .bool false, .bool false, .bool false, .bool false, .bool false, .bool false, .bool false, .int .i64 0, .int .i64 0, .int .i64 0, .int .i64 0, .int .i64 0, .int .i64 0, .int .i64 0, .int .i64 0, .int .i64 0, .int .i64 0, .int .i64 0, .int .i64 0, .int .i64 0, .int .i64 0, .int .i64 0, .int .i64 0] (rmC T H I N) ?_ ?_ (unhide HR) rfl (rmC_len (unhide HL8)) (rmC_one _ _ _ _) ?_); (focus rfl); (focus rfl); intro wz hRz htz; have HRZ := hide hRz; have HTZ := hide htz; clear hRz htz)
      | fail)
    exact bodyPost_ret (results_rm2 rfl rfl (unhide HRZ) (rmC_len (unhide HL8))) rfl (unhide HNO _ (tu_low (unhide HB) (unhide HTZ) (Nat.le_succ _)))
  obtain ⟨n, hn, rfl⟩ := node_nat hx
  have hn' : (n : Int) < 8 := by omega
  by_cases hi : i < 0
  case pos =>
    have HNO := hide (unhide HNX (hear_neg h.inv hi))
    have ht : True := trivial
    have di : decide (i < 0) = true := decide_eq_true hi
    clear h HNX
    generalize hW : ((w.alloc (.cells (rmC T H I N).toArray 29)).alloc (.cells #[.int .i64 0, .bool false, .bool false, .bool false, .bool false, .bool false, .bool false, .bool false, .bool false, .int .i64 0, .int .i64 0, .int .i64 0, .int .i64 0, .int .i64 0, .int .i64 0, .int .i64 0, .int .i64 0, .int .i64 0, .int .i64 0, .int .i64 0, .int .i64 0, .int .i64 0, .int .i64 0, .int .i64 0, .int .i64 0] 29)) = W at *
    go_enter Try.func11, Try.ntmps11
    go_wp2_with (first
      | (go_at_call 21; refine (ris_any _ _).mono ?_; rintro e w1 ⟨rfl, hw1⟩; obtain rfl := hw1.symm; clear hw1; rw [hx])
      | (go_at_call 22; refine (rmoment_any _ _).mono ?_; rintro e w1 ⟨rfl, hw1⟩; obtain rfl := hw1.symm; clear hw1)
      | ((with_reducible refine bw_load 29 Try.underlying29 rfl info_rm 4 w.heap.size (rmC T H I N) ?_ (unhide HD) (rmC_len (unhide HL8)) ?_); (focus rfl))
      | ((with_reducible refine bw_store 29 info_rm 8 36 (w.heap.size + 1) [.int .i64 0, .bool false, .bool false, .bool false, .bool false, .bool false, .bool false, .bool false, .bool false, .int .i64 0, .int .i64 0, .int .i64 0, .int .i64 0, .int .i64 0, .int .i64 0, .int .i64 0, .int .i64 0, .int .i64 0, .int .i64 0, .int .i64 0, .int .i64 0, .int .i64 0, .int .i64 0, .int .i64 0, .int .i64 0] (rmC T H I N) ?_ ?_ (unhide HR) rfl (rmC_len (unhide HL8)) (rmC_one _ _ _ _) ?_); (focus rfl); (focus rfl); intro wz hRz htz; have HRZ := hide hRz; have HTZ := hide htz; clear hRz htz)
      | fail)
    exact bodyPost_ret (results_rm2 rfl rfl (unhide HRZ) (rmC_len (unhide HL8))) rfl (unhide HNO _ (tu_low (unhide HB) (unhide HTZ) (Nat.le_succ _)))
  have di : decide (i < 0) = false := decide_eq_false hi
  cases ht : timeB t
  case false =>
    have HNO := hide (unhide HNX (hear_time ht))
    clear h HNX hi
    generalize hW : ((w.alloc (.cells (rmC T H I N).toArray 29)).alloc (.cells #[.int .i64 0, .bool false, .bool false, .bool false, .bool false, .bool false, .bool false, .bool false, .bool false, .int .i64 0, .int .i64 0, .int .i64 0, .int .i64 0, .int .i64 0, .int .i64 0, .int .i64 0, .int .i64 0, .int .i64 0, .int .i64 0, .int .i64 0, .int .i64 0, .int .i64 0, .int .i64 0, .int .i64 0, .int .i64 0] 29)) = W at *
    go_enter Try.func11, Try.ntmps11
    go_wp2_with (first
      | (go_at_call 21; refine (ris_any _ _).mono ?_; rintro e w1 ⟨rfl, hw1⟩; obtain rfl := hw1.symm; clear hw1; rw [hx])
      | (go_at_call 22; refine (rmoment_any _ _).mono ?_; rintro e w1 ⟨rfl, hw1⟩; obtain rfl := hw1.symm; clear hw1; rw [ht])
      | ((with_reducible refine bw_load 29 Try.underlying29 rfl info_rm 4 w.heap.size (rmC T H I N) ?_ (unhide HD) (rmC_len (unhide HL8)) ?_); (focus rfl))
      | ((with_reducible refine bw_store 29 info_rm 8 36 (w.heap.size + 1) [.int .i64 0, .bool false, .bool false, .bool false, .bool false, .bool false, .bool false, .bool false, .bool false, .int .i64 0, .int .i64 0, .int .i64 0, .int .i64 0, .int .i64 0, .int .i64 0, .int .i64 0, .int .i64 0, .int .i64 0, .int .i64 0, .int .i64 0, .int .i64 0, .int .i64 0, .int .i64 0, .int .i64 0, .int .i64 0] (rmC T H I N) ?_ ?_ (unhide HR) rfl (rmC_len (unhide HL8)) (rmC_one _ _ _ _) ?_); (focus rfl); (focus rfl); intro wz hRz htz; have HRZ := hide hRz; have HTZ := hide htz; clear hRz htz)
      | fail)
    exact bodyPost_ret (results_rm2 rfl rfl (unhide HRZ) (rmC_len (unhide HL8))) rfl (unhide HNO _ (tu_low (unhide HB) (unhide HTZ) (Nat.le_succ _)))
  have hq := h.hearB hn ht (i := i) (by omega)
  obtain ⟨c1, c9, c17, -⟩ := rm_cells (unhide HD) h.len hn
  have f1 := (unhide HD).frz (1 + n)
  have f9 := (unhide HD).frz (9 + n)
  have f17 := (unhide HD).frz (17 + n)
  clear hi
  have HYX := hide (fun (hb : hearB Z (n : Int) i t = true) (w' : World) (hlo : Below w.heap.size w w') => (show RhP w w' T Z (n : Int) i t (.returned (.tuple #[.agg (rmC T (H.set n true) (I.set n i) (N.set n t)).toArray, .bool true])) from ⟨_, _, _, by rw [hb], h.hear hn hb, hlo⟩))
  have HL9 := hide (h.len.set n true i t)
  clear h
  generalize hW : ((w.alloc (.cells (rmC T H I N).toArray 29)).alloc (.cells #[.int .i64 0, .bool false, .bool false, .bool false, .bool false, .bool false, .bool false, .bool false, .bool false, .int .i64 0, .int .i64 0, .int .i64 0, .int .i64 0, .int .i64 0, .int .i64 0, .int .i64 0, .int .i64 0, .int .i64 0, .int .i64 0, .int .i64 0, .int .i64 0, .int .i64 0, .int .i64 0, .int .i64 0, .int .i64 0] 29)) = W at *
  obtain ⟨hD3, hT3⟩ := rm_sets (unhide HD) (unhide HL8) hn i t
  have HD3 := hide hD3
  have HR3 := hide ((unhide HR).tu hT3 (by omega))
  have HB3 := hide (tu_low (unhide HB) hT3 (Nat.le_refl _))
  clear hD3 hT3
  generalize hW3 : (((W.setCell ⟨w.heap.size, 1 + n, none⟩ (.bool true)).setCell ⟨w.heap.size, 9 + n, none⟩ (.int .i64 i)).setCell ⟨w.heap.size, 17 + n, none⟩ (.int .i64 t)) = WW at *
  have HW3 := hide hW3
  generalize I.getD n 0 = q at *
  generalize N.getD n 0 = p at *
  cases hh : H.getD n false
  case false =>
    rw [hh] at c1 hq
    have HYS := hide (unhide HYX (by rw [hq]; rfl))
    clear HNX HYX hq hh
    go_enter Try.func11, Try.ntmps11
    go_wp2_with (first
      | (go_at_call 21; refine (ris_any _ _).mono ?_; rintro e w1 ⟨rfl, hw1⟩; obtain rfl := hw1.symm; clear hw1; rw [hx])
      | (go_at_call 22; refine (rmoment_any _ _).mono ?_; rintro e w1 ⟨rfl, hw1⟩; obtain rfl := hw1.symm; clear hw1; rw [ht])
      | ((with_reducible refine bw_load 29 Try.underlying29 rfl info_rm 4 w.heap.size (rmC T (H.set n true) (I.set n i) (N.set n t)) ?_ (unhide HD3) (rmC_len (unhide HL9)) ?_); (focus rfl))
      | ((with_reducible refine bw_store 29 info_rm 8 48 (w.heap.size + 1) [.int .i64 0, .bool false, .bool false, .bool false, .bool false, .bool false, .bool false, .bool false, .bool false, .int .i64 0, .int .i64 0, .int .i64 0, .int .i64 0, .int .i64 0, .int .i64 0, .int .i64 0, .int .i64 0, .int .i64 0, .int .i64 0, .int .i64 0, .int .i64 0, .int .i64 0, .int .i64 0, .int .i64 0, .int .i64 0] (rmC T (H.set n true) (I.set n i) (N.set n t)) ?_ ?_ (unhide HR3) rfl (rmC_len (unhide HL9)) (rmC_one _ _ _ _) ?_); (focus rfl); (focus rfl); intro wz hRz htz; have HRZ := hide hRz; have HTZ := hide htz; clear hRz htz)
      | fail)
    exact bodyPost_ret (results_rm2 rfl rfl (unhide HRZ) (rmC_len (unhide HL9))) rfl (unhide HYS _ (tu_low (unhide HB3) (unhide HTZ) (Nat.le_succ _)))
  rw [hh] at c1 hq
  by_cases hiq : i < q
  case pos =>
    have dq : decide (i < q) = true := decide_eq_true hiq
    have HNO := hide (unhide HNX (by rw [hq, dq]; rfl))
    clear HNX HYX hq hh hiq HW3 hW3
    go_enter Try.func11, Try.ntmps11
    go_wp2_with (first
      | (go_at_call 21; refine (ris_any _ _).mono ?_; rintro e w1 ⟨rfl, hw1⟩; obtain rfl := hw1.symm; clear hw1; rw [hx])
      | (go_at_call 22; refine (rmoment_any _ _).mono ?_; rintro e w1 ⟨rfl, hw1⟩; obtain rfl := hw1.symm; clear hw1; rw [ht])
      | ((with_reducible refine bw_load 29 Try.underlying29 rfl info_rm 4 w.heap.size (rmC T H I N) ?_ (unhide HD) (rmC_len (unhide HL8)) ?_); (focus rfl))
      | ((with_reducible refine bw_store 29 info_rm 8 36 (w.heap.size + 1) [.int .i64 0, .bool false, .bool false, .bool false, .bool false, .bool false, .bool false, .bool false, .bool false, .int .i64 0, .int .i64 0, .int .i64 0, .int .i64 0, .int .i64 0, .int .i64 0, .int .i64 0, .int .i64 0, .int .i64 0, .int .i64 0, .int .i64 0, .int .i64 0, .int .i64 0, .int .i64 0, .int .i64 0, .int .i64 0] (rmC T H I N) ?_ ?_ (unhide HR) rfl (rmC_len (unhide HL8)) (rmC_one _ _ _ _) ?_); (focus rfl); (focus rfl); intro wz hRz htz; have HRZ := hide hRz; have HTZ := hide htz; clear hRz htz)
      | fail)
    exact bodyPost_ret (results_rm2 rfl rfl (unhide HRZ) (rmC_len (unhide HL8))) rfl (unhide HNO _ (tu_low (unhide HB) (unhide HTZ) (Nat.le_succ _)))
  have dq : decide (i < q) = false := decide_eq_false hiq
  have HYS := hide (unhide HYX (by rw [hq, dq]; rfl))
  clear HNX HYX hq hh hiq
  go_enter Try.func11, Try.ntmps11
  go_wp2_with (first
    | (go_at_call 21; refine (ris_any _ _).mono ?_; rintro e w1 ⟨rfl, hw1⟩; obtain rfl := hw1.symm; clear hw1; rw [hx])
    | (go_at_call 22; refine (rmoment_any _ _).mono ?_; rintro e w1 ⟨rfl, hw1⟩; obtain rfl := hw1.symm; clear hw1; rw [ht])
    | ((with_reducible refine bw_load 29 Try.underlying29 rfl info_rm 4 w.heap.size (rmC T (H.set n true) (I.set n i) (N.set n t)) ?_ (unhide HD3) (rmC_len (unhide HL9)) ?_); (focus rfl))
    | ((with_reducible refine bw_store 29 info_rm 8 48 (w.heap.size + 1) [.int .i64 0, .bool false, .bool false, .bool false, .bool false, .bool false, .bool false, .bool false, .bool false, .int .i64 0, .int .i64 0, .int .i64 0, .int .i64 0, .int .i64 0, .int .i64 0, .int .i64 0, .int .i64 0, .int .i64 0, .int .i64 0, .int .i64 0, .int .i64 0, .int .i64 0, .int .i64 0, .int .i64 0, .int .i64 0] (rmC T (H.set n true) (I.set n i) (N.set n t)) ?_ ?_ (unhide HR3) rfl (rmC_len (unhide HL9)) (rmC_one _ _ _ _) ?_); (focus rfl); (focus rfl); intro wz hRz htz; have HRZ := hide hRz; have HTZ := hide htz; clear hRz htz)
    | fail)
  exact bodyPost_ret (results_rm2 rfl rfl (unhide HRZ) (rmC_len (unhide HL9))) rfl (unhide HYS _ (tu_low (unhide HB3) (unhide HTZ) (Nat.le_succ _)))
end Go.Proofs.Ytnjoieboaioeiaa
