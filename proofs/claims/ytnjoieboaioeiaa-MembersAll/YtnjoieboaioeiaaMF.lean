/-
  Contracts of bucketlineref20.New, Hear, Alive, Inc, All. No condition.
-/
import Derived.Test.YtnjoieboaioeiaaME
import Derived.Test.YtnjoieboaioeiaaMD
namespace Go.Proofs.Ytnjoieboaioeiaa
open Go.RowKit Go.Sort
set_option linter.unusedVariables false
set_option maxRecDepth 4000

theorem info_rm : (Try.prog.info? 29).map (·.size) = some 25 := by kernel_rfl
theorem rticks_any (t : Int) (w : World) : Calls Try.prog 20 #[.int .i64 t] w fun e w' => e = .returned (.int .i64 (tickZ t)) ∧ w' = w := by
  have hmx := max_runZ t 0
  have hmn := min_runZ (max t 0) 1048576
  rw [show min (max t 0) 1048576 = tickZ t from rfl] at hmn
  generalize tickZ t = T at *
  generalize max t 0 = t1 at *
  go_enter Try.func20, Try.ntmps20
  go_wp2
  go_ret
  exact ⟨rfl, rfl⟩
theorem results_rm1 {tmps : Array Value} {W : World} {g : Nat} {cs : List Value} (h2 : tmps.getD 2 undef = .pointer (some ⟨g, 0, none⟩)) (hq : BkA 29 W g cs) (hl : cs.length = 25) :
    (results Try.f10 tmps).run Try.prog W = .ok (.agg cs.toArray) W := by
  have hld := hq.load Try.underlying29 rfl info_rm hl
  have h2' : tmps[2]?.getD undef = .pointer (some ⟨g, 0, none⟩) := by simpa using h2
  simp [results, Try.results10, asAddr, h2', hld]
theorem rmnew_any (t : Int) (w : World) : Calls Try.prog 10 #[.int .i64 t] w fun e w' => e = .returned (.agg (rmC (tickZ t) (List.replicate 8 false) (List.replicate 8 0) (List.replicate 8 0)).toArray) ∧ Below w.heap.size w w' := by
  have HT := hide (fun wx => rticks_any t wx)
  generalize tickZ t = T at *
  have HZ := hide (show BkA 29 (w.alloc (.cells #[.int .i64 0, .bool false, .bool false, .bool false, .bool false, .bool false, .bool false, .bool false, .bool false, .int .i64 0, .int .i64 0, .int .i64 0, .int .i64 0, .int .i64 0, .int .i64 0, .int .i64 0, .int .i64 0, .int .i64 0, .int .i64 0, .int .i64 0, .int .i64 0, .int .i64 0, .int .i64 0, .int .i64 0, .int .i64 0] 29)) w.heap.size [.int .i64 0, .bool false, .bool false, .bool false, .bool false, .bool false, .bool false, .bool false, .bool false, .int .i64 0, .int .i64 0, .int .i64 0, .int .i64 0, .int .i64 0, .int .i64 0, .int .i64 0, .int .i64 0, .int .i64 0, .int .i64 0, .int .i64 0, .int .i64 0, .int .i64 0, .int .i64 0, .int .i64 0, .int .i64 0] from bkA_new _ _ _)
  have HL := hide (alloc_low w (.cells #[.int .i64 0, .bool false, .bool false, .bool false, .bool false, .bool false, .bool false, .bool false, .bool false, .int .i64 0, .int .i64 0, .int .i64 0, .int .i64 0, .int .i64 0, .int .i64 0, .int .i64 0, .int .i64 0, .int .i64 0, .int .i64 0, .int .i64 0, .int .i64 0, .int .i64 0, .int .i64 0, .int .i64 0, .int .i64 0] 29))
  generalize hW : w.alloc (.cells #[.int .i64 0, .bool false, .bool false, .bool false, .bool false, .bool false, .bool false, .bool false, .bool false, .int .i64 0, .int .i64 0, .int .i64 0, .int .i64 0, .int .i64 0, .int .i64 0, .int .i64 0, .int .i64 0, .int .i64 0, .int .i64 0, .int .i64 0, .int .i64 0, .int .i64 0, .int .i64 0, .int .i64 0, .int .i64 0] 29) = W at *
  go_enter Try.func10, Try.ntmps10
  go_wp2_with (first
    | (go_at_call 20; refine (unhide HT _).mono ?_; rintro e w1 ⟨rfl, hw1⟩; obtain rfl := hw1.symm; clear hw1)
    | ((with_reducible refine bw_store 29 info_rm 2 5 w.heap.size [.int .i64 0, .bool false, .bool false, .bool false, .bool false, .bool false, .bool false, .bool false, .bool false, .int .i64 0, .int .i64 0, .int .i64 0, .int .i64 0, .int .i64 0, .int .i64 0, .int .i64 0, .int .i64 0, .int .i64 0, .int .i64 0, .int .i64 0, .int .i64 0, .int .i64 0, .int .i64 0, .int .i64 0, .int .i64 0] (rmC T (List.replicate 8 false) (List.replicate 8 0) (List.replicate 8 0)) ?_ ?_ (unhide HZ) rfl rfl (rmC_one _ _ _ _) ?_); (focus rfl); (focus rfl); intro wz hRz htz; have HRZ := hide hRz; have HTZ := hide htz; clear hRz htz)
    | fail)
  exact bodyPost_ret (results_rm1 rfl (unhide HRZ) rfl) rfl ⟨rfl, tu_low (unhide HL) (unhide HTZ) (Nat.le_refl _)⟩
theorem ris_any (x : Int) (w : World) : Calls Try.prog 21 #[.int .i64 x] w fun e w' => e = .returned (.bool (nodeB x)) ∧ w' = w := by
  unfold nodeB
  by_cases h0 : 0 ≤ x
  · have d0 : decide (0 ≤ x) = true := decide_eq_true h0
    go_enter Try.func21, Try.ntmps21
    go_wp2
    go_ret
    exact ⟨ret_bool (by simp [h0]), rfl⟩
  · have d0 : decide (0 ≤ x) = false := decide_eq_false h0
    go_enter Try.func21, Try.ntmps21
    go_wp2
    go_ret
    exact ⟨ret_bool (by simp), rfl⟩
theorem rmoment_any (x : Int) (w : World) : Calls Try.prog 22 #[.int .i64 x] w fun e w' => e = .returned (.bool (timeB x)) ∧ w' = w := by
  unfold timeB
  by_cases h0 : 0 ≤ x
  · have d0 : decide (0 ≤ x) = true := decide_eq_true h0
    go_enter Try.func22, Try.ntmps22
    go_wp2
    go_ret
    exact ⟨ret_bool (by simp [h0]), rfl⟩
  · have d0 : decide (0 ≤ x) = false := decide_eq_false h0
    go_enter Try.func22, Try.ntmps22
    go_wp2
    go_ret
    exact ⟨ret_bool (by simp), rfl⟩
/-- The reference's members, boxed. -/
theorem rm_box (T : Int) (H : List Bool) (I N : List Int) (w : World) : BkA 29 (w.alloc (.cells (rmC T H I N).toArray 29)) w.heap.size (rmC T H I N) := bkA_new _ _ _
theorem rm_cells {T : Int} {H : List Bool} {I N : List Int} {w : World} {g : Nat} (hb : BkA 29 w g (rmC T H I N)) (h : Len8 H I N) {n : Nat} (hn : n < 8) : w.cell? ⟨g, 1 + n, none⟩ = some (.bool (H.getD n false)) ∧ w.cell? ⟨g, 9 + n, none⟩ = some (.int .i64 (I.getD n 0)) ∧ w.cell? ⟨g, 17 + n, none⟩ = some (.int .i64 (N.getD n 0)) ∧ w.cell? ⟨g, 0, none⟩ = some (.int .i64 T) :=
  ⟨hb.at _ (rmC_h h hn), hb.at _ (rmC_i h hn), hb.at _ (rmC_n h hn), hb.at 0 rfl⟩
set_option maxHeartbeats 2000000 in
theorem rminc_any (T : Int) (Z : List Int) (H : List Bool) (I N : List Int) (x : Int) (w : World) (h : Rm Z H I N) :
    Calls Try.prog 16 #[.agg (rmC T H I N).toArray, .int .i64 x] w fun e w' => e = .returned (.int .i64 (incO Z x)) ∧ Below w.heap.size w w' := by
  have hb := rm_box T H I N w
  have hlo := hide (alloc_low w (.cells (rmC T H I N).toArray 29))
  by_cases hx : nodeB x = true
  case neg =>
    have hx' : nodeB x = false := by simpa using hx
    rw [inc_out hx']
    clear hb h
    generalize hW : w.alloc (.cells (rmC T H I N).toArray 29) = W at *
    go_enter Try.func16, Try.ntmps16
    go_wp2_with (go_at_call 21; refine (ris_any _ _).mono ?_; rintro e w1 ⟨rfl, hw1⟩; obtain rfl := hw1.symm; clear hw1; rw [hx'])
    go_ret
    exact ⟨rfl, unhide hlo⟩
  obtain ⟨n, hn, rfl⟩ := node_nat hx
  have hn' : (n : Int) < 8 := by omega
  obtain ⟨c1, c9, -, -⟩ := rm_cells hb h.len hn
  rw [h.inc hn]
  clear hb h
  generalize hW : w.alloc (.cells (rmC T H I N).toArray 29) = W at *
  generalize I.getD n 0 = i at *
  cases hh : H.getD n false
  · rw [if_neg (by decide)]
    rw [hh] at c1
    clear hh
    go_enter Try.func16, Try.ntmps16
    go_wp2_with (go_at_call 21; refine (ris_any _ _).mono ?_; rintro e w1 ⟨rfl, hw1⟩; obtain rfl := hw1.symm; clear hw1; rw [hx])
    go_ret
    exact ⟨rfl, unhide hlo⟩
  · rw [if_pos rfl]
    rw [hh] at c1
    clear hh
    go_enter Try.func16, Try.ntmps16
    go_wp2_with (go_at_call 21; refine (ris_any _ _).mono ?_; rintro e w1 ⟨rfl, hw1⟩; obtain rfl := hw1.symm; clear hw1; rw [hx])
    go_ret
    exact ⟨rfl, unhide hlo⟩
end Go.Proofs.Ytnjoieboaioeiaa
