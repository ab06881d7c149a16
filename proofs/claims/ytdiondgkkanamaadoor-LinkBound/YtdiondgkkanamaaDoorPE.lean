/-
  Contracts of packet.Encode and bucketlineref07.Encode: for every packet.
-/
import Derived.Test.YtdiondgkkanamaaDoorG7
import Derived.Test.YtdiondgkkanamaaDoorPK
import Derived.Test.YtdiondgkkanamaaDoorG3
namespace Go.Proofs.YtdiondgkkanamaaDoor
open Go.RowKit Go.Sort
set_option linter.unusedVariables false
set_option maxRecDepth 4000

theorem enc_st (o l k z h : Int) (xs : List Nat) (s : ByteArray) :
    st (putL o 4) ++ st (putL l 4) ++ st (putL k 1) ++ st (putL z 1) ++ st (putL h 1) ++ st (beV xs) ++ s = st (encL o l k z h xs (tx s)) := by
  apply tx_inj
  rw [tx_st (encL_bytes _ _ _ _ _ _ _ (tx_bytes s))]
  simp only [tx_append, tx_st (putL_bytes _ _), tx_st (beV_bytes _), encL]
theorem put4_size (n : Int) : (st (putL n 4)).size = 4 := by rw [st_len, putL4, be_length]
theorem put1_size (n : Int) : (st (putL n 1)).size = 1 := by rw [st_len, putL1, be_length]
theorem ret_st {a b : ByteArray} {x : Int} (h : a = b) : Ending.returned (.tuple #[.string a, .int .i64 x]) = .returned (.tuple #[.string b, .int .i64 x]) := by rw [h]

set_option maxHeartbeats 1000000 in
theorem enc_no (o l k z h : Int) (a : Option Addr) (n c : Nat) (xs : List Nat) (s : ByteArray) (w : World) (hr : RowAt w a n xs) (hP : ¬ CheckP o l k z h xs s.size) :
    Calls Tryd.prog 42 #[.agg #[.int .i64 o, .int .i64 l, .int .i64 k, .int .i64 z, .int .i64 h, .slice a n c, .string s]] w fun e w' => e = .returned (.tuple #[.string ⟨#[]⟩, .int .i64 1]) ∧ Below w.heap.size w w' := by
  have B0 := hide (below_new w (.cells #[.int .i64 o, .int .i64 l, .int .i64 k, .int .i64 z, .int .i64 h, .slice a n c, .string s] 34))
  have HC := hide (check_any o l k z h a n c xs s _ (row_alloc hr (.cells #[.int .i64 o, .int .i64 l, .int .i64 k, .int .i64 z, .int .i64 h, .slice a n c, .string s] 34)) 1 (.inr ⟨hP, rfl⟩))
  clear hr hP
  go_enter Tryd.func42, Tryd.ntmps42
  go_wp2_with fail
  refine (unhide HC).mono ?_
  rintro e w1 ⟨rfl, hb1⟩
  have B1 := hide (below0 (unhide B0) hb1)
  clear hb1 HC B0
  go_wp2
  go_ret2
  exact ⟨rfl, unhide B1⟩

set_option maxHeartbeats 2000000 in
theorem enc_yes (o l k z h : Int) (a : Option Addr) (n c : Nat) (xs : List Nat) (s : ByteArray) (w : World) (hr : RowAt w a n xs) (hP : CheckP o l k z h xs s.size) :
    Calls Tryd.prog 42 #[.agg #[.int .i64 o, .int .i64 l, .int .i64 k, .int .i64 z, .int .i64 h, .slice a n c, .string s]] w fun e w' => e = .returned (.tuple #[.string (st (encL o l k z h xs (tx s))), .int .i64 0]) ∧ Below w.heap.size w w' := by
  have hn : n ≤ 2 := by have := valid_len hP.2.1; have := hr.1; omega
  have hs : s.size ≤ 64 := by have := hP.2.2.2; have := hP.1.1.2.2; omega
  have hv : (st (beV xs)).size ≤ 16 := by rw [st_len, beV_length, hr.1]; omega
  have B0 := hide (below_new w (.cells #[.int .i64 o, .int .i64 l, .int .i64 k, .int .i64 z, .int .i64 h, .slice a n c, .string s] 34))
  have HC := hide (check_any o l k z h a n c xs s _ (row_alloc hr (.cells #[.int .i64 o, .int .i64 l, .int .i64 k, .int .i64 z, .int .i64 h, .slice a n c, .string s] 34)) 0 (.inl ⟨hP, rfl⟩))
  have HX := hide (pk_new w (.int .i64 o) (.int .i64 l) (.int .i64 k) (.int .i64 z) (.int .i64 h) (.slice a n c) (.string s))
  have HR := hide (row_alloc hr (.cells #[.int .i64 o, .int .i64 l, .int .i64 k, .int .i64 z, .int .i64 h, .slice a n c, .string s] 34))
  have HT := hide (enc_st o l k z h xs s)
  have p1 := put4_size o
  have p2 := put4_size l
  have p3 := put1_size k
  have p4 := put1_size z
  have p5 := put1_size h
  have P1 := hide (fun w' => put_any o 4 w')
  have P2 := hide (fun w' => put_any l 4 w')
  have P3 := hide (fun w' => put_any k 1 w')
  have P4 := hide (fun w' => put_any z 1 w')
  have P5 := hide (fun w' => put_any h 1 w')
  have P6 := hide (fun w' hr' => putvec_any a n c xs w' hr' (by omega))
  generalize st (encL o l k z h xs (tx s)) = T at *
  generalize st (putL o 4) = t1 at *
  generalize st (putL l 4) = t2 at *
  generalize st (putL k 1) = t3 at *
  generalize st (putL z 1) = t4 at *
  generalize st (putL h 1) = t5 at *
  generalize st (beV xs) = t6 at *
  have q2 : (9223372036854775807 < t1.size + t2.size) = False := eq_false (by omega)
  have q3 : (9223372036854775807 < t1.size + t2.size + t3.size) = False := eq_false (by omega)
  have q4 : (9223372036854775807 < t1.size + t2.size + t3.size + t4.size) = False := eq_false (by omega)
  have q5 : (9223372036854775807 < t1.size + t2.size + t3.size + t4.size + t5.size) = False := eq_false (by omega)
  have q6 : (9223372036854775807 < t1.size + t2.size + t3.size + t4.size + t5.size + t6.size) = False := eq_false (by omega)
  have q7 : (9223372036854775807 < t1.size + t2.size + t3.size + t4.size + t5.size + t6.size + s.size) = False := eq_false (by omega)
  clear hr hP p1 p2 p3 p4 p5 hn hs hv
  go_enter Tryd.func42, Tryd.ntmps42
  go_wp2_with fail
  refine (unhide HC).mono ?_
  rintro e w1 ⟨rfl, hb1⟩
  have HX1 := hide ((unhide HX).below hb1)
  have HR1 := hide ((unhide HR).below hb1)
  have B1 := hide (below0 (unhide B0) hb1)
  clear hb1 HC B0 HX HR
  have k0 := cell_regrown (unhide HX1).1
  have k1 := cell_regrown (unhide HX1).2.1
  have k2 := cell_regrown (unhide HX1).2.2.1
  have k3 := cell_regrown (unhide HX1).2.2.2.1
  have k4 := cell_regrown (unhide HX1).2.2.2.2.1
  have c1 := quietB (W := w1) (fun w' hb => unhide P1 w')
  have c2 := quietB (W := w1) (fun w' hb => unhide P2 w')
  have c3 := quietB (W := w1) (fun w' hb => unhide P3 w')
  have c4 := quietB (W := w1) (fun w' hb => unhide P4 w')
  have c5 := quietB (W := w1) (fun w' hb => unhide P5 w')
  go_wp2_with fail
  refine wp_region_quiet_below (by kernel_rfl) (by kernel_rfl) ?_
  repeat (with_reducible refine wpQuiet_step (fun K hK => ?_); go_simp; first | (with_reducible refine hK _ ?_; clear hK K) | (apply Exists.intro; apply And.intro; (intro _; go_at_call 29; first | with_reducible exact c1 _ _ | with_reducible exact c2 _ _ | with_reducible exact c3 _ _ | with_reducible exact c4 _ _ | with_reducible exact c5 _ _); with_reducible refine hK _ ?_; clear hK K))
  refine wpQuiet_nil ?_
  intro w2 hw2
  obtain ⟨⟨dq, osq⟩, hw2⟩ := hw2
  have hb2 : Below w1.heap.size w1 w2 := by rw [hw2]; exact below_regrown _ dq osq
  clear hw2 k0 k1 k2 k3 k4 c1 c2 c3 c4 c5 dq osq
  have HX2 := hide ((unhide HX1).below hb2)
  have HR2 := hide ((unhide HR1).below hb2)
  have B2 := hide (below0 (unhide B1) hb2)
  clear hb2 HX1 HR1 B1
  have k5 := cell_regrown (unhide HX2).2.2.2.2.2.1
  have k6 := cell_regrown (unhide HX2).2.2.2.2.2.2
  have c6 := quietB (W := w2) (fun w' hb => unhide P6 w' ((unhide HR2).below hb))
  go_wp2_with fail
  refine wp_region_quiet_below (by kernel_rfl) (by kernel_rfl) ?_
  repeat (with_reducible refine wpQuiet_step (fun K hK => ?_); go_simp; first | (with_reducible refine hK _ ?_; clear hK K) | (apply Exists.intro; apply And.intro; (intro _; go_at_call 52; exact c6 _ _); with_reducible refine hK _ ?_; clear hK K))
  refine wpQuiet_nil ?_
  intro w3 hw3
  obtain ⟨⟨dq, osq⟩, hw3⟩ := hw3
  have hb3 : Below w2.heap.size w2 w3 := by rw [hw3]; exact below_regrown _ dq osq
  clear hw3 k5 k6 c6 dq osq
  have B3 := hide (below0 (unhide B2) hb3)
  clear hb3
  go_wp2
  go_ret2
  exact ⟨ret_st (unhide HT), unhide B3⟩


end Go.Proofs.YtdiondgkkanamaaDoor
