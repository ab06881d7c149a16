/-
  Contracts of frame.written and frame.Encode: for every frame whose row has at most 2^20 words.
-/
import Derived.Test.YtdiondgkkanamaaDoorQA
import Derived.Test.YtdiondgkkanamaaDoorPE
namespace Go.Proofs.YtdiondgkkanamaaDoor
open Go.RowKit Go.Sort
set_option linter.unusedVariables false
set_option maxRecDepth 4000

theorem fenc_st (kd fr ic : Int) (B : ByteArray) : st (putL kd 1) ++ st (putL fr 1) ++ st (putL ic 4) ++ B = st (fencL kd fr ic (tx B)) := by
  apply tx_inj
  rw [tx_st (fencL_bytes _ _ _ _ (tx_bytes B))]
  simp only [tx_append, tx_st (putL_bytes _ _), fencL]
theorem body_le {kd o l k z h : Int} {xs : List Nat} {s : ByteArray} (hP : FitP kd o l k z h xs s) : (bodyS kd o l k z h xs s).size ≤ 91 := by
  rcases hP with ⟨rfl, _⟩ | ⟨rfl, hP⟩
  · rw [body_one]
    decide
  · rw [body_two, enc_size]
    have h1 := valid_len hP.2.1
    have h2 := hP.2.2.2
    have h3 := hP.1.1.2.2
    omega

set_option maxHeartbeats 1000000 in
theorem written_any (kd o l k z h : Int) (a : Option Addr) (n c : Nat) (xs : List Nat) (s : ByteArray) (w : World) (hr : RowAt w a n xs) (hP : FitP kd o l k z h xs s) :
    Calls Tryd.prog 31 #[bodyV kd (.int .i64 o) (.int .i64 l) (.int .i64 k) (.int .i64 z) (.int .i64 h) (.slice a n c) (.string s)] w fun e w' => e = .returned (.string (bodyS kd o l k z h xs s)) ∧ Below w.heap.size w w' := by
  rcases hP with ⟨rfl, _⟩ | ⟨rfl, hP⟩
  · rw [bodyV1, body_one]
    have m1 := as_hd
    go_enter Tryd.func31, Tryd.ntmps31
    go_wp2
    go_ret
    exact ⟨rfl, Below.refl _ _⟩
  · rw [bodyV2, body_two]
    have HE := hide (enc_yes o l k z h a n c xs s _ (row_alloc hr (.cells #[.int .i64 o, .int .i64 l, .int .i64 k, .int .i64 z, .int .i64 h, .slice a n c, .string s] 77)) hP)
    have B0 := hide (below_new w (.cells #[.int .i64 o, .int .i64 l, .int .i64 k, .int .i64 z, .int .i64 h, .slice a n c, .string s] 77))
    generalize st (encL o l k z h xs (tx s)) = T at *
    have m1 := as_dd
    clear hr hP
    go_enter Tryd.func31, Tryd.ntmps31
    go_wp2_with fail
    refine (unhide HE).mono ?_
    rintro e w1 ⟨rfl, hb1⟩
    have B1 := hide (below0 (unhide B0) hb1)
    clear hb1
    go_wp2
    go_ret
    exact ⟨rfl, unhide B1⟩

set_option maxHeartbeats 1000000 in
theorem fenc_no (kd fr ic o l k z h : Int) (a : Option Addr) (n c : Nat) (xs : List Nat) (s : ByteArray) (w : World) (ht : Tab w) (hr : RowAt w a n xs) (hn : n ≤ 1048576) (hP : ¬ FChkP kd fr ic o l k z h xs s) :
    Calls Tryd.prog 18 #[.agg #[.int .i64 kd, .int .i64 fr, .int .i64 ic, .int .i64 o, .int .i64 l, .int .i64 k, .int .i64 z, .int .i64 h, .slice a n c, .string s]] w fun e w' => e = .returned (.tuple #[.string ⟨#[]⟩, .int .i64 1]) ∧ Below w.heap.size w w' := by
  have B0 := hide (below_new w (.cells #[.int .i64 kd, .int .i64 fr, .int .i64 ic, .int .i64 o, .int .i64 l, .int .i64 k, .int .i64 z, .int .i64 h, .slice a n c, .string s] 36))
  have HC := hide (fcheck_any kd fr ic o l k z h a n c xs s _ (ht.below (unhide B0)) (hr.below (unhide B0)) hn 1 (.inr ⟨hP, rfl⟩))
  clear hr hP ht hn
  go_enter Tryd.func18, Tryd.ntmps18
  go_wp2_with fail
  refine (unhide HC).mono ?_
  rintro e w1 ⟨rfl, hb1⟩
  have B1 := hide (below0 (unhide B0) hb1)
  clear hb1 HC B0
  go_wp2
  go_ret2
  exact ⟨rfl, unhide B1⟩

set_option maxHeartbeats 2000000 in
theorem fenc_yes (kd fr ic o l k z h : Int) (a : Option Addr) (n c : Nat) (xs : List Nat) (s : ByteArray) (w : World) (ht : Tab w) (hr : RowAt w a n xs) (hn : n ≤ 1048576) (hP : FChkP kd fr ic o l k z h xs s) :
    Calls Tryd.prog 18 #[.agg #[.int .i64 kd, .int .i64 fr, .int .i64 ic, .int .i64 o, .int .i64 l, .int .i64 k, .int .i64 z, .int .i64 h, .slice a n c, .string s]] w fun e w' => e = .returned (.tuple #[.string (fencS kd fr ic o l k z h xs s), .int .i64 0]) ∧ Below w.heap.size w w' := by
  have B0 := hide (below_new w (.cells #[.int .i64 kd, .int .i64 fr, .int .i64 ic, .int .i64 o, .int .i64 l, .int .i64 k, .int .i64 z, .int .i64 h, .slice a n c, .string s] 36))
  have HC := hide (fcheck_any kd fr ic o l k z h a n c xs s _ (ht.below (unhide B0)) (hr.below (unhide B0)) hn 0 (.inl ⟨hP, rfl⟩))
  have HX := hide (fr_new w (.int .i64 kd) (.int .i64 fr) (.int .i64 ic) (.int .i64 o) (.int .i64 l) (.int .i64 k) (.int .i64 z) (.int .i64 h) (.slice a n c) (.string s))
  have HR := hide (hr.below (unhide B0))
  have hT := fenc_st kd fr ic (bodyS kd o l k z h xs s)
  have p1 := put1_size kd
  have p2 := put1_size fr
  have p3 := put4_size ic
  have p4 := body_le hP.2.2
  have P1 := hide (fun w' => put_any kd 1 w')
  have P2 := hide (fun w' => put_any fr 1 w')
  have P3 := hide (fun w' => put_any ic 4 w')
  have P4 := hide (fun w' hr' => written_any kd o l k z h a n c xs s w' hr' hP.2.2)
  have P5 := hide (fun wx => body_any kd (.int .i64 fr) (.int .i64 ic) (.int .i64 o) (.int .i64 l) (.int .i64 k) (.int .i64 z) (.int .i64 h) (.slice a n c) (.string s) wx)
  generalize bodyV kd (.int .i64 o) (.int .i64 l) (.int .i64 k) (.int .i64 z) (.int .i64 h) (.slice a n c) (.string s) = V at *
  unfold fencS
  rw [← hT]
  clear hT
  generalize bodyS kd o l k z h xs s = t4 at *
  generalize st (putL kd 1) = t1 at *
  generalize st (putL fr 1) = t2 at *
  generalize st (putL ic 4) = t3 at *
  have P6 := hide (fun wx => cseal_any (t1 ++ t2 ++ t3 ++ t4) wx (by simp only [ByteArray.size_append]; omega))
  generalize sealS (t1 ++ t2 ++ t3 ++ t4) = T at *
  have q2 : (9223372036854775807 < t1.size + t2.size) = False := eq_false (by omega)
  have q3 : (9223372036854775807 < t1.size + t2.size + t3.size) = False := eq_false (by omega)
  have q4 : (9223372036854775807 < t1.size + t2.size + t3.size + t4.size) = False := eq_false (by omega)
  clear hr hP p1 p2 p3 p4 hn ht
  go_enter Tryd.func18, Tryd.ntmps18
  go_wp2_with fail
  refine (unhide HC).mono ?_
  rintro e w1 ⟨rfl, hb1⟩
  have HX1 := hide ((unhide HX).below hb1)
  have HR1 := hide ((unhide HR).below hb1)
  have B1 := hide (below0 (unhide B0) hb1)
  clear hb1 HC B0 HX HR
  have k0 := cell_regrown (unhide HX1).1.1
  have k1 := cell_regrown (unhide HX1).1.2.1
  have k2 := cell_regrown (unhide HX1).1.2.2
  have c1 := quietB (W := w1) (fun w' hb => unhide P1 w')
  have c2 := quietB (W := w1) (fun w' hb => unhide P2 w')
  have c3 := quietB (W := w1) (fun w' hb => unhide P3 w')
  go_wp2_with fail
  refine wp_region_quiet_below (by kernel_rfl) (by kernel_rfl) ?_
  repeat (with_reducible refine wpQuiet_step (fun K hK => ?_); go_simp; first | (with_reducible refine hK _ ?_; clear hK K) | (apply Exists.intro; apply And.intro; (intro _; go_at_call 29; first | with_reducible exact c1 _ _ | with_reducible exact c2 _ _ | with_reducible exact c3 _ _); with_reducible refine hK _ ?_; clear hK K))
  refine wpQuiet_nil ?_
  intro w2 hw2
  obtain ⟨⟨dq, osq⟩, hw2⟩ := hw2
  have hb2 : Below w1.heap.size w1 w2 := by rw [hw2]; exact below_regrown _ dq osq
  clear hw2 k0 k1 k2 c1 c2 c3 dq osq
  have HX2 := hide ((unhide HX1).below hb2)
  have HR2 := hide ((unhide HR1).below hb2)
  have B2 := hide (below0 (unhide B1) hb2)
  clear hb2 HX1 HR1 B1
  obtain ⟨⟨g0, g1, g2⟩, g3, g4, g5, g6, g7, g8, g9⟩ := unhide HX2
  go_wp2_with fail
  refine (unhide P5 _).mono ?_
  rintro e w3 ⟨rfl, hb3⟩
  have HR3 := hide ((unhide HR2).below hb3)
  have B3 := hide (below0 (unhide B2) hb3)
  clear hb3 g0 g1 g2 g3 g4 g5 g6 g7 g8 g9
  go_wp2_with fail
  refine (unhide P4 _ (unhide HR3)).mono ?_
  rintro e w4 ⟨rfl, hb4⟩
  have B4 := hide (below0 (unhide B3) hb4)
  clear hb4
  go_wp2_with fail
  refine (unhide P6 _).mono ?_
  rintro e w5 ⟨rfl, hb5⟩
  have B5 := hide (below0 (unhide B4) hb5)
  clear hb5
  go_wp2
  go_ret2
  exact ⟨rfl, unhide B5⟩
end Go.Proofs.YtdiondgkkanamaaDoor
