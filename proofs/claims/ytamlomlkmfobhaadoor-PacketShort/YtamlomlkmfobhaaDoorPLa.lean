/-
  The walks of PacketChecks and PacketEncodes: every packet.
-/
import Derived.Test.YtamlomlkmfobhaaDoorPW
namespace Go.Proofs.YtamlomlkmfobhaaDoor
open Go.RowKit Go.Sort
set_option linter.unusedVariables false

theorem tl_eq (s : ByteArray) : (s.toList == s.toList) = true := by simp

set_option maxHeartbeats 2000000 in
theorem encodes_walk (o l k z h : Int) (a : Option Addr) (n c : Nat) (xs : List Nat) (s : ByteArray) (w : World) (ht : Tab w) (hr : RowAt w a n xs) :
    Calls Tryd.prog 4 #[.agg #[.int .i64 o, .int .i64 l, .int .i64 k, .int .i64 z, .int .i64 h, .slice a n c, .string s]] w fun e w' => e = .returned (.bool true) ∧ Below w.heap.size w w' := by
  have HT := hide ht
  obtain ⟨b, hb⟩ := tb_ex (n ≤ 100 ∧ s.size ≤ 10000)
  have HB := hide hb
  have B0 := hide (below_new w (.cells #[.int .i64 o, .int .i64 l, .int .i64 k, .int .i64 z, .int .i64 h, .slice a n c, .string s] 26))
  have X0 := hide (pk_new w (.int .i64 o) (.int .i64 l) (.int .i64 k) (.int .i64 z) (.int .i64 h) (.slice a n c) (.string s))
  have R0 := hide (row_alloc hr (.cells #[.int .i64 o, .int .i64 l, .int .i64 k, .int .i64 z, .int .i64 h, .slice a n c, .string s] 26))
  clear ht hr hb
  go_enter Tryd.func4, Tryd.ntmps4
  go_wp2_with fail
  refine (pfew_any _ _ _ _ _ a n c s _ b (unhide HB)).mono ?_
  rintro e w1 ⟨rfl, hb1⟩
  have B1 := hide (below0 (unhide B0) hb1)
  have X1 := hide ((unhide X0).below hb1)
  have R1 := hide ((unhide R0).below hb1)
  clear hb1 B0 X0 R0
  cases b
  · go_wp2_with fail
    refine (awake_any _ ((unhide HT).below (unhide B1))).mono ?_
    rintro e wz ⟨rfl, hbz⟩
    have BZ := hide (below0 (unhide B1) hbz)
    clear hbz
    go_wp2
    go_ret
    exact ⟨rfl, unhide BZ⟩
  · obtain ⟨j0, j1, j2, j3, j4, j5, j6⟩ := (unhide X1)
    by_cases hP : CheckP o l k z h xs s.size
    · have HP := hide hP
      clear hP
      have E1 := hide (enc_yes o l k z h a n c xs s w1 (unhide R1) (unhide HP))
      have E2 := hide (fun w' hr' => renc_yes o l k z h a n c xs s w' hr' (unhide HP))
      generalize st (encL o l k z h xs (tx s)) = T at *
      have hq := tl_eq T
      go_wp2_with fail
      refine (unhide E1).mono ?_
      rintro e w2 ⟨rfl, hb2⟩
      obtain ⟨k0, k1, k2, k3, k4, k5, k6⟩ := (unhide X1).below hb2
      have B2 := hide (below0 (unhide B1) hb2)
      have R2 := hide ((unhide R1).below hb2)
      clear hb2
      go_wp2_with fail
      refine (unhide E2 _ (unhide R2)).mono ?_
      rintro e w3 ⟨rfl, hb3⟩
      have B3 := hide (below0 (unhide B2) hb3)
      clear hb3 k0 k1 k2 k3 k4 k5 k6
      go_wp2_with fail
      refine (awake_any _ ((unhide HT).below (unhide B3))).mono ?_
      rintro e wz ⟨rfl, hbz⟩
      have BZ := hide (below0 (unhide B3) hbz)
      clear hbz
      go_wp2
      go_ret
      exact ⟨rfl, unhide BZ⟩
    · have HP := hide hP
      clear hP
      go_wp2_with fail
      refine (enc_no o l k z h a n c xs s w1 (unhide R1) (unhide HP)).mono ?_
      rintro e w2 ⟨rfl, hb2⟩
      obtain ⟨k0, k1, k2, k3, k4, k5, k6⟩ := (unhide X1).below hb2
      have B2 := hide (below0 (unhide B1) hb2)
      have R2 := hide ((unhide R1).below hb2)
      clear hb2
      go_wp2_with fail
      refine (renc_no o l k z h a n c xs s _ (unhide R2) (unhide HP)).mono ?_
      rintro e w3 ⟨rfl, hb3⟩
      have B3 := hide (below0 (unhide B2) hb3)
      clear hb3 k0 k1 k2 k3 k4 k5 k6
      go_wp2_with fail
      refine (awake_any _ ((unhide HT).below (unhide B3))).mono ?_
      rintro e wz ⟨rfl, hbz⟩
      have BZ := hide (below0 (unhide B3) hbz)
      clear hbz
      go_wp2
      go_ret
      exact ⟨rfl, unhide BZ⟩

set_option maxHeartbeats 4000000 in
theorem checks_walk (o l k z h : Int) (a : Option Addr) (n c : Nat) (xs : List Nat) (s : ByteArray) (o' l' k' z' h' : Int) (a' : Option Addr) (m c' : Nat) (ys : List Nat) (t : ByteArray) (w : World) (ht : Tab w) (hr : RowAt w a n xs) (hr' : RowAt w a' m ys) :
    Calls Tryd.prog 3 #[.agg #[.int .i64 o, .int .i64 l, .int .i64 k, .int .i64 z, .int .i64 h, .slice a n c, .string s], .agg #[.int .i64 o', .int .i64 l', .int .i64 k', .int .i64 z', .int .i64 h', .slice a' m c', .string t]] w fun e w' => e = .returned (.bool true) ∧ Below w.heap.size w w' := by
  have HT := hide ht
  obtain ⟨b, hb⟩ := tb_ex (n ≤ 100 ∧ s.size ≤ 10000)
  obtain ⟨b', hb'⟩ := tb_ex (m ≤ 100 ∧ t.size ≤ 10000)
  have HB := hide hb
  have HB' := hide hb'
  have B0 := hide (below2' w (.cells #[.int .i64 o, .int .i64 l, .int .i64 k, .int .i64 z, .int .i64 h, .slice a n c, .string s] 26) (.cells #[.int .i64 o', .int .i64 l', .int .i64 k', .int .i64 z', .int .i64 h', .slice a' m c', .string t] 26))
  have X0 := hide ((pk_new w (.int .i64 o) (.int .i64 l) (.int .i64 k) (.int .i64 z) (.int .i64 h) (.slice a n c) (.string s)).alloc (.cells #[.int .i64 o', .int .i64 l', .int .i64 k', .int .i64 z', .int .i64 h', .slice a' m c', .string t] 26))
  have y0 := pk_new (w.alloc (.cells #[.int .i64 o, .int .i64 l, .int .i64 k, .int .i64 z, .int .i64 h, .slice a n c, .string s] 26)) (.int .i64 o') (.int .i64 l') (.int .i64 k') (.int .i64 z') (.int .i64 h') (.slice a' m c') (.string t)
  rw [alloc_size] at y0
  have Y0 := hide y0
  have R0 := hide (hr.below (unhide B0))
  have S0 := hide (hr'.below (unhide B0))
  clear ht hr hr' hb hb' y0
  go_enter Tryd.func3, Tryd.ntmps3
  go_wp2_with fail
  refine (pfew_any _ _ _ _ _ a n c s _ b (unhide HB)).mono ?_
  rintro e w1 ⟨rfl, hb1⟩
  have B1 := hide (below0 (unhide B0) hb1)
  have X1 := hide ((unhide X0).below hb1)
  have Y1 := hide ((unhide Y0).below hb1)
  have R1 := hide ((unhide R0).below hb1)
  have S1 := hide ((unhide S0).below hb1)
  clear hb1 B0 X0 Y0 R0 S0
  cases b
  · go_wp2_with fail
    refine (awake_any _ ((unhide HT).below (unhide B1))).mono ?_
    rintro e wz ⟨rfl, hbz⟩
    have BZ := hide (below0 (unhide B1) hbz)
    clear hbz
    go_wp2
    go_ret
    exact ⟨rfl, unhide BZ⟩
  · obtain ⟨j0, j1, j2, j3, j4, j5, j6⟩ := (unhide Y1)
    go_wp2_with fail
    refine (pfew_any _ _ _ _ _ a' m c' t _ b' (unhide HB')).mono ?_
    rintro e w2 ⟨rfl, hb2⟩
    have B2 := hide (below0 (unhide B1) hb2)
    have x2 := (unhide X1).below hb2
    have y2 := (unhide Y1).below hb2
    have R2 := hide ((unhide R1).below hb2)
    have S2 := hide ((unhide S1).below hb2)
    clear hb2 B1 X1 Y1 R1 S1 j0 j1 j2 j3 j4 j5 j6
    cases b'
    · clear x2 y2
      go_wp2_with fail
      refine (awake_any _ ((unhide HT).below (unhide B2))).mono ?_
      rintro e wz ⟨rfl, hbz⟩
      have BZ := hide (below0 (unhide B2) hbz)
      clear hbz
      go_wp2
      go_ret
      exact ⟨rfl, unhide BZ⟩
    · obtain ⟨x20, x21, x22, x23, x24, x25, x26⟩ := x2
      obtain ⟨y20, y21, y22, y23, y24, y25, y26⟩ := y2
      have k10 := cell_regrown x20
      have k20 := cell_regrown y20
      have k11 := cell_regrown x21
      have k21 := cell_regrown y21
      have k12 := cell_regrown x22
      have k22 := cell_regrown y22
      have k13 := cell_regrown x23
      have k23 := cell_regrown y23
      have k14 := cell_regrown x24
      have k24 := cell_regrown y24
      have k15 := cell_regrown x25
      have k25 := cell_regrown y25
      have k16 := cell_regrown x26
      have k26 := cell_regrown y26
      have hn : n ≤ 1048576 := by have := (unhide HB).1 rfl; omega
      have hm : m ≤ 1048576 := by have := (unhide HB').1 rfl; omega
      obtain ⟨ck, hck⟩ := ck_ex (CheckP o l k z h xs s.size)
      obtain ⟨sb, hsb⟩ := tb_ex (SameP o l k z h xs s o' l' k' z' h' ys t)
      have c1 := quietB (W := w2) (fun w' hb => check_any o l k z h a n c xs s w' ((unhide R2).below hb) ck hck)
      have c2 := quietB (W := w2) (fun w' hb => rcheck_any o l k z h a n c xs s w' ((unhide R2).below hb) ck hck)
      have c3 := quietB (W := w2) (fun w' hb => psame_any o l k z h a n c xs s o' l' k' z' h' a' m c' ys t w' ((unhide HT).below (below0 (unhide B2) hb)) ((unhide R2).below hb) ((unhide S2).below hb) hn hm sb hsb)
      have c4 := quietB (W := w2) (fun w' hb => rpsame_any o l k z h a n c xs s o' l' k' z' h' a' m c' ys t w' ((unhide R2).below hb) ((unhide S2).below hb) hn hm sb hsb)
      have c5 := quietB (W := w2) (fun w' hb => awake_any w' ((unhide HT).below (below0 (unhide B2) hb)))
      clear hck hsb hn hm x20 x21 x22 x23 x24 x25 x26 y20 y21 y22 y23 y24 y25 y26
      go_wp2_with fail
      refine wp_region_quiet_below (by kernel_rfl) (by kernel_rfl) ?_
      repeat (with_reducible refine wpQuiet_step (fun K hK => ?_); go_simp; first | (with_reducible refine hK _ ?_; clear hK K) | (apply Exists.intro; apply And.intro; (intro _; first | (go_at_call 10; exact c1 _ _) | (go_at_call 11; exact c2 _ _) | (go_at_call 12; exact c3 _ _) | (go_at_call 13; exact c4 _ _) | (go_at_call 9; exact c5 _ _)); with_reducible refine hK _ ?_; clear hK K))
      refine wpQuiet_nil ?_
      intro w3 hw3
      obtain ⟨⟨dq, osq⟩, hw3⟩ := hw3
      have hb3 : Below w2.heap.size w2 w3 := by rw [hw3]; exact below_regrown _ dq osq
      have B3 := hide (below0 (unhide B2) hb3)
      clear hw3 hb3 dq osq
      go_wp2
      go_ret
      exact ⟨rfl, unhide B3⟩
end Go.Proofs.YtamlomlkmfobhaaDoor
