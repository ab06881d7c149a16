/-
  The walks of PacketDecodes, PacketBack and PacketShort: every packet, every text of at most 2^47 - 4096 bytes.
-/
import Derived.Test.YtamlomlkmfobhaaDoorPLa
namespace Go.Proofs.YtamlomlkmfobhaaDoor
open Go.RowKit Go.Sort
set_option linter.unusedVariables false

theorem DecP.len {s : ByteArray} {o l k z h : Int} {xs : List Nat} {t : ByteArray} {en : Nat} (hd : DecP s o l k z h xs t en) : xs.length ≤ 2 := by
  rcases hd.err with ⟨_, _, hg, hf⟩ | ⟨_, hz⟩
  · rw [hf.2.2.2.2.2.1]
    exact valid_len hg.2.1
  · rw [hz.2.2.2.2.2.1]
    exact Nat.zero_le _
theorem same_self (o l k z h : Int) (xs : List Nat) (t : ByteArray) : TB true (SameP o l k z h xs t o l k z h xs t) := ⟨fun _ => ⟨⟨⟨rfl, rfl, rfl, rfl, rfl⟩, rfl⟩, cnt_of_zero _ (xorL_self_zero _)⟩, fun _ => rfl⟩

set_option maxHeartbeats 2000000 in
theorem decodes_walk (s : ByteArray) (w : World) (ht : Tab w) (hs : s.size ≤ 140737488351232) :
    Calls Tryd.prog 5 #[.string s] w fun e w' => e = .returned (.bool true) ∧ Below w.heap.size w w' := by
  have HT := hide ht
  clear ht
  go_enter Tryd.func5, Tryd.ntmps5
  go_wp2_with fail
  refine (dec_any s _ hs).mono ?_
  rintro e w1 ⟨o, l, k, z, h, a, n, c, xs, t, en, rfl, hr1, hd1, hb1⟩
  have B1 := hide hb1
  have D1 := hide hd1
  have R1 := hide (row_alloc hr1 (.cells #[.int .i64 o, .int .i64 l, .int .i64 k, .int .i64 z, .int .i64 h, .slice a n c, .string t] 26))
  have P1 := hide (pkb_new w1 (.int .i64 o) (.int .i64 l) (.int .i64 k) (.int .i64 z) (.int .i64 h) (.slice a n c) (.string t))
  have B1' := hide (below0 (unhide B1) (below_new w1 (.cells #[.int .i64 o, .int .i64 l, .int .i64 k, .int .i64 z, .int .i64 h, .slice a n c, .string t] 26)))
  clear hr1 hd1 hb1 B1
  go_wp2_with fail
  refine (rdec_any s _ hs).mono ?_
  rintro e w2 ⟨o', l', k', z', h', a', m, c', ys, t', en', rfl, hr2, hd2, hb2⟩
  obtain ⟨⟨rfl, rfl, rfl, rfl, rfl⟩, rfl, rfl, rfl⟩ := (unhide D1).uniq hd2
  have R2 := hide ((unhide R1).below hb2)
  obtain rfl : m = n := by rw [← hr2.1, ← (unhide R2).1]
  have hn : m ≤ 1048576 := by have := (unhide D1).len; have := hr2.1; omega
  have P2 := hide ((unhide P1).below hb2)
  have B2 := hide (below0 (unhide B1') hb2)
  have B3 := hide (below0 (unhide B2) (below_new w2 (.cells #[.int .i64 o, .int .i64 l, .int .i64 k, .int .i64 z, .int .i64 h, .slice a' m c', .string t] 26)))
  have R3 := hide (row_alloc (unhide R2) (.cells #[.int .i64 o, .int .i64 l, .int .i64 k, .int .i64 z, .int .i64 h, .slice a' m c', .string t] 26))
  have S3 := hide (row_alloc hr2 (.cells #[.int .i64 o, .int .i64 l, .int .i64 k, .int .i64 z, .int .i64 h, .slice a' m c', .string t] 26))
  have P3 := hide ((unhide P2).below (below_new w2 (.cells #[.int .i64 o, .int .i64 l, .int .i64 k, .int .i64 z, .int .i64 h, .slice a' m c', .string t] 26)))
  have Q3 := hide (pkb_new w2 (.int .i64 o) (.int .i64 l) (.int .i64 k) (.int .i64 z) (.int .i64 h) (.slice a' m c') (.string t))
  generalize w1.heap.size = g1 at *
  obtain ⟨j0, j1, j2, j3, j4, j5, j6⟩ := (unhide P2).at
  obtain ⟨i0, i1, i2, i3, i4, i5, i6⟩ := (unhide P3).at
  clear hr2 hd2 hb2 R1 P1 B1' R2
  go_wp2_with fail
  refine (rpsame_any o l k z h a m c xs t o l k z h a' m c' xs t _ (unhide R3) (unhide S3) hn hn true (same_self o l k z h xs t)).mono ?_
  rintro e w4 ⟨rfl, hb4⟩
  have B4 := hide (below0 (unhide B3) hb4)
  have x4 := (unhide P3).below hb4
  have y4 := (unhide Q3).below hb4
  obtain ⟨x40, x41, x42, x43, x44, x45, x46⟩ := x4.at
  obtain ⟨y40, y41, y42, y43, y44, y45, y46⟩ := y4.at
  clear hb4 x4 y4 j0 j1 j2 j3 j4 j5 j6 i0 i1 i2 i3 i4 i5 i6
  generalize w2.heap.size = g2 at *
  go_wp2_with fail
  refine (awake_any _ ((unhide HT).below (unhide B4))).mono ?_
  rintro e wz ⟨rfl, hbz⟩
  have BZ := hide (below0 (unhide B4) hbz)
  clear hbz
  go_wp2
  go_ret
  exact ⟨rfl, unhide BZ⟩

set_option maxHeartbeats 4000000 in
theorem back_walk (o l k z h : Int) (a : Option Addr) (n c : Nat) (xs : List Nat) (t : ByteArray) (s : ByteArray) (w : World) (ht : Tab w) (hr : RowAt w a n xs) (hs : s.size ≤ 140737488351232) :
    Calls Tryd.prog 6 #[.agg #[.int .i64 o, .int .i64 l, .int .i64 k, .int .i64 z, .int .i64 h, .slice a n c, .string t], .string s] w fun e w' => e = .returned (.bool true) ∧ Below w.heap.size w w' := by
  have HT := hide ht
  obtain ⟨b, hb⟩ := tb_ex (n ≤ 100 ∧ t.size ≤ 10000)
  have HB := hide hb
  have B0 := hide (below_new w (.cells #[.int .i64 o, .int .i64 l, .int .i64 k, .int .i64 z, .int .i64 h, .slice a n c, .string t] 26))
  have X0 := hide (pkb_new w (.int .i64 o) (.int .i64 l) (.int .i64 k) (.int .i64 z) (.int .i64 h) (.slice a n c) (.string t))
  have R0 := hide (row_alloc hr (.cells #[.int .i64 o, .int .i64 l, .int .i64 k, .int .i64 z, .int .i64 h, .slice a n c, .string t] 26))
  have HX := hide hr.2.1
  clear ht hr hb
  go_enter Tryd.func6, Tryd.ntmps6
  go_wp2_with fail
  refine (pfew_any _ _ _ _ _ a n c t _ b (unhide HB)).mono ?_
  rintro e w1 ⟨rfl, hb1⟩
  have B1 := hide (below0 (unhide B0) hb1)
  have X1 := hide ((unhide X0).below hb1)
  have R1 := hide ((unhide R0).below hb1)
  clear hb1 B0 X0 R0
  cases b
  · go_wp2_with fail
    refine (awake_any _ ((unhide HT).below (unhide B1))).mono ?_
    rintro e wz ⟨rfl, hbz⟩
    have BZ := hide (below0 (unhide B1) hbz)
    clear hbz
    go_wp2
    go_ret
    exact ⟨rfl, unhide BZ⟩
  · obtain ⟨j0, j1, j2, j3, j4, j5, j6⟩ := (unhide X1).at
    have hn : n ≤ 1048576 := by have := (unhide HB).1 rfl; omega
    by_cases hP : CheckP o l k z h xs t.size
    · have hd := dec_enc (unhide HX) hP
      have E1 := hide (enc_yes o l k z h a n c xs t w1 (unhide R1) hP)
      have HD := hide (fun wx => dec_any (st (encL o l k z h xs (tx t))) wx (by have := valid_len hP.2.1; have := hP.2.2.2; have := hP.1.1.2.2; rw [enc_size]; omega))
      have HU : Hid (∀ o' l' k' z' h' ys t' en, DecP (st (encL o l k z h xs (tx t))) o' l' k' z' h' ys t' en → (o' = o ∧ l' = l ∧ k' = k ∧ z' = z ∧ h' = h) ∧ ys = xs ∧ t' = t ∧ en = 0) :=
        hide (fun o' l' k' z' h' ys t' en hq => hq.uniq (.inr (.inr ⟨hd.1, hd.2.1, rfl, hd.2.2⟩)))
      generalize st (encL o l k z h xs (tx t)) = T at *
      clear hd hP
      go_wp2_with fail
      refine (unhide E1).mono ?_
      rintro e w2 ⟨rfl, hb2⟩
      have B2 := hide (below0 (unhide B1) hb2)
      have R2 := hide ((unhide R1).below hb2)
      have X2 := hide ((unhide X1).below hb2)
      clear hb2 B1 R1 X1 j0 j1 j2 j3 j4 j5 j6 E1
      go_wp2_with fail
      refine (unhide HD _).mono ?_
      rintro e w3 ⟨o', l', k', z', h', a', m, c', ys, t', en, rfl, hr3, hd3, hb3⟩
      obtain ⟨⟨rfl, rfl, rfl, rfl, rfl⟩, rfl, rfl, rfl⟩ := unhide HU _ _ _ _ _ _ _ _ hd3
      obtain rfl : m = n := by rw [← hr3.1, ← (unhide R2).1]
      have B3 := hide (below0 (unhide B2) hb3)
      have B3' := hide (below0 (unhide B3) (below_new w3 (.cells #[.int .i64 o', .int .i64 l', .int .i64 k', .int .i64 z', .int .i64 h', .slice a' m c', .string t'] 26)))
      have R3 := hide (row_alloc ((unhide R2).below hb3) (.cells #[.int .i64 o', .int .i64 l', .int .i64 k', .int .i64 z', .int .i64 h', .slice a' m c', .string t'] 26))
      have S3 := hide (row_alloc hr3 (.cells #[.int .i64 o', .int .i64 l', .int .i64 k', .int .i64 z', .int .i64 h', .slice a' m c', .string t'] 26))
      obtain ⟨i0, i1, i2, i3, i4, i5, i6⟩ := ((unhide X2).below hb3).at
      obtain ⟨j0, j1, j2, j3, j4, j5, j6⟩ := (((unhide X2).below hb3).below (below_new w3 (.cells #[.int .i64 o', .int .i64 l', .int .i64 k', .int .i64 z', .int .i64 h', .slice a' m c', .string t'] 26))).at
      clear hr3 hd3 hb3 B2 B3 R2 X2 HD HU
      go_wp2_with fail
      refine (rpsame_any o' l' k' z' h' a' m c' ys t' o' l' k' z' h' a m c ys t' _ (unhide S3) (unhide R3) hn hn true (same_self o' l' k' z' h' ys t')).mono ?_
      rintro e w4 ⟨rfl, hb4⟩
      have B4 := hide (below0 (unhide B3') hb4)
      clear hb4 B3' R3 S3 i0 i1 i2 i3 i4 i5 i6 j0 j1 j2 j3 j4 j5 j6
      go_wp2_with fail
      refine (dec_any s _ hs).mono ?_
      rintro e w5 ⟨o5, l5, k5, z5, h5, a5, n5, c5, ys, t5, en, rfl, hr5, hd5, hb5⟩
      have B5 := hide (below0 (unhide B4) hb5)
      have R5 := hide (row_alloc hr5 (.cells #[.int .i64 o5, .int .i64 l5, .int .i64 k5, .int .i64 z5, .int .i64 h5, .slice a5 n5 c5, .string t5] 26))
      have B6 := hide (below0 (unhide B5) (below_new w5 (.cells #[.int .i64 o5, .int .i64 l5, .int .i64 k5, .int .i64 z5, .int .i64 h5, .slice a5 n5 c5, .string t5] 26)))
      have D5 := hide hd5
      clear hr5 hd5 hb5 B4 B5
      rcases (unhide D5).err with ⟨rfl, e1, e2, e3⟩ | ⟨e1, e2⟩
      · have hc := enc_dec e1 e2
        obtain ⟨rfl, rfl, rfl, rfl, rfl, rfl, rfl⟩ := e3
        have E := hide (fun w' hr' => enc_yes (dO s) (dL s) (dK s) (dZ s) (dH s) a5 n5 c5 (dX s) (s.extract (dN s) s.size) w' hr' (by rw [hc.1]; exact e2))
        rw [hc.2] at E
        have hq := tl_eq s
        generalize s.extract (dN s) s.size = t5 at *
        clear hc e1 e2 D5
        go_wp2_with fail
        refine (unhide E _ (unhide R5)).mono ?_
        rintro e w7 ⟨rfl, hb7⟩
        have B7 := hide (below0 (unhide B6) hb7)
        clear hb7 B6
        go_wp2_with fail
        refine (awake_any _ ((unhide HT).below (unhide B7))).mono ?_
        rintro e wz ⟨rfl, hbz⟩
        have BZ := hide (below0 (unhide B7) hbz)
        clear hbz
        go_wp2
        go_ret
        exact ⟨rfl, unhide BZ⟩
      · have E := hide (fun w' hr' => enc_no o5 l5 k5 z5 h5 a5 n5 c5 ys t5 w' hr' (zero_no e2))
        clear e2 D5
        rcases e1 with rfl | rfl
        all_goals
          go_wp2_with fail
          refine (unhide E _ (unhide R5)).mono ?_
          rintro e w7 ⟨rfl, hb7⟩
          have B7 := hide (below0 (unhide B6) hb7)
          clear hb7 B6
          go_wp2_with fail
          refine (awake_any _ ((unhide HT).below (unhide B7))).mono ?_
          rintro e wz ⟨rfl, hbz⟩
          have BZ := hide (below0 (unhide B7) hbz)
          clear hbz
          go_wp2
          go_ret
          exact ⟨rfl, unhide BZ⟩
    · have HP := hide hP
      clear hP
      go_wp2_with fail
      refine (enc_no o l k z h a n c xs t w1 (unhide R1) (unhide HP)).mono ?_
      rintro e w2 ⟨rfl, hb2⟩
      have B2 := hide (below0 (unhide B1) hb2)
      clear hb2 B1 R1 X1 j0 j1 j2 j3 j4 j5 j6
      go_wp2_with fail
      refine (dec_any ⟨#[]⟩ _ (by decide)).mono ?_
      rintro e w3 ⟨o', l', k', z', h', a', m, c', ys, t', en, rfl, hr3, hd3, hb3⟩
      obtain rfl := none_dec hd3
      have B3 := hide (below0 (below0 (unhide B2) hb3) (below_new w3 (.cells #[.int .i64 o', .int .i64 l', .int .i64 k', .int .i64 z', .int .i64 h', .slice a' m c', .string t'] 26)))
      clear hr3 hd3 hb3 B2
      go_wp2_with fail
      refine (dec_any s _ hs).mono ?_
      rintro e w5 ⟨o5, l5, k5, z5, h5, a5, n5, c5, ys, t5, en, rfl, hr5, hd5, hb5⟩
      have B5 := hide (below0 (unhide B3) hb5)
      have R5 := hide (row_alloc hr5 (.cells #[.int .i64 o5, .int .i64 l5, .int .i64 k5, .int .i64 z5, .int .i64 h5, .slice a5 n5 c5, .string t5] 26))
      have B6 := hide (below0 (unhide B5) (below_new w5 (.cells #[.int .i64 o5, .int .i64 l5, .int .i64 k5, .int .i64 z5, .int .i64 h5, .slice a5 n5 c5, .string t5] 26)))
      have D5 := hide hd5
      clear hr5 hd5 hb5 B3 B5
      rcases (unhide D5).err with ⟨rfl, e1, e2, e3⟩ | ⟨e1, e2⟩
      · have hc := enc_dec e1 e2
        obtain ⟨rfl, rfl, rfl, rfl, rfl, rfl, rfl⟩ := e3
        have E := hide (fun w' hr' => enc_yes (dO s) (dL s) (dK s) (dZ s) (dH s) a5 n5 c5 (dX s) (s.extract (dN s) s.size) w' hr' (by rw [hc.1]; exact e2))
        rw [hc.2] at E
        have hq := tl_eq s
        generalize s.extract (dN s) s.size = t5 at *
        clear hc e1 e2 D5
        go_wp2_with fail
        refine (unhide E _ (unhide R5)).mono ?_
        rintro e w7 ⟨rfl, hb7⟩
        have B7 := hide (below0 (unhide B6) hb7)
        clear hb7 B6
        go_wp2_with fail
        refine (awake_any _ ((unhide HT).below (unhide B7))).mono ?_
        rintro e wz ⟨rfl, hbz⟩
        have BZ := hide (below0 (unhide B7) hbz)
        clear hbz
        go_wp2
        go_ret
        exact ⟨rfl, unhide BZ⟩
      · have E := hide (fun w' hr' => enc_no o5 l5 k5 z5 h5 a5 n5 c5 ys t5 w' hr' (zero_no e2))
        clear e2 D5
        rcases e1 with rfl | rfl
        all_goals
          go_wp2_with fail
          refine (unhide E _ (unhide R5)).mono ?_
          rintro e w7 ⟨rfl, hb7⟩
          have B7 := hide (below0 (unhide B6) hb7)
          clear hb7 B6
          go_wp2_with fail
          refine (awake_any _ ((unhide HT).below (unhide B7))).mono ?_
          rintro e wz ⟨rfl, hbz⟩
          have BZ := hide (below0 (unhide B7) hbz)
          clear hbz
          go_wp2
          go_ret
          exact ⟨rfl, unhide BZ⟩

theorem cut_at (i : Int) (n : Nat) (hn : 0 < n) (hm : n ≤ 9223372036854775807) : ∃ j : Nat, (IntKind.u64.wrap i).tmod (n : Int) = (j : Int) ∧ j < n := by
  have h0 : 0 ≤ IntKind.u64.wrap i := by rw [IntKind.wrap_u64]; omega
  have h1 := Int.emod_nonneg (IntKind.u64.wrap i) (show (n : Int) ≠ 0 by omega)
  have h2 := Int.emod_lt_of_pos (IntKind.u64.wrap i) (show (0 : Int) < (n : Int) by omega)
  rw [Int.tmod_eq_emod_of_nonneg h0]
  exact ⟨((IntKind.u64.wrap i) % (n : Int)).toNat, by omega, by omega⟩
set_option maxHeartbeats 4000000 in
theorem short_walk (o l k z h : Int) (a : Option Addr) (n c : Nat) (xs : List Nat) (t : ByteArray) (i : Int) (w : World) (ht : Tab w) (hr : RowAt w a n xs) :
    Calls Tryd.prog 7 #[.agg #[.int .i64 o, .int .i64 l, .int .i64 k, .int .i64 z, .int .i64 h, .slice a n c, .string t], .int .i64 i] w fun e w' => e = .returned (.bool true) ∧ Below w.heap.size w w' := by
  have HT := hide ht
  obtain ⟨b, hb⟩ := tb_ex (n ≤ 100 ∧ t.size ≤ 10000)
  have HB := hide hb
  have B0 := hide (below_new w (.cells #[.int .i64 o, .int .i64 l, .int .i64 k, .int .i64 z, .int .i64 h, .slice a n c, .string t] 26))
  have X0 := hide (pkb_new w (.int .i64 o) (.int .i64 l) (.int .i64 k) (.int .i64 z) (.int .i64 h) (.slice a n c) (.string t))
  have R0 := hide (row_alloc hr (.cells #[.int .i64 o, .int .i64 l, .int .i64 k, .int .i64 z, .int .i64 h, .slice a n c, .string t] 26))
  have HX := hide hr.2.1
  clear ht hr hb
  go_enter Tryd.func7, Tryd.ntmps7
  go_wp2_with fail
  refine (pfew_any _ _ _ _ _ a n c t _ b (unhide HB)).mono ?_
  rintro e w1 ⟨rfl, hb1⟩
  have B1 := hide (below0 (unhide B0) hb1)
  have X1 := hide ((unhide X0).below hb1)
  have R1 := hide ((unhide R0).below hb1)
  clear hb1 B0 X0 R0
  cases b
  · go_wp2_with fail
    refine (awake_any _ ((unhide HT).below (unhide B1))).mono ?_
    rintro e wz ⟨rfl, hbz⟩
    have BZ := hide (below0 (unhide B1) hbz)
    clear hbz
    go_wp2
    go_ret
    exact ⟨rfl, unhide BZ⟩
  · obtain ⟨j0, j1, j2, j3, j4, j5, j6⟩ := (unhide X1).at
    by_cases hP : CheckP o l k z h xs t.size
    · have E1 := hide (enc_yes o l k z h a n c xs t w1 (unhide R1) hP)
      have hsz : (st (encL o l k z h xs (tx t))).size ≤ 200 ∧ 11 ≤ (st (encL o l k z h xs (tx t))).size := by have := valid_len hP.2.1; have := hP.2.2.2; have := hP.1.1.2.2; rw [enc_size]; omega
      obtain ⟨j, hj, hjl⟩ := cut_at i (st (encL o l k z h xs (tx t))).size (by omega) (by omega)
      have C1 := hide (dec_cut (unhide HX) hP j hjl)
      have C2 := hide (dec_more (b := ⟨#[0]⟩) (unhide HX) hP (by decide))
      generalize st (encL o l k z h xs (tx t)) = T at *
      have D1 := hide (fun wx => dec_any (T.extract 0 j) wx (by rw [ByteArray.size_extract]; omega))
      have D2 := hide (fun wx => dec_any (T ++ ⟨#[0]⟩) wx (by rw [ByteArray.size_append]; have : (ByteArray.mk #[0]).size = 1 := rfl; omega))
      have hT0 : (T.toList == ([] : List UInt8)) = false := by
        rw [show ([] : List UInt8) = (ByteArray.mk #[]).toList from by rw [ByteArray.toList_eq], eq_texts]
        exact decide_eq_false (fun h => by rw [h] at hsz; exact absurd hsz.2 (by decide))
      have hq : (9223372036854775807 < T.size + 1) = False := eq_false (by omega)
      have hz1 : T.size ≤ 200 := hsz.1
      have hz0 : (T.size : Int) ≠ 0 := by omega
      have hji : (j : Int) ≤ (T.size : Int) := by omega
      have hju : IntKind.i64.wrap (j : Int) = (j : Int) := by rw [IntKind.wrap_i64]; omega
      clear hP hsz hjl
      go_wp2_with fail
      refine (unhide E1).mono ?_
      rintro e w2 ⟨rfl, hb2⟩
      have B2 := hide (below0 (unhide B1) hb2)
      clear hb2 B1 R1 X1 j0 j1 j2 j3 j4 j5 j6 E1
      go_wp2_with fail
      refine (unhide D1 _).mono ?_
      rintro e w3 ⟨o', l', k', z', h', a', m, c', ys, t', en, rfl, hr3, hd3, hb3⟩
      obtain rfl := hd3.short (unhide C1)
      have B3 := hide (below0 (below0 (unhide B2) hb3) (below_new w3 (.cells #[.int .i64 o', .int .i64 l', .int .i64 k', .int .i64 z', .int .i64 h', .slice a' m c', .string t'] 26)))
      clear hr3 hd3 hb3 B2 D1 C1
      go_wp2_with fail
      refine (unhide D2 _).mono ?_
      rintro e w4 ⟨o4, l4, k4, z4, h4, a4, n4, c4, zs, t4, en, rfl, hr4, hd4, hb4⟩
      obtain rfl := hd4.bad (unhide C2).1 (unhide C2).2
      have B4 := hide (below0 (below0 (unhide B3) hb4) (below_new w4 (.cells #[.int .i64 o4, .int .i64 l4, .int .i64 k4, .int .i64 z4, .int .i64 h4, .slice a4 n4 c4, .string t4] 26)))
      clear hr4 hd4 hb4 B3 D2 C2
      go_wp2_with fail
      refine (awake_any _ ((unhide HT).below (unhide B4))).mono ?_
      rintro e wz ⟨rfl, hbz⟩
      have BZ := hide (below0 (unhide B4) hbz)
      clear hbz
      go_wp2
      go_ret
      exact ⟨rfl, unhide BZ⟩
    · have HP := hide hP
      clear hP
      go_wp2_with fail
      refine (enc_no o l k z h a n c xs t w1 (unhide R1) (unhide HP)).mono ?_
      rintro e w2 ⟨rfl, hb2⟩
      have B2 := hide (below0 (unhide B1) hb2)
      clear hb2 B1 R1 X1 j0 j1 j2 j3 j4 j5 j6
      go_wp2_with fail
      refine (awake_any _ ((unhide HT).below (unhide B2))).mono ?_
      rintro e wz ⟨rfl, hbz⟩
      have BZ := hide (below0 (unhide B2) hbz)
      clear hbz
      go_wp2
      go_ret
      exact ⟨rfl, unhide BZ⟩
end Go.Proofs.YtamlomlkmfobhaaDoor
