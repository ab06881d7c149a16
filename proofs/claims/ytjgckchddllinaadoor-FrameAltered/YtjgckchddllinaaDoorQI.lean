/-
  The walk of FrameBack: every frame, every text.
-/
import Derived.Test.YtjgckchddllinaaDoorQG
namespace Go.Proofs.YtjgckchddllinaaDoor
open Go.RowKit Go.Sort
set_option linter.unusedVariables false
set_option maxRecDepth 4000

theorem FDecP.en {s : ByteArray} {kd fr ic o l k z h : Int} {xs : List Nat} {t : ByteArray} {en : Nat} (hd : FDecP s kd fr ic o l k z h xs t en) : en = 0 ∨ en = 2 ∨ en = 3 ∨ en = 4 := by
  by_cases c1 : openE s = 0
  · obtain ⟨a1, a2, a3, a4⟩ := hd.2 c1
    generalize openT s = T at *
    by_cases c2 : T.size < 6
    · exact .inr (.inl (a1 c2).1)
    · by_cases c3 : badP T
      · exact .inr (.inr (.inl (a2 c2 c3).1))
      · by_cases c4 : hdK T = 1
        · exact .inl (a3 c2 c3 c4).1
        · rcases (a4 c2 c3 c4).1.err with h | ⟨h | h, _⟩
          · exact .inl h.1
          · exact .inr (.inl h)
          · exact .inr (.inr (.inl h))
  · have h1 := (hd.1 c1).1
    rcases open_cases s with h | h | h
    · exact absurd h c1
    · exact .inr (.inl (h1.trans h))
    · exact .inr (.inr (.inr (h1.trans h)))
theorem fencS_le {kd fr ic o l k z h : Int} {xs : List Nat} {s : ByteArray} (hP : FChkP kd fr ic o l k z h xs s) : (fencS kd fr ic o l k z h xs s).size ≤ 101 := by
  unfold fencS
  rw [sealS_size, st_len, fencL_len, tx_length]
  have := body_le hP.2.2
  omega

set_option maxHeartbeats 8000000 in
theorem fback_walk (kd fr ic o l k z h : Int) (a : Option Addr) (n c : Nat) (xs : List Nat) (s u : ByteArray) (w : World) (ht : Tab w) (hr : RowAt w a n xs) :
    Calls Tryd.prog 6 #[.agg #[.int .i64 kd, .int .i64 fr, .int .i64 ic, .int .i64 o, .int .i64 l, .int .i64 k, .int .i64 z, .int .i64 h, .slice a n c, .string s], .string u] w fun e w' => e = .returned (.bool true) ∧ Below w.heap.size w w' := by
  have HT := hide ht
  obtain ⟨b, hb⟩ := tb_ex (n ≤ 100 ∧ s.size ≤ 10000)
  have HB := hide hb
  have B0 := hide (below_new w (.cells #[.int .i64 kd, .int .i64 fr, .int .i64 ic, .int .i64 o, .int .i64 l, .int .i64 k, .int .i64 z, .int .i64 h, .slice a n c, .string s] 28))
  have X0 := hide (frb_new w (.int .i64 kd) (.int .i64 fr) (.int .i64 ic) (.int .i64 o) (.int .i64 l) (.int .i64 k) (.int .i64 z) (.int .i64 h) (.slice a n c) (.string s))
  have R0 := hide (row_alloc hr (.cells #[.int .i64 kd, .int .i64 fr, .int .i64 ic, .int .i64 o, .int .i64 l, .int .i64 k, .int .i64 z, .int .i64 h, .slice a n c, .string s] 28))
  clear ht hr hb
  go_enter Tryd.func6, Tryd.ntmps6
  go_wp2_with fail
  refine (ffew_any _ _ _ _ _ _ _ _ a n c s _ b (unhide HB)).mono ?_
  rintro e w1 ⟨rfl, hb1⟩
  have B1 := hide (below0 (unhide B0) hb1)
  have X1 := hide ((unhide X0).below hb1)
  have R1 := hide ((unhide R0).below hb1)
  clear hb1 B0 X0 R0
  cases b
  · go_wp2_with fail
    refine (fawake_any _ ((unhide HT).below (unhide B1))).mono ?_
    rintro e wz ⟨rfl, hbz⟩
    have BZ := hide (below0 (unhide B1) hbz)
    clear hbz
    go_wp2
    go_ret
    exact ⟨rfl, unhide BZ⟩
  by_cases hu : 20000 < u.size
  · have hu' : (20000 : Int) < (u.size : Int) := by omega
    clear hu
    go_wp2_with fail
    refine (fawake_any _ ((unhide HT).below (unhide B1))).mono ?_
    rintro e wz ⟨rfl, hbz⟩
    have BZ := hide (below0 (unhide B1) hbz)
    clear hbz
    go_wp2
    go_ret
    exact ⟨rfl, unhide BZ⟩
  have hu' : ¬ (20000 : Int) < (u.size : Int) := by omega
  have HU := hide (fun wx => fdec_any u wx (by omega))
  have HN := hide (show n ≤ 1048576 by have := ((unhide HB).1 rfl).1; omega)
  clear hu HB
  obtain ⟨⟨i0, i1, i2⟩, i3, i4, i5, i6, i7, i8, i9⟩ := (unhide X1).at
  by_cases hP : FChkP kd fr ic o l k z h xs s
  · have E1 := hide (fenc_yes kd fr ic o l k z h a n c xs s w1 ((unhide HT).below (unhide B1)) (unhide R1) (unhide HN) hP)
    have H1 := hide (fun kd' fr' ic' o' l' k' z' h' ys t' en => fdec_enc (kd' := kd') (fr' := fr') (ic' := ic') (o' := o') (l' := l') (k' := k') (z' := z') (h' := h') (ys := ys) (t := t') (en := en) (unhide R1).2.1 hP)
    have HD := hide (fun wx => fdec_any (fencS kd fr ic o l k z h xs s) wx (by have := fencS_le hP; omega))
    generalize fencS kd fr ic o l k z h xs s = T at *
    clear hP
    go_wp2_with fail
    refine (unhide E1).mono ?_
    rintro e w2 ⟨rfl, hb⟩
    have B2 := hide (below0 (unhide B1) hb)
    have X2 := hide ((unhide X1).below hb)
    have R2 := hide ((unhide R1).below hb)
    clear hb B1 X1 R1 E1 i0 i1 i2 i3 i4 i5 i6 i7 i8 i9
    go_wp2_with fail
    refine (unhide HD _).mono ?_
    rintro e w3 ⟨kd', fr', ic', o', l', k', z', h', a', n', c', xs', s', en, rfl, hr, hd, hb⟩
    obtain ⟨rfl, ⟨h1, h2, h3⟩, hsame⟩ := unhide H1 _ _ _ _ _ _ _ _ _ _ _ hd
    subst h1 h2 h3
    have HS := hide hsame
    have N3 := hide (show n' ≤ 1048576 by have := hd.len; have := hr.1; omega)
    have hh := below0 hb (below_new w3 (.cells #[.int .i64 kd, .int .i64 fr, .int .i64 ic, .int .i64 o', .int .i64 l', .int .i64 k', .int .i64 z', .int .i64 h', .slice a' n' c', .string s'] 28))
    have B3 := hide (below0 (unhide B2) hh)
    have X3 := hide ((unhide X2).below hh)
    have R3 := hide ((unhide R2).below hh)
    have Y3 := hide (frb_new w3 (.int .i64 kd) (.int .i64 fr) (.int .i64 ic) (.int .i64 o') (.int .i64 l') (.int .i64 k') (.int .i64 z') (.int .i64 h') (.slice a' n' c') (.string s'))
    have Q3 := hide (row_alloc hr (.cells #[.int .i64 kd, .int .i64 fr, .int .i64 ic, .int .i64 o', .int .i64 l', .int .i64 k', .int .i64 z', .int .i64 h', .slice a' n' c', .string s'] 28))
    clear hb hh hr hd hsame B2 X2 R2 HD H1
    iterate 19 (first | go_values | go_skip | go_guarded | go_step | go_upon | go_back | go_simp)
    generalize w3.alloc (.cells #[.int .i64 kd, .int .i64 fr, .int .i64 ic, .int .i64 o', .int .i64 l', .int .i64 k', .int .i64 z', .int .i64 h', .slice a' n' c', .string s'] 28) = u3 at *
    generalize w3.heap.size = g3 at *
    obtain ⟨⟨i0, i1, i2⟩, i3, i4, i5, i6, i7, i8, i9⟩ := (unhide X3).at
    obtain ⟨⟨j0, j1, j2⟩, j3, j4, j5, j6, j7, j8, j9⟩ := (unhide Y3).at
    go_wp2_with fail
    refine (rfsame_any kd fr ic o l k z h a n c xs s kd fr ic o' l' k' z' h' a' n' c' xs' s' _ (unhide R3) (unhide Q3) (unhide HN) (unhide N3) true ⟨fun _ => ⟨⟨rfl, rfl, rfl⟩, unhide HS⟩, fun _ => rfl⟩).mono ?_
    rintro e w4 ⟨rfl, hb⟩
    have BT := hide (below0 (unhide B3) hb)
    clear hb B3 X3 R3 Y3 Q3 N3 HS HN i0 i1 i2 i3 i4 i5 i6 i7 i8 i9 j0 j1 j2 j3 j4 j5 j6 j7 j8 j9
    go_wp2_with fail
    refine (unhide HU _).mono ?_
    rintro e w5 ⟨kd5, fr5, ic5, o5, l5, k5, z5, h5, a5, n5, c5, xs5, s5, en5, rfl, hr, hd, hb⟩
    have hh := below0 hb (below_new w5 (.cells #[.int .i64 kd5, .int .i64 fr5, .int .i64 ic5, .int .i64 o5, .int .i64 l5, .int .i64 k5, .int .i64 z5, .int .i64 h5, .slice a5 n5 c5, .string s5] 28))
    have B5 := hide (below0 (unhide BT) hh)
    have X5 := hide (frb_new w5 (.int .i64 kd5) (.int .i64 fr5) (.int .i64 ic5) (.int .i64 o5) (.int .i64 l5) (.int .i64 k5) (.int .i64 z5) (.int .i64 h5) (.slice a5 n5 c5) (.string s5))
    have R5 := hide (row_alloc hr (.cells #[.int .i64 kd5, .int .i64 fr5, .int .i64 ic5, .int .i64 o5, .int .i64 l5, .int .i64 k5, .int .i64 z5, .int .i64 h5, .slice a5 n5 c5, .string s5] 28))
    have N5 := hide (show n5 ≤ 1048576 by have := hd.len; have := hr.1; omega)
    have D5 := hide hd
    clear hb hh hr hd HU BT
    iterate 19 (first | go_values | go_skip | go_guarded | go_step | go_upon | go_back | go_simp)
    generalize w5.alloc (.cells #[.int .i64 kd5, .int .i64 fr5, .int .i64 ic5, .int .i64 o5, .int .i64 l5, .int .i64 k5, .int .i64 z5, .int .i64 h5, .slice a5 n5 c5, .string s5] 28) = u5 at *
    generalize w5.heap.size = g5 at *
    obtain ⟨⟨i0, i1, i2⟩, i3, i4, i5, i6, i7, i8, i9⟩ := (unhide X5).at
    have T5 := hide ((unhide HT).below (unhide B5))
    rcases (unhide D5).en with rfl | rfl | rfl | rfl
    · have E5 := hide (fenc_yes kd5 fr5 ic5 o5 l5 k5 z5 h5 a5 n5 c5 xs5 s5 u5 (unhide T5) (unhide R5) (unhide N5) (fenc_dec (unhide D5)).1)
      rw [(fenc_dec (unhide D5)).2] at E5
      have hq : (u.toList == u.toList) = true := by simp
      clear D5 R5 N5
      go_wp2_with fail
      refine (unhide E5).mono ?_
      rintro e w6 ⟨rfl, hb⟩
      have B6 := hide (below0 (unhide B5) hb)
      clear hb E5 i0 i1 i2 i3 i4 i5 i6 i7 i8 i9
      go_wp2_with fail
      refine (fawake_any _ ((unhide HT).below (unhide B6))).mono ?_
      rintro e wz ⟨rfl, hbz⟩
      have BZ := hide (below0 (unhide B6) hbz)
      clear hbz
      go_wp2
      go_ret
      exact ⟨rfl, unhide BZ⟩
    · have E5 := hide (fenc_no kd5 fr5 ic5 o5 l5 k5 z5 h5 a5 n5 c5 xs5 s5 u5 (unhide T5) (unhide R5) (unhide N5) (fz_not ((unhide D5).none (by decide))))
      clear D5 R5 N5
      go_wp2_with fail
      refine (unhide E5).mono ?_
      rintro e w6 ⟨rfl, hb⟩
      have B6 := hide (below0 (unhide B5) hb)
      clear hb E5 i0 i1 i2 i3 i4 i5 i6 i7 i8 i9
      go_wp2_with fail
      refine (fawake_any _ ((unhide HT).below (unhide B6))).mono ?_
      rintro e wz ⟨rfl, hbz⟩
      have BZ := hide (below0 (unhide B6) hbz)
      clear hbz
      go_wp2
      go_ret
      exact ⟨rfl, unhide BZ⟩
    · have E5 := hide (fenc_no kd5 fr5 ic5 o5 l5 k5 z5 h5 a5 n5 c5 xs5 s5 u5 (unhide T5) (unhide R5) (unhide N5) (fz_not ((unhide D5).none (by decide))))
      clear D5 R5 N5
      go_wp2_with fail
      refine (unhide E5).mono ?_
      rintro e w6 ⟨rfl, hb⟩
      have B6 := hide (below0 (unhide B5) hb)
      clear hb E5 i0 i1 i2 i3 i4 i5 i6 i7 i8 i9
      go_wp2_with fail
      refine (fawake_any _ ((unhide HT).below (unhide B6))).mono ?_
      rintro e wz ⟨rfl, hbz⟩
      have BZ := hide (below0 (unhide B6) hbz)
      clear hbz
      go_wp2
      go_ret
      exact ⟨rfl, unhide BZ⟩
    · have E5 := hide (fenc_no kd5 fr5 ic5 o5 l5 k5 z5 h5 a5 n5 c5 xs5 s5 u5 (unhide T5) (unhide R5) (unhide N5) (fz_not ((unhide D5).none (by decide))))
      clear D5 R5 N5
      go_wp2_with fail
      refine (unhide E5).mono ?_
      rintro e w6 ⟨rfl, hb⟩
      have B6 := hide (below0 (unhide B5) hb)
      clear hb E5 i0 i1 i2 i3 i4 i5 i6 i7 i8 i9
      go_wp2_with fail
      refine (fawake_any _ ((unhide HT).below (unhide B6))).mono ?_
      rintro e wz ⟨rfl, hbz⟩
      have BZ := hide (below0 (unhide B6) hbz)
      clear hbz
      go_wp2
      go_ret
      exact ⟨rfl, unhide BZ⟩
  · have E1 := hide (fenc_no kd fr ic o l k z h a n c xs s w1 ((unhide HT).below (unhide B1)) (unhide R1) (unhide HN) hP)
    have HD := hide (fun wx => fdec_any ⟨#[]⟩ wx (by decide))
    clear hP
    go_wp2_with fail
    refine (unhide E1).mono ?_
    rintro e w2 ⟨rfl, hb⟩
    have B2 := hide (below0 (unhide B1) hb)
    clear hb B1 X1 R1 E1 HN i0 i1 i2 i3 i4 i5 i6 i7 i8 i9
    go_wp2_with fail
    refine (unhide HD _).mono ?_
    rintro e w3 ⟨kd', fr', ic', o', l', k', z', h', a', n', c', xs', s', en, rfl, hr, hd, hb⟩
    have hh := below0 hb (below_new w3 (.cells #[.int .i64 kd', .int .i64 fr', .int .i64 ic', .int .i64 o', .int .i64 l', .int .i64 k', .int .i64 z', .int .i64 h', .slice a' n' c', .string s'] 28))
    have BT := hide (below0 (unhide B2) hh)
    clear hb hh hr hd B2 HD
    iterate 19 (first | go_values | go_skip | go_guarded | go_step | go_upon | go_back | go_simp)
    generalize w3.alloc (.cells #[.int .i64 kd', .int .i64 fr', .int .i64 ic', .int .i64 o', .int .i64 l', .int .i64 k', .int .i64 z', .int .i64 h', .slice a' n' c', .string s'] 28) = u3 at *
    generalize w3.heap.size = g3 at *
    go_wp2_with fail
    refine (unhide HU _).mono ?_
    rintro e w5 ⟨kd5, fr5, ic5, o5, l5, k5, z5, h5, a5, n5, c5, xs5, s5, en5, rfl, hr, hd, hb⟩
    have hh := below0 hb (below_new w5 (.cells #[.int .i64 kd5, .int .i64 fr5, .int .i64 ic5, .int .i64 o5, .int .i64 l5, .int .i64 k5, .int .i64 z5, .int .i64 h5, .slice a5 n5 c5, .string s5] 28))
    have B5 := hide (below0 (unhide BT) hh)
    have X5 := hide (frb_new w5 (.int .i64 kd5) (.int .i64 fr5) (.int .i64 ic5) (.int .i64 o5) (.int .i64 l5) (.int .i64 k5) (.int .i64 z5) (.int .i64 h5) (.slice a5 n5 c5) (.string s5))
    have R5 := hide (row_alloc hr (.cells #[.int .i64 kd5, .int .i64 fr5, .int .i64 ic5, .int .i64 o5, .int .i64 l5, .int .i64 k5, .int .i64 z5, .int .i64 h5, .slice a5 n5 c5, .string s5] 28))
    have N5 := hide (show n5 ≤ 1048576 by have := hd.len; have := hr.1; omega)
    have D5 := hide hd
    clear hb hh hr hd HU BT
    iterate 19 (first | go_values | go_skip | go_guarded | go_step | go_upon | go_back | go_simp)
    generalize w5.alloc (.cells #[.int .i64 kd5, .int .i64 fr5, .int .i64 ic5, .int .i64 o5, .int .i64 l5, .int .i64 k5, .int .i64 z5, .int .i64 h5, .slice a5 n5 c5, .string s5] 28) = u5 at *
    generalize w5.heap.size = g5 at *
    obtain ⟨⟨i0, i1, i2⟩, i3, i4, i5, i6, i7, i8, i9⟩ := (unhide X5).at
    have T5 := hide ((unhide HT).below (unhide B5))
    rcases (unhide D5).en with rfl | rfl | rfl | rfl
    · have E5 := hide (fenc_yes kd5 fr5 ic5 o5 l5 k5 z5 h5 a5 n5 c5 xs5 s5 u5 (unhide T5) (unhide R5) (unhide N5) (fenc_dec (unhide D5)).1)
      rw [(fenc_dec (unhide D5)).2] at E5
      have hq : (u.toList == u.toList) = true := by simp
      clear D5 R5 N5
      go_wp2_with fail
      refine (unhide E5).mono ?_
      rintro e w6 ⟨rfl, hb⟩
      have B6 := hide (below0 (unhide B5) hb)
      clear hb E5 i0 i1 i2 i3 i4 i5 i6 i7 i8 i9
      go_wp2_with fail
      refine (fawake_any _ ((unhide HT).below (unhide B6))).mono ?_
      rintro e wz ⟨rfl, hbz⟩
      have BZ := hide (below0 (unhide B6) hbz)
      clear hbz
      go_wp2
      go_ret
      exact ⟨rfl, unhide BZ⟩
    · have E5 := hide (fenc_no kd5 fr5 ic5 o5 l5 k5 z5 h5 a5 n5 c5 xs5 s5 u5 (unhide T5) (unhide R5) (unhide N5) (fz_not ((unhide D5).none (by decide))))
      clear D5 R5 N5
      go_wp2_with fail
      refine (unhide E5).mono ?_
      rintro e w6 ⟨rfl, hb⟩
      have B6 := hide (below0 (unhide B5) hb)
      clear hb E5 i0 i1 i2 i3 i4 i5 i6 i7 i8 i9
      go_wp2_with fail
      refine (fawake_any _ ((unhide HT).below (unhide B6))).mono ?_
      rintro e wz ⟨rfl, hbz⟩
      have BZ := hide (below0 (unhide B6) hbz)
      clear hbz
      go_wp2
      go_ret
      exact ⟨rfl, unhide BZ⟩
    · have E5 := hide (fenc_no kd5 fr5 ic5 o5 l5 k5 z5 h5 a5 n5 c5 xs5 s5 u5 (unhide T5) (unhide R5) (unhide N5) (fz_not ((unhide D5).none (by decide))))
      clear D5 R5 N5
      go_wp2_with fail
      refine (unhide E5).mono ?_
      rintro e w6 ⟨rfl, hb⟩
      have B6 := hide (below0 (unhide B5) hb)
      clear hb E5 i0 i1 i2 i3 i4 i5 i6 i7 i8 i9
      go_wp2_with fail
      refine (fawake_any _ ((unhide HT).below (unhide B6))).mono ?_
      rintro e wz ⟨rfl, hbz⟩
      have BZ := hide (below0 (unhide B6) hbz)
      clear hbz
      go_wp2
      go_ret
      exact ⟨rfl, unhide BZ⟩
    · have E5 := hide (fenc_no kd5 fr5 ic5 o5 l5 k5 z5 h5 a5 n5 c5 xs5 s5 u5 (unhide T5) (unhide R5) (unhide N5) (fz_not ((unhide D5).none (by decide))))
      clear D5 R5 N5
      go_wp2_with fail
      refine (unhide E5).mono ?_
      rintro e w6 ⟨rfl, hb⟩
      have B6 := hide (below0 (unhide B5) hb)
      clear hb E5 i0 i1 i2 i3 i4 i5 i6 i7 i8 i9
      go_wp2_with fail
      refine (fawake_any _ ((unhide HT).below (unhide B6))).mono ?_
      rintro e wz ⟨rfl, hbz⟩
      have BZ := hide (below0 (unhide B6) hbz)
      clear hbz
      go_wp2
      go_ret
      exact ⟨rfl, unhide BZ⟩
end Go.Proofs.YtjgckchddllinaaDoor
