/-
  The walk of FrameDecodes: every text of at most 2^47 - 4096 bytes.
-/
import Derived.Test.YtjgckchddllinaaDoorQE
import Derived.Test.YtjgckchddllinaaDoorQG
namespace Go.Proofs.YtjgckchddllinaaDoor
open Go.RowKit Go.Sort
set_option linter.unusedVariables false
set_option maxRecDepth 4000


set_option maxHeartbeats 8000000 in
theorem fdecodes_walk (s : ByteArray) (w : World) (ht : Tab w) :
    Calls Tryd.prog 5 #[.string s] w fun e w' => e = .returned (.bool true) ∧ Below w.heap.size w w' := by
  have HT := hide ht
  clear ht
  by_cases hs : 20000 < s.size
  · have hs' : (20000 : Int) < (s.size : Int) := by omega
    clear hs
    go_enter Tryd.func5, Tryd.ntmps5
    go_wp2_with fail
    refine (fawake_any _ (unhide HT)).mono ?_
    rintro e wz ⟨rfl, hbz⟩
    have BZ := hide hbz
    clear hbz
    go_wp2
    go_ret
    exact ⟨rfl, unhide BZ⟩
  have hs' : ¬ (20000 : Int) < (s.size : Int) := by omega
  have HA := hide (fun wx => fdec_any s wx (by omega))
  have HB := hide (fun wx => rfdec_any s wx (by omega))
  have HS := hide (fun wx => rseal_any s wx (by omega))
  have HC := hide (fun wx => fdec_any (sealS s) wx (by rw [sealS_size]; omega))
  have HD := hide (fun wx => rfdec_any (sealS s) wx (by rw [sealS_size]; omega))
  generalize sealS s = SS at *
  have B0 := hide (Below.refl w.heap.size w)
  clear hs
  go_enter Tryd.func5, Tryd.ntmps5
  go_wp2_with fail
  refine (unhide HA _).mono ?_
  rintro e w1 ⟨kd, fr, ic, o, l, k, z, h, a, n, c, xs, t, en, rfl, hr, hd, hb⟩
  have D1 := hide hd
  have hn : n ≤ 1048576 := by have := hd.len; have := hr.1; omega
  have N1 := hide hn
  clear hn
  have hh := below0 hb (below_new w1 (.cells #[.int .i64 kd, .int .i64 fr, .int .i64 ic, .int .i64 o, .int .i64 l, .int .i64 k, .int .i64 z, .int .i64 h, .slice a n c, .string t] 28))
  have B1 := hide (below0 (unhide B0) hh)
  have X1 := hide (frb_new w1 (.int .i64 kd) (.int .i64 fr) (.int .i64 ic) (.int .i64 o) (.int .i64 l) (.int .i64 k) (.int .i64 z) (.int .i64 h) (.slice a n c) (.string t))
  have R1 := hide (row_alloc hr (.cells #[.int .i64 kd, .int .i64 fr, .int .i64 ic, .int .i64 o, .int .i64 l, .int .i64 k, .int .i64 z, .int .i64 h, .slice a n c, .string t] 28))
  clear hb hr hd hh B0
  iterate 19 (first | go_values | go_skip | go_guarded | go_step | go_upon | go_back | go_simp)
  generalize w1.alloc (.cells #[.int .i64 kd, .int .i64 fr, .int .i64 ic, .int .i64 o, .int .i64 l, .int .i64 k, .int .i64 z, .int .i64 h, .slice a n c, .string t] 28) = u1 at *
  generalize w1.heap.size = g1 at *
  go_wp2_with fail
  refine (unhide HB _).mono ?_
  rintro e w2 ⟨kd9, fr9, ic9, o9, l9, k9, z9, h9, b, m9, d, xs9, t9, en9, rfl, hr, hd, hb⟩
  obtain ⟨⟨h1, h2, h3⟩, ⟨h4, h5, h6, h7, h8⟩, h9x, h10, h11⟩ := (unhide D1).uniq hd
  subst h1 h2 h3 h4 h5 h6 h7 h8 h9x h10 h11
  have hm : n = m9 := by rw [← hr.1, ← (unhide R1).1]
  subst hm
  have hh := below0 hb (below_new w2 (.cells #[.int .i64 kd, .int .i64 fr, .int .i64 ic, .int .i64 o, .int .i64 l, .int .i64 k, .int .i64 z, .int .i64 h, .slice b n d, .string t] 28))
  have X1n := hide ((unhide X1).below hh)
  have R1n := hide ((unhide R1).below hh)
  have B2 := hide (below0 (unhide B1) hh)
  have X2 := hide (frb_new w2 (.int .i64 kd) (.int .i64 fr) (.int .i64 ic) (.int .i64 o) (.int .i64 l) (.int .i64 k) (.int .i64 z) (.int .i64 h) (.slice b n d) (.string t))
  have R2 := hide (row_alloc hr (.cells #[.int .i64 kd, .int .i64 fr, .int .i64 ic, .int .i64 o, .int .i64 l, .int .i64 k, .int .i64 z, .int .i64 h, .slice b n d, .string t] 28))
  clear hb hr hd hh B1 X1 R1
  iterate 19 (first | go_values | go_skip | go_guarded | go_step | go_upon | go_back | go_simp)
  generalize w2.alloc (.cells #[.int .i64 kd, .int .i64 fr, .int .i64 ic, .int .i64 o, .int .i64 l, .int .i64 k, .int .i64 z, .int .i64 h, .slice b n d, .string t] 28) = u2 at *
  generalize w2.heap.size = g2 at *
  go_wp2_with fail
  refine (unhide HS _).mono ?_
  rintro e v3 ⟨rfl, hb⟩
  have X1nn := hide ((unhide X1n).below hb)
  have R1nn := hide ((unhide R1n).below hb)
  have X2n := hide ((unhide X2).below hb)
  have R2n := hide ((unhide R2).below hb)
  have C3 := hide (below0 (unhide B2) hb)
  clear hb B2 X1n X2 R1n R2
  go_wp2_with fail
  refine (unhide HC _).mono ?_
  rintro e w3 ⟨kd', fr', ic', o', l', k', z', h', a', n', c', xs', t', en', rfl, hr, hd, hb⟩
  have D3 := hide hd
  have hn : n' ≤ 1048576 := by have := hd.len; have := hr.1; omega
  have N3 := hide hn
  clear hn
  have hh := below0 hb (below_new w3 (.cells #[.int .i64 kd', .int .i64 fr', .int .i64 ic', .int .i64 o', .int .i64 l', .int .i64 k', .int .i64 z', .int .i64 h', .slice a' n' c', .string t'] 28))
  have X1nnn := hide ((unhide X1nn).below hh)
  have R1nnn := hide ((unhide R1nn).below hh)
  have X2nn := hide ((unhide X2n).below hh)
  have R2nn := hide ((unhide R2n).below hh)
  have B3 := hide (below0 (unhide C3) hh)
  have X3 := hide (frb_new w3 (.int .i64 kd') (.int .i64 fr') (.int .i64 ic') (.int .i64 o') (.int .i64 l') (.int .i64 k') (.int .i64 z') (.int .i64 h') (.slice a' n' c') (.string t'))
  have R3 := hide (row_alloc hr (.cells #[.int .i64 kd', .int .i64 fr', .int .i64 ic', .int .i64 o', .int .i64 l', .int .i64 k', .int .i64 z', .int .i64 h', .slice a' n' c', .string t'] 28))
  clear hb hr hd hh C3 X1nn X2n R1nn R2n
  iterate 19 (first | go_values | go_skip | go_guarded | go_step | go_upon | go_back | go_simp)
  generalize w3.alloc (.cells #[.int .i64 kd', .int .i64 fr', .int .i64 ic', .int .i64 o', .int .i64 l', .int .i64 k', .int .i64 z', .int .i64 h', .slice a' n' c', .string t'] 28) = u3 at *
  generalize w3.heap.size = g3 at *
  go_wp2_with fail
  refine (unhide HS _).mono ?_
  rintro e v4 ⟨rfl, hb⟩
  have X1nnnn := hide ((unhide X1nnn).below hb)
  have R1nnnn := hide ((unhide R1nnn).below hb)
  have X2nnn := hide ((unhide X2nn).below hb)
  have R2nnn := hide ((unhide R2nn).below hb)
  have X3n := hide ((unhide X3).below hb)
  have R3n := hide ((unhide R3).below hb)
  have C4 := hide (below0 (unhide B3) hb)
  clear hb B3 X1nnn X2nn X3 R1nnn R2nn R3
  go_wp2_with fail
  refine (unhide HD _).mono ?_
  rintro e w4 ⟨kd9, fr9, ic9, o9, l9, k9, z9, h9, b', m9, d', xs9, t9, en9, rfl, hr, hd, hb⟩
  obtain ⟨⟨h1, h2, h3⟩, ⟨h4, h5, h6, h7, h8⟩, h9x, h10, h11⟩ := (unhide D3).uniq hd
  subst h1 h2 h3 h4 h5 h6 h7 h8 h9x h10 h11
  have hm : n' = m9 := by rw [← hr.1, ← (unhide R3n).1]
  subst hm
  have hh := below0 hb (below_new w4 (.cells #[.int .i64 kd', .int .i64 fr', .int .i64 ic', .int .i64 o', .int .i64 l', .int .i64 k', .int .i64 z', .int .i64 h', .slice b' n' d', .string t'] 28))
  have X1nnnnn := hide ((unhide X1nnnn).below hh)
  have R1nnnnn := hide ((unhide R1nnnn).below hh)
  have X2nnnn := hide ((unhide X2nnn).below hh)
  have R2nnnn := hide ((unhide R2nnn).below hh)
  have X3nn := hide ((unhide X3n).below hh)
  have R3nn := hide ((unhide R3n).below hh)
  have B4 := hide (below0 (unhide C4) hh)
  have X4 := hide (frb_new w4 (.int .i64 kd') (.int .i64 fr') (.int .i64 ic') (.int .i64 o') (.int .i64 l') (.int .i64 k') (.int .i64 z') (.int .i64 h') (.slice b' n' d') (.string t'))
  have R4 := hide (row_alloc hr (.cells #[.int .i64 kd', .int .i64 fr', .int .i64 ic', .int .i64 o', .int .i64 l', .int .i64 k', .int .i64 z', .int .i64 h', .slice b' n' d', .string t'] 28))
  clear hb hr hd hh C4 X1nnnn X2nnn X3n R1nnnn R2nnn R3n
  iterate 19 (first | go_values | go_skip | go_guarded | go_step | go_upon | go_back | go_simp)
  generalize w4.alloc (.cells #[.int .i64 kd', .int .i64 fr', .int .i64 ic', .int .i64 o', .int .i64 l', .int .i64 k', .int .i64 z', .int .i64 h', .slice b' n' d', .string t'] 28) = u4 at *
  generalize w4.heap.size = g4 at *
  obtain ⟨⟨i0, i1, i2⟩, i3, i4, i5, i6, i7, i8, i9⟩ := (unhide X1nnnnn).at
  obtain ⟨⟨j0, j1, j2⟩, j3, j4, j5, j6, j7, j8, j9⟩ := (unhide X2nnnn).at
  go_wp2_with fail
  refine (rfsame_any kd fr ic o l k z h a n c xs t kd fr ic o l k z h b n d xs t _ (unhide R1nnnnn) (unhide R2nnnn) (unhide N1) (unhide N1) true (fsame_self ..)).mono ?_
  rintro e w7 ⟨rfl, hb⟩
  have Y3 := hide ((unhide X3nn).below hb)
  have Y4 := hide ((unhide X4).below hb)
  have Q3 := hide ((unhide R3nn).below hb)
  have Q4 := hide ((unhide R4).below hb)
  have B7 := hide (below0 (unhide B4) hb)
  clear hb i0 i1 i2 i3 i4 i5 i6 i7 i8 i9 j0 j1 j2 j3 j4 j5 j6 j7 j8 j9 X1nnnnn X2nnnn X3nn X4 R1nnnnn R2nnnn R3nn R4 B4
  obtain ⟨⟨i0, i1, i2⟩, i3, i4, i5, i6, i7, i8, i9⟩ := (unhide Y3).at
  obtain ⟨⟨j0, j1, j2⟩, j3, j4, j5, j6, j7, j8, j9⟩ := (unhide Y4).at
  go_wp2_with fail
  refine (rfsame_any kd' fr' ic' o' l' k' z' h' a' n' c' xs' t' kd' fr' ic' o' l' k' z' h' b' n' d' xs' t' _ (unhide Q3) (unhide Q4) (unhide N3) (unhide N3) true (fsame_self ..)).mono ?_
  rintro e w8 ⟨rfl, hb⟩
  have B8 := hide (below0 (unhide B7) hb)
  clear hb i0 i1 i2 i3 i4 i5 i6 i7 i8 i9 j0 j1 j2 j3 j4 j5 j6 j7 j8 j9 Y3 Y4 Q3 Q4 B7
  go_wp2_with fail
  refine (fawake_any _ ((unhide HT).below (unhide B8))).mono ?_
  rintro e w9 ⟨rfl, hb⟩
  have B9 := hide (below0 (unhide B8) hb)
  clear hb
  go_wp2
  go_ret
  exact ⟨rfl, unhide B9⟩
end Go.Proofs.YtjgckchddllinaaDoor
