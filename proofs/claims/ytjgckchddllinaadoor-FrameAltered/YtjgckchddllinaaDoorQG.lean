/-
  bucketlinelaw08.awake: it returns true where the table of math/bits is laid.
-/
import Derived.Test.YtjgckchddllinaaDoorQF
namespace Go.Proofs.YtjgckchddllinaaDoor
open Go.RowKit Go.Sort
set_option linter.unusedVariables false
set_option maxRecDepth 4000

theorem DecP.len {s : ByteArray} {o l k z h : Int} {xs : List Nat} {t : ByteArray} {en : Nat} (hd : DecP s o l k z h xs t en) : xs.length ≤ 2 := by
  rcases hd.err with ⟨_, _, hg, hf⟩ | ⟨_, hz⟩
  · rw [hf.2.2.2.2.2.1]
    exact valid_len hg.2.1
  · rw [hz.2.2.2.2.2.1]
    exact Nat.zero_le _
theorem FDecP.len {s : ByteArray} {kd fr ic o l k z h : Int} {xs : List Nat} {t : ByteArray} {en : Nat} (hd : FDecP s kd fr ic o l k z h xs t en) : xs.length ≤ 2 := by
  by_cases h0 : en = 0
  · subst h0
    rcases (fenc_dec hd).1.2.2 with ⟨_, _⟩ | ⟨_, hc⟩
    · by_cases ho : openE s = 0
      · obtain ⟨a1, a2, a3, a4⟩ := hd.2 ho
        by_cases c2 : (openT s).size < 6
        · rw [(a1 c2).2.2.2.2.2.2.2.1]; exact Nat.zero_le _
        · by_cases c3 : badP (openT s)
          · rw [(a2 c2 c3).2.2.2.2.2.2.2.1]; exact Nat.zero_le _
          · by_cases c4 : hdK (openT s) = 1
            · rw [(a3 c2 c3 c4).2.2.2.2.2.2.2.1]; exact Nat.zero_le _
            · exact (a4 c2 c3 c4).1.len
      · rw [(hd.1 ho).2.2.2.2.2.2.2.1]; exact Nat.zero_le _
    · exact valid_len hc.2.1
  · rw [(hd.none h0).2.2.2.2.2.2.1]
    exact Nat.zero_le _
theorem hl_ok : FChkP 1 3 258 0 0 0 0 0 [] ⟨#[]⟩ := ⟨⟨by decide, by decide⟩, ⟨by decide, by decide⟩, .inl ⟨rfl, zero_none zero_zero⟩⟩
theorem zr_no : ¬ FChkP 0 0 0 0 0 0 0 0 [] ⟨#[]⟩ := fz_not fz_zero
/-- A hello's bytes. -/
def helloS : ByteArray := fencS 1 3 258 0 0 0 0 0 [] ⟨#[]⟩
theorem hello_size : helloS.size = 10 := by
  unfold helloS fencS
  rw [sealS_size, st_len, fencL_len, body_one]
  rfl
theorem hello_dec {kd fr ic o l k z h : Int} {xs : List Nat} {t : ByteArray} {en : Nat} (hd : FDecP helloS kd fr ic o l k z h xs t en) : en = 0 ∧ (1 = kd ∧ 3 = fr ∧ 258 = ic) ∧ SameP 0 0 0 0 0 [] ⟨#[]⟩ o l k z h xs t :=
  fdec_enc (fun _ h => by cases h) hl_ok hd
theorem empty_dec {kd fr ic o l k z h : Int} {xs : List Nat} {t : ByteArray} {en : Nat} (hd : FDecP ⟨#[]⟩ kd fr ic o l k z h xs t en) : en = 2 := by
  have h2 := (open_short (s := ⟨#[]⟩) (by decide)).1
  exact ((hd.1 (by rw [h2]; decide)).1).trans h2

set_option maxHeartbeats 4000000 in
theorem fawake_any (w : World) (ht : Tab w) : Calls Tryd.prog 9 #[] w fun e w' => e = .returned (.bool true) ∧ Below w.heap.size w w' := by
  have HT := hide ht
  have HD := hide (fun wx => fdec_any helloS wx (by rw [hello_size]; decide))
  have HN := hide (fun wx => fdec_any ⟨#[]⟩ wx (by decide))
  have HE : Hid (∀ wx, Tab wx → Calls Tryd.prog 14 #[.agg #[.int .i64 1, .int .i64 3, .int .i64 258, .int .i64 0, .int .i64 0, .int .i64 0, .int .i64 0, .int .i64 0, .slice none 0 0, .string ⟨#[]⟩]] wx fun e w' => e = .returned (.tuple #[.string helloS, .int .i64 0]) ∧ Below wx.heap.size wx w') :=
    hide (fun wx htx => fenc_yes 1 3 258 0 0 0 0 0 none 0 0 [] ⟨#[]⟩ wx htx (row_none _) (by decide) hl_ok)
  have HC : Hid (∀ wx, Tab wx → Calls Tryd.prog 10 #[.agg #[.int .i64 1, .int .i64 3, .int .i64 258, .int .i64 0, .int .i64 0, .int .i64 0, .int .i64 0, .int .i64 0, .slice none 0 0, .string ⟨#[]⟩]] wx fun e w' => e = .returned (.int .i64 0) ∧ Below wx.heap.size wx w') :=
    hide (fun wx htx => fcheck_any 1 3 258 0 0 0 0 0 none 0 0 [] ⟨#[]⟩ wx htx (row_none _) (by decide) 0 (.inl ⟨hl_ok, rfl⟩))
  have HC0 : Hid (∀ wx, Tab wx → Calls Tryd.prog 10 #[.agg #[.int .i64 0, .int .i64 0, .int .i64 0, .int .i64 0, .int .i64 0, .int .i64 0, .int .i64 0, .int .i64 0, .slice none 0 0, .string ⟨#[]⟩]] wx fun e w' => e = .returned (.int .i64 1) ∧ Below wx.heap.size wx w') :=
    hide (fun wx htx => fcheck_any 0 0 0 0 0 0 0 0 none 0 0 [] ⟨#[]⟩ wx htx (row_none _) (by decide) 1 (.inr ⟨zr_no, rfl⟩))
  have hsz := hello_size
  have H1 := hide (fun kd fr ic o l k z h xs t en => hello_dec (kd := kd) (fr := fr) (ic := ic) (o := o) (l := l) (k := k) (z := z) (h := h) (xs := xs) (t := t) (en := en))
  generalize helloS = S at *
  have X0 := hide (frb_new w (.int .i64 1) (.int .i64 3) (.int .i64 258) (.int .i64 0) (.int .i64 0) (.int .i64 0) (.int .i64 0) (.int .i64 0) (.slice none 0 0) (.string ⟨#[]⟩))
  have B0 := hide (below_new w (.cells #[.int .i64 1, .int .i64 3, .int .i64 258, .int .i64 0, .int .i64 0, .int .i64 0, .int .i64 0, .int .i64 0, .slice none 0 0, .string ⟨#[]⟩] 28))
  clear ht
  go_enter Tryd.func9, Tryd.ntmps9
  go_wp2_with fail
  refine (unhide HE _ ((unhide HT).below (unhide B0))).mono ?_
  rintro e w1 ⟨rfl, hb1⟩
  have X1 := hide ((unhide X0).below hb1)
  have B1 := hide (below0 (unhide B0) hb1)
  clear hb1 X0 B0 HE
  go_wp2_with fail
  refine (unhide HD _).mono ?_
  rintro e w2 ⟨kd, fr, ic, o, l, k, z, h, a, n, c, xs, t, en, rfl, hr, hd, hb2⟩
  obtain ⟨rfl, ⟨rfl, rfl, rfl⟩, hsame⟩ := unhide H1 _ _ _ _ _ _ _ _ _ _ _ hd
  have hn : n ≤ 1048576 := by have := hd.len; have := hr.1; omega
  have HS := hide hsame
  have HNN := hide hn
  have X3 := hide (((unhide X1).below hb2).below (below_new w2 (.cells #[.int .i64 1, .int .i64 3, .int .i64 258, .int .i64 o, .int .i64 l, .int .i64 k, .int .i64 z, .int .i64 h, .slice a n c, .string t] 28)))
  have Y3 := hide (frb_new w2 (.int .i64 1) (.int .i64 3) (.int .i64 258) (.int .i64 o) (.int .i64 l) (.int .i64 k) (.int .i64 z) (.int .i64 h) (.slice a n c) (.string t))
  have B3 := hide (below0 (below0 (unhide B1) hb2) (below_new w2 (.cells #[.int .i64 1, .int .i64 3, .int .i64 258, .int .i64 o, .int .i64 l, .int .i64 k, .int .i64 z, .int .i64 h, .slice a n c, .string t] 28)))
  have R3 := hide (row_alloc hr (.cells #[.int .i64 1, .int .i64 3, .int .i64 258, .int .i64 o, .int .i64 l, .int .i64 k, .int .i64 z, .int .i64 h, .slice a n c, .string t] 28))
  clear hb2 X1 B1 HD hr hd hsame hn H1
  iterate 19 (first | go_values | go_skip | go_guarded | go_step | go_upon | go_back | go_simp)
  generalize w2.alloc (.cells #[.int .i64 1, .int .i64 3, .int .i64 258, .int .i64 o, .int .i64 l, .int .i64 k, .int .i64 z, .int .i64 h, .slice a n c, .string t] 28) = w3 at *
  generalize w2.heap.size = g4 at *
  go_wp2_with fail
  refine (unhide HN _).mono ?_
  rintro e w4 ⟨kd, fr, ic, o', l', k', z', h', a', n', c', xs', t', en, rfl, hr4, hd4, hb4⟩
  obtain rfl := empty_dec hd4
  have X5 := hide (((unhide X3).below hb4).below (below_new w4 (.cells #[.int .i64 kd, .int .i64 fr, .int .i64 ic, .int .i64 o', .int .i64 l', .int .i64 k', .int .i64 z', .int .i64 h', .slice a' n' c', .string t'] 28)))
  have Y5 := hide (((unhide Y3).below hb4).below (below_new w4 (.cells #[.int .i64 kd, .int .i64 fr, .int .i64 ic, .int .i64 o', .int .i64 l', .int .i64 k', .int .i64 z', .int .i64 h', .slice a' n' c', .string t'] 28)))
  have B5 := hide (below0 (below0 (unhide B3) hb4) (below_new w4 (.cells #[.int .i64 kd, .int .i64 fr, .int .i64 ic, .int .i64 o', .int .i64 l', .int .i64 k', .int .i64 z', .int .i64 h', .slice a' n' c', .string t'] 28)))
  have R5 := hide (row_alloc ((unhide R3).below hb4) (.cells #[.int .i64 kd, .int .i64 fr, .int .i64 ic, .int .i64 o', .int .i64 l', .int .i64 k', .int .i64 z', .int .i64 h', .slice a' n' c', .string t'] 28))
  clear hb4 X3 Y3 B3 R3 HN hr4 hd4
  iterate 19 (first | go_values | go_skip | go_guarded | go_step | go_upon | go_back | go_simp)
  generalize w4.alloc (.cells #[.int .i64 kd, .int .i64 fr, .int .i64 ic, .int .i64 o', .int .i64 l', .int .i64 k', .int .i64 z', .int .i64 h', .slice a' n' c', .string t'] 28) = w5 at *
  generalize w4.heap.size = g5 at *
  obtain ⟨⟨k0, k1, k2⟩, k3, k4, k5, k6, k7, k8, k9⟩ := (unhide X5).at
  obtain ⟨⟨m0, m1, m2⟩, m3, m4, m5, m6, m7, m8, m9⟩ := (unhide Y5).at
  go_wp2_with fail
  refine (fsame_any 1 3 258 0 0 0 0 0 none 0 0 [] ⟨#[]⟩ 1 3 258 o l k z h a n c xs t _ ((unhide HT).below (unhide B5)) (row_none _) (unhide R5) (by decide) (unhide HNN) true ⟨fun _ => ⟨⟨rfl, rfl, rfl⟩, unhide HS⟩, fun _ => rfl⟩).mono ?_
  rintro e w6 ⟨rfl, hb6⟩
  have X6 := hide ((unhide X5).below hb6)
  have B6 := hide (below0 (unhide B5) hb6)
  clear hb6 X5 Y5 B5 R5 HS HNN k0 k1 k2 k3 k4 k5 k6 k7 k8 k9 m0 m1 m2 m3 m4 m5 m6 m7 m8 m9
  obtain ⟨⟨k0, k1, k2⟩, k3, k4, k5, k6, k7, k8, k9⟩ := (unhide X6).at
  go_wp2_with fail
  refine (unhide HC _ ((unhide HT).below (unhide B6))).mono ?_
  rintro e w7 ⟨rfl, hb7⟩
  have B7 := hide (below0 (unhide B6) hb7)
  clear hb7 X6 B6 HC k0 k1 k2 k3 k4 k5 k6 k7 k8 k9
  go_wp2_with fail
  refine (unhide HC0 _ ((unhide HT).below (unhide B7))).mono ?_
  rintro e w8 ⟨rfl, hb8⟩
  have B8 := hide (below0 (unhide B7) hb8)
  clear hb8 B7 HC0
  go_wp2
  go_ret
  exact ⟨rfl, unhide B8⟩
end Go.Proofs.YtjgckchddllinaaDoor
