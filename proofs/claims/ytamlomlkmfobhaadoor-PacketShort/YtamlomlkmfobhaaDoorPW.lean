/-
  bucketlinelaw07.awake: it returns true where the table of math/bits is laid.
-/
import Derived.Test.YtamlomlkmfobhaaDoorPO
namespace Go.Proofs.YtamlomlkmfobhaaDoor
open Go.RowKit Go.Sort
set_option linter.unusedVariables false

set_option maxHeartbeats 4000000 in
theorem awake_any (w : World) (ht : Tab w) : Calls Tryd.prog 9 #[] w fun e w' => e = .returned (.bool true) ∧ Below w.heap.size w w' := by
  have HT := hide ht
  have HS := hide (fun wx => dec_any oneS wx (by rw [one_size]; decide))
  have HM := hide (fun wx => dec_any (oneS ++ ⟨#[120]⟩) wx (by rw [ByteArray.size_append, one_size]; decide))
  have HN := hide (fun wx => dec_any ⟨#[]⟩ wx (by decide))
  have HE : Hid (∀ wx a c, RowAt wx a 1 [1] → Calls Tryd.prog 14 #[.agg #[.int .i64 0, .int .i64 1, .int .i64 1, .int .i64 1, .int .i64 0, .slice a 1 c, .string ⟨#[97]⟩]] wx fun e w' => e = .returned (.tuple #[.string oneS, .int .i64 0]) ∧ Below wx.heap.size wx w') :=
    hide (fun wx a c h => enc_yes 0 1 1 1 0 a 1 c [1] ⟨#[97]⟩ wx h one_ok)
  have hsz := one_size
  have H1 := hide (fun o l k z h xs t en => one_dec (o := o) (l := l) (k := k) (z := z) (h := h) (xs := xs) (t := t) (en := en))
  have H2 := hide (fun o l k z h xs t en => one_more (o := o) (l := l) (k := k) (z := z) (h := h) (xs := xs) (t := t) (en := en))
  generalize oneS = S at *
  have hq : (9223372036854775807 < S.size + 1) = False := eq_false (by omega)
  clear ht
  go_enter Tryd.func9, Tryd.ntmps9
  go_wp2_with fail
  refine (one_any _).mono ?_
  rintro e w1 ⟨a1, c1, rfl, hr1, hb1⟩
  have R1 := hide hr1
  have B1 := hide hb1
  clear hr1 hb1
  go_wp2_with fail
  refine (unhide HE _ a1 c1 (unhide R1)).mono ?_
  rintro e w2 ⟨rfl, hb2⟩
  have B2 := hide (below0 (unhide B1) hb2)
  clear hb2 R1 B1
  go_wp2_with fail
  refine (unhide HS _).mono ?_
  rintro e w3 ⟨o, l, k, z, h, a3, n3, c3, xs, t, en, rfl, hr3, hd3, hb3⟩
  obtain ⟨⟨rfl, rfl, rfl, rfl, rfl⟩, rfl, rfl, rfl⟩ := unhide H1 _ _ _ _ _ _ _ _ hd3
  obtain rfl : n3 = 1 := hr3.1.symm
  have B3 := hide (below0 (unhide B2) hb3)
  have R3 := hide (row_alloc hr3 (.cells #[.int .i64 0, .int .i64 1, .int .i64 1, .int .i64 1, .int .i64 0, .slice a3 1 c3, .string ⟨#[97]⟩] 26))
  have P3 := hide (pkb_new w3 (.int .i64 0) (.int .i64 1) (.int .i64 1) (.int .i64 1) (.int .i64 0) (.slice a3 1 c3) (.string ⟨#[97]⟩))
  clear hr3 hd3 hb3 B2 H1
  go_wp2_with fail
  refine (unhide HM _).mono ?_
  rintro e w4 ⟨o, l, k, z, h, a4, n4, c4, xs, t, en, rfl, hr4, hd4, hb4⟩
  obtain rfl := unhide H2 _ _ _ _ _ _ _ _ hd4
  have B4 := hide (below1 (unhide B3) hb4)
  have R4 := hide ((unhide R3).below hb4)
  have P4 := hide ((unhide P3).below hb4)
  have P4' := hide ((unhide P4).below (below_new w4 (.cells #[.int .i64 o, .int .i64 l, .int .i64 k, .int .i64 z, .int .i64 h, .slice a4 n4 c4, .string t] 26)))
  have R4' := hide (row_alloc (unhide R4) (.cells #[.int .i64 o, .int .i64 l, .int .i64 k, .int .i64 z, .int .i64 h, .slice a4 n4 c4, .string t] 26))
  generalize w3.heap.size = g3 at *
  clear hr4 hd4 hb4 B3 R3 P3 H2
  go_wp2_with fail
  refine (unhide HN _).mono ?_
  rintro e w5 ⟨o', l', k', z', h', a5, n5, c5, xs', t', en, rfl, hr5, hd5, hb5⟩
  obtain rfl := none_dec hd5
  have B5 := hide (below1 (unhide B4) hb5)
  have R5 := hide ((unhide R4').below hb5)
  have P5 := hide ((unhide P4').below hb5)
  clear hr5 hd5 hb5 B4 R4 R4' P4 P4' HS HM HN
  have B6 := hide (below0 (unhide B5) (below_new w5 (.cells #[.int .i64 o', .int .i64 l', .int .i64 k', .int .i64 z', .int .i64 h', .slice a5 n5 c5, .string t'] 26)).drew)
  have R6 := hide ((unhide R5).below (below_new w5 (.cells #[.int .i64 o', .int .i64 l', .int .i64 k', .int .i64 z', .int .i64 h', .slice a5 n5 c5, .string t'] 26)).drew)
  have P6 := hide ((unhide P5).below (below_new w5 (.cells #[.int .i64 o', .int .i64 l', .int .i64 k', .int .i64 z', .int .i64 h', .slice a5 n5 c5, .string t'] 26)).drew)
  clear B5 R5 P5
  go_wp2_with fail
  refine wp_region_any (by kernel_rfl) ?_
  change wpAny _ _ _ _ _ _ _ (World.drew _)
  generalize World.drew (World.alloc w5 _) = w6 at *
  refine wpAny_ready (rs := [0]) (by kernel_rfl) (by simp) ?_
  refine AllReady.cons rfl (fun K hK => ?_) AllReady.nil
  go_simp
  refine hK _ _ ?_
  clear hK K
  refine wpAny_ready (rs := [1]) (by kernel_rfl) (by simp) ?_
  refine AllReady.cons rfl (fun K hK => ?_) AllReady.nil
  go_simp
  refine hK _ _ ?_
  clear hK K
  refine wpAny_ready (rs := [2]) (by kernel_rfl) (by simp) ?_
  refine AllReady.cons rfl (fun K hK => ?_) AllReady.nil
  go_simp
  refine hK _ _ ?_
  clear hK K
  refine wpAny_ready (rs := [3]) (by kernel_rfl) (by simp) ?_
  refine AllReady.cons rfl (fun K hK => ?_) AllReady.nil
  go_simp
  refine hK _ _ ?_
  clear hK K
  refine wpAny_ready (rs := [4]) (by kernel_rfl) (by simp) ?_
  refine AllReady.cons rfl (fun K hK => ?_) AllReady.nil
  go_simp
  refine hK _ _ ?_
  clear hK K
  refine wpAny_ready (rs := [5]) (by kernel_rfl) (by simp) ?_
  refine AllReady.cons rfl (fun K hK => ?_) AllReady.nil
  go_simp
  refine hK _ _ ?_
  clear hK K
  refine wpAny_ready (rs := [6]) (by kernel_rfl) (by simp) ?_
  refine AllReady.cons rfl (fun K hK => ?_) AllReady.nil
  go_simp
  refine hK _ _ ?_
  clear hK K
  refine wpAny_ready (rs := [7]) (by kernel_rfl) (by simp) ?_
  refine AllReady.cons rfl (fun K hK => ?_) AllReady.nil
  go_simp
  refine hK _ _ ?_
  clear hK K
  refine wpAny_ready (rs := [8]) (by kernel_rfl) (by simp) ?_
  refine AllReady.cons rfl (fun K hK => ?_) AllReady.nil
  go_simp
  refine hK _ _ ?_
  clear hK K
  refine wpAny_ready (rs := [9]) (by kernel_rfl) (by simp) ?_
  refine AllReady.cons rfl (fun K hK => ?_) AllReady.nil
  go_simp
  refine hK _ _ ?_
  clear hK K
  refine wpAny_ready (rs := [10]) (by kernel_rfl) (by simp) ?_
  refine AllReady.cons rfl (fun K hK => ?_) AllReady.nil
  go_simp
  refine hK _ _ ?_
  clear hK K
  refine wpAny_ready (rs := [11]) (by kernel_rfl) (by simp) ?_
  refine AllReady.cons rfl (fun K hK => ?_) AllReady.nil
  go_simp
  refine hK _ _ ?_
  clear hK K
  refine wpAny_ready (rs := [12, 13]) (by kernel_rfl) (by simp) ?_
  refine AllReady.cons rfl (fun K hK => ?_) (AllReady.cons rfl (fun K hK => ?_) AllReady.nil)
  · obtain ⟨k0, k1, k2, k3, k4, k5, k6⟩ := (unhide P6).at
    go_simp
    refine hK _ _ ?_
    clear hK K k0 k1 k2 k3 k4 k5 k6
    refine wpAny_ready (rs := [13]) (by kernel_rfl) (by simp) ?_
    refine AllReady.cons rfl (fun K hK => ?_) AllReady.nil
    go_simp
    refine (one_any _).mono ?_
    rintro e w7 ⟨a7, c7, rfl, hr7, hb7⟩
    have B7 := hide (below0 (unhide B6) hb7)
    have R7 := hide ((unhide R6).below hb7)
    have P7 := hide ((unhide P6).below hb7)
    have Q7 := hide hr7
    clear hr7 hb7 B6 R6 P6
    refine hK _ _ ?_
    clear hK K
    refine wpAny_ready (rs := [14]) (by kernel_rfl) (by simp) ?_
    refine AllReady.cons rfl (fun K hK => ?_) AllReady.nil
    go_simp
    refine (psame_any _ _ _ _ _ a3 1 c3 [1] _ _ _ _ _ _ a7 1 c7 [1] _ _ ((unhide HT).below (unhide B7)) (unhide R7) (unhide Q7) (by decide) (by decide) true ⟨fun _ => one_same, fun _ => rfl⟩).mono ?_
    rintro e w8 ⟨rfl, hb8⟩
    have B8 := hide (below0 (unhide B7) hb8)
    clear hb8 B7 R7 P7 Q7
    refine hK _ _ ?_
    clear hK K
    refine wpAny_ready (rs := [15]) (by kernel_rfl) (by simp) ?_
    refine AllReady.cons rfl (fun K hK => ?_) AllReady.nil
    go_simp
    refine hK _ _ ?_
    clear hK K
    refine wpAny_ready (rs := [16]) (by kernel_rfl) (by simp) ?_
    refine AllReady.cons rfl (fun K hK => ?_) AllReady.nil
    go_simp
    refine hK _ _ ?_
    clear hK K
    refine wpAny_ready (rs := [17]) (by kernel_rfl) (by simp) ?_
    refine AllReady.cons rfl (fun K hK => ?_) AllReady.nil
    go_simp
    refine (one_any _).mono ?_
    rintro e w9 ⟨a9, c9, rfl, hr9, hb9⟩
    have B9 := hide (below0 (unhide B8) hb9)
    have Q9 := hide hr9
    clear hr9 hb9 B8
    refine hK _ _ ?_
    clear hK K
    refine wpAny_ready (rs := [18]) (by kernel_rfl) (by simp) ?_
    refine AllReady.cons rfl (fun K hK => ?_) AllReady.nil
    go_simp
    refine (check_any 0 1 1 1 0 a9 1 c9 [1] ⟨#[97]⟩ _ (unhide Q9) 0 (.inl ⟨one_ok, rfl⟩)).mono ?_
    rintro e w10 ⟨rfl, hb10⟩
    have B10 := hide (below0 (unhide B9) hb10)
    clear hb10 B9 Q9
    refine hK _ _ ?_
    clear hK K
    refine wpAny_ready (rs := [19]) (by kernel_rfl) (by simp) ?_
    refine AllReady.cons rfl (fun K hK => ?_) AllReady.nil
    go_simp
    refine hK _ _ ?_
    clear hK K
    refine wpAny_ready (rs := [20]) (by kernel_rfl) (by simp) ?_
    refine AllReady.cons rfl (fun K hK => ?_) AllReady.nil
    go_simp
    refine hK _ _ ?_
    clear hK K
    refine wpAny_ready (rs := [21]) (by kernel_rfl) (by simp) ?_
    refine AllReady.cons rfl (fun K hK => ?_) AllReady.nil
    go_simp
    refine hK _ _ ?_
    clear hK K
    refine wpAny_ready (rs := [22]) (by kernel_rfl) (by simp) ?_
    refine AllReady.cons rfl (fun K hK => ?_) AllReady.nil
    go_simp
    refine hK _ _ ?_
    clear hK K
    refine wpAny_ready (rs := [23]) (by kernel_rfl) (by simp) ?_
    refine AllReady.cons rfl (fun K hK => ?_) AllReady.nil
    go_simp
    refine (check_any 0 0 0 0 0 none 0 0 [] ⟨#[]⟩ _ (row_none _) 1 (.inr ⟨zero_ck, rfl⟩)).mono ?_
    rintro e w11 ⟨rfl, hb11⟩
    have B11 := hide (below0 (unhide B10) hb11)
    clear hb11 B10
    refine hK _ _ ?_
    clear hK K
    refine wpAny_ready (rs := [24]) (by kernel_rfl) (by simp) ?_
    refine AllReady.cons rfl (fun K hK => ?_) AllReady.nil
    go_simp
    refine hK _ _ ?_
    clear hK K
    refine wpAny_ready (rs := [25]) (by kernel_rfl) (by simp) ?_
    refine AllReady.cons rfl (fun K hK => ?_) AllReady.nil
    go_simp
    refine hK _ _ ?_
    clear hK K
    refine wpAny_ready (rs := [26]) (by kernel_rfl) (by simp) ?_
    refine AllReady.cons rfl (fun K hK => ?_) AllReady.nil
    go_simp
    refine hK _ _ ?_
    clear hK K
    refine wpAny_ready (rs := [27]) (by kernel_rfl) (by simp) ?_
    refine AllReady.cons rfl (fun K hK => ?_) AllReady.nil
    go_simp
    refine hK _ _ ?_
    clear hK K
    refine wpAny_ready (rs := [28]) (by kernel_rfl) (by simp) ?_
    refine AllReady.cons rfl (fun K hK => ?_) AllReady.nil
    go_simp
    refine hK _ _ ?_
    clear hK K
    refine wpAny_ready (rs := [29]) (by kernel_rfl) (by simp) ?_
    refine AllReady.cons rfl (fun K hK => ?_) AllReady.nil
    go_simp
    refine hK _ _ ?_
    clear hK K
    refine wpAny_ready (rs := [30]) (by kernel_rfl) (by simp) ?_
    refine AllReady.cons rfl (fun K hK => ?_) AllReady.nil
    go_simp
    refine hK _ _ ?_
    clear hK K
    refine wpAny_ready (rs := [31]) (by kernel_rfl) (by simp) ?_
    refine AllReady.cons rfl (fun K hK => ?_) AllReady.nil
    go_simp
    refine hK _ _ ?_
    clear hK K
    refine wpAny_ready (rs := [32]) (by kernel_rfl) (by simp) ?_
    refine AllReady.cons rfl (fun K hK => ?_) AllReady.nil
    go_simp
    refine hK _ _ ?_
    clear hK K
    refine wpAny_ready (rs := [33]) (by kernel_rfl) (by simp) ?_
    refine AllReady.cons rfl (fun K hK => ?_) AllReady.nil
    go_simp
    refine hK _ _ ?_
    clear hK K
    refine wpAny_ready (rs := [34]) (by kernel_rfl) (by simp) ?_
    refine AllReady.cons rfl (fun K hK => ?_) AllReady.nil
    go_simp
    refine hK _ _ ?_
    clear hK K
    refine wpAny_done (by kernel_rfl) ?_ _
    go_wp2
    go_ret
    exact ⟨rfl, unhide B11⟩
  · go_simp
    refine (one_any _).mono ?_
    rintro e w7 ⟨a7, c7, rfl, hr7, hb7⟩
    have B7 := hide (below0 (unhide B6) hb7)
    have R7 := hide ((unhide R6).below hb7)
    have P7 := hide ((unhide P6).below hb7)
    have Q7 := hide hr7
    clear hr7 hb7 B6 R6 P6
    refine hK _ _ ?_
    clear hK K
    obtain ⟨k0, k1, k2, k3, k4, k5, k6⟩ := (unhide P7).at
    refine wpAny_ready (rs := [12]) (by kernel_rfl) (by simp) ?_
    refine AllReady.cons rfl (fun K hK => ?_) AllReady.nil
    go_simp
    refine hK _ _ ?_
    clear hK K k0 k1 k2 k3 k4 k5 k6
    refine wpAny_ready (rs := [14]) (by kernel_rfl) (by simp) ?_
    refine AllReady.cons rfl (fun K hK => ?_) AllReady.nil
    go_simp
    refine (psame_any _ _ _ _ _ a3 1 c3 [1] _ _ _ _ _ _ a7 1 c7 [1] _ _ ((unhide HT).below (unhide B7)) (unhide R7) (unhide Q7) (by decide) (by decide) true ⟨fun _ => one_same, fun _ => rfl⟩).mono ?_
    rintro e w8 ⟨rfl, hb8⟩
    have B8 := hide (below0 (unhide B7) hb8)
    clear hb8 B7 R7 P7 Q7
    refine hK _ _ ?_
    clear hK K
    refine wpAny_ready (rs := [15]) (by kernel_rfl) (by simp) ?_
    refine AllReady.cons rfl (fun K hK => ?_) AllReady.nil
    go_simp
    refine hK _ _ ?_
    clear hK K
    refine wpAny_ready (rs := [16]) (by kernel_rfl) (by simp) ?_
    refine AllReady.cons rfl (fun K hK => ?_) AllReady.nil
    go_simp
    refine hK _ _ ?_
    clear hK K
    refine wpAny_ready (rs := [17]) (by kernel_rfl) (by simp) ?_
    refine AllReady.cons rfl (fun K hK => ?_) AllReady.nil
    go_simp
    refine (one_any _).mono ?_
    rintro e w9 ⟨a9, c9, rfl, hr9, hb9⟩
    have B9 := hide (below0 (unhide B8) hb9)
    have Q9 := hide hr9
    clear hr9 hb9 B8
    refine hK _ _ ?_
    clear hK K
    refine wpAny_ready (rs := [18]) (by kernel_rfl) (by simp) ?_
    refine AllReady.cons rfl (fun K hK => ?_) AllReady.nil
    go_simp
    refine (check_any 0 1 1 1 0 a9 1 c9 [1] ⟨#[97]⟩ _ (unhide Q9) 0 (.inl ⟨one_ok, rfl⟩)).mono ?_
    rintro e w10 ⟨rfl, hb10⟩
    have B10 := hide (below0 (unhide B9) hb10)
    clear hb10 B9 Q9
    refine hK _ _ ?_
    clear hK K
    refine wpAny_ready (rs := [19]) (by kernel_rfl) (by simp) ?_
    refine AllReady.cons rfl (fun K hK => ?_) AllReady.nil
    go_simp
    refine hK _ _ ?_
    clear hK K
    refine wpAny_ready (rs := [20]) (by kernel_rfl) (by simp) ?_
    refine AllReady.cons rfl (fun K hK => ?_) AllReady.nil
    go_simp
    refine hK _ _ ?_
    clear hK K
    refine wpAny_ready (rs := [21]) (by kernel_rfl) (by simp) ?_
    refine AllReady.cons rfl (fun K hK => ?_) AllReady.nil
    go_simp
    refine hK _ _ ?_
    clear hK K
    refine wpAny_ready (rs := [22]) (by kernel_rfl) (by simp) ?_
    refine AllReady.cons rfl (fun K hK => ?_) AllReady.nil
    go_simp
    refine hK _ _ ?_
    clear hK K
    refine wpAny_ready (rs := [23]) (by kernel_rfl) (by simp) ?_
    refine AllReady.cons rfl (fun K hK => ?_) AllReady.nil
    go_simp
    refine (check_any 0 0 0 0 0 none 0 0 [] ⟨#[]⟩ _ (row_none _) 1 (.inr ⟨zero_ck, rfl⟩)).mono ?_
    rintro e w11 ⟨rfl, hb11⟩
    have B11 := hide (below0 (unhide B10) hb11)
    clear hb11 B10
    refine hK _ _ ?_
    clear hK K
    refine wpAny_ready (rs := [24]) (by kernel_rfl) (by simp) ?_
    refine AllReady.cons rfl (fun K hK => ?_) AllReady.nil
    go_simp
    refine hK _ _ ?_
    clear hK K
    refine wpAny_ready (rs := [25]) (by kernel_rfl) (by simp) ?_
    refine AllReady.cons rfl (fun K hK => ?_) AllReady.nil
    go_simp
    refine hK _ _ ?_
    clear hK K
    refine wpAny_ready (rs := [26]) (by kernel_rfl) (by simp) ?_
    refine AllReady.cons rfl (fun K hK => ?_) AllReady.nil
    go_simp
    refine hK _ _ ?_
    clear hK K
    refine wpAny_ready (rs := [27]) (by kernel_rfl) (by simp) ?_
    refine AllReady.cons rfl (fun K hK => ?_) AllReady.nil
    go_simp
    refine hK _ _ ?_
    clear hK K
    refine wpAny_ready (rs := [28]) (by kernel_rfl) (by simp) ?_
    refine AllReady.cons rfl (fun K hK => ?_) AllReady.nil
    go_simp
    refine hK _ _ ?_
    clear hK K
    refine wpAny_ready (rs := [29]) (by kernel_rfl) (by simp) ?_
    refine AllReady.cons rfl (fun K hK => ?_) AllReady.nil
    go_simp
    refine hK _ _ ?_
    clear hK K
    refine wpAny_ready (rs := [30]) (by kernel_rfl) (by simp) ?_
    refine AllReady.cons rfl (fun K hK => ?_) AllReady.nil
    go_simp
    refine hK _ _ ?_
    clear hK K
    refine wpAny_ready (rs := [31]) (by kernel_rfl) (by simp) ?_
    refine AllReady.cons rfl (fun K hK => ?_) AllReady.nil
    go_simp
    refine hK _ _ ?_
    clear hK K
    refine wpAny_ready (rs := [32]) (by kernel_rfl) (by simp) ?_
    refine AllReady.cons rfl (fun K hK => ?_) AllReady.nil
    go_simp
    refine hK _ _ ?_
    clear hK K
    refine wpAny_ready (rs := [33]) (by kernel_rfl) (by simp) ?_
    refine AllReady.cons rfl (fun K hK => ?_) AllReady.nil
    go_simp
    refine hK _ _ ?_
    clear hK K
    refine wpAny_ready (rs := [34]) (by kernel_rfl) (by simp) ?_
    refine AllReady.cons rfl (fun K hK => ?_) AllReady.nil
    go_simp
    refine hK _ _ ?_
    clear hK K
    refine wpAny_done (by kernel_rfl) ?_ _
    go_wp2
    go_ret
    exact ⟨rfl, unhide B11⟩
end Go.Proofs.YtamlomlkmfobhaaDoor
