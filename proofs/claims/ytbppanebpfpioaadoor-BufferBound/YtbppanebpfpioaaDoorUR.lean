/-
  Contract of bucketlinelaw17.awake.
-/
import Derived.Test.YtbppanebpfpioaaDoorUQ
namespace Go.Proofs.YtbppanebpfpioaaDoor
open Go.RowKit Go.Sort
set_option linter.unusedVariables false
set_option maxRecDepth 4000

theorem list_two {us : List PKV} {a b : PD} (h : us.map PKV.pd = [a, b]) : us.length = 2 ∧ (us.getD 0 .dflt).pd = a ∧ (us.getD 1 .dflt).pd = b := by
  match us, h with
  | [x, y], h =>
    simp only [List.map_cons, List.map_nil, List.cons.injEq, and_true] at h
    exact ⟨rfl, h.1, h.2⟩
set_option maxHeartbeats 4000000 in
theorem awake_any (w : World) (ht : Tab w) : Calls Tryd.prog 9 #[] w fun e w' => e = .returned (.bool true) ∧ Below w.heap.size w w' := by
  have HT := hide ht
  have HN := bunew_any 2 w
  rw [show capN 2 = 2 from by decide] at HN
  have HNW := hide HN
  clear ht HN
  go_enter Tryd.func9, Tryd.ntmps9
  go_wp2_with fail
  refine (unhide HNW).mono ?_
  rintro e w0 ⟨rfl, hb0, hl0⟩
  obtain ⟨v0, hv0⟩ : ∃ v0, v0 = Value.slice none 0 0 := ⟨_, rfl⟩
  obtain ⟨ps0, hp0⟩ : ∃ ps0 : List PKV, ps0 = [] := ⟨_, rfl⟩
  rw [← hv0, ← hp0] at hb0
  have HS0 := hide hb0
  have HD0 : Hid (ps0.map PKV.pd = []) := hide (by rw [hp0]; rfl)
  have HB0 := hide hl0
  clear hb0 hl0 hv0 hp0 HNW
  go_wp2_with fail
  refine (of17_any 1 _ (by decide)).mono ?_
  rintro e wa0 ⟨rfl, ho0, ha0⟩
  have hs0 := (unhide HS0).below ha0
  have HP0 := hide (buput_any w.heap.size w.heap.size 2 v0 ps0 (ofK _ 1) wa0 ((unhide HT).below (below0 (unhide HB0) ha0)) hs0 (own_row_tu hs0 ho0) (show 1 ≤ 10 by decide) (show 1 ≤ 1000 by decide))
  have HBA0 := hide (below0 (unhide HB0) ha0)
  have HSA0 := hide hs0
  clear ho0 ha0 hs0
  go_wp2_with fail
  refine (unhide HP0).mono ?_
  rintro e wb0 ⟨he, v1, ps1, hb, hpd, htu, -⟩
  rw [ofK_pd, unhide HD0, ex1.1] at he
  rw [ofK_pd, unhide HD0, ex1.2] at hpd
  subst he
  have HS1 := hide hb
  have HD1 := hide hpd
  have HB1 := hide ((unhide HSA0).step (unhide HBA0) htu)
  clear hb hpd htu HP0 HBA0 HSA0 HS0 HB0 HD0
  go_wp2_with fail
  refine (of17_any 6 _ (by decide)).mono ?_
  rintro e wa1 ⟨rfl, ho1, ha1⟩
  have hs1 := (unhide HS1).below ha1
  have HP1 := hide (buput_any w.heap.size w.heap.size 2 v1 ps1 (ofK _ 6) wa1 ((unhide HT).below (below0 (unhide HB1) ha1)) hs1 (own_row_tu hs1 ho1) (show 1 ≤ 10 by decide) (show 1 ≤ 1000 by decide))
  have HBA1 := hide (below0 (unhide HB1) ha1)
  have HSA1 := hide hs1
  clear ho1 ha1 hs1
  go_wp2_with fail
  refine (unhide HP1).mono ?_
  rintro e wb1 ⟨he, v2, ps2, hb, hpd, htu, -⟩
  rw [ofK_pd, unhide HD1, ex2.1] at he
  rw [ofK_pd, unhide HD1, ex2.2] at hpd
  subst he
  have HS2 := hide hb
  have HD2 := hide hpd
  have HB2 := hide ((unhide HSA1).step (unhide HBA1) htu)
  clear hb hpd htu HP1 HBA1 HSA1 HS1 HB1 HD1
  go_wp2_with fail
  refine (of17_any 7 _ (by decide)).mono ?_
  rintro e wa2 ⟨rfl, ho2, ha2⟩
  have hs2 := (unhide HS2).below ha2
  have HP2 := hide (buput_any w.heap.size w.heap.size 2 v2 ps2 (ofK _ 7) wa2 ((unhide HT).below (below0 (unhide HB2) ha2)) hs2 (own_row_tu hs2 ho2) (show 1 ≤ 10 by decide) (show 1 ≤ 1000 by decide))
  have HBA2 := hide (below0 (unhide HB2) ha2)
  have HSA2 := hide hs2
  clear ho2 ha2 hs2
  go_wp2_with fail
  refine (unhide HP2).mono ?_
  rintro e wb2 ⟨he, v3, ps3, hb, hpd, htu, -⟩
  rw [ofK_pd, unhide HD2, ex3.1] at he
  rw [ofK_pd, unhide HD2, ex3.2] at hpd
  subst he
  have HS3 := hide hb
  have HD3 := hide hpd
  have HB3 := hide ((unhide HSA2).step (unhide HBA2) htu)
  clear hb hpd htu HP2 HBA2 HSA2 HS2 HB2 HD2
  go_wp2_with fail
  refine (of17_any 8 _ (by decide)).mono ?_
  rintro e wa3 ⟨rfl, ho3, ha3⟩
  have hs3 := (unhide HS3).below ha3
  have HP3 := hide (buput_any w.heap.size w.heap.size 2 v3 ps3 (ofK _ 8) wa3 ((unhide HT).below (below0 (unhide HB3) ha3)) hs3 (own_row_tu hs3 ho3) (show 1 ≤ 10 by decide) (show 1 ≤ 1000 by decide))
  have HBA3 := hide (below0 (unhide HB3) ha3)
  have HSA3 := hide hs3
  clear ho3 ha3 hs3
  go_wp2_with fail
  refine (unhide HP3).mono ?_
  rintro e wb3 ⟨he, v4, ps4, hb, hpd, htu, -⟩
  rw [ofK_pd, unhide HD3, ex4.1] at he
  rw [ofK_pd, unhide HD3, ex4.2] at hpd
  subst he
  have HS4 := hide hb
  have HD4 := hide hpd
  have HB4 := hide ((unhide HSA3).step (unhide HBA3) htu)
  clear hb hpd htu HP3 HBA3 HSA3 HS3 HB3 HD3
  have HAL := hide (buall_any w.heap.size w.heap.size 2 v4 ps4 wb3 (unhide HS4))
  go_wp2_with fail
  refine (unhide HAL).mono ?_
  rintro e X ⟨b, c, us, rfl, ho, hk, hpd, hbx⟩
  rw [unhide HD4] at hpd
  obtain ⟨hu2, hq0, hq1⟩ := list_two hpd
  have hps : ps4.length = 2 := (list_two (unhide HD4)).1
  rw [hps] at ho ⊢
  have HAT : Hid (∀ wx, Below X.heap.size X wx → (wx.cell? ⟨b, 0, none⟩ = some (.int .i64 (us.getD 0 .dflt).o) ∧ wx.cell? ⟨b, 1, none⟩ = some (.int .i64 (us.getD 0 .dflt).l) ∧ wx.cell? ⟨b, 2, none⟩ = some (.int .i64 (us.getD 0 .dflt).k) ∧ wx.cell? ⟨b, 3, none⟩ = some (.int .i64 (us.getD 0 .dflt).z) ∧ wx.cell? ⟨b, 4, none⟩ = some (.int .i64 (us.getD 0 .dflt).h) ∧ wx.cell? ⟨b, 5, none⟩ = some (.slice (us.getD 0 .dflt).r.a (us.getD 0 .dflt).r.n (us.getD 0 .dflt).r.c) ∧ wx.cell? ⟨b, 6, none⟩ = some (.string (us.getD 0 .dflt).r.s) ∧ wx.cell? ⟨b, 7, none⟩ = some (.int .i64 (us.getD 1 .dflt).o) ∧ wx.cell? ⟨b, 8, none⟩ = some (.int .i64 (us.getD 1 .dflt).l) ∧ wx.cell? ⟨b, 9, none⟩ = some (.int .i64 (us.getD 1 .dflt).k) ∧ wx.cell? ⟨b, 10, none⟩ = some (.int .i64 (us.getD 1 .dflt).z) ∧ wx.cell? ⟨b, 11, none⟩ = some (.int .i64 (us.getD 1 .dflt).h) ∧ wx.cell? ⟨b, 12, none⟩ = some (.slice (us.getD 1 .dflt).r.a (us.getD 1 .dflt).r.n (us.getD 1 .dflt).r.c) ∧ wx.cell? ⟨b, 13, none⟩ = some (.string (us.getD 1 .dflt).r.s))) := hide fun wx hbb => by
    obtain ⟨hP, -⟩ := (ho.below hbb).at' (hk.ks.below hbb)
    obtain ⟨b', off', eb, hcl⟩ := hP.at (i := 0) (by decide)
    simp only [Option.some.injEq, Addr.mk.injEq, and_true] at eb
    have k0 := hcl 0 (by decide)
    have k1 := hcl 1 (by decide)
    rw [← eb.1, ← eb.2] at k0 k1
    exact ⟨k0.1, k0.2.1, k0.2.2.1, k0.2.2.2.1, k0.2.2.2.2.1, k0.2.2.2.2.2.1, k0.2.2.2.2.2.2, k1.1, k1.2.1, k1.2.2.1, k1.2.2.2.1, k1.2.2.2.2.1, k1.2.2.2.2.2.1, k1.2.2.2.2.2.2⟩
  have hr0 := (hk.ks.get (i := 0) (by rw [hu2]; decide)).1
  have hr1 := (hk.ks.get (i := 1) (by rw [hu2]; decide)).1
  have HLB := hide (fun wx (hbb : Below X.heap.size X wx) => bulen_any w.heap.size w.heap.size 2 v4 ps4 wx ((unhide HS4).below (below0 hbx hbb)))
  rw [hps] at HLB
  have HBX := hide (below0 (unhide HB4) hbx)
  generalize us.getD 0 .dflt = q0 at *
  generalize us.getD 1 .dflt = q1 at *
  have hn0 : q0.r.n ≤ 1048576 := by
    have h1 : q0.r.xs = [1] := congrArg PD.xs hq0
    rw [← hr0.1, h1]; decide
  have hn1 : q1.r.n ≤ 1048576 := by
    have h1 : q1.r.xs = [8] := congrArg PD.xs hq1
    rw [← hr1.1, h1]; decide
  have HSM0 : Hid (∀ (wx : World) (bb B2 : Nat), Below X.heap.size X wx → Own wx B2 (.slice (some ⟨bb, 0, none⟩) 1 1) [1] → Calls Tryd.prog 20 #[q0.val, (ofK bb 1).val] wx fun e w' => e = .returned (.bool true) ∧ Below wx.heap.size wx w') := hide fun wx bb B2 hbb hoo => by
    obtain ⟨a', c', e, hrr⟩ := hoo.row
    simp only [Value.slice.injEq] at e
    rw [← e.1, ← e.2.1] at hrr
    have h1 := rpsame_is q0 (ofK bb 1) wx (hr0.below hbb) hrr hn0 (show 1 ≤ 1048576 by decide)
    rw [ofK_pd, hq0, sameD_self] at h1
    exact h1
  have HSM1 : Hid (∀ (wx : World) (bb B2 : Nat), Below X.heap.size X wx → Own wx B2 (.slice (some ⟨bb, 0, none⟩) 1 1) [8] → Calls Tryd.prog 20 #[q1.val, (ofK bb 8).val] wx fun e w' => e = .returned (.bool true) ∧ Below wx.heap.size wx w') := hide fun wx bb B2 hbb hoo => by
    obtain ⟨a', c', e, hrr⟩ := hoo.row
    simp only [Value.slice.injEq] at e
    rw [← e.1, ← e.2.1] at hrr
    have h1 := rpsame_is q1 (ofK bb 8) wx (hr1.below hbb) hrr hn1 (show 1 ≤ 1048576 by decide)
    rw [ofK_pd, hq1, sameD_self] at h1
    exact h1
  unfold ofK PKV.val at HSM0 HSM1
  obtain ⟨t0, t1, t2, t3, t4, t5, t6, t7, t8, t9, t10, t11, t12, t13⟩ := unhide HAT X (Below.refl _ _)
  have HF1 : Hid True := hide trivial
  have HF2 : Hid True := hide trivial
  clear ho hk hpd hbx hu2 hq0 hq1 hps hr0 hr1 hn0 hn1 HAL HS4 HD4 HB4
  go_wp2_with fail
  go_region_held3 (fun w' => w'.cell? ⟨b, 0, none⟩ = some (.int .i64 q0.o) ∧ w'.cell? ⟨b, 1, none⟩ = some (.int .i64 q0.l) ∧ w'.cell? ⟨b, 2, none⟩ = some (.int .i64 q0.k) ∧ w'.cell? ⟨b, 3, none⟩ = some (.int .i64 q0.z) ∧ w'.cell? ⟨b, 4, none⟩ = some (.int .i64 q0.h) ∧ w'.cell? ⟨b, 5, none⟩ = some (.slice q0.r.a q0.r.n q0.r.c) ∧ w'.cell? ⟨b, 6, none⟩ = some (.string q0.r.s) ∧ w'.cell? ⟨b, 7, none⟩ = some (.int .i64 q1.o) ∧ w'.cell? ⟨b, 8, none⟩ = some (.int .i64 q1.l) ∧ w'.cell? ⟨b, 9, none⟩ = some (.int .i64 q1.k) ∧ w'.cell? ⟨b, 10, none⟩ = some (.int .i64 q1.z) ∧ w'.cell? ⟨b, 11, none⟩ = some (.int .i64 q1.h) ∧ w'.cell? ⟨b, 12, none⟩ = some (.slice q1.r.a q1.r.n q1.r.c) ∧ w'.cell? ⟨b, 13, none⟩ = some (.string q1.r.s)) (go_keep) (first
    | (go_at_call 22; refine (of17_any 1 _ (by decide)).mono ?_; rintro e x1 ⟨he1, ho1, hb1⟩; clear HF1; unfold ofK PKV.val at he1; subst he1; have HO1 := hide ho1; have D1 := hide (show Below X.heap.size X x1 from below0 (Below.refl _ _).drew hb1); obtain ⟨t0, t1, t2, t3, t4, t5, t6, t7, t8, t9, t10, t11, t12, t13⟩ := unhide HAT x1 (unhide D1); clear ho1 hb1)
    | (go_at_call 20; refine (unhide HSM0 _ _ _ (unhide D1) (unhide HO1)).mono ?_; rintro e x2 ⟨rfl, hb2⟩; clear HF2; have D2 := hide (below0 (unhide D1) hb2); clear HO1; obtain ⟨t0, t1, t2, t3, t4, t5, t6, t7, t8, t9, t10, t11, t12, t13⟩ := unhide HAT x2 (unhide D2); clear hb2)
    | (go_at_call 22; refine (of17_any 8 _ (by decide)).mono ?_; rintro e x3 ⟨he3, ho3, hb3⟩; unfold ofK PKV.val at he3; subst he3; have HO3 := hide ho3; have D3 := hide (below0 (unhide D2) hb3); obtain ⟨t0, t1, t2, t3, t4, t5, t6, t7, t8, t9, t10, t11, t12, t13⟩ := unhide HAT x3 (unhide D3); clear ho3 hb3)
    | (go_at_call 20; refine (unhide HSM1 _ _ _ (unhide D3) (unhide HO3)).mono ?_; rintro e x4 ⟨rfl, hb4⟩; have D4 := hide (below0 (unhide D3) hb4); clear HO3; obtain ⟨t0, t1, t2, t3, t4, t5, t6, t7, t8, t9, t10, t11, t12, t13⟩ := unhide HAT x4 (unhide D4); clear hb4)
    | (go_at_call 14; refine (unhide HLB _ (unhide D4)).mono ?_; rintro e x5 ⟨rfl, hx5⟩; obtain rfl := hx5.symm))
  all_goals go_wp2
  all_goals go_ret
  all_goals exact ⟨rfl, below0 (unhide HBX) (unhide D4)⟩
end Go.Proofs.YtbppanebpfpioaaDoor
