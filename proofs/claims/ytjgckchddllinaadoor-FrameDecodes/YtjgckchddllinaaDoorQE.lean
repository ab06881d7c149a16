/-
  Contract of bucketlineref08.Decode: for every text of at most 2^20 bytes.
-/
import Derived.Test.YtjgckchddllinaaDoorQD
namespace Go.Proofs.YtjgckchddllinaaDoor
open Go.RowKit Go.Sort
set_option linter.unusedVariables false
set_option maxRecDepth 4000

set_option maxHeartbeats 2000000 in
theorem rfdec_open (E : Nat) (hE : E = 2 ∨ E = 4) (s : ByteArray) (w : World) (hs : s.size ≤ 1048576) (ho : openE s = E) : Calls Tryd.prog 17 #[.string s] w (DecF w s) := by
  have hO := fun wx => ropen_any s wx hs
  rw [ho] at hO
  have HF := hide (show FDecP s 0 0 0 0 0 0 0 0 [] ⟨#[]⟩ E from fd_open (by omega) ho.symm fz_zero)
  have HO := hide hO
  have X0 := hide (frb_new w (.int .i64 0) (.int .i64 0) (.int .i64 0) (.int .i64 0) (.int .i64 0) (.int .i64 0) (.int .i64 0) (.int .i64 0) (.slice none 0 0) (.string ⟨#[]⟩))
  have B0 := hide (below_new w (.cells #[.int .i64 0, .int .i64 0, .int .i64 0, .int .i64 0, .int .i64 0, .int .i64 0, .int .i64 0, .int .i64 0, .slice none 0 0, .string ⟨#[]⟩] 28))
  generalize openT s = T at *
  clear hs ho hO
  rcases hE with rfl | rfl
  all_goals
    go_enter Tryd.func17, Tryd.ntmps17
    go_wp2_with fail
    refine (unhide HO _).mono ?_
    rintro e w1 ⟨rfl, hb1⟩
    have X1 := hide ((unhide X0).below hb1)
    have B1 := hide (below0 (unhide B0) hb1)
    clear hb1 X0 B0 HO
    obtain ⟨⟨k0, k1, k2⟩, k3, k4, k5, k6, k7, k8, k9⟩ := (unhide X1).at
    have f := (unhide X1).frz
    go_wp2
    have q := hide ((unhide X1).sets (.int .i64 0) (.int .i64 0) (.int .i64 0) (.int .i64 0) (.int .i64 0) (.int .i64 0) (.int .i64 0) (.int .i64 0) (.slice none 0 0) (.string ⟨#[]⟩))
    have b := hide (below10 (unhide B1) (Nat.le_refl _) (.int .i64 0) (.int .i64 0) (.int .i64 0) (.int .i64 0) (.int .i64 0) (.int .i64 0) (.int .i64 0) (.int .i64 0) (.slice none 0 0) (.string ⟨#[]⟩))
    exact bodyPost_ret (results_rfdec rfl rfl (unhide q)) rfl (decf_zero (unhide HF) (unhide b))

set_option maxHeartbeats 2000000 in
theorem rfdec_short (s T : ByteArray) (w : World) (hO : ∀ wx, Calls Tryd.prog 34 #[.string s] wx fun e w' => e = .returned (.tuple #[.string T, .int .i64 ((0 : Nat) : Int)]) ∧ Below wx.heap.size wx w') (h6 : T.size < 6) (hd : FDecP s 0 0 0 0 0 0 0 0 [] ⟨#[]⟩ 2) :
    Calls Tryd.prog 17 #[.string s] w (DecF w s) := by
  have HO := hide hO
  have X0 := hide (frb_new w (.int .i64 0) (.int .i64 0) (.int .i64 0) (.int .i64 0) (.int .i64 0) (.int .i64 0) (.int .i64 0) (.int .i64 0) (.slice none 0 0) (.string ⟨#[]⟩))
  have B0 := hide (below_new w (.cells #[.int .i64 0, .int .i64 0, .int .i64 0, .int .i64 0, .int .i64 0, .int .i64 0, .int .i64 0, .int .i64 0, .slice none 0 0, .string ⟨#[]⟩] 28))
  have h6' : (T.size : Int) < 6 := by omega
  have HF := hide hd
  clear h6 hO hd
  go_enter Tryd.func17, Tryd.ntmps17
  go_wp2_with fail
  refine (unhide HO _).mono ?_
  rintro e w1 ⟨rfl, hb1⟩
  have X1 := hide ((unhide X0).below hb1)
  have B1 := hide (below0 (unhide B0) hb1)
  clear hb1 X0 B0 HO
  obtain ⟨⟨k0, k1, k2⟩, k3, k4, k5, k6, k7, k8, k9⟩ := (unhide X1).at
  have f := (unhide X1).frz
  go_wp2
  have q := hide ((unhide X1).sets (.int .i64 0) (.int .i64 0) (.int .i64 0) (.int .i64 0) (.int .i64 0) (.int .i64 0) (.int .i64 0) (.int .i64 0) (.slice none 0 0) (.string ⟨#[]⟩))
  have b := hide (below10 (unhide B1) (Nat.le_refl _) (.int .i64 0) (.int .i64 0) (.int .i64 0) (.int .i64 0) (.int .i64 0) (.int .i64 0) (.int .i64 0) (.int .i64 0) (.slice none 0 0) (.string ⟨#[]⟩))
  exact bodyPost_ret (results_rfdec rfl rfl (unhide q)) rfl (decf_zero (en := 2) (unhide HF) (unhide b))


set_option maxHeartbeats 4000000 in
theorem rfdec_bad (s T : ByteArray) (x0 x1 x2 : Nat) (w : World) (hs : T.size ≤ 1048576) (hO : ∀ wx, Calls Tryd.prog 34 #[.string s] wx fun e w' => e = .returned (.tuple #[.string T, .int .i64 ((0 : Nat) : Int)]) ∧ Below wx.heap.size wx w') (h6 : ¬ T.size < 6) (hx0 : hdK T = x0) (hx1 : hdF T = x1) (hx2 : hdI T = x2) (hb : badP T) (hd : FDecP s 0 0 0 0 0 0 0 0 [] ⟨#[]⟩ 3) :
    Calls Tryd.prog 17 #[.string s] w (DecF w s) := by
  have HO := hide hO
  have X0 := hide (frb_new w (.int .i64 0) (.int .i64 0) (.int .i64 0) (.int .i64 0) (.int .i64 0) (.int .i64 0) (.int .i64 0) (.int .i64 0) (.slice none 0 0) (.string ⟨#[]⟩))
  have B0 := hide (below_new w (.cells #[.int .i64 0, .int .i64 0, .int .i64 0, .int .i64 0, .int .i64 0, .int .i64 0, .int .i64 0, .int .i64 0, .slice none 0 0, .string ⟨#[]⟩] 28))
  have h6' : ¬ ((T.size : Int) < 6) := by omega
  have h2' : (2 : Int) ≤ (T.size : Int) := by omega
  have hs6 : (6 : Int) ≤ (T.size : Int) := by omega
  have z0 : 0 < T.size := by omega
  have z1 : 1 < T.size := by omega
  have z0' : (0 : Int) < (T.size : Int) := by omega
  have z1' : (1 : Int) < (T.size : Int) := by omega
  have b0 : x0 < 256 := by rw [← hx0]; exact (tx_bytes T).get 0
  have b1 : x1 < 256 := by rw [← hx1]; exact (tx_bytes T).get 1
  have v0 : IntKind.i64.wrap (x0 : Int) = (x0 : Int) := by rw [IntKind.wrap_i64]; omega
  have v1 : IntKind.i64.wrap (x1 : Int) = (x1 : Int) := by rw [IntKind.wrap_i64]; omega
  have i0 : T[0].toNat = x0 := by rw [tx_get T 0 z0]; exact hx0
  have i1 : T[1].toNat = x1 := by rw [tx_get T 1 z1]; exact hx1
  have g4 := g_yes (s := T.extract 2 T.size) (k := 4) (.inr (.inr rfl)) (by rw [ByteArray.size_extract]; omega)
  rw [tx_tail] at g4
  have G4 := fun wx => rget_num_any (T.extract 2 T.size) 4 wx
  rw [g4.1, g4.2, show num (((tx T).drop 2).take (4 : Int).toNat) = x2 from hx2] at G4
  have HG := hide G4
  have HF := hide hd
  have HB := hide (show 8 ≤ (x1 : Int) ∨ (¬ 8 ≤ (x1 : Int) ∧ (x0 : Int) ≠ 1 ∧ (x0 : Int) ≠ 2) ∨ (¬ 8 ≤ (x1 : Int) ∧ (x0 : Int) = 1 ∧ 6 < (T.size : Int)) by
    unfold badP at hb
    rw [hx0, hx1] at hb
    omega)
  clear hb hd
  clear g4 G4 hx0 hx1 hx2 h6 hO hs
  go_enter Tryd.func17, Tryd.ntmps17
  go_wp2_with fail
  refine (unhide HO _).mono ?_
  rintro e w1 ⟨rfl, hb1⟩
  have X1 := hide ((unhide X0).below hb1)
  have B1 := hide (below0 (unhide B0) hb1)
  have hlt := (unhide X1).lt
  clear hb1 X0 B0 HO
  go_wp2_with fail
  refine wp_region_any (by kernel_rfl) ?_
  change wpAny _ _ _ _ _ _ _ (World.drew _)
  refine wpAny_take (i := 0) (v := ?_) rfl (by kernel_rfl) (by kernel_rfl) (by kernel_rfl) (fun _ _ _ h => h) (Or.inl ⟨by rfl, ?f0⟩) ?_
  case f0 => (intro w; go_simp; try with_reducible rfl)
  refine wpAny_take (i := 1) (v := ?_) rfl (by kernel_rfl) (by kernel_rfl) (by kernel_rfl) (fun _ _ _ h => h) (Or.inl ⟨by rfl, ?f1⟩) ?_
  case f1 => (intro w; go_simp; try with_reducible rfl)
  refine wpAny_take (i := 2) (v := ?_) rfl (by kernel_rfl) (by kernel_rfl) (by kernel_rfl) (fun _ _ _ h => h) (Or.inl ⟨by rfl, ?f2⟩) ?_
  case f2 => (intro w; go_simp; try with_reducible rfl)
  refine wpAny_take (i := 3) (v := ?_) rfl (by kernel_rfl) (by kernel_rfl) (by kernel_rfl) (fun _ _ _ h => h) (Or.inl ⟨by rfl, ?f3⟩) ?_
  case f3 => (intro w; go_simp; try with_reducible rfl)
  refine wpAny_take (i := 4) (v := ?_) rfl (by kernel_rfl) (by kernel_rfl) (by kernel_rfl) (fun _ _ _ h => h) (Or.inl ⟨by rfl, ?f4⟩) ?_
  case f4 => (intro w; go_simp; try with_reducible rfl)
  refine wpAny_take (i := 5) (v := ?_) rfl (by kernel_rfl) (by kernel_rfl) (by kernel_rfl) (fun _ _ _ h => h) (Or.inl ⟨by rfl, ?f5⟩) ?_
  case f5 => (intro w; go_simp; try with_reducible rfl)
  refine wpAny_take (i := 6) (v := ?_) rfl (by kernel_rfl) (by kernel_rfl) (by kernel_rfl) (fun _ _ _ h => h) (Or.inl ⟨by rfl, ?f6⟩) ?_
  case f6 => (intro w; go_simp; try with_reducible rfl)
  refine wpAny_ready (rs := [7]) (by kernel_rfl) (by simp) ?_
  refine AllReady.cons rfl (fun K hK => ?_) AllReady.nil
  go_simp
  refine hK _ _ ?_
  clear hK K
  refine wpAny_ready (rs := [8]) (by kernel_rfl) (by simp) ?_
  refine AllReady.cons rfl (fun K hK => ?_) AllReady.nil
  go_simp
  refine hK _ _ ?_
  clear hK K
  refine wpAny_done (by kernel_rfl) ?_ _
  clear i0 i1 v0 v1 b0 b1
  have X3 := hide ((unhide X1).below (below_new w1 (.cells #[.int .i64 (x0 : Int), .int .i64 (x1 : Int), .int .i64 0, .int .i64 0, .int .i64 0, .int .i64 0, .int .i64 0, .int .i64 0, .slice none 0 0, .string ⟨#[]⟩] 28)).drew)
  have B3 := hide (below0 (unhide B1) (below_new w1 (.cells #[.int .i64 (x0 : Int), .int .i64 (x1 : Int), .int .i64 0, .int .i64 0, .int .i64 0, .int .i64 0, .int .i64 0, .int .i64 0, .slice none 0 0, .string ⟨#[]⟩] 28)).drew)
  have Y3 : Hid (FrB (w1.alloc (.cells #[.int .i64 (x0 : Int), .int .i64 (x1 : Int), .int .i64 0, .int .i64 0, .int .i64 0, .int .i64 0, .int .i64 0, .int .i64 0, .slice none 0 0, .string ⟨#[]⟩] 28)).drew w1.heap.size (.int .i64 (x0 : Int)) (.int .i64 (x1 : Int)) (.int .i64 0) (.int .i64 0) (.int .i64 0) (.int .i64 0) (.int .i64 0) (.int .i64 0) (.slice none 0 0) (.string ⟨#[]⟩)) := hide (frb_new w1 (.int .i64 (x0 : Int)) (.int .i64 (x1 : Int)) (.int .i64 0) (.int .i64 0) (.int .i64 0) (.int .i64 0) (.int .i64 0) (.int .i64 0) (.slice none 0 0) (.string ⟨#[]⟩))
  clear X1 B1
  generalize (w1.alloc (.cells #[.int .i64 (x0 : Int), .int .i64 (x1 : Int), .int .i64 0, .int .i64 0, .int .i64 0, .int .i64 0, .int .i64 0, .int .i64 0, .slice none 0 0, .string ⟨#[]⟩] 28)).drew = w3 at *
  generalize w1.heap.size = g at *
  go_wp2_with fail
  refine (unhide HG _).mono ?_
  rintro e w' ⟨rfl, hw⟩
  obtain rfl := hw.symm
  clear hw
  have m2 := (unhide Y3).at.1.2.2
  have mf := (unhide Y3).frz
  iterate 16 (first | go_values | go_skip | go_guarded | go_step | go_upon | go_back | go_simp)
  have Y4 := hide ((unhide Y3).set2 (.int .i64 (x2 : Int)))
  have X4 := hide ((unhide X3).other (a := ⟨g, 2, none⟩) (Nat.ne_of_lt hlt) (.int .i64 (x2 : Int)))
  have B4 := hide ((unhide B3).setCell (p := ⟨g, 2, none⟩) (Nat.le_of_lt hlt) (.int .i64 (x2 : Int)))
  generalize w3.setCell ⟨g, 2, none⟩ (.int .i64 (x2 : Int)) = w4 at *
  clear m2 mf X3 Y3 B3 HG
  obtain ⟨⟨k0, k1, k2⟩, k3, k4, k5, k6, k7, k8, k9⟩ := (unhide X4).at
  have f := (unhide X4).frz
  have m0 := (unhide Y4).at.1.1
  have m1 := (unhide Y4).at.1.2.1
  clear Y4
  have q := hide ((unhide X4).sets (.int .i64 0) (.int .i64 0) (.int .i64 0) (.int .i64 0) (.int .i64 0) (.int .i64 0) (.int .i64 0) (.int .i64 0) (.slice none 0 0) (.string ⟨#[]⟩))
  have b := hide (below10 (unhide B4) (Nat.le_refl _) (.int .i64 0) (.int .i64 0) (.int .i64 0) (.int .i64 0) (.int .i64 0) (.int .i64 0) (.int .i64 0) (.int .i64 0) (.slice none 0 0) (.string ⟨#[]⟩))
  clear X4 B4
  generalize (x0 : Int) = kd at *
  generalize (x1 : Int) = fr at *
  rcases (unhide HB) with h | ⟨h, h1, h2⟩ | ⟨h, h1, h2⟩
  · clear HB
    go_wp2
    exact bodyPost_ret (results_rfdec rfl rfl (unhide q)) rfl (decf_zero (en := 3) (unhide HF) (unhide b))
  · clear HB
    go_wp2
    exact bodyPost_ret (results_rfdec rfl rfl (unhide q)) rfl (decf_zero (en := 3) (unhide HF) (unhide b))
  · subst h1
    clear HB
    go_wp2
    exact bodyPost_ret (results_rfdec rfl rfl (unhide q)) rfl (decf_zero (en := 3) (unhide HF) (unhide b))

set_option maxHeartbeats 4000000 in
theorem rfdec_hello (s T : ByteArray) (x0 x1 x2 : Nat) (w : World) (hs : T.size ≤ 1048576) (hO : ∀ wx, Calls Tryd.prog 34 #[.string s] wx fun e w' => e = .returned (.tuple #[.string T, .int .i64 ((0 : Nat) : Int)]) ∧ Below wx.heap.size wx w') (h6 : ¬ T.size < 6) (hx0 : hdK T = x0) (hx1 : hdF T = x1) (hx2 : hdI T = x2) (h8 : ¬ 8 ≤ x1) (hk : x0 = 1) (hz : ¬ 6 < T.size) (hd : FDecP s (x0 : Int) (x1 : Int) (x2 : Int) 0 0 0 0 0 [] ⟨#[]⟩ 0) :
    Calls Tryd.prog 17 #[.string s] w (DecF w s) := by
  have HO := hide hO
  have X0 := hide (frb_new w (.int .i64 0) (.int .i64 0) (.int .i64 0) (.int .i64 0) (.int .i64 0) (.int .i64 0) (.int .i64 0) (.int .i64 0) (.slice none 0 0) (.string ⟨#[]⟩))
  have B0 := hide (below_new w (.cells #[.int .i64 0, .int .i64 0, .int .i64 0, .int .i64 0, .int .i64 0, .int .i64 0, .int .i64 0, .int .i64 0, .slice none 0 0, .string ⟨#[]⟩] 28))
  have h6' : ¬ ((T.size : Int) < 6) := by omega
  have h2' : (2 : Int) ≤ (T.size : Int) := by omega
  have hs6 : (6 : Int) ≤ (T.size : Int) := by omega
  have z0 : 0 < T.size := by omega
  have z1 : 1 < T.size := by omega
  have z0' : (0 : Int) < (T.size : Int) := by omega
  have z1' : (1 : Int) < (T.size : Int) := by omega
  have b0 : x0 < 256 := by rw [← hx0]; exact (tx_bytes T).get 0
  have b1 : x1 < 256 := by rw [← hx1]; exact (tx_bytes T).get 1
  have v0 : IntKind.i64.wrap (x0 : Int) = (x0 : Int) := by rw [IntKind.wrap_i64]; omega
  have v1 : IntKind.i64.wrap (x1 : Int) = (x1 : Int) := by rw [IntKind.wrap_i64]; omega
  have i0 : T[0].toNat = x0 := by rw [tx_get T 0 z0]; exact hx0
  have i1 : T[1].toNat = x1 := by rw [tx_get T 1 z1]; exact hx1
  have g4 := g_yes (s := T.extract 2 T.size) (k := 4) (.inr (.inr rfl)) (by rw [ByteArray.size_extract]; omega)
  rw [tx_tail] at g4
  have G4 := fun wx => rget_num_any (T.extract 2 T.size) 4 wx
  rw [g4.1, g4.2, show num (((tx T).drop 2).take (4 : Int).toNat) = x2 from hx2] at G4
  have HG := hide G4
  have HF := hide hd
  have HK := hide (show ¬ 8 ≤ (x1 : Int) ∧ (x0 : Int) = 1 by omega)
  have HZ := hide (show ¬ 6 < (T.size : Int) by omega)
  clear h8 hk hz hd
  clear g4 G4 hx0 hx1 hx2 h6 hO hs
  go_enter Tryd.func17, Tryd.ntmps17
  go_wp2_with fail
  refine (unhide HO _).mono ?_
  rintro e w1 ⟨rfl, hb1⟩
  have X1 := hide ((unhide X0).below hb1)
  have B1 := hide (below0 (unhide B0) hb1)
  have hlt := (unhide X1).lt
  clear hb1 X0 B0 HO
  go_wp2_with fail
  refine wp_region_any (by kernel_rfl) ?_
  change wpAny _ _ _ _ _ _ _ (World.drew _)
  refine wpAny_take (i := 0) (v := ?_) rfl (by kernel_rfl) (by kernel_rfl) (by kernel_rfl) (fun _ _ _ h => h) (Or.inl ⟨by rfl, ?f0⟩) ?_
  case f0 => (intro w; go_simp; try with_reducible rfl)
  refine wpAny_take (i := 1) (v := ?_) rfl (by kernel_rfl) (by kernel_rfl) (by kernel_rfl) (fun _ _ _ h => h) (Or.inl ⟨by rfl, ?f1⟩) ?_
  case f1 => (intro w; go_simp; try with_reducible rfl)
  refine wpAny_take (i := 2) (v := ?_) rfl (by kernel_rfl) (by kernel_rfl) (by kernel_rfl) (fun _ _ _ h => h) (Or.inl ⟨by rfl, ?f2⟩) ?_
  case f2 => (intro w; go_simp; try with_reducible rfl)
  refine wpAny_take (i := 3) (v := ?_) rfl (by kernel_rfl) (by kernel_rfl) (by kernel_rfl) (fun _ _ _ h => h) (Or.inl ⟨by rfl, ?f3⟩) ?_
  case f3 => (intro w; go_simp; try with_reducible rfl)
  refine wpAny_take (i := 4) (v := ?_) rfl (by kernel_rfl) (by kernel_rfl) (by kernel_rfl) (fun _ _ _ h => h) (Or.inl ⟨by rfl, ?f4⟩) ?_
  case f4 => (intro w; go_simp; try with_reducible rfl)
  refine wpAny_take (i := 5) (v := ?_) rfl (by kernel_rfl) (by kernel_rfl) (by kernel_rfl) (fun _ _ _ h => h) (Or.inl ⟨by rfl, ?f5⟩) ?_
  case f5 => (intro w; go_simp; try with_reducible rfl)
  refine wpAny_take (i := 6) (v := ?_) rfl (by kernel_rfl) (by kernel_rfl) (by kernel_rfl) (fun _ _ _ h => h) (Or.inl ⟨by rfl, ?f6⟩) ?_
  case f6 => (intro w; go_simp; try with_reducible rfl)
  refine wpAny_ready (rs := [7]) (by kernel_rfl) (by simp) ?_
  refine AllReady.cons rfl (fun K hK => ?_) AllReady.nil
  go_simp
  refine hK _ _ ?_
  clear hK K
  refine wpAny_ready (rs := [8]) (by kernel_rfl) (by simp) ?_
  refine AllReady.cons rfl (fun K hK => ?_) AllReady.nil
  go_simp
  refine hK _ _ ?_
  clear hK K
  refine wpAny_done (by kernel_rfl) ?_ _
  clear i0 i1 v0 v1 b0 b1
  have X3 := hide ((unhide X1).below (below_new w1 (.cells #[.int .i64 (x0 : Int), .int .i64 (x1 : Int), .int .i64 0, .int .i64 0, .int .i64 0, .int .i64 0, .int .i64 0, .int .i64 0, .slice none 0 0, .string ⟨#[]⟩] 28)).drew)
  have B3 := hide (below0 (unhide B1) (below_new w1 (.cells #[.int .i64 (x0 : Int), .int .i64 (x1 : Int), .int .i64 0, .int .i64 0, .int .i64 0, .int .i64 0, .int .i64 0, .int .i64 0, .slice none 0 0, .string ⟨#[]⟩] 28)).drew)
  have Y3 : Hid (FrB (w1.alloc (.cells #[.int .i64 (x0 : Int), .int .i64 (x1 : Int), .int .i64 0, .int .i64 0, .int .i64 0, .int .i64 0, .int .i64 0, .int .i64 0, .slice none 0 0, .string ⟨#[]⟩] 28)).drew w1.heap.size (.int .i64 (x0 : Int)) (.int .i64 (x1 : Int)) (.int .i64 0) (.int .i64 0) (.int .i64 0) (.int .i64 0) (.int .i64 0) (.int .i64 0) (.slice none 0 0) (.string ⟨#[]⟩)) := hide (frb_new w1 (.int .i64 (x0 : Int)) (.int .i64 (x1 : Int)) (.int .i64 0) (.int .i64 0) (.int .i64 0) (.int .i64 0) (.int .i64 0) (.int .i64 0) (.slice none 0 0) (.string ⟨#[]⟩))
  clear X1 B1
  generalize (w1.alloc (.cells #[.int .i64 (x0 : Int), .int .i64 (x1 : Int), .int .i64 0, .int .i64 0, .int .i64 0, .int .i64 0, .int .i64 0, .int .i64 0, .slice none 0 0, .string ⟨#[]⟩] 28)).drew = w3 at *
  generalize w1.heap.size = g at *
  go_wp2_with fail
  refine (unhide HG _).mono ?_
  rintro e w' ⟨rfl, hw⟩
  obtain rfl := hw.symm
  clear hw
  have m2 := (unhide Y3).at.1.2.2
  have mf := (unhide Y3).frz
  iterate 16 (first | go_values | go_skip | go_guarded | go_step | go_upon | go_back | go_simp)
  have Y4 := hide ((unhide Y3).set2 (.int .i64 (x2 : Int)))
  have X4 := hide ((unhide X3).other (a := ⟨g, 2, none⟩) (Nat.ne_of_lt hlt) (.int .i64 (x2 : Int)))
  have B4 := hide ((unhide B3).setCell (p := ⟨g, 2, none⟩) (Nat.le_of_lt hlt) (.int .i64 (x2 : Int)))
  generalize w3.setCell ⟨g, 2, none⟩ (.int .i64 (x2 : Int)) = w4 at *
  clear m2 mf X3 Y3 B3 HG
  have m0 := (unhide Y4).at.1.1
  have m1 := (unhide Y4).at.1.2.1
  generalize (x0 : Int) = kd at *
  generalize (x1 : Int) = fr at *
  obtain ⟨h8', hk'⟩ := unhide HK
  clear HK
  subst hk'
  have hz' := unhide HZ
  iterate 60 (first | go_values | go_skip | go_guarded | go_step | go_upon | go_back | go_simp)
  go_step
  obtain ⟨⟨k0, k1, k2⟩, k3, k4, k5, k6, k7, k8, k9⟩ := (unhide X4).at
  have f := (unhide X4).frz
  obtain ⟨⟨-, -, m2⟩, m3, m4, m5, m6, m7, m8, m9⟩ := (unhide Y4).at
  go_wp2
  have q := hide ((unhide X4).sets (.int .i64 1) (.int .i64 fr) (.int .i64 (x2 : Int)) (.int .i64 0) (.int .i64 0) (.int .i64 0) (.int .i64 0) (.int .i64 0) (.slice none 0 0) (.string ⟨#[]⟩))
  have b := hide (below10 (unhide B4) (Nat.le_refl _) (.int .i64 1) (.int .i64 fr) (.int .i64 (x2 : Int)) (.int .i64 0) (.int .i64 0) (.int .i64 0) (.int .i64 0) (.int .i64 0) (.slice none 0 0) (.string ⟨#[]⟩))
  exact bodyPost_ret (results_rfdec rfl rfl (unhide q)) rfl ⟨_, _, _, 0, 0, 0, 0, 0, none, 0, 0, [], ⟨#[]⟩, 0, rfl, row_none _, unhide HF, unhide b⟩

set_option maxHeartbeats 4000000 in
theorem rfdec_data (s T : ByteArray) (x0 x1 x2 : Nat) (w : World) (hs : T.size ≤ 1048576) (hO : ∀ wx, Calls Tryd.prog 34 #[.string s] wx fun e w' => e = .returned (.tuple #[.string T, .int .i64 ((0 : Nat) : Int)]) ∧ Below wx.heap.size wx w') (h6 : ¬ T.size < 6) (hx0 : hdK T = x0) (hx1 : hdF T = x1) (hx2 : hdI T = x2) (h8 : ¬ 8 ≤ x1) (hk : x0 = 2)
    (hF : ∀ (o l k z h : Int) (xs : List Nat) (t : ByteArray) (en : Nat), DecP (restT T) o l k z h xs t en → (en = 0 ∨ en = 2 ∨ en = 3) ∧ (en ≠ 0 → FDecP s 0 0 0 0 0 0 0 0 [] ⟨#[]⟩ en) ∧ (en = 0 → FDecP s (x0 : Int) (x1 : Int) (x2 : Int) o l k z h xs t 0)) :
    Calls Tryd.prog 17 #[.string s] w (DecF w s) := by
  have HO := hide hO
  have X0 := hide (frb_new w (.int .i64 0) (.int .i64 0) (.int .i64 0) (.int .i64 0) (.int .i64 0) (.int .i64 0) (.int .i64 0) (.int .i64 0) (.slice none 0 0) (.string ⟨#[]⟩))
  have B0 := hide (below_new w (.cells #[.int .i64 0, .int .i64 0, .int .i64 0, .int .i64 0, .int .i64 0, .int .i64 0, .int .i64 0, .int .i64 0, .slice none 0 0, .string ⟨#[]⟩] 28))
  have h6' : ¬ ((T.size : Int) < 6) := by omega
  have h2' : (2 : Int) ≤ (T.size : Int) := by omega
  have hs6 : (6 : Int) ≤ (T.size : Int) := by omega
  have z0 : 0 < T.size := by omega
  have z1 : 1 < T.size := by omega
  have z0' : (0 : Int) < (T.size : Int) := by omega
  have z1' : (1 : Int) < (T.size : Int) := by omega
  have b0 : x0 < 256 := by rw [← hx0]; exact (tx_bytes T).get 0
  have b1 : x1 < 256 := by rw [← hx1]; exact (tx_bytes T).get 1
  have v0 : IntKind.i64.wrap (x0 : Int) = (x0 : Int) := by rw [IntKind.wrap_i64]; omega
  have v1 : IntKind.i64.wrap (x1 : Int) = (x1 : Int) := by rw [IntKind.wrap_i64]; omega
  have i0 : T[0].toNat = x0 := by rw [tx_get T 0 z0]; exact hx0
  have i1 : T[1].toNat = x1 := by rw [tx_get T 1 z1]; exact hx1
  have g4 := g_yes (s := T.extract 2 T.size) (k := 4) (.inr (.inr rfl)) (by rw [ByteArray.size_extract]; omega)
  rw [tx_tail] at g4
  have G4 := fun wx => rget_num_any (T.extract 2 T.size) 4 wx
  rw [g4.1, g4.2, show num (((tx T).drop 2).take (4 : Int).toNat) = x2 from hx2] at G4
  have HG := hide G4
  have HF := hide hF
  have HK := hide (show ¬ 8 ≤ (x1 : Int) ∧ (x0 : Int) = 2 by omega)
  have HR := hide (fun wx => rdec_any (restT T) wx (by unfold restT; rw [ByteArray.size_extract]; omega))
  have hrest : T.extract 6 T.size = restT T := rfl
  clear h8 hk hF
  generalize restT T = R at *
  clear g4 G4 hx0 hx1 hx2 h6 hO hs
  go_enter Tryd.func17, Tryd.ntmps17
  go_wp2_with fail
  refine (unhide HO _).mono ?_
  rintro e w1 ⟨rfl, hb1⟩
  have X1 := hide ((unhide X0).below hb1)
  have B1 := hide (below0 (unhide B0) hb1)
  have hlt := (unhide X1).lt
  clear hb1 X0 B0 HO
  go_wp2_with fail
  refine wp_region_any (by kernel_rfl) ?_
  change wpAny _ _ _ _ _ _ _ (World.drew _)
  refine wpAny_take (i := 0) (v := ?_) rfl (by kernel_rfl) (by kernel_rfl) (by kernel_rfl) (fun _ _ _ h => h) (Or.inl ⟨by rfl, ?f0⟩) ?_
  case f0 => (intro w; go_simp; try with_reducible rfl)
  refine wpAny_take (i := 1) (v := ?_) rfl (by kernel_rfl) (by kernel_rfl) (by kernel_rfl) (fun _ _ _ h => h) (Or.inl ⟨by rfl, ?f1⟩) ?_
  case f1 => (intro w; go_simp; try with_reducible rfl)
  refine wpAny_take (i := 2) (v := ?_) rfl (by kernel_rfl) (by kernel_rfl) (by kernel_rfl) (fun _ _ _ h => h) (Or.inl ⟨by rfl, ?f2⟩) ?_
  case f2 => (intro w; go_simp; try with_reducible rfl)
  refine wpAny_take (i := 3) (v := ?_) rfl (by kernel_rfl) (by kernel_rfl) (by kernel_rfl) (fun _ _ _ h => h) (Or.inl ⟨by rfl, ?f3⟩) ?_
  case f3 => (intro w; go_simp; try with_reducible rfl)
  refine wpAny_take (i := 4) (v := ?_) rfl (by kernel_rfl) (by kernel_rfl) (by kernel_rfl) (fun _ _ _ h => h) (Or.inl ⟨by rfl, ?f4⟩) ?_
  case f4 => (intro w; go_simp; try with_reducible rfl)
  refine wpAny_take (i := 5) (v := ?_) rfl (by kernel_rfl) (by kernel_rfl) (by kernel_rfl) (fun _ _ _ h => h) (Or.inl ⟨by rfl, ?f5⟩) ?_
  case f5 => (intro w; go_simp; try with_reducible rfl)
  refine wpAny_take (i := 6) (v := ?_) rfl (by kernel_rfl) (by kernel_rfl) (by kernel_rfl) (fun _ _ _ h => h) (Or.inl ⟨by rfl, ?f6⟩) ?_
  case f6 => (intro w; go_simp; try with_reducible rfl)
  refine wpAny_ready (rs := [7]) (by kernel_rfl) (by simp) ?_
  refine AllReady.cons rfl (fun K hK => ?_) AllReady.nil
  go_simp
  refine hK _ _ ?_
  clear hK K
  refine wpAny_ready (rs := [8]) (by kernel_rfl) (by simp) ?_
  refine AllReady.cons rfl (fun K hK => ?_) AllReady.nil
  go_simp
  refine hK _ _ ?_
  clear hK K
  refine wpAny_done (by kernel_rfl) ?_ _
  clear i0 i1 v0 v1 b0 b1
  have X3 := hide ((unhide X1).below (below_new w1 (.cells #[.int .i64 (x0 : Int), .int .i64 (x1 : Int), .int .i64 0, .int .i64 0, .int .i64 0, .int .i64 0, .int .i64 0, .int .i64 0, .slice none 0 0, .string ⟨#[]⟩] 28)).drew)
  have B3 := hide (below0 (unhide B1) (below_new w1 (.cells #[.int .i64 (x0 : Int), .int .i64 (x1 : Int), .int .i64 0, .int .i64 0, .int .i64 0, .int .i64 0, .int .i64 0, .int .i64 0, .slice none 0 0, .string ⟨#[]⟩] 28)).drew)
  have Y3 : Hid (FrB (w1.alloc (.cells #[.int .i64 (x0 : Int), .int .i64 (x1 : Int), .int .i64 0, .int .i64 0, .int .i64 0, .int .i64 0, .int .i64 0, .int .i64 0, .slice none 0 0, .string ⟨#[]⟩] 28)).drew w1.heap.size (.int .i64 (x0 : Int)) (.int .i64 (x1 : Int)) (.int .i64 0) (.int .i64 0) (.int .i64 0) (.int .i64 0) (.int .i64 0) (.int .i64 0) (.slice none 0 0) (.string ⟨#[]⟩)) := hide (frb_new w1 (.int .i64 (x0 : Int)) (.int .i64 (x1 : Int)) (.int .i64 0) (.int .i64 0) (.int .i64 0) (.int .i64 0) (.int .i64 0) (.int .i64 0) (.slice none 0 0) (.string ⟨#[]⟩))
  clear X1 B1
  generalize (w1.alloc (.cells #[.int .i64 (x0 : Int), .int .i64 (x1 : Int), .int .i64 0, .int .i64 0, .int .i64 0, .int .i64 0, .int .i64 0, .int .i64 0, .slice none 0 0, .string ⟨#[]⟩] 28)).drew = w3 at *
  generalize w1.heap.size = g at *
  go_wp2_with fail
  refine (unhide HG _).mono ?_
  rintro e w' ⟨rfl, hw⟩
  obtain rfl := hw.symm
  clear hw
  have m2 := (unhide Y3).at.1.2.2
  have mf := (unhide Y3).frz
  iterate 16 (first | go_values | go_skip | go_guarded | go_step | go_upon | go_back | go_simp)
  have Y4 := hide ((unhide Y3).set2 (.int .i64 (x2 : Int)))
  have X4 := hide ((unhide X3).other (a := ⟨g, 2, none⟩) (Nat.ne_of_lt hlt) (.int .i64 (x2 : Int)))
  have B4 := hide ((unhide B3).setCell (p := ⟨g, 2, none⟩) (Nat.le_of_lt hlt) (.int .i64 (x2 : Int)))
  generalize w3.setCell ⟨g, 2, none⟩ (.int .i64 (x2 : Int)) = w4 at *
  clear m2 mf X3 Y3 B3 HG
  have m0 := (unhide Y4).at.1.1
  have m1 := (unhide Y4).at.1.2.1
  generalize (x0 : Int) = kd at *
  generalize (x1 : Int) = fr at *
  obtain ⟨h8', hk'⟩ := unhide HK
  clear HK
  subst hk'
  go_wp2_with fail
  refine (unhide HR _).mono ?_
  rintro e w5 ⟨o, l, k, z, h, a, n, c, xs, t, en, rfl, hr, hrd, hb5⟩
  have X5 := (unhide X4).below hb5
  have Y5 := (unhide Y4).below hb5
  have B5 := below0 (unhide B4) hb5
  have X6 := hide (X5.below (below_new w5 (.cells #[.int .i64 o, .int .i64 l, .int .i64 k, .int .i64 z, .int .i64 h, .slice a n c, .string t] 26)))
  have Y6 := hide (Y5.below (below_new w5 (.cells #[.int .i64 o, .int .i64 l, .int .i64 k, .int .i64 z, .int .i64 h, .slice a n c, .string t] 26)))
  have B6 := hide (below0 B5 (below_new w5 (.cells #[.int .i64 o, .int .i64 l, .int .i64 k, .int .i64 z, .int .i64 h, .slice a n c, .string t] 26)))
  have R6 := hide (row_alloc hr (.cells #[.int .i64 o, .int .i64 l, .int .i64 k, .int .i64 z, .int .i64 h, .slice a n c, .string t] 26))
  have Z6 := hide (pkb_new w5 (.int .i64 o) (.int .i64 l) (.int .i64 k) (.int .i64 z) (.int .i64 h) (.slice a n c) (.string t))
  obtain ⟨hEN, hN, hY⟩ := unhide HF _ _ _ _ _ _ _ _ hrd
  have HEN := hide hEN
  have HN := hide hN
  have HY := hide hY
  clear hb5 X5 Y5 B5 X4 Y4 B4 HR hr hrd HF m0 m1 hEN hN hY
  iterate 19 (first | go_values | go_skip | go_guarded | go_step | go_upon | go_back | go_simp)
  generalize w5.alloc (.cells #[.int .i64 o, .int .i64 l, .int .i64 k, .int .i64 z, .int .i64 h, .slice a n c, .string t] 26) = w6 at *
  generalize w5.heap.size = g7 at *
  rcases (unhide HEN) with rfl | rfl | rfl
  · have HP := hide (unhide HY rfl)
    clear HEN HN HY
    obtain ⟨n0, n1, n2, n3, n4, n5, n6⟩ := (unhide Z6).at
    obtain ⟨⟨m0, m1, m2⟩, m3, m4, m5, m6, m7, m8, m9⟩ := (unhide Y6).at
    have mf := (unhide Y6).frz
    iterate 29 (first | go_values | go_skip | go_guarded | go_step | go_upon | go_back | go_simp)
    clear n0 n1 n2 n3 n4 n5 n6 m0 m1 m2 m3 m4 m5 m6 m7 m8 m9 mf
    have Y7 := hide ((unhide Y6).setp (.int .i64 o) (.int .i64 l) (.int .i64 k) (.int .i64 z) (.int .i64 h) (.slice a n c) (.string t))
    have X7 := hide ((unhide X6).otherp (Nat.ne_of_lt hlt) (.int .i64 o) (.int .i64 l) (.int .i64 k) (.int .i64 z) (.int .i64 h) (.slice a n c) (.string t))
    have B7 := hide (belowP (unhide B6) (Nat.le_of_lt hlt) (.int .i64 o) (.int .i64 l) (.int .i64 k) (.int .i64 z) (.int .i64 h) (.slice a n c) (.string t))
    have R7 := hide ((unhide R6).otherP ((unhide Y6).apart (unhide R6)) (.int .i64 o) (.int .i64 l) (.int .i64 k) (.int .i64 z) (.int .i64 h) (.slice a n c) (.string t))
    clear X6 Y6 B6 R6 Z6
    conv => arg 2; change setP w6 g (.int .i64 o) (.int .i64 l) (.int .i64 k) (.int .i64 z) (.int .i64 h) (.slice a n c) (.string t)
    generalize setP w6 g (.int .i64 o) (.int .i64 l) (.int .i64 k) (.int .i64 z) (.int .i64 h) (.slice a n c) (.string t) = w7 at *
    obtain ⟨⟨k0, k1, k2⟩, k3, k4, k5, k6, k7, k8, k9⟩ := (unhide X7).at
    have f := (unhide X7).frz
    obtain ⟨⟨m0, m1, m2⟩, m3, m4, m5, m6, m7, m8, m9⟩ := (unhide Y7).at
    have q := hide ((unhide X7).sets (.int .i64 2) (.int .i64 fr) (.int .i64 (x2 : Int)) (.int .i64 o) (.int .i64 l) (.int .i64 k) (.int .i64 z) (.int .i64 h) (.slice a n c) (.string t))
    have b := hide (below10 (unhide B7) (Nat.le_refl _) (.int .i64 2) (.int .i64 fr) (.int .i64 (x2 : Int)) (.int .i64 o) (.int .i64 l) (.int .i64 k) (.int .i64 z) (.int .i64 h) (.slice a n c) (.string t))
    have r := hide ((unhide R7).other10 ((unhide X7).apart (unhide R7)) (.int .i64 2) (.int .i64 fr) (.int .i64 (x2 : Int)) (.int .i64 o) (.int .i64 l) (.int .i64 k) (.int .i64 z) (.int .i64 h) (.slice a n c) (.string t))
    clear X7 Y7 B7 R7
    go_wp2
    exact bodyPost_ret (results_rfdec rfl rfl (unhide q)) rfl ⟨_, _, _, o, l, k, z, h, a, n, c, xs, t, 0, rfl, unhide r, unhide HP, unhide b⟩
  · obtain ⟨⟨k0, k1, k2⟩, k3, k4, k5, k6, k7, k8, k9⟩ := (unhide X6).at
    have f := (unhide X6).frz
    have HP := hide (unhide HN (by decide))
    have q := hide ((unhide X6).sets (.int .i64 0) (.int .i64 0) (.int .i64 0) (.int .i64 0) (.int .i64 0) (.int .i64 0) (.int .i64 0) (.int .i64 0) (.slice none 0 0) (.string ⟨#[]⟩))
    have b := hide (below10 (unhide B6) (Nat.le_refl _) (.int .i64 0) (.int .i64 0) (.int .i64 0) (.int .i64 0) (.int .i64 0) (.int .i64 0) (.int .i64 0) (.int .i64 0) (.slice none 0 0) (.string ⟨#[]⟩))
    clear HEN HN HY X6 Y6 B6 R6 Z6
    go_wp2
    exact bodyPost_ret (results_rfdec rfl rfl (unhide q)) rfl (decf_zero (en := 2) (unhide HP) (unhide b))
  · obtain ⟨⟨k0, k1, k2⟩, k3, k4, k5, k6, k7, k8, k9⟩ := (unhide X6).at
    have f := (unhide X6).frz
    have HP := hide (unhide HN (by decide))
    have q := hide ((unhide X6).sets (.int .i64 0) (.int .i64 0) (.int .i64 0) (.int .i64 0) (.int .i64 0) (.int .i64 0) (.int .i64 0) (.int .i64 0) (.slice none 0 0) (.string ⟨#[]⟩))
    have b := hide (below10 (unhide B6) (Nat.le_refl _) (.int .i64 0) (.int .i64 0) (.int .i64 0) (.int .i64 0) (.int .i64 0) (.int .i64 0) (.int .i64 0) (.int .i64 0) (.slice none 0 0) (.string ⟨#[]⟩))
    clear HEN HN HY X6 Y6 B6 R6 Z6
    go_wp2
    exact bodyPost_ret (results_rfdec rfl rfl (unhide q)) rfl (decf_zero (en := 3) (unhide HP) (unhide b))

theorem rfdec_any (s : ByteArray) (w : World) (hs : s.size ≤ 1048576) : Calls Tryd.prog 17 #[.string s] w (DecF w s) := by
  rcases open_cases s with h0 | h0 | h0
  · have hO := fun wx => ropen_any s wx hs
    have hTs := openT_le s
    obtain ⟨T, hT⟩ : ∃ T, openT s = T := ⟨_, rfl⟩
    rw [h0, hT] at hO
    rw [hT] at hTs
    by_cases h6 : T.size < 6
    · exact rfdec_short s T w hO h6 (fd_opened h0 hT (fd_short h6 rfl fz_zero))
    · by_cases hb : badP T
      · exact rfdec_bad s T _ _ _ w (by omega) hO h6 rfl rfl rfl hb (fd_opened h0 hT (fd_bad h6 hb rfl fz_zero))
      · have h8 : ¬ 8 ≤ hdF T := fun h => hb (.inl h)
        by_cases h1 : hdK T = 1
        · exact rfdec_hello s T _ _ _ w (by omega) hO h6 rfl rfl rfl h8 h1 (fun h => hb (.inr (.inr ⟨h1, h⟩))) (fd_opened h0 hT (fd_hello h6 hb h1 rfl ⟨rfl, rfl, rfl⟩ zero_zero))
        · have h2 : hdK T = 2 := by
            by_cases h : hdK T = 2
            · exact h
            · exact absurd (.inr (.inl ⟨h1, h⟩)) hb
          refine rfdec_data s T _ _ _ w (by omega) hO h6 rfl rfl rfl h8 h2 fun o l k z h xs t en hp => ?_
          have hr : ReadP (hdK T : Int) (restT T) o l k z h xs t en := ⟨fun h => by omega, fun _ => hp, fun _ h => by omega⟩
          have := fd_read h6 h8 hr
          exact ⟨read_en hr, fun h => fd_opened h0 hT (this.1 h), fun h => fd_opened h0 hT (this.2 h)⟩
  · exact rfdec_open 2 (.inl rfl) s w hs h0
  · exact rfdec_open 4 (.inr rfl) s w hs h0
end Go.Proofs.YtjgckchddllinaaDoor
