/-
  Contract of bucketlineref07.Decode: for every text of at most 2^47 - 4096 bytes.
-/
import Derived.Test.YtjgckchddllinaaDoorPI
namespace Go.Proofs.YtjgckchddllinaaDoor
open Go.RowKit Go.Sort
set_option linter.unusedVariables false
set_option maxRecDepth 4000

theorem results_rdec {tmps : Array Value} {W : World} {g : Nat} {x : Int} {u0 u1 u2 u3 u4 u5 u6 : Value} (h2 : tmps.getD 2 undef = .pointer (some ⟨g, 0, none⟩)) (h3 : tmps.getD 3 undef = .int .i64 x) (hq : PkB W g u0 u1 u2 u3 u4 u5 u6) :
    (results Tryd.f36 tmps).run Tryd.prog W = .ok (.tuple #[.agg #[u0, u1, u2, u3, u4, u5, u6], .int .i64 x]) W := by
  obtain ⟨k0, k1, k2, k3, k4, k5, k6⟩ := hq.at
  have h2' : tmps[2]?.getD undef = .pointer (some ⟨g, 0, none⟩) := by simpa using h2
  have h3' : tmps[3]?.getD undef = .int .i64 x := by simpa using h3
  simp [results, Tryd.results36, go_sem, h2', h3', k0, k1, k2, k3, k4, k5, k6]
theorem tx_tail (s : ByteArray) (i : Nat) : tx (s.extract i s.size) = (tx s).drop i := by
  rw [tx_cut, List.take_of_length_le (by rw [List.length_drop, tx_length]; omega)]

set_option maxHeartbeats 2000000 in
theorem rdec_any (s : ByteArray) (w : World) (hs : s.size ≤ 140737488351232) : Calls Tryd.prog 36 #[.string s] w (DecR w s) := by
  by_cases h11 : s.size < 11
  · have h11' : ((s.size : Int) < 11) := by omega
    have HF := hide (show shortP s from .inl h11)
    clear h11
    go_enter Tryd.func36, Tryd.ntmps36
    go_wp2
    exact bodyPost_ret (results_rdec rfl rfl (pkb_new w (.int .i64 0) (.int .i64 0) (.int .i64 0) (.int .i64 0) (.int .i64 0) (.slice none 0 0) (.string ⟨#[]⟩))) rfl (dec_zero (en := 2) (.inl ⟨unhide HF, rfl⟩) (below_new w _))
  · have h11' : ¬ ((s.size : Int) < 11) := by omega
    have H11 := hide h11
    have h4 : (4 : Int) ≤ (s.size : Int) := by omega
    obtain ⟨b1, hb1⟩ := tb_ex (shapedP (dK s) (dZ s))
    have H1 := hide hb1
    have g4 := (g_yes (s := s) (k := 4) (.inr (.inr rfl)) (by omega))
    have g8 := (g_yes (s := s.extract 4 s.size) (k := 4) (.inr (.inr rfl)) (by rw [ByteArray.size_extract]; omega))
    rw [tx_tail] at g8
    have G4 := fun wx => rget_num_any s 4 wx
    have G8 := fun wx => rget_num_any (s.extract 4 s.size) 4 wx
    rw [g4.1, g4.2] at G4
    rw [g8.1, g8.2] at G8
    have G4 := hide (show ∀ wx, Calls Tryd.prog 35 #[.string s, .int .i64 4] wx fun e w' => e = .returned (.tuple #[.int .i64 ((dO s : Nat) : Int), .int .i64 ((0 : Nat) : Int)]) ∧ w' = wx from G4)
    have G8 := hide (show ∀ wx, Calls Tryd.prog 35 #[.string (s.extract 4 s.size), .int .i64 4] wx fun e w' => e = .returned (.tuple #[.int .i64 ((dL s : Nat) : Int), .int .i64 ((0 : Nat) : Int)]) ∧ w' = wx from G8)
    have z8 : 8 < s.size := by omega
    have z9 : 9 < s.size := by omega
    have z10 : 10 < s.size := by omega
    have i8 := tx_get s 8 z8
    have i9 := tx_get s 9 z9
    have i10 := tx_get s 10 z10
    have b8 := (tx_bytes s).get 8
    have b9 := (tx_bytes s).get 9
    have b10 := (tx_bytes s).get 10
    rw [show (tx s).getD 8 0 = dK s from rfl] at i8 b8
    rw [show (tx s).getD 9 0 = dZ s from rfl] at i9 b9
    rw [show (tx s).getD 10 0 = dH s from rfl] at i10 b10
    clear hb1 h11 g4 g8
    have X2 := hide ((pkb_new w (.int .i64 0) (.int .i64 0) (.int .i64 0) (.int .i64 0) (.int .i64 0) (.slice none 0 0) (.string ⟨#[]⟩)).below (below_new (w.alloc (.cells #[.int .i64 0, .int .i64 0, .int .i64 0, .int .i64 0, .int .i64 0, .slice none 0 0, .string ⟨#[]⟩] 26)) (.cells #[.int .i64 ((dO s : Nat) : Int), .int .i64 ((dL s : Nat) : Int), .int .i64 ((dK s : Nat) : Int), .int .i64 ((dZ s : Nat) : Int), .int .i64 ((dH s : Nat) : Int), .slice none 0 0, .string ⟨#[]⟩] 26)))
    have X4 := pkb_new (w.alloc (.cells #[.int .i64 0, .int .i64 0, .int .i64 0, .int .i64 0, .int .i64 0, .slice none 0 0, .string ⟨#[]⟩] 26)) (.int .i64 ((dO s : Nat) : Int)) (.int .i64 ((dL s : Nat) : Int)) (.int .i64 ((dK s : Nat) : Int)) (.int .i64 ((dZ s : Nat) : Int)) (.int .i64 ((dH s : Nat) : Int)) (.slice none 0 0) (.string ⟨#[]⟩)
    rw [alloc_size] at X4
    have X4 := hide X4
    have B1 := hide (below2' w (.cells #[.int .i64 0, .int .i64 0, .int .i64 0, .int .i64 0, .int .i64 0, .slice none 0 0, .string ⟨#[]⟩] 26) (.cells #[.int .i64 ((dO s : Nat) : Int), .int .i64 ((dL s : Nat) : Int), .int .i64 ((dK s : Nat) : Int), .int .i64 ((dZ s : Nat) : Int), .int .i64 ((dH s : Nat) : Int), .slice none 0 0, .string ⟨#[]⟩] 26))
    go_enter Tryd.func36, Tryd.ntmps36
    go_wp2_with fail
    refine (unhide G4 _).mono ?_
    rintro e w' ⟨rfl, hw⟩
    obtain rfl := hw.symm
    clear hw
    go_wp2_with fail
    refine (unhide G8 _).mono ?_
    rintro e w' ⟨rfl, hw⟩
    obtain rfl := hw.symm
    clear hw
    go_wp2_with fail
    refine (rsizes_any _ _ _ b1 (unhide H1)).mono ?_
    rintro e w' ⟨rfl, hw⟩
    obtain rfl := hw.symm
    clear hw
    cases b1
    · have HB := hide (show ¬ shortP s ∧ ¬ goodP s from ⟨by rintro (h | h); exact unhide H11 h; simpa using (unhide H1).2 h.1, fun h => by simpa using (unhide H1).2 h.1.1⟩)
      go_wp2
      exact bodyPost_ret (results_rdec rfl rfl (unhide X2)) rfl (dec_zero (en := 3) (.inr ⟨(unhide HB).1, (unhide HB).2, rfl⟩) (unhide B1))
    · have hsh := (unhide H1).1 rfl
      have hz1 : (1 : Int) ≤ ((dZ s : Nat) : Int) := hsh.2.1
      have hz2 : ((dZ s : Nat) : Int) ≤ 64 := hsh.2.2
      have HZ := hide (fun wx => rsize_any ((dK s : Nat) : Int) wx)
      have hN : sizeOfK ((dK s : Nat) : Int) = 1 ∨ sizeOfK ((dK s : Nat) : Int) = 2 := by
        have h1 := hsh.1
        unfold sizeOfK
        rw [if_neg (by omega)]
        omega
      have HG := hide (fun wx => rgetvec_any (s.extract 11 s.size) ((dK s : Nat) : Int) wx (by rw [ByteArray.size_extract]; omega))
      have hs11 : (11 : Int) ≤ (s.size : Int) := by omega
      clear hsh
      rcases hN with hN | hN
      · rw [hN] at HZ
        have HN := hide (show dN s = 19 from by unfold dN; rw [hN])
        have HS := hide hN
        clear hN
        by_cases hsz : (s.size : Int) < 19 + ((dZ s : Nat) : Int)
        · have HF := hide (show shortP s from .inr ⟨(unhide H1).1 rfl, by have := unhide HN; omega⟩)
          go_wp2_with fail
          refine (unhide HZ _).mono ?_
          rintro e w' ⟨rfl, hw⟩
          obtain rfl := hw.symm
          clear hw
          go_wp2
          exact bodyPost_ret (results_rdec rfl rfl (unhide X2)) rfl (dec_zero (en := 2) (.inl ⟨unhide HF, rfl⟩) (unhide B1))
        · have hD : (19 : Int) ≤ (s.size : Int) := by omega
          have HSZ := hide (show 19 + dZ s ≤ s.size by omega)
          have HNS := hide (show ¬ shortP s from by rintro (h | h); exact unhide H11 h; have := h.2; have := unhide HN; have := unhide HSZ; omega)
          go_wp2_with fail
          refine (unhide HZ _).mono ?_
          rintro e w' ⟨rfl, hw⟩
          obtain rfl := hw.symm
          clear hw
          go_wp2_with fail
          refine wp_region_any (by kernel_rfl) ?_
          change wpAny _ _ _ _ _ _ _ (World.drew _)
          refine wpAny_take (i := 0) (v := ?_) rfl (by kernel_rfl) (by kernel_rfl) (by kernel_rfl) (fun _ _ _ h => h) (Or.inl ⟨by rfl, ?f0⟩) ?_
          case f0 => (intro w; go_simp; try with_reducible rfl)
          refine wpAny_take (i := 1) (v := ?_) rfl (by kernel_rfl) (by kernel_rfl) (by kernel_rfl) (fun _ _ _ h => h) (Or.inl ⟨by rfl, ?f1⟩) ?_
          case f1 => (intro w; go_simp; try with_reducible rfl)
          refine wpAny_take (i := 2) (v := ?_) rfl (by kernel_rfl) (by kernel_rfl) (by kernel_rfl) (fun _ _ _ h => h) (Or.inl ⟨by rfl, ?f2⟩) ?_
          case f2 => (intro w; go_simp; try with_reducible rfl)
          refine wpAny_ready (rs := [3]) (by kernel_rfl) (by simp) ?_
          refine AllReady.cons rfl (fun K hK => ?_) AllReady.nil
          go_simp
          refine hK _ _ ?_
          clear hK K
          refine wpAny_ready (rs := [4]) (by kernel_rfl) (by simp) ?_
          refine AllReady.cons rfl (fun K hK => ?_) AllReady.nil
          go_simp
          refine (unhide HG _).mono ?_
          rintro e w3 ⟨v, xs, en, rfl, ho, hgot, hb3⟩
          obtain ⟨a1, c1, rfl, hr1⟩ := ho.row
          have HA : Hid (∀ ad, a1 = some ad → xs.length ≠ 0 → w.heap.size + 2 ≤ ad.block) := hide (fun ad h1 h2 => by have := ho.apart ad h1 h2; simpa using this)
          have HR3 := hide hr1
          have HP := hide hgot
          have V2 := hide ((unhide X2).below ((Below.refl _ _).drew.trans hb3))
          have V4 := hide ((unhide X4).below ((Below.refl _ _).drew.trans hb3))
          have B3 := hide (below0 (unhide B1) ((Below.refl _ _).drew.trans hb3))
          clear ho hr1 hgot hb3 X2 X4 B1 HG HZ
          refine hK _ _ ?_
          clear hK K
          refine wpAny_take (i := 5) (v := ?_) rfl (by kernel_rfl) (by kernel_rfl) (by kernel_rfl) (fun _ _ _ h => h) (Or.inl ⟨by rfl, ?f5⟩) ?_
          case f5 => (intro w; go_simp; try with_reducible rfl)
          refine wpAny_take (i := 6) (v := ?_) rfl (by kernel_rfl) (by kernel_rfl) (by kernel_rfl) (fun _ _ _ h => h) (Or.inl ⟨by rfl, ?f6⟩) ?_
          case f6 => (intro w; go_simp; try with_reducible rfl)
          refine wpAny_take (i := 7) (v := ?_) rfl (by kernel_rfl) (by kernel_rfl) (by kernel_rfl) (fun _ _ _ h => h) (Or.inl ⟨by rfl, ?f7⟩) ?_
          case f7 => (intro w; go_simp; try with_reducible rfl)
          refine wpAny_take (i := 8) (v := ?_) rfl (by kernel_rfl) (by kernel_rfl) (by kernel_rfl) (fun _ _ _ h => h) (Or.inl ⟨by rfl, ?f8⟩) ?_
          case f8 => (intro w; go_simp; try with_reducible rfl)
          refine wpAny_take (i := 9) (v := ?_) rfl (by kernel_rfl) (by kernel_rfl) (by kernel_rfl) (fun _ _ _ h => h) (Or.inl ⟨by rfl, ?f9⟩) ?_
          case f9 => (intro w; go_simp; try with_reducible rfl)
          refine wpAny_done (by kernel_rfl) ?_ _
          obtain ⟨g, hg⟩ : ∃ g, w.heap.size + 1 = g := ⟨_, rfl⟩
          have hlt : w.heap.size < g := by omega
          have HA : Hid (∀ ad, a1 = some ad → xs.length ≠ 0 → g < ad.block) := hide (fun ad h1 h2 => by have := unhide HA ad h1 h2; omega)
          rw [hg] at V4 ⊢
          clear hg
          have HTS := hide (show (s.extract 19 s.size).size = s.size - dN s by have := unhide HN; rw [ByteArray.size_extract]; omega)
          have HX := hide (show wsL (tx (s.extract 11 s.size)) (sizeOfK (dK s)) = dX s by rw [tx_tail]; rfl)
          obtain ⟨T, hT⟩ : ∃ T, s.extract 19 s.size = T := ⟨_, rfl⟩
          have HT := hide hT
          rw [hT] at HTS
          have U4 := hide (((unhide V4).set5 (.slice a1 xs.length c1)).set6 (.string T))
          have U2 := hide (((unhide V2).other (a := ⟨g, 5, none⟩) (Nat.ne_of_lt hlt) (.slice a1 xs.length c1)).other (a := ⟨g, 6, none⟩) (Nat.ne_of_lt hlt) (.string T))
          have B4 := hide (((unhide B3).setCell (p := ⟨g, 5, none⟩) (Nat.le_of_lt hlt) (.slice a1 xs.length c1)).setCell (p := ⟨g, 6, none⟩) (Nat.le_of_lt hlt) (.string T))
          have HR4 := hide (((unhide HR3).other (B := g) (fun ad h1 h2 => by have := unhide HA ad h1 h2; omega) 5 (.slice a1 xs.length c1)).other (B := g) (fun ad h1 h2 => by have := unhide HA ad h1 h2; omega) 6 (.string T))
          obtain ⟨m0, m1, m2, m3, m4, m5, m6⟩ := (unhide V4).at
          have mf := (unhide V4).frz
          obtain ⟨n0, n1, n2, n3, n4, n5, n6⟩ := (unhide U4).at
          have EN : Hid ((en = 3 ∧ ¬ goodP s) ∨ (en = 0 ∧ xs = dX s)) := hide (by
            have h8 : (s.extract 11 s.size).size = s.size - 11 := by rw [ByteArray.size_extract]; omega
            have := unhide HN
            have := unhide HS
            have := unhide HSZ
            rcases unhide HP with ⟨a, _⟩ | ⟨_, b, _⟩ | ⟨_, _, c, d, _⟩ | ⟨_, _, c, d, e⟩
            · omega
            · omega
            · rw [unhide HX] at c
              exact .inl ⟨d, fun h => c h.2.1⟩
            · rw [unhide HX] at e
              exact .inr ⟨d, e⟩)
          rcases unhide EN with ⟨rfl, hng⟩ | ⟨rfl, hX⟩
          · have HNG := hide hng
            clear hng
            obtain ⟨j0, j1, j2, j3, j4, j5, j6⟩ := (unhide U2).at
            have jf := (unhide U2).frz
            obtain ⟨k0, k1, k2, k3, k4, k5, k6⟩ := (unhide V2).at
            have kf := (unhide V2).frz
            go_wp2
            have q := hide ((unhide U2).sets (.int .i64 0) (.int .i64 0) (.int .i64 0) (.int .i64 0) (.int .i64 0) (.slice none 0 0) (.string ⟨#[]⟩))
            have b := hide (below7 (unhide B4) (Nat.le_refl _) (.int .i64 0) (.int .i64 0) (.int .i64 0) (.int .i64 0) (.int .i64 0) (.slice none 0 0) (.string ⟨#[]⟩))
            exact bodyPost_ret (results_rdec rfl rfl (unhide q)) rfl (dec_zero (en := 3) (.inr ⟨unhide HNS, unhide HNG, rfl⟩) (unhide b))
          · have HXX := hide hX
            clear hX
            obtain ⟨ck, hck⟩ := ck_ex (CheckP (dO s) (dL s) (dK s) (dZ s) (dH s) xs T.size)
            have HC := hide hck
            clear hck
            go_wp2_with fail
            refine (rcheck_any _ _ _ _ _ a1 xs.length c1 xs T _ (unhide HR4) ck (unhide HC)).mono ?_
            rintro e w7 ⟨rfl, hb7⟩
            have R4 := hide ((unhide U4).below hb7)
            have R2 := hide ((unhide U2).below hb7)
            have B7 := hide (below0 (unhide B4) hb7)
            have HR7 := hide ((unhide HR4).below hb7)
            clear hb7 n0 n1 n2 n3 n4 n5 n6 m0 m1 m2 m3 m4 m5 m6 mf
            rcases (unhide HC) with ⟨hP, rfl⟩ | ⟨hP, rfl⟩
            · have HPP := hide (show goodP s from by unfold goodP; rw [← unhide HTS, ← unhide HXX]; exact hP)
              clear hP HC
              obtain ⟨n0, n1, n2, n3, n4, n5, n6⟩ := (unhide R4).at
              obtain ⟨k0, k1, k2, k3, k4, k5, k6⟩ := (unhide R2).at
              have kf := (unhide R2).frz
              go_wp2
              have q := hide ((unhide R2).sets (.int .i64 ((dO s : Nat) : Int)) (.int .i64 ((dL s : Nat) : Int)) (.int .i64 ((dK s : Nat) : Int)) (.int .i64 ((dZ s : Nat) : Int)) (.int .i64 ((dH s : Nat) : Int)) (.slice a1 xs.length c1) (.string T))
              have b := hide (below7 (unhide B7) (Nat.le_refl _) (.int .i64 ((dO s : Nat) : Int)) (.int .i64 ((dL s : Nat) : Int)) (.int .i64 ((dK s : Nat) : Int)) (.int .i64 ((dZ s : Nat) : Int)) (.int .i64 ((dH s : Nat) : Int)) (.slice a1 xs.length c1) (.string T))
              have r := hide ((unhide HR7).other7 (B := w.heap.size) (fun ad h1 h2 => by have := unhide HA ad h1 h2; omega) (.int .i64 ((dO s : Nat) : Int)) (.int .i64 ((dL s : Nat) : Int)) (.int .i64 ((dK s : Nat) : Int)) (.int .i64 ((dZ s : Nat) : Int)) (.int .i64 ((dH s : Nat) : Int)) (.slice a1 xs.length c1) (.string T))
              exact bodyPost_ret (results_rdec rfl rfl (unhide q)) rfl ⟨_, _, _, _, _, a1, xs.length, c1, xs, T, 0, rfl, unhide r, .inr (.inr ⟨unhide HNS, unhide HPP, rfl, rfl, rfl, rfl, rfl, rfl, unhide HXX, by rw [← unhide HT, unhide HN]⟩), unhide b⟩
            · have HPP := hide (show ¬ goodP s from fun h => hP (by unfold goodP at h; rw [unhide HTS, unhide HXX]; exact h))
              clear hP HC
              obtain ⟨k0, k1, k2, k3, k4, k5, k6⟩ := (unhide R2).at
              have kf := (unhide R2).frz
              go_wp2
              have q := hide ((unhide R2).sets (.int .i64 0) (.int .i64 0) (.int .i64 0) (.int .i64 0) (.int .i64 0) (.slice none 0 0) (.string ⟨#[]⟩))
              have b := hide (below7 (unhide B7) (Nat.le_refl _) (.int .i64 0) (.int .i64 0) (.int .i64 0) (.int .i64 0) (.int .i64 0) (.slice none 0 0) (.string ⟨#[]⟩))
              exact bodyPost_ret (results_rdec rfl rfl (unhide q)) rfl (dec_zero (en := 3) (.inr ⟨unhide HNS, unhide HPP, rfl⟩) (unhide b))
      · rw [hN] at HZ
        have HN := hide (show dN s = 27 from by unfold dN; rw [hN])
        have HS := hide hN
        clear hN
        by_cases hsz : (s.size : Int) < 27 + ((dZ s : Nat) : Int)
        · have HF := hide (show shortP s from .inr ⟨(unhide H1).1 rfl, by have := unhide HN; omega⟩)
          go_wp2_with fail
          refine (unhide HZ _).mono ?_
          rintro e w' ⟨rfl, hw⟩
          obtain rfl := hw.symm
          clear hw
          go_wp2
          exact bodyPost_ret (results_rdec rfl rfl (unhide X2)) rfl (dec_zero (en := 2) (.inl ⟨unhide HF, rfl⟩) (unhide B1))
        · have hD : (27 : Int) ≤ (s.size : Int) := by omega
          have HSZ := hide (show 27 + dZ s ≤ s.size by omega)
          have HNS := hide (show ¬ shortP s from by rintro (h | h); exact unhide H11 h; have := h.2; have := unhide HN; have := unhide HSZ; omega)
          go_wp2_with fail
          refine (unhide HZ _).mono ?_
          rintro e w' ⟨rfl, hw⟩
          obtain rfl := hw.symm
          clear hw
          go_wp2_with fail
          refine wp_region_any (by kernel_rfl) ?_
          change wpAny _ _ _ _ _ _ _ (World.drew _)
          refine wpAny_take (i := 0) (v := ?_) rfl (by kernel_rfl) (by kernel_rfl) (by kernel_rfl) (fun _ _ _ h => h) (Or.inl ⟨by rfl, ?f0⟩) ?_
          case f0 => (intro w; go_simp; try with_reducible rfl)
          refine wpAny_take (i := 1) (v := ?_) rfl (by kernel_rfl) (by kernel_rfl) (by kernel_rfl) (fun _ _ _ h => h) (Or.inl ⟨by rfl, ?f1⟩) ?_
          case f1 => (intro w; go_simp; try with_reducible rfl)
          refine wpAny_take (i := 2) (v := ?_) rfl (by kernel_rfl) (by kernel_rfl) (by kernel_rfl) (fun _ _ _ h => h) (Or.inl ⟨by rfl, ?f2⟩) ?_
          case f2 => (intro w; go_simp; try with_reducible rfl)
          refine wpAny_ready (rs := [3]) (by kernel_rfl) (by simp) ?_
          refine AllReady.cons rfl (fun K hK => ?_) AllReady.nil
          go_simp
          refine hK _ _ ?_
          clear hK K
          refine wpAny_ready (rs := [4]) (by kernel_rfl) (by simp) ?_
          refine AllReady.cons rfl (fun K hK => ?_) AllReady.nil
          go_simp
          refine (unhide HG _).mono ?_
          rintro e w3 ⟨v, xs, en, rfl, ho, hgot, hb3⟩
          obtain ⟨a1, c1, rfl, hr1⟩ := ho.row
          have HA : Hid (∀ ad, a1 = some ad → xs.length ≠ 0 → w.heap.size + 2 ≤ ad.block) := hide (fun ad h1 h2 => by have := ho.apart ad h1 h2; simpa using this)
          have HR3 := hide hr1
          have HP := hide hgot
          have V2 := hide ((unhide X2).below ((Below.refl _ _).drew.trans hb3))
          have V4 := hide ((unhide X4).below ((Below.refl _ _).drew.trans hb3))
          have B3 := hide (below0 (unhide B1) ((Below.refl _ _).drew.trans hb3))
          clear ho hr1 hgot hb3 X2 X4 B1 HG HZ
          refine hK _ _ ?_
          clear hK K
          refine wpAny_take (i := 5) (v := ?_) rfl (by kernel_rfl) (by kernel_rfl) (by kernel_rfl) (fun _ _ _ h => h) (Or.inl ⟨by rfl, ?f5⟩) ?_
          case f5 => (intro w; go_simp; try with_reducible rfl)
          refine wpAny_take (i := 6) (v := ?_) rfl (by kernel_rfl) (by kernel_rfl) (by kernel_rfl) (fun _ _ _ h => h) (Or.inl ⟨by rfl, ?f6⟩) ?_
          case f6 => (intro w; go_simp; try with_reducible rfl)
          refine wpAny_take (i := 7) (v := ?_) rfl (by kernel_rfl) (by kernel_rfl) (by kernel_rfl) (fun _ _ _ h => h) (Or.inl ⟨by rfl, ?f7⟩) ?_
          case f7 => (intro w; go_simp; try with_reducible rfl)
          refine wpAny_take (i := 8) (v := ?_) rfl (by kernel_rfl) (by kernel_rfl) (by kernel_rfl) (fun _ _ _ h => h) (Or.inl ⟨by rfl, ?f8⟩) ?_
          case f8 => (intro w; go_simp; try with_reducible rfl)
          refine wpAny_take (i := 9) (v := ?_) rfl (by kernel_rfl) (by kernel_rfl) (by kernel_rfl) (fun _ _ _ h => h) (Or.inl ⟨by rfl, ?f9⟩) ?_
          case f9 => (intro w; go_simp; try with_reducible rfl)
          refine wpAny_done (by kernel_rfl) ?_ _
          obtain ⟨g, hg⟩ : ∃ g, w.heap.size + 1 = g := ⟨_, rfl⟩
          have hlt : w.heap.size < g := by omega
          have HA : Hid (∀ ad, a1 = some ad → xs.length ≠ 0 → g < ad.block) := hide (fun ad h1 h2 => by have := unhide HA ad h1 h2; omega)
          rw [hg] at V4 ⊢
          clear hg
          have HTS := hide (show (s.extract 27 s.size).size = s.size - dN s by have := unhide HN; rw [ByteArray.size_extract]; omega)
          have HX := hide (show wsL (tx (s.extract 11 s.size)) (sizeOfK (dK s)) = dX s by rw [tx_tail]; rfl)
          obtain ⟨T, hT⟩ : ∃ T, s.extract 27 s.size = T := ⟨_, rfl⟩
          have HT := hide hT
          rw [hT] at HTS
          have U4 := hide (((unhide V4).set5 (.slice a1 xs.length c1)).set6 (.string T))
          have U2 := hide (((unhide V2).other (a := ⟨g, 5, none⟩) (Nat.ne_of_lt hlt) (.slice a1 xs.length c1)).other (a := ⟨g, 6, none⟩) (Nat.ne_of_lt hlt) (.string T))
          have B4 := hide (((unhide B3).setCell (p := ⟨g, 5, none⟩) (Nat.le_of_lt hlt) (.slice a1 xs.length c1)).setCell (p := ⟨g, 6, none⟩) (Nat.le_of_lt hlt) (.string T))
          have HR4 := hide (((unhide HR3).other (B := g) (fun ad h1 h2 => by have := unhide HA ad h1 h2; omega) 5 (.slice a1 xs.length c1)).other (B := g) (fun ad h1 h2 => by have := unhide HA ad h1 h2; omega) 6 (.string T))
          obtain ⟨m0, m1, m2, m3, m4, m5, m6⟩ := (unhide V4).at
          have mf := (unhide V4).frz
          obtain ⟨n0, n1, n2, n3, n4, n5, n6⟩ := (unhide U4).at
          have EN : Hid ((en = 3 ∧ ¬ goodP s) ∨ (en = 0 ∧ xs = dX s)) := hide (by
            have h8 : (s.extract 11 s.size).size = s.size - 11 := by rw [ByteArray.size_extract]; omega
            have := unhide HN
            have := unhide HS
            have := unhide HSZ
            rcases unhide HP with ⟨a, _⟩ | ⟨_, b, _⟩ | ⟨_, _, c, d, _⟩ | ⟨_, _, c, d, e⟩
            · omega
            · omega
            · rw [unhide HX] at c
              exact .inl ⟨d, fun h => c h.2.1⟩
            · rw [unhide HX] at e
              exact .inr ⟨d, e⟩)
          rcases unhide EN with ⟨rfl, hng⟩ | ⟨rfl, hX⟩
          · have HNG := hide hng
            clear hng
            obtain ⟨j0, j1, j2, j3, j4, j5, j6⟩ := (unhide U2).at
            have jf := (unhide U2).frz
            obtain ⟨k0, k1, k2, k3, k4, k5, k6⟩ := (unhide V2).at
            have kf := (unhide V2).frz
            go_wp2
            have q := hide ((unhide U2).sets (.int .i64 0) (.int .i64 0) (.int .i64 0) (.int .i64 0) (.int .i64 0) (.slice none 0 0) (.string ⟨#[]⟩))
            have b := hide (below7 (unhide B4) (Nat.le_refl _) (.int .i64 0) (.int .i64 0) (.int .i64 0) (.int .i64 0) (.int .i64 0) (.slice none 0 0) (.string ⟨#[]⟩))
            exact bodyPost_ret (results_rdec rfl rfl (unhide q)) rfl (dec_zero (en := 3) (.inr ⟨unhide HNS, unhide HNG, rfl⟩) (unhide b))
          · have HXX := hide hX
            clear hX
            obtain ⟨ck, hck⟩ := ck_ex (CheckP (dO s) (dL s) (dK s) (dZ s) (dH s) xs T.size)
            have HC := hide hck
            clear hck
            go_wp2_with fail
            refine (rcheck_any _ _ _ _ _ a1 xs.length c1 xs T _ (unhide HR4) ck (unhide HC)).mono ?_
            rintro e w7 ⟨rfl, hb7⟩
            have R4 := hide ((unhide U4).below hb7)
            have R2 := hide ((unhide U2).below hb7)
            have B7 := hide (below0 (unhide B4) hb7)
            have HR7 := hide ((unhide HR4).below hb7)
            clear hb7 n0 n1 n2 n3 n4 n5 n6 m0 m1 m2 m3 m4 m5 m6 mf
            rcases (unhide HC) with ⟨hP, rfl⟩ | ⟨hP, rfl⟩
            · have HPP := hide (show goodP s from by unfold goodP; rw [← unhide HTS, ← unhide HXX]; exact hP)
              clear hP HC
              obtain ⟨n0, n1, n2, n3, n4, n5, n6⟩ := (unhide R4).at
              obtain ⟨k0, k1, k2, k3, k4, k5, k6⟩ := (unhide R2).at
              have kf := (unhide R2).frz
              go_wp2
              have q := hide ((unhide R2).sets (.int .i64 ((dO s : Nat) : Int)) (.int .i64 ((dL s : Nat) : Int)) (.int .i64 ((dK s : Nat) : Int)) (.int .i64 ((dZ s : Nat) : Int)) (.int .i64 ((dH s : Nat) : Int)) (.slice a1 xs.length c1) (.string T))
              have b := hide (below7 (unhide B7) (Nat.le_refl _) (.int .i64 ((dO s : Nat) : Int)) (.int .i64 ((dL s : Nat) : Int)) (.int .i64 ((dK s : Nat) : Int)) (.int .i64 ((dZ s : Nat) : Int)) (.int .i64 ((dH s : Nat) : Int)) (.slice a1 xs.length c1) (.string T))
              have r := hide ((unhide HR7).other7 (B := w.heap.size) (fun ad h1 h2 => by have := unhide HA ad h1 h2; omega) (.int .i64 ((dO s : Nat) : Int)) (.int .i64 ((dL s : Nat) : Int)) (.int .i64 ((dK s : Nat) : Int)) (.int .i64 ((dZ s : Nat) : Int)) (.int .i64 ((dH s : Nat) : Int)) (.slice a1 xs.length c1) (.string T))
              exact bodyPost_ret (results_rdec rfl rfl (unhide q)) rfl ⟨_, _, _, _, _, a1, xs.length, c1, xs, T, 0, rfl, unhide r, .inr (.inr ⟨unhide HNS, unhide HPP, rfl, rfl, rfl, rfl, rfl, rfl, unhide HXX, by rw [← unhide HT, unhide HN]⟩), unhide b⟩
            · have HPP := hide (show ¬ goodP s from fun h => hP (by unfold goodP at h; rw [unhide HTS, unhide HXX]; exact h))
              clear hP HC
              obtain ⟨k0, k1, k2, k3, k4, k5, k6⟩ := (unhide R2).at
              have kf := (unhide R2).frz
              go_wp2
              have q := hide ((unhide R2).sets (.int .i64 0) (.int .i64 0) (.int .i64 0) (.int .i64 0) (.int .i64 0) (.slice none 0 0) (.string ⟨#[]⟩))
              have b := hide (below7 (unhide B7) (Nat.le_refl _) (.int .i64 0) (.int .i64 0) (.int .i64 0) (.int .i64 0) (.int .i64 0) (.slice none 0 0) (.string ⟨#[]⟩))
              exact bodyPost_ret (results_rdec rfl rfl (unhide q)) rfl (dec_zero (en := 3) (.inr ⟨unhide HNS, unhide HPP, rfl⟩) (unhide b))
end Go.Proofs.YtjgckchddllinaaDoor
