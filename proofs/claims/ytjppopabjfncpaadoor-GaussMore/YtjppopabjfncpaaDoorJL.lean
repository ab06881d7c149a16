/-
  The walks of GaussSolves, GaussDecodes, GaussMore: for every input each tells true and writes nothing that was there.
-/
import Derived.Test.YtjppopabjfncpaaDoorJK
namespace Go.Proofs.YtjppopabjfncpaaDoor
open Go.RowKit Go.Sort
set_option linter.unusedVariables false
set_option maxRecDepth 4000

set_option maxHeartbeats 2000000 in
theorem solves_walk (k : Int) (a : Option Addr) (n c : Nat) (rs : List RV) (w : World) (ht : Tab w) (h : RowsAt w a n rs) (hn : n ≤ 9223372036854775807) (hcap : CapR rs) (hbig : ∀ i, (rs.getD i .dflt).n ≤ 9223372036854775807 ∧ (rs.getD i .dflt).s.size ≤ 9223372036854775807) :
    Calls Tryd.prog 3 #[.int .i64 k, .slice a n c] w fun e w' => e = .returned (.bool true) ∧ Below w.heap.size w w' := by
  have HF := hide (few14_any a n c rs w h hn hbig)
  have Hh := hide h
  have HC := hide hcap
  have HT := hide ht
  have HAW := hide (fun (w1 : World) (hb : Below w.heap.size w w1) => awake_any w1 (ht.below hb))
  clear h hcap ht hbig
  go_enter Tryd.func3, Tryd.ntmps3
  go_wp2_with fail
  refine (unhide HF).mono ?_
  rintro e w0 ⟨⟨b, rfl, hb⟩, hw⟩
  obtain rfl := hw.symm
  clear hw HF
  cases b
  · clear hb
    go_wp2_with (go_at_call 9; refine (unhide HAW _ (Below.refl _ _)).mono ?_; rintro e w1 ⟨rfl, hb1⟩)
    go_ret
    exact ⟨rfl, hb1⟩
  obtain ⟨hs, hn80⟩ := hb rfl
  have Hs := hide hs
  clear hs
  go_wp2_with fail
  refine (solve_any k a n c rs w (unhide HT) (unhide Hh) (unhide HC) (unhide Hs) (by omega)).mono ?_
  rintro e w1 ⟨a1, m1, c1, rfl, ho1, hb1⟩
  have HO1 := hide ho1
  have HB1 := hide hb1
  clear ho1 hb1
  go_wp2_with fail
  refine (rsolve_any k a n c rs w1 ((unhide Hh).below (unhide HB1)) (unhide HC) (unhide Hs) (by omega)).mono ?_
  rintro e w2 ⟨a2, m2, c2, rfl, ho2, hb2⟩
  have hlen : (solveC k (validC k rs)).length ≤ 1048576 := by
    unfold solveC
    split
    · rename_i hok
      unfold okC at hok
      rw [Bool.and_eq_true, decide_eq_true_eq] at hok
      have := (size_room hok.1).2.2
      simp; omega
    · exact Nat.zero_le _
  obtain ⟨a1', c1', e1, hT1⟩ := ((unhide HO1).below hb2).texts
  obtain ⟨a2', c2', e2, hT2⟩ := ho2.texts
  simp only [Value.slice.injEq] at e1 e2
  obtain ⟨rfl, rfl, rfl⟩ := e1
  obtain ⟨rfl, rfl, rfl⟩ := e2
  have HTX := texts2_any a1 _ c1 _ a2 _ c2 _ w2 hT1 hT2 hlen hlen
  rw [decide_eq_true rfl] at HTX
  have HTX := hide HTX
  have HB2 := hide (below0 (unhide HB1) hb2)
  clear ho2 hb2 hT1 hT2 HO1 HB1 hlen
  generalize okC k (validC k rs) = OK at *
  generalize (solveC k (validC k rs)).length = SL at *
  have hri := RowsIn.of (unhide Hh) (unhide HC)
  have HK := hide (fun (w3 : World) (hb : Below w.heap.size w w3) => grank_any a n c rs w3 ((unhide HT).below hb) ((unhide Hh).below hb) (hri.below hb) (unhide Hs) (by omega))
  have HR := hide (fun (w3 : World) (hb : Below w.heap.size w w3) => rgrank_any a n c rs w3 ((unhide Hh).below hb) (hri.below hb) (unhide Hs) (by omega))
  have hkr : (keepL (vecsL rs) rs.length).length = (basisL (vecsL rs)).length := by rw [← vecsL_len]; exact keep_rank (fit_of hri (unhide Hs))
  rw [← hkr] at HR
  generalize (keepL (vecsL rs) rs.length).length = NK at *
  have hok : (OK == OK) = true := by cases OK <;> rfl
  clear hkr hri Hh HC Hs HT
  go_wp2_with (first | (go_at_call 12; refine (unhide HTX).mono ?_; rintro e w3 ⟨rfl, hb3⟩; have HB3 := hide (below0 (unhide HB2) hb3); clear hb3) | (go_at_call 13; refine (unhide HK _ (unhide HB3)).mono ?_; rintro e w4 ⟨rfl, hb4⟩; have HB4 := hide (below0 (unhide HB3) hb4); clear hb4) | (go_at_call 14; refine (unhide HR _ (unhide HB4)).mono ?_; rintro e w5 ⟨rfl, hb5⟩; have HB5 := hide (below0 (unhide HB4) hb5); clear hb5) | (go_at_call 9; refine (unhide HAW _ (unhide HB5)).mono ?_; rintro e w6 ⟨rfl, hb6⟩; have HB6 := hide (below0 (unhide HB5) hb6); clear hb6))
  go_ret
  exact ⟨rfl, unhide HB6⟩

set_option maxHeartbeats 2000000 in
theorem decodes_walk (k : Int) (a : Option Addr) (n c : Nat) (rs : List RV) (w : World) (ht : Tab w) (h : RowsAt w a n rs) (hn : n ≤ 9223372036854775807) (hcap : CapR rs) (hbig : ∀ i, (rs.getD i .dflt).n ≤ 9223372036854775807 ∧ (rs.getD i .dflt).s.size ≤ 9223372036854775807) :
    Calls Tryd.prog 4 #[.int .i64 k, .slice a n c] w fun e w' => e = .returned (.bool true) ∧ Below w.heap.size w w' := by
  have HF := hide (few14_any a n c rs w h hn hbig)
  have Hh := hide h
  have HC := hide hcap
  have HT := hide ht
  have HAW := hide (fun (w1 : World) (hb : Below w.heap.size w w1) => awake_any w1 (ht.below hb))
  clear h hcap ht hbig
  go_enter Tryd.func4, Tryd.ntmps4
  go_wp2_with fail
  refine (unhide HF).mono ?_
  rintro e w0 ⟨⟨b, rfl, hb⟩, hw⟩
  obtain rfl := hw.symm
  clear hw HF
  cases b
  · clear hb
    go_wp2_with (go_at_call 9; refine (unhide HAW _ (Below.refl _ _)).mono ?_; rintro e w1 ⟨rfl, hb1⟩)
    go_ret
    exact ⟨rfl, hb1⟩
  obtain ⟨hs, hn80⟩ := hb rfl
  have Hs := hide hs
  obtain ⟨kn, bs, hPP⟩ := peel_is (k := k) (good_of (unhide Hh) hs)
  have HPP := hide hPP
  clear hs hPP
  go_wp2_with fail
  refine (decode_any k a n c rs kn bs (unhide HPP) w (unhide HT) (unhide Hh) (unhide Hs) (by omega)).mono ?_
  rintro e w1 ⟨a1, m1, c1, rfl, ho1, hb1⟩
  have HO1 := hide ho1
  have HB1 := hide hb1
  clear ho1 hb1
  go_wp2_with fail
  refine (rdecode_any k a n c rs kn bs (unhide HPP) w1 ((unhide Hh).below (unhide HB1)) (unhide HC) (unhide Hs) (by omega)).mono ?_
  rintro e w2 ⟨a2, m2, c2, rfl, ho2, hb2⟩
  have hlen : (solveC k (peelC k rs kn bs)).length ≤ 1048576 := by
    unfold solveC
    split
    · rename_i hok
      unfold okC at hok
      rw [Bool.and_eq_true, decide_eq_true_eq] at hok
      have := (size_room hok.1).2.2
      simp; omega
    · exact Nat.zero_le _
  obtain ⟨a1', c1', e1, hT1⟩ := ((unhide HO1).below hb2).texts
  obtain ⟨a2', c2', e2, hT2⟩ := ho2.texts
  simp only [Value.slice.injEq] at e1 e2
  obtain ⟨rfl, rfl, rfl⟩ := e1
  obtain ⟨rfl, rfl, rfl⟩ := e2
  have HTX := texts2_any a1 _ c1 _ a2 _ c2 _ w2 hT1 hT2 hlen hlen
  rw [decide_eq_true rfl] at HTX
  have HTX := hide HTX
  have HB2 := hide (below0 (unhide HB1) hb2)
  clear ho2 hb2 hT1 hT2 HO1 HB1 hlen
  generalize okC k (peelC k rs kn bs) = OK at *
  generalize (solveC k (peelC k rs kn bs)).length = SL at *
  have hok : (OK == OK) = true := by cases OK <;> rfl
  clear Hh HC Hs HT HPP
  go_wp2_with (first | (go_at_call 12; refine (unhide HTX).mono ?_; rintro e w3 ⟨rfl, hb3⟩; have HB3 := hide (below0 (unhide HB2) hb3); clear hb3) | (go_at_call 9; refine (unhide HAW _ (unhide HB3)).mono ?_; rintro e w6 ⟨rfl, hb6⟩; have HB6 := hide (below0 (unhide HB3) hb6); clear hb6))
  go_ret
  exact ⟨rfl, unhide HB6⟩

theorem ok_more {k : Int} {rs : List RV} {n : Nat} (h : rs.length = n + 1) (hk : okC k (validC k (rs.take n)) = true) : okC k (validC k rs) = true := by
  have hv : validC k rs = validC k (rs.take n) ∨ validC k rs = validC k (rs.take n) ++ [core (rs.getD n .dflt)] := by
    conv => congr <;> lhs <;> rw [last_split h]
    unfold validC
    rw [List.filter_append, List.map_append]
    by_cases hb : validB k (rs.getD n .dflt).xs = true
    · right
      have : ([rs.getD n .dflt].filter fun r => validB k r.xs) = [rs.getD n .dflt] := by rw [List.filter_cons, if_pos hb]; rfl
      rw [this]; rfl
    · left
      have : ([rs.getD n .dflt].filter fun r => validB k r.xs) = [] := by rw [List.filter_cons, if_neg hb]; rfl
      rw [this]; simp
  rcases hv with e | e
  · rw [e]; exact hk
  · rw [e]
    unfold okC at hk ⊢
    rw [Bool.and_eq_true, decide_eq_true_eq, decide_eq_true_eq] at hk ⊢
    refine ⟨hk.1, ?_⟩
    have := keep_more_len (vecsC (validC k (rs.take n))) (core (rs.getD n .dflt)).1
    have e2 : vecsC (validC k (rs.take n)) ++ [(core (rs.getD n .dflt)).1] = vecsC (validC k (rs.take n) ++ [core (rs.getD n .dflt)]) := by simp [vecsC]
    rw [e2, vecsC_len, vecsC_len] at this
    omega

set_option maxHeartbeats 4000000 in
theorem more_walk (k : Int) (a : Option Addr) (n c : Nat) (rs : List RV) (w : World) (ht : Tab w) (h : RowsAt w a n rs) (hn : n ≤ 9223372036854775807) (hnc : n ≤ c) (hcap : CapR rs) (hbig : ∀ i, (rs.getD i .dflt).n ≤ 9223372036854775807 ∧ (rs.getD i .dflt).s.size ≤ 9223372036854775807) :
    Calls Tryd.prog 7 #[.int .i64 k, .slice a n c] w fun e w' => e = .returned (.bool true) ∧ Below w.heap.size w w' := by
  have HF := hide (few14_any a n c rs w h hn hbig)
  have Hh := hide h
  have HC := hide hcap
  have HT := hide ht
  have HAW := hide (fun (w1 : World) (hb : Below w.heap.size w w1) => awake_any w1 (ht.below hb))
  clear h hcap ht hbig
  go_enter Tryd.func7, Tryd.ntmps7
  go_wp2_with fail
  refine (unhide HF).mono ?_
  rintro e w0 ⟨⟨b, rfl, hb⟩, hw⟩
  obtain rfl := hw.symm
  clear hw HF
  cases b
  · clear hb
    go_wp2_with (go_at_call 9; refine (unhide HAW _ (Below.refl _ _)).mono ?_; rintro e w1 ⟨rfl, hb1⟩)
    go_ret
    exact ⟨rfl, hb1⟩
  obtain ⟨hs, hn80⟩ := hb rfl
  have Hs := hide hs
  clear hs
  by_cases h0 : n = 0
  · have hd : ((n : Int) == 0) = true := by rw [beq_iff_eq]; omega
    go_wp2_with (go_at_call 9; refine (unhide HAW _ (Below.refl _ _)).mono ?_; rintro e w1 ⟨rfl, hb1⟩)
    go_ret
    exact ⟨rfl, hb1⟩
  have hd : ((n : Int) == 0) = false := by rw [beq_eq_false_iff_ne]; omega
  obtain ⟨N, hN⟩ : ∃ N, n = N + 1 := ⟨n - 1, by omega⟩
  have hsub : (n : Int) - 1 = (N : Int) := by omega
  obtain ⟨b, off, rfl, -⟩ := (unhide Hh).at (i := 0) (by omega)
  have hsl := slice_hi b off n c N (by omega)
  have hri := RowsIn.of (unhide Hh) (unhide HC)
  have hrt := (unhide Hh).take N (by omega)
  have hrit : RowsIn w (rs.take N) := fun r hr => hri r (List.mem_of_mem_take hr)
  have HK1 := hide (grank_any (some ⟨b, off, none⟩) N c (rs.take N) w (unhide HT) hrt hrit (short_take (unhide Hs) N) (by omega))
  have HK2 := hide (fun (w1 : World) (hb : Below w.heap.size w w1) => grank_any (some ⟨b, off, none⟩) n c rs w1 ((unhide HT).below hb) ((unhide Hh).below hb) (hri.below hb) (unhide Hs) (by omega))
  have HS1 := hide (fun (w1 : World) (hb : Below w.heap.size w w1) => solve_any k (some ⟨b, off, none⟩) N c (rs.take N) w1 ((unhide HT).below hb) (hrt.below hb) (cap_take (unhide HC) N) (short_take (unhide Hs) N) (by omega))
  have HS2 := hide (fun (w1 : World) (hb : Below w.heap.size w w1) => solve_any k (some ⟨b, off, none⟩) n c rs w1 ((unhide HT).below hb) ((unhide Hh).below hb) (unhide HC) (unhide Hs) (by omega))
  have hmr := keepR_more ((unhide Hh).1.trans hN)
  have hom := ok_more (k := k) ((unhide Hh).1.trans hN)
  have hk1 : (keepL (vecsL (rs.take N)) (rs.take N).length).length ≤ 80 := by
    have h1 := keep_len (vecsL (rs.take N)) (rs.take N).length
    have h2 := List.length_take_le N rs
    omega
  generalize (keepL (vecsL (rs.take N)) (rs.take N).length).length = NK1 at *
  generalize (keepL (vecsL rs) rs.length).length = NK2 at *
  generalize okC k (validC k (rs.take N)) = OK1 at *
  generalize okC k (validC k rs) = OK2 at *
  clear hri hrt hrit Hh HC HT Hs h0 hN
  have HF1 : Hid True := hide trivial
  have HF2 : Hid True := hide trivial
  rcases hmr with rfl | rfl <;> cases OK1
  all_goals first
    | (have hz := hom rfl; subst hz)
    | skip
  all_goals clear hom
  all_goals (go_wp2_with (first | (go_at_call 13; clear HF1; refine (unhide HK1).mono ?_; rintro e w1 ⟨rfl, hb1⟩; have HB1 := hide hb1; have HK3 := hide (unhide HK2 w1 hb1); clear hb1) | (go_at_call 13; refine (unhide HK3).mono ?_; rintro e w2 ⟨rfl, hb2⟩; have HB2 := hide (below0 (unhide HB1) hb2); have HS3 := hide (unhide HS1 w2 (unhide HB2)); clear hb2) | (go_at_call 10; clear HF2; refine (unhide HS3).mono ?_; rintro e w3 ⟨a3, m3, c3, rfl, -, hb3⟩; have HB3 := hide (below0 (unhide HB2) hb3); have HS4 := hide (unhide HS2 w3 (unhide HB3)); clear hb3) | (go_at_call 10; refine (unhide HS4).mono ?_; rintro e w4 ⟨a4, m4, c4, rfl, -, hb4⟩; have HB4 := hide (below0 (unhide HB3) hb4); have HA4 := hide (unhide HAW w4 (unhide HB4)); clear hb4) | (go_at_call 9; refine (unhide HA4).mono ?_; rintro e w5 ⟨rfl, hb5⟩; have HB5 := hide (below0 (unhide HB4) hb5); clear hb5)))
  all_goals go_ret
  all_goals exact ⟨rfl, unhide HB5⟩
end Go.Proofs.YtjppopabjfncpaaDoor
