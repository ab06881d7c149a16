/-
  The walks of the laws SpanKeeps and SpanExpresses: for every input, in every world that holds the table of math/bits, each tells true and writes nothing that was there.
-/
import Derived.Test.YtobelbmcbgfdhaaDoorKK
namespace Go.Proofs.YtobelbmcbgfdhaaDoor
open Go.RowKit Go.Sort
set_option linter.unusedVariables false

theorem few_fit {w : World} {a : Option Addr} {n : Nat} {rs : List (List Nat)} (h : FewP rs) (hv : VecsAt w a n rs) : Fit 1000 rs := hv.fit fun i hi => by have := h.2 i (by rw [hv.1]; exact hi); omega

set_option maxHeartbeats 2000000 in
theorem keeps_walk (a : Option Addr) (n c : Nat) (rs : List (List Nat)) (a' : Option Addr) (m c' : Nat) (xs : List Nat) (w : World) (ht : Tab w) (h : VecsAt w a n rs) (h' : RowAt w a' m xs) :
    Calls Tryd.prog 3 #[.slice a n c, .slice a' m c'] w fun e w' => e = .returned (.bool true) ∧ Below w.heap.size w w' := by
  go_enter Tryd.func3, Tryd.ntmps3
  go_wp2_with fail
  refine (few_any a n c rs _ h).mono ?_
  rintro e w' ⟨he, hw⟩
  obtain rfl := hw.symm
  rcases he with rfl | ⟨hF, rfl⟩
  · clear h h'
    go_wp2_with (go_at_call 9; refine (awake4_any _ ht).mono ?_; rintro e w5 ⟨rfl, hb⟩)
    go_ret
    exact ⟨rfl, hb⟩
  · by_cases hv : 4 < m
    · have hdv : decide ((4 : Int) < (m : Int)) = true := by rw [decide_eq_true_iff]; omega
      clear h h'
      go_wp2_with (go_at_call 9; refine (awake4_any _ ht).mono ?_; rintro e w5 ⟨rfl, hb⟩)
      go_ret
      exact ⟨rfl, hb⟩
    · have hdv : decide ((4 : Int) < (m : Int)) = false := by rw [decide_eq_false_iff_not]; omega
      have hf := hF.fit h
      have hn : n ≤ 150 := by rw [← h.1]; exact hF.1
      have hkl := keep_len rs rs.length
      rw [h.1] at hkl
      have HH := hide h
      have HH' := hide h'
      clear hF h h'
      go_wp2_with fail
      refine (keep_any a n c rs _ ht (unhide HH) hf (by omega)).mono ?_
      rintro e w1 ⟨v1, rfl, hI1, hb1⟩
      obtain ⟨a1, c1, rfl, hi1⟩ := hI1.ints
      have HB1 := hide hb1
      have HI1 := hide hi1
      clear hI1 hi1 hb1
      go_wp2_with fail
      refine (rkeep_any a n c rs _ ((unhide HH).below (unhide HB1)) hf (by omega)).mono ?_
      rintro e w2 ⟨v2, rfl, hI2, hb2⟩
      obtain ⟨a2, c2, rfl, hi2⟩ := hI2.ints
      have HB2 := hide (below0 (unhide HB1) hb2)
      have HI12 := hide ((unhide HI1).below hb2)
      have HI2 := hide hi2
      clear hI2 hi2 hb2 HB1 HI1
      have hkl' : (keepL rs rs.length).length ≤ 1048576 := by rw [(unhide HH).1]; omega
      go_wp2_with fail
      refine (ints_any _ _ _ _ _ _ _ _ _ (unhide HI12) (unhide HI2) rfl hkl').mono ?_
      rintro e w3 ⟨rfl, hb3⟩
      have HB3 := hide (below0 (unhide HB2) hb3)
      clear hb3 HB2 HI12 HI2 hkl'
      generalize keepL rs rs.length = kk at *
      go_wp2_with fail
      refine (fresh_any a n c rs a' m c' xs _ (ht.below (unhide HB3)) ((unhide HH).below (unhide HB3)) hf ((unhide HH').below (unhide HB3)) (by omega) (by omega)).mono ?_
      rintro e w4 ⟨rfl, hb4⟩
      have HB4 := hide (below0 (unhide HB3) hb4)
      clear hb4 HB3
      go_wp2_with fail
      refine (rfresh_any a n c rs a' m c' xs _ ((unhide HH).below (unhide HB4)) hf ((unhide HH').below (unhide HB4)) (by omega) (by omega)).mono ?_
      rintro e w5 ⟨rfl, hb5⟩
      have HB5 := hide (below0 (unhide HB4) hb5)
      clear hb5 HB4
      generalize freshB rs xs = fb at *
      have hbb : (fb == fb) = true := by simp
      go_wp2_with fail
      refine (awake4_any _ (ht.below (unhide HB5))).mono ?_
      rintro e w6 ⟨rfl, hb6⟩
      have HB6 := hide (below0 (unhide HB5) hb6)
      clear hb6 HB5
      go_wp2
      go_ret
      exact ⟨rfl, unhide HB6⟩

set_option maxHeartbeats 2000000 in
theorem expresses_walk (a : Option Addr) (n c : Nat) (rs : List (List Nat)) (a' : Option Addr) (m c' : Nat) (xs : List Nat) (w : World) (ht : Tab w) (h : VecsAt w a n rs) (h' : RowAt w a' m xs) :
    Calls Tryd.prog 4 #[.slice a n c, .slice a' m c'] w fun e w' => e = .returned (.bool true) ∧ Below w.heap.size w w' := by
  go_enter Tryd.func4, Tryd.ntmps4
  go_wp2_with fail
  refine (few_any a n c rs _ h).mono ?_
  rintro e w' ⟨he, hw⟩
  obtain rfl := hw.symm
  rcases he with rfl | ⟨hF, rfl⟩
  · clear h h'
    go_wp2_with (go_at_call 9; refine (awake4_any _ ht).mono ?_; rintro e w5 ⟨rfl, hb⟩)
    go_ret
    exact ⟨rfl, hb⟩
  · by_cases hv : 4 < m
    · have hdv : decide ((4 : Int) < (m : Int)) = true := by rw [decide_eq_true_iff]; omega
      clear h h'
      go_wp2_with (go_at_call 9; refine (awake4_any _ ht).mono ?_; rintro e w5 ⟨rfl, hb⟩)
      go_ret
      exact ⟨rfl, hb⟩
    · have hdv : decide ((4 : Int) < (m : Int)) = false := by rw [decide_eq_false_iff_not]; omega
      have hf := hF.fit h
      have hf1 := few_fit hF h
      have hn : n ≤ 150 := by rw [← h.1]; exact hF.1
      have HH := hide h
      have HH' := hide h'
      clear hF h h'
      have hel : (exL rs xs).length ≤ 1048576 := by
        have h1 := keep_len rs rs.length
        have h2 : rs.length = n := (unhide HH).1
        unfold exL
        split
        · unfold exprL
          have := chosen_len (keepL rs rs.length) (fun i => getB (reduceL (broughtL ((marksL rs (keepL rs rs.length) (firstsL (broughtL rs)) (sizeL (keepL rs rs.length).length) (keepL rs rs.length).length).take (keepL rs rs.length).length))
            (pickL (zeros (sizeL (keepL rs rs.length).length)) xs (firstsL (broughtL rs)) (keepL rs rs.length).length)) ((keepL rs rs.length).length + i)) (keepL rs rs.length).length
          omega
        · simp
      have HE := hide (express_any a n c rs a' m c' xs w ht (unhide HH) hf (unhide HH') (by omega) (by omega))
      have HR := hide (fun (w1 : World) (hb : Below w.heap.size w w1) => rexpress_any a n c rs a' m c' xs w1 ((unhide HH).below hb) hf1 ((unhide HH').below hb) (by omega) (by omega))
      generalize exL rs xs = ex at *
      generalize freshB rs xs = fb at *
      have hbb : ((!fb) == (!fb)) = true := by simp
      go_wp2_with fail
      refine (unhide HE).mono ?_
      rintro e w1 ⟨v1, rfl, hI1, hb1⟩
      obtain ⟨a1, c1, rfl, hi1⟩ := hI1.ints
      have HB1 := hide hb1
      have HI1 := hide hi1
      clear hI1 hi1 hb1
      go_wp2_with fail
      refine (unhide HR _ (unhide HB1)).mono ?_
      rintro e w2 ⟨v2, rfl, hI2, hb2⟩
      obtain ⟨a2, c2, rfl, hi2⟩ := hI2.ints
      have HB2 := hide (below0 (unhide HB1) hb2)
      have HI12 := hide ((unhide HI1).below hb2)
      have HI2 := hide hi2
      clear hI2 hi2 hb2 HB1 HI1
      go_wp2_with fail
      refine (ints_any _ _ _ _ _ _ _ _ _ (unhide HI12) (unhide HI2) rfl hel).mono ?_
      rintro e w3 ⟨rfl, hb3⟩
      have HB3 := hide (below0 (unhide HB2) hb3)
      clear hb3 HB2 HI12 HI2
      go_wp2_with fail
      refine (awake4_any _ (ht.below (unhide HB3))).mono ?_
      rintro e w6 ⟨rfl, hb6⟩
      have HB6 := hide (below0 (unhide HB3) hb6)
      clear hb6 HB3
      go_wp2
      go_ret
      exact ⟨rfl, unhide HB6⟩
end Go.Proofs.YtobelbmcbgfdhaaDoor
