/-
  Contract of bucketlinelaw05.awake: in every world it tells true. The walks of CrcSums, CrcOpens, CrcBack.
-/
import Derived.Test.YtbhmdfoojhjecaaCC
namespace Go.Proofs.Ytbhmdfoojhjecaa
open Go.RowKit Go.Sort
set_option linter.unusedVariables false

theorem x_sum : sumS ⟨#[49, 50, 51, 52, 53, 54, 55, 56, 57]⟩ = 3421780262 := by decide +kernel
theorem x_nil : sumS ⟨#[]⟩ = 0 := by decide +kernel
theorem x_seal : sealS ⟨#[]⟩ = ⟨#[0, 0, 0, 0]⟩ := by decide +kernel
theorem x_short : openE ⟨#[97, 98, 99]⟩ = 2 := by decide +kernel
theorem x_shortT : openT ⟨#[97, 98, 99]⟩ = ⟨#[]⟩ := by decide +kernel
theorem x_bad : openE ⟨#[97, 98, 99, 100]⟩ = 4 := by decide +kernel
theorem x_badT : openT ⟨#[97, 98, 99, 100]⟩ = ⟨#[]⟩ := by decide +kernel
theorem q_eq (s : ByteArray) : (s.toList == s.toList) = true := by simp

set_option maxHeartbeats 1000000 in
theorem awake_any (w : World) :
    Calls Try.prog 12 #[] w fun e w' => e = .returned (.bool true) ∧ Below w.heap.size w w' := by
  have K1 := hide (fun w' => cseal_any ⟨#[97, 98]⟩ w' (by decide))
  have hz : (sealS ⟨#[97, 98]⟩).size ≤ 1048576 := by rw [sealS_size]; decide
  have K2 := hide (fun w' => copen_any (sealS ⟨#[97, 98]⟩) w' hz)
  rw [(open_seal ⟨#[97, 98]⟩).1, (open_seal ⟨#[97, 98]⟩).2] at K2
  have K3 := hide (fun w' => copen_any ⟨#[97, 98, 99]⟩ w' (by decide))
  rw [x_short, x_shortT] at K3
  have K4 := hide (fun w' => copen_any ⟨#[97, 98, 99, 100]⟩ w' (by decide))
  rw [x_bad, x_badT] at K4
  have K5 := hide (fun w' => csum_any ⟨#[49, 50, 51, 52, 53, 54, 55, 56, 57]⟩ w' (by decide))
  rw [x_sum] at K5
  have K6 := hide (fun w' => csum_any ⟨#[]⟩ w' (by decide))
  rw [x_nil] at K6
  have K7 := hide (fun w' => cseal_any ⟨#[]⟩ w' (by decide))
  rw [x_seal] at K7
  have q1 := q_eq ⟨#[97, 98]⟩
  have q2 := q_eq ⟨#[0, 0, 0, 0]⟩
  clear hz
  generalize sealS ⟨#[97, 98]⟩ = t at *
  go_enter Try.func12, Try.ntmps12
  go_wp2_with fail
  refine (unhide K1 _).mono ?_
  rintro e w1 ⟨rfl, hb1⟩
  have B1 := hide hb1
  clear hb1
  go_wp2_with fail
  refine (unhide K2 _).mono ?_
  rintro e w2 ⟨rfl, hb2⟩
  have B2 := hide (below0 (unhide B1) hb2)
  clear hb2 B1
  go_wp2_with fail
  refine (unhide K3 _).mono ?_
  rintro e w3 ⟨rfl, hb3⟩
  have B3 := hide (below0 (unhide B2) hb3)
  clear hb3 B2
  go_wp2_with fail
  refine (unhide K4 _).mono ?_
  rintro e w4 ⟨rfl, hb4⟩
  have B4 := hide (below0 (unhide B3) hb4)
  clear hb4 B3
  go_wp2_with fail
  refine (unhide K5 _).mono ?_
  rintro e w5 ⟨rfl, hw5⟩
  obtain rfl := hw5.symm
  go_wp2_with fail
  refine (unhide K6 _).mono ?_
  rintro e w6 ⟨rfl, hw6⟩
  obtain rfl := hw6.symm
  go_wp2_with fail
  refine (unhide K7 _).mono ?_
  rintro e w7 ⟨rfl, hb7⟩
  have B7 := hide (below0 (unhide B4) hb7)
  clear hb7 B4
  go_wp2
  go_ret
  exact ⟨rfl, unhide B7⟩

set_option maxHeartbeats 1000000 in
theorem sums_walk (s : ByteArray) (w : World) (hm : s.size ≤ 9223372036854775807) :
    Calls Try.prog 3 #[.string s] w fun e w' => e = .returned (.bool true) ∧ Below w.heap.size w w' := by
  by_cases hg : 20000 < s.size
  · have hg' : decide ((20000 : Int) < (s.size : Int)) = true := by rw [decide_eq_true_iff]; omega
    clear hg
    go_enter Try.func3, Try.ntmps3
    go_wp2
    go_ret
    exact ⟨rfl, Below.refl _ _⟩
  · have hg' : decide ((20000 : Int) < (s.size : Int)) = false := by rw [decide_eq_false_iff_not]; omega
    have K1 := hide (fun w' => csum_any s w' (by omega))
    have K2 := hide (fun w' => rsum_any s w' (by omega))
    have K3 := hide (fun w' => cseal_any s w' (by omega))
    have K4 := hide (fun w' => rseal_any s w' (by omega))
    have q1 := q_eq (sealS s)
    generalize sumS s = c at *
    generalize sealS s = t at *
    clear hg
    go_enter Try.func3, Try.ntmps3
    go_wp2_with fail
    refine (unhide K1 _).mono ?_
    rintro e w1 ⟨rfl, hw1⟩
    obtain rfl := hw1.symm
    go_wp2_with fail
    refine (unhide K2 _).mono ?_
    rintro e w2 ⟨rfl, hw2⟩
    obtain rfl := hw2.symm
    go_wp2_with fail
    refine (unhide K3 _).mono ?_
    rintro e w3 ⟨rfl, hb3⟩
    have B3 := hide hb3
    clear hb3
    go_wp2_with fail
    refine (unhide K4 _).mono ?_
    rintro e w4 ⟨rfl, hb4⟩
    have B4 := hide (below0 (unhide B3) hb4)
    clear hb4 B3
    go_wp2_with fail
    refine (awake_any _).mono ?_
    rintro e w5 ⟨rfl, hb5⟩
    have B5 := hide (below0 (unhide B4) hb5)
    clear hb5 B4
    go_wp2
    go_ret
    exact ⟨rfl, unhide B5⟩

set_option maxHeartbeats 1000000 in
theorem opens_walk (s : ByteArray) (w : World) (hm : s.size ≤ 9223372036854775807) :
    Calls Try.prog 4 #[.string s] w fun e w' => e = .returned (.bool true) ∧ Below w.heap.size w w' := by
  by_cases hg : 20000 < s.size
  · have hg' : decide ((20000 : Int) < (s.size : Int)) = true := by rw [decide_eq_true_iff]; omega
    clear hg
    go_enter Try.func4, Try.ntmps4
    go_wp2_with fail
    refine (awake_any _).mono ?_
    rintro e w5 ⟨rfl, hb5⟩
    have B5 := hide hb5
    clear hb5
    go_wp2
    go_ret
    exact ⟨rfl, unhide B5⟩
  · have hg' : decide ((20000 : Int) < (s.size : Int)) = false := by rw [decide_eq_false_iff_not]; omega
    have K1 := hide (fun w' => copen_any s w' (by omega))
    have K2 := hide (fun w' => ropen_any s w' (by omega))
    have q1 := q_eq (openT s)
    generalize openT s = t at *
    generalize openE s = n at *
    clear hg
    go_enter Try.func4, Try.ntmps4
    go_wp2_with fail
    refine (unhide K1 _).mono ?_
    rintro e w3 ⟨rfl, hb3⟩
    have B3 := hide hb3
    clear hb3
    go_wp2_with fail
    refine (unhide K2 _).mono ?_
    rintro e w4 ⟨rfl, hb4⟩
    have B4 := hide (below0 (unhide B3) hb4)
    clear hb4 B3
    go_wp2_with fail
    refine (awake_any _).mono ?_
    rintro e w5 ⟨rfl, hb5⟩
    have B5 := hide (below0 (unhide B4) hb5)
    clear hb5 B4
    go_wp2
    go_ret
    exact ⟨rfl, unhide B5⟩

set_option maxHeartbeats 1000000 in
theorem back_walk (s : ByteArray) (w : World) (hm : s.size ≤ 9223372036854775807) :
    Calls Try.prog 5 #[.string s] w fun e w' => e = .returned (.bool true) ∧ Below w.heap.size w w' := by
  by_cases hg : 20000 < s.size
  · have hg' : decide ((20000 : Int) < (s.size : Int)) = true := by rw [decide_eq_true_iff]; omega
    clear hg
    go_enter Try.func5, Try.ntmps5
    go_wp2_with fail
    refine (awake_any _).mono ?_
    rintro e w5 ⟨rfl, hb5⟩
    have B5 := hide hb5
    clear hb5
    go_wp2
    go_ret
    exact ⟨rfl, unhide B5⟩
  · have hg' : decide ((20000 : Int) < (s.size : Int)) = false := by rw [decide_eq_false_iff_not]; omega
    have K1 := hide (fun w' => cseal_any s w' (by omega))
    have K2 := hide (fun w' => copen_any (sealS s) w' (by rw [sealS_size]; omega))
    rw [(open_seal s).1, (open_seal s).2] at K2
    have K3 := hide (fun w' => copen_any s w' (by omega))
    have q1 := q_eq s
    by_cases he : openE s = 0
    · have hz : (openT s).size ≤ 1048576 := by
        have := sealS_size (openT s)
        rw [seal_open s he] at this
        omega
      have K4 := hide (fun w' => cseal_any (openT s) w' hz)
      rw [seal_open s he] at K4
      rw [he] at K3
      generalize sealS s = u at *
      generalize openT s = t at *
      clear hg hz he
      go_enter Try.func5, Try.ntmps5
      go_wp2_with fail
      refine (unhide K1 _).mono ?_
      rintro e w1 ⟨rfl, hb1⟩
      have B1 := hide hb1
      clear hb1
      go_wp2_with fail
      refine (unhide K2 _).mono ?_
      rintro e w2 ⟨rfl, hb2⟩
      have B2 := hide (below0 (unhide B1) hb2)
      clear hb2 B1
      go_wp2_with fail
      refine (unhide K3 _).mono ?_
      rintro e w3 ⟨rfl, hb3⟩
      have B3 := hide (below0 (unhide B2) hb3)
      clear hb3 B2
      go_wp2_with fail
      refine (unhide K4 _).mono ?_
      rintro e w4 ⟨rfl, hb4⟩
      have B4 := hide (below0 (unhide B3) hb4)
      clear hb4 B3
      go_wp2_with fail
      refine (awake_any _).mono ?_
      rintro e w5 ⟨rfl, hb5⟩
      have B5 := hide (below0 (unhide B4) hb5)
      clear hb5 B4
      go_wp2
      go_ret
      exact ⟨rfl, unhide B5⟩
    · have h24 : openE s = 2 ∨ openE s = 4 := by
        unfold openE at he ⊢
        split
        · exact .inl rfl
        · split
          · rename_i h1 h2
            rw [if_neg h1, if_pos h2] at he
            exact absurd rfl he
          · exact .inr rfl
      rcases h24 with he2 | he2
      · generalize sealS s = u at *
        generalize openT s = t at *
        rw [he2] at K3
        clear hg he he2
        go_enter Try.func5, Try.ntmps5
        go_wp2_with fail
        refine (unhide K1 _).mono ?_
        rintro e w1 ⟨rfl, hb1⟩
        have B1 := hide hb1
        clear hb1
        go_wp2_with fail
        refine (unhide K2 _).mono ?_
        rintro e w2 ⟨rfl, hb2⟩
        have B2 := hide (below0 (unhide B1) hb2)
        clear hb2 B1
        go_wp2_with fail
        refine (unhide K3 _).mono ?_
        rintro e w3 ⟨rfl, hb3⟩
        have B3 := hide (below0 (unhide B2) hb3)
        clear hb3 B2
        go_wp2_with fail
        refine (awake_any _).mono ?_
        rintro e w5 ⟨rfl, hb5⟩
        have B5 := hide (below0 (unhide B3) hb5)
        clear hb5 B3
        go_wp2
        go_ret
        exact ⟨rfl, unhide B5⟩
      · generalize sealS s = u at *
        generalize openT s = t at *
        rw [he2] at K3
        clear hg he he2
        go_enter Try.func5, Try.ntmps5
        go_wp2_with fail
        refine (unhide K1 _).mono ?_
        rintro e w1 ⟨rfl, hb1⟩
        have B1 := hide hb1
        clear hb1
        go_wp2_with fail
        refine (unhide K2 _).mono ?_
        rintro e w2 ⟨rfl, hb2⟩
        have B2 := hide (below0 (unhide B1) hb2)
        clear hb2 B1
        go_wp2_with fail
        refine (unhide K3 _).mono ?_
        rintro e w3 ⟨rfl, hb3⟩
        have B3 := hide (below0 (unhide B2) hb3)
        clear hb3 B2
        go_wp2_with fail
        refine (awake_any _).mono ?_
        rintro e w5 ⟨rfl, hb5⟩
        have B5 := hide (below0 (unhide B3) hb5)
        clear hb5 B3
        go_wp2
        go_ret
        exact ⟨rfl, unhide B5⟩
end Go.Proofs.Ytbhmdfoojhjecaa
