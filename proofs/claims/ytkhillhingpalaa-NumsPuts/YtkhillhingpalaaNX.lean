/-
  The walks of NumsPuts, NumsGets, NumsVecs.
-/
import Derived.Test.YtkhillhingpalaaNW
namespace Go.Proofs.Ytkhillhingpalaa
open Go.RowKit
set_option linter.unusedVariables false

set_option maxHeartbeats 1000000 in
theorem puts_walk (n k : Int) (a : Option Addr) (m c : Nat) (xs : List Nat) (w : World) (h : RowAt w a m xs) (hm : m ≤ 9223372036854775807) :
    Calls Try.prog 3 #[.int .i64 n, .int .i64 k, .slice a m c] w fun e w' => e = .returned (.bool true) ∧ Below w.heap.size w w' := by
  by_cases hg : 1000 < m
  · have hg' : decide ((1000 : Int) < (m : Int)) = true := by rw [decide_eq_true_iff]; omega
    clear hg
    go_enter Try.func3, Try.ntmps3
    go_wp2
    go_ret
    exact ⟨rfl, Below.refl _ _⟩
  · have hg' : decide ((1000 : Int) < (m : Int)) = false := by rw [decide_eq_false_iff_not]; omega
    have K1 := hide (fun w' => put_any n k w')
    have K2 := hide (fun w' => rput_any n k w')
    have K3 := hide (fun (w' : World) (hr : RowAt w' a m xs) => putvec_any a m c xs w' hr (by omega))
    have K4 := hide (fun (w' : World) (hr : RowAt w' a m xs) => rputvec_any a m c xs w' hr (by omega))
    have q1 := q_eq (st (putL n k))
    have q2 := q_eq (st (beV xs))
    have HR := hide h
    generalize st (putL n k) = t1 at *
    generalize st (beV xs) = t2 at *
    clear hg h
    go_enter Try.func3, Try.ntmps3
    go_wp2_with fail
    refine (unhide K1 _).mono ?_
    rintro e w1 ⟨rfl, hb1⟩
    have B1 := hide hb1
    clear hb1
    go_wp2_with fail
    refine (unhide K2 _).mono ?_
    rintro e w2 ⟨rfl, hb2⟩
    have B2 := hide (below0 (unhide B1) hb2)
    clear hb2 B1
    go_wp2_with fail
    refine (unhide K3 _ ((unhide HR).below (unhide B2))).mono ?_
    rintro e w3 ⟨rfl, hb3⟩
    have B3 := hide (below0 (unhide B2) hb3)
    clear hb3 B2
    go_wp2_with fail
    refine (unhide K4 _ ((unhide HR).below (unhide B3))).mono ?_
    rintro e w4 ⟨rfl, hb4⟩
    have B4 := hide (below0 (unhide B3) hb4)
    clear hb4 B3
    go_wp2_with fail
    refine (awake_any _).mono ?_
    rintro e w5 ⟨rfl, hb5⟩
    have B5 := hide (below0 (unhide B4) hb5)
    clear hb5 B4
    go_wp2
    go_ret
    exact ⟨rfl, unhide B5⟩

set_option maxHeartbeats 1000000 in
theorem gets_walk (s : ByteArray) (k : Int) (w : World) :
    Calls Try.prog 4 #[.string s, .int .i64 k] w fun e w' => e = .returned (.bool true) ∧ Below w.heap.size w w' := by
  have K1 := hide (fun w' => get_num_any s k w')
  have K2 := hide (fun w' => rget_num_any s k w')
  generalize gN s k = x at *
  generalize gE s k = y at *
  go_enter Try.func4, Try.ntmps4
  go_wp2_with fail
  refine (unhide K1 _).mono ?_
  rintro e w' ⟨rfl, hw⟩
  obtain rfl := hw.symm
  go_wp2_with fail
  refine (unhide K2 _).mono ?_
  rintro e w' ⟨rfl, hw⟩
  obtain rfl := hw.symm
  go_wp2_with fail
  refine (awake_any _).mono ?_
  rintro e w5 ⟨rfl, hb5⟩
  go_wp2
  go_ret
  exact ⟨rfl, hb5⟩

set_option maxHeartbeats 1000000 in
theorem vecs_walk (s : ByteArray) (k : Int) (w : World) (hs : s.size ≤ 9223372036854775807) :
    Calls Try.prog 5 #[.string s, .int .i64 k] w fun e w' => e = .returned (.bool true) ∧ Below w.heap.size w w' := by
  have K1 := hide (fun w' => getvec_any s k w' hs)
  have K2 := hide (fun w' => rgetvec_any s k w' hs)
  go_enter Try.func5, Try.ntmps5
  go_wp2_with fail
  refine (unhide K1 _).mono ?_
  rintro e w1 ⟨v, xs, en, rfl, ho1, hg1, hb1⟩
  obtain ⟨a1, c1, rfl, hr1⟩ := ho1.row
  have HG1 := hide hg1
  have HR1 := hide hr1
  have B1 := hide hb1
  clear ho1 hg1 hr1 hb1
  go_wp2_with fail
  refine (unhide K2 _).mono ?_
  rintro e w2 ⟨v2, ys, en2, rfl, ho2, hg2, hb2⟩
  obtain ⟨hxy, hee⟩ := (unhide HG1).uniq hg2
  subst hxy
  subst hee
  obtain ⟨a2, c2, rfl, hr2⟩ := ho2.row
  have hlen : xs.length ≤ 1048576 := by
    rcases hg2 with ⟨_, _, rfl⟩ | ⟨_, _, _, rfl⟩ | ⟨_, _, _, _, rfl⟩ | ⟨_, _, _, _, rfl⟩
    · simp
    · simp
    · simp
    · rw [wsL_length]; have := sizeOfK_le k; omega
  have HW := hide (rwords_any _ _ c1 _ _ _ c2 _ _ ((unhide HR1).below hb2) hr2 hlen hlen rfl)
  have B2 := hide (below0 (unhide B1) hb2)
  clear ho2 hg2 hr2 hb2 B1 HR1 HG1 K1 K2
  go_wp2_with fail
  refine (unhide HW).mono ?_
  rintro e w3 ⟨rfl, hb3⟩
  have B3 := hide (below0 (unhide B2) hb3)
  clear hb3 B2 HW
  go_wp2_with fail
  refine (awake_any _).mono ?_
  rintro e w5 ⟨rfl, hb5⟩
  have B5 := hide (below0 (unhide B3) hb5)
  clear hb5 B3
  go_wp2
  go_ret
  exact ⟨rfl, unhide B5⟩
end Go.Proofs.Ytkhillhingpalaa
