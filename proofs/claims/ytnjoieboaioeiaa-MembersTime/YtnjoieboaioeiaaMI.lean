/-
  The chapter's example (awake); the walks of MembersNone and MembersTime. No condition.
-/
import Derived.Test.YtnjoieboaioeiaaMH
namespace Go.Proofs.Ytnjoieboaioeiaa
open Go.RowKit Go.Sort
set_option linter.unusedVariables false
set_option maxRecDepth 4000

def zAw : List Int := [0, 0, 0, 0, 5, 6, 0, 0, 0, 0, 0, 0, 0, 0, 0, 0]
theorem intz_lit1 (w : World) (x : Int) : IntzAt (w.alloc (.cells #[.int .i64 x] 3)) (some ⟨w.heap.size, 0, none⟩) 1 [x] := by
  refine ⟨rfl, .inr ⟨_, 0, rfl, fun i hi => ?_⟩⟩
  obtain rfl : i = 0 := by omega
  simp
theorem mbhear_no (g : Nat) (T : Int) (Z : List Int) (x i t : Int) (w : World) (h : MbAt w g T Z) (hb : hearB Z x i t = false) :
    Calls Try.prog 12 #[.pointer (some ⟨g, 0, none⟩), .int .i64 x, .int .i64 i, .int .i64 t] w fun e w' => e = .returned (.bool false) ∧ MbAt w' g T Z ∧ Tu (fun j => j = g) w w' := by
  have := mbhear_any g T Z x i t w h
  rw [hb, hearZ_no hb] at this
  exact this
set_option maxHeartbeats 4000000 in
theorem awake_any (w : World) : Calls Try.prog 8 #[] w fun e w' => e = .returned (.bool true) ∧ Below w.heap.size w w' := by
  have a8 : aliveB 3 zAw 2 8 = true := by decide
  have a9 : aliveB 3 zAw 2 9 = false := by decide
  have a4 : aliveB 3 zAw 2 4 = false := by decide
  have i2 : incO zAw 2 = 5 := by decide
  have i1 : incO zAw 1 = -1 := by decide
  have al : allZ 3 zAw 6 = [2] := by decide
  have HF1 : Hid True := hide trivial
  have HN := hide (mbnew_any 3 w)
  rw [show tickZ 3 = 3 from rfl] at HN
  have HH := hide (fun wx (h : MbAt wx w.heap.size 3 (List.replicate 16 0)) => mbhear_any w.heap.size 3 (List.replicate 16 0) 2 5 5 wx h)
  rw [show hearB (List.replicate 16 0) 2 5 5 = true by decide, show hearZ (List.replicate 16 0) 2 5 5 = zAw by decide] at HH
  go_enter Try.func8, Try.ntmps8
  go_wp2_with (first
    | (go_at_call 9; refine (unhide HN).mono ?_; rintro e w1 ⟨rfl, hm1, hb1⟩; have HM := hide hm1; have HB := hide hb1; clear hm1 hb1)
    | (clear HF1; go_at_call 12; refine (unhide HH _ (unhide HM)).mono ?_; rintro e w2 ⟨rfl, hm2, ht2⟩; have HM := hide hm2; have HB := hide (tu_low (unhide HB) ht2 (Nat.le_refl _)); clear hm2 ht2)
    | (go_at_call 12; refine (mbhear_no w.heap.size 3 zAw _ _ _ _ (unhide HM) (by decide)).mono ?_; rintro e w2 ⟨rfl, hm2, ht2⟩; have HM := hide hm2; have HB := hide (tu_low (unhide HB) ht2 (Nat.le_refl _)); clear hm2 ht2)
    | (go_at_call 13; refine (mbalive_any w.heap.size 3 zAw _ _ _ (unhide HM)).mono ?_; rintro e w2 ⟨rfl, hb2⟩; have HM := hide ((unhide HM).below hb2); have HB := hide (below0 (unhide HB) hb2); clear hb2; first | rw [a8] | rw [a9] | rw [a4])
    | (go_at_call 15; refine (mbinc_any w.heap.size 3 zAw _ _ (unhide HM)).mono ?_; rintro e w2 ⟨rfl, hb2⟩; have HM := hide ((unhide HM).below hb2); have HB := hide (below0 (unhide HB) hb2); clear hb2; first | rw [i2] | rw [i1])
    | (go_at_call 18; refine (mball_any w.heap.size 3 zAw _ _ (unhide HM)).mono ?_; rintro e w2 ⟨o, rfl, ho2, hb2⟩; rw [al] at ho2; obtain ⟨ao, co, rfl, hi2⟩ := ho2.ints; have HI := hide (hi2.below (alloc_low w2 (.cells #[.int .i64 2] 3))); have HB := hide (below0 (unhide HB) (below0 hb2 (alloc_low w2 (.cells #[.int .i64 2] 3)))); have HL := hide (intz_lit1 w2 2); clear hb2 ho2 hi2)
    | (go_at_call 17; refine (intz_any ao 1 co [2] _ 1 1 [2] _ (unhide HI) (unhide HL) rfl (by decide)).mono ?_; rintro e w5 ⟨rfl, hb5⟩; have HB := hide (below0 (unhide HB) hb5); clear hb5)
    | fail)
  go_ret
  exact ⟨rfl, unhide HB⟩
set_option maxHeartbeats 4000000 in
theorem mbnone_walk (x i t : Int) (w : World) : Calls Try.prog 7 #[.agg #[.int .i64 x, .int .i64 i, .int .i64 t]] w fun e w' => e = .returned (.bool true) ∧ Below w.heap.size w w' := by
  have hq : BkA 32 (w.alloc (.cells #[.int .i64 x, .int .i64 i, .int .i64 t] 32)) w.heap.size [.int .i64 x, .int .i64 i, .int .i64 t] := bkA_new _ _ _
  have hb := alloc_low w (.cells #[.int .i64 x, .int .i64 i, .int .i64 t] 32)
  generalize hW : w.alloc (.cells #[.int .i64 x, .int .i64 i, .int .i64 t] 32) = W at *
  have HQ := hide hq
  have HB := hide hb
  have q0 := hq.at 0 rfl
  have q1 := hq.at 1 rfl
  have q2 := hq.at 2 rfl
  clear hq hb
  go_enter Try.func7, Try.ntmps7
  go_wp2_with (first
    | (go_at_call 12; refine (mbhear_nil _ _ _ _).mono ?_; rintro e w1 ⟨rfl, hw1⟩; obtain rfl := hw1.symm; clear hw1)
    | (go_at_call 13; refine (mbalive_nil _ _ _).mono ?_; rintro e w1 ⟨rfl, hb1⟩; have hq1 := (unhide HQ).below hb1; have HQ := hide hq1; have HB := hide (below0 (unhide HB) hb1); have q0 := hq1.at 0 rfl; have q1 := hq1.at 1 rfl; have q2 := hq1.at 2 rfl; clear hq1 hb1)
    | (go_at_call 18; refine (mball_nil _ _).mono ?_; rintro e w1 ⟨o, rfl, ho1, hb1⟩; obtain ⟨ao, co, rfl, -⟩ := ho1.ints; have hq1 := (unhide HQ).below hb1; have HQ := hide hq1; have HB := hide (below0 (unhide HB) hb1); have q0 := hq1.at 0 rfl; have q1 := hq1.at 1 rfl; have q2 := hq1.at 2 rfl; clear hq1 hb1 ho1)
    | (go_at_call 15; refine (mbinc_nil _ _).mono ?_; rintro e w1 ⟨rfl, hb1⟩; have HB := hide (below0 (unhide HB) hb1); clear hb1)
    | (go_at_call 8; refine (awake_any _).mono ?_; rintro e w1 ⟨rfl, hb1⟩; have HB := hide (below0 (unhide HB) hb1); clear hb1)
    | fail)
  go_ret
  exact ⟨rfl, unhide HB⟩
end Go.Proofs.Ytnjoieboaioeiaa
