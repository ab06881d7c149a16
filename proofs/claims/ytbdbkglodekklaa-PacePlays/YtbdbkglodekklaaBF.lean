/-
  Contracts of bucketlineref20.Ticks, bucketlineref21.New, Take, Tick. No condition.
-/
import Derived.Test.YtbdbkglodekklaaBD
import Derived.Test.YtbdbkglodekklaaBw
import Derived.Deep.RegionLaw
namespace Go.Proofs.Ytbdbkglodekklaa
open Go.RowKit
set_option linter.unusedVariables false
set_option maxRecDepth 4000

theorem rtk_any (t : Int) (w : World) : Calls Try.prog 19 #[.int .i64 t] w fun e w' => e = .returned (.int .i64 (wiZ t 0 1048576)) ∧ w' = w := by
  have hmx := max_runZ t 0
  have hmn := min_runZ (max t 0) 1048576
  unfold wiZ
  generalize max t 0 = m at *
  generalize min m 1048576 = n at *
  go_enter Try.func19, Try.ntmps19
  go_wp2
  go_ret
  exact ⟨rfl, rfl⟩
theorem info_rb : (Try.prog.info? 32).map (·.size) = some 3 := by kernel_rfl
theorem results_rb1 {tmps : Array Value} {W : World} {g : Nat} {a b c : Value} (h2 : tmps.getD 4 undef = .pointer (some ⟨g, 0, none⟩)) (hq : BkA 32 W g [a, b, c]) :
    (results Try.f11 tmps).run Try.prog W = .ok (.agg #[a, b, c]) W := by
  have hld := hq.load Try.underlying32 rfl info_rb rfl
  have h2' : tmps[4]?.getD undef = .pointer (some ⟨g, 0, none⟩) := by simpa using h2
  simp [results, Try.results11, asAddr, h2', hld]
theorem results_rb3 {tmps : Array Value} {W : World} {g : Nat} {a b c : Value} (h2 : tmps.getD 4 undef = .pointer (some ⟨g, 0, none⟩)) (hq : BkA 32 W g [a, b, c]) :
    (results Try.f15 tmps).run Try.prog W = .ok (.agg #[a, b, c]) W := by
  have hld := hq.load Try.underlying32 rfl info_rb rfl
  have h2' : tmps[4]?.getD undef = .pointer (some ⟨g, 0, none⟩) := by simpa using h2
  simp [results, Try.results15, asAddr, h2', hld]
theorem results_rb2 {tmps : Array Value} {W : World} {g : Nat} {t : Bool} {a b c : Value} (h2 : tmps.getD 2 undef = .pointer (some ⟨g, 0, none⟩)) (h3 : tmps.getD 3 undef = .bool t) (hq : BkA 32 W g [a, b, c]) :
    (results Try.f12 tmps).run Try.prog W = .ok (.tuple #[.agg #[a, b, c], .bool t]) W := by
  have hld := hq.load Try.underlying32 rfl info_rb rfl
  have h2' : tmps[2]?.getD undef = .pointer (some ⟨g, 0, none⟩) := by simpa using h2
  have h3' : tmps[3]?.getD undef = .bool t := by simpa using h3
  simp [results, Try.results12, asAddr, h2', h3', hld]
theorem rpnew_any (m k : Int) (w : World) : Calls Try.prog 11 #[.int .i64 m, .int .i64 k] w fun e w' => e = .returned (.agg #[.int .i64 (wiZ m 0 1000000), .int .i64 (1000 * wiZ k 1 256), .int .i64 (1000 * wiZ k 1 256)]) ∧ Below w.heap.size w w' := by
  have h1 := wiZ_in k (show (1 : Int) ≤ 256 by decide)
  have h2 := wiZ_in m (show (0 : Int) ≤ 1000000 by decide)
  have a1 := max_runZ k 1
  have a2 := min_runZ (max k 1) 256
  have a3 := max_runZ m 0
  have a4 := min_runZ (max m 0) 1000000
  rw [show min (max k 1) 256 = wiZ k 1 256 from rfl] at a2
  rw [show min (max m 0) 1000000 = wiZ m 0 1000000 from rfl] at a4
  generalize wiZ k 1 256 = x at *
  generalize wiZ m 0 1000000 = y at *
  generalize max k 1 = k1 at *
  generalize max m 0 = m1 at *
  go_enter Try.func11, Try.ntmps11
  go_wp2
  exact bodyPost_ret (results_rb1 rfl (bkA_new 32 w [.int .i64 y, .int .i64 (1000 * x), .int .i64 (1000 * x)])) rfl ⟨rfl, alloc_low _ _⟩
theorem rb_two (w : World) (a b c a' b' c' : Value) : BkA 32 ((w.alloc (.cells #[a, b, c] 32)).alloc (.cells #[a', b', c'] 32)) (w.heap.size + 1) [a', b', c'] ∧ Below w.heap.size w ((w.alloc (.cells #[a, b, c] 32)).alloc (.cells #[a', b', c'] 32)) := by
  have h1 := bkA_new 32 (w.alloc (.cells #[a, b, c] 32)) [a', b', c']
  rw [alloc_size] at h1
  exact ⟨h1, below0 (alloc_low _ _) (alloc_low _ _)⟩
theorem rptake_no (M T L : Int) (w : World) (hl : L < 1000) : Calls Try.prog 12 #[.agg #[.int .i64 M, .int .i64 T, .int .i64 L]] w fun e w' => e = .returned (.tuple #[.agg #[.int .i64 M, .int .i64 T, .int .i64 L], .bool false]) ∧ Below w.heap.size w w' := by
  go_enter Try.func12, Try.ntmps12
  go_wp2
  exact bodyPost_ret (results_rb2 rfl rfl (rb_two w _ _ _ _ _ _).1) rfl ⟨rfl, (rb_two w _ _ _ _ _ _).2⟩
theorem rptake_yes (M T L : Int) (w : World) (hl : 1000 ≤ L) (hm : L ≤ 1000000) : Calls Try.prog 12 #[.agg #[.int .i64 M, .int .i64 T, .int .i64 L]] w fun e w' => e = .returned (.tuple #[.agg #[.int .i64 M, .int .i64 T, .int .i64 (L - 1000)], .bool true]) ∧ Below w.heap.size w w' := by
  go_enter Try.func12, Try.ntmps12
  go_wp2
  exact bodyPost_ret (results_rb2 rfl rfl (rb_two w _ _ _ _ _ _).1) rfl ⟨rfl, (rb_two w _ _ _ _ _ _).2⟩
set_option maxHeartbeats 2000000 in
theorem rptick_any (M T L n : Int) (w : World) (hm : 0 ≤ M ∧ M ≤ 1000000) (ht : 0 ≤ T ∧ T ≤ 256000) (hb : 0 ≤ L ∧ L ≤ T) :
    Calls Try.prog 15 #[.agg #[.int .i64 M, .int .i64 T, .int .i64 L], .int .i64 n] w fun e w' => e = .returned (.agg #[.int .i64 M, .int .i64 T, .int .i64 (tickL M T L n)]) ∧ Below w.heap.size w w' := by
  have hN := rtk_any n
  have hw := wiZ_in n (show (0 : Int) ≤ 1048576 by decide)
  have hmn := min_runZ T (L + wiZ n 0 1048576 * M)
  rw [show min T (L + wiZ n 0 1048576 * M) = tickL M T L n by unfold tickL; omega] at hmn
  generalize tickL M T L n = Z at *
  generalize wiZ n 0 1048576 = N at *
  have hp0 : 0 ≤ N * M := Int.mul_nonneg hw.1 hm.1
  have hp1 : N * M ≤ 1048576 * 1000000 := Int.mul_le_mul hw.2 hm.2 hm.1 (by decide)
  have hw1 : IntKind.i64.wrap (N * M) = N * M := by rw [IntKind.wrap_i64]; omega
  have hw2 : IntKind.i64.wrap (L + N * M) = L + N * M := by rw [IntKind.wrap_i64]; omega
  go_enter Try.func15, Try.ntmps15
  go_wp2_with fail
  go_region_law (first
    | (go_simp; go_at_call 19; refine (hN _).mono ?_; rintro e w1 ⟨rfl, hw1⟩; obtain rfl := hw1.symm; clear hw1))
  all_goals go_wp2
  all_goals exact bodyPost_ret (results_rb3 rfl (show BkA 32 _ (w.heap.size + 1) _ from (rb_two w _ _ _ _ _ _).1)) rfl ⟨rfl, (rb_two w _ _ _ _ _ _).2.drew⟩
end Go.Proofs.Ytbdbkglodekklaa
