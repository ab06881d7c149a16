/-
  A node's deeds as data ('DNV': a kind, two numbers, bytes, draws), slices of them in memory ('DnAt'), bucketlinelaw25.Few and Heavy. No condition.
  The config of chapter 28's example; bucketlinelaw28.few. Condition: the config can be read.
-/
import Derived.Test.YtljkmajajcocdaaU5
import Derived.Test.YtljkmajajcocdaaU1
import Derived.Test.YtljkmajajcocdaaU31
namespace Go.Proofs.Ytljkmajajcocdaa
open Go.RowKit
set_option linter.unusedVariables false
set_option linter.unusedSimpArgs false
set_option maxRecDepth 4000

set_option maxHeartbeats 400000 in
theorem heavy25_any (f : CFV) (w : World) (ho : f.obj.size ≤ 9223372036854775807) :
    Calls Try.prog 21 #[f.val] w fun e w' => ((e = .returned (.int .i64 1) ∧ 600 < f.obj.size) ∨ (e = .returned (.int .i64 0) ∧ f.obj.size ≤ 600)) ∧ Below w.heap.size w w' := by
  obtain ⟨a, n, c, ds, obj, size, spread, buffer, queue, cache, rate, timeout, target⟩ := f
  simp only [CFV.val] at ho ⊢
  have HB := hide (alloc_low w (.cells #[.slice a n c, .string obj, .int .i64 size, .int .i64 spread, .int .i64 buffer, .int .i64 queue, .int .i64 cache, .float .f64 rate, .int .i64 timeout, .int .i64 target] 25))
  by_cases h : 600 < obj.size
  · have hd : decide (600 < (obj.size : Int)) = true := by simp only [decide_eq_true_eq]; omega
    go_enter Try.func21, Try.ntmps21
    go_wp2
    go_ret
    exact ⟨.inl ⟨rfl, h⟩, unhide HB⟩
  · have hd : decide (600 < (obj.size : Int)) = false := by simp only [decide_eq_false_iff_not]; omega
    go_enter Try.func21, Try.ntmps21
    go_wp2
    go_ret
    exact ⟨.inr ⟨rfl, by omega⟩, unhide HB⟩
end Go.Proofs.Ytljkmajajcocdaa
namespace Go.Proofs.Ytljkmajajcocdaa
open Go.RowKit Go.Sort Go.Shelf
set_option linter.unusedVariables false
set_option linter.unusedSimpArgs false
set_option maxRecDepth 4000

/-- A source and a sink. -/
def pr28 (a x : Nat) : CFV := ⟨some ⟨a, 0, none⟩, 2, 2, [⟨1, some ⟨x, 0, none⟩, 1, 1, [1]⟩, ⟨3, none, 0, 0, []⟩], ⟨#[97, 98]⟩, 1, 0, 4, 4, 0, 4607182418800017408, 5, 1⟩
theorem pr28_in {w : World} {a x : Nat} (h : NdsAt w (some ⟨a, 0, none⟩) 2 (pr28 a x).ds) : CfIn w (pr28 a x) :=
  ⟨h, show 2 ≤ 9223372036854775807 by decide, show (2 : Nat) ≤ 9223372036854775807 by decide, show 4607182418800017408 < 18446744073709551616 by decide, fun i hi => by
    have hi' : i < 2 := hi
    obtain rfl | rfl : i = 0 ∨ i = 1 := by omega
    · exact ⟨show 1 ≤ 9223372036854775807 by decide, fun e => by have e' : some (⟨x, 0, none⟩ : Addr) = none := e; cases e'⟩
    · exact ⟨show 0 ≤ 9223372036854775807 by decide, fun _ => ⟨rfl, rfl⟩⟩, fun i hi => by
    have hi' : i < 2 := hi
    obtain rfl | rfl : i = 0 ∨ i = 1 := by omega
    · exact Nat.le_refl _
    · exact Nat.le_refl _⟩
theorem pr28_chk (a x : Nat) : ChkR (pr28 a x) 0 := by
  refine .inl ⟨⟨⟨show 1 ≤ 2 ∧ 2 ≤ 8 by decide, show (0 : Int) ≤ 0 ∧ (0 : Int) ≤ 128 by decide, show (1 : Int) ≤ 4 ∧ (4 : Int) ≤ 256 by decide, show (1 : Int) ≤ 4 ∧ (4 : Int) ≤ 256 by decide, show (0 : Int) ≤ 0 ∧ (0 : Int) ≤ 256 by decide, show (0 : Int) ≤ 5 ∧ (5 : Int) ≤ 1048576 by decide, show (1 : Int) ≤ 1 ∧ (1 : Int) ≤ 128 by decide⟩, fun i hi => ?_, rfl⟩, by kernel_rfl⟩
  have hi' : i < 2 := hi
  obtain rfl | rfl : i = 0 ∨ i = 1 := by omega
  · refine ⟨show (1 : Int) ≤ 1 ∧ (1 : Int) ≤ 3 by decide, show (1 : Int) < 2 by decide, fun j hj => ?_⟩
    have hj' : j < 1 := hj
    obtain rfl : j = 0 := by omega
    exact ⟨show (0 : Int) ≤ 1 ∧ (1 : Int) ≤ 2 - 1 by decide, show (1 : Int) ≠ 0 by decide, fun k hk => by omega⟩
  · exact ⟨show (1 : Int) ≤ 3 ∧ (3 : Int) ≤ 3 by decide, show (0 : Int) < 2 by decide, fun j hj => by have hj' : j < 0 := hj; omega⟩
theorem results_cfg28 {tmps : Array Value} {W : World} {g : Nat} {cs : List Value} (h2 : tmps.getD 0 undef = .pointer (some ⟨g, 0, none⟩)) (hq : BkA 25 W g cs) (hl : cs.length = 10) : (results Try.f22 tmps).run Try.prog W = .ok (.agg cs.toArray) W := by
  have hld := hq.load Try.underlying25 rfl info_cfg hl
  have h2' : tmps[0]?.getD undef = .pointer (some ⟨g, 0, none⟩) := by simpa using h2
  simp [results, Try.results22, asAddr, h2', hld]
set_option maxHeartbeats 2000000 in
theorem pair28_any (w : World) : Calls Try.prog 22 #[] w fun e w' => ∃ a x, e = .returned (pr28 a x).val ∧ NdsAt w' (some ⟨a, 0, none⟩) 2 (pr28 a x).ds ∧ Below w.heap.size w w' := by
  have HX := hide (show BkA 25 (((w.alloc (.cells #[.slice none 0 0, .string ⟨#[]⟩, .int .i64 0, .int .i64 0, .int .i64 0, .int .i64 0, .int .i64 0, .float .f64 0, .int .i64 0, .int .i64 0] 25)).alloc (.cells #[.int .i64 1] 3)).alloc (.cells #[.int .i64 1, .slice (some ⟨w.heap.size + 1, 0, none⟩) 1 1, .int .i64 3, .slice none 0 0] 40)) w.heap.size [.slice none 0 0, .string ⟨#[]⟩, .int .i64 0, .int .i64 0, .int .i64 0, .int .i64 0, .int .i64 0, .float .f64 0, .int .i64 0, .int .i64 0] from ((bkA_new 25 w [.slice none 0 0, .string ⟨#[]⟩, .int .i64 0, .int .i64 0, .int .i64 0, .int .i64 0, .int .i64 0, .float .f64 0, .int .i64 0, .int .i64 0]).below (alloc_low _ _)).below (alloc_low _ _))
  go_enter Try.func22, Try.ntmps22
  go_wp2_with (first
    | ((with_reducible refine bw_mid 25 25 info_cfg 0 5 w.heap.size 0 _ [.slice (some ⟨w.heap.size + 1 + 1, 0, none⟩) 2 2, .string ⟨#[97, 98]⟩, .int .i64 1, .int .i64 0, .int .i64 4, .int .i64 4, .int .i64 0, .float .f64 4607182418800017408, .int .i64 5, .int .i64 1] ?_ ?_ (unhide HX) rfl ?_ ?_ ?_); (focus rfl); (focus rfl); (focus exact (show 0 + 10 ≤ 10 by decide)); (focus exact (by simp [Value.oneCell'])); intro w4 hx4 ht4; have HX4 := hide hx4; have HT4 := hide ht4; clear hx4 ht4)
    | fail)
  have ht4 := unhide HT4
  have hb3 : Below w.heap.size w (((w.alloc (.cells #[.slice none 0 0, .string ⟨#[]⟩, .int .i64 0, .int .i64 0, .int .i64 0, .int .i64 0, .int .i64 0, .float .f64 0, .int .i64 0, .int .i64 0] 25)).alloc (.cells #[.int .i64 1] 3)).alloc (.cells #[.int .i64 1, .slice (some ⟨w.heap.size + 1, 0, none⟩) 1 1, .int .i64 3, .slice none 0 0] 40)) := below0 (below0 (alloc_low _ _) (alloc_low _ _)) (alloc_low _ _)
  refine bodyPost_ret (results_cfg28 rfl (unhide HX4) rfl) rfl ⟨w.heap.size + 1 + 1, w.heap.size + 1, rfl, ?_, hb3.trans (ht4.below hb3.size fun j hj e => by omega)⟩
  have A := (bkA_new 3 (w.alloc (.cells #[.slice none 0 0, .string ⟨#[]⟩, .int .i64 0, .int .i64 0, .int .i64 0, .int .i64 0, .int .i64 0, .float .f64 0, .int .i64 0, .int .i64 0] 25)) [.int .i64 1]).below (alloc_low _ (.cells #[.int .i64 1, .slice (some ⟨w.heap.size + 1, 0, none⟩) 1 1, .int .i64 3, .slice none 0 0] 40))
  have C := bkA_new 40 ((w.alloc (.cells #[.slice none 0 0, .string ⟨#[]⟩, .int .i64 0, .int .i64 0, .int .i64 0, .int .i64 0, .int .i64 0, .float .f64 0, .int .i64 0, .int .i64 0] 25)).alloc (.cells #[.int .i64 1] 3)) [.int .i64 1, .slice (some ⟨w.heap.size + 1, 0, none⟩) 1 1, .int .i64 3, .slice none 0 0]
  simp only [alloc_size] at A C
  have n1 : ¬ (w.heap.size + 1 = w.heap.size) := by omega
  have n3 : ¬ (w.heap.size + 1 + 1 = w.heap.size) := by omega
  refine ⟨rfl, fun i hi => ?_, .inr ⟨_, 0, rfl, fun i hi => ?_⟩⟩
  · obtain rfl | rfl : i = 0 ∨ i = 1 := by omega
    · exact ⟨rfl, .inr ⟨_, 0, rfl, fun j hj => by
        have hj' : j < 1 := hj
        obtain rfl : j = 0 := by omega
        exact ht4.cell (A.at 0 rfl) n1⟩⟩
    · exact ⟨rfl, .inl rfl⟩
  · obtain rfl | rfl : i = 0 ∨ i = 1 := by omega
    · exact ⟨ht4.cell (C.at 0 rfl) n3, ht4.cell (C.at 1 rfl) n3⟩
    · exact ⟨ht4.cell (C.at 2 rfl) n3, ht4.cell (C.at 3 rfl) n3⟩
set_option maxHeartbeats 2000000 in
theorem few28_any (f : CFV) (w : World) (hf : CfIn w f) : Calls Try.prog 7 #[f.val] w fun e w' => ((e = .returned (.bool true) ∧ f.n ≤ 100) ∨ e = .returned (.bool false)) ∧ Below w.heap.size w w' := by
  have X := hide (bkA_new 25 w [.slice f.a f.n f.c, .string f.obj, .int .i64 f.size, .int .i64 f.spread, .int .i64 f.buffer, .int .i64 f.queue, .int .i64 f.cache, .float .f64 f.rate, .int .i64 f.timeout, .int .i64 f.target])
  have HB := hide (alloc_low w (.cells #[.slice f.a f.n f.c, .string f.obj, .int .i64 f.size, .int .i64 f.spread, .int .i64 f.buffer, .int .i64 f.queue, .int .i64 f.cache, .float .f64 f.rate, .int .i64 f.timeout, .int .i64 f.target] 25))
  have hld := (unhide X).load Try.underlying25 rfl info_cfg rfl
  have HH := hide (fun wx => heavy25_any f wx hf.obj)
  have HF := hide hf
  have hn := hf.len
  clear hf
  unfold CFV.val at *
  by_cases h0 : (100 : Int) < (f.n : Int)
  · go_enter Try.func7, Try.ntmps7
    go_wp2
    go_ret
    exact ⟨.inr rfl, unhide HB⟩
  go_enter Try.func7, Try.ntmps7
  go_wp2_with fail
  have HND := hide ((unhide HF).nds.below (unhide HB))
  generalize hW : w.alloc (.cells #[.slice f.a f.n f.c, .string f.obj, .int .i64 f.size, .int .i64 f.spread, .int .i64 f.buffer, .int .i64 f.queue, .int .i64 f.cache, .float .f64 f.rate, .int .i64 f.timeout, .int .i64 f.target] 25) = W at *
  clear hW
  have x0 := (unhide X).at 0 rfl
  go_loop [3] (fun i => ∃ k : Nat, k ≤ f.n ∧ i = .int .i64 k) (fun i => f.n - (intOf i).toNat)
  case atStart => exact ⟨0, Nat.zero_le _, rfl⟩
  case round =>
    obtain ⟨k, hk, rfl⟩ := hrel
    by_cases hlt : k < f.n
    · have hlt' : (k : Int) < (f.n : Int) := by omega
      obtain ⟨b, off, ha, hc⟩ := (unhide HND).at hlt
      obtain ⟨hc0, hc1⟩ := hc k hlt
      rw [ha] at x0
      clear hc
      generalize f.ds.getD k .dflt = d at *
      by_cases h2 : (100 : Int) < (d.n : Int)
      · go_wp2
        go_ret
        exact ⟨.inr rfl, unhide HB⟩
      · go_wp2
        go_round
        case rel => exact ⟨k + 1, hlt, by go_num⟩
        case measure => simp [intOf]; omega
    · obtain rfl : k = f.n := by omega
      have y0 := (unhide X).at 0 rfl
      have y1 := (unhide X).at 1 rfl
      have y2 := (unhide X).at 2 rfl
      have y3 := (unhide X).at 3 rfl
      have y4 := (unhide X).at 4 rfl
      have y5 := (unhide X).at 5 rfl
      have y6 := (unhide X).at 6 rfl
      have y7 := (unhide X).at 7 rfl
      have y8 := (unhide X).at 8 rfl
      have y9 := (unhide X).at 9 rfl
      have hld := (unhide X).load Try.underlying25 rfl info_cfg rfl
      go_wp2_with fail
      refine (unhide HH _).mono ?_
      rintro e w1 ⟨⟨rfl, -⟩ | ⟨rfl, -⟩, hb⟩
      · have HB1 := hide (below0 (unhide HB) hb)
        clear hb
        go_wp2
        go_ret
        exact ⟨.inr rfl, unhide HB1⟩
      · have HB1 := hide (below0 (unhide HB) hb)
        clear hb
        go_wp2
        go_ret
        exact ⟨.inl ⟨rfl, by omega⟩, unhide HB1⟩
end Go.Proofs.Ytljkmajajcocdaa
