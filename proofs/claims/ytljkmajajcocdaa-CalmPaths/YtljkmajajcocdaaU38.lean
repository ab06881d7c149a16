/-
  A node's deeds as data ('DNV': a kind, two numbers, bytes, draws), slices of them in memory ('DnAt'), bucketlinelaw25.Few and Heavy. No condition.
-/
import Derived.Test.YtljkmajajcocdaaU6
import Derived.Test.YtljkmajajcocdaaU0
namespace Go.Proofs.Ytljkmajajcocdaa
open Go.RowKit
set_option linter.unusedVariables false
set_option linter.unusedSimpArgs false
set_option maxRecDepth 4000

set_option maxHeartbeats 400000 in
theorem heavy25_any (f : CFV) (w : World) (ho : f.obj.size ≤ 9223372036854775807) :
    Calls Try.prog 21 #[f.val] w fun e w' => ((e = .returned (.int .i64 1) ∧ 600 < f.obj.size) ∨ (e = .returned (.int .i64 0) ∧ f.obj.size ≤ 600)) ∧ Below w.heap.size w w' := by
  obtain ⟨a, n, c, ds, obj, size, spread, buffer, queue, cache, rate, timeout, target⟩ := f
  simp only [CFV.val] at ho ⊢
  have HB := hide (alloc_low w (.cells #[.slice a n c, .string obj, .int .i64 size, .int .i64 spread, .int .i64 buffer, .int .i64 queue, .int .i64 cache, .float .f64 rate, .int .i64 timeout, .int .i64 target] 25))
  by_cases h : 600 < obj.size
  · have hd : decide (600 < (obj.size : Int)) = true := by simp only [decide_eq_true_eq]; omega
    go_enter Try.func21, Try.ntmps21
    go_wp2
    go_ret
    exact ⟨.inl ⟨rfl, h⟩, unhide HB⟩
  · have hd : decide (600 < (obj.size : Int)) = false := by simp only [decide_eq_false_iff_not]; omega
    go_enter Try.func21, Try.ntmps21
    go_wp2
    go_ret
    exact ⟨.inr ⟨rfl, by omega⟩, unhide HB⟩
end Go.Proofs.Ytljkmajajcocdaa
