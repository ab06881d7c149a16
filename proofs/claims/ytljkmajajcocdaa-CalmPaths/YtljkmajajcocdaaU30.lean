/-
  Contract of bucketlineref26.Check. Condition: the config can be read.
-/
import Derived.Test.YtljkmajajcocdaaU12
import Derived.Test.YtljkmajajcocdaaU29
namespace Go.Proofs.Ytljkmajajcocdaa
open Go.RowKit Go.Sort
set_option linter.unusedVariables false
set_option linter.unusedSimpArgs false
set_option maxRecDepth 4000

theorem rchk26_any (f : CFV) (w : World) (h : CfIn w f) : Calls Try.prog 20 #[f.val] w fun e w' => ∃ en : Int, e = .returned (.int .i64 en) ∧ ChkR f en ∧ Below w.heap.size w w' := by
  have HB := hide (alloc_low w (.cells #[.slice f.a f.n f.c, .string f.obj, .int .i64 f.size, .int .i64 f.spread, .int .i64 f.buffer, .int .i64 f.queue, .int .i64 f.cache, .float .f64 f.rate, .int .i64 f.timeout, .int .i64 f.target] 25))
  have HC := hide (fun wx (hb : Below w.heap.size w wx) => rchk_any f wx (h.below hb))
  have hld := (bkA_new 25 w [.slice f.a f.n f.c, .string f.obj, .int .i64 f.size, .int .i64 f.spread, .int .i64 f.buffer, .int .i64 f.queue, .int .i64 f.cache, .float .f64 f.rate, .int .i64 f.timeout, .int .i64 f.target]).load Try.underlying25 rfl info_cfg rfl
  clear h
  unfold CFV.val at *
  go_enter Try.func20, Try.ntmps20
  go_wp2_with (first
    | (go_at_call 37; refine (unhide HC _ (by first | exact unhide HB | exact Below.refl _ _)).mono ?_; rintro e w1 ⟨en, rfl, hr, hb⟩; have HR := hide hr; have HB1 := hide (show Below w.heap.size w w1 from by first | exact below0 (unhide HB) hb | exact hb); clear hb hr)
    | fail)
  go_ret
  exact ⟨en, rfl, unhide HR, unhide HB1⟩
end Go.Proofs.Ytljkmajajcocdaa
