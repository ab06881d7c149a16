/-
  From 0 to 256 ('capN'); contract of bucketlineref15.Cap.
-/
import Derived.Test.YtdiondgkkanamaaDoorMem
import Derived.BigQuiet
namespace Go.Proofs.YtdiondgkkanamaaDoor
open Go.RowKit
set_option linter.unusedVariables false
set_option maxRecDepth 4000

/-- From 0 to 256. -/
def capN (n : Int) : Nat := min (max n 0).toNat 256
theorem capN_le (n : Int) : capN n ≤ 256 := Nat.min_le_right _ _
theorem cap_min (n : Int) : min (max n 0) 256 = (capN n : Int) := by unfold capN; omega
theorem max_run (n : Int) (ts : Array TypeId) (t : TypeId) (w : World) : (Builtin.max_ ts t #[.int .i64 n, .int .i64 0]).run Tryd.prog w = .ok (.int .i64 (max n 0)) w := by
  rw [run_max_int2]
  congr 2
  split <;> omega
theorem cap_run (n : Int) (ts : Array TypeId) (t : TypeId) (w : World) : (Builtin.min_ ts t #[.int .i64 (max n 0), .int .i64 256]).run Tryd.prog w = .ok (.int .i64 (capN n : Int)) w := by
  rw [run_min_int2, ← cap_min]
  congr 2
  split <;> omega
end Go.Proofs.YtdiondgkkanamaaDoor
