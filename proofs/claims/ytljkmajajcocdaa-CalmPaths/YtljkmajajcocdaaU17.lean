/-
  Events of a network as data ('EVV'), slices of them in memory ('EvAt'). No condition.
-/
import Derived.Test.YtljkmajajcocdaaU6
import Derived.Test.YtljkmajajcocdaaU0
namespace Go.Proofs.Ytljkmajajcocdaa
open Go.RowKit
set_option linter.unusedVariables false
set_option linter.unusedSimpArgs false
set_option maxRecDepth 4000

/-- An event as it lies in memory. -/
structure EVV where
  kd : Int
  nd : Int
  n : Int
  at_ : Int
  by_ : Int
  a : Option Addr
  dn : Nat
  dc : Nat
  xs : List Nat
def EVV.dflt : EVV := ⟨0, 0, 0, 0, 0, none, 0, 0, []⟩
def EVV.cells (e : EVV) : List Value := [.int .i64 e.kd, .int .i64 e.nd, .int .i64 e.n, .int .i64 e.at_, .int .i64 e.by_, .slice e.a e.dn e.dc]
def EVV.val (e : EVV) : Value := .agg #[.int .i64 e.kd, .int .i64 e.nd, .int .i64 e.n, .int .i64 e.at_, .int .i64 e.by_, .slice e.a e.dn e.dc]
end Go.Proofs.Ytljkmajajcocdaa
