/-
  Rows (a slice of words and a text) by value and in slices; contracts of bucketlineref02.Same, xor.Holds, bucketlineref02.Holds.
-/
import Derived.Test.YtcokmaofgfhapaaDoorXC
import Derived.Test.YtcokmaofgfhapaaDoorXS
import Derived.Deep.RegionWith
import Derived.Lib.QuietBelow
namespace Go.Proofs.YtcokmaofgfhapaaDoor
open Go.RowKit Go.Sort
set_option linter.unusedVariables false
set_option maxRecDepth 4000

theorem TextsAt.alloc {w : World} {a : Option Addr} {n : Nat} {ss : List ByteArray} (h : TextsAt w a n ss) (o : Obj) : TextsAt (w.alloc o) a n ss := h.below ((Below.refl _ _).alloc (Nat.le_refl _) _)

theorem holds_yes {vs : List Nat} {n : Nat} : (((upTo vs n : Nat) : Int) == ((cnt vs : Nat) : Int)) = decide (upTo vs n = cnt vs) := by
  by_cases h : upTo vs n = cnt vs
  · simp [h]
  · simp [h]; omega
/-- What xor.Holds tells. -/
def holdsB (ss : List ByteArray) (vs : List Nat) (s : ByteArray) : Bool := zeroB (xorS (st (ofL ss vs ss.length)) s) && decide (upTo vs ss.length = cnt vs)

end Go.Proofs.YtcokmaofgfhapaaDoor
