/-
  Plain mathematics of math/bits.OnesCount64: the sum of bits in parallel is how many bits there are, for every number below 2^64. Of no program.
-/
import Derived.Lib.TrailingZeros
import Derived.Laws.BitsAllLaws
import Derived.WalkKit
import Derived.Laws.Bits128
namespace Go.Proofs.Ytljkmajajcocdaa
open Go.RowKit

/-- A byte's mask, k times. -/
def rep (m : Nat) : Nat → Nat
  | 0 => 0
  | k + 1 => m + 256 * rep m k
def y8 (x : Nat) : Nat := (x / 2 &&& 85) + (x &&& 85)
def z8 (x : Nat) : Nat := (x / 4 &&& 51) + (x &&& 51)
def gk (k x : Nat) : Nat := (x / 16 + x) &&& rep 15 k

end Go.Proofs.Ytljkmajajcocdaa
