/-
  No cell of these rows narrows 'for every input' (looked for: loops, veiled, ifaces, maps, wideKeys, modest, calm, conditions, laid).
  DERIVED. THE GIVEN ROWS OF THIS SEAT. 5 by the template 'for every input the law returns true; each argument reads behind the call as it read before'; 0 by the template 'total and deterministic' (their statements: YtpklckpnimmkpaaTotals.lean).
  GIVEN WITH THE SEED: the statements are not yours to turn. If you find one false, say at which input.
  Laid BY PROGRAM, IN A SANDBOX (cutbox-rows.mjs): the forced cells as the released guide's own fill.sh prints them over the translation 340127ef2988f499… (all of the seat's roots in one cut). By AI agents, Wed Nov 11 2026. No macro, syntax, notation, axiom, sorry.
-/
import Derived.Test.YtpklckpnimmkpaaChecked
import GoSem.Claim
import GoSem.ClaimJoined
import GoSem.ClaimMapViews
import Derived.JoinedTies
import Derived.KernelRfl
namespace Go.Proofs.Ytpklckpnimmkpaa
/- THE CELL 'sum', in the pinned program and in every row, IS THE sha256 OF THE DUMP (.gsa) THAT YtpklckpnimmkpaaProg.lean LOADS. Nothing in Lean hashes anything: it is a label: what it is worth is what the hold of that sum in a sandbox is worth. -/
noncomputable def Try.pinned : Pinned := { name := "ytpklckpnimmkpaa", sum := "340127ef2988f499e1b32242561759844f6109e7e8d530b378c835f66005c929", checked := Try.checked }
namespace Rows
def none {H : Type} : Left H := { results := [], args := [] }

/-- 'bucketlinelaw23.SeenPrints': WHATEVER THE INPUT: true; the input reads as it did. -/
def seenPrintsSpec : ChangeSpec := { name := "seenPrints", fn := fun _ => fun
  | [d1, d2] => { results := [.lit (.bool true)], args := [d1, d2] }
  | _ => none }
def seenPrintsRow : OpenClaim := { program := "ytpklckpnimmkpaa", sum := "340127ef2988f499e1b32242561759844f6109e7e8d530b378c835f66005c929", func := "bucketline/bucketlinelaw23.SeenPrints", spec := "seenPrints", inPlace := ["internal/abi.NoEscape", "internal/bytealg.MakeNoZero"], apart := false }
def SeenPrintsSaid : Prop := seenPrintsRow.holds Try.pinned (OpenSpec.ofChange seenPrintsSpec)

/-- ITS FALSE NEIGHBOUR: 'it returns false'. Refute it at one input. -/
def seenPrintsWrong : ChangeSpec := { name := "seenPrints", fn := fun _ => fun
  | [d1, d2] => { results := [.lit (.bool false)], args := [d1, d2] }
  | _ => none }
def SeenPrintsWrongFalsely : Prop := seenPrintsRow.holds Try.pinned (OpenSpec.ofChange seenPrintsWrong)

/-- 'bucketlinelaw23.SeenPlays': WHATEVER THE INPUT: true; the input reads as it did. -/
def seenPlaysSpec : ChangeSpec := { name := "seenPlays", fn := fun _ => fun
  | [d1, d2] => { results := [.lit (.bool true)], args := [d1, d2] }
  | _ => none }
def seenPlaysRow : OpenClaim := { program := "ytpklckpnimmkpaa", sum := "340127ef2988f499e1b32242561759844f6109e7e8d530b378c835f66005c929", func := "bucketline/bucketlinelaw23.SeenPlays", spec := "seenPlays", inPlace := ["internal/abi.NoEscape", "internal/bytealg.MakeNoZero"], apart := false }
def SeenPlaysSaid : Prop := seenPlaysRow.holds Try.pinned (OpenSpec.ofChange seenPlaysSpec)

/-- ITS FALSE NEIGHBOUR: 'it returns false'. Refute it at one input. -/
def seenPlaysWrong : ChangeSpec := { name := "seenPlays", fn := fun _ => fun
  | [d1, d2] => { results := [.lit (.bool false)], args := [d1, d2] }
  | _ => none }
def SeenPlaysWrongFalsely : Prop := seenPlaysRow.holds Try.pinned (OpenSpec.ofChange seenPlaysWrong)

/-- 'bucketlinelaw23.SeenTwice': WHATEVER THE INPUT: true; the input reads as it did. -/
def seenTwiceSpec : ChangeSpec := { name := "seenTwice", fn := fun _ => fun
  | [d1, d2] => { results := [.lit (.bool true)], args := [d1, d2] }
  | _ => none }
def seenTwiceRow : OpenClaim := { program := "ytpklckpnimmkpaa", sum := "340127ef2988f499e1b32242561759844f6109e7e8d530b378c835f66005c929", func := "bucketline/bucketlinelaw23.SeenTwice", spec := "seenTwice", inPlace := ["internal/abi.NoEscape", "internal/bytealg.MakeNoZero"], apart := false }
def SeenTwiceSaid : Prop := seenTwiceRow.holds Try.pinned (OpenSpec.ofChange seenTwiceSpec)

/-- ITS FALSE NEIGHBOUR: 'it returns false'. Refute it at one input. -/
def seenTwiceWrong : ChangeSpec := { name := "seenTwice", fn := fun _ => fun
  | [d1, d2] => { results := [.lit (.bool false)], args := [d1, d2] }
  | _ => none }
def SeenTwiceWrongFalsely : Prop := seenTwiceRow.holds Try.pinned (OpenSpec.ofChange seenTwiceWrong)

/-- 'bucketlinelaw23.SeenLast': WHATEVER THE INPUT: true; the input reads as it did. -/
def seenLastSpec : ChangeSpec := { name := "seenLast", fn := fun _ => fun
  | [d1, d2] => { results := [.lit (.bool true)], args := [d1, d2] }
  | _ => none }
def seenLastRow : OpenClaim := { program := "ytpklckpnimmkpaa", sum := "340127ef2988f499e1b32242561759844f6109e7e8d530b378c835f66005c929", func := "bucketline/bucketlinelaw23.SeenLast", spec := "seenLast", inPlace := ["internal/abi.NoEscape", "internal/bytealg.MakeNoZero"], apart := false }
def SeenLastSaid : Prop := seenLastRow.holds Try.pinned (OpenSpec.ofChange seenLastSpec)

/-- ITS FALSE NEIGHBOUR: 'it returns false'. Refute it at one input. -/
def seenLastWrong : ChangeSpec := { name := "seenLast", fn := fun _ => fun
  | [d1, d2] => { results := [.lit (.bool false)], args := [d1, d2] }
  | _ => none }
def SeenLastWrongFalsely : Prop := seenLastRow.holds Try.pinned (OpenSpec.ofChange seenLastWrong)

/-- 'bucketlinelaw23.SeenNone': WHATEVER THE INPUT: true; the input reads as it did. -/
def seenNoneSpec : ChangeSpec := { name := "seenNone", fn := fun _ => fun
  | [d1, d2] => { results := [.lit (.bool true)], args := [d1, d2] }
  | _ => none }
def seenNoneRow : OpenClaim := { program := "ytpklckpnimmkpaa", sum := "340127ef2988f499e1b32242561759844f6109e7e8d530b378c835f66005c929", func := "bucketline/bucketlinelaw23.SeenNone", spec := "seenNone", inPlace := ["internal/abi.NoEscape", "internal/bytealg.MakeNoZero"], apart := false }
def SeenNoneSaid : Prop := seenNoneRow.holds Try.pinned (OpenSpec.ofChange seenNoneSpec)

/-- ITS FALSE NEIGHBOUR: 'it returns false'. Refute it at one input. -/
def seenNoneWrong : ChangeSpec := { name := "seenNone", fn := fun _ => fun
  | [d1, d2] => { results := [.lit (.bool false)], args := [d1, d2] }
  | _ => none }
def SeenNoneWrongFalsely : Prop := seenNoneRow.holds Try.pinned (OpenSpec.ofChange seenNoneWrong)

/- THE SECOND FORM. 'bulk': how many values and letters a reading holds, each counted each time it is reached (what is shared counts as often as it is met; a slice's spare places count too). A statement '..UptoSaid' is the law's where the arguments, and the package variables that the reading takes, are together of bulk at most 1048576: NARROWER than '..Said'. Prove '..Said' where nothing that the law and all that it calls make is longer than what came in: it says more and counts as full. Else prove '..UptoSaid'. A law counts once. -/
mutual
def uptoBulk {H : Type} : DataW H → Nat
  | .lit (.string bytes) => bytes.length + 1
  | .lit _ => 1
  | .nil => 1
  | .ptr d => uptoBulk d + 1
  | .slice elems spare => uptoBulkAll elems + uptoBulkAll spare + 1
  | .agg parts => uptoBulkAll parts + 1
  | .iface _ d => uptoBulk d + 1
  | .map entries => uptoBulkEntries entries + 1
  | .held _ => 1
def uptoBulkAll {H : Type} : List (DataW H) → Nat
  | [] => 0
  | d :: r => uptoBulk d + uptoBulkAll r
def uptoBulkEntries {H : Type} : List (Lit × DataW H) → Nat
  | [] => 0
  | x :: r => uptoBulkEntry x + uptoBulkEntries r
def uptoBulkEntry {H : Type} : Lit × DataW H → Nat
  | (.string bytes, d) => bytes.length + uptoBulk d + 1
  | (_, d) => uptoBulk d + 1
 end
def uptoSmall : (H : Type) → List (DataW H) → Bool := fun _ ds => decide (uptoBulkAll ds ≤ 1048576)
def OpenSpec.upto (s : _root_.Go.ChangeSpec) : _root_.Go.OpenSpec := { _root_.Go.OpenSpec.ofChange s with cond := some uptoSmall }

/-- 'bucketlinelaw23.SeenPrints', WHERE WHAT IT READS IS OF BULK AT MOST 1048576: true; the input reads as it did. -/
def seenPrintsUptoRow : OpenClaim := { program := "ytpklckpnimmkpaa", sum := "340127ef2988f499e1b32242561759844f6109e7e8d530b378c835f66005c929", func := "bucketline/bucketlinelaw23.SeenPrints", spec := "seenPrints", inPlace := ["internal/abi.NoEscape", "internal/bytealg.MakeNoZero"], apart := false, narrowed := true }
def SeenPrintsUptoSaid : Prop := seenPrintsUptoRow.holds Try.pinned (OpenSpec.upto seenPrintsSpec)

/-- 'bucketlinelaw23.SeenPlays', WHERE WHAT IT READS IS OF BULK AT MOST 1048576: true; the input reads as it did. -/
def seenPlaysUptoRow : OpenClaim := { program := "ytpklckpnimmkpaa", sum := "340127ef2988f499e1b32242561759844f6109e7e8d530b378c835f66005c929", func := "bucketline/bucketlinelaw23.SeenPlays", spec := "seenPlays", inPlace := ["internal/abi.NoEscape", "internal/bytealg.MakeNoZero"], apart := false, narrowed := true }
def SeenPlaysUptoSaid : Prop := seenPlaysUptoRow.holds Try.pinned (OpenSpec.upto seenPlaysSpec)

/-- 'bucketlinelaw23.SeenTwice', WHERE WHAT IT READS IS OF BULK AT MOST 1048576: true; the input reads as it did. -/
def seenTwiceUptoRow : OpenClaim := { program := "ytpklckpnimmkpaa", sum := "340127ef2988f499e1b32242561759844f6109e7e8d530b378c835f66005c929", func := "bucketline/bucketlinelaw23.SeenTwice", spec := "seenTwice", inPlace := ["internal/abi.NoEscape", "internal/bytealg.MakeNoZero"], apart := false, narrowed := true }
def SeenTwiceUptoSaid : Prop := seenTwiceUptoRow.holds Try.pinned (OpenSpec.upto seenTwiceSpec)

/-- 'bucketlinelaw23.SeenLast', WHERE WHAT IT READS IS OF BULK AT MOST 1048576: true; the input reads as it did. -/
def seenLastUptoRow : OpenClaim := { program := "ytpklckpnimmkpaa", sum := "340127ef2988f499e1b32242561759844f6109e7e8d530b378c835f66005c929", func := "bucketline/bucketlinelaw23.SeenLast", spec := "seenLast", inPlace := ["internal/abi.NoEscape", "internal/bytealg.MakeNoZero"], apart := false, narrowed := true }
def SeenLastUptoSaid : Prop := seenLastUptoRow.holds Try.pinned (OpenSpec.upto seenLastSpec)

/-- 'bucketlinelaw23.SeenNone', WHERE WHAT IT READS IS OF BULK AT MOST 1048576: true; the input reads as it did. -/
def seenNoneUptoRow : OpenClaim := { program := "ytpklckpnimmkpaa", sum := "340127ef2988f499e1b32242561759844f6109e7e8d530b378c835f66005c929", func := "bucketline/bucketlinelaw23.SeenNone", spec := "seenNone", inPlace := ["internal/abi.NoEscape", "internal/bytealg.MakeNoZero"], apart := false, narrowed := true }
def SeenNoneUptoSaid : Prop := seenNoneUptoRow.holds Try.pinned (OpenSpec.upto seenNoneSpec)

end Rows
end Go.Proofs.Ytpklckpnimmkpaa
