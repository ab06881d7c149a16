/-
  NARROWER THAN 'FOR EVERY INPUT', by the rows' own cells (each row's printed sentence says how): GaussSolves: laid · GaussDecodes: laid · GaussTrue: laid · GaussOrder: laid · GaussMore: laid.
  DERIVED. THE GIVEN ROWS OF THIS SEAT. 5 by the template 'for every input the law returns true; each argument reads behind the call as it read before'; 0 by the template 'total and deterministic' (their statements: YtjppopabjfncpaaDoorTotals.lean).
  GIVEN WITH THE SEED: the statements are not yours to turn. If you find one false, say at which input.
  Laid BY PROGRAM, IN A SANDBOX (cutbox-rows.mjs): the forced cells as the released guide's own fill.sh prints them over the translation dfda0529784430e2… (all of the seat's roots in one cut). By AI agents, Wed Nov 11 2026. No macro, syntax, notation, axiom, sorry.
-/
import Derived.Test.YtjppopabjfncpaaDoorChecked
import GoSem.Claim
import GoSem.ClaimJoined
import GoSem.ClaimMapViews
import Derived.JoinedTies
import Derived.KernelRfl
namespace Go.Proofs.YtjppopabjfncpaaDoor
/- THE CELL 'sum', in the pinned program and in every row, IS THE sha256 OF THE DUMP (.gsa) THAT YtjppopabjfncpaaDoorProg.lean LOADS. Nothing in Lean hashes anything: it is a label: what it is worth is what the hold of that sum in a sandbox is worth. -/
noncomputable def Tryd.pinned : Pinned := { name := "ytjppopabjfncpaadoor", sum := "dfda0529784430e2562b9a2cbb10bbfccdf8af8cbe9ed740b2f46d82190c90f7", checked := Tryd.checked }
namespace Rows
def none {H : Type} : Left H := { results := [], args := [] }

/- WHAT THE LISTED PACKAGE-LEVEL VARIABLES READ AS WHEN THE CALL BEGINS. Each datum BY PROGRAM (the guide's laid-datum.mjs) off the statement by which the dump's own 'gosem.cut.vars' lays the variable. In a bare row this is a premise. The card (YtjppopabjfncpaaDoorCards.lean) ties it to the program's text. -/
def laid_math_bits_deBruijn64tab {H : Type} : DataW H := .agg [.lit (.int .u8 0), .lit (.int .u8 1), .lit (.int .u8 56), .lit (.int .u8 2), .lit (.int .u8 57), .lit (.int .u8 49), .lit (.int .u8 28), .lit (.int .u8 3), .lit (.int .u8 61), .lit (.int .u8 58), .lit (.int .u8 42), .lit (.int .u8 50), .lit (.int .u8 38), .lit (.int .u8 29), .lit (.int .u8 17), .lit (.int .u8 4), .lit (.int .u8 62), .lit (.int .u8 47), .lit (.int .u8 59), .lit (.int .u8 36), .lit (.int .u8 45), .lit (.int .u8 43), .lit (.int .u8 51), .lit (.int .u8 22), .lit (.int .u8 53), .lit (.int .u8 39), .lit (.int .u8 33), .lit (.int .u8 30), .lit (.int .u8 24), .lit (.int .u8 18), .lit (.int .u8 12), .lit (.int .u8 5), .lit (.int .u8 63), .lit (.int .u8 55), .lit (.int .u8 48), .lit (.int .u8 27), .lit (.int .u8 60), .lit (.int .u8 41), .lit (.int .u8 37), .lit (.int .u8 16), .lit (.int .u8 46), .lit (.int .u8 35), .lit (.int .u8 44), .lit (.int .u8 21), .lit (.int .u8 52), .lit (.int .u8 32), .lit (.int .u8 23), .lit (.int .u8 11), .lit (.int .u8 54), .lit (.int .u8 26), .lit (.int .u8 40), .lit (.int .u8 15), .lit (.int .u8 34), .lit (.int .u8 20), .lit (.int .u8 31), .lit (.int .u8 10), .lit (.int .u8 25), .lit (.int .u8 14), .lit (.int .u8 19), .lit (.int .u8 9), .lit (.int .u8 13), .lit (.int .u8 8), .lit (.int .u8 7), .lit (.int .u8 6)]

/-- 'bucketlinelaw14.GaussSolves': WHATEVER THE INPUT: true; the input reads as it did. -/
def gaussSolvesSpec : ChangeSpec := { name := "gaussSolves", fn := fun _ => fun
  | [d1, d2] => { results := [.lit (.bool true)], args := [d1, d2] }
  | _ => none }
def gaussSolvesRow : OpenClaim := { program := "ytjppopabjfncpaadoor", sum := "dfda0529784430e2562b9a2cbb10bbfccdf8af8cbe9ed740b2f46d82190c90f7", func := "bucketline/bucketlinelaw14.GaussSolves", spec := "gaussSolves", unfollowed := true, recurses := true, named := ["math/bits.deBruijn64tab"], apart := false, laid := [("math/bits.deBruijn64tab", laid_math_bits_deBruijn64tab)] }
def GaussSolvesSaid : Prop := gaussSolvesRow.holds Tryd.pinned (OpenSpec.ofChange gaussSolvesSpec)

/-- ITS FALSE NEIGHBOUR: 'it returns false'. Refute it at one input. -/
def gaussSolvesWrong : ChangeSpec := { name := "gaussSolves", fn := fun _ => fun
  | [d1, d2] => { results := [.lit (.bool false)], args := [d1, d2] }
  | _ => none }
def GaussSolvesWrongFalsely : Prop := gaussSolvesRow.holds Tryd.pinned (OpenSpec.ofChange gaussSolvesWrong)

/-- 'bucketlinelaw14.GaussDecodes': WHATEVER THE INPUT: true; the input reads as it did. -/
def gaussDecodesSpec : ChangeSpec := { name := "gaussDecodes", fn := fun _ => fun
  | [d1, d2] => { results := [.lit (.bool true)], args := [d1, d2] }
  | _ => none }
def gaussDecodesRow : OpenClaim := { program := "ytjppopabjfncpaadoor", sum := "dfda0529784430e2562b9a2cbb10bbfccdf8af8cbe9ed740b2f46d82190c90f7", func := "bucketline/bucketlinelaw14.GaussDecodes", spec := "gaussDecodes", unfollowed := true, recurses := true, named := ["math/bits.deBruijn64tab"], apart := false, laid := [("math/bits.deBruijn64tab", laid_math_bits_deBruijn64tab)] }
def GaussDecodesSaid : Prop := gaussDecodesRow.holds Tryd.pinned (OpenSpec.ofChange gaussDecodesSpec)

/-- ITS FALSE NEIGHBOUR: 'it returns false'. Refute it at one input. -/
def gaussDecodesWrong : ChangeSpec := { name := "gaussDecodes", fn := fun _ => fun
  | [d1, d2] => { results := [.lit (.bool false)], args := [d1, d2] }
  | _ => none }
def GaussDecodesWrongFalsely : Prop := gaussDecodesRow.holds Tryd.pinned (OpenSpec.ofChange gaussDecodesWrong)

/-- 'bucketlinelaw14.GaussTrue': WHATEVER THE INPUT: true; the input reads as it did. -/
def gaussTrueSpec : ChangeSpec := { name := "gaussTrue", fn := fun _ => fun
  | [d1, d2] => { results := [.lit (.bool true)], args := [d1, d2] }
  | _ => none }
def gaussTrueRow : OpenClaim := { program := "ytjppopabjfncpaadoor", sum := "dfda0529784430e2562b9a2cbb10bbfccdf8af8cbe9ed740b2f46d82190c90f7", func := "bucketline/bucketlinelaw14.GaussTrue", spec := "gaussTrue", unfollowed := true, recurses := true, named := ["math/bits.deBruijn64tab"], apart := false, laid := [("math/bits.deBruijn64tab", laid_math_bits_deBruijn64tab)] }
def GaussTrueSaid : Prop := gaussTrueRow.holds Tryd.pinned (OpenSpec.ofChange gaussTrueSpec)

/-- ITS FALSE NEIGHBOUR: 'it returns false'. Refute it at one input. -/
def gaussTrueWrong : ChangeSpec := { name := "gaussTrue", fn := fun _ => fun
  | [d1, d2] => { results := [.lit (.bool false)], args := [d1, d2] }
  | _ => none }
def GaussTrueWrongFalsely : Prop := gaussTrueRow.holds Tryd.pinned (OpenSpec.ofChange gaussTrueWrong)

/-- 'bucketlinelaw14.GaussOrder': WHATEVER THE INPUT: true; the input reads as it did. -/
def gaussOrderSpec : ChangeSpec := { name := "gaussOrder", fn := fun _ => fun
  | [d1, d2, d3] => { results := [.lit (.bool true)], args := [d1, d2, d3] }
  | _ => none }
def gaussOrderRow : OpenClaim := { program := "ytjppopabjfncpaadoor", sum := "dfda0529784430e2562b9a2cbb10bbfccdf8af8cbe9ed740b2f46d82190c90f7", func := "bucketline/bucketlinelaw14.GaussOrder", spec := "gaussOrder", unfollowed := true, recurses := true, named := ["math/bits.deBruijn64tab"], apart := false, laid := [("math/bits.deBruijn64tab", laid_math_bits_deBruijn64tab)] }
def GaussOrderSaid : Prop := gaussOrderRow.holds Tryd.pinned (OpenSpec.ofChange gaussOrderSpec)

/-- ITS FALSE NEIGHBOUR: 'it returns false'. Refute it at one input. -/
def gaussOrderWrong : ChangeSpec := { name := "gaussOrder", fn := fun _ => fun
  | [d1, d2, d3] => { results := [.lit (.bool false)], args := [d1, d2, d3] }
  | _ => none }
def GaussOrderWrongFalsely : Prop := gaussOrderRow.holds Tryd.pinned (OpenSpec.ofChange gaussOrderWrong)

/-- 'bucketlinelaw14.GaussMore': WHATEVER THE INPUT: true; the input reads as it did. -/
def gaussMoreSpec : ChangeSpec := { name := "gaussMore", fn := fun _ => fun
  | [d1, d2] => { results := [.lit (.bool true)], args := [d1, d2] }
  | _ => none }
def gaussMoreRow : OpenClaim := { program := "ytjppopabjfncpaadoor", sum := "dfda0529784430e2562b9a2cbb10bbfccdf8af8cbe9ed740b2f46d82190c90f7", func := "bucketline/bucketlinelaw14.GaussMore", spec := "gaussMore", unfollowed := true, recurses := true, named := ["math/bits.deBruijn64tab"], apart := false, laid := [("math/bits.deBruijn64tab", laid_math_bits_deBruijn64tab)] }
def GaussMoreSaid : Prop := gaussMoreRow.holds Tryd.pinned (OpenSpec.ofChange gaussMoreSpec)

/-- ITS FALSE NEIGHBOUR: 'it returns false'. Refute it at one input. -/
def gaussMoreWrong : ChangeSpec := { name := "gaussMore", fn := fun _ => fun
  | [d1, d2] => { results := [.lit (.bool false)], args := [d1, d2] }
  | _ => none }
def GaussMoreWrongFalsely : Prop := gaussMoreRow.holds Tryd.pinned (OpenSpec.ofChange gaussMoreWrong)

/- THE SECOND FORM. 'bulk': how many values and letters a reading holds, each counted each time it is reached (what is shared counts as often as it is met; a slice's spare places count too). A statement '..UptoSaid' is the law's where the arguments, and the package variables that the reading takes, are together of bulk at most 1048576: NARROWER than '..Said'. Prove '..Said' where nothing that the law and all that it calls make is longer than what came in: it says more and counts as full. Else prove '..UptoSaid'. A law counts once. -/
mutual
def uptoBulk {H : Type} : DataW H → Nat
  | .lit (.string bytes) => bytes.length + 1
  | .lit _ => 1
  | .nil => 1
  | .ptr d => uptoBulk d + 1
  | .slice elems spare => uptoBulkAll elems + uptoBulkAll spare + 1
  | .agg parts => uptoBulkAll parts + 1
  | .iface _ d => uptoBulk d + 1
  | .map entries => uptoBulkEntries entries + 1
  | .held _ => 1
def uptoBulkAll {H : Type} : List (DataW H) → Nat
  | [] => 0
  | d :: r => uptoBulk d + uptoBulkAll r
def uptoBulkEntries {H : Type} : List (Lit × DataW H) → Nat
  | [] => 0
  | x :: r => uptoBulkEntry x + uptoBulkEntries r
def uptoBulkEntry {H : Type} : Lit × DataW H → Nat
  | (.string bytes, d) => bytes.length + uptoBulk d + 1
  | (_, d) => uptoBulk d + 1
 end
def uptoSmall : (H : Type) → List (DataW H) → Bool := fun _ ds => decide (uptoBulkAll ds ≤ 1048576)
def OpenSpec.upto (s : _root_.Go.ChangeSpec) : _root_.Go.OpenSpec := { _root_.Go.OpenSpec.ofChange s with cond := some uptoSmall }

/-- 'bucketlinelaw14.GaussSolves', WHERE WHAT IT READS IS OF BULK AT MOST 1048576: true; the input reads as it did. -/
def gaussSolvesUptoRow : OpenClaim := { program := "ytjppopabjfncpaadoor", sum := "dfda0529784430e2562b9a2cbb10bbfccdf8af8cbe9ed740b2f46d82190c90f7", func := "bucketline/bucketlinelaw14.GaussSolves", spec := "gaussSolves", unfollowed := true, recurses := true, named := ["math/bits.deBruijn64tab"], apart := false, laid := [("math/bits.deBruijn64tab", laid_math_bits_deBruijn64tab)], narrowed := true }
def GaussSolvesUptoSaid : Prop := gaussSolvesUptoRow.holds Tryd.pinned (OpenSpec.upto gaussSolvesSpec)

/-- 'bucketlinelaw14.GaussDecodes', WHERE WHAT IT READS IS OF BULK AT MOST 1048576: true; the input reads as it did. -/
def gaussDecodesUptoRow : OpenClaim := { program := "ytjppopabjfncpaadoor", sum := "dfda0529784430e2562b9a2cbb10bbfccdf8af8cbe9ed740b2f46d82190c90f7", func := "bucketline/bucketlinelaw14.GaussDecodes", spec := "gaussDecodes", unfollowed := true, recurses := true, named := ["math/bits.deBruijn64tab"], apart := false, laid := [("math/bits.deBruijn64tab", laid_math_bits_deBruijn64tab)], narrowed := true }
def GaussDecodesUptoSaid : Prop := gaussDecodesUptoRow.holds Tryd.pinned (OpenSpec.upto gaussDecodesSpec)

/-- 'bucketlinelaw14.GaussTrue', WHERE WHAT IT READS IS OF BULK AT MOST 1048576: true; the input reads as it did. -/
def gaussTrueUptoRow : OpenClaim := { program := "ytjppopabjfncpaadoor", sum := "dfda0529784430e2562b9a2cbb10bbfccdf8af8cbe9ed740b2f46d82190c90f7", func := "bucketline/bucketlinelaw14.GaussTrue", spec := "gaussTrue", unfollowed := true, recurses := true, named := ["math/bits.deBruijn64tab"], apart := false, laid := [("math/bits.deBruijn64tab", laid_math_bits_deBruijn64tab)], narrowed := true }
def GaussTrueUptoSaid : Prop := gaussTrueUptoRow.holds Tryd.pinned (OpenSpec.upto gaussTrueSpec)

/-- 'bucketlinelaw14.GaussOrder', WHERE WHAT IT READS IS OF BULK AT MOST 1048576: true; the input reads as it did. -/
def gaussOrderUptoRow : OpenClaim := { program := "ytjppopabjfncpaadoor", sum := "dfda0529784430e2562b9a2cbb10bbfccdf8af8cbe9ed740b2f46d82190c90f7", func := "bucketline/bucketlinelaw14.GaussOrder", spec := "gaussOrder", unfollowed := true, recurses := true, named := ["math/bits.deBruijn64tab"], apart := false, laid := [("math/bits.deBruijn64tab", laid_math_bits_deBruijn64tab)], narrowed := true }
def GaussOrderUptoSaid : Prop := gaussOrderUptoRow.holds Tryd.pinned (OpenSpec.upto gaussOrderSpec)

/-- 'bucketlinelaw14.GaussMore', WHERE WHAT IT READS IS OF BULK AT MOST 1048576: true; the input reads as it did. -/
def gaussMoreUptoRow : OpenClaim := { program := "ytjppopabjfncpaadoor", sum := "dfda0529784430e2562b9a2cbb10bbfccdf8af8cbe9ed740b2f46d82190c90f7", func := "bucketline/bucketlinelaw14.GaussMore", spec := "gaussMore", unfollowed := true, recurses := true, named := ["math/bits.deBruijn64tab"], apart := false, laid := [("math/bits.deBruijn64tab", laid_math_bits_deBruijn64tab)], narrowed := true }
def GaussMoreUptoSaid : Prop := gaussMoreUptoRow.holds Tryd.pinned (OpenSpec.upto gaussMoreSpec)

end Rows
end Go.Proofs.YtjppopabjfncpaaDoor
