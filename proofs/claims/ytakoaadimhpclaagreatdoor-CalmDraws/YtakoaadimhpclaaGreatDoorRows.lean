/-
  NARROWER THAN 'FOR EVERY INPUT', by the rows' own cells (each row's printed sentence says how): CalmDraws: laid.
  DERIVED. THE GIVEN ROWS OF THIS SEAT. 1 by the template 'for every input the law returns true; each argument reads behind the call as it read before'; 0 by the template 'total and deterministic' (their statements: YtakoaadimhpclaaGreatDoorTotals.lean).
  GIVEN WITH THE SEED: the statements are not yours to turn. If you find one false, say at which input.
  Laid BY PROGRAM, IN A SANDBOX (cutbox-rows.mjs): the forced cells as the released guide's own fill.sh prints them over the translation ad6d7952dca2402e… (all of the seat's roots in one cut). By AI agents, Wed Nov 11 2026. No macro, syntax, notation, axiom, sorry.
-/
import Derived.Test.YtakoaadimhpclaaGreatDoorChecked
import GoSem.Claim
import GoSem.ClaimJoined
import GoSem.ClaimMapViews
import Derived.JoinedTies
import Derived.KernelRfl
namespace Go.Proofs.YtakoaadimhpclaaGreatDoor
/- THE CELL 'sum', in the pinned program and in every row, IS THE sha256 OF THE DUMP (.gsa) THAT YtakoaadimhpclaaGreatDoorProg.lean LOADS. Nothing in Lean hashes anything: it is a label: what it is worth is what the hold of that sum in a sandbox is worth. -/
noncomputable def Tryz.pinned : Pinned := { name := "ytakoaadimhpclaagreatdoor", sum := "ad6d7952dca2402e3026039535323642f0dd2a46ca524a0a22f68abf8dc6b9d1", checked := Tryz.checked }
namespace Rows
def none {H : Type} : Left H := { results := [], args := [] }

/- WHAT THE LISTED PACKAGE-LEVEL VARIABLES READ AS WHEN THE CALL BEGINS. Each datum BY PROGRAM (the guide's laid-datum.mjs) off the statement by which the dump's own 'gosem.cut.vars' lays the variable. In a bare row this is a premise. The card (YtakoaadimhpclaaGreatDoorCards.lean) ties it to the program's text. -/
def laid_bucketline_soliton_plain {H : Type} : DataW H := .agg [.lit (.int .u32 524288), .lit (.int .u32 174762), .lit (.int .u32 87381), .lit (.int .u32 52428), .lit (.int .u32 34952), .lit (.int .u32 24966), .lit (.int .u32 18724), .lit (.int .u32 14563), .lit (.int .u32 11650), .lit (.int .u32 9532), .lit (.int .u32 7943), .lit (.int .u32 6721), .lit (.int .u32 5761), .lit (.int .u32 4993), .lit (.int .u32 4369), .lit (.int .u32 3855), .lit (.int .u32 3426), .lit (.int .u32 3066), .lit (.int .u32 2759), .lit (.int .u32 2496), .lit (.int .u32 2269), .lit (.int .u32 2072), .lit (.int .u32 1899), .lit (.int .u32 1747), .lit (.int .u32 1613), .lit (.int .u32 1493), .lit (.int .u32 1387), .lit (.int .u32 1291), .lit (.int .u32 1205), .lit (.int .u32 1127), .lit (.int .u32 1057), .lit (.int .u32 992), .lit (.int .u32 934), .lit (.int .u32 881), .lit (.int .u32 832), .lit (.int .u32 787), .lit (.int .u32 745), .lit (.int .u32 707), .lit (.int .u32 672), .lit (.int .u32 639), .lit (.int .u32 608), .lit (.int .u32 580), .lit (.int .u32 554), .lit (.int .u32 529), .lit (.int .u32 506), .lit (.int .u32 485), .lit (.int .u32 464), .lit (.int .u32 445), .lit (.int .u32 427), .lit (.int .u32 411), .lit (.int .u32 395), .lit (.int .u32 380), .lit (.int .u32 366), .lit (.int .u32 353), .lit (.int .u32 340), .lit (.int .u32 328), .lit (.int .u32 317), .lit (.int .u32 306), .lit (.int .u32 296), .lit (.int .u32 286), .lit (.int .u32 277), .lit (.int .u32 268), .lit (.int .u32 260), .lit (.int .u32 252), .lit (.int .u32 244), .lit (.int .u32 237), .lit (.int .u32 230), .lit (.int .u32 223), .lit (.int .u32 217), .lit (.int .u32 210), .lit (.int .u32 205), .lit (.int .u32 199), .lit (.int .u32 194), .lit (.int .u32 188), .lit (.int .u32 183), .lit (.int .u32 179), .lit (.int .u32 174), .lit (.int .u32 170), .lit (.int .u32 165), .lit (.int .u32 161), .lit (.int .u32 157), .lit (.int .u32 154), .lit (.int .u32 150), .lit (.int .u32 146), .lit (.int .u32 143), .lit (.int .u32 140), .lit (.int .u32 136), .lit (.int .u32 133), .lit (.int .u32 130), .lit (.int .u32 128), .lit (.int .u32 125), .lit (.int .u32 122), .lit (.int .u32 119), .lit (.int .u32 117), .lit (.int .u32 114), .lit (.int .u32 112), .lit (.int .u32 110), .lit (.int .u32 108), .lit (.int .u32 105), .lit (.int .u32 103), .lit (.int .u32 101), .lit (.int .u32 99), .lit (.int .u32 97), .lit (.int .u32 96), .lit (.int .u32 94), .lit (.int .u32 92), .lit (.int .u32 90), .lit (.int .u32 89), .lit (.int .u32 87), .lit (.int .u32 85), .lit (.int .u32 84), .lit (.int .u32 82), .lit (.int .u32 81), .lit (.int .u32 79), .lit (.int .u32 78), .lit (.int .u32 77), .lit (.int .u32 75), .lit (.int .u32 74), .lit (.int .u32 73), .lit (.int .u32 72), .lit (.int .u32 71), .lit (.int .u32 69), .lit (.int .u32 68), .lit (.int .u32 67), .lit (.int .u32 66), .lit (.int .u32 65), .lit (.int .u32 64)]

/-- 'bucketlinelaw28.CalmDraws': WHATEVER THE INPUT: true; the input reads as it did. -/
def calmDrawsSpec : ChangeSpec := { name := "calmDraws", fn := fun _ => fun
  | [d1, d2, d3] => { results := [.lit (.bool true)], args := [d1, d2, d3] }
  | _ => none }
def calmDrawsRow : OpenClaim := { program := "ytakoaadimhpclaagreatdoor", sum := "ad6d7952dca2402e3026039535323642f0dd2a46ca524a0a22f68abf8dc6b9d1", func := "bucketline/bucketlinelaw28.CalmDraws", spec := "calmDraws", inPlace := ["internal/abi.NoEscape", "internal/bytealg.MakeNoZero"], unfollowed := true, recurses := true, named := ["bucketline/soliton.plain"], apart := false, laid := [("bucketline/soliton.plain", laid_bucketline_soliton_plain)] }
def CalmDrawsSaid : Prop := calmDrawsRow.holds Tryz.pinned (OpenSpec.ofChange calmDrawsSpec)

/-- ITS FALSE NEIGHBOUR: 'it returns false'. Refute it at one input. -/
def calmDrawsWrong : ChangeSpec := { name := "calmDraws", fn := fun _ => fun
  | [d1, d2, d3] => { results := [.lit (.bool false)], args := [d1, d2, d3] }
  | _ => none }
def CalmDrawsWrongFalsely : Prop := calmDrawsRow.holds Tryz.pinned (OpenSpec.ofChange calmDrawsWrong)

/- THE SECOND FORM. 'bulk': how many values and letters a reading holds, each counted each time it is reached (what is shared counts as often as it is met; a slice's spare places count too). A statement '..UptoSaid' is the law's where the arguments, and the package variables that the reading takes, are together of bulk at most 1048576: NARROWER than '..Said'. Prove '..Said' where nothing that the law and all that it calls make is longer than what came in: it says more and counts as full. Else prove '..UptoSaid'. A law counts once. -/
mutual
def uptoBulk {H : Type} : DataW H → Nat
  | .lit (.string bytes) => bytes.length + 1
  | .lit _ => 1
  | .nil => 1
  | .ptr d => uptoBulk d + 1
  | .slice elems spare => uptoBulkAll elems + uptoBulkAll spare + 1
  | .agg parts => uptoBulkAll parts + 1
  | .iface _ d => uptoBulk d + 1
  | .map entries => uptoBulkEntries entries + 1
  | .held _ => 1
def uptoBulkAll {H : Type} : List (DataW H) → Nat
  | [] => 0
  | d :: r => uptoBulk d + uptoBulkAll r
def uptoBulkEntries {H : Type} : List (Lit × DataW H) → Nat
  | [] => 0
  | x :: r => uptoBulkEntry x + uptoBulkEntries r
def uptoBulkEntry {H : Type} : Lit × DataW H → Nat
  | (.string bytes, d) => bytes.length + uptoBulk d + 1
  | (_, d) => uptoBulk d + 1
 end
def uptoSmall : (H : Type) → List (DataW H) → Bool := fun _ ds => decide (uptoBulkAll ds ≤ 1048576)
def OpenSpec.upto (s : _root_.Go.ChangeSpec) : _root_.Go.OpenSpec := { _root_.Go.OpenSpec.ofChange s with cond := some uptoSmall }

/-- 'bucketlinelaw28.CalmDraws', WHERE WHAT IT READS IS OF BULK AT MOST 1048576: true; the input reads as it did. -/
def calmDrawsUptoRow : OpenClaim := { program := "ytakoaadimhpclaagreatdoor", sum := "ad6d7952dca2402e3026039535323642f0dd2a46ca524a0a22f68abf8dc6b9d1", func := "bucketline/bucketlinelaw28.CalmDraws", spec := "calmDraws", inPlace := ["internal/abi.NoEscape", "internal/bytealg.MakeNoZero"], unfollowed := true, recurses := true, named := ["bucketline/soliton.plain"], apart := false, laid := [("bucketline/soliton.plain", laid_bucketline_soliton_plain)], narrowed := true }
def CalmDrawsUptoSaid : Prop := calmDrawsUptoRow.holds Tryz.pinned (OpenSpec.upto calmDrawsSpec)

end Rows
end Go.Proofs.YtakoaadimhpclaaGreatDoor
