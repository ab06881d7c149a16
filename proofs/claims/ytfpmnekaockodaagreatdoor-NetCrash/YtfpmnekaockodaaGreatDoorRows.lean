/-
  NARROWER THAN 'FOR EVERY INPUT', by the rows' own cells (each row's printed sentence says how): NetChecks: laid · NetBounds: laid · NetCrash: laid · NetIdle: laid · NetNone: laid.
  DERIVED. THE GIVEN ROWS OF THIS SEAT. 5 by the template 'for every input the law returns true; each argument reads behind the call as it read before'; 0 by the template 'total and deterministic' (their statements: YtfpmnekaockodaaGreatDoorTotals.lean).
  GIVEN WITH THE SEED: the statements are not yours to turn. If you find one false, say at which input.
  Laid BY PROGRAM, IN A SANDBOX (cutbox-rows.mjs): the forced cells as the released guide's own fill.sh prints them over the translation c572ec7596bb4c84… (all of the seat's roots in one cut). By AI agents, Wed Nov 11 2026. No macro, syntax, notation, axiom, sorry.
-/
import Derived.Test.YtfpmnekaockodaaGreatDoorChecked
import GoSem.Claim
import GoSem.ClaimJoined
import GoSem.ClaimMapViews
import Derived.JoinedTies
import Derived.KernelRfl
namespace Go.Proofs.YtfpmnekaockodaaGreatDoor
/- THE CELL 'sum', in the pinned program and in every row, IS THE sha256 OF THE DUMP (.gsa) THAT YtfpmnekaockodaaGreatDoorProg.lean LOADS. Nothing in Lean hashes anything: it is a label: what it is worth is what the hold of that sum in a sandbox is worth. -/
noncomputable def Tryz.pinned : Pinned := { name := "ytfpmnekaockodaagreatdoor", sum := "c572ec7596bb4c840fc7f0492778c33f6712c76abf2277e2cbbe595106708f17", checked := Tryz.checked }
namespace Rows
def none {H : Type} : Left H := { results := [], args := [] }

/- WHAT THE LISTED PACKAGE-LEVEL VARIABLES READ AS WHEN THE CALL BEGINS. Each datum BY PROGRAM (the guide's laid-datum.mjs) off the statement by which the dump's own 'gosem.cut.vars' lays the variable. In a bare row this is a premise. The card (YtfpmnekaockodaaGreatDoorCards.lean) ties it to the program's text. -/
def laid_math_bits_deBruijn64tab {H : Type} : DataW H := .agg [.lit (.int .u8 0), .lit (.int .u8 1), .lit (.int .u8 56), .lit (.int .u8 2), .lit (.int .u8 57), .lit (.int .u8 49), .lit (.int .u8 28), .lit (.int .u8 3), .lit (.int .u8 61), .lit (.int .u8 58), .lit (.int .u8 42), .lit (.int .u8 50), .lit (.int .u8 38), .lit (.int .u8 29), .lit (.int .u8 17), .lit (.int .u8 4), .lit (.int .u8 62), .lit (.int .u8 47), .lit (.int .u8 59), .lit (.int .u8 36), .lit (.int .u8 45), .lit (.int .u8 43), .lit (.int .u8 51), .lit (.int .u8 22), .lit (.int .u8 53), .lit (.int .u8 39), .lit (.int .u8 33), .lit (.int .u8 30), .lit (.int .u8 24), .lit (.int .u8 18), .lit (.int .u8 12), .lit (.int .u8 5), .lit (.int .u8 63), .lit (.int .u8 55), .lit (.int .u8 48), .lit (.int .u8 27), .lit (.int .u8 60), .lit (.int .u8 41), .lit (.int .u8 37), .lit (.int .u8 16), .lit (.int .u8 46), .lit (.int .u8 35), .lit (.int .u8 44), .lit (.int .u8 21), .lit (.int .u8 52), .lit (.int .u8 32), .lit (.int .u8 23), .lit (.int .u8 11), .lit (.int .u8 54), .lit (.int .u8 26), .lit (.int .u8 40), .lit (.int .u8 15), .lit (.int .u8 34), .lit (.int .u8 20), .lit (.int .u8 31), .lit (.int .u8 10), .lit (.int .u8 25), .lit (.int .u8 14), .lit (.int .u8 19), .lit (.int .u8 9), .lit (.int .u8 13), .lit (.int .u8 8), .lit (.int .u8 7), .lit (.int .u8 6)]
def laid_bucketline_soliton_plain {H : Type} : DataW H := .agg [.lit (.int .u32 524288), .lit (.int .u32 174762), .lit (.int .u32 87381), .lit (.int .u32 52428), .lit (.int .u32 34952), .lit (.int .u32 24966), .lit (.int .u32 18724), .lit (.int .u32 14563), .lit (.int .u32 11650), .lit (.int .u32 9532), .lit (.int .u32 7943), .lit (.int .u32 6721), .lit (.int .u32 5761), .lit (.int .u32 4993), .lit (.int .u32 4369), .lit (.int .u32 3855), .lit (.int .u32 3426), .lit (.int .u32 3066), .lit (.int .u32 2759), .lit (.int .u32 2496), .lit (.int .u32 2269), .lit (.int .u32 2072), .lit (.int .u32 1899), .lit (.int .u32 1747), .lit (.int .u32 1613), .lit (.int .u32 1493), .lit (.int .u32 1387), .lit (.int .u32 1291), .lit (.int .u32 1205), .lit (.int .u32 1127), .lit (.int .u32 1057), .lit (.int .u32 992), .lit (.int .u32 934), .lit (.int .u32 881), .lit (.int .u32 832), .lit (.int .u32 787), .lit (.int .u32 745), .lit (.int .u32 707), .lit (.int .u32 672), .lit (.int .u32 639), .lit (.int .u32 608), .lit (.int .u32 580), .lit (.int .u32 554), .lit (.int .u32 529), .lit (.int .u32 506), .lit (.int .u32 485), .lit (.int .u32 464), .lit (.int .u32 445), .lit (.int .u32 427), .lit (.int .u32 411), .lit (.int .u32 395), .lit (.int .u32 380), .lit (.int .u32 366), .lit (.int .u32 353), .lit (.int .u32 340), .lit (.int .u32 328), .lit (.int .u32 317), .lit (.int .u32 306), .lit (.int .u32 296), .lit (.int .u32 286), .lit (.int .u32 277), .lit (.int .u32 268), .lit (.int .u32 260), .lit (.int .u32 252), .lit (.int .u32 244), .lit (.int .u32 237), .lit (.int .u32 230), .lit (.int .u32 223), .lit (.int .u32 217), .lit (.int .u32 210), .lit (.int .u32 205), .lit (.int .u32 199), .lit (.int .u32 194), .lit (.int .u32 188), .lit (.int .u32 183), .lit (.int .u32 179), .lit (.int .u32 174), .lit (.int .u32 170), .lit (.int .u32 165), .lit (.int .u32 161), .lit (.int .u32 157), .lit (.int .u32 154), .lit (.int .u32 150), .lit (.int .u32 146), .lit (.int .u32 143), .lit (.int .u32 140), .lit (.int .u32 136), .lit (.int .u32 133), .lit (.int .u32 130), .lit (.int .u32 128), .lit (.int .u32 125), .lit (.int .u32 122), .lit (.int .u32 119), .lit (.int .u32 117), .lit (.int .u32 114), .lit (.int .u32 112), .lit (.int .u32 110), .lit (.int .u32 108), .lit (.int .u32 105), .lit (.int .u32 103), .lit (.int .u32 101), .lit (.int .u32 99), .lit (.int .u32 97), .lit (.int .u32 96), .lit (.int .u32 94), .lit (.int .u32 92), .lit (.int .u32 90), .lit (.int .u32 89), .lit (.int .u32 87), .lit (.int .u32 85), .lit (.int .u32 84), .lit (.int .u32 82), .lit (.int .u32 81), .lit (.int .u32 79), .lit (.int .u32 78), .lit (.int .u32 77), .lit (.int .u32 75), .lit (.int .u32 74), .lit (.int .u32 73), .lit (.int .u32 72), .lit (.int .u32 71), .lit (.int .u32 69), .lit (.int .u32 68), .lit (.int .u32 67), .lit (.int .u32 66), .lit (.int .u32 65), .lit (.int .u32 64)]

/-- 'bucketlinelaw26.NetChecks': WHATEVER THE INPUT: true; the input reads as it did. -/
def netChecksSpec : ChangeSpec := { name := "netChecks", fn := fun _ => fun
  | [d] => { results := [.lit (.bool true)], args := [d] }
  | _ => none }
def netChecksRow : OpenClaim := { program := "ytfpmnekaockodaagreatdoor", sum := "c572ec7596bb4c840fc7f0492778c33f6712c76abf2277e2cbbe595106708f17", func := "bucketline/bucketlinelaw26.NetChecks", spec := "netChecks", inPlace := ["internal/abi.NoEscape", "internal/bytealg.MakeNoZero", "math.Float64bits", "math.Float64frombits"], unfollowed := true, recurses := true, named := ["bucketline/soliton.plain", "math/bits.deBruijn64tab"], apart := false, laid := [("math/bits.deBruijn64tab", laid_math_bits_deBruijn64tab), ("bucketline/soliton.plain", laid_bucketline_soliton_plain)] }
def NetChecksSaid : Prop := netChecksRow.holds Tryz.pinned (OpenSpec.ofChange netChecksSpec)

/-- ITS FALSE NEIGHBOUR: 'it returns false'. Refute it at one input. -/
def netChecksWrong : ChangeSpec := { name := "netChecks", fn := fun _ => fun
  | [d] => { results := [.lit (.bool false)], args := [d] }
  | _ => none }
def NetChecksWrongFalsely : Prop := netChecksRow.holds Tryz.pinned (OpenSpec.ofChange netChecksWrong)

/-- 'bucketlinelaw26.NetBounds': WHATEVER THE INPUT: true; the input reads as it did. -/
def netBoundsSpec : ChangeSpec := { name := "netBounds", fn := fun _ => fun
  | [d1, d2] => { results := [.lit (.bool true)], args := [d1, d2] }
  | _ => none }
def netBoundsRow : OpenClaim := { program := "ytfpmnekaockodaagreatdoor", sum := "c572ec7596bb4c840fc7f0492778c33f6712c76abf2277e2cbbe595106708f17", func := "bucketline/bucketlinelaw26.NetBounds", spec := "netBounds", inPlace := ["internal/abi.NoEscape", "internal/bytealg.MakeNoZero", "math.Float64bits", "math.Float64frombits"], unfollowed := true, recurses := true, named := ["bucketline/soliton.plain", "math/bits.deBruijn64tab"], apart := false, laid := [("math/bits.deBruijn64tab", laid_math_bits_deBruijn64tab), ("bucketline/soliton.plain", laid_bucketline_soliton_plain)] }
def NetBoundsSaid : Prop := netBoundsRow.holds Tryz.pinned (OpenSpec.ofChange netBoundsSpec)

/-- ITS FALSE NEIGHBOUR: 'it returns false'. Refute it at one input. -/
def netBoundsWrong : ChangeSpec := { name := "netBounds", fn := fun _ => fun
  | [d1, d2] => { results := [.lit (.bool false)], args := [d1, d2] }
  | _ => none }
def NetBoundsWrongFalsely : Prop := netBoundsRow.holds Tryz.pinned (OpenSpec.ofChange netBoundsWrong)

/-- 'bucketlinelaw26.NetCrash': WHATEVER THE INPUT: true; the input reads as it did. -/
def netCrashSpec : ChangeSpec := { name := "netCrash", fn := fun _ => fun
  | [d1, d2, d3] => { results := [.lit (.bool true)], args := [d1, d2, d3] }
  | _ => none }
def netCrashRow : OpenClaim := { program := "ytfpmnekaockodaagreatdoor", sum := "c572ec7596bb4c840fc7f0492778c33f6712c76abf2277e2cbbe595106708f17", func := "bucketline/bucketlinelaw26.NetCrash", spec := "netCrash", inPlace := ["internal/abi.NoEscape", "internal/bytealg.MakeNoZero", "math.Float64bits", "math.Float64frombits"], unfollowed := true, recurses := true, named := ["bucketline/soliton.plain", "math/bits.deBruijn64tab"], apart := false, laid := [("math/bits.deBruijn64tab", laid_math_bits_deBruijn64tab), ("bucketline/soliton.plain", laid_bucketline_soliton_plain)] }
def NetCrashSaid : Prop := netCrashRow.holds Tryz.pinned (OpenSpec.ofChange netCrashSpec)

/-- ITS FALSE NEIGHBOUR: 'it returns false'. Refute it at one input. -/
def netCrashWrong : ChangeSpec := { name := "netCrash", fn := fun _ => fun
  | [d1, d2, d3] => { results := [.lit (.bool false)], args := [d1, d2, d3] }
  | _ => none }
def NetCrashWrongFalsely : Prop := netCrashRow.holds Tryz.pinned (OpenSpec.ofChange netCrashWrong)

/-- 'bucketlinelaw26.NetIdle': WHATEVER THE INPUT: true; the input reads as it did. -/
def netIdleSpec : ChangeSpec := { name := "netIdle", fn := fun _ => fun
  | [d1, d2] => { results := [.lit (.bool true)], args := [d1, d2] }
  | _ => none }
def netIdleRow : OpenClaim := { program := "ytfpmnekaockodaagreatdoor", sum := "c572ec7596bb4c840fc7f0492778c33f6712c76abf2277e2cbbe595106708f17", func := "bucketline/bucketlinelaw26.NetIdle", spec := "netIdle", inPlace := ["internal/abi.NoEscape", "internal/bytealg.MakeNoZero", "math.Float64bits", "math.Float64frombits"], unfollowed := true, recurses := true, named := ["bucketline/soliton.plain", "math/bits.deBruijn64tab"], apart := false, laid := [("math/bits.deBruijn64tab", laid_math_bits_deBruijn64tab), ("bucketline/soliton.plain", laid_bucketline_soliton_plain)] }
def NetIdleSaid : Prop := netIdleRow.holds Tryz.pinned (OpenSpec.ofChange netIdleSpec)

/-- ITS FALSE NEIGHBOUR: 'it returns false'. Refute it at one input. -/
def netIdleWrong : ChangeSpec := { name := "netIdle", fn := fun _ => fun
  | [d1, d2] => { results := [.lit (.bool false)], args := [d1, d2] }
  | _ => none }
def NetIdleWrongFalsely : Prop := netIdleRow.holds Tryz.pinned (OpenSpec.ofChange netIdleWrong)

/-- 'bucketlinelaw26.NetNone': WHATEVER THE INPUT: true; the input reads as it did. -/
def netNoneSpec : ChangeSpec := { name := "netNone", fn := fun _ => fun
  | [d1, d2] => { results := [.lit (.bool true)], args := [d1, d2] }
  | _ => none }
def netNoneRow : OpenClaim := { program := "ytfpmnekaockodaagreatdoor", sum := "c572ec7596bb4c840fc7f0492778c33f6712c76abf2277e2cbbe595106708f17", func := "bucketline/bucketlinelaw26.NetNone", spec := "netNone", inPlace := ["internal/abi.NoEscape", "internal/bytealg.MakeNoZero", "math.Float64bits", "math.Float64frombits"], unfollowed := true, recurses := true, named := ["bucketline/soliton.plain", "math/bits.deBruijn64tab"], apart := false, laid := [("math/bits.deBruijn64tab", laid_math_bits_deBruijn64tab), ("bucketline/soliton.plain", laid_bucketline_soliton_plain)] }
def NetNoneSaid : Prop := netNoneRow.holds Tryz.pinned (OpenSpec.ofChange netNoneSpec)

/-- ITS FALSE NEIGHBOUR: 'it returns false'. Refute it at one input. -/
def netNoneWrong : ChangeSpec := { name := "netNone", fn := fun _ => fun
  | [d1, d2] => { results := [.lit (.bool false)], args := [d1, d2] }
  | _ => none }
def NetNoneWrongFalsely : Prop := netNoneRow.holds Tryz.pinned (OpenSpec.ofChange netNoneWrong)

/- THE SECOND FORM. 'bulk': how many values and letters a reading holds, each counted each time it is reached (what is shared counts as often as it is met; a slice's spare places count too). A statement '..UptoSaid' is the law's where the arguments, and the package variables that the reading takes, are together of bulk at most 1048576: NARROWER than '..Said'. Prove '..Said' where nothing that the law and all that it calls make is longer than what came in: it says more and counts as full. Else prove '..UptoSaid'. A law counts once. -/
mutual
def uptoBulk {H : Type} : DataW H → Nat
  | .lit (.string bytes) => bytes.length + 1
  | .lit _ => 1
  | .nil => 1
  | .ptr d => uptoBulk d + 1
  | .slice elems spare => uptoBulkAll elems + uptoBulkAll spare + 1
  | .agg parts => uptoBulkAll parts + 1
  | .iface _ d => uptoBulk d + 1
  | .map entries => uptoBulkEntries entries + 1
  | .held _ => 1
def uptoBulkAll {H : Type} : List (DataW H) → Nat
  | [] => 0
  | d :: r => uptoBulk d + uptoBulkAll r
def uptoBulkEntries {H : Type} : List (Lit × DataW H) → Nat
  | [] => 0
  | x :: r => uptoBulkEntry x + uptoBulkEntries r
def uptoBulkEntry {H : Type} : Lit × DataW H → Nat
  | (.string bytes, d) => bytes.length + uptoBulk d + 1
  | (_, d) => uptoBulk d + 1
 end
def uptoSmall : (H : Type) → List (DataW H) → Bool := fun _ ds => decide (uptoBulkAll ds ≤ 1048576)
def OpenSpec.upto (s : _root_.Go.ChangeSpec) : _root_.Go.OpenSpec := { _root_.Go.OpenSpec.ofChange s with cond := some uptoSmall }

/-- 'bucketlinelaw26.NetChecks', WHERE WHAT IT READS IS OF BULK AT MOST 1048576: true; the input reads as it did. -/
def netChecksUptoRow : OpenClaim := { program := "ytfpmnekaockodaagreatdoor", sum := "c572ec7596bb4c840fc7f0492778c33f6712c76abf2277e2cbbe595106708f17", func := "bucketline/bucketlinelaw26.NetChecks", spec := "netChecks", inPlace := ["internal/abi.NoEscape", "internal/bytealg.MakeNoZero", "math.Float64bits", "math.Float64frombits"], unfollowed := true, recurses := true, named := ["bucketline/soliton.plain", "math/bits.deBruijn64tab"], apart := false, laid := [("math/bits.deBruijn64tab", laid_math_bits_deBruijn64tab), ("bucketline/soliton.plain", laid_bucketline_soliton_plain)], narrowed := true }
def NetChecksUptoSaid : Prop := netChecksUptoRow.holds Tryz.pinned (OpenSpec.upto netChecksSpec)

/-- 'bucketlinelaw26.NetBounds', WHERE WHAT IT READS IS OF BULK AT MOST 1048576: true; the input reads as it did. -/
def netBoundsUptoRow : OpenClaim := { program := "ytfpmnekaockodaagreatdoor", sum := "c572ec7596bb4c840fc7f0492778c33f6712c76abf2277e2cbbe595106708f17", func := "bucketline/bucketlinelaw26.NetBounds", spec := "netBounds", inPlace := ["internal/abi.NoEscape", "internal/bytealg.MakeNoZero", "math.Float64bits", "math.Float64frombits"], unfollowed := true, recurses := true, named := ["bucketline/soliton.plain", "math/bits.deBruijn64tab"], apart := false, laid := [("math/bits.deBruijn64tab", laid_math_bits_deBruijn64tab), ("bucketline/soliton.plain", laid_bucketline_soliton_plain)], narrowed := true }
def NetBoundsUptoSaid : Prop := netBoundsUptoRow.holds Tryz.pinned (OpenSpec.upto netBoundsSpec)

/-- 'bucketlinelaw26.NetCrash', WHERE WHAT IT READS IS OF BULK AT MOST 1048576: true; the input reads as it did. -/
def netCrashUptoRow : OpenClaim := { program := "ytfpmnekaockodaagreatdoor", sum := "c572ec7596bb4c840fc7f0492778c33f6712c76abf2277e2cbbe595106708f17", func := "bucketline/bucketlinelaw26.NetCrash", spec := "netCrash", inPlace := ["internal/abi.NoEscape", "internal/bytealg.MakeNoZero", "math.Float64bits", "math.Float64frombits"], unfollowed := true, recurses := true, named := ["bucketline/soliton.plain", "math/bits.deBruijn64tab"], apart := false, laid := [("math/bits.deBruijn64tab", laid_math_bits_deBruijn64tab), ("bucketline/soliton.plain", laid_bucketline_soliton_plain)], narrowed := true }
def NetCrashUptoSaid : Prop := netCrashUptoRow.holds Tryz.pinned (OpenSpec.upto netCrashSpec)

/-- 'bucketlinelaw26.NetIdle', WHERE WHAT IT READS IS OF BULK AT MOST 1048576: true; the input reads as it did. -/
def netIdleUptoRow : OpenClaim := { program := "ytfpmnekaockodaagreatdoor", sum := "c572ec7596bb4c840fc7f0492778c33f6712c76abf2277e2cbbe595106708f17", func := "bucketline/bucketlinelaw26.NetIdle", spec := "netIdle", inPlace := ["internal/abi.NoEscape", "internal/bytealg.MakeNoZero", "math.Float64bits", "math.Float64frombits"], unfollowed := true, recurses := true, named := ["bucketline/soliton.plain", "math/bits.deBruijn64tab"], apart := false, laid := [("math/bits.deBruijn64tab", laid_math_bits_deBruijn64tab), ("bucketline/soliton.plain", laid_bucketline_soliton_plain)], narrowed := true }
def NetIdleUptoSaid : Prop := netIdleUptoRow.holds Tryz.pinned (OpenSpec.upto netIdleSpec)

/-- 'bucketlinelaw26.NetNone', WHERE WHAT IT READS IS OF BULK AT MOST 1048576: true; the input reads as it did. -/
def netNoneUptoRow : OpenClaim := { program := "ytfpmnekaockodaagreatdoor", sum := "c572ec7596bb4c840fc7f0492778c33f6712c76abf2277e2cbbe595106708f17", func := "bucketline/bucketlinelaw26.NetNone", spec := "netNone", inPlace := ["internal/abi.NoEscape", "internal/bytealg.MakeNoZero", "math.Float64bits", "math.Float64frombits"], unfollowed := true, recurses := true, named := ["bucketline/soliton.plain", "math/bits.deBruijn64tab"], apart := false, laid := [("math/bits.deBruijn64tab", laid_math_bits_deBruijn64tab), ("bucketline/soliton.plain", laid_bucketline_soliton_plain)], narrowed := true }
def NetNoneUptoSaid : Prop := netNoneUptoRow.holds Tryz.pinned (OpenSpec.upto netNoneSpec)

end Rows
end Go.Proofs.YtfpmnekaockodaaGreatDoor
