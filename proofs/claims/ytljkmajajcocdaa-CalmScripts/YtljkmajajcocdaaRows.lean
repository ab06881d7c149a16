/-
  No cell of these rows narrows 'for every input' (looked for: loops, veiled, ifaces, maps, wideKeys, modest, calm, conditions, laid).
  DERIVED. THE GIVEN ROWS OF THIS SEAT. 4 by the template 'for every input the law returns true; each argument reads behind the call as it read before'; 0 by the template 'total and deterministic' (their statements: YtljkmajajcocdaaTotals.lean).
  GIVEN WITH THE SEED: the statements are not yours to turn. If you find one false, say at which input.
  Laid BY PROGRAM, IN A SANDBOX (cutbox-rows.mjs): the forced cells as the released guide's own fill.sh prints them over the translation ee39aec01ad0ae71… (all of the seat's roots in one cut). By AI agents, Wed Nov 11 2026. No macro, syntax, notation, axiom, sorry.
-/
import Derived.Test.YtljkmajajcocdaaChecked
import GoSem.Claim
import GoSem.ClaimJoined
import GoSem.ClaimMapViews
import Derived.JoinedTies
import Derived.KernelRfl
namespace Go.Proofs.Ytljkmajajcocdaa
/- THE CELL 'sum', in the pinned program and in every row, IS THE sha256 OF THE DUMP (.gsa) THAT YtljkmajajcocdaaProg.lean LOADS. Nothing in Lean hashes anything: it is a label: what it is worth is what the hold of that sum in a sandbox is worth. -/
noncomputable def Try.pinned : Pinned := { name := "ytljkmajajcocdaa", sum := "ee39aec01ad0ae71d4f6d5c0751757b719311813c77c4f1630aa22122a32b864", checked := Try.checked }
namespace Rows
def none {H : Type} : Left H := { results := [], args := [] }

/-- 'bucketlinelaw28.CalmScripts': WHATEVER THE INPUT: true; the input reads as it did. -/
def calmScriptsSpec : ChangeSpec := { name := "calmScripts", fn := fun _ => fun
  | [d1, d2, d3] => { results := [.lit (.bool true)], args := [d1, d2, d3] }
  | _ => none }
def calmScriptsRow : OpenClaim := { program := "ytljkmajajcocdaa", sum := "ee39aec01ad0ae71d4f6d5c0751757b719311813c77c4f1630aa22122a32b864", func := "bucketline/bucketlinelaw28.CalmScripts", spec := "calmScripts", unfollowed := true, recurses := true, apart := false }
def CalmScriptsSaid : Prop := calmScriptsRow.holds Try.pinned (OpenSpec.ofChange calmScriptsSpec)

/-- ITS FALSE NEIGHBOUR: 'it returns false'. Refute it at one input. -/
def calmScriptsWrong : ChangeSpec := { name := "calmScripts", fn := fun _ => fun
  | [d1, d2, d3] => { results := [.lit (.bool false)], args := [d1, d2, d3] }
  | _ => none }
def CalmScriptsWrongFalsely : Prop := calmScriptsRow.holds Try.pinned (OpenSpec.ofChange calmScriptsWrong)

/-- 'bucketlinelaw28.CalmPaths': WHATEVER THE INPUT: true; the input reads as it did. -/
def calmPathsSpec : ChangeSpec := { name := "calmPaths", fn := fun _ => fun
  | [d1, d2, d3] => { results := [.lit (.bool true)], args := [d1, d2, d3] }
  | _ => none }
def calmPathsRow : OpenClaim := { program := "ytljkmajajcocdaa", sum := "ee39aec01ad0ae71d4f6d5c0751757b719311813c77c4f1630aa22122a32b864", func := "bucketline/bucketlinelaw28.CalmPaths", spec := "calmPaths", unfollowed := true, recurses := true, apart := false }
def CalmPathsSaid : Prop := calmPathsRow.holds Try.pinned (OpenSpec.ofChange calmPathsSpec)

/-- ITS FALSE NEIGHBOUR: 'it returns false'. Refute it at one input. -/
def calmPathsWrong : ChangeSpec := { name := "calmPaths", fn := fun _ => fun
  | [d1, d2, d3] => { results := [.lit (.bool false)], args := [d1, d2, d3] }
  | _ => none }
def CalmPathsWrongFalsely : Prop := calmPathsRow.holds Try.pinned (OpenSpec.ofChange calmPathsWrong)

/-- 'bucketlinelaw28.CalmSteps': WHATEVER THE INPUT: true; the input reads as it did. -/
def calmStepsSpec : ChangeSpec := { name := "calmSteps", fn := fun _ => fun
  | [d1, d2, d3] => { results := [.lit (.bool true)], args := [d1, d2, d3] }
  | _ => none }
def calmStepsRow : OpenClaim := { program := "ytljkmajajcocdaa", sum := "ee39aec01ad0ae71d4f6d5c0751757b719311813c77c4f1630aa22122a32b864", func := "bucketline/bucketlinelaw28.CalmSteps", spec := "calmSteps", unfollowed := true, recurses := true, apart := false }
def CalmStepsSaid : Prop := calmStepsRow.holds Try.pinned (OpenSpec.ofChange calmStepsSpec)

/-- ITS FALSE NEIGHBOUR: 'it returns false'. Refute it at one input. -/
def calmStepsWrong : ChangeSpec := { name := "calmSteps", fn := fun _ => fun
  | [d1, d2, d3] => { results := [.lit (.bool false)], args := [d1, d2, d3] }
  | _ => none }
def CalmStepsWrongFalsely : Prop := calmStepsRow.holds Try.pinned (OpenSpec.ofChange calmStepsWrong)

/-- 'bucketlinelaw28.CalmShort': WHATEVER THE INPUT: true; the input reads as it did. -/
def calmShortSpec : ChangeSpec := { name := "calmShort", fn := fun _ => fun
  | [d1, d2, d3] => { results := [.lit (.bool true)], args := [d1, d2, d3] }
  | _ => none }
def calmShortRow : OpenClaim := { program := "ytljkmajajcocdaa", sum := "ee39aec01ad0ae71d4f6d5c0751757b719311813c77c4f1630aa22122a32b864", func := "bucketline/bucketlinelaw28.CalmShort", spec := "calmShort", unfollowed := true, recurses := true, apart := false }
def CalmShortSaid : Prop := calmShortRow.holds Try.pinned (OpenSpec.ofChange calmShortSpec)

/-- ITS FALSE NEIGHBOUR: 'it returns false'. Refute it at one input. -/
def calmShortWrong : ChangeSpec := { name := "calmShort", fn := fun _ => fun
  | [d1, d2, d3] => { results := [.lit (.bool false)], args := [d1, d2, d3] }
  | _ => none }
def CalmShortWrongFalsely : Prop := calmShortRow.holds Try.pinned (OpenSpec.ofChange calmShortWrong)

/- THE SECOND FORM. 'bulk': how many values and letters a reading holds, each counted each time it is reached (what is shared counts as often as it is met; a slice's spare places count too). A statement '..UptoSaid' is the law's where the arguments, and the package variables that the reading takes, are together of bulk at most 1048576: NARROWER than '..Said'. Prove '..Said' where nothing that the law and all that it calls make is longer than what came in: it says more and counts as full. Else prove '..UptoSaid'. A law counts once. -/
mutual
def uptoBulk {H : Type} : DataW H → Nat
  | .lit (.string bytes) => bytes.length + 1
  | .lit _ => 1
  | .nil => 1
  | .ptr d => uptoBulk d + 1
  | .slice elems spare => uptoBulkAll elems + uptoBulkAll spare + 1
  | .agg parts => uptoBulkAll parts + 1
  | .iface _ d => uptoBulk d + 1
  | .map entries => uptoBulkEntries entries + 1
  | .held _ => 1
def uptoBulkAll {H : Type} : List (DataW H) → Nat
  | [] => 0
  | d :: r => uptoBulk d + uptoBulkAll r
def uptoBulkEntries {H : Type} : List (Lit × DataW H) → Nat
  | [] => 0
  | x :: r => uptoBulkEntry x + uptoBulkEntries r
def uptoBulkEntry {H : Type} : Lit × DataW H → Nat
  | (.string bytes, d) => bytes.length + uptoBulk d + 1
  | (_, d) => uptoBulk d + 1
 end
def uptoSmall : (H : Type) → List (DataW H) → Bool := fun _ ds => decide (uptoBulkAll ds ≤ 1048576)
def OpenSpec.upto (s : _root_.Go.ChangeSpec) : _root_.Go.OpenSpec := { _root_.Go.OpenSpec.ofChange s with cond := some uptoSmall }

/-- 'bucketlinelaw28.CalmScripts', WHERE WHAT IT READS IS OF BULK AT MOST 1048576: true; the input reads as it did. -/
def calmScriptsUptoRow : OpenClaim := { program := "ytljkmajajcocdaa", sum := "ee39aec01ad0ae71d4f6d5c0751757b719311813c77c4f1630aa22122a32b864", func := "bucketline/bucketlinelaw28.CalmScripts", spec := "calmScripts", unfollowed := true, recurses := true, apart := false, narrowed := true }
def CalmScriptsUptoSaid : Prop := calmScriptsUptoRow.holds Try.pinned (OpenSpec.upto calmScriptsSpec)

/-- 'bucketlinelaw28.CalmPaths', WHERE WHAT IT READS IS OF BULK AT MOST 1048576: true; the input reads as it did. -/
def calmPathsUptoRow : OpenClaim := { program := "ytljkmajajcocdaa", sum := "ee39aec01ad0ae71d4f6d5c0751757b719311813c77c4f1630aa22122a32b864", func := "bucketline/bucketlinelaw28.CalmPaths", spec := "calmPaths", unfollowed := true, recurses := true, apart := false, narrowed := true }
def CalmPathsUptoSaid : Prop := calmPathsUptoRow.holds Try.pinned (OpenSpec.upto calmPathsSpec)

/-- 'bucketlinelaw28.CalmSteps', WHERE WHAT IT READS IS OF BULK AT MOST 1048576: true; the input reads as it did. -/
def calmStepsUptoRow : OpenClaim := { program := "ytljkmajajcocdaa", sum := "ee39aec01ad0ae71d4f6d5c0751757b719311813c77c4f1630aa22122a32b864", func := "bucketline/bucketlinelaw28.CalmSteps", spec := "calmSteps", unfollowed := true, recurses := true, apart := false, narrowed := true }
def CalmStepsUptoSaid : Prop := calmStepsUptoRow.holds Try.pinned (OpenSpec.upto calmStepsSpec)

/-- 'bucketlinelaw28.CalmShort', WHERE WHAT IT READS IS OF BULK AT MOST 1048576: true; the input reads as it did. -/
def calmShortUptoRow : OpenClaim := { program := "ytljkmajajcocdaa", sum := "ee39aec01ad0ae71d4f6d5c0751757b719311813c77c4f1630aa22122a32b864", func := "bucketline/bucketlinelaw28.CalmShort", spec := "calmShort", unfollowed := true, recurses := true, apart := false, narrowed := true }
def CalmShortUptoSaid : Prop := calmShortUptoRow.holds Try.pinned (OpenSpec.upto calmShortSpec)

end Rows
end Go.Proofs.Ytljkmajajcocdaa
