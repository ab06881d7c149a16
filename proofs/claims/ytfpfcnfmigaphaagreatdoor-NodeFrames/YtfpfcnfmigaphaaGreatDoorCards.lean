/-
  DERIVED. GIVEN WITH THE SEED: THE CARDS: each row of YtfpfcnfmigaphaaGreatDoorRows.lean that lists a variable, with what it lists TIED to the program's text (the seventh form; the later family's looks); each row that meets fmt, with fmt's text TOLD by the authors' own Lean function (tested against real Go, not proved from fmt's source: count such statements apart). THE CARD IS WHAT COUNTS. Prove the row's statement (the work); the ties are given (YtfpfcnfmigaphaaGreatDoorTie.lean); close each card by the builder's one call (the guide's Derived/Test/ToyasCard.lean, 'card_holds'). Laid BY PROGRAM, IN A SANDBOX (cutbox-door.mjs). By AI agents, Wed Nov 11 2026. No macro, syntax, notation, axiom, sorry.
-/
import Derived.Test.YtfpfcnfmigaphaaGreatDoorRows
import GoSem.ClaimSeven
namespace Go.Proofs.YtfpfcnfmigaphaaGreatDoor
namespace Rows

/-- THE TIED CARD OF 'bucketlinelaw25.NodeCrash'. -/
def nodeCrashCard : Claim7 := { stood := { row := nodeCrashRow, standIns := [], harness := (true, "d4ba2bf83b71509c545f1287e422ddd2c5f3b67fbd4e3b9dec56eb9b383a132e"), looks := true }, kinds := [], alts := [], laidByText := true, laidKinds := [.data, .data], laidTests := true, laidLooks := .later }
def NodeCrashCardSaid : Prop := Claim7.holds Tryz.pinned (.plain (OpenSpec.ofChange nodeCrashSpec)) nodeCrashCard

/-- THE TIED CARD OF 'bucketlinelaw25.NodeFrames'. -/
def nodeFramesCard : Claim7 := { stood := { row := nodeFramesRow, standIns := [], harness := (true, "d4ba2bf83b71509c545f1287e422ddd2c5f3b67fbd4e3b9dec56eb9b383a132e"), looks := true }, kinds := [], alts := [], laidByText := true, laidKinds := [.data, .data], laidTests := true, laidLooks := .later }
def NodeFramesCardSaid : Prop := Claim7.holds Tryz.pinned (.plain (OpenSpec.ofChange nodeFramesSpec)) nodeFramesCard

/-- THE TIED CARD OF 'bucketlinelaw25.NodeNone'. -/
def nodeNoneCard : Claim7 := { stood := { row := nodeNoneRow, standIns := [], harness := (true, "d4ba2bf83b71509c545f1287e422ddd2c5f3b67fbd4e3b9dec56eb9b383a132e"), looks := true }, kinds := [], alts := [], laidByText := true, laidKinds := [.data, .data], laidTests := true, laidLooks := .later }
def NodeNoneCardSaid : Prop := Claim7.holds Tryz.pinned (.plain (OpenSpec.ofChange nodeNoneSpec)) nodeNoneCard

/-- THE SECOND FORM's CARD OF 'bucketlinelaw25.NodeCrash'. -/
def nodeCrashUptoCard : Claim7 := { stood := { row := nodeCrashUptoRow, standIns := [], harness := (true, "d4ba2bf83b71509c545f1287e422ddd2c5f3b67fbd4e3b9dec56eb9b383a132e"), looks := true }, kinds := [], alts := [], laidByText := true, laidKinds := [.data, .data], laidTests := true, laidLooks := .later }
def NodeCrashUptoCardSaid : Prop := Claim7.holds Tryz.pinned (.plain (OpenSpec.upto nodeCrashSpec)) nodeCrashUptoCard

/-- THE SECOND FORM's CARD OF 'bucketlinelaw25.NodeFrames'. -/
def nodeFramesUptoCard : Claim7 := { stood := { row := nodeFramesUptoRow, standIns := [], harness := (true, "d4ba2bf83b71509c545f1287e422ddd2c5f3b67fbd4e3b9dec56eb9b383a132e"), looks := true }, kinds := [], alts := [], laidByText := true, laidKinds := [.data, .data], laidTests := true, laidLooks := .later }
def NodeFramesUptoCardSaid : Prop := Claim7.holds Tryz.pinned (.plain (OpenSpec.upto nodeFramesSpec)) nodeFramesUptoCard

/-- THE SECOND FORM's CARD OF 'bucketlinelaw25.NodeNone'. -/
def nodeNoneUptoCard : Claim7 := { stood := { row := nodeNoneUptoRow, standIns := [], harness := (true, "d4ba2bf83b71509c545f1287e422ddd2c5f3b67fbd4e3b9dec56eb9b383a132e"), looks := true }, kinds := [], alts := [], laidByText := true, laidKinds := [.data, .data], laidTests := true, laidLooks := .later }
def NodeNoneUptoCardSaid : Prop := Claim7.holds Tryz.pinned (.plain (OpenSpec.upto nodeNoneSpec)) nodeNoneUptoCard
end Rows
end Go.Proofs.YtfpfcnfmigaphaaGreatDoor
