/-
  DERIVED. GIVEN WITH THE SEED: THE CARDS: each row of YtakoaadimhpclaaGreatDoorRows.lean that lists a variable, with what it lists TIED to the program's text (the seventh form; the later family's looks); each row that meets fmt, with fmt's text TOLD by the authors' own Lean function (tested against real Go, not proved from fmt's source: count such statements apart). THE CARD IS WHAT COUNTS. Prove the row's statement (the work); the ties are given (YtakoaadimhpclaaGreatDoorTie.lean); close each card by the builder's one call (the guide's Derived/Test/ToyasCard.lean, 'card_holds'). Laid BY PROGRAM, IN A SANDBOX (cutbox-door.mjs). By AI agents, Wed Nov 11 2026. No macro, syntax, notation, axiom, sorry.
-/
import Derived.Test.YtakoaadimhpclaaGreatDoorRows
import GoSem.ClaimSeven
namespace Go.Proofs.YtakoaadimhpclaaGreatDoor
namespace Rows

/-- THE TIED CARD OF 'bucketlinelaw28.CalmDraws'. -/
def calmDrawsCard : Claim7 := { stood := { row := calmDrawsRow, standIns := [], harness := (true, "787897e4136f8b7e5c59d7e6e873d1bb3b90169a0b7feccde20500c69ff50a3c"), looks := false }, kinds := [], alts := [], laidByText := true, laidKinds := [.data], laidTests := true, laidLooks := .later }
def CalmDrawsCardSaid : Prop := Claim7.holds Tryz.pinned (.plain (OpenSpec.ofChange calmDrawsSpec)) calmDrawsCard

/-- THE SECOND FORM's CARD OF 'bucketlinelaw28.CalmDraws'. -/
def calmDrawsUptoCard : Claim7 := { stood := { row := calmDrawsUptoRow, standIns := [], harness := (true, "787897e4136f8b7e5c59d7e6e873d1bb3b90169a0b7feccde20500c69ff50a3c"), looks := false }, kinds := [], alts := [], laidByText := true, laidKinds := [.data], laidTests := true, laidLooks := .later }
def CalmDrawsUptoCardSaid : Prop := Claim7.holds Tryz.pinned (.plain (OpenSpec.upto calmDrawsSpec)) calmDrawsUptoCard
end Rows
end Go.Proofs.YtakoaadimhpclaaGreatDoor
