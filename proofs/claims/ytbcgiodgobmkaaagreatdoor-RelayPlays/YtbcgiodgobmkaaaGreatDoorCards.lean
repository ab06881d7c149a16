/-
  DERIVED. GIVEN WITH THE SEED: THE CARDS: each row of YtbcgiodgobmkaaaGreatDoorRows.lean that lists a variable, with what it lists TIED to the program's text (the seventh form; the later family's looks); each row that meets fmt, with fmt's text TOLD by the authors' own Lean function (tested against real Go, not proved from fmt's source: count such statements apart). THE CARD IS WHAT COUNTS. Prove the row's statement (the work); the ties are given (YtbcgiodgobmkaaaGreatDoorTie.lean); close each card by the builder's one call (the guide's Derived/Test/ToyasCard.lean, 'card_holds'). Laid BY PROGRAM, IN A SANDBOX (cutbox-door.mjs). By AI agents, Wed Nov 11 2026. No macro, syntax, notation, axiom, sorry.
-/
import Derived.Test.YtbcgiodgobmkaaaGreatDoorRows
import GoSem.ClaimSeven
namespace Go.Proofs.YtbcgiodgobmkaaaGreatDoor
namespace Rows

/-- THE TIED CARD OF 'bucketlinelaw19.RelayPlays'. -/
def relayPlaysCard : Claim7 := { stood := { row := relayPlaysRow, standIns := [], harness := (true, "55c2e631cca5a4b1a5a143ac4b461ec876d10084de079556f92f07557c1d01c9"), looks := false }, kinds := [], alts := [], laidByText := true, laidKinds := [.data], laidTests := true, laidLooks := .later }
def RelayPlaysCardSaid : Prop := Claim7.holds Tryz.pinned (.plain (OpenSpec.ofChange relayPlaysSpec)) relayPlaysCard

/-- THE TIED CARD OF 'bucketlinelaw19.RelayTrue'. -/
def relayTrueCard : Claim7 := { stood := { row := relayTrueRow, standIns := [], harness := (true, "55c2e631cca5a4b1a5a143ac4b461ec876d10084de079556f92f07557c1d01c9"), looks := false }, kinds := [], alts := [], laidByText := true, laidKinds := [.data], laidTests := true, laidLooks := .later }
def RelayTrueCardSaid : Prop := Claim7.holds Tryz.pinned (.plain (OpenSpec.ofChange relayTrueSpec)) relayTrueCard

/-- THE SECOND FORM's CARD OF 'bucketlinelaw19.RelayPlays'. -/
def relayPlaysUptoCard : Claim7 := { stood := { row := relayPlaysUptoRow, standIns := [], harness := (true, "55c2e631cca5a4b1a5a143ac4b461ec876d10084de079556f92f07557c1d01c9"), looks := false }, kinds := [], alts := [], laidByText := true, laidKinds := [.data], laidTests := true, laidLooks := .later }
def RelayPlaysUptoCardSaid : Prop := Claim7.holds Tryz.pinned (.plain (OpenSpec.upto relayPlaysSpec)) relayPlaysUptoCard

/-- THE SECOND FORM's CARD OF 'bucketlinelaw19.RelayTrue'. -/
def relayTrueUptoCard : Claim7 := { stood := { row := relayTrueUptoRow, standIns := [], harness := (true, "55c2e631cca5a4b1a5a143ac4b461ec876d10084de079556f92f07557c1d01c9"), looks := false }, kinds := [], alts := [], laidByText := true, laidKinds := [.data], laidTests := true, laidLooks := .later }
def RelayTrueUptoCardSaid : Prop := Claim7.holds Tryz.pinned (.plain (OpenSpec.upto relayTrueSpec)) relayTrueUptoCard
end Rows
end Go.Proofs.YtbcgiodgobmkaaaGreatDoor
