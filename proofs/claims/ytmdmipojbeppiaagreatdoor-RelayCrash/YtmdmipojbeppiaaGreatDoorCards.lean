/-
  DERIVED. GIVEN WITH THE SEED: THE CARDS: each row of YtmdmipojbeppiaaGreatDoorRows.lean that lists a variable, with what it lists TIED to the program's text (the seventh form; the later family's looks); each row that meets fmt, with fmt's text TOLD by the authors' own Lean function (tested against real Go, not proved from fmt's source: count such statements apart). THE CARD IS WHAT COUNTS. Prove the row's statement (the work); the ties are given (YtmdmipojbeppiaaGreatDoorTie.lean); close each card by the builder's one call (the guide's Derived/Test/ToyasCard.lean, 'card_holds'). Laid BY PROGRAM, IN A SANDBOX (cutbox-door.mjs). By AI agents, Wed Nov 11 2026. No macro, syntax, notation, axiom, sorry.
-/
import Derived.Test.YtmdmipojbeppiaaGreatDoorRows
import GoSem.ClaimSeven
namespace Go.Proofs.YtmdmipojbeppiaaGreatDoor
namespace Rows

/-- THE TIED CARD OF 'bucketlinelaw19.RelayPlays'. -/
def relayPlaysCard : Claim7 := { stood := { row := relayPlaysRow, standIns := [], harness := (true, "fa5a7a07d3e368d8b9d2fb8da07eca37faf25926a7956fcc937d81e57bbe0b72"), looks := false }, kinds := [], alts := [], laidByText := true, laidKinds := [.data], laidTests := true, laidLooks := .later }
def RelayPlaysCardSaid : Prop := Claim7.holds Tryz.pinned (.plain (OpenSpec.ofChange relayPlaysSpec)) relayPlaysCard

/-- THE TIED CARD OF 'bucketlinelaw19.RelaySpan'. -/
def relaySpanCard : Claim7 := { stood := { row := relaySpanRow, standIns := [], harness := (true, "fa5a7a07d3e368d8b9d2fb8da07eca37faf25926a7956fcc937d81e57bbe0b72"), looks := false }, kinds := [], alts := [], laidByText := true, laidKinds := [.data], laidTests := true, laidLooks := .later }
def RelaySpanCardSaid : Prop := Claim7.holds Tryz.pinned (.plain (OpenSpec.ofChange relaySpanSpec)) relaySpanCard

/-- THE TIED CARD OF 'bucketlinelaw19.RelayCrash'. -/
def relayCrashCard : Claim7 := { stood := { row := relayCrashRow, standIns := [], harness := (true, "fa5a7a07d3e368d8b9d2fb8da07eca37faf25926a7956fcc937d81e57bbe0b72"), looks := false }, kinds := [], alts := [], laidByText := true, laidKinds := [.data], laidTests := true, laidLooks := .later }
def RelayCrashCardSaid : Prop := Claim7.holds Tryz.pinned (.plain (OpenSpec.ofChange relayCrashSpec)) relayCrashCard

/-- THE TIED CARD OF 'bucketlinelaw19.RelayNone'. -/
def relayNoneCard : Claim7 := { stood := { row := relayNoneRow, standIns := [], harness := (true, "fa5a7a07d3e368d8b9d2fb8da07eca37faf25926a7956fcc937d81e57bbe0b72"), looks := false }, kinds := [], alts := [], laidByText := true, laidKinds := [.data], laidTests := true, laidLooks := .later }
def RelayNoneCardSaid : Prop := Claim7.holds Tryz.pinned (.plain (OpenSpec.ofChange relayNoneSpec)) relayNoneCard

/-- THE TIED CARD OF 'bucketlinelaw19.RelayTrue'. -/
def relayTrueCard : Claim7 := { stood := { row := relayTrueRow, standIns := [], harness := (true, "fa5a7a07d3e368d8b9d2fb8da07eca37faf25926a7956fcc937d81e57bbe0b72"), looks := false }, kinds := [], alts := [], laidByText := true, laidKinds := [.data], laidTests := true, laidLooks := .later }
def RelayTrueCardSaid : Prop := Claim7.holds Tryz.pinned (.plain (OpenSpec.ofChange relayTrueSpec)) relayTrueCard

/-- THE SECOND FORM's CARD OF 'bucketlinelaw19.RelayPlays'. -/
def relayPlaysUptoCard : Claim7 := { stood := { row := relayPlaysUptoRow, standIns := [], harness := (true, "fa5a7a07d3e368d8b9d2fb8da07eca37faf25926a7956fcc937d81e57bbe0b72"), looks := false }, kinds := [], alts := [], laidByText := true, laidKinds := [.data], laidTests := true, laidLooks := .later }
def RelayPlaysUptoCardSaid : Prop := Claim7.holds Tryz.pinned (.plain (OpenSpec.upto relayPlaysSpec)) relayPlaysUptoCard

/-- THE SECOND FORM's CARD OF 'bucketlinelaw19.RelaySpan'. -/
def relaySpanUptoCard : Claim7 := { stood := { row := relaySpanUptoRow, standIns := [], harness := (true, "fa5a7a07d3e368d8b9d2fb8da07eca37faf25926a7956fcc937d81e57bbe0b72"), looks := false }, kinds := [], alts := [], laidByText := true, laidKinds := [.data], laidTests := true, laidLooks := .later }
def RelaySpanUptoCardSaid : Prop := Claim7.holds Tryz.pinned (.plain (OpenSpec.upto relaySpanSpec)) relaySpanUptoCard

/-- THE SECOND FORM's CARD OF 'bucketlinelaw19.RelayCrash'. -/
def relayCrashUptoCard : Claim7 := { stood := { row := relayCrashUptoRow, standIns := [], harness := (true, "fa5a7a07d3e368d8b9d2fb8da07eca37faf25926a7956fcc937d81e57bbe0b72"), looks := false }, kinds := [], alts := [], laidByText := true, laidKinds := [.data], laidTests := true, laidLooks := .later }
def RelayCrashUptoCardSaid : Prop := Claim7.holds Tryz.pinned (.plain (OpenSpec.upto relayCrashSpec)) relayCrashUptoCard

/-- THE SECOND FORM's CARD OF 'bucketlinelaw19.RelayNone'. -/
def relayNoneUptoCard : Claim7 := { stood := { row := relayNoneUptoRow, standIns := [], harness := (true, "fa5a7a07d3e368d8b9d2fb8da07eca37faf25926a7956fcc937d81e57bbe0b72"), looks := false }, kinds := [], alts := [], laidByText := true, laidKinds := [.data], laidTests := true, laidLooks := .later }
def RelayNoneUptoCardSaid : Prop := Claim7.holds Tryz.pinned (.plain (OpenSpec.upto relayNoneSpec)) relayNoneUptoCard

/-- THE SECOND FORM's CARD OF 'bucketlinelaw19.RelayTrue'. -/
def relayTrueUptoCard : Claim7 := { stood := { row := relayTrueUptoRow, standIns := [], harness := (true, "fa5a7a07d3e368d8b9d2fb8da07eca37faf25926a7956fcc937d81e57bbe0b72"), looks := false }, kinds := [], alts := [], laidByText := true, laidKinds := [.data], laidTests := true, laidLooks := .later }
def RelayTrueUptoCardSaid : Prop := Claim7.holds Tryz.pinned (.plain (OpenSpec.upto relayTrueSpec)) relayTrueUptoCard
end Rows
end Go.Proofs.YtmdmipojbeppiaaGreatDoor
