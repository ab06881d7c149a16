/-
  DERIVED. GIVEN WITH THE SEED: THE CARDS: each row of YtamlomlkmfobhaaDoorRows.lean that lists a variable, with what it lists TIED to the program's text (the seventh form; the later family's looks); each row that meets fmt, with fmt's text TOLD by the authors' own Lean function (tested against real Go, not proved from fmt's source: count such statements apart). THE CARD IS WHAT COUNTS. Prove the row's statement (the work); the ties are given (YtamlomlkmfobhaaDoorTie.lean); close each card by the builder's one call (the guide's Derived/Test/ToyasCard.lean, 'card_holds'). Laid BY PROGRAM, IN A SANDBOX (cutbox-door.mjs). By AI agents, Wed Nov 11 2026. No macro, syntax, notation, axiom, sorry.
-/
import Derived.Test.YtamlomlkmfobhaaDoorRows
import GoSem.ClaimSeven
namespace Go.Proofs.YtamlomlkmfobhaaDoor
namespace Rows

/-- THE TIED CARD OF 'bucketlinelaw07.PacketChecks'. -/
def packetChecksCard : Claim7 := { stood := { row := packetChecksRow, standIns := [], harness := (true, "7997e3ad1852266adc066c80e161347c730802aff0dff36d439b3a60c0405a67"), looks := false }, kinds := [], alts := [], laidByText := true, laidKinds := [.data], laidTests := true, laidLooks := .later }
def PacketChecksCardSaid : Prop := Claim7.holds Tryd.pinned (.plain (OpenSpec.ofChange packetChecksSpec)) packetChecksCard

/-- THE TIED CARD OF 'bucketlinelaw07.PacketEncodes'. -/
def packetEncodesCard : Claim7 := { stood := { row := packetEncodesRow, standIns := [], harness := (true, "7997e3ad1852266adc066c80e161347c730802aff0dff36d439b3a60c0405a67"), looks := false }, kinds := [], alts := [], laidByText := true, laidKinds := [.data], laidTests := true, laidLooks := .later }
def PacketEncodesCardSaid : Prop := Claim7.holds Tryd.pinned (.plain (OpenSpec.ofChange packetEncodesSpec)) packetEncodesCard

/-- THE TIED CARD OF 'bucketlinelaw07.PacketDecodes'. -/
def packetDecodesCard : Claim7 := { stood := { row := packetDecodesRow, standIns := [], harness := (true, "7997e3ad1852266adc066c80e161347c730802aff0dff36d439b3a60c0405a67"), looks := false }, kinds := [], alts := [], laidByText := true, laidKinds := [.data], laidTests := true, laidLooks := .later }
def PacketDecodesCardSaid : Prop := Claim7.holds Tryd.pinned (.plain (OpenSpec.ofChange packetDecodesSpec)) packetDecodesCard

/-- THE TIED CARD OF 'bucketlinelaw07.PacketBack'. -/
def packetBackCard : Claim7 := { stood := { row := packetBackRow, standIns := [], harness := (true, "7997e3ad1852266adc066c80e161347c730802aff0dff36d439b3a60c0405a67"), looks := false }, kinds := [], alts := [], laidByText := true, laidKinds := [.data], laidTests := true, laidLooks := .later }
def PacketBackCardSaid : Prop := Claim7.holds Tryd.pinned (.plain (OpenSpec.ofChange packetBackSpec)) packetBackCard

/-- THE TIED CARD OF 'bucketlinelaw07.PacketShort'. -/
def packetShortCard : Claim7 := { stood := { row := packetShortRow, standIns := [], harness := (true, "7997e3ad1852266adc066c80e161347c730802aff0dff36d439b3a60c0405a67"), looks := false }, kinds := [], alts := [], laidByText := true, laidKinds := [.data], laidTests := true, laidLooks := .later }
def PacketShortCardSaid : Prop := Claim7.holds Tryd.pinned (.plain (OpenSpec.ofChange packetShortSpec)) packetShortCard

/-- THE SECOND FORM's CARD OF 'bucketlinelaw07.PacketChecks'. -/
def packetChecksUptoCard : Claim7 := { stood := { row := packetChecksUptoRow, standIns := [], harness := (true, "7997e3ad1852266adc066c80e161347c730802aff0dff36d439b3a60c0405a67"), looks := false }, kinds := [], alts := [], laidByText := true, laidKinds := [.data], laidTests := true, laidLooks := .later }
def PacketChecksUptoCardSaid : Prop := Claim7.holds Tryd.pinned (.plain (OpenSpec.upto packetChecksSpec)) packetChecksUptoCard

/-- THE SECOND FORM's CARD OF 'bucketlinelaw07.PacketEncodes'. -/
def packetEncodesUptoCard : Claim7 := { stood := { row := packetEncodesUptoRow, standIns := [], harness := (true, "7997e3ad1852266adc066c80e161347c730802aff0dff36d439b3a60c0405a67"), looks := false }, kinds := [], alts := [], laidByText := true, laidKinds := [.data], laidTests := true, laidLooks := .later }
def PacketEncodesUptoCardSaid : Prop := Claim7.holds Tryd.pinned (.plain (OpenSpec.upto packetEncodesSpec)) packetEncodesUptoCard

/-- THE SECOND FORM's CARD OF 'bucketlinelaw07.PacketDecodes'. -/
def packetDecodesUptoCard : Claim7 := { stood := { row := packetDecodesUptoRow, standIns := [], harness := (true, "7997e3ad1852266adc066c80e161347c730802aff0dff36d439b3a60c0405a67"), looks := false }, kinds := [], alts := [], laidByText := true, laidKinds := [.data], laidTests := true, laidLooks := .later }
def PacketDecodesUptoCardSaid : Prop := Claim7.holds Tryd.pinned (.plain (OpenSpec.upto packetDecodesSpec)) packetDecodesUptoCard

/-- THE SECOND FORM's CARD OF 'bucketlinelaw07.PacketBack'. -/
def packetBackUptoCard : Claim7 := { stood := { row := packetBackUptoRow, standIns := [], harness := (true, "7997e3ad1852266adc066c80e161347c730802aff0dff36d439b3a60c0405a67"), looks := false }, kinds := [], alts := [], laidByText := true, laidKinds := [.data], laidTests := true, laidLooks := .later }
def PacketBackUptoCardSaid : Prop := Claim7.holds Tryd.pinned (.plain (OpenSpec.upto packetBackSpec)) packetBackUptoCard

/-- THE SECOND FORM's CARD OF 'bucketlinelaw07.PacketShort'. -/
def packetShortUptoCard : Claim7 := { stood := { row := packetShortUptoRow, standIns := [], harness := (true, "7997e3ad1852266adc066c80e161347c730802aff0dff36d439b3a60c0405a67"), looks := false }, kinds := [], alts := [], laidByText := true, laidKinds := [.data], laidTests := true, laidLooks := .later }
def PacketShortUptoCardSaid : Prop := Claim7.holds Tryd.pinned (.plain (OpenSpec.upto packetShortSpec)) packetShortUptoCard
end Rows
end Go.Proofs.YtamlomlkmfobhaaDoor
