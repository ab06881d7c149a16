/-
  DERIVED. GIVEN WITH THE SEED: THE CARDS: each row of YtnjdldbdkafnaaaGreatDoorRows.lean that lists a variable, with what it lists TIED to the program's text (the seventh form; the later family's looks); each row that meets fmt, with fmt's text TOLD by the authors' own Lean function (tested against real Go, not proved from fmt's source: count such statements apart). THE CARD IS WHAT COUNTS. Prove the row's statement (the work); the ties are given (YtnjdldbdkafnaaaGreatDoorTie.lean); close each card by the builder's one call (the guide's Derived/Test/ToyasCard.lean, 'card_holds'). Laid BY PROGRAM, IN A SANDBOX (cutbox-door.mjs). By AI agents, Wed Nov 11 2026. No macro, syntax, notation, axiom, sorry.
-/
import Derived.Test.YtnjdldbdkafnaaaGreatDoorRows
import GoSem.ClaimSeven
namespace Go.Proofs.YtnjdldbdkafnaaaGreatDoor
namespace Rows

/-- THE TIED CARD OF 'bucketlinelaw16.DecoderPlays'. -/
def decoderPlaysCard : Claim7 := { stood := { row := decoderPlaysRow, standIns := [], harness := (true, "26657bb509299d12c96ba40d556fae340cc4fc191129e25aa305387c56e0b0ef"), looks := false }, kinds := [], alts := [], laidByText := true, laidKinds := [.data], laidTests := true, laidLooks := .later }
def DecoderPlaysCardSaid : Prop := Claim7.holds Tryz.pinned (.plain (OpenSpec.ofChange decoderPlaysSpec)) decoderPlaysCard

/-- THE TIED CARD OF 'bucketlinelaw16.DecoderJust'. -/
def decoderJustCard : Claim7 := { stood := { row := decoderJustRow, standIns := [], harness := (true, "26657bb509299d12c96ba40d556fae340cc4fc191129e25aa305387c56e0b0ef"), looks := false }, kinds := [], alts := [], laidByText := true, laidKinds := [.data], laidTests := true, laidLooks := .later }
def DecoderJustCardSaid : Prop := Claim7.holds Tryz.pinned (.plain (OpenSpec.ofChange decoderJustSpec)) decoderJustCard

/-- THE TIED CARD OF 'bucketlinelaw16.DecoderTrue'. -/
def decoderTrueCard : Claim7 := { stood := { row := decoderTrueRow, standIns := [], harness := (true, "26657bb509299d12c96ba40d556fae340cc4fc191129e25aa305387c56e0b0ef"), looks := false }, kinds := [], alts := [], laidByText := true, laidKinds := [.data], laidTests := true, laidLooks := .later }
def DecoderTrueCardSaid : Prop := Claim7.holds Tryz.pinned (.plain (OpenSpec.ofChange decoderTrueSpec)) decoderTrueCard

/-- THE SECOND FORM's CARD OF 'bucketlinelaw16.DecoderPlays'. -/
def decoderPlaysUptoCard : Claim7 := { stood := { row := decoderPlaysUptoRow, standIns := [], harness := (true, "26657bb509299d12c96ba40d556fae340cc4fc191129e25aa305387c56e0b0ef"), looks := false }, kinds := [], alts := [], laidByText := true, laidKinds := [.data], laidTests := true, laidLooks := .later }
def DecoderPlaysUptoCardSaid : Prop := Claim7.holds Tryz.pinned (.plain (OpenSpec.upto decoderPlaysSpec)) decoderPlaysUptoCard

/-- THE SECOND FORM's CARD OF 'bucketlinelaw16.DecoderJust'. -/
def decoderJustUptoCard : Claim7 := { stood := { row := decoderJustUptoRow, standIns := [], harness := (true, "26657bb509299d12c96ba40d556fae340cc4fc191129e25aa305387c56e0b0ef"), looks := false }, kinds := [], alts := [], laidByText := true, laidKinds := [.data], laidTests := true, laidLooks := .later }
def DecoderJustUptoCardSaid : Prop := Claim7.holds Tryz.pinned (.plain (OpenSpec.upto decoderJustSpec)) decoderJustUptoCard

/-- THE SECOND FORM's CARD OF 'bucketlinelaw16.DecoderTrue'. -/
def decoderTrueUptoCard : Claim7 := { stood := { row := decoderTrueUptoRow, standIns := [], harness := (true, "26657bb509299d12c96ba40d556fae340cc4fc191129e25aa305387c56e0b0ef"), looks := false }, kinds := [], alts := [], laidByText := true, laidKinds := [.data], laidTests := true, laidLooks := .later }
def DecoderTrueUptoCardSaid : Prop := Claim7.holds Tryz.pinned (.plain (OpenSpec.upto decoderTrueSpec)) decoderTrueUptoCard
end Rows
end Go.Proofs.YtnjdldbdkafnaaaGreatDoor
