/-
  DERIVED. GIVEN WITH THE SEED: THE CARDS: each row of YtnjdldbdkafnaaaDoorRows.lean that lists a variable, with what it lists TIED to the program's text (the seventh form; the later family's looks); each row that meets fmt, with fmt's text TOLD by the authors' own Lean function (tested against real Go, not proved from fmt's source: count such statements apart). THE CARD IS WHAT COUNTS. Prove the row's statement (the work); the ties are given (YtnjdldbdkafnaaaDoorTie.lean); close each card by the builder's one call (the guide's Derived/Test/ToyasCard.lean, 'card_holds'). Laid BY PROGRAM, IN A SANDBOX (cutbox-door.mjs). By AI agents, Wed Nov 11 2026. No macro, syntax, notation, axiom, sorry.
-/
import Derived.Test.YtnjdldbdkafnaaaDoorRows
import GoSem.ClaimSeven
namespace Go.Proofs.YtnjdldbdkafnaaaDoor
namespace Rows

/-- THE TIED CARD OF 'bucketlinelaw16.DecoderOnce'. -/
def decoderOnceCard : Claim7 := { stood := { row := decoderOnceRow, standIns := [], harness := (true, "c74c3c2c83d28482aa30c9513d83781b70d44eafb6d041b1875a1d1e6032ceb2"), looks := false }, kinds := [], alts := [], laidByText := true, laidKinds := [.data], laidTests := true, laidLooks := .later }
def DecoderOnceCardSaid : Prop := Claim7.holds Tryd.pinned (.plain (OpenSpec.ofChange decoderOnceSpec)) decoderOnceCard

/-- THE TIED CARD OF 'bucketlinelaw16.DecoderNone'. -/
def decoderNoneCard : Claim7 := { stood := { row := decoderNoneRow, standIns := [], harness := (true, "c74c3c2c83d28482aa30c9513d83781b70d44eafb6d041b1875a1d1e6032ceb2"), looks := false }, kinds := [], alts := [], laidByText := true, laidKinds := [.data], laidTests := true, laidLooks := .later }
def DecoderNoneCardSaid : Prop := Claim7.holds Tryd.pinned (.plain (OpenSpec.ofChange decoderNoneSpec)) decoderNoneCard

/-- THE SECOND FORM's CARD OF 'bucketlinelaw16.DecoderOnce'. -/
def decoderOnceUptoCard : Claim7 := { stood := { row := decoderOnceUptoRow, standIns := [], harness := (true, "c74c3c2c83d28482aa30c9513d83781b70d44eafb6d041b1875a1d1e6032ceb2"), looks := false }, kinds := [], alts := [], laidByText := true, laidKinds := [.data], laidTests := true, laidLooks := .later }
def DecoderOnceUptoCardSaid : Prop := Claim7.holds Tryd.pinned (.plain (OpenSpec.upto decoderOnceSpec)) decoderOnceUptoCard

/-- THE SECOND FORM's CARD OF 'bucketlinelaw16.DecoderNone'. -/
def decoderNoneUptoCard : Claim7 := { stood := { row := decoderNoneUptoRow, standIns := [], harness := (true, "c74c3c2c83d28482aa30c9513d83781b70d44eafb6d041b1875a1d1e6032ceb2"), looks := false }, kinds := [], alts := [], laidByText := true, laidKinds := [.data], laidTests := true, laidLooks := .later }
def DecoderNoneUptoCardSaid : Prop := Claim7.holds Tryd.pinned (.plain (OpenSpec.upto decoderNoneSpec)) decoderNoneUptoCard
end Rows
end Go.Proofs.YtnjdldbdkafnaaaDoor
