/-
  DERIVED. GIVEN WITH THE SEED: THE CARDS: each row of YtbppanebpfpioaaDoorRows.lean that lists a variable, with what it lists TIED to the program's text (the seventh form; the later family's looks); each row that meets fmt, with fmt's text TOLD by the authors' own Lean function (tested against real Go, not proved from fmt's source: count such statements apart). THE CARD IS WHAT COUNTS. Prove the row's statement (the work); the ties are given (YtbppanebpfpioaaDoorTie.lean); close each card by the builder's one call (the guide's Derived/Test/ToyasCard.lean, 'card_holds'). Laid BY PROGRAM, IN A SANDBOX (cutbox-door.mjs). By AI agents, Wed Nov 11 2026. No macro, syntax, notation, axiom, sorry.
-/
import Derived.Test.YtbppanebpfpioaaDoorRows
import GoSem.ClaimSeven
namespace Go.Proofs.YtbppanebpfpioaaDoor
namespace Rows

/-- THE TIED CARD OF 'bucketlinelaw17.BufferPlays'. -/
def bufferPlaysCard : Claim7 := { stood := { row := bufferPlaysRow, standIns := [], harness := (true, "e370868f068822e8f6048af535546eb66fa6d66402e86368d949b1ce92bbc70d"), looks := false }, kinds := [], alts := [], laidByText := true, laidKinds := [.data], laidTests := true, laidLooks := .later }
def BufferPlaysCardSaid : Prop := Claim7.holds Tryd.pinned (.plain (OpenSpec.ofChange bufferPlaysSpec)) bufferPlaysCard

/-- THE TIED CARD OF 'bucketlinelaw17.BufferFree'. -/
def bufferFreeCard : Claim7 := { stood := { row := bufferFreeRow, standIns := [], harness := (true, "e370868f068822e8f6048af535546eb66fa6d66402e86368d949b1ce92bbc70d"), looks := false }, kinds := [], alts := [], laidByText := true, laidKinds := [.data], laidTests := true, laidLooks := .later }
def BufferFreeCardSaid : Prop := Claim7.holds Tryd.pinned (.plain (OpenSpec.ofChange bufferFreeSpec)) bufferFreeCard

/-- THE TIED CARD OF 'bucketlinelaw17.BufferBound'. -/
def bufferBoundCard : Claim7 := { stood := { row := bufferBoundRow, standIns := [], harness := (true, "e370868f068822e8f6048af535546eb66fa6d66402e86368d949b1ce92bbc70d"), looks := false }, kinds := [], alts := [], laidByText := true, laidKinds := [.data], laidTests := true, laidLooks := .later }
def BufferBoundCardSaid : Prop := Claim7.holds Tryd.pinned (.plain (OpenSpec.ofChange bufferBoundSpec)) bufferBoundCard

/-- THE TIED CARD OF 'bucketlinelaw17.BufferClear'. -/
def bufferClearCard : Claim7 := { stood := { row := bufferClearRow, standIns := [], harness := (true, "e370868f068822e8f6048af535546eb66fa6d66402e86368d949b1ce92bbc70d"), looks := false }, kinds := [], alts := [], laidByText := true, laidKinds := [.data], laidTests := true, laidLooks := .later }
def BufferClearCardSaid : Prop := Claim7.holds Tryd.pinned (.plain (OpenSpec.ofChange bufferClearSpec)) bufferClearCard

/-- THE TIED CARD OF 'bucketlinelaw17.BufferNone'. -/
def bufferNoneCard : Claim7 := { stood := { row := bufferNoneRow, standIns := [], harness := (true, "e370868f068822e8f6048af535546eb66fa6d66402e86368d949b1ce92bbc70d"), looks := false }, kinds := [], alts := [], laidByText := true, laidKinds := [.data], laidTests := true, laidLooks := .later }
def BufferNoneCardSaid : Prop := Claim7.holds Tryd.pinned (.plain (OpenSpec.ofChange bufferNoneSpec)) bufferNoneCard

/-- THE SECOND FORM's CARD OF 'bucketlinelaw17.BufferPlays'. -/
def bufferPlaysUptoCard : Claim7 := { stood := { row := bufferPlaysUptoRow, standIns := [], harness := (true, "e370868f068822e8f6048af535546eb66fa6d66402e86368d949b1ce92bbc70d"), looks := false }, kinds := [], alts := [], laidByText := true, laidKinds := [.data], laidTests := true, laidLooks := .later }
def BufferPlaysUptoCardSaid : Prop := Claim7.holds Tryd.pinned (.plain (OpenSpec.upto bufferPlaysSpec)) bufferPlaysUptoCard

/-- THE SECOND FORM's CARD OF 'bucketlinelaw17.BufferFree'. -/
def bufferFreeUptoCard : Claim7 := { stood := { row := bufferFreeUptoRow, standIns := [], harness := (true, "e370868f068822e8f6048af535546eb66fa6d66402e86368d949b1ce92bbc70d"), looks := false }, kinds := [], alts := [], laidByText := true, laidKinds := [.data], laidTests := true, laidLooks := .later }
def BufferFreeUptoCardSaid : Prop := Claim7.holds Tryd.pinned (.plain (OpenSpec.upto bufferFreeSpec)) bufferFreeUptoCard

/-- THE SECOND FORM's CARD OF 'bucketlinelaw17.BufferBound'. -/
def bufferBoundUptoCard : Claim7 := { stood := { row := bufferBoundUptoRow, standIns := [], harness := (true, "e370868f068822e8f6048af535546eb66fa6d66402e86368d949b1ce92bbc70d"), looks := false }, kinds := [], alts := [], laidByText := true, laidKinds := [.data], laidTests := true, laidLooks := .later }
def BufferBoundUptoCardSaid : Prop := Claim7.holds Tryd.pinned (.plain (OpenSpec.upto bufferBoundSpec)) bufferBoundUptoCard

/-- THE SECOND FORM's CARD OF 'bucketlinelaw17.BufferClear'. -/
def bufferClearUptoCard : Claim7 := { stood := { row := bufferClearUptoRow, standIns := [], harness := (true, "e370868f068822e8f6048af535546eb66fa6d66402e86368d949b1ce92bbc70d"), looks := false }, kinds := [], alts := [], laidByText := true, laidKinds := [.data], laidTests := true, laidLooks := .later }
def BufferClearUptoCardSaid : Prop := Claim7.holds Tryd.pinned (.plain (OpenSpec.upto bufferClearSpec)) bufferClearUptoCard

/-- THE SECOND FORM's CARD OF 'bucketlinelaw17.BufferNone'. -/
def bufferNoneUptoCard : Claim7 := { stood := { row := bufferNoneUptoRow, standIns := [], harness := (true, "e370868f068822e8f6048af535546eb66fa6d66402e86368d949b1ce92bbc70d"), looks := false }, kinds := [], alts := [], laidByText := true, laidKinds := [.data], laidTests := true, laidLooks := .later }
def BufferNoneUptoCardSaid : Prop := Claim7.holds Tryd.pinned (.plain (OpenSpec.upto bufferNoneSpec)) bufferNoneUptoCard
end Rows
end Go.Proofs.YtbppanebpfpioaaDoor
