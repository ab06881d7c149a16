/-
  DERIVED. GIVEN WITH THE SEED: THE CARDS: each row of YtdiondgkkanamaaDoorRows.lean that lists a variable, with what it lists TIED to the program's text (the seventh form; the later family's looks); each row that meets fmt, with fmt's text TOLD by the authors' own Lean function (tested against real Go, not proved from fmt's source: count such statements apart). THE CARD IS WHAT COUNTS. Prove the row's statement (the work); the ties are given (YtdiondgkkanamaaDoorTie.lean); close each card by the builder's one call (the guide's Derived/Test/ToyasCard.lean, 'card_holds'). Laid BY PROGRAM, IN A SANDBOX (cutbox-door.mjs). By AI agents, Wed Nov 11 2026. No macro, syntax, notation, axiom, sorry.
-/
import Derived.Test.YtdiondgkkanamaaDoorRows
import GoSem.ClaimSeven
namespace Go.Proofs.YtdiondgkkanamaaDoor
namespace Rows

/-- THE TIED CARD OF 'bucketlinelaw24.LinkSlow'. -/
def linkSlowCard : Claim7 := { stood := { row := linkSlowRow, standIns := [], harness := (true, "b194527e254b895fad2fb9b27ac83c4d45cd0e995e8c540b375c5c635c854120"), looks := true }, kinds := [], alts := [], laidByText := true, laidKinds := [.data], laidTests := true, laidLooks := .later }
def LinkSlowCardSaid : Prop := Claim7.holds Tryd.pinned (.plain (OpenSpec.ofChange linkSlowSpec)) linkSlowCard

/-- THE TIED CARD OF 'bucketlinelaw24.LinkNone'. -/
def linkNoneCard : Claim7 := { stood := { row := linkNoneRow, standIns := [], harness := (true, "b194527e254b895fad2fb9b27ac83c4d45cd0e995e8c540b375c5c635c854120"), looks := true }, kinds := [], alts := [], laidByText := true, laidKinds := [.data], laidTests := true, laidLooks := .later }
def LinkNoneCardSaid : Prop := Claim7.holds Tryd.pinned (.plain (OpenSpec.ofChange linkNoneSpec)) linkNoneCard

/-- THE TIED CARD OF 'bucketlinelaw24.LinkBound'. -/
def linkBoundCard : Claim7 := { stood := { row := linkBoundRow, standIns := [], harness := (true, "b194527e254b895fad2fb9b27ac83c4d45cd0e995e8c540b375c5c635c854120"), looks := true }, kinds := [], alts := [], laidByText := true, laidKinds := [.data], laidTests := true, laidLooks := .later }
def LinkBoundCardSaid : Prop := Claim7.holds Tryd.pinned (.plain (OpenSpec.ofChange linkBoundSpec)) linkBoundCard

/-- THE SECOND FORM's CARD OF 'bucketlinelaw24.LinkSlow'. -/
def linkSlowUptoCard : Claim7 := { stood := { row := linkSlowUptoRow, standIns := [], harness := (true, "b194527e254b895fad2fb9b27ac83c4d45cd0e995e8c540b375c5c635c854120"), looks := true }, kinds := [], alts := [], laidByText := true, laidKinds := [.data], laidTests := true, laidLooks := .later }
def LinkSlowUptoCardSaid : Prop := Claim7.holds Tryd.pinned (.plain (OpenSpec.upto linkSlowSpec)) linkSlowUptoCard

/-- THE SECOND FORM's CARD OF 'bucketlinelaw24.LinkNone'. -/
def linkNoneUptoCard : Claim7 := { stood := { row := linkNoneUptoRow, standIns := [], harness := (true, "b194527e254b895fad2fb9b27ac83c4d45cd0e995e8c540b375c5c635c854120"), looks := true }, kinds := [], alts := [], laidByText := true, laidKinds := [.data], laidTests := true, laidLooks := .later }
def LinkNoneUptoCardSaid : Prop := Claim7.holds Tryd.pinned (.plain (OpenSpec.upto linkNoneSpec)) linkNoneUptoCard

/-- THE SECOND FORM's CARD OF 'bucketlinelaw24.LinkBound'. -/
def linkBoundUptoCard : Claim7 := { stood := { row := linkBoundUptoRow, standIns := [], harness := (true, "b194527e254b895fad2fb9b27ac83c4d45cd0e995e8c540b375c5c635c854120"), looks := true }, kinds := [], alts := [], laidByText := true, laidKinds := [.data], laidTests := true, laidLooks := .later }
def LinkBoundUptoCardSaid : Prop := Claim7.holds Tryd.pinned (.plain (OpenSpec.upto linkBoundSpec)) linkBoundUptoCard
end Rows
end Go.Proofs.YtdiondgkkanamaaDoor
