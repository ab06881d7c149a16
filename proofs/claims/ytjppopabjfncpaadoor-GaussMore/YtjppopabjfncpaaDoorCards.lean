/-
  DERIVED. GIVEN WITH THE SEED: THE CARDS: each row of YtjppopabjfncpaaDoorRows.lean that lists a variable, with what it lists TIED to the program's text (the seventh form; the later family's looks); each row that meets fmt, with fmt's text TOLD by the authors' own Lean function (tested against real Go, not proved from fmt's source: count such statements apart). THE CARD IS WHAT COUNTS. Prove the row's statement (the work); the ties are given (YtjppopabjfncpaaDoorTie.lean); close each card by the builder's one call (the guide's Derived/Test/ToyasCard.lean, 'card_holds'). Laid BY PROGRAM, IN A SANDBOX (cutbox-door.mjs). By AI agents, Wed Nov 11 2026. No macro, syntax, notation, axiom, sorry.
-/
import Derived.Test.YtjppopabjfncpaaDoorRows
import GoSem.ClaimSeven
namespace Go.Proofs.YtjppopabjfncpaaDoor
namespace Rows

/-- THE TIED CARD OF 'bucketlinelaw14.GaussSolves'. -/
def gaussSolvesCard : Claim7 := { stood := { row := gaussSolvesRow, standIns := [], harness := (true, "5c4b04f0c63a7014c49dd56230210306e5af4e7a1f77565f62973ba772546ea3"), looks := false }, kinds := [], alts := [], laidByText := true, laidKinds := [.data], laidTests := true, laidLooks := .later }
def GaussSolvesCardSaid : Prop := Claim7.holds Tryd.pinned (.plain (OpenSpec.ofChange gaussSolvesSpec)) gaussSolvesCard

/-- THE TIED CARD OF 'bucketlinelaw14.GaussDecodes'. -/
def gaussDecodesCard : Claim7 := { stood := { row := gaussDecodesRow, standIns := [], harness := (true, "5c4b04f0c63a7014c49dd56230210306e5af4e7a1f77565f62973ba772546ea3"), looks := false }, kinds := [], alts := [], laidByText := true, laidKinds := [.data], laidTests := true, laidLooks := .later }
def GaussDecodesCardSaid : Prop := Claim7.holds Tryd.pinned (.plain (OpenSpec.ofChange gaussDecodesSpec)) gaussDecodesCard

/-- THE TIED CARD OF 'bucketlinelaw14.GaussTrue'. -/
def gaussTrueCard : Claim7 := { stood := { row := gaussTrueRow, standIns := [], harness := (true, "5c4b04f0c63a7014c49dd56230210306e5af4e7a1f77565f62973ba772546ea3"), looks := false }, kinds := [], alts := [], laidByText := true, laidKinds := [.data], laidTests := true, laidLooks := .later }
def GaussTrueCardSaid : Prop := Claim7.holds Tryd.pinned (.plain (OpenSpec.ofChange gaussTrueSpec)) gaussTrueCard

/-- THE TIED CARD OF 'bucketlinelaw14.GaussOrder'. -/
def gaussOrderCard : Claim7 := { stood := { row := gaussOrderRow, standIns := [], harness := (true, "5c4b04f0c63a7014c49dd56230210306e5af4e7a1f77565f62973ba772546ea3"), looks := false }, kinds := [], alts := [], laidByText := true, laidKinds := [.data], laidTests := true, laidLooks := .later }
def GaussOrderCardSaid : Prop := Claim7.holds Tryd.pinned (.plain (OpenSpec.ofChange gaussOrderSpec)) gaussOrderCard

/-- THE TIED CARD OF 'bucketlinelaw14.GaussMore'. -/
def gaussMoreCard : Claim7 := { stood := { row := gaussMoreRow, standIns := [], harness := (true, "5c4b04f0c63a7014c49dd56230210306e5af4e7a1f77565f62973ba772546ea3"), looks := false }, kinds := [], alts := [], laidByText := true, laidKinds := [.data], laidTests := true, laidLooks := .later }
def GaussMoreCardSaid : Prop := Claim7.holds Tryd.pinned (.plain (OpenSpec.ofChange gaussMoreSpec)) gaussMoreCard

/-- THE SECOND FORM's CARD OF 'bucketlinelaw14.GaussSolves'. -/
def gaussSolvesUptoCard : Claim7 := { stood := { row := gaussSolvesUptoRow, standIns := [], harness := (true, "5c4b04f0c63a7014c49dd56230210306e5af4e7a1f77565f62973ba772546ea3"), looks := false }, kinds := [], alts := [], laidByText := true, laidKinds := [.data], laidTests := true, laidLooks := .later }
def GaussSolvesUptoCardSaid : Prop := Claim7.holds Tryd.pinned (.plain (OpenSpec.upto gaussSolvesSpec)) gaussSolvesUptoCard

/-- THE SECOND FORM's CARD OF 'bucketlinelaw14.GaussDecodes'. -/
def gaussDecodesUptoCard : Claim7 := { stood := { row := gaussDecodesUptoRow, standIns := [], harness := (true, "5c4b04f0c63a7014c49dd56230210306e5af4e7a1f77565f62973ba772546ea3"), looks := false }, kinds := [], alts := [], laidByText := true, laidKinds := [.data], laidTests := true, laidLooks := .later }
def GaussDecodesUptoCardSaid : Prop := Claim7.holds Tryd.pinned (.plain (OpenSpec.upto gaussDecodesSpec)) gaussDecodesUptoCard

/-- THE SECOND FORM's CARD OF 'bucketlinelaw14.GaussTrue'. -/
def gaussTrueUptoCard : Claim7 := { stood := { row := gaussTrueUptoRow, standIns := [], harness := (true, "5c4b04f0c63a7014c49dd56230210306e5af4e7a1f77565f62973ba772546ea3"), looks := false }, kinds := [], alts := [], laidByText := true, laidKinds := [.data], laidTests := true, laidLooks := .later }
def GaussTrueUptoCardSaid : Prop := Claim7.holds Tryd.pinned (.plain (OpenSpec.upto gaussTrueSpec)) gaussTrueUptoCard

/-- THE SECOND FORM's CARD OF 'bucketlinelaw14.GaussOrder'. -/
def gaussOrderUptoCard : Claim7 := { stood := { row := gaussOrderUptoRow, standIns := [], harness := (true, "5c4b04f0c63a7014c49dd56230210306e5af4e7a1f77565f62973ba772546ea3"), looks := false }, kinds := [], alts := [], laidByText := true, laidKinds := [.data], laidTests := true, laidLooks := .later }
def GaussOrderUptoCardSaid : Prop := Claim7.holds Tryd.pinned (.plain (OpenSpec.upto gaussOrderSpec)) gaussOrderUptoCard

/-- THE SECOND FORM's CARD OF 'bucketlinelaw14.GaussMore'. -/
def gaussMoreUptoCard : Claim7 := { stood := { row := gaussMoreUptoRow, standIns := [], harness := (true, "5c4b04f0c63a7014c49dd56230210306e5af4e7a1f77565f62973ba772546ea3"), looks := false }, kinds := [], alts := [], laidByText := true, laidKinds := [.data], laidTests := true, laidLooks := .later }
def GaussMoreUptoCardSaid : Prop := Claim7.holds Tryd.pinned (.plain (OpenSpec.upto gaussMoreSpec)) gaussMoreUptoCard
end Rows
end Go.Proofs.YtjppopabjfncpaaDoor
