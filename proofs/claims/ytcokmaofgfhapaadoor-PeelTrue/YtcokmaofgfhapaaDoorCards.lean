/-
  DERIVED. GIVEN WITH THE SEED: THE CARDS: each row of YtcokmaofgfhapaaDoorRows.lean that lists a variable, with what it lists TIED to the program's text (the seventh form; the later family's looks); each row that meets fmt, with fmt's text TOLD by the authors' own Lean function (tested against real Go, not proved from fmt's source: count such statements apart). THE CARD IS WHAT COUNTS. Prove the row's statement (the work); the ties are given (YtcokmaofgfhapaaDoorTie.lean); close each card by the builder's one call (the guide's Derived/Test/ToyasCard.lean, 'card_holds'). Laid BY PROGRAM, IN A SANDBOX (cutbox-door.mjs). By AI agents, Wed Nov 11 2026. No macro, syntax, notation, axiom, sorry.
-/
import Derived.Test.YtcokmaofgfhapaaDoorRows
import GoSem.ClaimSeven
namespace Go.Proofs.YtcokmaofgfhapaaDoor
namespace Rows

/-- THE TIED CARD OF 'bucketlinelaw13.PeelPeels'. -/
def peelPeelsCard : Claim7 := { stood := { row := peelPeelsRow, standIns := [], harness := (true, "07c1468b3de11362cd915e37f5d366e93001c5b310a7681b14ce8af51c7c26da"), looks := false }, kinds := [], alts := [], laidByText := true, laidKinds := [.data], laidTests := true, laidLooks := .later }
def PeelPeelsCardSaid : Prop := Claim7.holds Tryd.pinned (.plain (OpenSpec.ofChange peelPeelsSpec)) peelPeelsCard

/-- THE TIED CARD OF 'bucketlinelaw13.PeelRipples'. -/
def peelRipplesCard : Claim7 := { stood := { row := peelRipplesRow, standIns := [], harness := (true, "07c1468b3de11362cd915e37f5d366e93001c5b310a7681b14ce8af51c7c26da"), looks := false }, kinds := [], alts := [], laidByText := true, laidKinds := [.data], laidTests := true, laidLooks := .later }
def PeelRipplesCardSaid : Prop := Claim7.holds Tryd.pinned (.plain (OpenSpec.ofChange peelRipplesSpec)) peelRipplesCard

/-- THE TIED CARD OF 'bucketlinelaw13.PeelTrue'. -/
def peelTrueCard : Claim7 := { stood := { row := peelTrueRow, standIns := [], harness := (true, "07c1468b3de11362cd915e37f5d366e93001c5b310a7681b14ce8af51c7c26da"), looks := false }, kinds := [], alts := [], laidByText := true, laidKinds := [.data], laidTests := true, laidLooks := .later }
def PeelTrueCardSaid : Prop := Claim7.holds Tryd.pinned (.plain (OpenSpec.ofChange peelTrueSpec)) peelTrueCard

/-- THE TIED CARD OF 'bucketlinelaw13.PeelEnds'. -/
def peelEndsCard : Claim7 := { stood := { row := peelEndsRow, standIns := [], harness := (true, "07c1468b3de11362cd915e37f5d366e93001c5b310a7681b14ce8af51c7c26da"), looks := false }, kinds := [], alts := [], laidByText := true, laidKinds := [.data], laidTests := true, laidLooks := .later }
def PeelEndsCardSaid : Prop := Claim7.holds Tryd.pinned (.plain (OpenSpec.ofChange peelEndsSpec)) peelEndsCard

/-- THE TIED CARD OF 'bucketlinelaw13.PeelRank'. -/
def peelRankCard : Claim7 := { stood := { row := peelRankRow, standIns := [], harness := (true, "07c1468b3de11362cd915e37f5d366e93001c5b310a7681b14ce8af51c7c26da"), looks := false }, kinds := [], alts := [], laidByText := true, laidKinds := [.data], laidTests := true, laidLooks := .later }
def PeelRankCardSaid : Prop := Claim7.holds Tryd.pinned (.plain (OpenSpec.ofChange peelRankSpec)) peelRankCard

/-- THE SECOND FORM's CARD OF 'bucketlinelaw13.PeelPeels'. -/
def peelPeelsUptoCard : Claim7 := { stood := { row := peelPeelsUptoRow, standIns := [], harness := (true, "07c1468b3de11362cd915e37f5d366e93001c5b310a7681b14ce8af51c7c26da"), looks := false }, kinds := [], alts := [], laidByText := true, laidKinds := [.data], laidTests := true, laidLooks := .later }
def PeelPeelsUptoCardSaid : Prop := Claim7.holds Tryd.pinned (.plain (OpenSpec.upto peelPeelsSpec)) peelPeelsUptoCard

/-- THE SECOND FORM's CARD OF 'bucketlinelaw13.PeelRipples'. -/
def peelRipplesUptoCard : Claim7 := { stood := { row := peelRipplesUptoRow, standIns := [], harness := (true, "07c1468b3de11362cd915e37f5d366e93001c5b310a7681b14ce8af51c7c26da"), looks := false }, kinds := [], alts := [], laidByText := true, laidKinds := [.data], laidTests := true, laidLooks := .later }
def PeelRipplesUptoCardSaid : Prop := Claim7.holds Tryd.pinned (.plain (OpenSpec.upto peelRipplesSpec)) peelRipplesUptoCard

/-- THE SECOND FORM's CARD OF 'bucketlinelaw13.PeelTrue'. -/
def peelTrueUptoCard : Claim7 := { stood := { row := peelTrueUptoRow, standIns := [], harness := (true, "07c1468b3de11362cd915e37f5d366e93001c5b310a7681b14ce8af51c7c26da"), looks := false }, kinds := [], alts := [], laidByText := true, laidKinds := [.data], laidTests := true, laidLooks := .later }
def PeelTrueUptoCardSaid : Prop := Claim7.holds Tryd.pinned (.plain (OpenSpec.upto peelTrueSpec)) peelTrueUptoCard

/-- THE SECOND FORM's CARD OF 'bucketlinelaw13.PeelEnds'. -/
def peelEndsUptoCard : Claim7 := { stood := { row := peelEndsUptoRow, standIns := [], harness := (true, "07c1468b3de11362cd915e37f5d366e93001c5b310a7681b14ce8af51c7c26da"), looks := false }, kinds := [], alts := [], laidByText := true, laidKinds := [.data], laidTests := true, laidLooks := .later }
def PeelEndsUptoCardSaid : Prop := Claim7.holds Tryd.pinned (.plain (OpenSpec.upto peelEndsSpec)) peelEndsUptoCard

/-- THE SECOND FORM's CARD OF 'bucketlinelaw13.PeelRank'. -/
def peelRankUptoCard : Claim7 := { stood := { row := peelRankUptoRow, standIns := [], harness := (true, "07c1468b3de11362cd915e37f5d366e93001c5b310a7681b14ce8af51c7c26da"), looks := false }, kinds := [], alts := [], laidByText := true, laidKinds := [.data], laidTests := true, laidLooks := .later }
def PeelRankUptoCardSaid : Prop := Claim7.holds Tryd.pinned (.plain (OpenSpec.upto peelRankSpec)) peelRankUptoCard
end Rows
end Go.Proofs.YtcokmaofgfhapaaDoor
