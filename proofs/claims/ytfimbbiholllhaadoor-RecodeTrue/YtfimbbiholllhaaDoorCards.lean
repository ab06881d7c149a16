/-
  DERIVED. GIVEN WITH THE SEED: THE CARDS: each row of YtfimbbiholllhaaDoorRows.lean that lists a variable, with what it lists TIED to the program's text (the seventh form; the later family's looks); each row that meets fmt, with fmt's text TOLD by the authors' own Lean function (tested against real Go, not proved from fmt's source: count such statements apart). THE CARD IS WHAT COUNTS. Prove the row's statement (the work); the ties are given (YtfimbbiholllhaaDoorTie.lean); close each card by the builder's one call (the guide's Derived/Test/ToyasCard.lean, 'card_holds'). Laid BY PROGRAM, IN A SANDBOX (cutbox-door.mjs). By AI agents, Wed Nov 11 2026. No macro, syntax, notation, axiom, sorry.
-/
import Derived.Test.YtfimbbiholllhaaDoorRows
import GoSem.ClaimSeven
namespace Go.Proofs.YtfimbbiholllhaaDoor
namespace Rows

/-- THE TIED CARD OF 'bucketlinelaw18.RecodeChooses'. -/
def recodeChoosesCard : Claim7 := { stood := { row := recodeChoosesRow, standIns := [], harness := (true, "a76f85d84a1136630b47e3da9474ed649404b1d16abd4be6c9ecba06465bbc21"), looks := false }, kinds := [], alts := [], laidByText := true, laidKinds := [.data], laidTests := true, laidLooks := .later }
def RecodeChoosesCardSaid : Prop := Claim7.holds Tryd.pinned (.plain (OpenSpec.ofChange recodeChoosesSpec)) recodeChoosesCard

/-- THE TIED CARD OF 'bucketlinelaw18.RecodeDegrees'. -/
def recodeDegreesCard : Claim7 := { stood := { row := recodeDegreesRow, standIns := [], harness := (true, "a76f85d84a1136630b47e3da9474ed649404b1d16abd4be6c9ecba06465bbc21"), looks := false }, kinds := [], alts := [], laidByText := true, laidKinds := [.data], laidTests := true, laidLooks := .later }
def RecodeDegreesCardSaid : Prop := Claim7.holds Tryd.pinned (.plain (OpenSpec.ofChange recodeDegreesSpec)) recodeDegreesCard

/-- THE TIED CARD OF 'bucketlinelaw18.RecodeMixes'. -/
def recodeMixesCard : Claim7 := { stood := { row := recodeMixesRow, standIns := [], harness := (true, "a76f85d84a1136630b47e3da9474ed649404b1d16abd4be6c9ecba06465bbc21"), looks := false }, kinds := [], alts := [], laidByText := true, laidKinds := [.data], laidTests := true, laidLooks := .later }
def RecodeMixesCardSaid : Prop := Claim7.holds Tryd.pinned (.plain (OpenSpec.ofChange recodeMixesSpec)) recodeMixesCard

/-- THE TIED CARD OF 'bucketlinelaw18.RecodeTrue'. -/
def recodeTrueCard : Claim7 := { stood := { row := recodeTrueRow, standIns := [], harness := (true, "a76f85d84a1136630b47e3da9474ed649404b1d16abd4be6c9ecba06465bbc21"), looks := false }, kinds := [], alts := [], laidByText := true, laidKinds := [.data], laidTests := true, laidLooks := .later }
def RecodeTrueCardSaid : Prop := Claim7.holds Tryd.pinned (.plain (OpenSpec.ofChange recodeTrueSpec)) recodeTrueCard

/-- THE TIED CARD OF 'bucketlinelaw18.RecodeNearer'. -/
def recodeNearerCard : Claim7 := { stood := { row := recodeNearerRow, standIns := [], harness := (true, "a76f85d84a1136630b47e3da9474ed649404b1d16abd4be6c9ecba06465bbc21"), looks := false }, kinds := [], alts := [], laidByText := true, laidKinds := [.data], laidTests := true, laidLooks := .later }
def RecodeNearerCardSaid : Prop := Claim7.holds Tryd.pinned (.plain (OpenSpec.ofChange recodeNearerSpec)) recodeNearerCard

/-- THE SECOND FORM's CARD OF 'bucketlinelaw18.RecodeChooses'. -/
def recodeChoosesUptoCard : Claim7 := { stood := { row := recodeChoosesUptoRow, standIns := [], harness := (true, "a76f85d84a1136630b47e3da9474ed649404b1d16abd4be6c9ecba06465bbc21"), looks := false }, kinds := [], alts := [], laidByText := true, laidKinds := [.data], laidTests := true, laidLooks := .later }
def RecodeChoosesUptoCardSaid : Prop := Claim7.holds Tryd.pinned (.plain (OpenSpec.upto recodeChoosesSpec)) recodeChoosesUptoCard

/-- THE SECOND FORM's CARD OF 'bucketlinelaw18.RecodeDegrees'. -/
def recodeDegreesUptoCard : Claim7 := { stood := { row := recodeDegreesUptoRow, standIns := [], harness := (true, "a76f85d84a1136630b47e3da9474ed649404b1d16abd4be6c9ecba06465bbc21"), looks := false }, kinds := [], alts := [], laidByText := true, laidKinds := [.data], laidTests := true, laidLooks := .later }
def RecodeDegreesUptoCardSaid : Prop := Claim7.holds Tryd.pinned (.plain (OpenSpec.upto recodeDegreesSpec)) recodeDegreesUptoCard

/-- THE SECOND FORM's CARD OF 'bucketlinelaw18.RecodeMixes'. -/
def recodeMixesUptoCard : Claim7 := { stood := { row := recodeMixesUptoRow, standIns := [], harness := (true, "a76f85d84a1136630b47e3da9474ed649404b1d16abd4be6c9ecba06465bbc21"), looks := false }, kinds := [], alts := [], laidByText := true, laidKinds := [.data], laidTests := true, laidLooks := .later }
def RecodeMixesUptoCardSaid : Prop := Claim7.holds Tryd.pinned (.plain (OpenSpec.upto recodeMixesSpec)) recodeMixesUptoCard

/-- THE SECOND FORM's CARD OF 'bucketlinelaw18.RecodeTrue'. -/
def recodeTrueUptoCard : Claim7 := { stood := { row := recodeTrueUptoRow, standIns := [], harness := (true, "a76f85d84a1136630b47e3da9474ed649404b1d16abd4be6c9ecba06465bbc21"), looks := false }, kinds := [], alts := [], laidByText := true, laidKinds := [.data], laidTests := true, laidLooks := .later }
def RecodeTrueUptoCardSaid : Prop := Claim7.holds Tryd.pinned (.plain (OpenSpec.upto recodeTrueSpec)) recodeTrueUptoCard

/-- THE SECOND FORM's CARD OF 'bucketlinelaw18.RecodeNearer'. -/
def recodeNearerUptoCard : Claim7 := { stood := { row := recodeNearerUptoRow, standIns := [], harness := (true, "a76f85d84a1136630b47e3da9474ed649404b1d16abd4be6c9ecba06465bbc21"), looks := false }, kinds := [], alts := [], laidByText := true, laidKinds := [.data], laidTests := true, laidLooks := .later }
def RecodeNearerUptoCardSaid : Prop := Claim7.holds Tryd.pinned (.plain (OpenSpec.upto recodeNearerSpec)) recodeNearerUptoCard
end Rows
end Go.Proofs.YtfimbbiholllhaaDoor
