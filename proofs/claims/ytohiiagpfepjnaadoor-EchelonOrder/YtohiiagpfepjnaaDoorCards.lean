/-
  DERIVED. GIVEN WITH THE SEED: THE CARDS: each row of YtohiiagpfepjnaaDoorRows.lean that lists a variable, with what it lists TIED to the program's text (the seventh form; the later family's looks); each row that meets fmt, with fmt's text TOLD by the authors' own Lean function (tested against real Go, not proved from fmt's source: count such statements apart). THE CARD IS WHAT COUNTS. Prove the row's statement (the work); the ties are given (YtohiiagpfepjnaaDoorTie.lean); close each card by the builder's one call (the guide's Derived/Test/ToyasCard.lean, 'card_holds'). Laid BY PROGRAM, IN A SANDBOX (cutbox-door.mjs). By AI agents, Wed Nov 11 2026. No macro, syntax, notation, axiom, sorry.
-/
import Derived.Test.YtohiiagpfepjnaaDoorRows
import GoSem.ClaimSeven
namespace Go.Proofs.YtohiiagpfepjnaaDoor
namespace Rows

/-- THE TIED CARD OF 'bucketlinelaw03.EchelonBases'. -/
def echelonBasesCard : Claim7 := { stood := { row := echelonBasesRow, standIns := [], harness := (true, "401148fb26d6f2dc4b2ab2a126cf209fe81192a8d5a19afe8691f7c7124b9bc8"), looks := false }, kinds := [], alts := [], laidByText := true, laidKinds := [.data], laidTests := true, laidLooks := .later }
def EchelonBasesCardSaid : Prop := Claim7.holds Tryd.pinned (.plain (OpenSpec.ofChange echelonBasesSpec)) echelonBasesCard

/-- THE TIED CARD OF 'bucketlinelaw03.EchelonOrder'. -/
def echelonOrderCard : Claim7 := { stood := { row := echelonOrderRow, standIns := [], harness := (true, "401148fb26d6f2dc4b2ab2a126cf209fe81192a8d5a19afe8691f7c7124b9bc8"), looks := false }, kinds := [], alts := [], laidByText := true, laidKinds := [.data], laidTests := true, laidLooks := .later }
def EchelonOrderCardSaid : Prop := Claim7.holds Tryd.pinned (.plain (OpenSpec.ofChange echelonOrderSpec)) echelonOrderCard

/-- THE TIED CARD OF 'bucketlinelaw03.EchelonRises'. -/
def echelonRisesCard : Claim7 := { stood := { row := echelonRisesRow, standIns := [], harness := (true, "401148fb26d6f2dc4b2ab2a126cf209fe81192a8d5a19afe8691f7c7124b9bc8"), looks := false }, kinds := [], alts := [], laidByText := true, laidKinds := [.data], laidTests := true, laidLooks := .later }
def EchelonRisesCardSaid : Prop := Claim7.holds Tryd.pinned (.plain (OpenSpec.ofChange echelonRisesSpec)) echelonRisesCard

/-- THE TIED CARD OF 'bucketlinelaw03.EchelonSpan'. -/
def echelonSpanCard : Claim7 := { stood := { row := echelonSpanRow, standIns := [], harness := (true, "401148fb26d6f2dc4b2ab2a126cf209fe81192a8d5a19afe8691f7c7124b9bc8"), looks := false }, kinds := [], alts := [], laidByText := true, laidKinds := [.data], laidTests := true, laidLooks := .later }
def EchelonSpanCardSaid : Prop := Claim7.holds Tryd.pinned (.plain (OpenSpec.ofChange echelonSpanSpec)) echelonSpanCard

/-- THE SECOND FORM's CARD OF 'bucketlinelaw03.EchelonBases'. -/
def echelonBasesUptoCard : Claim7 := { stood := { row := echelonBasesUptoRow, standIns := [], harness := (true, "401148fb26d6f2dc4b2ab2a126cf209fe81192a8d5a19afe8691f7c7124b9bc8"), looks := false }, kinds := [], alts := [], laidByText := true, laidKinds := [.data], laidTests := true, laidLooks := .later }
def EchelonBasesUptoCardSaid : Prop := Claim7.holds Tryd.pinned (.plain (OpenSpec.upto echelonBasesSpec)) echelonBasesUptoCard

/-- THE SECOND FORM's CARD OF 'bucketlinelaw03.EchelonOrder'. -/
def echelonOrderUptoCard : Claim7 := { stood := { row := echelonOrderUptoRow, standIns := [], harness := (true, "401148fb26d6f2dc4b2ab2a126cf209fe81192a8d5a19afe8691f7c7124b9bc8"), looks := false }, kinds := [], alts := [], laidByText := true, laidKinds := [.data], laidTests := true, laidLooks := .later }
def EchelonOrderUptoCardSaid : Prop := Claim7.holds Tryd.pinned (.plain (OpenSpec.upto echelonOrderSpec)) echelonOrderUptoCard

/-- THE SECOND FORM's CARD OF 'bucketlinelaw03.EchelonRises'. -/
def echelonRisesUptoCard : Claim7 := { stood := { row := echelonRisesUptoRow, standIns := [], harness := (true, "401148fb26d6f2dc4b2ab2a126cf209fe81192a8d5a19afe8691f7c7124b9bc8"), looks := false }, kinds := [], alts := [], laidByText := true, laidKinds := [.data], laidTests := true, laidLooks := .later }
def EchelonRisesUptoCardSaid : Prop := Claim7.holds Tryd.pinned (.plain (OpenSpec.upto echelonRisesSpec)) echelonRisesUptoCard

/-- THE SECOND FORM's CARD OF 'bucketlinelaw03.EchelonSpan'. -/
def echelonSpanUptoCard : Claim7 := { stood := { row := echelonSpanUptoRow, standIns := [], harness := (true, "401148fb26d6f2dc4b2ab2a126cf209fe81192a8d5a19afe8691f7c7124b9bc8"), looks := false }, kinds := [], alts := [], laidByText := true, laidKinds := [.data], laidTests := true, laidLooks := .later }
def EchelonSpanUptoCardSaid : Prop := Claim7.holds Tryd.pinned (.plain (OpenSpec.upto echelonSpanSpec)) echelonSpanUptoCard
end Rows
end Go.Proofs.YtohiiagpfepjnaaDoor
