/-
  DERIVED. GIVEN WITH THE SEED: THE CARDS: each row of YtbfkhioljpgjjaaDoorRows.lean that lists a variable, with what it lists TIED to the program's text (the seventh form; the later family's looks); each row that meets fmt, with fmt's text TOLD by the authors' own Lean function (tested against real Go, not proved from fmt's source: count such statements apart). THE CARD IS WHAT COUNTS. Prove the row's statement (the work); the ties are given (YtbfkhioljpgjjaaDoorTie.lean); close each card by the builder's one call (the guide's Derived/Test/ToyasCard.lean, 'card_holds'). Laid BY PROGRAM, IN A SANDBOX (cutbox-door.mjs). By AI agents, Wed Nov 11 2026. No macro, syntax, notation, axiom, sorry.
-/
import Derived.Test.YtbfkhioljpgjjaaDoorRows
import GoSem.ClaimSeven
namespace Go.Proofs.YtbfkhioljpgjjaaDoor
namespace Rows

/-- THE TIED CARD OF 'bucketlinelaw15.StorePlays'. -/
def storePlaysCard : Claim7 := { stood := { row := storePlaysRow, standIns := [], harness := (true, "38cbc23e3a0d1233575c9b7d4b859cb89855dbb9c6447e36e847227e64a52a6e"), looks := false }, kinds := [], alts := [], laidByText := true, laidKinds := [.data], laidTests := true, laidLooks := .later }
def StorePlaysCardSaid : Prop := Claim7.holds Tryd.pinned (.plain (OpenSpec.ofChange storePlaysSpec)) storePlaysCard

/-- THE TIED CARD OF 'bucketlinelaw15.StoreBound'. -/
def storeBoundCard : Claim7 := { stood := { row := storeBoundRow, standIns := [], harness := (true, "38cbc23e3a0d1233575c9b7d4b859cb89855dbb9c6447e36e847227e64a52a6e"), looks := false }, kinds := [], alts := [], laidByText := true, laidKinds := [.data], laidTests := true, laidLooks := .later }
def StoreBoundCardSaid : Prop := Claim7.holds Tryd.pinned (.plain (OpenSpec.ofChange storeBoundSpec)) storeBoundCard

/-- THE TIED CARD OF 'bucketlinelaw15.StoreRank'. -/
def storeRankCard : Claim7 := { stood := { row := storeRankRow, standIns := [], harness := (true, "38cbc23e3a0d1233575c9b7d4b859cb89855dbb9c6447e36e847227e64a52a6e"), looks := false }, kinds := [], alts := [], laidByText := true, laidKinds := [.data], laidTests := true, laidLooks := .later }
def StoreRankCardSaid : Prop := Claim7.holds Tryd.pinned (.plain (OpenSpec.ofChange storeRankSpec)) storeRankCard

/-- THE TIED CARD OF 'bucketlinelaw15.StoreNone'. -/
def storeNoneCard : Claim7 := { stood := { row := storeNoneRow, standIns := [], harness := (true, "38cbc23e3a0d1233575c9b7d4b859cb89855dbb9c6447e36e847227e64a52a6e"), looks := false }, kinds := [], alts := [], laidByText := true, laidKinds := [.data], laidTests := true, laidLooks := .later }
def StoreNoneCardSaid : Prop := Claim7.holds Tryd.pinned (.plain (OpenSpec.ofChange storeNoneSpec)) storeNoneCard

/-- THE TIED CARD OF 'bucketlinelaw15.StoreMore'. -/
def storeMoreCard : Claim7 := { stood := { row := storeMoreRow, standIns := [], harness := (true, "38cbc23e3a0d1233575c9b7d4b859cb89855dbb9c6447e36e847227e64a52a6e"), looks := false }, kinds := [], alts := [], laidByText := true, laidKinds := [.data], laidTests := true, laidLooks := .later }
def StoreMoreCardSaid : Prop := Claim7.holds Tryd.pinned (.plain (OpenSpec.ofChange storeMoreSpec)) storeMoreCard

/-- THE SECOND FORM's CARD OF 'bucketlinelaw15.StorePlays'. -/
def storePlaysUptoCard : Claim7 := { stood := { row := storePlaysUptoRow, standIns := [], harness := (true, "38cbc23e3a0d1233575c9b7d4b859cb89855dbb9c6447e36e847227e64a52a6e"), looks := false }, kinds := [], alts := [], laidByText := true, laidKinds := [.data], laidTests := true, laidLooks := .later }
def StorePlaysUptoCardSaid : Prop := Claim7.holds Tryd.pinned (.plain (OpenSpec.upto storePlaysSpec)) storePlaysUptoCard

/-- THE SECOND FORM's CARD OF 'bucketlinelaw15.StoreBound'. -/
def storeBoundUptoCard : Claim7 := { stood := { row := storeBoundUptoRow, standIns := [], harness := (true, "38cbc23e3a0d1233575c9b7d4b859cb89855dbb9c6447e36e847227e64a52a6e"), looks := false }, kinds := [], alts := [], laidByText := true, laidKinds := [.data], laidTests := true, laidLooks := .later }
def StoreBoundUptoCardSaid : Prop := Claim7.holds Tryd.pinned (.plain (OpenSpec.upto storeBoundSpec)) storeBoundUptoCard

/-- THE SECOND FORM's CARD OF 'bucketlinelaw15.StoreRank'. -/
def storeRankUptoCard : Claim7 := { stood := { row := storeRankUptoRow, standIns := [], harness := (true, "38cbc23e3a0d1233575c9b7d4b859cb89855dbb9c6447e36e847227e64a52a6e"), looks := false }, kinds := [], alts := [], laidByText := true, laidKinds := [.data], laidTests := true, laidLooks := .later }
def StoreRankUptoCardSaid : Prop := Claim7.holds Tryd.pinned (.plain (OpenSpec.upto storeRankSpec)) storeRankUptoCard

/-- THE SECOND FORM's CARD OF 'bucketlinelaw15.StoreNone'. -/
def storeNoneUptoCard : Claim7 := { stood := { row := storeNoneUptoRow, standIns := [], harness := (true, "38cbc23e3a0d1233575c9b7d4b859cb89855dbb9c6447e36e847227e64a52a6e"), looks := false }, kinds := [], alts := [], laidByText := true, laidKinds := [.data], laidTests := true, laidLooks := .later }
def StoreNoneUptoCardSaid : Prop := Claim7.holds Tryd.pinned (.plain (OpenSpec.upto storeNoneSpec)) storeNoneUptoCard

/-- THE SECOND FORM's CARD OF 'bucketlinelaw15.StoreMore'. -/
def storeMoreUptoCard : Claim7 := { stood := { row := storeMoreUptoRow, standIns := [], harness := (true, "38cbc23e3a0d1233575c9b7d4b859cb89855dbb9c6447e36e847227e64a52a6e"), looks := false }, kinds := [], alts := [], laidByText := true, laidKinds := [.data], laidTests := true, laidLooks := .later }
def StoreMoreUptoCardSaid : Prop := Claim7.holds Tryd.pinned (.plain (OpenSpec.upto storeMoreSpec)) storeMoreUptoCard
end Rows
end Go.Proofs.YtbfkhioljpgjjaaDoor
