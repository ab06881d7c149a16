/-
  DERIVED. GIVEN WITH THE SEED: THE CARDS: each row of YtobelbmcbgfdhaaDoorRows.lean that lists a variable, with what it lists TIED to the program's text (the seventh form; the later family's looks); each row that meets fmt, with fmt's text TOLD by the authors' own Lean function (tested against real Go, not proved from fmt's source: count such statements apart). THE CARD IS WHAT COUNTS. Prove the row's statement (the work); the ties are given (YtobelbmcbgfdhaaDoorTie.lean); close each card by the builder's one call (the guide's Derived/Test/ToyasCard.lean, 'card_holds'). Laid BY PROGRAM, IN A SANDBOX (cutbox-door.mjs). By AI agents, Wed Nov 11 2026. No macro, syntax, notation, axiom, sorry.
-/
import Derived.Test.YtobelbmcbgfdhaaDoorRows
import GoSem.ClaimSeven
namespace Go.Proofs.YtobelbmcbgfdhaaDoor
namespace Rows

/-- THE TIED CARD OF 'bucketlinelaw04.SpanKeeps'. -/
def spanKeepsCard : Claim7 := { stood := { row := spanKeepsRow, standIns := [], harness := (true, "4021cff9899e50c6bbf67037fe64584ed6c744dc6af64eb3e4848b8df0c918d5"), looks := false }, kinds := [], alts := [], laidByText := true, laidKinds := [.data], laidTests := true, laidLooks := .later }
def SpanKeepsCardSaid : Prop := Claim7.holds Tryd.pinned (.plain (OpenSpec.ofChange spanKeepsSpec)) spanKeepsCard

/-- THE TIED CARD OF 'bucketlinelaw04.SpanExpresses'. -/
def spanExpressesCard : Claim7 := { stood := { row := spanExpressesRow, standIns := [], harness := (true, "4021cff9899e50c6bbf67037fe64584ed6c744dc6af64eb3e4848b8df0c918d5"), looks := false }, kinds := [], alts := [], laidByText := true, laidKinds := [.data], laidTests := true, laidLooks := .later }
def SpanExpressesCardSaid : Prop := Claim7.holds Tryd.pinned (.plain (OpenSpec.ofChange spanExpressesSpec)) spanExpressesCard

/-- THE TIED CARD OF 'bucketlinelaw04.SpanSums'. -/
def spanSumsCard : Claim7 := { stood := { row := spanSumsRow, standIns := [], harness := (true, "4021cff9899e50c6bbf67037fe64584ed6c744dc6af64eb3e4848b8df0c918d5"), looks := false }, kinds := [], alts := [], laidByText := true, laidKinds := [.data], laidTests := true, laidLooks := .later }
def SpanSumsCardSaid : Prop := Claim7.holds Tryd.pinned (.plain (OpenSpec.ofChange spanSumsSpec)) spanSumsCard

/-- THE TIED CARD OF 'bucketlinelaw04.SpanRank'. -/
def spanRankCard : Claim7 := { stood := { row := spanRankRow, standIns := [], harness := (true, "4021cff9899e50c6bbf67037fe64584ed6c744dc6af64eb3e4848b8df0c918d5"), looks := false }, kinds := [], alts := [], laidByText := true, laidKinds := [.data], laidTests := true, laidLooks := .later }
def SpanRankCardSaid : Prop := Claim7.holds Tryd.pinned (.plain (OpenSpec.ofChange spanRankSpec)) spanRankCard

/-- THE TIED CARD OF 'bucketlinelaw04.SpanMore'. -/
def spanMoreCard : Claim7 := { stood := { row := spanMoreRow, standIns := [], harness := (true, "4021cff9899e50c6bbf67037fe64584ed6c744dc6af64eb3e4848b8df0c918d5"), looks := false }, kinds := [], alts := [], laidByText := true, laidKinds := [.data], laidTests := true, laidLooks := .later }
def SpanMoreCardSaid : Prop := Claim7.holds Tryd.pinned (.plain (OpenSpec.ofChange spanMoreSpec)) spanMoreCard

/-- THE SECOND FORM's CARD OF 'bucketlinelaw04.SpanKeeps'. -/
def spanKeepsUptoCard : Claim7 := { stood := { row := spanKeepsUptoRow, standIns := [], harness := (true, "4021cff9899e50c6bbf67037fe64584ed6c744dc6af64eb3e4848b8df0c918d5"), looks := false }, kinds := [], alts := [], laidByText := true, laidKinds := [.data], laidTests := true, laidLooks := .later }
def SpanKeepsUptoCardSaid : Prop := Claim7.holds Tryd.pinned (.plain (OpenSpec.upto spanKeepsSpec)) spanKeepsUptoCard

/-- THE SECOND FORM's CARD OF 'bucketlinelaw04.SpanExpresses'. -/
def spanExpressesUptoCard : Claim7 := { stood := { row := spanExpressesUptoRow, standIns := [], harness := (true, "4021cff9899e50c6bbf67037fe64584ed6c744dc6af64eb3e4848b8df0c918d5"), looks := false }, kinds := [], alts := [], laidByText := true, laidKinds := [.data], laidTests := true, laidLooks := .later }
def SpanExpressesUptoCardSaid : Prop := Claim7.holds Tryd.pinned (.plain (OpenSpec.upto spanExpressesSpec)) spanExpressesUptoCard

/-- THE SECOND FORM's CARD OF 'bucketlinelaw04.SpanSums'. -/
def spanSumsUptoCard : Claim7 := { stood := { row := spanSumsUptoRow, standIns := [], harness := (true, "4021cff9899e50c6bbf67037fe64584ed6c744dc6af64eb3e4848b8df0c918d5"), looks := false }, kinds := [], alts := [], laidByText := true, laidKinds := [.data], laidTests := true, laidLooks := .later }
def SpanSumsUptoCardSaid : Prop := Claim7.holds Tryd.pinned (.plain (OpenSpec.upto spanSumsSpec)) spanSumsUptoCard

/-- THE SECOND FORM's CARD OF 'bucketlinelaw04.SpanRank'. -/
def spanRankUptoCard : Claim7 := { stood := { row := spanRankUptoRow, standIns := [], harness := (true, "4021cff9899e50c6bbf67037fe64584ed6c744dc6af64eb3e4848b8df0c918d5"), looks := false }, kinds := [], alts := [], laidByText := true, laidKinds := [.data], laidTests := true, laidLooks := .later }
def SpanRankUptoCardSaid : Prop := Claim7.holds Tryd.pinned (.plain (OpenSpec.upto spanRankSpec)) spanRankUptoCard

/-- THE SECOND FORM's CARD OF 'bucketlinelaw04.SpanMore'. -/
def spanMoreUptoCard : Claim7 := { stood := { row := spanMoreUptoRow, standIns := [], harness := (true, "4021cff9899e50c6bbf67037fe64584ed6c744dc6af64eb3e4848b8df0c918d5"), looks := false }, kinds := [], alts := [], laidByText := true, laidKinds := [.data], laidTests := true, laidLooks := .later }
def SpanMoreUptoCardSaid : Prop := Claim7.holds Tryd.pinned (.plain (OpenSpec.upto spanMoreSpec)) spanMoreUptoCard
end Rows
end Go.Proofs.YtobelbmcbgfdhaaDoor
