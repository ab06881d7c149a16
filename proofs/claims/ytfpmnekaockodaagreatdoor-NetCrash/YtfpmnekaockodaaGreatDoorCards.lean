/-
  DERIVED. GIVEN WITH THE SEED: THE CARDS: each row of YtfpmnekaockodaaGreatDoorRows.lean that lists a variable, with what it lists TIED to the program's text (the seventh form; the later family's looks); each row that meets fmt, with fmt's text TOLD by the authors' own Lean function (tested against real Go, not proved from fmt's source: count such statements apart). THE CARD IS WHAT COUNTS. Prove the row's statement (the work); the ties are given (YtfpmnekaockodaaGreatDoorTie.lean); close each card by the builder's one call (the guide's Derived/Test/ToyasCard.lean, 'card_holds'). Laid BY PROGRAM, IN A SANDBOX (cutbox-door.mjs). By AI agents, Wed Nov 11 2026. No macro, syntax, notation, axiom, sorry.
-/
import Derived.Test.YtfpmnekaockodaaGreatDoorRows
import GoSem.ClaimSeven
namespace Go.Proofs.YtfpmnekaockodaaGreatDoor
namespace Rows

/-- THE TIED CARD OF 'bucketlinelaw26.NetChecks'. -/
def netChecksCard : Claim7 := { stood := { row := netChecksRow, standIns := [], harness := (true, "93a995ad46e1fac0fb20dc79aab7571f6a2699edccecb97595ab1eb4cec35692"), looks := true }, kinds := [], alts := [], laidByText := true, laidKinds := [.data, .data], laidTests := true, laidLooks := .later }
def NetChecksCardSaid : Prop := Claim7.holds Tryz.pinned (.plain (OpenSpec.ofChange netChecksSpec)) netChecksCard

/-- THE TIED CARD OF 'bucketlinelaw26.NetBounds'. -/
def netBoundsCard : Claim7 := { stood := { row := netBoundsRow, standIns := [], harness := (true, "93a995ad46e1fac0fb20dc79aab7571f6a2699edccecb97595ab1eb4cec35692"), looks := true }, kinds := [], alts := [], laidByText := true, laidKinds := [.data, .data], laidTests := true, laidLooks := .later }
def NetBoundsCardSaid : Prop := Claim7.holds Tryz.pinned (.plain (OpenSpec.ofChange netBoundsSpec)) netBoundsCard

/-- THE TIED CARD OF 'bucketlinelaw26.NetCrash'. -/
def netCrashCard : Claim7 := { stood := { row := netCrashRow, standIns := [], harness := (true, "93a995ad46e1fac0fb20dc79aab7571f6a2699edccecb97595ab1eb4cec35692"), looks := true }, kinds := [], alts := [], laidByText := true, laidKinds := [.data, .data], laidTests := true, laidLooks := .later }
def NetCrashCardSaid : Prop := Claim7.holds Tryz.pinned (.plain (OpenSpec.ofChange netCrashSpec)) netCrashCard

/-- THE TIED CARD OF 'bucketlinelaw26.NetIdle'. -/
def netIdleCard : Claim7 := { stood := { row := netIdleRow, standIns := [], harness := (true, "93a995ad46e1fac0fb20dc79aab7571f6a2699edccecb97595ab1eb4cec35692"), looks := true }, kinds := [], alts := [], laidByText := true, laidKinds := [.data, .data], laidTests := true, laidLooks := .later }
def NetIdleCardSaid : Prop := Claim7.holds Tryz.pinned (.plain (OpenSpec.ofChange netIdleSpec)) netIdleCard

/-- THE TIED CARD OF 'bucketlinelaw26.NetNone'. -/
def netNoneCard : Claim7 := { stood := { row := netNoneRow, standIns := [], harness := (true, "93a995ad46e1fac0fb20dc79aab7571f6a2699edccecb97595ab1eb4cec35692"), looks := true }, kinds := [], alts := [], laidByText := true, laidKinds := [.data, .data], laidTests := true, laidLooks := .later }
def NetNoneCardSaid : Prop := Claim7.holds Tryz.pinned (.plain (OpenSpec.ofChange netNoneSpec)) netNoneCard

/-- THE SECOND FORM's CARD OF 'bucketlinelaw26.NetChecks'. -/
def netChecksUptoCard : Claim7 := { stood := { row := netChecksUptoRow, standIns := [], harness := (true, "93a995ad46e1fac0fb20dc79aab7571f6a2699edccecb97595ab1eb4cec35692"), looks := true }, kinds := [], alts := [], laidByText := true, laidKinds := [.data, .data], laidTests := true, laidLooks := .later }
def NetChecksUptoCardSaid : Prop := Claim7.holds Tryz.pinned (.plain (OpenSpec.upto netChecksSpec)) netChecksUptoCard

/-- THE SECOND FORM's CARD OF 'bucketlinelaw26.NetBounds'. -/
def netBoundsUptoCard : Claim7 := { stood := { row := netBoundsUptoRow, standIns := [], harness := (true, "93a995ad46e1fac0fb20dc79aab7571f6a2699edccecb97595ab1eb4cec35692"), looks := true }, kinds := [], alts := [], laidByText := true, laidKinds := [.data, .data], laidTests := true, laidLooks := .later }
def NetBoundsUptoCardSaid : Prop := Claim7.holds Tryz.pinned (.plain (OpenSpec.upto netBoundsSpec)) netBoundsUptoCard

/-- THE SECOND FORM's CARD OF 'bucketlinelaw26.NetCrash'. -/
def netCrashUptoCard : Claim7 := { stood := { row := netCrashUptoRow, standIns := [], harness := (true, "93a995ad46e1fac0fb20dc79aab7571f6a2699edccecb97595ab1eb4cec35692"), looks := true }, kinds := [], alts := [], laidByText := true, laidKinds := [.data, .data], laidTests := true, laidLooks := .later }
def NetCrashUptoCardSaid : Prop := Claim7.holds Tryz.pinned (.plain (OpenSpec.upto netCrashSpec)) netCrashUptoCard

/-- THE SECOND FORM's CARD OF 'bucketlinelaw26.NetIdle'. -/
def netIdleUptoCard : Claim7 := { stood := { row := netIdleUptoRow, standIns := [], harness := (true, "93a995ad46e1fac0fb20dc79aab7571f6a2699edccecb97595ab1eb4cec35692"), looks := true }, kinds := [], alts := [], laidByText := true, laidKinds := [.data, .data], laidTests := true, laidLooks := .later }
def NetIdleUptoCardSaid : Prop := Claim7.holds Tryz.pinned (.plain (OpenSpec.upto netIdleSpec)) netIdleUptoCard

/-- THE SECOND FORM's CARD OF 'bucketlinelaw26.NetNone'. -/
def netNoneUptoCard : Claim7 := { stood := { row := netNoneUptoRow, standIns := [], harness := (true, "93a995ad46e1fac0fb20dc79aab7571f6a2699edccecb97595ab1eb4cec35692"), looks := true }, kinds := [], alts := [], laidByText := true, laidKinds := [.data, .data], laidTests := true, laidLooks := .later }
def NetNoneUptoCardSaid : Prop := Claim7.holds Tryz.pinned (.plain (OpenSpec.upto netNoneSpec)) netNoneUptoCard
end Rows
end Go.Proofs.YtfpmnekaockodaaGreatDoor
