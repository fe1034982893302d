/-
  DERIVED. GIVEN WITH THE SEED: THE CARDS: each row of YtdjmjkcbonbblaaDoorRows.lean that lists a variable, with what it lists TIED to the program's text (the seventh form; the later family's looks); each row that meets fmt, with fmt's text TOLD by the authors' own Lean function (tested against real Go, not proved from fmt's source: count such statements apart). THE CARD IS WHAT COUNTS. Prove the row's statement (the work); the ties are given (YtdjmjkcbonbblaaDoorTie.lean); close each card by the builder's one call (the guide's Derived/Test/ToyasCard.lean, 'card_holds'). Laid BY PROGRAM, IN A SANDBOX (cutbox-door.mjs). By AI agents, Wed Nov 11 2026. No macro, syntax, notation, axiom, sorry.
-/
import Derived.Test.YtdjmjkcbonbblaaDoorRows
import GoSem.ClaimSeven
namespace Go.Proofs.YtdjmjkcbonbblaaDoor
namespace Rows

/-- THE TIED CARD OF 'vaultlaw1.NumTells'. -/
def numTellsCard : Claim7 := { stood := { row := numTellsRow, standIns := [], harness := (true, "cbfcc0c40ce405f4cf4fc6c39acc5087389b4e4cd8b60acf6954c6624fcea168"), looks := true }, kinds := [], alts := [], laidByText := true, laidKinds := [.handle], laidTests := true, laidLooks := .later }
def NumTellsCardSaid : Prop := Claim7.holds Tryd.pinned (.plain (OpenSpec.ofChange numTellsSpec)) numTellsCard

/-- THE TIED CARD OF 'vaultlaw4.DeviceStops'. -/
def deviceStopsCard : Claim7 := { stood := { row := deviceStopsRow, standIns := [], harness := (true, "cbfcc0c40ce405f4cf4fc6c39acc5087389b4e4cd8b60acf6954c6624fcea168"), looks := true }, kinds := [], alts := [], laidByText := true, laidKinds := [.handle], laidTests := true, laidLooks := .later }
def DeviceStopsCardSaid : Prop := Claim7.holds Tryd.pinned (.plain (OpenSpec.ofChange deviceStopsSpec)) deviceStopsCard

/-- THE SECOND FORM's CARD OF 'vaultlaw1.NumTells'. -/
def numTellsUptoCard : Claim7 := { stood := { row := numTellsUptoRow, standIns := [], harness := (true, "cbfcc0c40ce405f4cf4fc6c39acc5087389b4e4cd8b60acf6954c6624fcea168"), looks := true }, kinds := [], alts := [], laidByText := true, laidKinds := [.handle], laidTests := true, laidLooks := .later }
def NumTellsUptoCardSaid : Prop := Claim7.holds Tryd.pinned (.plain (OpenSpec.upto numTellsSpec)) numTellsUptoCard

/-- THE SECOND FORM's CARD OF 'vaultlaw4.DeviceStops'. -/
def deviceStopsUptoCard : Claim7 := { stood := { row := deviceStopsUptoRow, standIns := [], harness := (true, "cbfcc0c40ce405f4cf4fc6c39acc5087389b4e4cd8b60acf6954c6624fcea168"), looks := true }, kinds := [], alts := [], laidByText := true, laidKinds := [.handle], laidTests := true, laidLooks := .later }
def DeviceStopsUptoCardSaid : Prop := Claim7.holds Tryd.pinned (.plain (OpenSpec.upto deviceStopsSpec)) deviceStopsUptoCard
end Rows
end Go.Proofs.YtdjmjkcbonbblaaDoor
