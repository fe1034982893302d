/-
  DERIVED. GIVEN WITH THE SEED: THE CARDS: each row of YtecodmiendedfaaGreatDoorRows.lean that lists a variable, with what it lists TIED to the program's text (the seventh form; the later family's looks); each row that meets fmt, with fmt's text TOLD by the authors' own Lean function (tested against real Go, not proved from fmt's source: count such statements apart). THE CARD IS WHAT COUNTS. Prove the row's statement (the work); the ties are given (YtecodmiendedfaaGreatDoorTie.lean); close each card by the builder's one call (the guide's Derived/Test/ToyasCard.lean, 'card_holds'). Laid BY PROGRAM, IN A SANDBOX (cutbox-door.mjs). By AI agents, Wed Nov 11 2026. No macro, syntax, notation, axiom, sorry.
-/
import Derived.Test.YtecodmiendedfaaGreatDoorRows
import GoSem.ClaimSeven
namespace Go.Proofs.YtecodmiendedfaaGreatDoor
namespace Rows

/-- THE TIED CARD OF 'vaultlaw3.PlayDoes'. -/
def playDoesCard : Claim7 := { stood := { row := playDoesRow, standIns := [], harness := (true, "5065272eb79fd9ddd74359cef0ed3cd048467b487e194a065ba23f2afba8c467"), looks := true }, kinds := [], alts := [], laidByText := true, laidKinds := [.handle], laidTests := true, laidLooks := .later }
def PlayDoesCardSaid : Prop := Claim7.holds Tryz.pinned (.plain (OpenSpec.ofChange playDoesSpec)) playDoesCard

/-- THE SECOND FORM's CARD OF 'vaultlaw3.PlayDoes'. -/
def playDoesUptoCard : Claim7 := { stood := { row := playDoesUptoRow, standIns := [], harness := (true, "5065272eb79fd9ddd74359cef0ed3cd048467b487e194a065ba23f2afba8c467"), looks := true }, kinds := [], alts := [], laidByText := true, laidKinds := [.handle], laidTests := true, laidLooks := .later }
def PlayDoesUptoCardSaid : Prop := Claim7.holds Tryz.pinned (.plain (OpenSpec.upto playDoesSpec)) playDoesUptoCard
end Rows
end Go.Proofs.YtecodmiendedfaaGreatDoor
