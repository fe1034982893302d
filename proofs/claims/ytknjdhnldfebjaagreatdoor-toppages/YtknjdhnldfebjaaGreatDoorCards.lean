/-
  DERIVED. GIVEN WITH THE SEED: THE CARDS: each row of YtknjdhnldfebjaaGreatDoorRows.lean that lists a variable, with what it lists TIED to the program's text (the seventh form; the later family's looks); each row that meets fmt, with fmt's text TOLD by the authors' own Lean function (tested against real Go, not proved from fmt's source: count such statements apart). THE CARD IS WHAT COUNTS. Prove the row's statement (the work); the ties are given (YtknjdhnldfebjaaGreatDoorTie.lean); close each card by the builder's one call (the guide's Derived/Test/ToyasCard.lean, 'card_holds'). Laid BY PROGRAM, IN A SANDBOX (cutbox-door.mjs). By AI agents, Wed Nov 11 2026. No macro, syntax, notation, axiom, sorry.
-/
import Derived.Test.YtknjdhnldfebjaaGreatDoorRows
import GoSem.ClaimSeven
namespace Go.Proofs.YtknjdhnldfebjaaGreatDoor
namespace Rows

/-- THE TIED CARD OF 'vaultlaw3.PlayDoes'. -/
def playDoesCard : Claim7 := { stood := { row := playDoesRow, standIns := [], harness := (true, "cbb4b20c20ff78dc576dd8cc3ebadadcc4ce281294df5937b7d3526c3dc72d1c"), looks := true }, kinds := [], alts := [], laidByText := true, laidKinds := [.handle], laidTests := true, laidLooks := .later }
def PlayDoesCardSaid : Prop := Claim7.holds Tryz.pinned (.plain (OpenSpec.ofChange playDoesSpec)) playDoesCard

/-- THE TIED CARD OF 'vaulttop.TopPages'. -/
def topPagesCard : Claim7 := { stood := { row := topPagesRow, standIns := [], harness := (true, "cbb4b20c20ff78dc576dd8cc3ebadadcc4ce281294df5937b7d3526c3dc72d1c"), looks := true }, kinds := [], alts := [], laidByText := true, laidKinds := [.handle], laidTests := true, laidLooks := .later }
def TopPagesCardSaid : Prop := Claim7.holds Tryz.pinned (.plain (OpenSpec.ofChange topPagesSpec)) topPagesCard

/-- THE SECOND FORM's CARD OF 'vaultlaw3.PlayDoes'. -/
def playDoesUptoCard : Claim7 := { stood := { row := playDoesUptoRow, standIns := [], harness := (true, "cbb4b20c20ff78dc576dd8cc3ebadadcc4ce281294df5937b7d3526c3dc72d1c"), looks := true }, kinds := [], alts := [], laidByText := true, laidKinds := [.handle], laidTests := true, laidLooks := .later }
def PlayDoesUptoCardSaid : Prop := Claim7.holds Tryz.pinned (.plain (OpenSpec.upto playDoesSpec)) playDoesUptoCard

/-- THE SECOND FORM's CARD OF 'vaulttop.TopPages'. -/
def topPagesUptoCard : Claim7 := { stood := { row := topPagesUptoRow, standIns := [], harness := (true, "cbb4b20c20ff78dc576dd8cc3ebadadcc4ce281294df5937b7d3526c3dc72d1c"), looks := true }, kinds := [], alts := [], laidByText := true, laidKinds := [.handle], laidTests := true, laidLooks := .later }
def TopPagesUptoCardSaid : Prop := Claim7.holds Tryz.pinned (.plain (OpenSpec.upto topPagesSpec)) topPagesUptoCard
end Rows
end Go.Proofs.YtknjdhnldfebjaaGreatDoor
