/-
  DERIVED. GIVEN WITH THE SEED: THE CARDS: each row of YtmmgadnicodakaaGreatDoorRows.lean that lists a variable, with what it lists TIED to the program's text (the seventh form; the later family's looks); each row that meets fmt, with fmt's text TOLD by the authors' own Lean function (tested against real Go, not proved from fmt's source: count such statements apart). THE CARD IS WHAT COUNTS. Prove the row's statement (the work); the ties are given (YtmmgadnicodakaaGreatDoorTie.lean); close each card by the builder's one call (the guide's Derived/Test/ToyasCard.lean, 'card_holds'). Laid BY PROGRAM, IN A SANDBOX (cutbox-door.mjs). By AI agents, Wed Nov 11 2026. No macro, syntax, notation, axiom, sorry.
-/
import Derived.Test.YtmmgadnicodakaaGreatDoorRows
import GoSem.ClaimSeven
namespace Go.Proofs.YtmmgadnicodakaaGreatDoor
namespace Rows

/-- THE TIED CARD OF 'vaultlaw3.PlayTells'. -/
def playTellsCard : Claim7 := { stood := { row := playTellsRow, standIns := [], harness := (true, "28dbf57525488b27195e04cf49ed18d6eb282d5287c15f61ae9f955e5c5e268e"), looks := true }, kinds := [], alts := [], laidByText := true, laidKinds := [.handle], laidTests := true, laidLooks := .later }
def PlayTellsCardSaid : Prop := Claim7.holds Tryz.pinned (.plain (OpenSpec.ofChange playTellsSpec)) playTellsCard

/-- THE TIED CARD OF 'vaultlaw3.StoreKeeps'. -/
def storeKeepsCard : Claim7 := { stood := { row := storeKeepsRow, standIns := [], harness := (true, "28dbf57525488b27195e04cf49ed18d6eb282d5287c15f61ae9f955e5c5e268e"), looks := true }, kinds := [], alts := [], laidByText := true, laidKinds := [.handle], laidTests := true, laidLooks := .later }
def StoreKeepsCardSaid : Prop := Claim7.holds Tryz.pinned (.plain (OpenSpec.ofChange storeKeepsSpec)) storeKeepsCard

/-- THE TIED CARD OF 'vaultlaw3.PlayDoes'. -/
def playDoesCard : Claim7 := { stood := { row := playDoesRow, standIns := [], harness := (true, "28dbf57525488b27195e04cf49ed18d6eb282d5287c15f61ae9f955e5c5e268e"), looks := true }, kinds := [], alts := [], laidByText := true, laidKinds := [.handle], laidTests := true, laidLooks := .later }
def PlayDoesCardSaid : Prop := Claim7.holds Tryz.pinned (.plain (OpenSpec.ofChange playDoesSpec)) playDoesCard

/-- THE SECOND FORM's CARD OF 'vaultlaw3.PlayTells'. -/
def playTellsUptoCard : Claim7 := { stood := { row := playTellsUptoRow, standIns := [], harness := (true, "28dbf57525488b27195e04cf49ed18d6eb282d5287c15f61ae9f955e5c5e268e"), looks := true }, kinds := [], alts := [], laidByText := true, laidKinds := [.handle], laidTests := true, laidLooks := .later }
def PlayTellsUptoCardSaid : Prop := Claim7.holds Tryz.pinned (.plain (OpenSpec.upto playTellsSpec)) playTellsUptoCard

/-- THE SECOND FORM's CARD OF 'vaultlaw3.StoreKeeps'. -/
def storeKeepsUptoCard : Claim7 := { stood := { row := storeKeepsUptoRow, standIns := [], harness := (true, "28dbf57525488b27195e04cf49ed18d6eb282d5287c15f61ae9f955e5c5e268e"), looks := true }, kinds := [], alts := [], laidByText := true, laidKinds := [.handle], laidTests := true, laidLooks := .later }
def StoreKeepsUptoCardSaid : Prop := Claim7.holds Tryz.pinned (.plain (OpenSpec.upto storeKeepsSpec)) storeKeepsUptoCard

/-- THE SECOND FORM's CARD OF 'vaultlaw3.PlayDoes'. -/
def playDoesUptoCard : Claim7 := { stood := { row := playDoesUptoRow, standIns := [], harness := (true, "28dbf57525488b27195e04cf49ed18d6eb282d5287c15f61ae9f955e5c5e268e"), looks := true }, kinds := [], alts := [], laidByText := true, laidKinds := [.handle], laidTests := true, laidLooks := .later }
def PlayDoesUptoCardSaid : Prop := Claim7.holds Tryz.pinned (.plain (OpenSpec.upto playDoesSpec)) playDoesUptoCard
end Rows
end Go.Proofs.YtmmgadnicodakaaGreatDoor
