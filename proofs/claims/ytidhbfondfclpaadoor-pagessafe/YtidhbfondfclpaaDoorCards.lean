/-
  DERIVED. GIVEN WITH THE SEED: THE CARDS: each row of YtidhbfondfclpaaDoorRows.lean that lists a variable, with what it lists TIED to the program's text (the seventh form; the later family's looks); each row that meets fmt, with fmt's text TOLD by the authors' own Lean function (tested against real Go, not proved from fmt's source: count such statements apart). THE CARD IS WHAT COUNTS. Prove the row's statement (the work); the ties are given (YtidhbfondfclpaaDoorTie.lean); close each card by the builder's one call (the guide's Derived/Test/ToyasCard.lean, 'card_holds'). Laid BY PROGRAM, IN A SANDBOX (cutbox-door.mjs). By AI agents, Wed Nov 11 2026. No macro, syntax, notation, axiom, sorry.
-/
import Derived.Test.YtidhbfondfclpaaDoorRows
import GoSem.ClaimSeven
namespace Go.Proofs.YtidhbfondfclpaaDoor
namespace Rows

/-- THE TIED CARD OF 'vaultlaw4.PagesRow'. -/
def pagesRowCard : Claim7 := { stood := { row := pagesRowRow, standIns := [], harness := (true, "5b74ffe8e8b57b2b855a8b7641cffe64a1ea86563149a402fd8beccb62694fb6"), looks := true }, kinds := [], alts := [], laidByText := true, laidKinds := [.handle], laidTests := true, laidLooks := .later }
def PagesRowCardSaid : Prop := Claim7.holds Tryd.pinned (.plain (OpenSpec.ofChange pagesRowSpec)) pagesRowCard

/-- THE TIED CARD OF 'vaultlaw1.PagesSafe'. -/
def pagesSafeCard : Claim7 := { stood := { row := pagesSafeRow, standIns := [], harness := (true, "5b74ffe8e8b57b2b855a8b7641cffe64a1ea86563149a402fd8beccb62694fb6"), looks := true }, kinds := [], alts := [], laidByText := true, laidKinds := [.handle], laidTests := true, laidLooks := .later }
def PagesSafeCardSaid : Prop := Claim7.holds Tryd.pinned (.plain (OpenSpec.ofChange pagesSafeSpec)) pagesSafeCard

/-- THE TIED CARD OF 'vaultlaw1.PagesPlays'. -/
def pagesPlaysCard : Claim7 := { stood := { row := pagesPlaysRow, standIns := [], harness := (true, "5b74ffe8e8b57b2b855a8b7641cffe64a1ea86563149a402fd8beccb62694fb6"), looks := true }, kinds := [], alts := [], laidByText := true, laidKinds := [.handle], laidTests := true, laidLooks := .later }
def PagesPlaysCardSaid : Prop := Claim7.holds Tryd.pinned (.plain (OpenSpec.ofChange pagesPlaysSpec)) pagesPlaysCard

/-- THE SECOND FORM's CARD OF 'vaultlaw4.PagesRow'. -/
def pagesRowUptoCard : Claim7 := { stood := { row := pagesRowUptoRow, standIns := [], harness := (true, "5b74ffe8e8b57b2b855a8b7641cffe64a1ea86563149a402fd8beccb62694fb6"), looks := true }, kinds := [], alts := [], laidByText := true, laidKinds := [.handle], laidTests := true, laidLooks := .later }
def PagesRowUptoCardSaid : Prop := Claim7.holds Tryd.pinned (.plain (OpenSpec.upto pagesRowSpec)) pagesRowUptoCard

/-- THE SECOND FORM's CARD OF 'vaultlaw1.PagesSafe'. -/
def pagesSafeUptoCard : Claim7 := { stood := { row := pagesSafeUptoRow, standIns := [], harness := (true, "5b74ffe8e8b57b2b855a8b7641cffe64a1ea86563149a402fd8beccb62694fb6"), looks := true }, kinds := [], alts := [], laidByText := true, laidKinds := [.handle], laidTests := true, laidLooks := .later }
def PagesSafeUptoCardSaid : Prop := Claim7.holds Tryd.pinned (.plain (OpenSpec.upto pagesSafeSpec)) pagesSafeUptoCard

/-- THE SECOND FORM's CARD OF 'vaultlaw1.PagesPlays'. -/
def pagesPlaysUptoCard : Claim7 := { stood := { row := pagesPlaysUptoRow, standIns := [], harness := (true, "5b74ffe8e8b57b2b855a8b7641cffe64a1ea86563149a402fd8beccb62694fb6"), looks := true }, kinds := [], alts := [], laidByText := true, laidKinds := [.handle], laidTests := true, laidLooks := .later }
def PagesPlaysUptoCardSaid : Prop := Claim7.holds Tryd.pinned (.plain (OpenSpec.upto pagesPlaysSpec)) pagesPlaysUptoCard
end Rows
end Go.Proofs.YtidhbfondfclpaaDoor
