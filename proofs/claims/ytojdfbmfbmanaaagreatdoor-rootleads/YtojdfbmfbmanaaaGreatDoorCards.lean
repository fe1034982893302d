/-
  DERIVED. GIVEN WITH THE SEED: THE CARDS: each row of YtojdfbmfbmanaaaGreatDoorRows.lean that lists a variable, with what it lists TIED to the program's text (the seventh form; the later family's looks); each row that meets fmt, with fmt's text TOLD by the authors' own Lean function (tested against real Go, not proved from fmt's source: count such statements apart). THE CARD IS WHAT COUNTS. Prove the row's statement (the work); the ties are given (YtojdfbmfbmanaaaGreatDoorTie.lean); close each card by the builder's one call (the guide's Derived/Test/ToyasCard.lean, 'card_holds'). Laid BY PROGRAM, IN A SANDBOX (cutbox-door.mjs). By AI agents, Wed Nov 11 2026. No macro, syntax, notation, axiom, sorry.
-/
import Derived.Test.YtojdfbmfbmanaaaGreatDoorRows
import GoSem.ClaimSeven
namespace Go.Proofs.YtojdfbmfbmanaaaGreatDoor
namespace Rows

/-- THE TIED CARD OF 'vaultlaw2.RootTells'. -/
def rootTellsCard : Claim7 := { stood := { row := rootTellsRow, standIns := [], harness := (true, "6331ae65803dabb6424473ffc4e2ba64a216ba0772f546c0ae77bb1a8c330447"), looks := true }, kinds := [], alts := [], laidByText := true, laidKinds := [.handle], laidTests := true, laidLooks := .later }
def RootTellsCardSaid : Prop := Claim7.holds Tryz.pinned (.plain (OpenSpec.ofChange rootTellsSpec)) rootTellsCard

/-- THE TIED CARD OF 'vaultlaw2.RootLeads'. -/
def rootLeadsCard : Claim7 := { stood := { row := rootLeadsRow, standIns := [], harness := (true, "6331ae65803dabb6424473ffc4e2ba64a216ba0772f546c0ae77bb1a8c330447"), looks := true }, kinds := [], alts := [], laidByText := true, laidKinds := [.handle], laidTests := true, laidLooks := .later }
def RootLeadsCardSaid : Prop := Claim7.holds Tryz.pinned (.plain (OpenSpec.ofChange rootLeadsSpec)) rootLeadsCard

/-- THE TIED CARD OF 'vaultlaw4.RootFull'. -/
def rootFullCard : Claim7 := { stood := { row := rootFullRow, standIns := [], harness := (true, "6331ae65803dabb6424473ffc4e2ba64a216ba0772f546c0ae77bb1a8c330447"), looks := true }, kinds := [], alts := [], laidByText := true, laidKinds := [.handle], laidTests := true, laidLooks := .later }
def RootFullCardSaid : Prop := Claim7.holds Tryz.pinned (.plain (OpenSpec.ofChange rootFullSpec)) rootFullCard

/-- THE SECOND FORM's CARD OF 'vaultlaw2.RootTells'. -/
def rootTellsUptoCard : Claim7 := { stood := { row := rootTellsUptoRow, standIns := [], harness := (true, "6331ae65803dabb6424473ffc4e2ba64a216ba0772f546c0ae77bb1a8c330447"), looks := true }, kinds := [], alts := [], laidByText := true, laidKinds := [.handle], laidTests := true, laidLooks := .later }
def RootTellsUptoCardSaid : Prop := Claim7.holds Tryz.pinned (.plain (OpenSpec.upto rootTellsSpec)) rootTellsUptoCard

/-- THE SECOND FORM's CARD OF 'vaultlaw2.RootLeads'. -/
def rootLeadsUptoCard : Claim7 := { stood := { row := rootLeadsUptoRow, standIns := [], harness := (true, "6331ae65803dabb6424473ffc4e2ba64a216ba0772f546c0ae77bb1a8c330447"), looks := true }, kinds := [], alts := [], laidByText := true, laidKinds := [.handle], laidTests := true, laidLooks := .later }
def RootLeadsUptoCardSaid : Prop := Claim7.holds Tryz.pinned (.plain (OpenSpec.upto rootLeadsSpec)) rootLeadsUptoCard

/-- THE SECOND FORM's CARD OF 'vaultlaw4.RootFull'. -/
def rootFullUptoCard : Claim7 := { stood := { row := rootFullUptoRow, standIns := [], harness := (true, "6331ae65803dabb6424473ffc4e2ba64a216ba0772f546c0ae77bb1a8c330447"), looks := true }, kinds := [], alts := [], laidByText := true, laidKinds := [.handle], laidTests := true, laidLooks := .later }
def RootFullUptoCardSaid : Prop := Claim7.holds Tryz.pinned (.plain (OpenSpec.upto rootFullSpec)) rootFullUptoCard
end Rows
end Go.Proofs.YtojdfbmfbmanaaaGreatDoor
