/-
  DERIVED. GIVEN WITH THE SEED: THE CARDS: each row of YtllpeknpplpgeaaGreatDoorRows.lean that lists a variable, with what it lists TIED to the program's text (the seventh form; the later family's looks); each row that meets fmt, with fmt's text TOLD by the authors' own Lean function (tested against real Go, not proved from fmt's source: count such statements apart). THE CARD IS WHAT COUNTS. Prove the row's statement (the work); the ties are given (YtllpeknpplpgeaaGreatDoorTie.lean); close each card by the builder's one call (the guide's Derived/Test/ToyasCard.lean, 'card_holds'). Laid BY PROGRAM, IN A SANDBOX (cutbox-door.mjs). By AI agents, Wed Nov 11 2026. No macro, syntax, notation, axiom, sorry.
-/
import Derived.Test.YtllpeknpplpgeaaGreatDoorRows
import GoSem.ClaimSeven
namespace Go.Proofs.YtllpeknpplpgeaaGreatDoor
namespace Rows

/-- THE TIED CARD OF 'vaultlaw2.OldTells'. -/
def oldTellsCard : Claim7 := { stood := { row := oldTellsRow, standIns := [], harness := (true, "dc2f2d67e5f45f56e29ea2e192e84b8ce7c02b5abdf5a0cd593be95ba7115095"), looks := true }, kinds := [], alts := [], laidByText := true, laidKinds := [.handle], laidTests := true, laidLooks := .later }
def OldTellsCardSaid : Prop := Claim7.holds Tryz.pinned (.plain (OpenSpec.ofChange oldTellsSpec)) oldTellsCard

/-- THE TIED CARD OF 'vaultlaw4.OldSizes'. -/
def oldSizesCard : Claim7 := { stood := { row := oldSizesRow, standIns := [], harness := (true, "dc2f2d67e5f45f56e29ea2e192e84b8ce7c02b5abdf5a0cd593be95ba7115095"), looks := true }, kinds := [], alts := [], laidByText := true, laidKinds := [.handle], laidTests := true, laidLooks := .later }
def OldSizesCardSaid : Prop := Claim7.holds Tryz.pinned (.plain (OpenSpec.ofChange oldSizesSpec)) oldSizesCard

/-- THE SECOND FORM's CARD OF 'vaultlaw2.OldTells'. -/
def oldTellsUptoCard : Claim7 := { stood := { row := oldTellsUptoRow, standIns := [], harness := (true, "dc2f2d67e5f45f56e29ea2e192e84b8ce7c02b5abdf5a0cd593be95ba7115095"), looks := true }, kinds := [], alts := [], laidByText := true, laidKinds := [.handle], laidTests := true, laidLooks := .later }
def OldTellsUptoCardSaid : Prop := Claim7.holds Tryz.pinned (.plain (OpenSpec.upto oldTellsSpec)) oldTellsUptoCard

/-- THE SECOND FORM's CARD OF 'vaultlaw4.OldSizes'. -/
def oldSizesUptoCard : Claim7 := { stood := { row := oldSizesUptoRow, standIns := [], harness := (true, "dc2f2d67e5f45f56e29ea2e192e84b8ce7c02b5abdf5a0cd593be95ba7115095"), looks := true }, kinds := [], alts := [], laidByText := true, laidKinds := [.handle], laidTests := true, laidLooks := .later }
def OldSizesUptoCardSaid : Prop := Claim7.holds Tryz.pinned (.plain (OpenSpec.upto oldSizesSpec)) oldSizesUptoCard
end Rows
end Go.Proofs.YtllpeknpplpgeaaGreatDoor
