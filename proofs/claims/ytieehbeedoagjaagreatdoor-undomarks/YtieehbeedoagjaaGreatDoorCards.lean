/-
  DERIVED. GIVEN WITH THE SEED: THE CARDS: each row of YtieehbeedoagjaaGreatDoorRows.lean that lists a variable, with what it lists TIED to the program's text (the seventh form; the later family's looks); each row that meets fmt, with fmt's text TOLD by the authors' own Lean function (tested against real Go, not proved from fmt's source: count such statements apart). THE CARD IS WHAT COUNTS. Prove the row's statement (the work); the ties are given (YtieehbeedoagjaaGreatDoorTie.lean); close each card by the builder's one call (the guide's Derived/Test/ToyasCard.lean, 'card_holds'). Laid BY PROGRAM, IN A SANDBOX (cutbox-door.mjs). By AI agents, Wed Nov 11 2026. No macro, syntax, notation, axiom, sorry.
-/
import Derived.Test.YtieehbeedoagjaaGreatDoorRows
import GoSem.ClaimSeven
namespace Go.Proofs.YtieehbeedoagjaaGreatDoor
namespace Rows

/-- THE TIED CARD OF 'vaultlaw4.UndoMarks'. -/
def undoMarksCard : Claim7 := { stood := { row := undoMarksRow, standIns := [], harness := (true, "e81952ea5776cbbf75e1643e197bf12a0f14ad35a60c323623fd51c0ae90d203"), looks := true }, kinds := [], alts := [], laidByText := true, laidKinds := [.handle], laidTests := true, laidLooks := .later }
def UndoMarksCardSaid : Prop := Claim7.holds Tryz.pinned (.plain (OpenSpec.ofChange undoMarksSpec)) undoMarksCard

/-- THE SECOND FORM's CARD OF 'vaultlaw4.UndoMarks'. -/
def undoMarksUptoCard : Claim7 := { stood := { row := undoMarksUptoRow, standIns := [], harness := (true, "e81952ea5776cbbf75e1643e197bf12a0f14ad35a60c323623fd51c0ae90d203"), looks := true }, kinds := [], alts := [], laidByText := true, laidKinds := [.handle], laidTests := true, laidLooks := .later }
def UndoMarksUptoCardSaid : Prop := Claim7.holds Tryz.pinned (.plain (OpenSpec.upto undoMarksSpec)) undoMarksUptoCard
end Rows
end Go.Proofs.YtieehbeedoagjaaGreatDoor
