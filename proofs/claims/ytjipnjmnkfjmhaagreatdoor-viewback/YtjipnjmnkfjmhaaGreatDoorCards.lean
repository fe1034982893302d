/-
  DERIVED. GIVEN WITH THE SEED: THE CARDS: each row of YtjipnjmnkfjmhaaGreatDoorRows.lean that lists a variable, with what it lists TIED to the program's text (the seventh form; the later family's looks); each row that meets fmt, with fmt's text TOLD by the authors' own Lean function (tested against real Go, not proved from fmt's source: count such statements apart). THE CARD IS WHAT COUNTS. Prove the row's statement (the work); the ties are given (YtjipnjmnkfjmhaaGreatDoorTie.lean); close each card by the builder's one call (the guide's Derived/Test/ToyasCard.lean, 'card_holds'). Laid BY PROGRAM, IN A SANDBOX (cutbox-door.mjs). By AI agents, Wed Nov 11 2026. No macro, syntax, notation, axiom, sorry.
-/
import Derived.Test.YtjipnjmnkfjmhaaGreatDoorRows
import GoSem.ClaimSeven
namespace Go.Proofs.YtjipnjmnkfjmhaaGreatDoor
namespace Rows

/-- THE TIED CARD OF 'vaultlaw1.ViewBack'. -/
def viewBackCard : Claim7 := { stood := { row := viewBackRow, standIns := [], harness := (true, "056e7cbff9c96aa8cf643fbd3b0093e0a62ffa399d1a660630435b8d15c1f1d6"), looks := true }, kinds := [], alts := [], laidByText := true, laidKinds := [.handle], laidTests := true, laidLooks := .later }
def ViewBackCardSaid : Prop := Claim7.holds Tryz.pinned (.plain (OpenSpec.ofChange viewBackSpec)) viewBackCard

/-- THE SECOND FORM's CARD OF 'vaultlaw1.ViewBack'. -/
def viewBackUptoCard : Claim7 := { stood := { row := viewBackUptoRow, standIns := [], harness := (true, "056e7cbff9c96aa8cf643fbd3b0093e0a62ffa399d1a660630435b8d15c1f1d6"), looks := true }, kinds := [], alts := [], laidByText := true, laidKinds := [.handle], laidTests := true, laidLooks := .later }
def ViewBackUptoCardSaid : Prop := Claim7.holds Tryz.pinned (.plain (OpenSpec.upto viewBackSpec)) viewBackUptoCard
end Rows
end Go.Proofs.YtjipnjmnkfjmhaaGreatDoor
