/-
  DERIVED. GIVEN WITH THE SEED: THE CARDS: each row of YtcppejlcjooliaaGreatDoorRows.lean that lists a variable, with what it lists TIED to the program's text (the seventh form; the later family's looks); each row that meets fmt, with fmt's text TOLD by the authors' own Lean function (tested against real Go, not proved from fmt's source: count such statements apart). THE CARD IS WHAT COUNTS. Prove the row's statement (the work); the ties are given (YtcppejlcjooliaaGreatDoorTie.lean); close each card by the builder's one call (the guide's Derived/Test/ToyasCard.lean, 'card_holds'). Laid BY PROGRAM, IN A SANDBOX (cutbox-door.mjs). By AI agents, Wed Nov 11 2026. No macro, syntax, notation, axiom, sorry.
-/
import Derived.Test.YtcppejlcjooliaaGreatDoorRows
import GoSem.ClaimSeven
namespace Go.Proofs.YtcppejlcjooliaaGreatDoor
namespace Rows

/-- THE TIED CARD OF 'vaultlaw4.HeapFull'. -/
def heapFullCard : Claim7 := { stood := { row := heapFullRow, standIns := [], harness := (true, "08c109c3d4a9aa66ceeca6e9fe592586738cb5518db30b147e867ae6dc7b2b1d"), looks := true }, kinds := [], alts := [], laidByText := true, laidKinds := [.handle], laidTests := true, laidLooks := .later }
def HeapFullCardSaid : Prop := Claim7.holds Tryz.pinned (.plain (OpenSpec.ofChange heapFullSpec)) heapFullCard

/-- THE SECOND FORM's CARD OF 'vaultlaw4.HeapFull'. -/
def heapFullUptoCard : Claim7 := { stood := { row := heapFullUptoRow, standIns := [], harness := (true, "08c109c3d4a9aa66ceeca6e9fe592586738cb5518db30b147e867ae6dc7b2b1d"), looks := true }, kinds := [], alts := [], laidByText := true, laidKinds := [.handle], laidTests := true, laidLooks := .later }
def HeapFullUptoCardSaid : Prop := Claim7.holds Tryz.pinned (.plain (OpenSpec.upto heapFullSpec)) heapFullUptoCard
end Rows
end Go.Proofs.YtcppejlcjooliaaGreatDoor
