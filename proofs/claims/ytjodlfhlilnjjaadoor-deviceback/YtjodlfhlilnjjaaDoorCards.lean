/-
  DERIVED. GIVEN WITH THE SEED: THE CARDS: each row of YtjodlfhlilnjjaaDoorRows.lean that lists a variable, with what it lists TIED to the program's text (the seventh form; the later family's looks); each row that meets fmt, with fmt's text TOLD by the authors' own Lean function (tested against real Go, not proved from fmt's source: count such statements apart). THE CARD IS WHAT COUNTS. Prove the row's statement (the work); the ties are given (YtjodlfhlilnjjaaDoorTie.lean); close each card by the builder's one call (the guide's Derived/Test/ToyasCard.lean, 'card_holds'). Laid BY PROGRAM, IN A SANDBOX (cutbox-door.mjs). By AI agents, Wed Nov 11 2026. No macro, syntax, notation, axiom, sorry.
-/
import Derived.Test.YtjodlfhlilnjjaaDoorRows
import GoSem.ClaimSeven
namespace Go.Proofs.YtjodlfhlilnjjaaDoor
namespace Rows

/-- THE TIED CARD OF 'vaultlaw1.DeviceBack'. -/
def deviceBackCard : Claim7 := { stood := { row := deviceBackRow, standIns := [], harness := (true, "bd1267805b4ad8721016959e425820828c94b616c5378b5168648ba985d38693"), looks := true }, kinds := [], alts := [], laidByText := true, laidKinds := [.handle], laidTests := true, laidLooks := .later }
def DeviceBackCardSaid : Prop := Claim7.holds Tryd.pinned (.plain (OpenSpec.ofChange deviceBackSpec)) deviceBackCard

/-- THE TIED CARD OF 'vaultlaw4.DeviceStops'. -/
def deviceStopsCard : Claim7 := { stood := { row := deviceStopsRow, standIns := [], harness := (true, "bd1267805b4ad8721016959e425820828c94b616c5378b5168648ba985d38693"), looks := true }, kinds := [], alts := [], laidByText := true, laidKinds := [.handle], laidTests := true, laidLooks := .later }
def DeviceStopsCardSaid : Prop := Claim7.holds Tryd.pinned (.plain (OpenSpec.ofChange deviceStopsSpec)) deviceStopsCard

/-- THE TIED CARD OF 'vaultlaw1.DevicePlays'. -/
def devicePlaysCard : Claim7 := { stood := { row := devicePlaysRow, standIns := [], harness := (true, "bd1267805b4ad8721016959e425820828c94b616c5378b5168648ba985d38693"), looks := true }, kinds := [], alts := [], laidByText := true, laidKinds := [.handle], laidTests := true, laidLooks := .later }
def DevicePlaysCardSaid : Prop := Claim7.holds Tryd.pinned (.plain (OpenSpec.ofChange devicePlaysSpec)) devicePlaysCard

/-- THE SECOND FORM's CARD OF 'vaultlaw1.DeviceBack'. -/
def deviceBackUptoCard : Claim7 := { stood := { row := deviceBackUptoRow, standIns := [], harness := (true, "bd1267805b4ad8721016959e425820828c94b616c5378b5168648ba985d38693"), looks := true }, kinds := [], alts := [], laidByText := true, laidKinds := [.handle], laidTests := true, laidLooks := .later }
def DeviceBackUptoCardSaid : Prop := Claim7.holds Tryd.pinned (.plain (OpenSpec.upto deviceBackSpec)) deviceBackUptoCard

/-- THE SECOND FORM's CARD OF 'vaultlaw4.DeviceStops'. -/
def deviceStopsUptoCard : Claim7 := { stood := { row := deviceStopsUptoRow, standIns := [], harness := (true, "bd1267805b4ad8721016959e425820828c94b616c5378b5168648ba985d38693"), looks := true }, kinds := [], alts := [], laidByText := true, laidKinds := [.handle], laidTests := true, laidLooks := .later }
def DeviceStopsUptoCardSaid : Prop := Claim7.holds Tryd.pinned (.plain (OpenSpec.upto deviceStopsSpec)) deviceStopsUptoCard

/-- THE SECOND FORM's CARD OF 'vaultlaw1.DevicePlays'. -/
def devicePlaysUptoCard : Claim7 := { stood := { row := devicePlaysUptoRow, standIns := [], harness := (true, "bd1267805b4ad8721016959e425820828c94b616c5378b5168648ba985d38693"), looks := true }, kinds := [], alts := [], laidByText := true, laidKinds := [.handle], laidTests := true, laidLooks := .later }
def DevicePlaysUptoCardSaid : Prop := Claim7.holds Tryd.pinned (.plain (OpenSpec.upto devicePlaysSpec)) devicePlaysUptoCard
end Rows
end Go.Proofs.YtjodlfhlilnjjaaDoor
