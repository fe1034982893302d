/-
  The contracts of the document's own answers for numbers (vaultref1.Number, Get, Put). (Part of the proof of NumTells.)
-/
import Derived.Test.YtllpeknpplpgeaaGreatDoorNumPlain
import Derived.Test.YtllpeknpplpgeaaGreatDoorRefNumA
namespace Go.Proofs.YtllpeknpplpgeaaGreatDoor
open Go.RowKit
set_option linter.unusedVariables false

/-- What Get answers: the number, and the error's number. -/
def getOut (l : List Int) (p s : Int) : Int × Int :=
  if ¬ (1 ≤ s ∧ s ≤ 4) then (0, 1) else if ¬ (0 ≤ p ∧ p ≤ l.length - s) then (0, 3) else (getV l p.toNat s.toNat, 0)

end Go.Proofs.YtllpeknpplpgeaaGreatDoor
