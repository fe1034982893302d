/-
  Parts of the proofs, joined by program.
-/
import Derived.Test.YtchmlnmhbfaclaaGreatDoorJNum
import Derived.Test.YtchmlnmhbfaclaaGreatDoorJOp
import Derived.Test.YtchmlnmhbfaclaaGreatDoorJPy
import Derived.Test.YtchmlnmhbfaclaaGreatDoorJHp
namespace Go.Proofs.YtchmlnmhbfaclaaGreatDoor
open Go.RowKit
set_option linter.unusedVariables false
section
variable {w w':World} {g:Nat} {r:OpR}
end
end Go.Proofs.YtchmlnmhbfaclaaGreatDoor
