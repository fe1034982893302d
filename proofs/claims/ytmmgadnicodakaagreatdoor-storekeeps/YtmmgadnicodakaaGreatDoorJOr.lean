/-
  Parts of the proofs, joined by program.
-/
import Derived.Test.YtmmgadnicodakaaGreatDoorJNum
import Derived.Test.YtmmgadnicodakaaGreatDoorJOp
import Derived.Test.YtmmgadnicodakaaGreatDoorJPy
import Derived.Test.YtmmgadnicodakaaGreatDoorJHp
namespace Go.Proofs.YtmmgadnicodakaaGreatDoor
open Go.RowKit
set_option linter.unusedVariables false
end Go.Proofs.YtmmgadnicodakaaGreatDoor
namespace Go.Proofs.YtmmgadnicodakaaGreatDoor
open Go.RowKit
set_option linter.unusedVariables false
section
variable {w w' : World} {g : Nat} {r : OpR}
end
end Go.Proofs.YtmmgadnicodakaaGreatDoor
