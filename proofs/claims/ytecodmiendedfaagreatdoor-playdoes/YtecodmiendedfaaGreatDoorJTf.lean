/-
  Parts of the proofs, joined by program.
-/
import Derived.Test.YtecodmiendedfaaGreatDoorJSu
import Derived.Test.YtecodmiendedfaaGreatDoorJPy
import Derived.Test.YtecodmiendedfaaGreatDoorJHp
import Derived.Test.YtecodmiendedfaaGreatDoorJHq
import Derived.Test.YtecodmiendedfaaGreatDoorJRt
import Derived.Test.YtecodmiendedfaaGreatDoorJRh
import Derived.Test.YtecodmiendedfaaGreatDoorJMv
namespace Go.Proofs.YtecodmiendedfaaGreatDoor
open Go.RowKit
set_option linter.unusedVariables false
section
variable {w0 w w' : World} {t p x m n : Nat} {P : Ps} {D : DS} {F : Nat -> Prop}
end
section
variable {w0 w w' : World} {t p x m n : Nat} {P : Ps} {F : Nat -> Prop}
end
section
variable {m n : Nat} {p : Ps}
end
end Go.Proofs.YtecodmiendedfaaGreatDoor
