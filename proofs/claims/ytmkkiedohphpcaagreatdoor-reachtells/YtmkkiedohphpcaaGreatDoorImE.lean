/-
  Contracts of package image: Put. (Part of the proofs over package image.)
-/
import Derived.Test.YtmkkiedohphpcaaGreatDoorImD
import Derived.Test.YtmkkiedohphpcaaGreatDoorImK
namespace Go.Proofs.YtmkkiedohphpcaaGreatDoor
open Go.RowKit
set_option linter.unusedVariables false

end Go.Proofs.YtmkkiedohphpcaaGreatDoor
