/-
  Contracts of package image: Put. (Part of the proofs over package image.)
-/
import Derived.Test.YtccailoccgbehaaGreatDoorImD
import Derived.Test.YtccailoccgbehaaGreatDoorImK
namespace Go.Proofs.YtccailoccgbehaaGreatDoor
open Go.RowKit
set_option linter.unusedVariables false

end Go.Proofs.YtccailoccgbehaaGreatDoor
