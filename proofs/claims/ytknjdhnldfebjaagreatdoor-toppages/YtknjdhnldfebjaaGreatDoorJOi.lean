/-
  Arguments as they came in: lists of numbers. (Part of the proofs over laws.)
-/
import Derived.Test.YtknjdhnldfebjaaGreatDoorJNum
import Derived.Test.YtknjdhnldfebjaaGreatDoorProg
import Derived.OpenShut
import Derived.ChangeSlices
import Derived.SizedLaws
import Derived.Deep.SlicePairs
import Derived.Deep.Grids
namespace Go.Proofs.YtknjdhnldfebjaaGreatDoor
open Go.RowKit Go.ChangeShapes Go.WideShapes Go.Deep
set_option linter.unusedVariables false
end Go.Proofs.YtknjdhnldfebjaaGreatDoor
