/-
  Parts of the proofs, joined by program.
-/
import Derived.Test.YtchmlnmhbfaclaaGreatDoorJIn
import Derived.Test.YtchmlnmhbfaclaaGreatDoorJIm
import Derived.OpenShut
import Derived.ChangeSlices
import Derived.SizedLaws
import Derived.Deep.Slices
import Derived.Deep.Strs
namespace Go.Proofs.YtchmlnmhbfaclaaGreatDoor
open Go.RowKit Go.ChangeShapes Go.WideShapes Go.Deep
set_option linter.unusedVariables false
section
variable {H:Type} {enc:TypeId×Value->H} {W:World} {sp:Nat->Bool} {hd:Bool}
end
abbrev OpR:=Int×Int×Int×Int×ByteArray×(Option Addr×Nat×List Int)
end Go.Proofs.YtchmlnmhbfaclaaGreatDoor
