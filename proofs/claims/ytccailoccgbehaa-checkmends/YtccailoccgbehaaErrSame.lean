/-
  Which error was told: an error by its number is told as that number. (Part of the proofs.)
-/
import Derived.Test.YtccailoccgbehaaErrV
import Derived.Test.YtccailoccgbehaaTold
namespace Go.Proofs.Ytccailoccgbehaa
open Go.RowKit
set_option linter.unusedVariables false

end Go.Proofs.Ytccailoccgbehaa
