/-
  Which error was told: an error by its number is told as that number. (Part of the proofs.)
-/
import Derived.Test.YtllpeknpplpgeaaGreatErrV
import Derived.Test.YtllpeknpplpgeaaGreatTold
namespace Go.Proofs.YtllpeknpplpgeaaGreat
open Go.RowKit
set_option linter.unusedVariables false

end Go.Proofs.YtllpeknpplpgeaaGreat
