/-
  Which error was told: an error by its number is told as that number. (Part of the proofs.)
-/
import Derived.Test.YtmkkiedohphpcaaGreatErrV
import Derived.Test.YtmkkiedohphpcaaGreatTold
namespace Go.Proofs.YtmkkiedohphpcaaGreat
open Go.RowKit
set_option linter.unusedVariables false

end Go.Proofs.YtmkkiedohphpcaaGreat
