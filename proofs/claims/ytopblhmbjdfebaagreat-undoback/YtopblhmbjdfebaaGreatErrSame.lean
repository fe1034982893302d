/-
  Which error was told: an error by its number is told as that number. (Part of the proofs.)
-/
import Derived.Test.YtopblhmbjdfebaaGreatErrV
import Derived.Test.YtopblhmbjdfebaaGreatTold
namespace Go.Proofs.YtopblhmbjdfebaaGreat
open Go.RowKit
set_option linter.unusedVariables false

end Go.Proofs.YtopblhmbjdfebaaGreat
