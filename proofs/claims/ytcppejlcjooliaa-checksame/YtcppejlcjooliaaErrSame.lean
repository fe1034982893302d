/-
  Which error was told: an error by its number is told as that number. (Part of the proofs.)
-/
import Derived.Test.YtcppejlcjooliaaErrV
import Derived.Test.YtcppejlcjooliaaTold
namespace Go.Proofs.Ytcppejlcjooliaa
open Go.RowKit
set_option linter.unusedVariables false

end Go.Proofs.Ytcppejlcjooliaa
