/-
  Contracts of package image: Put. (Part of the proofs over package image.)
-/
import Derived.Test.YtcppejlcjooliaaImD
import Derived.Test.YtcppejlcjooliaaImK
namespace Go.Proofs.Ytcppejlcjooliaa
open Go.RowKit
set_option linter.unusedVariables false

end Go.Proofs.Ytcppejlcjooliaa
