/-
  Contracts of package image: PutRoot; Roots. (Part of the proofs over package image.)
-/
import Derived.Test.YtcppejlcjooliaaGreatImG
import Derived.Test.YtcppejlcjooliaaGreatImF
import Derived.Test.YtcppejlcjooliaaGreatImK
namespace Go.Proofs.YtcppejlcjooliaaGreat
open Go.RowKit
set_option linter.unusedVariables false

end Go.Proofs.YtcppejlcjooliaaGreat
