/-
  The contracts of plain.Told and of vaultsame.Error. (Part of the proofs of laws that ask which error was told.)
-/
import Derived.Test.YtllpeknpplpgeaaGreatTellAs
namespace Go.Proofs.YtllpeknpplpgeaaGreat
open Go.RowKit
set_option linter.unusedVariables false

end Go.Proofs.YtllpeknpplpgeaaGreat
