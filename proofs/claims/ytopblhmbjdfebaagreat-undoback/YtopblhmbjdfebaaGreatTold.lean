/-
  The contracts of plain.Told and of vaultsame.Error. (Part of the proofs of laws that ask which error was told.)
-/
import Derived.Test.YtopblhmbjdfebaaGreatTellAs
namespace Go.Proofs.YtopblhmbjdfebaaGreat
open Go.RowKit
set_option linter.unusedVariables false

end Go.Proofs.YtopblhmbjdfebaaGreat
