/-
  Which error was told: an error by its number is told as that number. (Part of the proofs.)
-/
import Derived.Test.YtbohnnflddfidaaErrV
import Derived.Test.YtbohnnflddfidaaTold
namespace Go.Proofs.Ytbohnnflddfidaa
open Go.RowKit
set_option linter.unusedVariables false

end Go.Proofs.Ytbohnnflddfidaa
