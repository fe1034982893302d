/-
  The contract of num.Get. (Part of the proofs of NumBack, NumLow, NumTells.)
-/
import Derived.Test.YtbohnnflddfidaaNumA
import Derived.Test.YtbohnnflddfidaaBase
namespace Go.Proofs.Ytbohnnflddfidaa
open Go.RowKit
set_option linter.unusedVariables false

end Go.Proofs.Ytbohnnflddfidaa
