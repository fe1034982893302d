/-
  Joined by program: Fresh; OpRow. (Parts of the proofs over the packages of the program.)
-/
import Derived.Test.YtmmgadnicodakabGreatJNum
import Derived.Test.YtmmgadnicodakabGreatJOp
import Derived.Test.YtmmgadnicodakabGreatJPy
import Derived.Test.YtmmgadnicodakabGreatJHp
namespace Go.Proofs.YtmmgadnicodakabGreat
open Go.RowKit
set_option linter.unusedVariables false
end Go.Proofs.YtmmgadnicodakabGreat
namespace Go.Proofs.YtmmgadnicodakabGreat
open Go.RowKit
set_option linter.unusedVariables false
section
variable {w w' : World} {g : Nat} {r : OpR}
end
end Go.Proofs.YtmmgadnicodakabGreat
