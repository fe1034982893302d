/-
  An image of which the first byte is 17. (Part of the proof of CheckMends.)
-/
import Derived.Test.YtccailoccgbehaaChSame
namespace Go.Proofs.Ytccailoccgbehaa
open Go.RowKit
set_option linter.unusedVariables false
theorem fact_faults : faults (17 :: zerosB 299) = [(1, 1)] := by kernel_rfl
end Go.Proofs.Ytccailoccgbehaa
