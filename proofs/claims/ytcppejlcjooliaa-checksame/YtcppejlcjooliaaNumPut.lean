/-
  The contract of num.Put. (Part of the proofs of NumBack, NumLow, NumTells.)
-/
import Derived.Test.YtcppejlcjooliaaNumA
import Derived.Test.YtcppejlcjooliaaLaws
namespace Go.Proofs.Ytcppejlcjooliaa
open Go.RowKit
set_option linter.unusedVariables false

theorem info_u8 : (Try.prog.info? 5).map (fun i => (i.zero, i.size, i.bytes)) = some (some (.int .u8 0), 1, 1) := by kernel_rfl
theorem size_u8 : (Try.prog.info? 5).map (·.size) = some 1 := by kernel_rfl

end Go.Proofs.Ytcppejlcjooliaa
