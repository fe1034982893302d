/-
  The contract of num.Put. (Part of the proofs of NumBack, NumLow, NumTells.)
-/
import Derived.Test.YtmkkiedohphpcaaGreatDoorNumA
import Derived.Test.YtmkkiedohphpcaaGreatDoorLaws
namespace Go.Proofs.YtmkkiedohphpcaaGreatDoor
open Go.RowKit
set_option linter.unusedVariables false

theorem info_u8 : (Tryz.prog.info? 5).map (fun i => (i.zero, i.size, i.bytes)) = some (some (.int .u8 0), 1, 1) := by kernel_rfl
theorem size_u8 : (Tryz.prog.info? 5).map (·.size) = some 1 := by kernel_rfl

end Go.Proofs.YtmkkiedohphpcaaGreatDoor
