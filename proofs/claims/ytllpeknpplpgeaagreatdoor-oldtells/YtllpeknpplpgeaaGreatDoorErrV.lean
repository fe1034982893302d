/-
  An error by its number: nil for 0. (Part of the proofs.)
-/
import Derived.Test.YtllpeknpplpgeaaGreatDoorProg
import Derived.WalkKit
namespace Go.Proofs.YtllpeknpplpgeaaGreatDoor
open Go.RowKit
set_option linter.unusedVariables false

/-- An error by its number: nil for 0. -/
def errV (x : Int) : Value := if x = 0 then .nilIface else .iface 63 (.int .i64 x)
theorem errV_zero : errV 0 = .nilIface := rfl
theorem errV_pos (x : Int) (h : x ≠ 0) : errV x = .iface 63 (.int .i64 x) := if_neg h
end Go.Proofs.YtllpeknpplpgeaaGreatDoor
