/-
  The library's slices.Grow at this program: laid off the shelf. (Part of the proofs over package check.)
-/
import Derived.Shelf.Spec.SlicesGrow
import Derived.Shelf.SlGeneric
import Derived.Ground.Names8Prog
import Derived.Test.YtcppejlcjooliaaProg
namespace Go.Proofs.Ytcppejlcjooliaa
open Go.RowKit Go.Shelf
set_option linter.unusedVariables false
def flGrow_ren : Ren := { f := fun | 4 => 34 | n => n, t := fun | 22 => 44 | 25 => 58 | 3 => 3 | 4 => 4 | 9 => 9 | 20 => 20 | 0 => 0 | 2 => 3 | n => n, g := fun n => n }
theorem flGrow : Lays8.n4 Try.prog flGrow_ren := { mixed := by kernel_rfl, f4 := ⟨ "slices.Grow[[]vaultkeel/api.Fault,vaultkeel/api.Fault]", by decide, Try.func34.trans rfl⟩, t0 := Try.underlying0, a0 := Try.isAgg0, z0 := Try.sizeOf0, v0 := Try.zeroValue0, t3 := Try.underlying3, a3 := Try.isAgg3, z3 := Try.sizeOf3, v3 := Try.zeroValue3, t4 := Try.underlying4, a4 := Try.isAgg4, z4 := Try.sizeOf4, v4 := Try.zeroValue4, t9 := Try.underlying9, a9 := Try.isAgg9, z9 := Try.sizeOf9, v9 := Try.zeroValue9, t20 := Try.underlying20, a20 := Try.isAgg20, z20 := Try.sizeOf20, v20 := Try.zeroValue20, t22 := Try.underlying44, a22 := Try.isAgg44, z22 := Try.sizeOf44, v22 := Try.zeroValue44 }
end Go.Proofs.Ytcppejlcjooliaa
