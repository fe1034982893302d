/-
  The library's slices.Grow at this program: laid off the shelf. (Part of the proofs over package check.)
-/
import Derived.Shelf.Spec.SlicesGrow
import Derived.Shelf.SlGeneric
import Derived.Ground.Names8Prog
import Derived.Test.YtllpeknpplpgeaaGreatDoorProg
namespace Go.Proofs.YtllpeknpplpgeaaGreatDoor
open Go.RowKit Go.Shelf
set_option linter.unusedVariables false
def flGrow_ren : Ren := { f := fun | 4 => 95 | n => n, t := fun | 22 => 65 | 25 => 107 | 3 => 3 | 4 => 4 | 9 => 9 | 20 => 20 | 0 => 0 | 2 => 3 | n => n, g := fun n => n }
theorem flGrow : Lays8.n4 Tryz.prog flGrow_ren := { mixed := by kernel_rfl, f4 := ⟨ "slices.Grow[[]vaultkeel/api.Fault,vaultkeel/api.Fault]", by decide, Tryz.func95.trans rfl⟩, t0 := Tryz.underlying0, a0 := Tryz.isAgg0, z0 := Tryz.sizeOf0, v0 := Tryz.zeroValue0, t3 := Tryz.underlying3, a3 := Tryz.isAgg3, z3 := Tryz.sizeOf3, v3 := Tryz.zeroValue3, t4 := Tryz.underlying4, a4 := Tryz.isAgg4, z4 := Tryz.sizeOf4, v4 := Tryz.zeroValue4, t9 := Tryz.underlying9, a9 := Tryz.isAgg9, z9 := Tryz.sizeOf9, v9 := Tryz.zeroValue9, t20 := Tryz.underlying20, a20 := Tryz.isAgg20, z20 := Tryz.sizeOf20, v20 := Tryz.zeroValue20, t22 := Tryz.underlying65, a22 := Tryz.isAgg65, z22 := Tryz.sizeOf65, v22 := Tryz.zeroValue65 }
end Go.Proofs.YtllpeknpplpgeaaGreatDoor
