/-
  The library's slices.ContainsFunc at this program: laid off the shelf. (Part of the proofs over packages extent and check.)
-/
import Derived.Shelf.SlicesQ.IndexFunc
import Derived.Shelf.SlGeneric
import Derived.Ground.SlgfProg
import Derived.Test.YtmkkiedohphpcaaGreatDoorProg
namespace Go.Proofs.YtmkkiedohphpcaaGreatDoor
open Go.RowKit Go.Sort Go.Shelf
set_option linter.unusedVariables false
def exCont_ren : Ren := { f := fun | 8 => 103 | 6 => 122 | n => n, t := fun | 22 => 127 | 23 => 46 | 25 => 169 | 4 => 4 | 3 => 3 | 0 => 0 | n => n, g := fun n => n }
theorem exCont : SlLaysH0.n8 Tryz.prog exCont_ren := { mixed := by kernel_rfl, f6 := ⟨ "slices.IndexFunc[[]vaultkeel/api.Extent,vaultkeel/api.Extent]", by decide, Tryz.func122.trans rfl⟩, f8 := ⟨ "slices.ContainsFunc[[]vaultkeel/api.Extent,vaultkeel/api.Extent]", by decide, Tryz.func103.trans rfl⟩, t0 := Tryz.underlying0, a0 := Tryz.isAgg0, z0 := Tryz.sizeOf0, v0 := Tryz.zeroValue0, t3 := Tryz.underlying3, a3 := Tryz.isAgg3, z3 := Tryz.sizeOf3, v3 := Tryz.zeroValue3, t4 := Tryz.underlying4, a4 := Tryz.isAgg4, z4 := Tryz.sizeOf4, v4 := Tryz.zeroValue4, t22 := Tryz.underlying127, a22 := Tryz.isAgg127, z22 := Tryz.sizeOf127, v22 := Tryz.zeroValue127, t25 := Tryz.underlying169, a25 := Tryz.isAgg169, z25 := Tryz.sizeOf169, v25 := Tryz.zeroValue169 }
end Go.Proofs.YtmkkiedohphpcaaGreatDoor
