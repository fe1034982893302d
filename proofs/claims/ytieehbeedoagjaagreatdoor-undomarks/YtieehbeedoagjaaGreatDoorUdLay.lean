/-
  The library's maps.DeleteFunc at this program: laid off the shelf. (Part of the proofs over package undo.)
-/
import Derived.Shelf.SlMaps.DeleteFunc
import Derived.Shelf.SlGeneric
import Derived.Ground.SlmdProg
import Derived.Test.YtieehbeedoagjaaGreatDoorProg
namespace Go.Proofs.YtieehbeedoagjaaGreatDoor
open Go.RowKit Go.Shelf
set_option linter.unusedVariables false
def mpDel_ren : Ren := { f := fun | 5 => 22 | n => n, t := fun | 23 => 47 | 26 => 3 | 24 => 32 | 27 => 65 | 0 => 0 | 4 => 4 | n => n, g := fun n => n }
theorem mpDel : SlLaysDf.n5 Tryz.prog mpDel_ren := { mixed := by kernel_rfl, f5 := ⟨ "maps.DeleteFunc[map[int][]byte,int,[]byte]", by decide, Tryz.func22.trans rfl⟩, t0 := Tryz.underlying0, a0 := Tryz.isAgg0, z0 := Tryz.sizeOf0, v0 := Tryz.zeroValue0, t4 := Tryz.underlying4, a4 := Tryz.isAgg4, z4 := Tryz.sizeOf4, v4 := Tryz.zeroValue4, t23 := Tryz.underlying47, a23 := Tryz.isAgg47, z23 := Tryz.sizeOf47, v23 := Tryz.zeroValue47, a24 := Tryz.isAgg32, z24 := Tryz.sizeOf32, a26 := Tryz.isAgg3, z26 := Tryz.sizeOf3, t27 := Tryz.underlying65, a27 := Tryz.isAgg65, z27 := Tryz.sizeOf65, v27 := Tryz.zeroValue65 }
end Go.Proofs.YtieehbeedoagjaaGreatDoor
