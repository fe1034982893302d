/-
  The library's slices.ContainsFunc at this program: laid off the shelf. (Part of the proofs over packages extent and check.)
-/
import Derived.Shelf.SlicesQ.IndexFunc
import Derived.Shelf.SlGeneric
import Derived.Ground.SlgfProg
import Derived.Test.YtllpeknpplpgeaaGreatProg
namespace Go.Proofs.YtllpeknpplpgeaaGreat
open Go.RowKit Go.Sort Go.Shelf
set_option linter.unusedVariables false
def exCont_ren : Ren := { f := fun | 8 => 98 | 6 => 108 | n => n, t := fun | 22 => 121 | 23 => 28 | 25 => 138 | 4 => 4 | 3 => 3 | 0 => 0 | n => n, g := fun n => n }
theorem exCont : SlLaysH0.n8 Tryz.prog exCont_ren := { mixed := by kernel_rfl, f6 := ⟨ "slices.IndexFunc[[]vaultkeel/api.Extent,vaultkeel/api.Extent]", by decide, Tryz.func108.trans rfl⟩, f8 := ⟨ "slices.ContainsFunc[[]vaultkeel/api.Extent,vaultkeel/api.Extent]", by decide, Tryz.func98.trans rfl⟩, t0 := Tryz.underlying0, a0 := Tryz.isAgg0, z0 := Tryz.sizeOf0, v0 := Tryz.zeroValue0, t3 := Tryz.underlying3, a3 := Tryz.isAgg3, z3 := Tryz.sizeOf3, v3 := Tryz.zeroValue3, t4 := Tryz.underlying4, a4 := Tryz.isAgg4, z4 := Tryz.sizeOf4, v4 := Tryz.zeroValue4, t22 := Tryz.underlying121, a22 := Tryz.isAgg121, z22 := Tryz.sizeOf121, v22 := Tryz.zeroValue121, t25 := Tryz.underlying138, a25 := Tryz.isAgg138, z25 := Tryz.sizeOf138, v25 := Tryz.zeroValue138 }
end Go.Proofs.YtllpeknpplpgeaaGreat
