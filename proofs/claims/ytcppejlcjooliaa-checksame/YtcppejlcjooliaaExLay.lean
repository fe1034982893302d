/-
  The library's slices.ContainsFunc at this program: laid off the shelf. (Part of the proofs over packages extent and check.)
-/
import Derived.Shelf.SlicesQ.IndexFunc
import Derived.Shelf.SlGeneric
import Derived.Ground.SlgfProg
import Derived.Test.YtcppejlcjooliaaProg
namespace Go.Proofs.Ytcppejlcjooliaa
open Go.RowKit Go.Sort Go.Shelf
set_option linter.unusedVariables false
def exCont_ren : Ren := { f := fun | 8 => 44 | 6 => 57 | n => n, t := fun | 22 => 73 | 23 => 37 | 25 => 91 | 4 => 4 | 3 => 3 | 0 => 0 | n => n, g := fun n => n }
theorem exCont : SlLaysH0.n8 Try.prog exCont_ren := { mixed := by kernel_rfl, f6 := ⟨ "slices.IndexFunc[[]vaultkeel/api.Extent,vaultkeel/api.Extent]", by decide, Try.func57.trans rfl⟩, f8 := ⟨ "slices.ContainsFunc[[]vaultkeel/api.Extent,vaultkeel/api.Extent]", by decide, Try.func44.trans rfl⟩, t0 := Try.underlying0, a0 := Try.isAgg0, z0 := Try.sizeOf0, v0 := Try.zeroValue0, t3 := Try.underlying3, a3 := Try.isAgg3, z3 := Try.sizeOf3, v3 := Try.zeroValue3, t4 := Try.underlying4, a4 := Try.isAgg4, z4 := Try.sizeOf4, v4 := Try.zeroValue4, t22 := Try.underlying73, a22 := Try.isAgg73, z22 := Try.sizeOf73, v22 := Try.zeroValue73, t25 := Try.underlying91, a25 := Try.isAgg91, z25 := Try.sizeOf91, v25 := Try.zeroValue91 }
end Go.Proofs.Ytcppejlcjooliaa
