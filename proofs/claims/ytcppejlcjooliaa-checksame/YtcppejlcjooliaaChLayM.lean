/-
  The library's maps.Equal at this program: laid off the shelf. (Part of the proofs over package check.)
-/
import Derived.Shelf.SlMaps.Equal
import Derived.Shelf.SlGeneric
import Derived.Ground.SlmeProg
import Derived.Test.YtcppejlcjooliaaProg
namespace Go.Proofs.Ytcppejlcjooliaa
open Go.RowKit Go.Shelf
set_option linter.unusedVariables false
def mpEq_ren : Ren := { f := fun | 6 => 27 | n => n, t := fun | 23 => 64 | 24 => 64 | 26 => 9 | 27 => 3 | 4 => 4 | 3 => 3 | 0 => 0 | 36 => 77 | n => n, g := fun n => n }
theorem mpEq : SlLaysEq.n6 Try.prog mpEq_ren := { mixed := by kernel_rfl, f6 := ⟨ "maps.Equal[map[string]int,map[string]int,string,int]", by decide, Try.func27.trans rfl⟩, t0 := Try.underlying0, a0 := Try.isAgg0, z0 := Try.sizeOf0, v0 := Try.zeroValue0, t3 := Try.underlying3, a3 := Try.isAgg3, z3 := Try.sizeOf3, v3 := Try.zeroValue3, t4 := Try.underlying4, a4 := Try.isAgg4, z4 := Try.sizeOf4, v4 := Try.zeroValue4, t23 := Try.underlying64, a23 := Try.isAgg64, z23 := Try.sizeOf64, v23 := Try.zeroValue64, t24 := Try.underlying64, a24 := Try.isAgg64, z24 := Try.sizeOf64, v24 := Try.zeroValue64, a26 := Try.isAgg9, z26 := Try.sizeOf9, a27 := Try.isAgg3, z27 := Try.sizeOf3, t36 := Try.underlying77, a36 := Try.isAgg77, z36 := Try.sizeOf77 }
end Go.Proofs.Ytcppejlcjooliaa
