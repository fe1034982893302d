/-
  Joined by program: Fresh; OpRow. (Parts of the proofs over the packages of the program.)
-/
import Derived.Test.YtmmgadnicodakaaGreatJNum
import Derived.Test.YtmmgadnicodakaaGreatJOp
import Derived.Test.YtmmgadnicodakaaGreatJPy
import Derived.Test.YtmmgadnicodakaaGreatJHp
namespace Go.Proofs.YtmmgadnicodakaaGreat
open Go.RowKit
set_option linter.unusedVariables false
end Go.Proofs.YtmmgadnicodakaaGreat
namespace Go.Proofs.YtmmgadnicodakaaGreat
open Go.RowKit
set_option linter.unusedVariables false
def OpB (w : World) (g : Nat) (r : OpR) : Prop := w.heap[g]? = some (.cells #[.int .i64 r.1, .int .i64 r.2.1, .int .i64 r.2.2.1, .int .i64 r.2.2.2.1, .string r.2.2.2.2.1, .slice r.2.2.2.2.2.1 r.2.2.2.2.2.2.2.length r.2.2.2.2.2.2.1] 37 (0, 0))
section
variable {w w' : World} {g : Nat} {r : OpR}
theorem OpB.lt (h : OpB w g r) : g < w.heap.size := (Array.getElem?_eq_some_iff.1 h).1
theorem OpB.below (h : OpB w g r) (hb : Below w.heap.size w w') : OpB w' g r := (hb.block g h.lt).trans h
theorem OpB.cells (h : OpB w g r) : w.cell? ⟨g, 0, none⟩ = some (.int .i64 r.1) ∧ w.cell? ⟨g, 1, none⟩ = some (.int .i64 r.2.1) ∧ w.cell? ⟨g, 2, none⟩ = some (.int .i64 r.2.2.1) ∧ w.cell? ⟨g, 3, none⟩ = some (.int .i64 r.2.2.2.1) ∧ w.cell? ⟨g, 4, none⟩ = some (.string r.2.2.2.2.1) ∧ w.cell? ⟨g, 5, none⟩ = some (.slice r.2.2.2.2.2.1 r.2.2.2.2.2.2.2.length r.2.2.2.2.2.2.1) := by
 simp only [cell_of_row _ _ _ _ _ _ h]
 exact ⟨rfl, rfl, rfl, rfl, rfl, rfl⟩
end
theorem OpB.new (w : World) (r : OpR) : OpB (w.alloc (.cells #[.int .i64 r.1, .int .i64 r.2.1, .int .i64 r.2.2.1, .int .i64 r.2.2.2.1, .string r.2.2.2.2.1, .slice r.2.2.2.2.2.1 r.2.2.2.2.2.2.2.length r.2.2.2.2.2.2.1] 37)) w.heap.size r := heap_alloc_new w _
end Go.Proofs.YtmmgadnicodakaaGreat
