/-
  Which error was told: an error by its number is told as that number. (Part of the proofs.)
-/
import Derived.Test.YtllpeknpplpgeaaGreatDoorErrV
import Derived.Test.YtllpeknpplpgeaaGreatDoorTold
namespace Go.Proofs.YtllpeknpplpgeaaGreatDoor
open Go.RowKit
set_option linter.unusedVariables false

theorem error_same (x : Int) (w : World) (hg : ErrT w) : Calls Tryz.prog 7 #[errV x, .int .i64 x] w fun e w' => e = .returned (.bool true) ∧ Below w.heap.size w w' := by
  by_cases h : x = 0
  · subst h
    exact (error_nil 0 w).mono fun e w' ⟨he, hw⟩ => ⟨he, by rw [← hw]; exact Below.refl _ _⟩
  · rw [errV_pos x h]
    exact (error_errno x x w hg).mono fun e w' ⟨he, hw⟩ => ⟨by rw [he]; simp, hw⟩
end Go.Proofs.YtllpeknpplpgeaaGreatDoor
