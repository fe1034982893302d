/-
  What num.isLetter answers. (Part of the proofs over package num.)
-/
import Derived.Test.YtllpeknpplpgeaaGreatDoorProg
import Derived.WalkKit
import Derived.BigQuiet
import Derived.WalkLawsBesides
namespace Go.Proofs.YtllpeknpplpgeaaGreatDoor
open Go.RowKit
set_option linter.unusedVariables false


def ltr (c : Int) : Bool := decide (97 ≤ c ∧ c ≤ 122)

theorem isLetter_any (c : Int) (w : World) :
    Calls Tryz.prog 79 #[.int .u8 c] w fun e w' => e = .returned (.bool (ltr c)) ∧ w = w' := by
  by_cases h1 : 97 ≤ c
  · by_cases h2 : c ≤ 122
    · have hl : ltr c = true := by simp [ltr, h1, h2]
      rw [hl]; clear hl
      go_enter Tryz.func79, Tryz.ntmps79
      go_wp2
      go_ret
      exact ⟨rfl, rfl⟩
    · have hl : ltr c = false := by simp [ltr]; omega
      rw [hl]; clear hl
      go_enter Tryz.func79, Tryz.ntmps79
      go_wp2
      go_ret
      exact ⟨rfl, rfl⟩
  · have hl : ltr c = false := by simp [ltr]; omega
    rw [hl]; clear hl
    go_enter Tryz.func79, Tryz.ntmps79
    go_wp2
    go_ret
    exact ⟨rfl, rfl⟩
end Go.Proofs.YtllpeknpplpgeaaGreatDoor
