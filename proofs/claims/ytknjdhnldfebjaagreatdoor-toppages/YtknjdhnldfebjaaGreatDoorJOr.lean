/-
  Joined by program: Fresh; OpRow. (Parts of the proofs over the packages of the program.)
-/
import Derived.Test.YtknjdhnldfebjaaGreatDoorJNum
import Derived.Test.YtknjdhnldfebjaaGreatDoorJOp
import Derived.Test.YtknjdhnldfebjaaGreatDoorJPy
import Derived.Test.YtknjdhnldfebjaaGreatDoorJHp
namespace Go.Proofs.YtknjdhnldfebjaaGreatDoor
open Go.RowKit
set_option linter.unusedVariables false
def Fr (B : Nat) (a : Option Addr) : Prop := ∀ x, a = some x → B ≤ x.block
theorem Fr.ownV {w : World} {B n c : Nat} {a : Option Addr} {l : List Int} (h : OwnV w B (.slice a n c) l) : Fr B a := fun x hx => by
 subst hx
 rcases h.2 with ⟨e, _⟩ | ⟨g, cap, cur, e, hB, _⟩
 ·simp at e
 ·simp only [Value.slice.injEq, Option.some.injEq] at e
  obtain ⟨rfl, _⟩ := e
  exact hB
end Go.Proofs.YtknjdhnldfebjaaGreatDoor
namespace Go.Proofs.YtknjdhnldfebjaaGreatDoor
open Go.RowKit
set_option linter.unusedVariables false
section
variable {w w' : World} {g : Nat} {r : OpR}
end
end Go.Proofs.YtknjdhnldfebjaaGreatDoor
