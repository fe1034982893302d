/-
  Parts of the proofs, joined by program.
-/
import Derived.Test.YtecodmiendedfaaGreatDoorJPo
import Derived.Test.YtecodmiendedfaaGreatDoorJIn
import Derived.Test.YtecodmiendedfaaGreatDoorJWy
import Derived.Test.YtecodmiendedfaaGreatDoorJRh
namespace Go.Proofs.YtecodmiendedfaaGreatDoor
open Go.RowKit
set_option linter.unusedVariables false
section
variable {w0 w w' : World} {t p q : Nat} {S S' : Nat -> Prop} {D D' : DS} {s : Int} {m n x g c : Nat} {L M : List Int} {gk ck : Nat} {K : List Int} {cut : Bool}
end
section
variable {w0 w w' : World} {t p x m n : Nat} {P : Ps} {F : Nat -> Prop}
end
section
variable {w0 w w' : World} {t p x m n t2 x2 : Nat} {L K : List Int} {s : Int}
end
section
variable {m n : Nat} {l : List OpP}
end
section
variable {m : Nat}
end
section
variable {w0 w w' : World} {t p x m n : Nat} {P Q : Ps} {l : List OpR} {k : Nat} {kv : Value}
end
section
variable {w0 w w' : World} {t p x m n : Nat} {P : Ps} {F : Nat -> Prop} {D : DS} {s : Int} {L K : List Int}
theorem drtN_succ (K L : List Int) (i : Nat) : drtN K L (i + 1) = drtN K L i ++ (if prt K i = prt L i then [] else [i]) := by
 unfold drtN
 rw [List.range_succ, List.filter_append]
 by_cases h : prt K i = prt L i
 ·rw [if_pos h]; simp [h]
 ·rw [if_neg h]; simp [h]
variable {kv : Value}
end
end Go.Proofs.YtecodmiendedfaaGreatDoor
