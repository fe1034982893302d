/-
  Two stores over one device: one that was opened, and one that goes on with its heap alone. (Part of the proof of StoreTwice.)
-/
import Derived.Test.YtknjdhnldfebjaaGreatDoorJPo
namespace Go.Proofs.YtknjdhnldfebjaaGreatDoor
open Go.RowKit
set_option linter.unusedVariables false
section
variable {w0 w w' : World} {t p q : Nat} {S S' : Nat → Prop} {D D' : DS} {s : Int} {m n x g c : Nat} {L M : List Int} {gk ck : Nat} {K : List Int} {cut : Bool}
theorem Sto.reopen {F' : Nat → Prop} (h : Sto w0 w t p q S D s m x g c L gk ck K cut) (hl : Live w0 w' p S' D') (ht : Turn S F' w w') (hS : ∀ k, S' k → F' k) (hn : D'.secs.length = D.secs.length) : Sto w0 w' t p q S' D' s m x g c L gk ck K cut := by
 have hq : ¬ S q := h.bsd.out
 have hq' : ¬ S' q := fun hs => hq (ht.foot q h.bsd.pg.lt (hS q hs))
 refine h.pages hl (h.bsd.pg.same (ht.block q h.bsd.pg.lt hq)) hq' ⟨ht.os, ht.tape, ht.output, ht.size, fun k hk hn => ht.block k hk (fun hs => hn (.inl hs)), fun k hk hs => ?_⟩ hn
 rcases hs with hs | hs
 ·exact .inl (ht.foot k hk (hS k hs))
 ·exact .inr hs
end
section
variable {w0 w w' : World} {t p x m n : Nat} {P : Ps} {F : Nat → Prop}
end
section
variable {w0 w w' : World} {t p x m n t2 x2 : Nat} {L K : List Int} {s : Int}
end
end Go.Proofs.YtknjdhnldfebjaaGreatDoor
