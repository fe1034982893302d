/-
  Contracts of package root: All, Get. (Part of the proofs over package root.)
-/
import Derived.Test.YtifmemombecoaaaGreatDoorJRtp
import Derived.Test.YtifmemombecoaaaGreatDoorJSe
import Derived.Test.YtifmemombecoaaaGreatDoorJHp
import Derived.Test.YtifmemombecoaaaGreatDoorJIn
namespace Go.Proofs.YtifmemombecoaaaGreatDoor
open Go.RowKit
set_option linter.unusedVariables false
theorem Lst.lowA {α : Type} {enc : α -> List Value} {k T : Nat} {w : World} {B B' : Nat} {v : Value} {l : List α} (h : Lst enc k T w B' v l) (hB : B <= B') : Lst enc k T w B v l := by
 refine ⟨h.1, ?_⟩
 rcases h.2 with h0 | ⟨g, cap, cur, e, h1, h2⟩
 ·exact .inl h0
 ·exact .inr ⟨g, cap, cur, e, Nat.le_trans hB h1, h2⟩
theorem root_pos {L : List Int} (hf : Fine L) {s : ByteArray} {x : Int} (hm : (s, x) ∈ rootsK L 8) : 1 <= x := by
 obtain ⟨i, hi, hr, e⟩ := mem_rootsK_iff.1 hm
 have h2 : (rowAt L i).getD 10 0 = x := congrArg Prod.snd e
 rw [<- h2]
 exact (lead_obj hf hi hr).1
section
variable {w : World} {B p g c : Nat} {L : List Int}
end
end Go.Proofs.YtifmemombecoaaaGreatDoor
