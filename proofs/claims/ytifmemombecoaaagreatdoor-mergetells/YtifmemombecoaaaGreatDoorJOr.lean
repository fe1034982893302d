/-
  Slices whose block a call has made. (Part of the proofs over heaps.)
-/
import Derived.Test.YtifmemombecoaaaGreatDoorJNum
namespace Go.Proofs.YtifmemombecoaaaGreatDoor
open Go.RowKit
set_option linter.unusedVariables false
def Fr (B : Nat) (a : Option Addr) : Prop := ∀ x, a = some x -> B <= x.block
theorem Fr.nil (B : Nat) : Fr B none := fun x hx => by cases hx
theorem Fr.at {B g o : Nat} (h : B <= g) : Fr B (some ⟨g, o, none⟩) := fun x hx => by cases hx; exact h
theorem Fr.mono {B B' : Nat} {a : Option Addr} (h : Fr B' a) (hB : B <= B') : Fr B a := fun x hx => Nat.le_trans hB (h x hx)
theorem Fr.ownV {w : World} {B n c : Nat} {a : Option Addr} {l : List Int} (h : OwnV w B (.slice a n c) l) : Fr B a := fun x hx => by
 subst hx
 rcases h.2 with ⟨e, _⟩ | ⟨g, cap, cur, e, hB, _⟩
 ·simp at e
 ·simp only [Value.slice.injEq, Option.some.injEq] at e
  obtain ⟨rfl, _⟩ := e
  exact hB
def EndsF (w : World) (L : List Int) (x : Value) (e : Ending) (w' : World) : Prop :=
 ∃ a cap, e = .returned (.tuple #[.slice a L.length cap, x]) /\ Bs w' a cap L /\ Below w.heap.size w w' /\ Fr w.heap.size a
theorem EndsF.ends {w w' : World} {L : List Int} {x : Value} {e : Ending} (h : EndsF w L x e w') : Ends w L x e w' := by
 obtain ⟨a, cap, h1, h2, h3, _⟩ := h
 exact ⟨a, cap, h1, h2, h3⟩
end Go.Proofs.YtifmemombecoaaaGreatDoor
