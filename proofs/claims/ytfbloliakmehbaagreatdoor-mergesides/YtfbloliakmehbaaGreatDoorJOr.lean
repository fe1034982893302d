/-
  Parts of the proofs, joined by program.
-/
import Derived.Test.YtfbloliakmehbaaGreatDoorJNum
import Derived.Test.YtfbloliakmehbaaGreatDoorJOp
import Derived.Test.YtfbloliakmehbaaGreatDoorJPy
import Derived.Test.YtfbloliakmehbaaGreatDoorJHp
namespace Go.Proofs.YtfbloliakmehbaaGreatDoor
open Go.RowKit
set_option linter.unusedVariables false
def Fr (B : Nat) (a : Option Addr) : Prop := ∀ x, a = some x -> B <= x.block
theorem Fr.nil (B : Nat) : Fr B none := fun x hx => by cases hx
theorem Fr.at {B g o : Nat} (h : B <= g) : Fr B (some ⟨g, o, none⟩) := fun x hx => by cases hx; exact h
theorem Fr.mono {B B' : Nat} {a : Option Addr} (h : Fr B' a) (hB : B <= B') : Fr B a := fun x hx => Nat.le_trans hB (h x hx)
theorem Fr.ownV {w : World} {B n c : Nat} {a : Option Addr} {l : List Int} (h : OwnV w B (.slice a n c) l) : Fr B a := fun x hx => by
 subst hx
 rcases h.2 with ⟨e, _⟩ | ⟨g, cap, cur, e, hB, _⟩
 ·simp at e
 ·simp only [Value.slice.injEq, Option.some.injEq] at e
  obtain ⟨rfl, _⟩ := e
  exact hB
def EndsF (w : World) (L : List Int) (x : Value) (e : Ending) (w' : World) : Prop :=
 ∃ a cap, e = .returned (.tuple #[.slice a L.length cap, x]) /\ Bs w' a cap L /\ Below w.heap.size w w' /\ Fr w.heap.size a
theorem EndsF.ends {w w' : World} {L : List Int} {x : Value} {e : Ending} (h : EndsF w L x e w') : Ends w L x e w' := by
 obtain ⟨a, cap, h1, h2, h3, _⟩ := h
 exact ⟨a, cap, h1, h2, h3⟩
def OpB (w : World) (g : Nat) (r : OpR) : Prop := w.heap[g]? = some (.cells #[.int .i64 r.1, .int .i64 r.2.1, .int .i64 r.2.2.1, .int .i64 r.2.2.2.1, .string r.2.2.2.2.1, .slice r.2.2.2.2.2.1 r.2.2.2.2.2.2.2.length r.2.2.2.2.2.2.1] 44 (0, 0))
section
variable {w w' : World} {g : Nat} {r : OpR}
theorem OpB.lt (h : OpB w g r) : g < w.heap.size := (Array.getElem?_eq_some_iff.1 h).1
theorem OpB.below (h : OpB w g r) (hb : Below w.heap.size w w') : OpB w' g r := (hb.block g h.lt).trans h
theorem OpB.turn {S S' : Nat -> Prop} (h : OpB w g r) (ht : Turn S S' w w') (hn : ¬ S g) : OpB w' g r := (ht.block g h.lt hn).trans h
theorem OpB.cells (h : OpB w g r) : w.cell? ⟨g, 0, none⟩ = some (.int .i64 r.1) /\ w.cell? ⟨g, 1, none⟩ = some (.int .i64 r.2.1) /\ w.cell? ⟨g, 2, none⟩ = some (.int .i64 r.2.2.1) /\ w.cell? ⟨g, 3, none⟩ = some (.int .i64 r.2.2.2.1) /\ w.cell? ⟨g, 4, none⟩ = some (.string r.2.2.2.2.1) /\ w.cell? ⟨g, 5, none⟩ = some (.slice r.2.2.2.2.2.1 r.2.2.2.2.2.2.2.length r.2.2.2.2.2.2.1) := by
 simp only [cell_of_row _ _ _ _ _ _ h]
 exact ⟨rfl, rfl, rfl, rfl, rfl, rfl⟩
end
theorem OpB.new (w : World) (r : OpR) : OpB (w.alloc (.cells #[.int .i64 r.1, .int .i64 r.2.1, .int .i64 r.2.2.1, .int .i64 r.2.2.2.1, .string r.2.2.2.2.1, .slice r.2.2.2.2.2.1 r.2.2.2.2.2.2.2.length r.2.2.2.2.2.2.1] 44)) w.heap.size r := heap_alloc_new w _
theorem Hp.footLt {w : World} {B p g c : Nat} {L : List Int} (h : Hp w B p g c L) : ∀ k, foot p g k -> k < w.heap.size := fun k hk => by
 rcases hk with rfl | rfl
 ·exact h.plt
 ·exact h.glt
theorem BsO.fresh {w w' : World} {B p g c : Nat} {L : List Int} (hh : Hp w B p g c L) {a : Option Addr} {cap : Nat} {l : List Int} (h : Bs w' a cap l) (hf : Fr w.heap.size a) : BsO w' (foot p g) a cap l :=
 ⟨h, fun _ x hx hs => by have h1 := hf x hx; have h2 := hh.footLt _ hs; omega⟩
end Go.Proofs.YtfbloliakmehbaaGreatDoor
