/-
  Parts of the proofs, joined by program.
-/
import Derived.Test.YtecodmiendedfaaGreatDoorJPg
import Derived.Laws.ResultCell
import Derived.Deep.RegionHeld3
namespace Go.Proofs.YtecodmiendedfaaGreatDoor
open Go.RowKit
set_option linter.unusedVariables false
section
variable {w : World}
end
end Go.Proofs.YtecodmiendedfaaGreatDoor
namespace Go.Proofs.YtecodmiendedfaaGreatDoor
open Go.RowKit Go.MapKept Go.ChangeMaps
open Go.Maps (Keyed)
set_option linter.unusedVariables false
end Go.Proofs.YtecodmiendedfaaGreatDoor
namespace Go.Proofs.YtecodmiendedfaaGreatDoor
open Go.RowKit
set_option linter.unusedVariables false
section
variable {w0 w : World} {p : Nat} {S : Nat -> Prop} {D : DS}
end
section
variable {w0 w : World} {p : Nat} {S : Nat -> Prop} {D : DS}
end
theorem format_left (n : Nat) : (formatRun (DS.new n)).1.left < 0 := by
 have h0 : Ever (DS.new n, 0) := ⟨by show (-1 : Int) < 0; decide, fun _ => rfl, by show (0 : Int) ≠ 9; decide⟩
 exact ((h0.w _ _).w _ _).f.1
section
variable {w w' : World} {S S' : Nat -> Prop} {t n : Nat} {F : Nat -> List Int}
end
structure Bsd (w0 w : World) (p q : Nat) (S : Nat -> Prop) (D : DS) (s : Int) (T : Nat -> Prop) : Prop where
 live : Live w0 w p S D
 pg : PgAt w q p s
 out : ¬ S q
 base : w0.heap.size <= q
 apart : ∀ k, T k -> ¬ plus S q k
 tlt : ∀ k, T k -> k < w.heap.size
 tb : ∀ k, T k -> w0.heap.size <= k
section
variable {w0 w w' : World} {p q : Nat} {S S' : Nat -> Prop} {D D' : DS} {s s' : Int} {T T' U : Nat -> Prop}
theorem Bsd.plt (h : Bsd w0 w p q S D s T) : ∀ k, plus S q k -> k < w.heap.size := fun k hk => by
 rcases hk with hk | rfl
 ·exact h.live.dev.lt k hk
 ·exact h.pg.lt
theorem Bsd.size (h : Bsd w0 w p q S D s T) : w0.heap.size <= w.heap.size := h.live.bel.size
theorem Bsd.below (h : Bsd w0 w p q S D s T) (hb : Below w.heap.size w w') : Bsd w0 w' p q S D s T :=
 ⟨h.live.below hb, h.pg.below hb, h.out, h.base, h.apart, fun k hk => Nat.lt_of_lt_of_le (h.tlt k hk) hb.size, h.tb⟩
theorem Bsd.other (h : Bsd w0 w p q S D s T) {U U' : Nat -> Prop} (ht : Turn U U' w w') (hU : ∀ k, U k -> T k) (hT : ∀ k, T' k -> k < w'.heap.size /\ (k < w.heap.size -> T k)) : Bsd w0 w' p q S D s T' := by
 have hn : ∀ k, plus S q k -> ¬ U k := fun k hk hu => h.apart k (hU k hu) hk
 have hge : ∀ k, U k -> w0.heap.size <= k := fun k hk => h.tb k (hU k hk)
 refine ⟨⟨h.live.dev.turn ht (fun k hk => hn k (.inl hk)), h.live.bel.trans (ht.below hge h.size), h.live.base⟩, (h.pg.turn ht (hn q (.inr rfl))).1, h.out, h.base, fun k hk hs => ?_, fun k hk => (hT k hk).1, fun k hk => ?_⟩
 ·exact h.apart k ((hT k hk).2 (h.plt k hs)) hs
 ·rcases Nat.lt_or_ge k w.heap.size with h1 | h1
  ·exact h.tb k ((hT k hk).2 h1)
  ·exact Nat.le_trans h.size h1
theorem Bsd.pages (h : Bsd w0 w p q S D s T) (hl : Live w0 w' p S' D') (hp : PgAt w' q p s') (ho : ¬ S' q) (ht : Turn (plus S q) (plus S' q) w w') : Bsd w0 w' p q S' D' s' T :=
 ⟨hl, hp, ho, h.base, fun k hk hs => h.apart k hk (ht.foot k (h.tlt k hk) hs), fun k hk => Nat.lt_of_lt_of_le (h.tlt k hk) ht.size, h.tb⟩
theorem Bsd.keep (h : Bsd w0 w p q S D s T) (ht : Turn (plus S q) (plus S' q) w w') (k : Nat) (hk : T k) : w'.heap[k]? = w.heap[k]? := ht.block k (h.tlt k hk) (h.apart k hk)
end
end Go.Proofs.YtecodmiendedfaaGreatDoor
