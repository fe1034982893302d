/-
  Parts of the proofs, joined by program.
-/
import Derived.Test.YtifmemombecoaaaGreatDoorJHp
import Derived.Test.YtifmemombecoaaaGreatDoorJCut
import Derived.Test.YtifmemombecoaaaGreatDoorJExa
import Derived.Test.YtifmemombecoaaaGreatDoorJHal
import Derived.Deep.RegionHeld3
namespace Go.Proofs.YtifmemombecoaaaGreatDoor
open Go.RowKit Go.Sort
set_option linter.unusedVariables false
theorem hPart_run (g c : Nat) (L : List Int) (x n : Nat) (w : World) (hbs : Bs w (some ⟨g, 0, none⟩) c L) (hx : x + n <= L.length) :
  ∃ q, (∀ w', (Instr.slice 22 (.slice (some ⟨g, 0, none⟩) L.length c) (some (.int .i64 x)) (some (.int .i64 ((x : Int) + n))) none).run Tryz.prog w' = .ok (.slice q n (c - x)) w') /\ Bs w q (c - x) ((L.drop x).take n) /\ (0 < n -> q = some ⟨g, x, none⟩) := by
 rcases Nat.eq_zero_or_pos n with rfl | hn
 ·obtain ⟨a1, hs1, hb1⟩ := slice_lohi (P := Tryz.prog) (t := 22) Tryz.underlying22 size_u8 hbs x (x + 0) (by omega) hx
  rw [show x + 0 - x = 0 by omega] at hs1 hb1
  exact ⟨a1, fun w' => by have := hs1 w'; rw [show ((x + 0 : Nat) : Int) = (x : Int) + ((0 : Nat) : Int) by omega] at this; exact this, hb1, fun h => absurd h (Nat.lt_irrefl _)⟩
 ·have hc := hbs.2.1
  refine ⟨some ⟨g, x, none⟩, fun w' => cut2_row (P := Tryz.prog) (t := 22) Tryz.underlying22 size_u8 g c L.length x n hx hc (by omega) w', ?_, fun _ => rfl⟩
  have := (hbs.drop x (by omega)).take n
  rw [if_neg (by omega)] at this
  simpa [addr_add] using this
end Go.Proofs.YtifmemombecoaaaGreatDoor
