/-
  Contract of vaultsame.Ints, over rows of numbers. (Part of the proofs over packages reach and undo.)
-/
import Derived.Test.YtifmemombecoaaaGreatDoorJInc
import Derived.Test.YtifmemombecoaaaGreatDoorJHp
import Derived.Deep.QuietTactic
namespace Go.Proofs.YtifmemombecoaaaGreatDoor
open Go.RowKit
set_option linter.unusedVariables false
theorem insame_any (a1 a2 : Option Addr) (c1 c2 : Nat) (l : List Int) (w : World) (h1 : Sls inC 1 w a1 c1 l) (h2 : Sls inC 1 w a2 c2 l) :
  Calls Tryz.prog 9 #[.slice a1 l.length c1, .slice a2 l.length c2] w fun e w' => e = .returned (.bool true) /\ Below w.heap.size w w' := by
 have hl := h1.2.2.1
 have H1 := hide h1
 have H2 := hide h2
 clear h1 h2
 go_enter Tryz.func9, Tryz.ntmps9
 go_wp2_with fail
 go_loopw [5] (fun iv wr => ∃ (k m : Nat), k <= l.length /\ iv = .int .i64 k /\ wr = w.drewN m) (fun iv _ => l.length - (intOf iv).toNat)
 case atStart => exact ⟨0, 0, Nat.zero_le _, rfl, rfl⟩
 case round =>
  obtain ⟨k, m, hk, rfl, rfl⟩ := hrel
  by_cases hlt : k < l.length
  ·have hne : l ≠ [] := by intro e; rw [e] at hlt; simp at hlt
   obtain ⟨b1, o1, rfl, hc1⟩ := (unhide H1).2.2.2 hne
   obtain ⟨b2, o2, rfl, hc2⟩ := (unhide H2).2.2.2 hne
   obtain ⟨x, hx⟩ : ∃ x, l[k]? = some x := ⟨l[k], List.getElem?_eq_getElem hlt⟩
   have q0 := Sls.num (cap := 0) hc1 hx
   have r0 := Sls.num (cap := 0) hc2 hx
   clear hc1 hc2 hne hx
   go_wp2_with fail
   go_quiet (fail)
   go_wp2
   go_roundw
   case rel => exact ⟨k + 1, m + nq, by omega, by go_num, rfl⟩
   case measure => simp [intOf]; omega
  ·obtain rfl : k = l.length := by omega
   go_wp2
   go_ret
   exact ⟨rfl, below_drewN (Below.refl _ _) m⟩
end Go.Proofs.YtifmemombecoaaaGreatDoor
