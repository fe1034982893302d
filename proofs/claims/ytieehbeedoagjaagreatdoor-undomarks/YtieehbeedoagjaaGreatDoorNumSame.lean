/-
  The contract of num.Same. (Part of the proofs of NumLow, NumTells.)
-/
import Derived.Test.YtieehbeedoagjaaGreatDoorNumAhead
namespace Go.Proofs.YtieehbeedoagjaaGreatDoor
open Go.RowKit
set_option linter.unusedVariables false

set_option maxHeartbeats 400000 in
theorem nSame_any (a a' : Option Addr) (cap cap' : Nat) (l m : List Int) (w : World) (hbs : Bs w a cap l) (hbs' : Bs w a' cap' m) :
    Calls Tryz.prog 38 #[.slice a l.length cap, .slice a' m.length cap'] w fun e w' => ∃ i : Nat, e = .returned (.int .i64 i) ∧ First (fun j => (l.getD j 0 != m.getD j 0)) (min l.length m.length) i ∧ Below w.heap.size w w' := by
  by_cases hlt : m.length < l.length
  · rw [Nat.min_eq_right (Nat.le_of_lt hlt)]
    go_enter Tryz.func38, Tryz.ntmps38
    go_wp2_with fail
    refine (ahead_same _ _ a a' cap cap' m.length l m _ (hbs.below (((Below.refl _ _).alloc (Nat.le_refl _) _).alloc (by simp) _)) (hbs'.below (((Below.refl _ _).alloc (Nat.le_refl _) _).alloc (by simp) _)) (by omega) (by omega) (by simp) (by simp)).mono ?_
    rintro e w1 ⟨i, rfl, hf, n, rfl⟩
    have HF := hide hf
    clear hf
    go_wp2
    go_ret
    exact ⟨i, rfl, unhide HF, below_drewN (((Below.refl _ _).alloc (Nat.le_refl _) _).alloc (by simp) _) _⟩
  · rw [Nat.min_eq_left (by omega)]
    go_enter Tryz.func38, Tryz.ntmps38
    go_wp2_with fail
    refine (ahead_same _ _ a a' cap cap' l.length l m _ (hbs.below (((Below.refl _ _).alloc (Nat.le_refl _) _).alloc (by simp) _)) (hbs'.below (((Below.refl _ _).alloc (Nat.le_refl _) _).alloc (by simp) _)) (by omega) (by omega) (by simp) (by simp)).mono ?_
    rintro e w1 ⟨i, rfl, hf, n, rfl⟩
    have HF := hide hf
    clear hf
    go_wp2
    go_ret
    exact ⟨i, rfl, unhide HF, below_drewN (((Below.refl _ _).alloc (Nat.le_refl _) _).alloc (by simp) _) _⟩
end Go.Proofs.YtieehbeedoagjaaGreatDoor
