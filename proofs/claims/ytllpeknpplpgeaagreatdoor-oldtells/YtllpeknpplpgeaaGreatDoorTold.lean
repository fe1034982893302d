/-
  The contracts of plain.Told and of vaultsame.Error. (Part of the proofs of laws that ask which error was told.)
-/
import Derived.Test.YtllpeknpplpgeaaGreatDoorTellAs
namespace Go.Proofs.YtllpeknpplpgeaaGreatDoor
open Go.RowKit
set_option linter.unusedVariables false

/-- plain.Told of nil. -/
theorem told_nil (w : World) : Calls Tryz.prog 27 #[.nilIface] w fun e w' => e = .returned (.int .i64 0) ∧ w = w' := by
  go_enter Tryz.func27, Tryz.ntmps27
  go_wp2
  go_ret
  exact ⟨rfl, rfl⟩

set_option maxRecDepth 100000 in
set_option maxHeartbeats 1000000 in
/-- plain.Told of an error's number. -/
theorem told_errno (k : Int) (w : World) (hg : ErrT w) : Calls Tryz.prog 27 #[.iface 63 (.int .i64 k)] w fun e w' => e = .returned (.int .i64 k) ∧ Below w.heap.size w w' := by
  have hgA : (w.alloc (.cells #[.int .i64 0] 63)).cell? ⟨0, 0, none⟩ = some (.iface 166 (.agg #[.pointer (some ⟨1, 26, none⟩)])) := hg.below ((Below.refl _ _).alloc (Nat.le_refl _) _)
  have htA : (w.alloc (.cells #[.int .i64 0] 63)).cell? ⟨w.heap.size, 0, none⟩ = some (.int .i64 0) := by simp
  have hfA : (w.alloc (.cells #[.int .i64 0] 63)).frozen? ⟨w.heap.size, 0, none⟩ = false := by simp
  have has := as_errno k ⟨w.heap.size, 0, none⟩ (.int .i64 0) _ hgA htA hfA
  have HAS := hide has
  clear has hgA htA hfA hg
  go_enter Tryz.func27, Tryz.ntmps27
  go_wp2_with fail
  refine (unhide HAS).mono ?_
  rintro e w1 ⟨rfl, rfl⟩
  go_wp2
  go_ret
  exact ⟨rfl, (((((Below.refl _ _).alloc (Nat.le_refl _) _).alloc (by simp) _).alloc (by simp; omega) _).alloc (by simp; omega) _).alloc (by simp; omega) _⟩

/-- vaultsame.Error of nil. -/
theorem error_nil (x : Int) (w : World) : Calls Tryz.prog 7 #[.nilIface, .int .i64 x] w fun e w' => e = .returned (.bool (0 == x)) ∧ w = w' := by
  go_enter Tryz.func7, Tryz.ntmps7
  go_wp2_with (go_at_call 27; refine (told_nil _).mono ?_; rintro e w' ⟨rfl, rfl⟩)
  go_ret
  exact ⟨rfl, rfl⟩

/-- vaultsame.Error of an error's number. -/
theorem error_errno (k x : Int) (w : World) (hg : ErrT w) : Calls Tryz.prog 7 #[.iface 63 (.int .i64 k), .int .i64 x] w fun e w' => e = .returned (.bool (k == x)) ∧ Below w.heap.size w w' := by
  go_enter Tryz.func7, Tryz.ntmps7
  go_wp2_with fail
  refine (told_errno k w hg).mono ?_
  rintro e w1 ⟨rfl, hb⟩
  go_wp2
  go_ret
  exact ⟨rfl, hb⟩
end Go.Proofs.YtllpeknpplpgeaaGreatDoor
