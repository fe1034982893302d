/-
  What vaultref1.Zero answers of zeros. (Part of the proof of StampRow.)
-/
import Derived.Test.YtnpdejlbknjhnaaEnds
import Derived.Test.YtnpdejlbknjhnaaNumPut
namespace Go.Proofs.Ytnpdejlbknjhnaa
open Go.RowKit
set_option linter.unusedVariables false

theorem zero_zeros (a : Option Addr) (cap n : Nat) (w : World) (hb : Bs w a cap (zerosB n)) :
    Calls Try.prog 8 #[.slice a n cap] w fun e w' => e = .returned (.bool true) ∧ w = w' := by
  have hn : n ≤ 140737488351232 := by have := hb.2.2.1; rwa [length_zerosB] at this
  have HB := hide hb
  clear hb
  go_enter Try.func8, Try.ntmps8
  go_wp2_with fail
  go_loop [3] (fun v => ∃ k : Nat, k ≤ n ∧ v = .int .i64 k) (fun v => n - (intOf v).toNat)
  case atStart => exact ⟨0, by omega, rfl⟩
  case round =>
    obtain ⟨k, hk, rfl⟩ := hrel
    by_cases hlt : k < n
    · obtain ⟨b, off, rfl, hc⟩ := (unhide HB).2.2.2.2 (by intro e; have := length_zerosB n; rw [e] at this; simp at this; omega)
      have hz := hc k (by rw [length_zerosB]; exact hlt)
      have e0 : (zerosB n).getD k 0 = 0 := by simp [zerosB, List.getD, hlt]
      rw [e0] at hz
      clear hc e0
      go_wp2
      go_round
      case rel => exact ⟨k + 1, by omega, by go_num⟩
      case measure => simp [intOf]; omega
    · obtain rfl : k = n := by omega
      go_wp2
      go_ret
      exact ⟨rfl, rfl⟩
end Go.Proofs.Ytnpdejlbknjhnaa
