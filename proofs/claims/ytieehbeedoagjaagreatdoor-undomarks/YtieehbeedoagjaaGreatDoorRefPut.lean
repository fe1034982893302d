/-
  The contract of the document's own answer for Put (vaultref1.Put). (Part of the proof of NumTells.)
-/
import Derived.Test.YtieehbeedoagjaaGreatDoorNumPlain
import Derived.Test.YtieehbeedoagjaaGreatDoorOwn
namespace Go.Proofs.YtieehbeedoagjaaGreatDoor
open Go.RowKit
set_option linter.unusedVariables false

theorem pow256_bd (k : Nat) (h : k ≤ 4) : (1 : Int) ≤ 256 ^ k ∧ (256 : Int) ^ k ≤ 4294967296 := by
  rcases (show k = 0 ∨ k = 1 ∨ k = 2 ∨ k = 3 ∨ k = 4 from by omega) with rfl | rfl | rfl | rfl | rfl <;> decide

theorem most_pow (s : Nat) (h1 : 1 ≤ s) (h2 : s ≤ 4) : most s + 1 = (256 : Int) ^ s := by
  rcases (show s = 1 ∨ s = 2 ∨ s = 3 ∨ s = 4 from by omega) with rfl | rfl | rfl | rfl <;> decide

end Go.Proofs.YtieehbeedoagjaaGreatDoor
