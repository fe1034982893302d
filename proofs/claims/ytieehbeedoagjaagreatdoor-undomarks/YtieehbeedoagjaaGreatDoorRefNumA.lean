/-
  The contract of the document's own answer for a number (vaultref1.Number). (Part of the proofs of NumTells, StampTells.)
-/
import Derived.Test.YtieehbeedoagjaaGreatDoorNumList
namespace Go.Proofs.YtieehbeedoagjaaGreatDoor
open Go.RowKit
set_option linter.unusedVariables false

theorem numOf_drop (l : List Int) (j : Nat) (h : j < l.length) : numOf (l.drop j) = l.getD j 0 + 256 * numOf (l.drop (j + 1)) := by
  rw [List.drop_eq_getElem_cons h]
  simp [numOf, List.getD, h]

theorem numOf_drop_bd (l : List Int) (hb : Byt l) (h4 : l.length ≤ 4) (j : Nat) : 0 ≤ numOf (l.drop j) ∧ numOf (l.drop j) ≤ 4294967295 := by
  have h := numOf_bd (l.drop j) (fun z hz => hb z (List.mem_of_mem_drop hz))
  have h2 : (256 : Int) ^ (l.drop j).length ≤ 4294967296 := by
    have h3 : (l.drop j).length ≤ 4 := by simp; omega
    rcases (show (l.drop j).length = 0 ∨ (l.drop j).length = 1 ∨ (l.drop j).length = 2 ∨ (l.drop j).length = 3 ∨ (l.drop j).length = 4 from by omega) with e | e | e | e | e <;> rw [e] <;> decide
  omega

end Go.Proofs.YtieehbeedoagjaaGreatDoor
