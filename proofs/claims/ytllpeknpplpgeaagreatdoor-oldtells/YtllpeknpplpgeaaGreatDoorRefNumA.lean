/-
  The contract of the document's own answer for a number (vaultref1.Number). (Part of the proofs of NumTells, StampTells.)
-/
import Derived.Test.YtllpeknpplpgeaaGreatDoorNumList
namespace Go.Proofs.YtllpeknpplpgeaaGreatDoor
open Go.RowKit
set_option linter.unusedVariables false

theorem numOf_drop (l : List Int) (j : Nat) (h : j < l.length) : numOf (l.drop j) = l.getD j 0 + 256 * numOf (l.drop (j + 1)) := by
  rw [List.drop_eq_getElem_cons h]
  simp [numOf, List.getD, h]

theorem numOf_drop_bd (l : List Int) (hb : Byt l) (h4 : l.length ≤ 4) (j : Nat) : 0 ≤ numOf (l.drop j) ∧ numOf (l.drop j) ≤ 4294967295 := by
  have h := numOf_bd (l.drop j) (fun z hz => hb z (List.mem_of_mem_drop hz))
  have h2 : (256 : Int) ^ (l.drop j).length ≤ 4294967296 := by
    have h3 : (l.drop j).length ≤ 4 := by simp; omega
    rcases (show (l.drop j).length = 0 ∨ (l.drop j).length = 1 ∨ (l.drop j).length = 2 ∨ (l.drop j).length = 3 ∨ (l.drop j).length = 4 from by omega) with e | e | e | e | e <;> rw [e] <;> decide
  omega

set_option maxRecDepth 100000 in
theorem rNumber (a : Option Addr) (cap : Nat) (l : List Int) (w : World) (hbs : Bs w a cap l) (h4 : l.length ≤ 4) :
    Calls Tryz.prog 19 #[.slice a l.length cap] w fun e w' => e = .returned (.int .i64 (numOf l)) ∧ w = w' := by
  go_enter Tryz.func19, Tryz.ntmps19
  go_wp2
  go_loop [3, 4] (fun n i => ∃ j : Nat, j ≤ l.length ∧ i = .int .i64 ((j : Int) - 1) ∧ n = .int .i64 (numOf (l.drop j))) (fun _ i => (intOf i + 1).toNat)
  case atStart => exact ⟨l.length, Nat.le_refl _, rfl, by simp [numOf]⟩
  case round =>
    obtain ⟨j, hj, rfl, rfl⟩ := hrel
    by_cases h0 : 1 ≤ j
    · obtain ⟨i, rfl⟩ : ∃ i, j = i + 1 := ⟨j - 1, by omega⟩
      obtain ⟨b, off, rfl, hc⟩ := hbs.2.2.2.2 (by intro h; subst h; simp at hj)
      have hx := hc i (by omega)
      have hy := hbs.1.getD i
      have hd := numOf_drop l i (by omega)
      have hbd := numOf_drop_bd l hbs.1 h4 (i + 1)
      have hji : ((i + 1 : Nat) : Int) - 1 = (i : Int) := by omega
      rw [hji]
      clear hji
      have HD := hide hd
      clear hd hc hbs
      generalize l.getD i 0 = c at *
      generalize numOf (l.drop (i + 1)) = n at *
      go_wp2
      go_round
      case rel => exact ⟨i, by omega, rfl, by rw [unhide HD]; go_num⟩
      case measure => simp [intOf]
    · obtain rfl : j = 0 := by omega
      go_wp2
      go_ret
      exact ⟨rfl, rfl⟩
end Go.Proofs.YtllpeknpplpgeaaGreatDoor
