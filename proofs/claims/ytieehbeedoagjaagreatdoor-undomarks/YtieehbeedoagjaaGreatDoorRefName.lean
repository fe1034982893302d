/-
  The contracts of the document's own answers for names (vaultref1.Name, NameBytes, ReadName). (Part of the proof of NumTells.)
-/
import Derived.Test.YtieehbeedoagjaaGreatDoorNumPlain
namespace Go.Proofs.YtieehbeedoagjaaGreatDoor
open Go.RowKit
set_option linter.unusedVariables false

theorem empty_yes (s : ByteArray) (h : s.size = 0) : s.toList.isEmpty = true := by
  have he : s = ByteArray.empty := by simpa using h
  have := Classical.propDecidable (s = ByteArray.empty)
  rw [← decide_eq_emptyBytes]
  exact decide_eq_true he

theorem empty_no (s : ByteArray) (h : 1 ≤ s.size) : s.toList.isEmpty = false := by
  have := Classical.propDecidable (s = ByteArray.empty)
  rw [← decide_eq_emptyBytes]
  refine decide_eq_false ?_
  intro he
  rw [he] at h
  simp at h

theorem ltr_bd (c : Int) (h : ltr c = true) : 97 ≤ c ∧ c ≤ 122 := by simpa [ltr] using h
theorem ltr_no (c : Int) (h : ltr c = false) : c < 97 ∨ 122 < c := by
  by_cases h1 : 97 ≤ c
  · by_cases h2 : c ≤ 122
    · simp [ltr, h1, h2] at h
    · omega
  · omega

/-- Zeros, of which the first k are those of s. -/
def nameK (s : ByteArray) : Nat → List Int
  | 0 => zerosB 8
  | k + 1 => (nameK s k).set k ((strL s).getD k 0)
theorem length_nameK (s : ByteArray) (k : Nat) : (nameK s k).length = 8 := by
  induction k with
  | zero => exact length_zerosB 8
  | succ k ih => simp [nameK, ih]
theorem nameK_getD (s : ByteArray) (k : Nat) (hk : k ≤ 8) : ∀ j, j < 8 → (nameK s k).getD j 0 = if j < k then (strL s).getD j 0 else 0 := by
  induction k with
  | zero =>
    intro j hj
    have := zeros_getD 8 0 j
    simpa [nameK] using this
  | succ k ih =>
    intro j hj
    have hlen := length_nameK s k
    by_cases h : j = k
    · subst h
      rw [if_pos (by omega)]
      simp only [nameK, List.getD]
      rw [List.getElem?_set_self (by omega)]
      rfl
    · have h1 := ih (by omega) j hj
      simp only [nameK, List.getD] at h1 ⊢
      rw [List.getElem?_set_ne (by omega), h1]
      by_cases h2 : j < k
      · rw [if_pos h2, if_pos (by omega)]
      · rw [if_neg h2, if_neg (by omega)]
theorem nameK_size (s : ByteArray) (h : s.size ≤ 8) : nameK s s.size = nameL s := by
  apply ext_getD (by rw [length_nameK, length_nameL s h])
  intro j hj
  rw [length_nameK] at hj
  rw [nameK_getD s s.size h j hj]
  by_cases h1 : j < s.size
  · rw [if_pos h1, nameL_lo s j h1]
  · rw [if_neg h1, nameL_hi s j (by omega)]

theorem drop_getD (l : List Int) (n j : Nat) : (l.drop n).getD j 0 = l.getD (n + j) 0 := by simp [List.getD]

end Go.Proofs.YtieehbeedoagjaaGreatDoor
