/-
  Lists of bytes and their texts: whether two are the same; bytes.Equal. (Part of the proofs over packages check and diff.)
-/
import Derived.Test.YtmkkiedohphpcaaGreatDoorNumList
import Derived.Test.YtmkkiedohphpcaaGreatDoorLaws
namespace Go.Proofs.YtmkkiedohphpcaaGreatDoor
open Go.RowKit
set_option linter.unusedVariables false
theorem str_inj {s t : ByteArray} (h : s.data.toList = t.data.toList) : s = t := by
  cases s with | mk x => cases t with | mk y =>
  simp at h
  rw [h]
theorem toL_iff {s t : ByteArray} : (s.toList == t.toList) = true ↔ s = t := by
  constructor
  · intro h
    have := eq_of_beq h
    rw [ByteArray.toList_eq, ByteArray.toList_eq] at this
    exact str_inj this
  · intro h
    rw [h]
    exact beq_self_eq_true _
theorem toL_no {s t : ByteArray} (h : s ≠ t) : (s.toList == t.toList) = false := by
  cases hq : (s.toList == t.toList) with
  | false => rfl
  | true => exact absurd (toL_iff.1 hq) h
/-- Are two lists the same, told by their texts? -/
theorem strOf_iff {l m : List Int} (hl : Byt l) (hm : Byt m) : strOf l = strOf m ↔ l = m := by
  constructor
  · intro h
    rw [← strL_strOf l hl, ← strL_strOf m hm, h]
  · intro h; rw [h]
end Go.Proofs.YtmkkiedohphpcaaGreatDoor
