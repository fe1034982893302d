/-
  Contracts of package image: Entries. (Part of the proofs over package image.)
-/
import Derived.Test.YtbohnnflddfidaaImRow
namespace Go.Proofs.Ytbohnnflddfidaa
open Go.RowKit
set_option linter.unusedVariables false

def lenE (n : Int) : Int := if lenB n = true then 0 else 3
theorem tag_chk {l : List Int} {h : Int} (hq : lenB l.length = true) (h1 : 1 ≤ h) (h2 : h ≤ 40) (ht : tagAt l h ≠ 0) : chkE l h = 0 := chkE_zero.2 ⟨hq, hndB_iff.2 ⟨h1, h2⟩, ht⟩
theorem entsK_yes {l : List Int} {k : Nat} (ht : tagAt l ((k : Int) + 1) ≠ 0) : entsK l (k + 1) = entsK l k ++ [entOf l ((k : Int) + 1)] := by
  show entsK l k ++ _ = _
  rw [if_neg ht]
theorem entsK_no {l : List Int} {k : Nat} (ht : tagAt l ((k : Int) + 1) = 0) : entsK l (k + 1) = entsK l k := by
  show entsK l k ++ _ = _
  rw [if_pos ht, List.append_nil]

end Go.Proofs.Ytbohnnflddfidaa
