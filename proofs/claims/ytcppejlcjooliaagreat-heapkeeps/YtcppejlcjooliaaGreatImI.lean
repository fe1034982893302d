/-
  Contracts of package image: Roots. (Part of the proofs over package image.)
-/
import Derived.Test.YtcppejlcjooliaaGreatImH
namespace Go.Proofs.YtcppejlcjooliaaGreat
open Go.RowKit
set_option linter.unusedVariables false

theorem rootsK_yes {l : List Int} {k : Nat} (ht : isRoot (rowAt l k) = true) : rootsK l (k + 1) = rootsK l k ++ [rootOf (rowAt l k)] := by
  show rootsK l k ++ _ = _
  rw [if_pos ht]
theorem rootsK_no {l : List Int} {k : Nat} (ht : isRoot (rowAt l k) = false) : rootsK l (k + 1) = rootsK l k := by
  show rootsK l k ++ _ = _
  rw [if_neg (by rw [ht]; simp), List.append_nil]

end Go.Proofs.YtcppejlcjooliaaGreat
