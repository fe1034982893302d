/-
  Contracts of package image: the bytes of a root; PutRoot. (Part of the proofs over package image.)
-/
import Derived.Test.YtcppejlcjooliaaGreatImD
import Derived.Test.YtcppejlcjooliaaGreatRefName
namespace Go.Proofs.YtcppejlcjooliaaGreat
open Go.RowKit
set_option linter.unusedVariables false

/-- A root as a value. -/
def rootV (r : (ByteArray × Int)) : Value := .agg #[.string r.1, .int .i64 r.2]
section
variable {w : World} {g : Nat} {r : (ByteArray × Int)}
end
theorem rowR_set (s : ByteArray) (h : Int) (hn : NameOk s) (h1 : 1 ≤ h) (h2 : h ≤ 40) : (splice (zerosB 11) 0 (nameL s)).set 10 h = rowR (s, h) := by
  have hl := length_nameL s hn.2.1
  have hne : ¬ noRoot (s, h) = true := by
    rw [noRoot_iff]
    rintro ⟨_, h0⟩
    dsimp only at h0
    omega
  unfold rowR
  rw [if_neg hne]
  have hm : h % 256 = h := by omega
  have e : splice (zerosB 11) 0 (nameL s) = nameL s ++ [0, 0, 0] := by
    unfold splice
    rw [List.take_zero, List.nil_append, Nat.zero_add, hl]
    rfl
  rw [e, List.set_append_right _ _ (by omega), hl]
  dsimp only
  rw [hm]
  rfl

end Go.Proofs.YtcppejlcjooliaaGreat
