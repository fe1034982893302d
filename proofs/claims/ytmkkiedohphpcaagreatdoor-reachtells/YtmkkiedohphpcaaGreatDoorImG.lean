/-
  Contracts of package image: the bytes of a root; PutRoot. (Part of the proofs over package image.)
-/
import Derived.Test.YtmkkiedohphpcaaGreatDoorImD
import Derived.Test.YtmkkiedohphpcaaGreatDoorRefName
namespace Go.Proofs.YtmkkiedohphpcaaGreatDoor
open Go.RowKit
set_option linter.unusedVariables false

/-- A root as a value. -/
def rootV (r : (ByteArray × Int)) : Value := .agg #[.string r.1, .int .i64 r.2]
/-- Block g is a root. -/
def RoB (w : World) (g : Nat) (r : (ByteArray × Int)) : Prop := w.heap[g]? = some (.cells #[.string r.1, .int .i64 r.2] 56 (0, 0))
section
variable {w : World} {g : Nat} {r : (ByteArray × Int)}
theorem RoB.lt (h : RoB w g r) : g < w.heap.size := (Array.getElem?_eq_some_iff.1 h).1
theorem RoB.cells (h : RoB w g r) : w.cell? ⟨g, 0, none⟩ = some (.string r.1) ∧ w.cell? ⟨g, 1, none⟩ = some (.int .i64 r.2) := by
  simp only [cell_of_row _ _ _ _ _ _ h]
  exact ⟨rfl, rfl⟩
theorem RoB.below {w' : World} {B : Nat} (h : RoB w g r) (hb : Below B w w') (hg : g < B) : RoB w' g r := (hb.block g hg).trans h
end
theorem RoB.new (w : World) (r : (ByteArray × Int)) : RoB (w.alloc (.cells #[.string r.1, .int .i64 r.2] 56)) w.heap.size r := heap_alloc_new w _

theorem rowR_set (s : ByteArray) (h : Int) (hn : NameOk s) (h1 : 1 ≤ h) (h2 : h ≤ 40) : (splice (zerosB 11) 0 (nameL s)).set 10 h = rowR (s, h) := by
  have hl := length_nameL s hn.2.1
  have hne : ¬ noRoot (s, h) = true := by
    rw [noRoot_iff]
    rintro ⟨_, h0⟩
    dsimp only at h0
    omega
  unfold rowR
  rw [if_neg hne]
  have hm : h % 256 = h := by omega
  have e : splice (zerosB 11) 0 (nameL s) = nameL s ++ [0, 0, 0] := by
    unfold splice
    rw [List.take_zero, List.nil_append, Nat.zero_add, hl]
    rfl
  rw [e, List.set_append_right _ _ (by omega), hl]
  dsimp only
  rw [hm]
  rfl

end Go.Proofs.YtmkkiedohphpcaaGreatDoor
