/-
  Contracts of package image: the bytes of an entry; Put; Drop. (Part of the proofs over package image.)
-/
import Derived.Test.YtmkkiedohphpcaaGreatDoorImC
import Derived.Deep.RegionWith
namespace Go.Proofs.YtmkkiedohphpcaaGreatDoor
open Go.RowKit
set_option linter.unusedVariables false

theorem rowE_put (x a l t : Int) (ht : 0 ≤ t ∧ t ≤ 15) : putK (putK ((zerosB 5).set 0 (t + 1)) 1 a 2) 3 l 2 = rowE (x, a, l, t) := by
  have e : (t + 1) % 256 = t + 1 := by omega
  simp [putK, rowE, zerosB, e]

/-- The world in which so many zeros have been made. (A name of its own, so that the walk leaves it standing.) -/
def mkW (w : World) (n : Nat) : World := w.alloc (.cells ((zerosB n).map (Value.int .u8)).toArray 5)
theorem mkW_blk (w : World) (n : Nat) : Blk (mkW w n) w.heap.size (zerosB n) := heap_alloc_new w _
theorem mkW_below (w : World) (n : Nat) : Below w.heap.size w (mkW w n) := (Below.refl _ _).alloc (Nat.le_refl _) _
theorem run_make_u8 (w : World) (n : Nat) (hn : n ≤ 1000000) : Sem.run Tryz.prog (Instr.makeSlice 22 (.int .i64 n) (.int .i64 n)) w = .ok (.slice (some ⟨w.heap.size, 0, none⟩) n n) (mkW w n) := by
  obtain ⟨i0, hi, hz0, hz1, hz2⟩ := info_parts info_u8
  have hrun := run_make (P := Tryz.prog) w 22 5 i0 _ Tryz.underlying22 hi hz0 .i64 .i64 n n (by omega) (by omega) (by rw [hz2]; omega) (by omega)
  rw [hrun, hz1, Nat.mul_one, Int.toNat_natCast]
  unfold mkW
  rw [← made_zeros, Array.toArray_toList]

end Go.Proofs.YtmkkiedohphpcaaGreatDoor
