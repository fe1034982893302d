/-
  Rows of numbers. (Part of the proofs over who is led to.)
-/
import Derived.Test.YtifmemombecoaaaGreatDoorJIm
namespace Go.Proofs.YtifmemombecoaaaGreatDoor
open Go.RowKit
set_option linter.unusedVariables false
def inC (z : Int) : List Value := [.int .i64 z]
theorem inC_len (z : Int) : (inC z).length = 1 := rfl
theorem inC_one (z : Int) : ∀ u ∈ inC z, u.oneCell' = true := by
 intro u hu
 rw [List.mem_singleton.1 hu]
 rfl
theorem info_inS : (Tryz.prog.info? 3).map (fun i => (i.zero, i.size, i.bytes)) = some (some (.int .i64 0), 1, 8) := by kernel_rfl
theorem Sls.num {w : World} {b off cap : Nat} {l : List Int} (hc : ∀ i x, l[i]? = some x -> ∀ j u, (inC x)[j]? = some u -> w.cell? ⟨b, off + i * 1 + j, none⟩ = some u) {i : Nat} {e : Int} (h : l[i]? = some e) : w.cell? ⟨b, off + i, none⟩ = some (.int .i64 e) := by
 have := hc i e h 0 _ rfl
 rw [Nat.mul_one, Nat.add_zero] at this
 exact this
end Go.Proofs.YtifmemombecoaaaGreatDoor
