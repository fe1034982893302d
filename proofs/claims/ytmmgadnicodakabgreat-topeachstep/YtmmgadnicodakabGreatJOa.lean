/-
  Arguments as they came in: lists of bytes, lists of bools. (Part of the proofs over laws.)
-/
import Derived.Test.YtmmgadnicodakabGreatJDev
import Derived.OpenShut
import Derived.ChangeSlices
import Derived.SizedLaws
import Derived.Deep.SlicePairs
import Derived.Deep.Grids
namespace Go.Proofs.YtmmgadnicodakabGreat
open Go.RowKit Go.ChangeShapes Go.WideShapes Go.Deep
set_option linter.unusedVariables false
theorem bools_of {H : Type} {enc : TypeId × Value → H} {W : World} {fuel : Nat} {a : Option Addr} {len cap : Nat} {d : DataW H} {p : List MemPlace}
  (hf : DataW.trod enc Tryz.prog W 0 (fun _ => true) true fuel 23 [.slice a len cap] = some (d, p)) (hw : ∀ n ∈ d.weights Tryz.prog 23, n ≤ reachBytes) : ∃ l, Bls W a cap l ∧ l.length = len := by
 rcases open_bools Tryz.underlying23 Tryz.underlying4 (by kernel_rfl) hf with ⟨hcs, _⟩ | ⟨x, l, c, B, hcs, _, hl, hm, hx, hcell⟩
 ·simp at hcs
  obtain ⟨rfl, rfl, rfl⟩ := hcs
  exact ⟨[], ⟨Nat.le_refl _, by decide, fun h => absurd rfl h⟩, rfl⟩
 ·simp at hcs
  obtain ⟨rfl, rfl, rfl⟩ := hcs
  simp only [Prod.mk.injEq] at hx
  have hb : Tryz.prog.bytesOf 4 = 1 := by kernel_rfl
  have hs := hw (len + (cap - len)) (by
   rw [hx.1]
   simp [boolRow, DataW.weights, Tryz.underlying23, hb])
  simp only [reachBytes] at hs
  refine ⟨(List.range len).map B, ⟨by simp; omega, by simp; omega, fun hne => ?_⟩, by simp⟩
  have hpos : 0 < len := by
   rcases Nat.eq_zero_or_pos len with h | h
   ·have h0 : List.range len = [] := by rw [h]; rfl
    exact absurd (by rw [h0]; rfl) hne
   ·exact h
  obtain ⟨b, off, spot⟩ := x
  have hspot : spot = none := by simpa [Addr.add] using World.cell?_spot (hcell 0 (by omega))
  subst hspot
  refine ⟨b, off, rfl, fun i hi => ?_⟩
  have hi' : i < len := by simpa using hi
  have := hcell i (by omega)
  rw [addr_add] at this
  rw [this]
  simp [List.getD, hi']
end Go.Proofs.YtmmgadnicodakabGreat
