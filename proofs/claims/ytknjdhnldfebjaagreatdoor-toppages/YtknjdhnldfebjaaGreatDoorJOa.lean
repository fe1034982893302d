/-
  Arguments as they came in: lists of bytes, lists of bools. (Part of the proofs over laws.)
-/
import Derived.Test.YtknjdhnldfebjaaGreatDoorJDev
import Derived.OpenShut
import Derived.ChangeSlices
import Derived.SizedLaws
import Derived.Deep.SlicePairs
import Derived.Deep.Grids
namespace Go.Proofs.YtknjdhnldfebjaaGreatDoor
open Go.RowKit Go.ChangeShapes Go.WideShapes Go.Deep
set_option linter.unusedVariables false
theorem weightsAll_has {H : Type} {P : Program} {e : TypeId} {d : DataW H} {n : Nat} (hn : n ∈ d.weights P e) : ∀ {l : List (DataW H)}, d ∈ l → n ∈ DataW.weightsAll P e l
 | x :: r, h => by
  simp only [DataW.weightsAll, List.mem_append]
  rcases List.mem_cons.1 h with rfl | h
  ·exact .inl hn
  ·exact .inr (weightsAll_has hn h)
theorem bytes_of {H : Type} {enc : TypeId × Value → H} {W : World} {fuel : Nat} {a : Option Addr} {len cap : Nat} {d : DataW H} {p : List MemPlace}
  (hf : DataW.trod enc Tryz.prog W 0 (fun _ => true) true fuel 31 [.slice a len cap] = some (d, p)) (hw : ∀ n ∈ d.weights Tryz.prog 31, n ≤ reachBytes) : ∃ l, Bs W a cap l ∧ l.length = len := by
 rcases open_ints Tryz.underlying31 Tryz.underlying5 (by kernel_rfl) hf with ⟨hcs, _⟩ | ⟨x, l, c, zs, hcs, _, hl, hm, hz, hx, hcell, hwz⟩
 ·simp at hcs
  obtain ⟨rfl, rfl, rfl⟩ := hcs
  exact ⟨[], ⟨fun z hz => (by cases hz), Nat.le_refl _, by decide, fun _ => rfl, fun h => absurd rfl h⟩, rfl⟩
 ·simp at hcs
  obtain ⟨rfl, rfl, rfl⟩ := hcs
  simp only [Prod.mk.injEq] at hx
  simp only [if_true] at hz
  have hb : Tryz.prog.bytesOf 5 = 1 := by kernel_rfl
  have hs := hw ((lits (H := H) .u8 (zs.take len)).length + (lits (H := H) .u8 (zs.drop len)).length) (by
   rw [hx.1]
   simp [DataW.weights, Tryz.underlying31, hb])
  simp only [lits, List.length_map, List.length_take, List.length_drop, reachBytes] at hs
  exact ⟨_, bs_of_row hl (by omega) hz hcell hwz⟩
end Go.Proofs.YtknjdhnldfebjaaGreatDoor
