/-
  Arguments as they came in: lists of bytes, lists of bools. (Part of the proofs over laws.)
-/
import Derived.Test.YtnpdejlbknjhnaaDoorBackPlain
import Derived.OpenShut
import Derived.ChangeSlices
import Derived.SizedLaws
import Derived.Deep.SlicePairs
import Derived.Deep.Grids
namespace Go.Proofs.YtnpdejlbknjhnaaDoor
open Go.RowKit Go.ChangeShapes Go.WideShapes Go.Deep
set_option linter.unusedVariables false

theorem weightsAll_mem {H : Type} {P : Program} {e : TypeId} {d : DataW H} {n : Nat} (hn : n ∈ d.weights P e) : ∀ {l : List (DataW H)}, d ∈ l → n ∈ DataW.weightsAll P e l
  | x :: r, h => by
    simp only [DataW.weightsAll, List.mem_append]
    rcases List.mem_cons.1 h with rfl | h
    · exact .inl hn
    · exact .inr (weightsAll_mem hn h)

/-- What a slice of bytes reads as. -/
theorem bytes_of {H : Type} {enc : TypeId × Value → H} {W : World} {fuel : Nat} {a : Option Addr} {len cap : Nat} {d : DataW H} {p : List MemPlace}
    (hf : DataW.trod enc Tryd.prog W 0 (fun _ => true) true fuel 35 [.slice a len cap] = some (d, p)) (hw : ∀ n ∈ d.weights Tryd.prog 35, n ≤ reachBytes) : ∃ l, Bs W a cap l ∧ l.length = len := by
  rcases open_ints Tryd.underlying35 Tryd.underlying5 (by kernel_rfl) hf with ⟨hcs, _⟩ | ⟨x, l, c, zs, hcs, _, hl, hm, hz, hx, hcell, hwz⟩
  · simp at hcs
    obtain ⟨rfl, rfl, rfl⟩ := hcs
    exact ⟨[], ⟨fun z hz => (by cases hz), Nat.le_refl _, by decide, fun _ => rfl, fun h => absurd rfl h⟩, rfl⟩
  · simp at hcs
    obtain ⟨rfl, rfl, rfl⟩ := hcs
    simp only [Prod.mk.injEq] at hx
    simp only [if_true] at hz
    have hb : Tryd.prog.bytesOf 5 = 1 := by kernel_rfl
    have hs := hw ((lits (H := H) .u8 (zs.take len)).length + (lits (H := H) .u8 (zs.drop len)).length) (by
      rw [hx.1]
      simp [DataW.weights, Tryd.underlying35, hb])
    simp only [lits, List.length_map, List.length_take, List.length_drop, reachBytes] at hs
    exact ⟨_, bs_of_row hl (by omega) hz hcell hwz⟩

theorem bools_of {H : Type} {enc : TypeId × Value → H} {W : World} {fuel : Nat} {a : Option Addr} {len cap : Nat} {d : DataW H} {p : List MemPlace}
    (hf : DataW.trod enc Tryd.prog W 0 (fun _ => true) true fuel 24 [.slice a len cap] = some (d, p)) (hw : ∀ n ∈ d.weights Tryd.prog 24, n ≤ reachBytes) : ∃ l, Bls W a cap l ∧ l.length = len := by
  rcases open_bools Tryd.underlying24 Tryd.underlying4 (by kernel_rfl) hf with ⟨hcs, _⟩ | ⟨x, l, c, B, hcs, _, hl, hm, hx, hcell⟩
  · simp at hcs
    obtain ⟨rfl, rfl, rfl⟩ := hcs
    exact ⟨[], ⟨Nat.le_refl _, by decide, fun h => absurd rfl h⟩, rfl⟩
  · simp at hcs
    obtain ⟨rfl, rfl, rfl⟩ := hcs
    simp only [Prod.mk.injEq] at hx
    have hb : Tryd.prog.bytesOf 4 = 1 := by kernel_rfl
    have hs := hw (len + (cap - len)) (by
      rw [hx.1]
      simp [boolRow, DataW.weights, Tryd.underlying24, hb])
    simp only [reachBytes] at hs
    refine ⟨(List.range len).map B, ⟨by simp; omega, by simp; omega, fun hne => ?_⟩, by simp⟩
    have hpos : 0 < len := by
      rcases Nat.eq_zero_or_pos len with h | h
      · have h0 : List.range len = [] := by rw [h]; rfl
        exact absurd (by rw [h0]; rfl) hne
      · exact h
    obtain ⟨b, off, spot⟩ := x
    have hspot : spot = none := by simpa [Addr.add] using World.cell?_spot (hcell 0 (by omega))
    subst hspot
    refine ⟨b, off, rfl, fun i hi => ?_⟩
    have hi' : i < len := by simpa using hi
    have := hcell i (by omega)
    rw [addr_add] at this
    rw [this]
    simp [List.getD, hi']
end Go.Proofs.YtnpdejlbknjhnaaDoor
