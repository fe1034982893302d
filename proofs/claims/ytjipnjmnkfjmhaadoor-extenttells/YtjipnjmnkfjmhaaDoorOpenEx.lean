/-
  Arguments as they came in: lists of extents. (Part of the proofs over laws.)
-/
import Derived.Test.YtjipnjmnkfjmhaaDoorExB
import Derived.OpenShut
import Derived.ChangeSlices
import Derived.SizedLaws
import Derived.Deep.SlicePairs
import Derived.Deep.Grids
namespace Go.Proofs.YtjipnjmnkfjmhaaDoor
open Go.RowKit Go.ChangeShapes Go.WideShapes Go.Deep
set_option linter.unusedVariables false

theorem exs_of {H : Type} {enc : TypeId × Value → H} {W : World} {fuel : Nat} {a : Option Addr} {len cap : Nat} {d : DataW H} {p : List MemPlace}
    (hf : DataW.trod enc Tryd.prog W 0 (fun _ => true) true fuel 22 [.slice a len cap] = some (d, p)) (hw : ∀ n ∈ d.weights Tryd.prog 22, n ≤ reachBytes) : ∃ l, Exs W a cap l ∧ l.length = len := by
  rcases open_slice_pairs Tryd.underlying22 Tryd.underlying42 (by kernel_rfl) rfl rfl (by kernel_rfl) (by kernel_rfl) hf with ⟨hcs, _⟩ | ⟨x, l, c, m, n, V0, V1, D0, D1, P0, P1, hcs, _, hl, hm, hmm, hx, hcell⟩
  · simp at hcs
    obtain ⟨rfl, rfl, rfl⟩ := hcs
    exact ⟨[], ⟨fun e he => (by cases he), ⟨Nat.le_refl _, fun _ => rfl⟩, by decide, fun h => absurd rfl h⟩, rfl⟩
  · simp at hcs
    obtain ⟨rfl, rfl, rfl⟩ := hcs
    simp only [if_true] at hmm
    subst hmm
    simp only [Prod.mk.injEq] at hx
    have hb : Tryd.prog.bytesOf 42 = 16 := by kernel_rfl
    have hs := hw ((len + (m - len)) * 16) (by
      rw [hx.1]
      simp [DataW.weights, Tryd.underlying22, hb])
    simp only [reachBytes] at hs
    have hall : ∀ i, ∃ q : (Int × Int), i < len → W.cell? (x.add (i * 2)) = some (.int .i64 q.1) ∧ W.cell? (x.add (i * 2 + 1)) = some (.int .i64 q.2) ∧ InI q := by
      intro i
      by_cases hi : i < len
      · obtain ⟨h0, h1, h2, h3⟩ := hcell i (by omega)
        obtain ⟨z, hz0, hz1⟩ : ∃ z, V0 i = .int .i64 z ∧ (Lit.int .i64 z).wf = true := by
          obtain ⟨z, h4, h5⟩ := DataW.trod_int Tryd.underlying3 h2
          exact ⟨z, by simpa using h4, by first | exact h5 | exact h5.2 | exact h5.2.2 | exact h5.1⟩
        obtain ⟨y, hy0, hy1⟩ : ∃ z, V1 i = .int .i64 z ∧ (Lit.int .i64 z).wf = true := by
          obtain ⟨z, h4, h5⟩ := DataW.trod_int Tryd.underlying3 h3
          exact ⟨z, by simpa using h4, by first | exact h5 | exact h5.2 | exact h5.2.2 | exact h5.1⟩
        exact ⟨(z, y), fun _ => ⟨by rw [h0, hz0], by rw [h1, hy0], bounds_i64 hz1, bounds_i64 hy1⟩⟩
      · exact ⟨(0, 0), fun h => absurd h hi⟩
    have hget : ∀ i, i < len → ((List.range len).map fun i => Classical.choose (hall i)).getD i (0, 0) = Classical.choose (hall i) := fun i hi => by simp [List.getD, hi]
    refine ⟨(List.range len).map fun i => Classical.choose (hall i), ⟨fun e he => ?_, ⟨by simp; omega, fun h => by cases h⟩, by simp; omega, fun hne => ?_⟩, by simp⟩
    · obtain ⟨i, hi, rfl⟩ := List.mem_map.1 he
      exact (Classical.choose_spec (hall i) (List.mem_range.1 hi)).2.2
    have hpos : 0 < len := by
      rcases Nat.eq_zero_or_pos len with h | h
      · have h0 : List.range len = [] := by rw [h]; rfl
        exact absurd (by rw [h0]; rfl) hne
      · exact h
    obtain ⟨b, off, spot⟩ := x
    have hspot : spot = none := by simpa [Addr.add] using World.cell?_spot ((hcell 0 (by omega)).1)
    subst hspot
    refine ⟨b, off, rfl, fun i hi => ?_⟩
    have hi' : i < len := by simpa using hi
    have hq := Classical.choose_spec (hall i) hi'
    rw [hget i hi']
    generalize Classical.choose (hall i) = q at hq ⊢
    simp only [addr_add, ← Nat.add_assoc] at hq
    exact ⟨hq.1, hq.2.1⟩
end Go.Proofs.YtjipnjmnkfjmhaaDoor
