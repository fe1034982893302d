/-
  Arguments as they came in: lists of pages, lists of bools. (Part of the proofs over laws.)
-/
import Derived.Test.YtjodlfhlilnjjaaDoorBackPlain
import Derived.OpenShut
import Derived.ChangeSlices
import Derived.SizedLaws
import Derived.Deep.SlicePairs
import Derived.Deep.Grids
namespace Go.Proofs.YtjodlfhlilnjjaaDoor
open Go.RowKit Go.ChangeShapes Go.WideShapes Go.Deep
set_option linter.unusedVariables false

theorem weightsAll_mem {H : Type} {P : Program} {e : TypeId} {d : DataW H} {n : Nat} (hn : n ∈ d.weights P e) : ∀ {l : List (DataW H)}, d ∈ l → n ∈ DataW.weightsAll P e l
  | x :: r, h => by
    simp only [DataW.weightsAll, List.mem_append]
    rcases List.mem_cons.1 h with rfl | h
    · exact .inl hn
    · exact .inr (weightsAll_mem hn h)

/-- What a slice of bytes reads as. -/
theorem bytes_of {H : Type} {enc : TypeId × Value → H} {W : World} {fuel : Nat} {a : Option Addr} {len cap : Nat} {d : DataW H} {p : List MemPlace}
    (hf : DataW.trod enc Tryd.prog W 0 (fun _ => true) true fuel 29 [.slice a len cap] = some (d, p)) (hw : ∀ n ∈ d.weights Tryd.prog 29, n ≤ reachBytes) : ∃ l, Bs W a cap l ∧ l.length = len := by
  rcases open_ints Tryd.underlying29 Tryd.underlying5 (by kernel_rfl) hf with ⟨hcs, _⟩ | ⟨x, l, c, zs, hcs, _, hl, hm, hz, hx, hcell, hwz⟩
  · simp at hcs
    obtain ⟨rfl, rfl, rfl⟩ := hcs
    exact ⟨[], ⟨fun z hz => (by cases hz), Nat.le_refl _, by decide, fun _ => rfl, fun h => absurd rfl h⟩, rfl⟩
  · simp at hcs
    obtain ⟨rfl, rfl, rfl⟩ := hcs
    simp only [Prod.mk.injEq] at hx
    simp only [if_true] at hz
    have hb : Tryd.prog.bytesOf 5 = 1 := by kernel_rfl
    have hs := hw ((lits (H := H) .u8 (zs.take len)).length + (lits (H := H) .u8 (zs.drop len)).length) (by
      rw [hx.1]
      simp [DataW.weights, Tryd.underlying29, hb])
    simp only [lits, List.length_map, List.length_take, List.length_drop, reachBytes] at hs
    exact ⟨_, bs_of_row hl (by omega) hz hcell hwz⟩

theorem bools_of {H : Type} {enc : TypeId × Value → H} {W : World} {fuel : Nat} {a : Option Addr} {len cap : Nat} {d : DataW H} {p : List MemPlace}
    (hf : DataW.trod enc Tryd.prog W 0 (fun _ => true) true fuel 23 [.slice a len cap] = some (d, p)) (hw : ∀ n ∈ d.weights Tryd.prog 23, n ≤ reachBytes) : ∃ l, Bls W a cap l ∧ l.length = len := by
  rcases open_bools Tryd.underlying23 Tryd.underlying4 (by kernel_rfl) hf with ⟨hcs, _⟩ | ⟨x, l, c, B, hcs, _, hl, hm, hx, hcell⟩
  · simp at hcs
    obtain ⟨rfl, rfl, rfl⟩ := hcs
    exact ⟨[], ⟨Nat.le_refl _, by decide, fun h => absurd rfl h⟩, rfl⟩
  · simp at hcs
    obtain ⟨rfl, rfl, rfl⟩ := hcs
    simp only [Prod.mk.injEq] at hx
    have hb : Tryd.prog.bytesOf 4 = 1 := by kernel_rfl
    have hs := hw (len + (cap - len)) (by
      rw [hx.1]
      simp [boolRow, DataW.weights, Tryd.underlying23, hb])
    simp only [reachBytes] at hs
    refine ⟨(List.range len).map B, ⟨by simp; omega, by simp; omega, fun hne => ?_⟩, by simp⟩
    have hpos : 0 < len := by
      rcases Nat.eq_zero_or_pos len with h | h
      · have h0 : List.range len = [] := by rw [h]; rfl
        exact absurd (by rw [h0]; rfl) hne
      · exact h
    obtain ⟨b, off, spot⟩ := x
    have hspot : spot = none := by simpa [Addr.add] using World.cell?_spot (hcell 0 (by omega))
    subst hspot
    refine ⟨b, off, rfl, fun i hi => ?_⟩
    have hi' : i < len := by simpa using hi
    have := hcell i (by omega)
    rw [addr_add] at this
    rw [this]
    simp [List.getD, hi']

theorem pages_of {H : Type} {enc : TypeId × Value → H} {W : World} {fuel : Nat} {a : Option Addr} {len cap : Nat} {d : DataW H} {p : List MemPlace}
    (hf : DataW.trod enc Tryd.prog W 0 (fun _ => true) true fuel 22 [.slice a len cap] = some (d, p)) (hw : ∀ n ∈ d.weights Tryd.prog 22, n ≤ reachBytes) : ∃ l, Pgs W a cap l ∧ l.length = len := by
  rcases open_slice_pairs Tryd.underlying22 Tryd.underlying36 (by kernel_rfl) rfl rfl (by kernel_rfl) (by kernel_rfl) hf with ⟨hcs, _⟩ | ⟨x, l, c, m, n, V0, V1, D0, D1, P0, P1, hcs, _, hl, hm, hmm, hx, hcell⟩
  · simp at hcs
    obtain ⟨rfl, rfl, rfl⟩ := hcs
    exact ⟨[], ⟨Nat.le_refl _, by decide, fun h => absurd rfl h⟩, rfl⟩
  · simp at hcs
    obtain ⟨rfl, rfl, rfl⟩ := hcs
    simp only [if_true] at hmm
    subst hmm
    simp only [Prod.mk.injEq] at hx
    have hb : Tryd.prog.bytesOf 36 = 32 := by kernel_rfl
    have hs := hw ((len + (m - len)) * 32) (by
      rw [hx.1]
      simp [DataW.weights, Tryd.underlying22, hb])
    simp only [reachBytes] at hs
    have hbody : ∀ i, i < len → ∀ k ∈ (D1 i).weights Tryd.prog 29, k ≤ reachBytes := by
      intro i hi k hk
      refine hw k ?_
      rw [hx.1]
      simp only [DataW.weights, Tryd.underlying22, List.mem_cons, List.mem_append]
      refine .inr (.inl (weightsAll_mem (d := .agg [D0 i, D1 i]) ?_ (List.mem_map.2 ⟨i, List.mem_range.2 hi, rfl⟩)))
      simp only [DataW.weights, Tryd.underlying36]
      simp only [List.map_cons, List.map_nil, DataW.weightsEach, List.mem_append]
      exact .inr (.inl hk)
    have hall : ∀ i, ∃ q : Int × List Int, i < len → W.cell? (x.add (i * 2)) = some (.int .i64 q.1) ∧ ∃ ab capb, W.cell? (x.add (i * 2 + 1)) = some (.slice ab q.2.length capb) ∧ Bs W ab capb q.2 := by
      intro i
      by_cases hi : i < len
      · obtain ⟨h0, h1, h2, h3⟩ := hcell i (by omega)
        obtain ⟨z, hz0, hz1⟩ : ∃ z, V0 i = .int .i64 z ∧ True := by
          obtain ⟨z, h4, _⟩ := DataW.trod_int Tryd.underlying3 h2
          exact ⟨z, by simpa using h4, trivial⟩
        obtain ⟨ab, bl, capb, hv1⟩ : ∃ ab bl capb, V1 i = .slice ab bl capb := by
          rcases open_ints Tryd.underlying29 Tryd.underlying5 (by kernel_rfl) h3 with ⟨hcs, _⟩ | ⟨x', l', c', zs, hcs, _⟩
          · simp at hcs; exact ⟨_, _, _, hcs⟩
          · simp at hcs; exact ⟨_, _, _, hcs⟩
        rw [hv1] at h1 h3
        obtain ⟨bd, hbd, hbl⟩ := bytes_of h3 (hbody i hi)
        subst hbl
        exact ⟨(z, bd), fun _ => ⟨by rw [h0, hz0], ab, capb, h1, hbd⟩⟩
      · exact ⟨(0, []), fun h => absurd h hi⟩
    refine ⟨(List.range len).map fun i => Classical.choose (hall i), ⟨by simp; omega, by simp; omega, fun hne => ?_⟩, by simp⟩
    have hpos : 0 < len := by
      rcases Nat.eq_zero_or_pos len with h | h
      · have h0 : List.range len = [] := by rw [h]; rfl
        exact absurd (by rw [h0]; rfl) hne
      · exact h
    obtain ⟨b, off, spot⟩ := x
    have hspot : spot = none := by simpa [Addr.add] using World.cell?_spot ((hcell 0 (by omega)).1)
    subst hspot
    refine ⟨b, off, rfl, fun i hi => ?_⟩
    have hi' : i < len := by simpa using hi
    have hq := Classical.choose_spec (hall i) hi'
    have e : ((List.range len).map fun i => Classical.choose (hall i)).getD i (0, []) = Classical.choose (hall i) := by simp [List.getD, hi']
    rw [e]
    simpa only [addr_add] using hq
end Go.Proofs.YtjodlfhlilnjjaaDoor
