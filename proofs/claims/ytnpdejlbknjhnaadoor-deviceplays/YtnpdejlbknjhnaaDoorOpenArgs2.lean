/-
  Arguments as they came in: lists of lists of numbers, lists of byte lists. (Part of the proofs over laws.)
-/
import Derived.Test.YtnpdejlbknjhnaaDoorOpenArgs
namespace Go.Proofs.YtnpdejlbknjhnaaDoor
open Go.RowKit Go.ChangeShapes Go.WideShapes Go.Deep
set_option linter.unusedVariables false

/-- The slice '.slice a l.length cap' of ints reads in w as l. -/
def Is (w : World) (a : Option Addr) (cap : Nat) (l : List Int) : Prop :=
  (∀ z ∈ l, -9223372036854775808 ≤ z ∧ z ≤ 9223372036854775807) ∧ l.length ≤ cap ∧ l.length ≤ 140737488351232 ∧ (l ≠ [] → ∃ b off, a = some ⟨b, off, none⟩ ∧ ∀ i, i < l.length → w.cell? ⟨b, off + i, none⟩ = some (.int .i64 (l.getD i 0)))
def Iss (w : World) (a : Option Addr) (cap : Nat) (l : List (List Int)) : Prop :=
  l.length ≤ cap ∧ l.length ≤ 140737488351232 ∧ (l ≠ [] → ∃ b off, a = some ⟨b, off, none⟩ ∧ ∀ i, i < l.length → ∃ ai ci, w.cell? ⟨b, off + i, none⟩ = some (.slice ai (l.getD i []).length ci) ∧ Is w ai ci (l.getD i []))
def Bss (w : World) (a : Option Addr) (cap : Nat) (l : List (List Int)) : Prop :=
  l.length ≤ cap ∧ l.length ≤ 140737488351232 ∧ (l ≠ [] → ∃ b off, a = some ⟨b, off, none⟩ ∧ ∀ i, i < l.length → ∃ ai ci, w.cell? ⟨b, off + i, none⟩ = some (.slice ai (l.getD i []).length ci) ∧ Bs w ai ci (l.getD i []))

theorem ints_of {H : Type} {enc : TypeId × Value → H} {W : World} {fuel : Nat} {a : Option Addr} {len cap : Nat} {d : DataW H} {p : List MemPlace}
    (hf : DataW.trod enc Tryd.prog W 0 (fun _ => true) true fuel 34 [.slice a len cap] = some (d, p)) (hw : ∀ n ∈ d.weights Tryd.prog 34, n ≤ reachBytes) : ∃ l, Is W a cap l ∧ l.length = len := by
  rcases open_ints Tryd.underlying34 Tryd.underlying3 (by kernel_rfl) hf with ⟨hcs, _⟩ | ⟨x, l, c, zs, hcs, _, hl, hm, hz, hx, hcell, hwz⟩
  · simp at hcs
    obtain ⟨rfl, rfl, rfl⟩ := hcs
    exact ⟨[], ⟨fun z hz => (by cases hz), Nat.le_refl _, by decide, fun h => absurd rfl h⟩, rfl⟩
  · simp at hcs
    obtain ⟨rfl, rfl, rfl⟩ := hcs
    simp only [Prod.mk.injEq] at hx
    simp only [if_true] at hz
    have hb : Tryd.prog.bytesOf 3 = 8 := by kernel_rfl
    have hs := hw (((lits (H := H) .i64 (zs.take len)).length + (lits (H := H) .i64 (zs.drop len)).length) * 8) (by
      rw [hx.1]
      simp [DataW.weights, Tryd.underlying34, hb])
    simp only [lits, List.length_map, List.length_take, List.length_drop, reachBytes] at hs
    have hlen : (zs.take len).length = len := by simp; omega
    refine ⟨zs.take len, ⟨fun z h => bounds_i64 (hwz z (List.mem_of_mem_take h)), by omega, by omega, fun hne => ?_⟩, hlen⟩
    have hpos : 0 < zs.length := by
      cases zs with
      | nil => simp at hne
      | cons _ _ => simp
    obtain ⟨b, off, spot⟩ := x
    have hspot : spot = none := by simpa [Addr.add] using World.cell?_spot (hcell 0 hpos)
    subst hspot
    refine ⟨b, off, rfl, fun i hi => ?_⟩
    rw [hlen] at hi
    have h1 := hcell i (by omega)
    rw [addr_add] at h1
    rw [h1]
    simp [List.getD, hi]

/-- Rows of slices. -/
theorem rows_of {H : Type} {enc : TypeId × Value → H} {W : World} {fuel : Nat} {T E : TypeId} {a : Option Addr} {len cap : Nat} {d : DataW H} {p : List MemPlace} (R : Option Addr → Nat → List Int → Prop)
    (hT : Tryd.prog.underlying T = some (.slice E)) (hc : Tryd.prog.cellsOf E = 1) (hby : Tryd.prog.bytesOf E = 24)
    (hE : ∀ n v e q, DataW.trod enc Tryd.prog W 0 (fun _ => true) true n E [v] = some (e, q) → (∀ k ∈ e.weights Tryd.prog E, k ≤ reachBytes) → ∃ ai l ci, v = .slice ai l.length ci ∧ R ai ci l)
    (hf : DataW.trod enc Tryd.prog W 0 (fun _ => true) true fuel T [.slice a len cap] = some (d, p)) (hw : ∀ n ∈ d.weights Tryd.prog T, n ≤ reachBytes) :
    ∃ l : List (List Int), l.length = len ∧ l.length ≤ cap ∧ l.length ≤ 140737488351232 ∧ (l ≠ [] → ∃ b off, a = some ⟨b, off, none⟩ ∧ ∀ i, i < l.length → ∃ ai ci, W.cell? ⟨b, off + i, none⟩ = some (.slice ai (l.getD i []).length ci) ∧ R ai ci (l.getD i [])) := by
  rcases open_slice1 hT hc hf with ⟨hcs, _⟩ | ⟨x, l, c, m, n, V, D, Pl, hcs, _, hl, hm, hmm, hx, hcell⟩
  · simp at hcs
    obtain ⟨rfl, rfl, rfl⟩ := hcs
    exact ⟨[], rfl, Nat.le_refl _, by decide, fun h => absurd rfl h⟩
  · simp at hcs
    obtain ⟨rfl, rfl, rfl⟩ := hcs
    simp only [if_true] at hmm
    subst hmm
    simp only [Prod.mk.injEq] at hx
    have hs := hw ((len + (m - len)) * 24) (by
      rw [hx.1]
      simp [DataW.weights, hT, hby])
    simp only [reachBytes] at hs
    have hbody : ∀ i, i < len → ∀ k ∈ (D i).weights Tryd.prog E, k ≤ reachBytes := by
      intro i hi k hk
      refine hw k ?_
      rw [hx.1]
      simp only [DataW.weights, hT, List.mem_cons, List.mem_append]
      exact .inr (.inl (weightsAll_mem hk (List.mem_map.2 ⟨i, List.mem_range.2 hi, rfl⟩)))
    have hall : ∀ i, ∃ q : List Int, i < len → ∃ ai ci, W.cell? (x.add i) = some (.slice ai q.length ci) ∧ R ai ci q := by
      intro i
      by_cases hi : i < len
      · obtain ⟨h0, h3⟩ := hcell i (by omega)
        obtain ⟨ai, q, ci, hv, hr⟩ := hE _ _ _ _ h3 (hbody i hi)
        exact ⟨q, fun _ => ⟨ai, ci, by rw [h0, hv], hr⟩⟩
      · exact ⟨[], fun h => absurd h hi⟩
    refine ⟨(List.range len).map fun i => Classical.choose (hall i), by simp, by simp; omega, by simp; omega, fun hne => ?_⟩
    have hpos : 0 < len := by
      rcases Nat.eq_zero_or_pos len with h | h
      · have h0 : List.range len = [] := by rw [h]; rfl
        exact absurd (by rw [h0]; rfl) hne
      · exact h
    obtain ⟨b, off, spot⟩ := x
    have hspot : spot = none := by simpa [Addr.add] using World.cell?_spot ((hcell 0 (by omega)).1)
    subst hspot
    refine ⟨b, off, rfl, fun i hi => ?_⟩
    have hi' : i < len := by simpa using hi
    have hq := Classical.choose_spec (hall i) hi'
    have e : ((List.range len).map fun i => Classical.choose (hall i)).getD i [] = Classical.choose (hall i) := by simp [List.getD, hi']
    rw [e]
    simpa only [addr_add] using hq

theorem intss_of {H : Type} {enc : TypeId × Value → H} {W : World} {fuel : Nat} {a : Option Addr} {len cap : Nat} {d : DataW H} {p : List MemPlace}
    (hf : DataW.trod enc Tryd.prog W 0 (fun _ => true) true fuel 22 [.slice a len cap] = some (d, p)) (hw : ∀ n ∈ d.weights Tryd.prog 22, n ≤ reachBytes) : ∃ l, Iss W a cap l ∧ l.length = len := by
  obtain ⟨l, h1, h2, h3, h4⟩ := rows_of (fun ai ci q => Is W ai ci q) Tryd.underlying22 (by kernel_rfl) (by kernel_rfl) (fun n v e q h hk => by
    obtain ⟨ai, bl, ci, hv⟩ : ∃ ai bl ci, v = .slice ai bl ci := by
      rcases open_ints Tryd.underlying34 Tryd.underlying3 (by kernel_rfl) h with ⟨hcs, _⟩ | ⟨x', l', c', zs, hcs, _⟩
      · simp at hcs; exact ⟨_, _, _, hcs⟩
      · simp at hcs; exact ⟨_, _, _, hcs⟩
    subst hv
    obtain ⟨bd, hbd, hbl⟩ := ints_of h hk
    subst hbl
    exact ⟨ai, bd, ci, rfl, hbd⟩) hf hw
  exact ⟨l, ⟨h2, h3, h4⟩, h1⟩

theorem bytess_of {H : Type} {enc : TypeId × Value → H} {W : World} {fuel : Nat} {a : Option Addr} {len cap : Nat} {d : DataW H} {p : List MemPlace}
    (hf : DataW.trod enc Tryd.prog W 0 (fun _ => true) true fuel 23 [.slice a len cap] = some (d, p)) (hw : ∀ n ∈ d.weights Tryd.prog 23, n ≤ reachBytes) : ∃ l, Bss W a cap l ∧ l.length = len := by
  obtain ⟨l, h1, h2, h3, h4⟩ := rows_of (fun ai ci q => Bs W ai ci q) Tryd.underlying23 (by kernel_rfl) (by kernel_rfl) (fun n v e q h hk => by
    obtain ⟨ai, bl, ci, hv⟩ : ∃ ai bl ci, v = .slice ai bl ci := by
      rcases open_ints Tryd.underlying35 Tryd.underlying5 (by kernel_rfl) h with ⟨hcs, _⟩ | ⟨x', l', c', zs, hcs, _⟩
      · simp at hcs; exact ⟨_, _, _, hcs⟩
      · simp at hcs; exact ⟨_, _, _, hcs⟩
    subst hv
    obtain ⟨bd, hbd, hbl⟩ := bytes_of h hk
    subst hbl
    exact ⟨ai, bd, ci, rfl, hbd⟩) hf hw
  exact ⟨l, ⟨h2, h3, h4⟩, h1⟩
end Go.Proofs.YtnpdejlbknjhnaaDoor
