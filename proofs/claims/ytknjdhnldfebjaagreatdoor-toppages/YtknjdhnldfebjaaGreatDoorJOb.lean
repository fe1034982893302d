/-
  Joined by program: OpenArgs2; OpenPagesO. (Parts of the proofs over the packages of the program.)
-/
import Derived.Test.YtknjdhnldfebjaaGreatDoorJOa
import Derived.Test.YtknjdhnldfebjaaGreatDoorJOi
import Derived.Test.YtknjdhnldfebjaaGreatDoorJPh
namespace Go.Proofs.YtknjdhnldfebjaaGreatDoor
open Go.RowKit Go.ChangeShapes Go.WideShapes Go.Deep
set_option linter.unusedVariables false
end Go.Proofs.YtknjdhnldfebjaaGreatDoor
namespace Go.Proofs.YtknjdhnldfebjaaGreatDoor
open Go.RowKit Go.ChangeShapes Go.WideShapes Go.Deep
set_option linter.unusedVariables false
theorem pagesO_of {H : Type} {enc : TypeId × Value → H} {W : World} {fuel : Nat} {a : Option Addr} {len cap : Nat} {d : DataW H} {p : List MemPlace}
  (hf : DataW.trod enc Tryz.prog W 0 (fun _ => true) true fuel 53 [.slice a len cap] = some (d, p)) (hw : ∀ n ∈ d.weights Tryz.prog 53, n ≤ reachBytes) : ∃ l, PgsO W (fun _ => False) a cap l ∧ l.length = len := by
 rcases open_slice_pairs Tryz.underlying53 Tryz.underlying63 (by kernel_rfl) rfl rfl (by kernel_rfl) (by kernel_rfl) hf with ⟨hcs, _⟩ | ⟨x, l, c, m, n, V0, V1, D0, D1, P0, P1, hcs, _, hl, hm, hmm, hx, hcell⟩
 ·simp at hcs
  obtain ⟨rfl, rfl, rfl⟩ := hcs
  exact ⟨[], ⟨Nat.le_refl _, by decide, fun h => absurd rfl h⟩, rfl⟩
 ·simp at hcs
  obtain ⟨rfl, rfl, rfl⟩ := hcs
  simp only [if_true] at hmm
  subst hmm
  simp only [Prod.mk.injEq] at hx
  have hb : Tryz.prog.bytesOf 63 = 32 := by kernel_rfl
  have hs := hw ((len + (m - len)) * 32) (by
   rw [hx.1]
   simp [DataW.weights, Tryz.underlying53, hb])
  simp only [reachBytes] at hs
  have hbody : ∀ i, i < len → ∀ k ∈ (D1 i).weights Tryz.prog 31, k ≤ reachBytes := by
   intro i hi k hk
   refine hw k ?_
   rw [hx.1]
   simp only [DataW.weights, Tryz.underlying53, List.mem_cons, List.mem_append]
   refine .inr (.inl (weightsAll_has (d := .agg [D0 i, D1 i]) ?_ (List.mem_map.2 ⟨i, List.mem_range.2 hi, rfl⟩)))
   simp only [DataW.weights, Tryz.underlying63]
   simp only [List.map_cons, List.map_nil, DataW.weightsEach, List.mem_append]
   exact .inr (.inl hk)
  have hall : ∀ i, ∃ q : Int × List Int, i < len → W.cell? (x.add (i * 2)) = some (.int .i64 q.1) ∧ ∃ ab capb, W.cell? (x.add (i * 2 + 1)) = some (.slice ab q.2.length capb) ∧ Bs W ab capb q.2 ∧ (q.2 ≠ [] → ∀ y, ab = some y → ¬ False) ∧ -9223372036854775808 ≤ q.1 ∧ q.1 ≤ 9223372036854775807 := by
   intro i
   by_cases hi : i < len
   ·obtain ⟨h0, h1, h2, h3⟩ := hcell i (by omega)
    obtain ⟨z, hz0, hz1⟩ : ∃ z, V0 i = .int .i64 z ∧ (Lit.int .i64 z).wf = true := by
     obtain ⟨z, h4, h5⟩ := DataW.trod_int Tryz.underlying3 h2
     exact ⟨z, by simpa using h4, by first | exact h5 | exact h5.2 | exact h5.2.2 | exact h5.1⟩
    obtain ⟨ab, bl, capb, hv1⟩ : ∃ ab bl capb, V1 i = .slice ab bl capb := by
     rcases open_ints Tryz.underlying31 Tryz.underlying5 (by kernel_rfl) h3 with ⟨hcs, _⟩ | ⟨x', l', c', zs, hcs, _⟩
     ·simp at hcs; exact ⟨_, _, _, hcs⟩
     ·simp at hcs; exact ⟨_, _, _, hcs⟩
    rw [hv1] at h1 h3
    obtain ⟨bd, hbd, hbl⟩ := bytes_of h3 (hbody i hi)
    subst hbl
    have hbz := bounds_i64 hz1
    exact ⟨(z, bd), fun _ => ⟨by rw [h0, hz0], ab, capb, h1, hbd, fun _ _ _ h => h, hbz.1, hbz.2⟩⟩
   ·exact ⟨(0, []), fun h => absurd h hi⟩
  refine ⟨(List.range len).map fun i => Classical.choose (hall i), ⟨by simp; omega, by simp; omega, fun hne => ?_⟩, by simp⟩
  have hpos : 0 < len := by
   rcases Nat.eq_zero_or_pos len with h | h
   ·have h0 : List.range len = [] := by rw [h]; rfl
    exact absurd (by rw [h0]; rfl) hne
   ·exact h
  obtain ⟨b, off, spot⟩ := x
  have hspot : spot = none := by simpa [Addr.add] using World.cell?_spot ((hcell 0 (by omega)).1)
  subst hspot
  refine ⟨b, off, rfl, fun h => h, fun i hi => ?_⟩
  have hi' : i < len := by simpa using hi
  have hq := Classical.choose_spec (hall i) hi'
  have e : ((List.range len).map fun i => Classical.choose (hall i)).getD i (0, []) = Classical.choose (hall i) := by simp [List.getD, hi']
  rw [e]
  simpa only [addr_add] using hq
end Go.Proofs.YtknjdhnldfebjaaGreatDoor
