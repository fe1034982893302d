/-
  What has changed between two lists of bytes, run by run, as plain lists. (Part of the proofs over package diff.)
-/
import Derived.Test.YtbohnnflddfidaaDfPages
namespace Go.Proofs.Ytbohnnflddfidaa
open Go.RowKit
set_option linter.unusedVariables false

theorem dfK_same {a b : List Int} {i : Nat} : ∀ {k : Nat}, i ≤ k → (∀ j, i ≤ j → j < k → a.getD j 0 = b.getD j 0) → dfK a b k = dfK a b i
  | 0, h, _ => by rw [Nat.le_zero.1 h]
  | k + 1, h, hs => by
    by_cases e : i = k + 1
    · rw [e]
    · show (if a.getD k 0 = b.getD k 0 then dfK a b k else _) = _
      rw [if_pos (hs k (by omega) (by omega))]
      exact dfK_same (by omega) (fun j h1 h2 => hs j h1 (by omega))
/-- A run that begins where none ends. -/
theorem dfK_run {a b : List Int} (hl : a.length = b.length) {p : Nat} (hp : p = 0 ∨ a.getD (p - 1) 0 = b.getD (p - 1) 0) : ∀ n, 1 ≤ n → p + n ≤ a.length → (∀ j, p ≤ j → j < p + n → a.getD j 0 ≠ b.getD j 0) →
    dfK a b (p + n) = dfK a b p ++ [chOf a b p n]
  | 0, h, _, _ => by omega
  | 1, _, hle, hd => by
    show (if a.getD p 0 = b.getD p 0 then _ else chPut (dfK a b p) p (a.getD p 0) (b.getD p 0)) = _
    rw [if_neg (hd p (Nat.le_refl _) (by omega))]
    have h := df_dfK hl p (by omega)
    have hone : (((p : Int), [a.getD p 0], [b.getD p 0]) : (Int × List Int × List Int)) = chOf a b p 1 := by
      unfold chOf
      have e1 := take_more (a := a) (p := p) (n := 0) (by omega)
      have e2 := take_more (a := b) (p := p) (n := 0) (by omega)
      rw [List.take_zero, List.nil_append, Nat.add_zero] at e1 e2
      rw [← e1, ← e2]
    rw [hone.symm]
    generalize dfK a b p = l at h
    unfold chPut
    cases hlast : l.getLast? with
    | none => rw [List.getLast?_eq_none_iff.1 hlast]; rfl
    | some c =>
      dsimp only
      rw [if_neg]
      intro e
      have hc : c ∈ l := List.mem_of_getLast? hlast
      obtain ⟨q, m, rfl, hm, hqm, hdf⟩ := h.all c hc
      rw [chOf_end (by omega)] at e
      have := hdf (p - 1) (by omega) (by omega)
      rcases hp with hp | hp
      · omega
      · exact this hp
  | n + 2, _, hle, hd => by
    have ih := dfK_run hl hp (n + 1) (by omega) (by omega) (fun j h1 h2 => hd j h1 (by omega))
    show (if a.getD (p + (n + 1)) 0 = b.getD (p + (n + 1)) 0 then _ else chPut (dfK a b (p + (n + 1))) (p + (n + 1)) _ _) = _
    rw [if_neg (hd _ (by omega) (by omega)), ih]
    unfold chPut
    rw [List.getLast?_concat]
    dsimp only
    rw [if_pos (chOf_end (by omega)), List.dropLast_concat]
    congr 2
    unfold chOf
    dsimp only
    have e1 := take_more (a := a) (p := p) (n := n + 1) (by omega)
    have e2 := take_more (a := b) (p := p) (n := n + 1) (by omega)
    show ((p : Int), (a.drop p).take (n + 1) ++ [a.getD (p + (n + 1)) 0], (b.drop p).take (n + 1) ++ [b.getD (p + (n + 1)) 0]) = _
    rw [e1, e2]
/-- How many changes there may be: each takes a byte and leaves one between. -/
theorem df_few {a b : List Int} (hl : a.length = b.length) : ∀ i, i ≤ a.length → (dfK a b i).length ≤ i
  | 0, _ => Nat.le_refl _
  | i + 1, h => by
    have ih := df_few hl i (by omega)
    show (if a.getD i 0 = b.getD i 0 then dfK a b i else chPut (dfK a b i) i (a.getD i 0) (b.getD i 0)).length ≤ _
    by_cases e : a.getD i 0 = b.getD i 0
    · rw [if_pos e]; omega
    · rw [if_neg e]
      generalize dfK a b i = l at ih
      unfold chPut
      cases hlast : l.getLast? with
      | none => simp
      | some c =>
        dsimp only
        by_cases e2 : chEnd c = i
        · rw [if_pos e2, List.length_append, List.length_dropLast]
          simp only [List.length_cons, List.length_nil]
          omega
        · rw [if_neg e2, List.length_append]
          simp only [List.length_cons, List.length_nil]
          omega
end Go.Proofs.Ytbohnnflddfidaa
