/-
  What the law DiffBack asks, as plain lists. (Part of the proof of DiffBack.)
-/
import Derived.Test.YtbohnnflddfidaaDjPlain
import Derived.Test.YtbohnnflddfidaaDfU
namespace Go.Proofs.Ytbohnnflddfidaa
open Go.RowKit
set_option linter.unusedVariables false

theorem db_at {A B : List Int} (h1 : A.length = B.length) (h64 : A.length ≤ 6400) {i : Nat} (hi : i < (dfK A B A.length).length) :
    1 ≤ ((dfK A B A.length).getD i (0, [], [])).2.1.length ∧ ((dfK A B A.length).getD i (0, [], [])).2.2.length = ((dfK A B A.length).getD i (0, [], [])).2.1.length ∧ 0 ≤ ((dfK A B A.length).getD i (0, [], [])).1 ∧ ((dfK A B A.length).getD i (0, [], [])).1 + ((dfK A B A.length).getD i (0, [], [])).2.1.length ≤ 6400 ∧
      ∀ k, k < ((dfK A B A.length).getD i (0, [], [])).2.1.length → ((dfK A B A.length).getD i (0, [], [])).2.1.getD k 0 ≠ ((dfK A B A.length).getD i (0, [], [])).2.2.getD k 0 := by
  have hd := df_dfK h1 A.length (Nat.le_refl _)
  obtain ⟨p, n, he, hn, hpn, hdf⟩ := hd.all _ (getD_mem hi)
  rw [he]
  have l1 : (chOf A B p n).2.1.length = n := by show ((A.drop p).take n).length = n; rw [List.length_take, List.length_drop]; omega
  have l2 : (chOf A B p n).2.2.length = n := by show ((B.drop p).take n).length = n; rw [List.length_take, List.length_drop]; omega
  rw [l1, l2]
  refine ⟨hn, rfl, ?_, ?_, fun k hk => ?_⟩
  · show (0 : Int) ≤ (p : Int); omega
  · show (p : Int) + n ≤ 6400; omega
  · have := hdf (p + k) (by omega) (by omega)
    show ((A.drop p).take n).getD k 0 ≠ ((B.drop p).take n).getD k 0
    simp only [List.getD, List.getElem?_take, if_pos hk, List.getElem?_drop] at this ⊢
    exact this
theorem db_gap {A B : List Int} (h1 : A.length = B.length) {i : Nat} (hi : i + 1 < (dfK A B A.length).length) :
    ((dfK A B A.length).getD i (0, [], [])).1 + ((dfK A B A.length).getD i (0, [], [])).2.1.length < ((dfK A B A.length).getD (i + 1) (0, [], [])).1 := by
  have hd := (df_dfK h1 A.length (Nat.le_refl _)).gap
  have := List.pairwise_iff_getElem.1 hd i (i + 1) (by omega) hi (by omega)
  have e1 : (dfK A B A.length).getD i (0, [], []) = (dfK A B A.length)[i] := by simp [List.getD, show i < (dfK A B A.length).length by omega]
  have e2 : (dfK A B A.length).getD (i + 1) (0, [], []) = (dfK A B A.length)[i + 1] := by simp [List.getD, hi]
  rw [e1, e2]
  exact this
theorem db_turn {A B : List Int} (h1 : A.length = B.length) (hn : (dfK A B A.length).length ≤ 200) : apF B (turnL (dfK A B A.length)) = 0 ∧ apR B (turnL (dfK A B A.length)) = A := by
  obtain ⟨e1, e2⟩ := df_turn h1
  have hF : apF B (turnL (dfK A B A.length)) = 0 := by
    unfold apF
    rw [if_neg (by unfold turnL; rw [List.length_map, List.length_reverse]; omega)]
    exact e1
  refine ⟨hF, ?_⟩
  unfold apR
  rw [if_pos hF, e2]
theorem db_fact : dfO [1, 2, 3] [1, 5, 6] = [(1, [2, 3], [5, 6])] ∧ dfE [1, 2, 3] [1, 5, 6] = 0 := by decide
theorem dfE_bad {l m : List Int} (h : dfE l m ≠ 0) : l.length ≠ m.length ∨ 6400 < l.length := by
  unfold dfE at h
  by_cases h1 : l.length ≠ m.length
  · exact .inl h1
  · rw [if_neg h1] at h
    by_cases h2 : 6400 < l.length
    · exact .inr h2
    · rw [if_neg h2] at h; exact absurd rfl h
end Go.Proofs.Ytbohnnflddfidaa
