/-
  What the law DiffJoin asks, as plain lists. (Part of the proof of DiffJoin.)
-/
import Derived.Test.YtbohnnflddfidaaDfE
import Derived.Test.YtbohnnflddfidaaDfQ
import Derived.Test.YtbohnnflddfidaaAppSls
namespace Go.Proofs.Ytbohnnflddfidaa
open Go.RowKit
set_option linter.unusedVariables false

theorem dfE_zero {l m : List Int} (h : dfE l m = 0) : l.length = m.length ∧ l.length ≤ 6400 ∧ dfO l m = dfK l m l.length := by
  have hO : dfO l m = dfK l m l.length := by unfold dfO; rw [if_pos h]
  unfold dfE at h
  by_cases h1 : l.length = m.length
  · rw [if_neg (fun g => g h1)] at h
    by_cases h2 : 6400 < l.length
    · rw [if_pos h2] at h; cases h
    · exact ⟨h1, by omega, hO⟩
  · rw [if_pos h1] at h; cases h
theorem dfO_few (l m : List Int) : (dfO l m).length ≤ 6400 := by
  by_cases h : dfE l m = 0
  · obtain ⟨h1, h2, h3⟩ := dfE_zero h
    rw [h3]
    have := df_few h1 l.length (Nat.le_refl _)
    omega
  · unfold dfO; rw [if_neg h]; simp
/-- What Diff says of any two lists, with the slice written out. -/
theorem diff_chs (a a' : Option Addr) (cap cap' : Nat) (l m : List Int) (w : World) (hb : Bs w a cap l) (hb' : Bs w a' cap' m) :
    Calls Try.prog 6 #[.slice a l.length cap, .slice a' m.length cap'] w fun e w' => ∃ va vc, e = .returned (.tuple #[.slice va (dfO l m).length vc, errV (dfE l m)]) ∧ Chs w' va vc (dfO l m) ∧ Below w.heap.size w w' := by
  refine (diff_any a a' cap cap' l m w hb hb').mono ?_
  rintro e w' ⟨v, rfl, hch, hbel⟩
  obtain ⟨va, vc, rfl, hcs⟩ := hch.chs (by have := dfO_few l m; omega)
  exact ⟨va, vc, rfl, hcs, hbel⟩
/-- Step by step it comes to the same. -/
theorem dj_all {A B C : List Int} (h1 : A.length = B.length) (h2 : B.length = C.length) (hn : (dfK A B A.length ++ dfK B C B.length).length ≤ 200) :
    apF A (dfK A B A.length ++ dfK B C B.length) = 0 ∧ apR A (dfK A B A.length ++ dfK B C B.length) = C := by
  obtain ⟨e1, e2⟩ := df_apply h1
  obtain ⟨e3, e4⟩ := df_apply h2
  have hF : apF A (dfK A B A.length ++ dfK B C B.length) = 0 := by
    unfold apF
    rw [if_neg (by omega), apE_append e1, e2]
    exact e3
  refine ⟨hF, ?_⟩
  unfold apR
  rw [if_pos hF, apL_append, e2, e4]
theorem dj_one {A C : List Int} (h1 : A.length = C.length) (hn : (dfK A C A.length).length ≤ 200) : apF A (dfK A C A.length) = 0 ∧ apR A (dfK A C A.length) = C := by
  obtain ⟨e1, e2⟩ := df_apply h1
  have hF : apF A (dfK A C A.length) = 0 := by
    unfold apF
    rw [if_neg (by omega)]
    exact e1
  refine ⟨hF, ?_⟩
  unfold apR
  rw [if_pos hF, e2]
/-- Two rows of changes, one behind the other. -/
theorem chs_join {w : World} {B : Nat} {v : Value} {rs qs : List (Int × (Option Addr × Nat × List Int) × (Option Addr × Nat × List Int))} {l m : List (Int × List Int × List Int)} (h : Lst rwC 3 29 w B v (rs ++ qs)) (hl : rs.map rwP = l) (hm : qs.map rwP = m) (h1 : ∀ r ∈ rs, RdC w r) (h2 : ∀ r ∈ qs, RdC w r) (hn : (rs ++ qs).length ≤ 8796093021952) :
    ∃ a c, v = .slice a (l ++ m).length c ∧ Chs w a c (l ++ m) := by
  obtain ⟨a, c, e, hs⟩ := h.sls rwC_len hn
  refine ⟨a, c, ?_, rs ++ qs, by rw [List.map_append, hl, hm], hs, fun r hr => ?_⟩
  · rw [e, ← hl, ← hm, ← List.map_append, List.length_map]
  · rcases List.mem_append.1 hr with hr | hr
    · exact h1 r hr
    · exact h2 r hr
/-- Is a page among those that are told? -/
theorem dj_page {A C : List Int} (h1 : A.length = C.length) (h64 : A.length ≤ 6400) {P : List Int} (hP : ∀ z, z ∈ P ↔ ∃ j : Nat, z = j ∧ touch (dfK A C A.length) j = true) {i : Nat} (hi : 32 * i < A.length) :
    P.any (fun z => z == (i : Int)) = !decide ((A.drop (32 * i)).take 32 = (C.drop (32 * i)).take 32) := by
  have hd := (df_pages h1 h64).2 i hi
  have hm : P.any (fun z => z == (i : Int)) = true ↔ touch (dfK A C A.length) i = true := by
    rw [List.any_eq_true]
    constructor
    · rintro ⟨z, hz, e⟩
      obtain ⟨j, rfl, hj⟩ := (hP z).1 hz
      have : j = i := by have := eq_of_beq e; omega
      rw [← this]
      exact hj
    · intro h
      exact ⟨i, (hP _).2 ⟨i, rfl, h⟩, beq_self_eq_true _⟩
  rw [Bool.eq_iff_iff, hm, hd]
  simp
/-- What a row of ints reads as. -/
theorem ints_row {w : World} {B : Nat} {v : Value} {P : List Int} (h : w.ownsRow B 3 1 v P.length (P.map (Value.int .i64))) : ∃ a c, v = .slice a P.length c ∧ ∀ i, i < P.length → ∃ g, a = some ⟨g, 0, none⟩ ∧ w.cell? ⟨g, i, none⟩ = some (.int .i64 (P.getD i 0)) := by
  rcases h.2 with ⟨rfl, h0⟩ | ⟨g, cap, cur, rfl, hB, hc, h3, h4, h5, h6⟩
  · exact ⟨none, 0, by rw [h0], fun i hi => by omega⟩
  · refine ⟨some ⟨g, 0, none⟩, cap, rfl, fun i hi => ⟨g, rfl, ?_⟩⟩
    rw [cell_of_row _ _ _ _ _ _ hc]
    have e : (cur.toList.take (P.length * 1))[i]? = some (.int .i64 (P.getD i 0)) := by
      rw [h6]
      simp [List.getD, hi]
    rw [List.getElem?_take, if_pos (by omega)] at e
    simpa using e
theorem any_take_succ (P : List Int) (z : Int) (k : Nat) (hk : k < P.length) : (P.take (k + 1)).any (fun x => x == z) = ((P.take k).any (fun x => x == z) || (P.getD k 0 == z)) := by
  rw [List.take_succ_eq_append_getElem hk, List.any_append]
  simp [List.getD, hk]
theorem take_min (L : List Int) (i : Nat) : (L.drop (32 * i)).take (min (32 * i + 32) L.length - 32 * i) = (L.drop (32 * i)).take 32 := by
  rcases Nat.le_total (32 * i + 32) L.length with h | h
  · rw [Nat.min_eq_left h, Nat.add_sub_cancel_left]
  · rw [Nat.min_eq_right h, List.take_of_length_le (by rw [List.length_drop]; omega), List.take_of_length_le (by rw [List.length_drop]; omega)]
end Go.Proofs.Ytbohnnflddfidaa
