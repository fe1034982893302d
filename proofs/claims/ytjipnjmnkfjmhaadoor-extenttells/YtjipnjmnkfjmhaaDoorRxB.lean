/-
  Contracts of the reference: which bytes are taken; the runs between them. (Part of the proofs over package extent.)
-/
import Derived.Test.YtjipnjmnkfjmhaaDoorExG
import Derived.Test.YtjipnjmnkfjmhaaDoorExHoles
import Derived.Deep.QuietTactic
namespace Go.Proofs.YtjipnjmnkfjmhaaDoor
open Go.RowKit Go.Sort Go.Shelf
set_option linter.unusedVariables false

theorem zero_taken : Tryd.zeroCells49 = Array.replicate 6401 (.bool false) := by kernel_rfl
/-- Block g says of each byte whether it is taken. -/
def TkB (w : World) (g : Nat) (tk : Nat → Bool) : Prop := ∃ cs : Array Value, w.heap[g]? = some (.cells cs 49 (0, 0)) ∧ ∀ i, i < 6401 → cs[i]? = some (.bool (tk i))
section
variable {w w' : World} {g : Nat} {tk tk' : Nat → Bool}
theorem TkB.lt (h : TkB w g tk) : g < w.heap.size := by obtain ⟨cs, h1, _⟩ := h; exact (Array.getElem?_eq_some_iff.1 h1).1
theorem TkB.cell (h : TkB w g tk) {i : Nat} (hi : i < 6401) : w.cell? ⟨g, i, none⟩ = some (.bool (tk i)) := by
  obtain ⟨cs, h1, h2⟩ := h
  rw [cell_of_row _ _ _ _ _ _ h1]; exact h2 i hi
theorem TkB.fr (h : TkB w g tk) (i : Nat) : w.frozen? ⟨g, i, none⟩ = false := by obtain ⟨cs, h1, _⟩ := h; exact frozen_of_row w g i _ _ h1
theorem TkB.congr (h : TkB w g tk) (he : ∀ i, i < 6401 → tk i = tk' i) : TkB w g tk' := by
  obtain ⟨cs, h1, h2⟩ := h
  exact ⟨cs, h1, fun i hi => by rw [h2 i hi, he i hi]⟩
theorem TkB.same (h : TkB w g tk) (hb : w'.heap[g]? = w.heap[g]?) : TkB w' g tk := by
  obtain ⟨cs, h1, h2⟩ := h
  exact ⟨cs, hb.trans h1, h2⟩
theorem TkB.set (h : TkB w g tk) (i : Nat) : TkB (w.setCell ⟨g, i, none⟩ (.bool true)) g (fun j => tk j || decide (j = i)) := by
  obtain ⟨cs, h1, h2⟩ := h
  refine ⟨_, heap_setCell_same w g i _ _ (.bool true) h1, fun j hj => ?_⟩
  have hsz : j < cs.size := (Array.getElem?_eq_some_iff.1 (h2 j hj)).1
  by_cases e : i = j
  · subst e
    simp [hsz]
  · rw [Array.getElem?_setIfInBounds_ne e, h2 j hj]
    have : decide (j = i) = false := decide_eq_false (fun h => e h.symm)
    show _ = some (Value.bool (tk j || decide (j = i)))
    rw [this, Bool.or_false]
end
theorem TkB.new (w : World) : TkB (w.alloc (.cells Tryd.zeroCells49 49)) w.heap.size (fun _ => false) :=
  ⟨_, heap_alloc_new w _, fun i hi => by rw [zero_taken]; simp [hi]⟩
/-- Which bytes extents take. -/
def tkL (l : List (Int × Int)) (j : Nat) : Bool := l.any (fun e => decide (e.1 ≤ (j : Int)) && decide ((j : Int) < e.1 + e.2))
theorem tkL_iff {l : List (Int × Int)} {j : Nat} : tkL l j = true ↔ ∃ e ∈ l, e.1 ≤ (j : Int) ∧ (j : Int) < e.1 + e.2 := by
  unfold tkL
  rw [List.any_eq_true]
  simp only [Bool.and_eq_true, decide_eq_true_eq]
theorem tkL_take {l : List (Int × Int)} {k : Nat} (hk : k < l.length) (j : Nat) : tkL (l.take (k + 1)) j = (tkL (l.take k) j || (decide ((l.getD k (0, 0)).1 ≤ (j : Int)) && decide ((j : Int) < (l.getD k (0, 0)).1 + (l.getD k (0, 0)).2))) := by
  have e : l.getD k (0, 0) = l[k] := by simp [List.getD, hk]
  unfold tkL
  rw [List.take_succ_eq_append_getElem hk, List.any_append, e]
  simp
theorem tk_more (t : Bool) (x m j : Nat) : ((t || (decide ((x : Int) ≤ (j : Int)) && decide ((j : Int) < (x : Int) + (m : Int)))) || decide (j = x + m)) = (t || (decide ((x : Int) ≤ (j : Int)) && decide ((j : Int) < (x : Int) + ((m + 1 : Nat) : Int)))) := by
  by_cases h1 : (x : Int) ≤ j
  · by_cases h2 : (j : Int) < x + m
    · rw [decide_eq_true h1, decide_eq_true h2, decide_eq_true (show (j : Int) < x + ((m + 1 : Nat) : Int) by omega)]; simp
    · by_cases h3 : j = x + m
      · rw [decide_eq_true h1, decide_eq_false h2, decide_eq_true h3, decide_eq_true (show (j : Int) < x + ((m + 1 : Nat) : Int) by omega)]; simp
      · rw [decide_eq_true h1, decide_eq_false h2, decide_eq_false h3, decide_eq_false (show ¬ (j : Int) < x + ((m + 1 : Nat) : Int) by omega)]; simp
  · rw [decide_eq_false h1, decide_eq_false (show ¬ j = x + m by omega)]; simp

/-- Runs byte by byte are there. -/
theorem holes_bd {tk : Nat → Bool} : ∀ i, (∀ x ∈ holesTo tk i, 0 ≤ x.1 ∧ 1 ≤ x.2 ∧ x.1 + x.2 ≤ (i : Int)) ∧ (holesTo tk i).length ≤ i
  | 0 => ⟨fun x hx => (by cases hx), Nat.le_refl _⟩
  | i + 1 => by
    obtain ⟨h1, h2⟩ := holes_bd (tk := tk) i
    show (∀ x ∈ (if tk i = true then holesTo tk i else extH (holesTo tk i) i), _) ∧ (if tk i = true then holesTo tk i else extH (holesTo tk i) i).length ≤ i + 1
    by_cases ht : tk i = true
    · rw [if_pos ht]
      exact ⟨fun x hx => by have := h1 x hx; omega, by omega⟩
    · rw [if_neg ht]
      unfold extH
      cases hl : (holesTo tk i).getLast? with
      | none =>
        refine ⟨fun x hx => ?_, by simp⟩
        rw [List.mem_singleton.1 hx]
        dsimp only; omega
      | some y =>
        have hy := h1 y (List.mem_of_getLast? hl)
        dsimp only
        by_cases he : y.1 + y.2 = i
        · rw [if_pos he]
          refine ⟨fun x hx => ?_, by simp; omega⟩
          rcases List.mem_append.1 hx with hx | hx
          · have := h1 x ((List.dropLast_sublist _).subset hx)
            omega
          · rw [List.mem_singleton.1 hx]
            dsimp only; omega
        · rw [if_neg he]
          refine ⟨fun x hx => ?_, by simp; omega⟩
          rcases List.mem_append.1 hx with hx | hx
          · have := h1 x hx
            omega
          · rw [List.mem_singleton.1 hx]
            dsimp only; omega
theorem extH_nil (i : Nat) : extH [] i = [((i : Int), 1)] := rfl
theorem extH_snoc (o : List (Int × Int)) (x : Int × Int) (i : Nat) : extH (o ++ [x]) i = if x.1 + x.2 = (i : Int) then o ++ [(x.1, x.2 + 1)] else (o ++ [x]) ++ [((i : Int), 1)] := by
  unfold extH
  rw [List.getLast?_concat]
  dsimp only
  rw [List.dropLast_concat]
/-- The last one's length turned. -/
theorem ExO.setLast {w : World} {B g cap : Nat} {o : List (Int × Int)} {x : Int × Int} (h : ExO w B (.slice (some ⟨g, 0, none⟩) (o ++ [x]).length cap) (o ++ [x])) (z : Int) :
    ExO (w.setCell ⟨g, o.length * 2 + 1, none⟩ (.int .i64 z)) B (.slice (some ⟨g, 0, none⟩) (o ++ [x]).length cap) (o ++ [(x.1, z)]) := by
  have h1 := (World.ownsRow.stored h (o.length * 2 + 1) (.int .i64 z)).1
  unfold ExO
  have e1 : (o ++ [(x.1, z)]).length = (o ++ [x]).length := by simp
  rw [e1]
  have e2 : ((o ++ [x]).flatMap exC).set (o.length * 2 + 1) (.int .i64 z) = (o ++ [(x.1, z)]).flatMap exC := by
    rw [List.flatMap_append, List.flatMap_append]
    rw [List.set_append_right _ _ (by rw [flat_length]; omega), flat_length]
    rw [show o.length * 2 + 1 - o.length * 2 = 1 by omega]
    rfl
  rw [e2] at h1
  exact h1
end Go.Proofs.YtjipnjmnkfjmhaaDoor
