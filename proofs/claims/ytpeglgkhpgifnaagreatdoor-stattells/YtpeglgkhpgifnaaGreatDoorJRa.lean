/-
  A row of ints that is made, and rows of texts: for the reference's Check. (Part of the proof of CheckTells.)
-/
import Derived.Test.YtpeglgkhpgifnaaGreatDoorJIr
import Derived.Test.YtpeglgkhpgifnaaGreatDoorJCi
namespace Go.Proofs.YtpeglgkhpgifnaaGreatDoor
open Go.RowKit
set_option linter.unusedVariables false

/-- Block g is a row of just the ints l. -/
def WtB (w : World) (g : Nat) (l : List Int) : Prop := w.heap[g]? = some (.cells (l.map (Value.int .i64)).toArray 3 (0, 0))
theorem WtB.lt {w : World} {g : Nat} {l : List Int} (h : WtB w g l) : g < w.heap.size := (Array.getElem?_eq_some_iff.1 h).1
theorem WtB.cell {w : World} {g : Nat} {l : List Int} (h : WtB w g l) {i : Nat} (hi : i < l.length) : w.cell? ⟨g, i, none⟩ = some (.int .i64 (l.getD i 0)) := by
  rw [cell_of_row _ _ _ _ _ _ h]
  simp [List.getD, hi]
theorem WtB.fr {w : World} {g : Nat} {l : List Int} (h : WtB w g l) (i : Nat) : w.frozen? ⟨g, i, none⟩ = false := frozen_of_row w g i _ _ h
theorem WtB.set {w : World} {g : Nat} {l : List Int} (h : WtB w g l) (i : Nat) (c : Int) : WtB (w.setCell ⟨g, i, none⟩ (.int .i64 c)) g (l.set i c) := by
  have h1 := heap_setCell_same w g i _ _ (.int .i64 c) h
  unfold WtB
  rw [h1, List.map_set]
  simp
theorem WtB.below {w w' : World} {g : Nat} {l : List Int} (h : WtB w g l) (hb : Below w.heap.size w w') : WtB w' g l := (hb.block g h.lt).trans h
theorem made_ints (n : Nat) : (madeCells (Value.int .i64 0).cells n).toList = (zerosB n).map (Value.int .i64) := by
  apply List.ext_getElem
  · simp [madeCells, zerosB]
  · intro i h1 h2
    simp [madeCells, zerosB, Value.cells, Nat.mod_one]
theorem wpList_make_int {P : Program} {w : World} {ops : Array Oper} {rest : List Oper} {o : Oper} {a : Act} {Q : Exit → Act → World → Prop}
    (hg : o.guard = none) (l c : Operand) (t : TypeId) (hop : o.op = Op.makeSlice t l c)
    (i : TypeInfo) (h1 : P.underlying t = some (.slice 3)) (h2 : P.info? 3 = some i) (h3 : i.zero = some (.int .i64 0)) (h4 : i.size = 1) (h5 : i.bytes = 8)
    (kl kc : IntKind) (L C : Int) (n : Nat) (hl : a.eval l = .int kl L) (hc : a.eval c = .int kc C) (hL : L = (n : Int)) (hC : C = (n : Int)) (b2 : n ≤ 1000)
    (hK : ∀ w', WtB w' w.heap.size (zerosB n) → w'.heap.size = w.heap.size + 1 → Below w.heap.size w w' → wpList P ops Q rest (a.put o.dst (.slice (some ⟨w.heap.size, 0, none⟩) n n)) w') :
    wpList P ops Q (o :: rest) a w := by
  refine wpList_plain hg fun K hK' => ?_
  have hrun := run_make (P := P) w t 3 i _ h1 h2 h3 kl kc n n (by omega) (by omega) (by rw [h5]; omega) (by omega)
  subst hL
  subst hC
  unfold Oper.wp
  simp [execOp, hop, hl, hc, hrun, Result.andThen]
  refine hK' _ _ (hK _ ?_ (by simp) ((Below.refl _ _).alloc (Nat.le_refl _) _))
  unfold WtB
  rw [heap_alloc_new, h4, Nat.mul_one]
  congr 2
  apply Array.toList_inj.1
  rw [made_ints]
/-- What a row of another element type owns, an append leaves standing. -/
theorem Lst.keep {α β : Type} {enc : α → List Value} {fnc : β → List Value} {k T k' T' : Nat} {w w' : World} {B B' : Nat} {v v' : Value} {l : List α} {l' : List β} (h : Lst enc k T w B v l) (h' : Lst fnc k' T' w B' v' l') (hne : T ≠ T')
    (hk : ∀ j, j < w.heap.size → v.ownBlock ≠ some j → w'.heap[j]? = w.heap[j]?) : Lst fnc k' T' w' B' v' l' := by
  refine ⟨h'.1, ?_⟩
  rcases h'.2 with h0 | ⟨g, cap, cur, rfl, hB, hc, h3⟩
  · exact .inl h0
  · refine .inr ⟨g, cap, cur, rfl, hB, (hk g (Array.getElem?_eq_some_iff.1 hc).1 (fun e => ?_)).trans hc, h3⟩
    rcases h.2 with ⟨rfl, _⟩ | ⟨g1, cap1, cur1, rfl, hB1, hc1, _⟩
    · cases e
    · simp [Value.ownBlock] at e
      subst e
      rw [hc1] at hc
      simp at hc
      exact hne hc.2
theorem WtB.keep {α : Type} {enc : α → List Value} {k T : Nat} {w w' : World} {B g : Nat} {v : Value} {l : List α} {m : List Int} (h : Lst enc k T w B v l) (h' : WtB w g m) (hne : T ≠ 3)
    (hk : ∀ j, j < w.heap.size → v.ownBlock ≠ some j → w'.heap[j]? = w.heap[j]?) : WtB w' g m := by
  refine (hk g h'.lt (fun e => ?_)).trans h'
  rcases h.2 with ⟨rfl, _⟩ | ⟨g1, cap1, cur1, rfl, hB1, hc1, _⟩
  · cases e
  · simp [Value.ownBlock] at e
    subst e
    unfold WtB at h'
    rw [hc1] at h'
    simp at h'
    exact hne h'.2

/-- The array of what each handle is, as far as k. -/
def whL (L : List Int) (k : Nat) : List Int := (List.range 41).map fun j => if 1 ≤ j ∧ j ≤ k then whE L j else 0
theorem whL_len (L : List Int) (k : Nat) : (whL L k).length = 41 := by simp [whL]
theorem whL_at {L : List Int} {k j : Nat} (hj : j < 41) : (whL L k).getD j 0 = if 1 ≤ j ∧ j ≤ k then whE L j else 0 := by
  unfold whL
  simp [List.getD, hj]
theorem whL_zero (L : List Int) : whL L 0 = zerosB 41 := by
  apply List.ext_getElem
  · simp [whL, zerosB]
  · intro i h1 h2
    simp only [whL, zerosB, List.getElem_map, List.getElem_range, List.getElem_replicate]
    rw [if_neg (by omega)]
theorem whL_set {L : List Int} {k : Nat} (hk : k < 40) {c : Int} (hc : c = whE L ((k : Int) + 1)) : (whL L k).set (k + 1) c = whL L (k + 1) := by
  apply List.ext_getElem
  · simp [whL]
  · intro i h1 h2
    rw [List.getElem_set]
    simp only [whL, List.getElem_map, List.getElem_range]
    by_cases e : k + 1 = i
    · subst e
      rw [if_pos rfl, if_pos (by omega), hc]
      congr 1
    · rw [if_neg e]
      by_cases h3 : 1 ≤ i ∧ i ≤ k
      · rw [if_pos h3, if_pos (by omega)]
      · rw [if_neg h3, if_neg (by omega)]
theorem whL_none {L : List Int} {k : Nat} (hk : k < 40) (hc : whE L ((k : Int) + 1) = 0) : whL L (k + 1) = whL L k := by
  rw [← whL_set hk hc.symm]
  apply List.ext_getElem
  · simp [whL]
  · intro i h1 h2
    rw [List.getElem_set]
    by_cases e : k + 1 = i
    · subst e
      rw [if_pos rfl]
      simp only [whL, List.getElem_map, List.getElem_range]
      rw [if_neg (by omega)]
    · rw [if_neg e]

/-! ### rows of texts -/
def stC (s : ByteArray) : List Value := [.string s]
theorem stC_len (s : ByteArray) : (stC s).length = 1 := rfl
theorem stC_one (s : ByteArray) : ∀ u ∈ stC s, u.oneCell' = true := by
  intro u hu
  unfold stC at hu
  rw [List.mem_singleton.1 hu]
  rfl
theorem info_str : (Tryz.prog.info? 9).map (fun i => (i.zero, i.size, i.bytes)) = some (some (.string ByteArray.empty), 1, 16) := by kernel_rfl
theorem info_int : (Tryz.prog.info? 3).map (fun i => (i.zero, i.size, i.bytes)) = some (some (.int .i64 0), 1, 8) := by kernel_rfl
end Go.Proofs.YtpeglgkhpgifnaaGreatDoor
