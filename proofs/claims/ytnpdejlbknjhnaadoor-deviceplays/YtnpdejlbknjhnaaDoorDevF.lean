/-
  Contracts of package device: Pending. (Part of the proofs over package device.)
-/
import Derived.Test.YtnpdejlbknjhnaaDoorDevE
namespace Go.Proofs.YtnpdejlbknjhnaaDoor
open Go.RowKit
set_option linter.unusedVariables false

/-- Block g is a row of just the numbers l. -/
def cellsI (l : List Int) : Array Value := (l.map (Value.int .i64)).toArray
def IBlk (w : World) (g : Nat) (l : List Int) : Prop := w.heap[g]? = some (.cells (cellsI l) 3 (0, 0))
theorem IBlk.lt {w : World} {g : Nat} {l : List Int} (h : IBlk w g l) : g < w.heap.size := (Array.getElem?_eq_some_iff.1 h).1
theorem IBlk.cell {w : World} {g : Nat} {l : List Int} (h : IBlk w g l) (i : Nat) (hi : i < l.length) : w.cell? ⟨g, i, none⟩ = some (.int .i64 (l.getD i 0)) := by
  rw [cell_of_row w g i _ 3 (0, 0) h]; simp [cellsI, hi, List.getD]
theorem IBlk.same {w w' : World} {g : Nat} {l : List Int} (h : IBlk w g l) (e : w'.heap[g]? = w.heap[g]?) : IBlk w' g l := e.trans h
theorem IBlk.below {w w' : World} {g : Nat} {l : List Int} (h : IBlk w g l) (hb : Below w.heap.size w w') : IBlk w' g l := h.same (hb.block g h.lt)
def keysI (m : List (Nat × List Int)) : List Int := m.map fun q => (q.1 : Int)
theorem length_keysI (m : List (Nat × List Int)) : (keysI m).length = m.length := by simp [keysI]

theorem made_ints (n : Nat) : madeCells (Value.int .i64 0).cells n = cellsI (zerosB n) := by
  apply Array.ext
  · simp [madeCells, zerosB, cellsI]
  · intro i h1 h2
    simp [madeCells, zerosB, cellsI, Value.cells, Nat.mod_one]

theorem wpList_make_ints {P : Program} {w : World} {ops : Array Oper} {rest : List Oper} {o : Oper} {a : Act} {Q : Exit → Act → World → Prop}
    (hg : o.guard = none) (l c : Operand) (t : TypeId) (hop : o.op = Op.makeSlice t l c)
    (i : TypeInfo) (h1 : P.underlying t = some (.slice 3)) (h2 : P.info? 3 = some i) (h3 : i.zero = some (.int .i64 0)) (h4 : i.size = 1) (h5 : i.bytes = 8)
    (kl kc : IntKind) (L C : Int) (n : Nat) (hl : a.eval l = .int kl L) (hc : a.eval c = .int kc C) (hL : L = (n : Int)) (hC : C = (n : Int)) (b2 : n ≤ 281474976)
    (hK : wpList P ops Q rest (a.put o.dst (.slice (some ⟨w.heap.size, 0, none⟩) n n)) (w.alloc (.cells (cellsI (zerosB n)) 3))) :
    wpList P ops Q (o :: rest) a w := by
  refine wpList_plain hg fun K hK' => ?_
  have hrun := run_make (P := P) w t 3 i _ h1 h2 h3 kl kc n n (by omega) (by omega) (by rw [h5]; omega) (by omega)
  subst hL
  subst hC
  rw [h4, Nat.mul_one, made_ints] at hrun
  unfold Oper.wp
  simp [execOp, hop, hl, hc, hrun, Result.andThen]
  exact hK' _ _ hK

section
variable {w : World} {p : Nat} {S : Nat → Prop} {D : DS}

theorem pending_any (h : Dev w p S D) :
    Calls Tryd.prog 19 #[.pointer (some ⟨p, 0, none⟩)] w fun e w' => ∃ g, e = .returned (.slice (some ⟨g, 0, none⟩) D.mem.length D.mem.length) ∧ w.heap.size ≤ g ∧ IBlk w' g (keysI D.mem) ∧ Below w.heap.size w w' := by
  obtain ⟨sb, bm, pv, h⟩ := h
  have c2 := h.c2
  have hml := h.ok.mem_len
  obtain ⟨i0, hi0, hz0, hz1, hz2⟩ := info_parts info_int
  have h1 := h.alloc (.cells (cellsI (zerosB D.mem.length)) 3)
  have c2' := h1.c2
  rcases h.pv_cases with ⟨rfl, hm0⟩ | ⟨g, cap, rfl, hcap, hcm, hcell⟩
  · have hl0 : D.mem.length = 0 := by rw [hm0]; rfl
    have hk0 : keysI D.mem = [] := by rw [hm0]; rfl
    rw [hl0] at c2' ⊢
    rw [hk0]
    have hcopy := run_copy_nil (P := Tryd.prog) (w.alloc (.cells (cellsI (zerosB 0)) 3)) 34 34 3 3 ⟨w.heap.size, 0, none⟩ 0 0 Tryd.underlying34 (by rw [hi0]; rfl)
    clear h h1 hm0 hl0 hk0
    go_enter Tryd.func19, Tryd.ntmps19
    go_wp2_with (at_make; refine wpList_make_ints rfl _ _ 34 rfl i0 Tryd.underlying34 hi0 hz0 hz1 hz2 _ _ _ _ 0 rfl rfl rfl rfl (by omega) ?_)
    go_ret
    exact ⟨w.heap.size, rfl, Nat.le_refl _, heap_alloc_new _ _, (Below.refl _ _).alloc (Nat.le_refl _) _⟩
  · unfold maxLen at hcm
    obtain ⟨n, hn⟩ : ∃ n, D.mem.length = n := ⟨_, rfl⟩
    have hkl : (keysI D.mem).length = n := by rw [length_keysI, hn]
    have hcc : ∀ j v, ((keysI D.mem).map (Value.int .i64))[j]? = some v → (w.alloc (.cells (cellsI (zerosB D.mem.length)) 3)).cell? (Addr.add ⟨g, 0, none⟩ j) = some v := by
      intro j v hv
      have hj : j < D.mem.length := by
        rcases Nat.lt_or_ge j D.mem.length with h2 | h2
        · exact h2
        · rw [List.getElem?_eq_none (by rw [List.length_map, length_keysI]; exact h2)] at hv; cases hv
      rw [addr_add, Nat.zero_add, h1.pend_cell j hj, ← hv]
      simp [keysI, hj, List.getD]
    rw [hn] at hcc c2' ⊢
    have hcopy := run_copy_row (P := Tryd.prog) (w.alloc (.cells (cellsI (zerosB n)) 3)) 34 34 3 3 w.heap.size 0 n n ⟨g, 0, none⟩ n cap (cellsI (zerosB n)) 3 ((keysI D.mem).map (Value.int .i64)) Tryd.underlying34 (by rw [hi0]; simp [hz1]) (heap_alloc_new _ _) (by rw [List.length_map, hkl]; simp) hcc (by simp [cellsI, zerosB, hkl]) (fun v hv => by
      obtain ⟨z, _, rfl⟩ := List.mem_map.1 hv
      rfl)
    have hw : (w.alloc (.cells (cellsI (zerosB n)) 3)).setRow w.heap.size ((cellsI (zerosB n)).toList.take 0 ++ (keysI D.mem).map (Value.int .i64) ++ (cellsI (zerosB n)).toList.drop (0 + ((keysI D.mem).map (Value.int .i64)).length)).toArray = w.alloc (.cells (cellsI (keysI D.mem)) 3) := by
      rw [World.setRow_alloc_new]
      simp [cellsI, zerosB, hkl]
    rw [hw] at hcopy
    have hcopy' : Sem.run Tryd.prog (Builtin.copy_ #[34, 34] 3 #[.slice (some ⟨w.heap.size, 0, none⟩) n n, .slice (some ⟨g, 0, none⟩) n cap]) (w.alloc (.cells (cellsI (zerosB n)) 3)) = .ok (.int .i64 n) (w.alloc (.cells (cellsI (keysI D.mem)) 3)) := by
      rw [hcopy]; simp [goInt, hkl]
    rw [hn] at c2 hml hcap
    clear h h1 hcell hcc hw hcopy hn hkl
    go_enter Tryd.func19, Tryd.ntmps19
    go_wp2_with (at_make; refine wpList_make_ints rfl _ _ 34 rfl i0 Tryd.underlying34 hi0 hz0 hz1 hz2 _ _ _ _ n rfl rfl rfl rfl (by omega) ?_)
    go_ret
    exact ⟨w.heap.size, rfl, Nat.le_refl _, heap_alloc_new _ _, (Below.refl _ _).alloc (Nat.le_refl _) _⟩
end
end Go.Proofs.YtnpdejlbknjhnaaDoor
