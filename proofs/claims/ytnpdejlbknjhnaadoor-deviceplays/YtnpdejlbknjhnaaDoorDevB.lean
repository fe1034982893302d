/-
  Contracts of package device: what is remembered, and Write. (Part of the proofs over package device.)
-/
import Derived.Test.YtnpdejlbknjhnaaDoorDevA
import Derived.Maps.AppendAt
import Derived.Deep.RegionHeld3
import Derived.Deep.DrawnRows
namespace Go.Proofs.YtnpdejlbknjhnaaDoor
open Go.RowKit
set_option linter.unusedVariables false

theorem info_int : (Tryd.prog.info? 3).map (fun i => (i.zero, i.size, i.bytes)) = some (some (.int .i64 0), 1, 8) := by kernel_rfl
theorem row_new (w : World) (l : List Int) (t : TypeId) : RowT (w.alloc (.cells (cellsB l) t)) w.heap.size t l := heap_alloc_new _ _
theorem z32 : (#[.int .u8 0, .int .u8 0, .int .u8 0, .int .u8 0, .int .u8 0, .int .u8 0, .int .u8 0, .int .u8 0, .int .u8 0, .int .u8 0, .int .u8 0, .int .u8 0, .int .u8 0, .int .u8 0, .int .u8 0, .int .u8 0, .int .u8 0, .int .u8 0, .int .u8 0, .int .u8 0, .int .u8 0, .int .u8 0, .int .u8 0, .int .u8 0, .int .u8 0, .int .u8 0, .int .u8 0, .int .u8 0, .int .u8 0, .int .u8 0, .int .u8 0, .int .u8 0] : Array Value) = cellsB (zerosB 32) := rfl

theorem size_alloc (w : World) (o : Obj) : (w.alloc o).heap.size = w.heap.size + 1 := by simp
/-- A slice is copied into a new sector. -/
theorem copy_new (w : World) (a : Option Addr) (cap : Nat) (l : List Int) (hl : l.length = 32) (hb : Bs (w.alloc (.cells #[.int .u8 0, .int .u8 0, .int .u8 0, .int .u8 0, .int .u8 0, .int .u8 0, .int .u8 0, .int .u8 0, .int .u8 0, .int .u8 0, .int .u8 0, .int .u8 0, .int .u8 0, .int .u8 0, .int .u8 0, .int .u8 0, .int .u8 0, .int .u8 0, .int .u8 0, .int .u8 0, .int .u8 0, .int .u8 0, .int .u8 0, .int .u8 0, .int .u8 0, .int .u8 0, .int .u8 0, .int .u8 0, .int .u8 0, .int .u8 0, .int .u8 0, .int .u8 0] 74)) a cap l) :
    (Builtin.copy_ #[35, 35] 3 #[.slice (some ⟨w.heap.size, 0, none⟩) 32 32, .slice a 32 cap]).run Tryd.prog (w.alloc (.cells #[.int .u8 0, .int .u8 0, .int .u8 0, .int .u8 0, .int .u8 0, .int .u8 0, .int .u8 0, .int .u8 0, .int .u8 0, .int .u8 0, .int .u8 0, .int .u8 0, .int .u8 0, .int .u8 0, .int .u8 0, .int .u8 0, .int .u8 0, .int .u8 0, .int .u8 0, .int .u8 0, .int .u8 0, .int .u8 0, .int .u8 0, .int .u8 0, .int .u8 0, .int .u8 0, .int .u8 0, .int .u8 0, .int .u8 0, .int .u8 0, .int .u8 0, .int .u8 0] 74)) = .ok (.int .i64 32) (w.alloc (.cells (cellsB l) 74)) := by
  have h := run_copy_at (P := Tryd.prog) (w.alloc (.cells #[.int .u8 0, .int .u8 0, .int .u8 0, .int .u8 0, .int .u8 0, .int .u8 0, .int .u8 0, .int .u8 0, .int .u8 0, .int .u8 0, .int .u8 0, .int .u8 0, .int .u8 0, .int .u8 0, .int .u8 0, .int .u8 0, .int .u8 0, .int .u8 0, .int .u8 0, .int .u8 0, .int .u8 0, .int .u8 0, .int .u8 0, .int .u8 0, .int .u8 0, .int .u8 0, .int .u8 0, .int .u8 0, .int .u8 0, .int .u8 0, .int .u8 0, .int .u8 0] 74)) 35 35 3 Tryd.underlying35 size_u8 (dCap := 32) (g := w.heap.size) (t := 74) (off := 0) (z := zerosB 32) (l := l) (by rw [hl, length_zerosB]; decide) (row_new w (zerosB 32) _) hb
  rw [hl] at h
  rw [h, splice_zero _ _ (by rw [hl, length_zerosB])]
  unfold rowW
  rw [World.setRow_alloc_new]
  rfl
theorem range_last (w : World) (l : List Int) : (w.alloc (.cells (cellsB l) 74)).rangeAt w.heap.size 0 (l.map (Value.int .u8)) := by
  intro j v hv
  rw [Nat.zero_add, cell_of_row _ _ j _ _ (0, 0) (heap_alloc_new w _)]
  simpa [cellsB] using hv

theorem cell_one_new' (w : World) (o : Obj) (x : Value) (t : TypeId) : ∀ j u, ([x] : List Value)[j]? = some u → ((w.alloc o).alloc (.cells #[x] t)).cell? (Addr.add ⟨w.heap.size + 1, 0, none⟩ j) = some u := by
  intro j u hj
  cases j with
  | zero =>
    simp at hj; subst hj
    rw [addr_add, cell_of_row _ _ _ _ _ (0, 0) (heap_alloc2_new w o _)]
    simp
  | succ j => simp at hj
theorem one_int (x : Int) : ∀ u ∈ ([.int .i64 x] : List Value), u.oneCell' = true := by
  intro u hu; simp at hu; subst hu; rfl

section
variable {w : World} {p sb bm : Nat} {pv : Value} {S : Nat → Prop} {D : DS}

set_option maxRecDepth 100000 in
theorem remember_old (i : Nat) (a : Option Addr) (cap : Nat) (l : List Int) (h : DevAt w p sb bm pv S D) (hi : i < D.secs.length) (hb : Bs w a cap l) (hl : l.length = 32) (hn : ∀ x, a = some x → ¬ S x.block) (c : List Int) (hc : D.mem.lookup i = some c) :
    Calls Tryd.prog 29 #[.pointer (some ⟨p, 0, none⟩), .int .i64 i, .slice a 32 cap] w fun e w' => e = .returned (.tuple #[]) ∧ (∃ pv' S', DevAt w' p sb bm pv' S' (D.put i l) ∧ Turn S S' w w') := by
  have hlen := h.ok.len
  have c1 := h.c1
  have hcs : Sec c := (h.ok.mem _ (lookup_mem hc)).2
  have hlook := h.mem.look (E := 74) Tryd.underlying3 Tryd.underlying65 (zero_sec w) true (i := i) (by omega)
  have hmv : memV D.mem i = c := by unfold memV; rw [hc]; rfl
  rw [hmv, hc] at hlook
  simp only [if_true, Option.isSome_some] at hlook
  unfold sv at hlook
  have hsz : (cellsB c).size = 32 := by rw [size_cellsB]; exact hcs.1
  have hst := store_new w c hcs.1
  have hcopy := copy_new (w.alloc (.cells (cellsB c) 74)) a cap l hl (hb.turn ((Turn.alloc S _ _).trans (Turn.alloc S _ _)) hn)
  rw [size_alloc] at hcopy
  have ht2 : Turn S S w ((w.alloc (.cells (cellsB c) 74)).alloc (.cells (cellsB l) 74)) := (Turn.alloc S _ _).trans (Turn.alloc S _ _)
  have h2 := (h.alloc (.cells (cellsB c) 74)).alloc (.cells (cellsB l) 74)
  obtain ⟨w3, hup, hm3, ht3⟩ := h2.drew.mem.store (E := 74) Tryd.underlying3 Tryd.underlying65 h.ok.mem_len (i := i) (by omega) hl
  have hup' : Sem.run Tryd.prog (Instr.mapUpdate 65 (.map (some bm)) (.int .i64 i) (.agg (l.map (Value.int .u8)).toArray)) (World.drew ((w.alloc (.cells (cellsB c) 74)).alloc (.cells (cellsB l) 74))) = .ok () w3 := hup
  clear hup
  have c1' := h2.c1
  have hrg : ((w.alloc (.cells (cellsB c) 74)).alloc (.cells (cellsB l) 74)).rangeAt (w.heap.size + 1) 0 (l.map (Value.int .u8)) := by
    have := range_last (w.alloc (.cells (cellsB c) 74)) l
    rwa [size_alloc] at this
  have hu := Tryd.underlying74
  have hin : (Tryd.prog.info? 74).map (·.size) = some (l.map (Value.int .u8)).length := by rw [List.length_map, hl]; exact size_sec
  have hll : (l.map (Value.int .u8)).length = 32 := by rw [List.length_map, hl]
  have hon := oneCell_u8 l
  have c13 : w3.cell? ⟨p, 1, none⟩ = some (.map (some bm)) := (World.cell?_of_block (a := ⟨p, 1, none⟩) (ht3.grown.block p (h2.drew.lt _ h2.inp) (fun e => h2.npm.symm (Option.some.inj e)))).trans c1'
  have rg3 : w3.rangeAt (w.heap.size + 1) 0 (l.map (Value.int .u8)) := fun j v hv => (World.cell?_of_block (a := ⟨w.heap.size + 1, 0 + j, none⟩) (ht3.grown.block (w.heap.size + 1) (by simp) (fun e => by have := h.lt bm h.inm; have := Option.some.inj e; omega))).trans (hrg j v hv)
  have H := hide h2
  have HT := hide ht2
  have HC := hide hc
  have HM := hide hm3
  have HU := hide ht3
  clear h hc hmv h2 ht2 hm3 ht3
  go_enter Tryd.func29, Tryd.ntmps29
  go_wp2_with fail
  go_region_held3 (fun w' => w'.cell? ⟨p, 1, none⟩ = some (.map (some bm)) ∧ w'.rangeAt (w.heap.size + 1) 0 (l.map (Value.int .u8))) (first | go_keep_ranges | exact ⟨c13, rg3⟩) (fail)
  go_end0
  have h2 := unhide H
  refine ⟨rfl, pv, S, ?_, (unhide HT).trans ((Turn.drew S _).trans (Turn.map (unhide HU) h2.inm))⟩
  exact h2.drew.put_old (by rw [unhide HC]; rfl) hi ⟨hl, hb.1⟩ (unhide HM) (unhide HU)

set_option maxRecDepth 100000 in
theorem remember_new (i : Nat) (a : Option Addr) (cap : Nat) (l : List Int) (h : DevAt w p sb bm pv S D) (hi : i < D.secs.length) (hb : Bs w a cap l) (hl : l.length = 32) (hn : ∀ x, a = some x → ¬ S x.block) (hc : D.mem.lookup i = none) :
    Calls Tryd.prog 29 #[.pointer (some ⟨p, 0, none⟩), .int .i64 i, .slice a 32 cap] w fun e w' => e = .returned (.tuple #[]) ∧ (∃ pv' S', DevAt w' p sb bm pv' S' (D.put i l) ∧ Turn S S' w w') := by
  have hlen := h.ok.len
  have hml := h.ok.mem_len
  have c1 := h.c1
  have hlook := h.mem.look (E := 74) Tryd.underlying3 Tryd.underlying65 (zero_sec w) true (i := i) (by omega)
  have hmv : memV D.mem i = zerosB 32 := by unfold memV; rw [hc]; rfl
  rw [hmv, hc] at hlook
  simp only [if_true, Option.isSome_none] at hlook
  unfold sv at hlook
  generalize hzz : zerosB 32 = zz at hlook
  have hzl : zz.length = 32 := by rw [← hzz]; exact length_zerosB 32
  have hsz : (cellsB zz).size = 32 := by rw [size_cellsB]; exact hzl
  have hst := store_new w zz hzl
  clear hzz hzl
  have h1 := (h.alloc (.cells (cellsB zz) 74))
  have c2 := h1.c2
  obtain ⟨i0, hi0, hz0, hz1, hz2⟩ := info_parts info_int
  have hown1 := (h1.alloc (.cells #[.int .i64 (i : Int)] 3)).pen
  have ht1 : Turn S S w ((w.alloc (.cells (cellsB zz) 74)).alloc (.cells #[.int .i64 (i : Int)] 3)) := (Turn.alloc S _ _).trans (Turn.alloc S _ _)
  have H := hide h
  have HT := hide ht1
  have HC := hide hc
  have HO := hide hown1
  clear h hc hmv h1 ht1 hown1
  go_enter Tryd.func29, Tryd.ntmps29
  go_wp2_with (at_builtin; refine wpList_append_own_at _ rfl _ _ 34 rfl 0 3 i0 (.int .i64 0) 1 8 Tryd.underlying34 hi0 hz0 hz1 hz2 rfl (by decide) _ _ _ rfl (unhide HO) ⟨w.heap.size + 1, 0, none⟩ 1 1 [.int .i64 (i : Int)] rfl rfl (cell_one_new' _ _ _ _) (one_int _) (by unfold maxLen; omega) (by omega) (by omega) ?_)
  intro v0 w2 hown2 hgrow2 hnil hloc
  obtain ⟨vg, vc, rfl⟩ : ∃ vg vc, v0 = .slice (some ⟨vg, 0, none⟩) (D.mem.length + 1) vc := by
    rcases hown2.2 with ⟨_, h0⟩ | ⟨g, vc, cur, h0, _⟩
    · omega
    · exact ⟨g, vc, h0⟩
  have h := unhide H
  have ht2 : Turn S S w w2 := (unhide HT).trans (Turn.grown hgrow2 (fun k hk => h.inv k hk))
  have hp2 : w2.heap[p]? = some (.cells (devCells sb D.secs.length bm pv D.left D.down) 67 (0, 0)) := by
    rw [hgrow2.block p (by have := h.lt p h.inp; simp; omega) (fun e => h.nvp e.symm)]
    exact ((h.alloc _).alloc _).str
  have hs2 : w2.heap[sb]? = w.heap[sb]? := by
    rw [hgrow2.block sb (by have := h.lt sb h.ins; simp; omega) (fun e => h.nvs e.symm)]
    exact (heap_alloc_old _ _ (by have := h.lt sb h.ins; simp; omega)).trans (heap_alloc_old _ _ (h.lt sb h.ins))
  have hm2 : w2.heap[bm]? = w.heap[bm]? := by
    rw [hgrow2.block bm (by have := h.lt bm h.inm; simp; omega) (fun e => h.nvm e.symm)]
    exact (heap_alloc_old _ _ (by have := h.lt bm h.inm; simp; omega)).trans (heap_alloc_old _ _ (h.lt bm h.inm))
  have hvp : (Value.slice (some ⟨vg, 0, none⟩) (D.mem.length + 1) vc).ownBlock ≠ some p := by
    intro e
    rcases hloc with h1 | h1
    · exact h.nvp (by rw [← h1]; exact e)
    · rw [h1] at e; have := Option.some.inj e; have := h.lt p h.inp; omega
  have hvm : (Value.slice (some ⟨vg, 0, none⟩) (D.mem.length + 1) vc).ownBlock ≠ some bm := by
    intro e
    rcases hloc with h1 | h1
    · exact h.nvm (by rw [← h1]; exact e)
    · rw [h1] at e; have := Option.some.inj e; have := h.lt bm h.inm; omega
  have hlo : (Value.slice (some ⟨vg, 0, none⟩) (D.mem.length + 1) vc).ownBlock = pv.ownBlock ∨ ∃ g, (Value.slice (some ⟨vg, 0, none⟩) (D.mem.length + 1) vc).ownBlock = some g ∧ w.heap.size ≤ g := by
    rcases hloc with h1 | h1
    · exact .inl h1
    · exact .inr ⟨_, h1, by omega⟩
  have c22 : w2.cell? ⟨p, 2, none⟩ = some pv := by rw [cell_of_row _ _ _ _ _ _ hp2]; simp [devCells]
  have f22 : w2.frozen? ⟨p, 2, none⟩ = false := frozen_of_row _ _ _ _ _ hp2
  have hz3 : (w2.setCell ⟨p, 2, none⟩ (.slice (some ⟨vg, 0, none⟩) (D.mem.length + 1) vc)).heap.size = w2.heap.size := by simp
  have hp3 : (w2.setCell ⟨p, 2, none⟩ (.slice (some ⟨vg, 0, none⟩) (D.mem.length + 1) vc)).heap[p]? = some (.cells (devCells sb D.secs.length bm (.slice (some ⟨vg, 0, none⟩) (D.mem.length + 1) vc) D.left D.down) 67 (0, 0)) := by
    rw [heap_setCell_same _ _ _ _ _ _ hp2]; simp [devCells]
  have hs3 : (w2.setCell ⟨p, 2, none⟩ (.slice (some ⟨vg, 0, none⟩) (D.mem.length + 1) vc)).heap[sb]? = w.heap[sb]? := (heap_setCell_other _ _ _ _ h.nps.symm).trans hs2
  have hm3 : (w2.setCell ⟨p, 2, none⟩ (.slice (some ⟨vg, 0, none⟩) (D.mem.length + 1) vc)).heap[bm]? = w.heap[bm]? := (heap_setCell_other _ _ _ _ h.npm).trans hm2
  have ho3 : (w2.setCell ⟨p, 2, none⟩ (.slice (some ⟨vg, 0, none⟩) (D.mem.length + 1) vc)).ownsRow 0 3 1 (.slice (some ⟨vg, 0, none⟩) (D.mem.length + 1) vc) (D.mem.length + 1) (pendCells D.mem ++ [.int .i64 (i : Int)]) :=
    ownsRow_same hown2 (fun g hg => heap_setCell_other _ _ _ _ (fun e => hvp (by rw [hg, e])))
  have ht3 : Turn S S w (w2.setCell ⟨p, 2, none⟩ (.slice (some ⟨vg, 0, none⟩) (D.mem.length + 1) vc)) := ht2.trans (Turn.setCell _ _ h.inp)
  have hzw : w.heap.size ≤ w2.heap.size := ht2.size
  have hlp := h.lt p h.inp
  have hls := h.lt sb h.ins
  have hlm := h.lt bm h.inm
  have hcopy := copy_new (w2.setCell ⟨p, 2, none⟩ (.slice (some ⟨vg, 0, none⟩) (D.mem.length + 1) vc)) a cap l hl ((hb.turn ht3 hn).below ((Below.refl _ _).alloc (Nat.le_refl _) _))
  have ht4 : Turn S S w ((w2.setCell ⟨p, 2, none⟩ (.slice (some ⟨vg, 0, none⟩) (D.mem.length + 1) vc)).alloc (.cells (cellsB l) 74)) := ht3.trans (Turn.alloc S _ _)
  have hmem4 : MemAt Tryd.prog 3 (World.drew ((w2.setCell ⟨p, 2, none⟩ (.slice (some ⟨vg, 0, none⟩) (D.mem.length + 1) vc)).alloc (.cells (cellsB l) 74))) bm D.mem := h.mem.same ((heap_alloc_old _ _ (by rw [hz3]; omega)).trans hm3)
  obtain ⟨w5, hup, hm5, ht5⟩ := hmem4.store (E := 74) Tryd.underlying3 Tryd.underlying65 hml (i := i) (by omega) hl
  have hup' : Sem.run Tryd.prog (Instr.mapUpdate 65 (.map (some bm)) (.int .i64 i) (.agg (l.map (Value.int .u8)).toArray)) (World.drew ((w2.setCell ⟨p, 2, none⟩ (.slice (some ⟨vg, 0, none⟩) (D.mem.length + 1) vc)).alloc (.cells (cellsB l) 74))) = .ok () w5 := hup
  have hp4 : ((w2.setCell ⟨p, 2, none⟩ (.slice (some ⟨vg, 0, none⟩) (D.mem.length + 1) vc)).alloc (.cells (cellsB l) 74)).heap[p]? = some (.cells (devCells sb D.secs.length bm (.slice (some ⟨vg, 0, none⟩) (D.mem.length + 1) vc) D.left D.down) 67 (0, 0)) := (heap_alloc_old _ _ (by rw [hz3]; omega)).trans hp3
  have c14 : ((w2.setCell ⟨p, 2, none⟩ (.slice (some ⟨vg, 0, none⟩) (D.mem.length + 1) vc)).alloc (.cells (cellsB l) 74)).cell? ⟨p, 1, none⟩ = some (.map (some bm)) := by rw [cell_of_row _ _ _ _ _ _ hp4]; simp [devCells]
  have hrg := range_last (w2.setCell ⟨p, 2, none⟩ (.slice (some ⟨vg, 0, none⟩) (D.mem.length + 1) vc)) l
  have hp5 : w5.heap[p]? = some (.cells (devCells sb D.secs.length bm (.slice (some ⟨vg, 0, none⟩) (D.mem.length + 1) vc) D.left D.down) 67 (0, 0)) :=
    (ht5.grown.block p (by show p < (World.alloc _ _).heap.size; rw [size_alloc, hz3]; omega) (fun e => h.npm.symm (Option.some.inj e))).trans hp4
  have c15 : w5.cell? ⟨p, 1, none⟩ = some (.map (some bm)) := by rw [cell_of_row _ _ _ _ _ _ hp5]; simp [devCells]
  have hb5 : w5.heap[(w2.setCell ⟨p, 2, none⟩ (.slice (some ⟨vg, 0, none⟩) (D.mem.length + 1) vc)).heap.size]? = ((w2.setCell ⟨p, 2, none⟩ (.slice (some ⟨vg, 0, none⟩) (D.mem.length + 1) vc)).alloc (.cells (cellsB l) 74)).heap[(w2.setCell ⟨p, 2, none⟩ (.slice (some ⟨vg, 0, none⟩) (D.mem.length + 1) vc)).heap.size]? := ht5.grown.block _ (by show _ < (World.alloc _ _).heap.size; rw [size_alloc]; omega) (fun e => by have := Option.some.inj e; rw [hz3] at this; omega)
  have rg5 : w5.rangeAt (w2.setCell ⟨p, 2, none⟩ (.slice (some ⟨vg, 0, none⟩) (D.mem.length + 1) vc)).heap.size 0 (l.map (Value.int .u8)) := fun j v hv => (World.cell?_of_block (a := ⟨(w2.setCell ⟨p, 2, none⟩ (.slice (some ⟨vg, 0, none⟩) (D.mem.length + 1) vc)).heap.size, 0 + j, none⟩) hb5).trans (hrg j v hv)
  have hs5 : w5.heap[sb]? = w.heap[sb]? := (ht5.grown.block sb (by show sb < (World.alloc _ _).heap.size; rw [size_alloc, hz3]; omega) (fun e => h.nsm.symm (Option.some.inj e))).trans ((heap_alloc_old _ _ (by rw [hz3]; omega)).trans hs3)
  have ho5 : w5.ownsRow 0 3 1 (.slice (some ⟨vg, 0, none⟩) (D.mem.length + 1) vc) (D.mem.length + 1) (pendCells D.mem ++ [.int .i64 (i : Int)]) :=
    ownsRow_same ho3 (fun g hg => by
      have hlt : g < (w2.setCell ⟨p, 2, none⟩ (.slice (some ⟨vg, 0, none⟩) (D.mem.length + 1) vc)).heap.size := (ho3.lt g hg).2
      exact (ht5.grown.block g (by show g < (World.alloc _ _).heap.size; rw [size_alloc]; omega) (fun e => hvm (by rw [hg, e]))).trans (heap_alloc_old _ _ hlt))
  have ht6 : Turn S S w w5 := ht4.trans ((Turn.drew S _).trans (Turn.map ht5 h.inm))
  have hfin := h.put_new (unhide HC) hi ⟨hl, hb.1⟩ hp5 hs5 hm5 ho5 ht6.size hlo
  have HF := hide hfin
  have HT6 := hide ht6
  rw [hz3] at hcopy hrg rg5
  have hu := Tryd.underlying74
  have hin : (Tryd.prog.info? 74).map (·.size) = some (l.map (Value.int .u8)).length := by rw [List.length_map, hl]; exact size_sec
  have hll : (l.map (Value.int .u8)).length = 32 := by rw [List.length_map, hl]
  have hon := oneCell_u8 l
  clear h ht2 hp2 hs2 hm2 hvp hvm hlo hp3 hs3 hm3 ho3 ht3 ht4 hmem4 hup hm5 ht5 hp4 hp5 hs5 hb5 ho5 ht6 hfin hown2 hgrow2 hnil hloc hlook hst hsz c1 c2 H HT HO HC hi0 hz0 hz1 hz2
  go_wp2_with fail
  go_region_held3 (fun w' => w'.cell? ⟨p, 1, none⟩ = some (.map (some bm)) ∧ w'.rangeAt w2.heap.size 0 (l.map (Value.int .u8))) (first | go_keep_ranges | exact ⟨c15, rg5⟩) (fail)
  go_end0
  exact ⟨rfl, (Value.slice (some ⟨vg, 0, none⟩) (D.mem.length + 1) vc), _, (unhide HF).1, (unhide HT6).os, (unhide HT6).tape, (unhide HT6).output, (unhide HT6).size, (unhide HT6).block, (unhide HF).2⟩
end
end Go.Proofs.YtnpdejlbknjhnaaDoor
