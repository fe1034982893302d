/-
  Joined by program: VwMem; VwA; VwB; VwC; VwD; VwE; VwF; VwSort; VwG; VwInts; VwH. (Parts of the proofs over the packages of the program.)
-/
import Derived.Test.YtmphnhigohkaeaaDoorJPages
import Derived.Test.YtmphnhigohkaeaaDoorJStamp
import Derived.Test.YtmphnhigohkaeaaDoorJDev
import Derived.Deep.MidRow
import Derived.Deep.RegionLaw
import Derived.Deep.RegionHeld3
import Derived.Shelf.SlIterI.Nil
import Derived.Shelf.SortM.Plain
import Derived.Shelf.SortM.SortNone
import Derived.Ground.GgzProg
import Derived.Ground.SlgmProg
import Derived.Test.YtmphnhigohkaeaaDoorProg
import Derived.BigQuiet
import Derived.Deep.QuietTactic
/-! The map of a view: which pages are dirty. (Part of the proofs over package view.) -/
namespace Go.Proofs.YtmphnhigohkaeaaDoor
open Go.RowKit Go.MapKept Go.ChangeMaps
open Go.Maps (Keyed)
set_option linter.unusedVariables false

/-- Block bm is the map of the pages M, in whatever order they were written. -/
def VMem (w : World) (bm : Nat) (M : List (Nat × List Int)) : Prop :=
  ∃ D, w.ownsMap Tryd.prog 3 secR bm M.length D ∧ Maps.size D = M.length ∧ (M.map (·.1)).Nodup ∧ (∀ z : Int, Maps.has D (.int .i64 z) = true → 0 ≤ z) ∧
    ∀ i : Nat, Maps.has D (.int .i64 i) = (M.lookup i).isSome ∧ ∀ b, M.lookup i = some b → D.atKey (.int .i64 i) (sd (zerosB 32)) = sd b

section
variable {w w' : World} {bm : Nat} {M : List (Nat × List Int)}
theorem VMem.memAt (h : VMem w bm M) : MemAt Tryd.prog 3 w bm M := by
  obtain ⟨D, h1, _, _, _, h2⟩ := h
  exact ⟨D, h1, h2⟩
theorem VMem.nodup (h : VMem w bm M) : (M.map (·.1)).Nodup := by
  obtain ⟨D, _, _, h1, _⟩ := h
  exact h1
theorem VMem.lt (h : VMem w bm M) : bm < w.heap.size := h.memAt.lt
theorem VMem.same (h : VMem w bm M) (hs : w'.heap[bm]? = w.heap[bm]?) : VMem w' bm M := by
  obtain ⟨D, ⟨es, clock, hb, r⟩, h2⟩ := h
  exact ⟨D, ⟨es, clock, hs.trans hb, r⟩, h2⟩
theorem VMem.made (w : World) : VMem (w.alloc (.map #[] 0)) w.heap.size [] :=
  ⟨.map [], World.ownsMap_made w _ _ _, rfl, List.nodup_nil, fun z hz => (by cases hz), fun i => ⟨rfl, fun b hb => by cases hb⟩⟩
theorem VMem.len (h : VMem w bm M) (ty : TypeId) : (Builtin.len_ #[107] ty #[.map (some bm)]).run Tryd.prog w = .ok (.int .i64 M.length) w := by
  obtain ⟨D, h1, h2, _⟩ := h
  rw [h1.len (e := 106) Tryd.underlying107, h2]
theorem info_body : (Tryd.prog.info? 106).map (fun i => (i.zero, i.size)) = some (some (sv (zerosB 32)), 32) := by kernel_rfl
theorem size_body : (Tryd.prog.info? 106).map (·.size) = some 32 := by kernel_rfl
theorem zero_body (w : World) : (zeroValue 106).run Tryd.prog w = .ok (sv (zerosB 32)) w := (zero_of_info info_body).1 w
theorem VMem.look (h : VMem w bm M) {i : Nat} (hi : i < 300) :
    (Instr.lookup 107 (.map (some bm)) (.int .i64 i) true).run Tryd.prog w = .ok (.tuple #[sv (memV M i), .bool (M.lookup i).isSome]) w := by
  have := h.memAt.look (E := 106) Tryd.underlying3 Tryd.underlying107 (zero_body w) true (i := i) hi
  simpa using this
theorem nodup_put {M : List (Nat × List Int)} (h : (M.map (·.1)).Nodup) (i : Nat) (b : List Int) : ((memPut M i b).map (·.1)).Nodup := by
  rw [keys_put]
  split
  · exact h
  · rename_i hn
    rw [List.nodup_append]
    exact ⟨h, by simp, fun a ha c hc e => by simp at hc; subst hc; subst e; exact hn ha⟩
theorem length_put (M : List (Nat × List Int)) (i : Nat) (b : List Int) : (memPut M i b).length = if (M.lookup i).isSome then M.length else M.length + 1 := by
  have h2 : (memPut M i b).length = ((memPut M i b).map (·.1)).length := by simp
  rw [h2, keys_put]
  cases hm : M.lookup i with
  | none =>
    have := lookup_none.1 hm
    rw [if_neg this]
    simp
  | some c =>
    have : i ∈ M.map (·.1) := by
      refine Classical.byContradiction fun hc => ?_
      rw [lookup_none.2 hc] at hm; cases hm
    rw [if_pos this]
    simp
theorem VMem.store (h : VMem w bm M) (hn : M.length ≤ 300) {i : Nat} (hi : i < 300) {b : List Int} (hb : b.length = 32) :
    ∃ w', (Instr.mapUpdate 107 (.map (some bm)) (.int .i64 i) (sv b)).run Tryd.prog w = .ok () w' ∧ VMem w' bm (memPut M i b) ∧ w.mapTurned w' bm := by
  obtain ⟨D, hown, hsz, hnd, hneg, hD⟩ := h
  have hK := Maps.int_keyed (P := Tryd.prog) Tryd.underlying3
  have hkey := Maps.keyOf_int_mk (P := Tryd.prog) Tryd.underlying3 (wf_small i hi)
  obtain ⟨w', hrun, hown', ht⟩ := hown.store hK Tryd.underlying107 (by unfold maxLen; omega) hkey (secR_mk hb)
  have hlit : WideAt.IsKeyLit (.int .i64 (i : Int)) := hK.key hkey
  have hs2 : Maps.size (D.put (.int .i64 i) (sd b)) = (memPut M i b).length := by
    rw [Maps.size_put (hown.tidy hK), (hD i).1, length_put, hsz]
  refine ⟨w', hrun, ⟨_, ownsMap_size hown' (Nat.le_of_eq hs2), hs2, nodup_put hnd i b, fun z hz => ?_, fun j => ?_⟩, ht⟩
  · by_cases e : z = i
    · omega
    · have hne : Lit.int .i64 z ≠ Lit.int .i64 (i : Int) := by
        intro e2; simp only [Lit.int.injEq, true_and] at e2; exact e e2
      rw [Maps.has_put_other hne] at hz
      exact hneg z hz
  · rw [lookup_put]
    by_cases hj : j = i
    · subst hj
      refine ⟨by simp [Maps.has_put_same hown.isMap hlit], fun c hc => ?_⟩
      simp at hc; subst hc
      exact Maps.atKey_put_same hown.isMap hlit _ _
    · have hne : Lit.int .i64 (j : Int) ≠ Lit.int .i64 (i : Int) := by
        intro e; simp only [Lit.int.injEq, true_and] at e; omega
      simp only [hj, if_false]
      rw [Maps.has_put_other hne, Maps.atKey_put_other hne]
      exact hD j
theorem VMem.clear (h : VMem w bm M) :
    ∃ w', (∀ ty, (Builtin.clear_ #[107] ty #[.map (some bm)]).run Tryd.prog w = .ok (.tuple #[]) w') ∧ VMem w' bm [] ∧ w.mapTurned w' bm := by
  obtain ⟨es, clock, hb⟩ := h.memAt.isMap
  refine ⟨setBlock w bm (.map #[] clock), fun ty => ?_, ⟨.map [], ?_, rfl, List.nodup_nil, fun z hz => (by cases hz), fun i => ⟨rfl, fun b hb => by simp at hb⟩⟩, ⟨es, clock, #[], clock, hb, rfl⟩⟩
  · simp [Builtin.clear_, run_underlying Tryd.underlying107, MapKept.run_getObj_map hb, MapKept.run_setObj_map _ hb, Result.andThen, setBlock]
  · exact ⟨#[], clock, heap_setBlock_same hb _, ⟨by simp, stamped_empty clock, by simp⟩, Nat.le_refl _, rfl⟩
end
end Go.Proofs.YtmphnhigohkaeaaDoor
/-! Contracts of package view: a View in memory; Len, has, place, body. (Part of the proofs over package view.) -/
namespace Go.Proofs.YtmphnhigohkaeaaDoor
open Go.RowKit
set_option linter.unusedVariables false

/-- A View in memory: K the pages as they were committed last, M what is dirty. -/
structure Vw (w : World) (v q gk gm : Nat) (K : List (List Int)) (M : List (Nat × List Int)) : Prop where
  blk : w.heap[v]? = some (.cells #[.pointer (some ⟨q, 0, none⟩), .slice (some ⟨gk, 0, none⟩) K.length K.length, .map (some gm)] 109 (0, 0))
  kept : RowT w gk 106 K.flatten
  sec : ∀ s ∈ K, Sec s
  len : K.length ≤ 200
  mem : VMem w gm M
  memOk : ∀ x ∈ M, x.1 < K.length ∧ Sec x.2
  nvk : v ≠ gk
  nvm : v ≠ gm
  nkm : gk ≠ gm

/-- A page as it was written last. -/
def vRd (K : List (List Int)) (M : List (Nat × List Int)) (i : Nat) : List Int := (M.lookup i).getD (K.getD i [])

section
variable {w w' : World} {v q gk gm : Nat} {K : List (List Int)} {M : List (Nat × List Int)}
theorem Vw.c0 (h : Vw w v q gk gm K M) : w.cell? ⟨v, 0, none⟩ = some (.pointer (some ⟨q, 0, none⟩)) := by rw [cell_of_row w v 0 _ _ (0, 0) h.blk]; rfl
theorem Vw.c1 (h : Vw w v q gk gm K M) : w.cell? ⟨v, 1, none⟩ = some (.slice (some ⟨gk, 0, none⟩) K.length K.length) := by rw [cell_of_row w v 1 _ _ (0, 0) h.blk]; rfl
theorem Vw.c2 (h : Vw w v q gk gm K M) : w.cell? ⟨v, 2, none⟩ = some (.map (some gm)) := by rw [cell_of_row w v 2 _ _ (0, 0) h.blk]; rfl
theorem Vw.vlt (h : Vw w v q gk gm K M) : v < w.heap.size := (Array.getElem?_eq_some_iff.1 h.blk).1
theorem Vw.same (h : Vw w v q gk gm K M) (e1 : w'.heap[v]? = w.heap[v]?) (e2 : w'.heap[gk]? = w.heap[gk]?) (e3 : w'.heap[gm]? = w.heap[gm]?) : Vw w' v q gk gm K M :=
  ⟨e1.trans h.blk, h.kept.same e2, h.sec, h.len, h.mem.same e3, h.memOk, h.nvk, h.nvm, h.nkm⟩
theorem Vw.below (h : Vw w v q gk gm K M) (hb : Below w.heap.size w w') : Vw w' v q gk gm K M :=
  h.same (hb.block v h.vlt) (hb.block gk h.kept.lt) (hb.block gm h.mem.lt)
theorem Vw.secs32 (h : Vw w v q gk gm K M) : ∀ s ∈ K, s.length = 32 := fun s hs => (h.sec s hs).1
theorem Vw.rdSec (h : Vw w v q gk gm K M) {i : Nat} (hi : i < K.length) : Sec (vRd K M i) := by
  unfold vRd
  cases e : M.lookup i with
  | none => exact sec_getD h.sec hi
  | some b => exact (h.memOk _ (lookup_mem e)).2

theorem vLen_any (h : Vw w v q gk gm K M) :
    Calls Tryd.prog 23 #[.pointer (some ⟨v, 0, none⟩)] w fun e w' => e = .returned (.int .i64 ((32 * K.length : Nat) : Int)) ∧ w = w' := by
  have c1 := h.c1
  have hl := h.len
  clear h
  generalize K.length = L at *
  go_enter Tryd.func23, Tryd.ntmps23
  go_wp2
  go_ret
  exact ⟨by rw [show ((32 * L : Nat) : Int) = (L : Int) * 32 by omega]; first | rfl | go_num, rfl⟩
theorem vPlace_any (x : Nat) (w : World) (hx : x ≤ 1000000) :
    Calls Tryd.prog 55 #[.int .i64 (x : Int)] w fun e w' => e = .returned (.tuple #[.int .i64 ((x / 32 : Nat) : Int), .int .i64 ((x % 32 : Nat) : Int)]) ∧ w = w' := by
  have h1 : (x : Int).tdiv 32 = ((x / 32 : Nat) : Int) := by
    rw [Int.tdiv_eq_ediv_of_nonneg (by omega)]; omega
  have h2 : (x : Int).tmod 32 = ((x % 32 : Nat) : Int) := by
    rw [Int.tmod_eq_emod_of_nonneg (by omega)]; omega
  go_enter Tryd.func55, Tryd.ntmps55
  go_wp2
  go_ret2
  exact ⟨by first | rfl | (congr 4 <;> omega) | (simp; omega), rfl⟩
theorem vHas_any (h : Vw w v q gk gm K M) (x n : Int) (hx : x ≤ 9223372036854775807) (hn : n ≤ 9223372036854775807) :
    Calls Tryd.prog 53 #[.pointer (some ⟨v, 0, none⟩), .int .i64 x, .int .i64 n] w fun e w' => e = .returned (.bool (decide (0 ≤ x ∧ 0 ≤ n ∧ n ≤ (32 * K.length : Nat) - x))) ∧ w = w' := by
  have HL := hide (vLen_any h)
  have hl := h.len
  clear h
  generalize hLL : 32 * K.length = L at *
  have hL2 : (L : Int) ≤ 6400 := by omega
  have hL3 : (0 : Int) ≤ (L : Int) := by omega
  clear hLL hl
  by_cases h0 : 0 ≤ x
  · by_cases h1 : 0 ≤ n
    · by_cases h2 : n ≤ (L : Int) - x
      · rw [decide_eq_true ⟨h0, h1, h2⟩]
        go_enter Tryd.func53, Tryd.ntmps53
        go_wp2_with fail
        refine (unhide HL).mono ?_
        rintro e w1 ⟨rfl, rfl⟩
        go_wp2
        go_ret
        exact ⟨rfl, rfl⟩
      · rw [decide_eq_false (fun hh => h2 hh.2.2)]
        go_enter Tryd.func53, Tryd.ntmps53
        go_wp2_with fail
        refine (unhide HL).mono ?_
        rintro e w1 ⟨rfl, rfl⟩
        go_wp2
        go_ret
        exact ⟨by show Ending.returned (Value.bool (decide (n ≤ (L : Int) - x))) = _; rw [decide_eq_false (by omega)], rfl⟩
    · rw [decide_eq_false (fun hh => h1 hh.2.1)]
      go_enter Tryd.func53, Tryd.ntmps53
      go_wp2
      go_ret
      exact ⟨rfl, rfl⟩
  · rw [decide_eq_false (fun hh => h0 hh.1)]
    go_enter Tryd.func53, Tryd.ntmps53
    go_wp2
    go_ret
    exact ⟨rfl, rfl⟩
end
end Go.Proofs.YtmphnhigohkaeaaDoor
/-! Contracts of package view: body, the bytes of a page. (Part of the proofs over package view.) -/
namespace Go.Proofs.YtmphnhigohkaeaaDoor
open Go.RowKit
set_option linter.unusedVariables false

section
variable {w w' : World} {v q gk gm : Nat} {K : List (List Int)} {M : List (Nat × List Int)}
/-- A whole page is stored into a row of 32 bytes. -/
theorem store_row {w : World} {g : Nat} {z l : List Int} (hg : RowT w g 106 z) (hz : z.length = 32) (hl : l.length = 32) :
    (storeCells ⟨g, 0, none⟩ (cellsB l).toList 0).run Tryd.prog w = .ok () (rowW w g l) := by
  have hi : (Tryd.prog.info? 106).map (·.size) = some (cellsB l).size := by rw [size_cellsB, hl]; exact size_body
  have := run_storeVar_row (P := Tryd.prog) w g 106 106 (cellsB z) (cellsB l) hg hi (by rw [size_cellsB, size_cellsB, hz, hl]) (all_oneCell l)
  cases hq : Tryd.prog.info? 106 with
  | none => simp [hq] at hi
  | some i =>
    have hs : (cellsB l).size = i.size := by simp [hq] at hi; omega
    show _ = Result.ok () (w.setRow g (cellsB l))
    simpa [storeVar, sizeOf, typeInfo, hq, Value.cells, hs] using this
theorem load_row {w : World} {g : Nat} {t : TypeId} {l : List Int} (hg : RowT w g t l) (hl : l.length = 32) :
    (loadCellsFrom ⟨g, 0, none⟩ 0 32 #[]).run Tryd.prog w = .ok (cellsB l) w := by
  have := run_loadCells_list (P := Tryd.prog) w ⟨g, 0, none⟩ (cellsB l).toList (fun j v hv => by
    have hadd : (⟨g, 0, none⟩ : Addr).add j = ⟨g, j, none⟩ := by unfold Addr.add; split <;> simp_all
    rw [hadd, cell_of_row _ _ j (cellsB l) t (0, 0) hg]
    simpa using hv)
  have h2 : (cellsB l).size = 32 := by rw [size_cellsB, hl]
  simpa [loadCells, h2] using this

/-- Two variables of a page each, behind one another. -/
def two (w : World) (x y : List Int) : World := (w.alloc (.cells (cellsB x) 106)).alloc (.cells (cellsB y) 106)
theorem two_below (w : World) (x y : List Int) : Below w.heap.size w (two w x y) := ((Below.refl _ _).alloc (Nat.le_refl _) _).alloc (by simp) _
theorem two_fst (w : World) (x y : List Int) : RowT (two w x y) w.heap.size 106 x := by
  have h1 : RowT (w.alloc (.cells (cellsB x) 106)) w.heap.size 106 x := heap_alloc_new _ _
  exact h1.same (heap_alloc_old _ _ (by simp))
theorem two_snd (w : World) (x y : List Int) : RowT (two w x y) (w.heap.size + 1) 106 y := by
  have := heap_alloc_new (w.alloc (.cells (cellsB x) 106)) (.cells (cellsB y) 106)
  rw [size_alloc] at this
  exact this

set_option maxRecDepth 100000 in
theorem vBody_dirty (h : Vw w v q gk gm K M) (i : Nat) (hi : i < K.length) (b : List Int) (hb : M.lookup i = some b) :
    Calls Tryd.prog 56 #[.pointer (some ⟨v, 0, none⟩), .int .i64 i] w fun e w' => e = .returned (sv b) ∧ Below w.heap.size w w' := by
  have hL := h.len
  have hbl : b.length = 32 := (h.memOk _ (lookup_mem hb)).2.1
  have hA := h.below (w' := w.alloc (.cells #[.int .u8 0, .int .u8 0, .int .u8 0, .int .u8 0, .int .u8 0, .int .u8 0, .int .u8 0, .int .u8 0, .int .u8 0, .int .u8 0, .int .u8 0, .int .u8 0, .int .u8 0, .int .u8 0, .int .u8 0, .int .u8 0, .int .u8 0, .int .u8 0, .int .u8 0, .int .u8 0, .int .u8 0, .int .u8 0, .int .u8 0, .int .u8 0, .int .u8 0, .int .u8 0, .int .u8 0, .int .u8 0, .int .u8 0, .int .u8 0, .int .u8 0, .int .u8 0] 106)) ((Below.refl _ _).alloc (Nat.le_refl _) _)
  have hlook := hA.mem.look (i := i) (by omega)
  have hmv : memV M i = b := by unfold memV; rw [hb]; rfl
  rw [hmv, hb] at hlook
  simp only [Option.isSome_some] at hlook
  unfold sv at hlook
  have c2 := hA.c2
  have hsz : (cellsB b).size = 32 := by rw [size_cellsB]; exact hbl
  have hst : (storeCells ⟨w.heap.size + 1, 0, none⟩ (cellsB b).toList 0).run Tryd.prog ((w.alloc (.cells #[.int .u8 0, .int .u8 0, .int .u8 0, .int .u8 0, .int .u8 0, .int .u8 0, .int .u8 0, .int .u8 0, .int .u8 0, .int .u8 0, .int .u8 0, .int .u8 0, .int .u8 0, .int .u8 0, .int .u8 0, .int .u8 0, .int .u8 0, .int .u8 0, .int .u8 0, .int .u8 0, .int .u8 0, .int .u8 0, .int .u8 0, .int .u8 0, .int .u8 0, .int .u8 0, .int .u8 0, .int .u8 0, .int .u8 0, .int .u8 0, .int .u8 0, .int .u8 0] 106)).alloc (.cells #[.int .u8 0, .int .u8 0, .int .u8 0, .int .u8 0, .int .u8 0, .int .u8 0, .int .u8 0, .int .u8 0, .int .u8 0, .int .u8 0, .int .u8 0, .int .u8 0, .int .u8 0, .int .u8 0, .int .u8 0, .int .u8 0, .int .u8 0, .int .u8 0, .int .u8 0, .int .u8 0, .int .u8 0, .int .u8 0, .int .u8 0, .int .u8 0, .int .u8 0, .int .u8 0, .int .u8 0, .int .u8 0, .int .u8 0, .int .u8 0, .int .u8 0, .int .u8 0] 106)) = .ok () (two w (zerosB 32) b) := by
    have := run_storeCells_new (P := Tryd.prog) (w.alloc (.cells #[.int .u8 0, .int .u8 0, .int .u8 0, .int .u8 0, .int .u8 0, .int .u8 0, .int .u8 0, .int .u8 0, .int .u8 0, .int .u8 0, .int .u8 0, .int .u8 0, .int .u8 0, .int .u8 0, .int .u8 0, .int .u8 0, .int .u8 0, .int .u8 0, .int .u8 0, .int .u8 0, .int .u8 0, .int .u8 0, .int .u8 0, .int .u8 0, .int .u8 0, .int .u8 0, .int .u8 0, .int .u8 0, .int .u8 0, .int .u8 0, .int .u8 0, .int .u8 0] 106)) 106 #[.int .u8 0, .int .u8 0, .int .u8 0, .int .u8 0, .int .u8 0, .int .u8 0, .int .u8 0, .int .u8 0, .int .u8 0, .int .u8 0, .int .u8 0, .int .u8 0, .int .u8 0, .int .u8 0, .int .u8 0, .int .u8 0, .int .u8 0, .int .u8 0, .int .u8 0, .int .u8 0, .int .u8 0, .int .u8 0, .int .u8 0, .int .u8 0, .int .u8 0, .int .u8 0, .int .u8 0, .int .u8 0, .int .u8 0, .int .u8 0, .int .u8 0, .int .u8 0] (cellsB b) (by rw [hsz]; exact size_body) (by rw [hsz]; rfl) (all_oneCell b)
    rw [size_alloc] at this
    exact this
  have HS := hide (two_snd w (zerosB 32) b)
  have hst2 := store_row (two_fst w (zerosB 32) b) (length_zerosB 32) hbl
  have HR := hide ((two_fst w (zerosB 32) b).set b)
  have HBEL := hide (rowW_below b (two_below w (zerosB 32) b) (Nat.le_refl _))
  clear h hb hA hmv
  generalize two w (zerosB 32) b = W2 at *
  go_enter Tryd.func56, Tryd.ntmps56
  go_wp2_with (refine wpList_load_row rfl 106 (.tmp 5) rfl (w.heap.size + 1) rfl 106 (cellsB b) (0, 0) _ (unhide HS) Tryd.underlying106 rfl (by rw [hsz]; exact size_body) ?_)
  refine bodyPost_ret (v := sv b) (results_cell_row rfl _ _ w.heap.size 106 (cellsB b) (0, 0) _ rfl (unhide HR) Tryd.underlying106 rfl (by rw [hsz]; exact size_body)) rfl ⟨rfl, unhide HBEL⟩

set_option maxRecDepth 100000 in
theorem vBody_kept (h : Vw w v q gk gm K M) (i : Nat) (hi : i < K.length) (hb : M.lookup i = none) :
    Calls Tryd.prog 56 #[.pointer (some ⟨v, 0, none⟩), .int .i64 i] w fun e w' => e = .returned (sv (K.getD i [])) ∧ Below w.heap.size w w' := by
  have hL := h.len
  obtain ⟨b, hcd⟩ : ∃ b, K.getD i [] = b := ⟨_, rfl⟩
  have hbs : Sec b := by rw [← hcd]; exact sec_getD h.sec hi
  have hbl := hbs.1
  have hA := h.below (w' := w.alloc (.cells #[.int .u8 0, .int .u8 0, .int .u8 0, .int .u8 0, .int .u8 0, .int .u8 0, .int .u8 0, .int .u8 0, .int .u8 0, .int .u8 0, .int .u8 0, .int .u8 0, .int .u8 0, .int .u8 0, .int .u8 0, .int .u8 0, .int .u8 0, .int .u8 0, .int .u8 0, .int .u8 0, .int .u8 0, .int .u8 0, .int .u8 0, .int .u8 0, .int .u8 0, .int .u8 0, .int .u8 0, .int .u8 0, .int .u8 0, .int .u8 0, .int .u8 0, .int .u8 0] 106)) ((Below.refl _ _).alloc (Nat.le_refl _) _)
  have hlook := hA.mem.look (i := i) (by omega)
  have hmv : memV M i = zerosB 32 := by unfold memV; rw [hb]; rfl
  rw [hmv, hb] at hlook
  simp only [Option.isSome_none] at hlook
  unfold sv at hlook
  have c2 := hA.c2
  have hsz : (cellsB b).size = 32 := by rw [size_cellsB]; exact hbl
  have hsz0 : (cellsB (zerosB 32)).size = 32 := by rw [size_cellsB]; exact length_zerosB 32
  have hst : (storeCells ⟨w.heap.size + 1, 0, none⟩ (cellsB (zerosB 32)).toList 0).run Tryd.prog ((w.alloc (.cells #[.int .u8 0, .int .u8 0, .int .u8 0, .int .u8 0, .int .u8 0, .int .u8 0, .int .u8 0, .int .u8 0, .int .u8 0, .int .u8 0, .int .u8 0, .int .u8 0, .int .u8 0, .int .u8 0, .int .u8 0, .int .u8 0, .int .u8 0, .int .u8 0, .int .u8 0, .int .u8 0, .int .u8 0, .int .u8 0, .int .u8 0, .int .u8 0, .int .u8 0, .int .u8 0, .int .u8 0, .int .u8 0, .int .u8 0, .int .u8 0, .int .u8 0, .int .u8 0] 106)).alloc (.cells #[.int .u8 0, .int .u8 0, .int .u8 0, .int .u8 0, .int .u8 0, .int .u8 0, .int .u8 0, .int .u8 0, .int .u8 0, .int .u8 0, .int .u8 0, .int .u8 0, .int .u8 0, .int .u8 0, .int .u8 0, .int .u8 0, .int .u8 0, .int .u8 0, .int .u8 0, .int .u8 0, .int .u8 0, .int .u8 0, .int .u8 0, .int .u8 0, .int .u8 0, .int .u8 0, .int .u8 0, .int .u8 0, .int .u8 0, .int .u8 0, .int .u8 0, .int .u8 0] 106)) = .ok () (two w (zerosB 32) (zerosB 32)) := by
    have := run_storeCells_new (P := Tryd.prog) (w.alloc (.cells #[.int .u8 0, .int .u8 0, .int .u8 0, .int .u8 0, .int .u8 0, .int .u8 0, .int .u8 0, .int .u8 0, .int .u8 0, .int .u8 0, .int .u8 0, .int .u8 0, .int .u8 0, .int .u8 0, .int .u8 0, .int .u8 0, .int .u8 0, .int .u8 0, .int .u8 0, .int .u8 0, .int .u8 0, .int .u8 0, .int .u8 0, .int .u8 0, .int .u8 0, .int .u8 0, .int .u8 0, .int .u8 0, .int .u8 0, .int .u8 0, .int .u8 0, .int .u8 0] 106)) 106 #[.int .u8 0, .int .u8 0, .int .u8 0, .int .u8 0, .int .u8 0, .int .u8 0, .int .u8 0, .int .u8 0, .int .u8 0, .int .u8 0, .int .u8 0, .int .u8 0, .int .u8 0, .int .u8 0, .int .u8 0, .int .u8 0, .int .u8 0, .int .u8 0, .int .u8 0, .int .u8 0, .int .u8 0, .int .u8 0, .int .u8 0, .int .u8 0, .int .u8 0, .int .u8 0, .int .u8 0, .int .u8 0, .int .u8 0, .int .u8 0, .int .u8 0, .int .u8 0] (cellsB (zerosB 32)) (by rw [hsz0]; exact size_body) (by rw [hsz0]; rfl) (all_oneCell (zerosB 32))
    rw [size_alloc] at this
    exact this
  have h2 := h.below (two_below w (zerosB 32) (zerosB 32))
  have c1 := h2.c1
  have hrg : (two w (zerosB 32) (zerosB 32)).rangeAt gk (i * 32) (b.map (Value.int .u8)) := range_mid (i * 32) b hbl h2.kept (by rw [flat_part _ _ h.secs32 hi, hcd])
  have hu := Tryd.underlying106
  have hin : (Tryd.prog.info? 106).map (·.size) = some (b.map (Value.int .u8)).length := by rw [List.length_map, hbl]; exact size_body
  have hst2 : (storeCells ⟨w.heap.size, 0, none⟩ (b.map (Value.int .u8)) 0).run Tryd.prog (two w (zerosB 32) (zerosB 32)) = _ := store_row (two_fst w (zerosB 32) (zerosB 32)) (length_zerosB 32) hbl
  have HR := hide ((two_fst w (zerosB 32) (zerosB 32)).set b)
  have HBEL := hide (rowW_below b (two_below w (zerosB 32) (zerosB 32)) (Nat.le_refl _))
  rw [hcd]
  have e0 : (i : Int) < (K.length : Int) := by omega
  have e1 : (0 : Int) ≤ (i : Int) := by omega
  clear h hb hA hmv h2 hcd hbs
  generalize cellsB (zerosB 32) = Z at *
  generalize two w (zerosB 32) (zerosB 32) = W2 at *
  go_enter Tryd.func56, Tryd.ntmps56
  go_wp2_with (refine wpList_load_mid rfl 106 (.tmp 23) rfl gk (i * 32) rfl (b.map (Value.int .u8)) _ hrg hu rfl hin ?_)
  refine bodyPost_ret (v := sv b) (results_cell_row rfl _ _ w.heap.size 106 (cellsB b) (0, 0) _ rfl (unhide HR) Tryd.underlying106 rfl (by rw [hsz]; exact size_body)) rfl ⟨rfl, unhide HBEL⟩
/-- A page as it was written last. -/
theorem vBody_any (h : Vw w v q gk gm K M) (i : Nat) (hi : i < K.length) :
    Calls Tryd.prog 56 #[.pointer (some ⟨v, 0, none⟩), .int .i64 i] w fun e w' => e = .returned (sv (vRd K M i)) ∧ Below w.heap.size w w' := by
  unfold vRd
  cases hc : M.lookup i with
  | none => exact vBody_kept h i hi hc
  | some b => exact vBody_dirty h i hi b hc
end
end Go.Proofs.YtmphnhigohkaeaaDoor
/-! Contracts of package view: Read. (Part of the proofs over package view.) -/
namespace Go.Proofs.YtmphnhigohkaeaaDoor
open Go.RowKit
set_option linter.unusedVariables false

/-- 'copy(dst, src)' of as much as there is room for: dst anywhere in a row of bytes. -/
theorem run_copy_min {P : Program} (w : World) (dT sT ty : TypeId) (hu : P.underlying dT = some (.slice 5)) (hsz : (P.info? 5).map (·.size) = some 1)
    {g t off dLen dCap : Nat} {sp : Option Addr} {sCap : Nat} {z l : List Int} (hne : l ≠ []) (hz : off + dLen ≤ z.length) (hg : RowT w g t z) (hb : Bs w sp sCap l) :
    (Builtin.copy_ #[dT, sT] ty #[.slice (some ⟨g, off, none⟩) dLen dCap, .slice sp l.length sCap]).run P w = .ok (.int .i64 ((min dLen l.length : Nat) : Int)) (rowW w g (splice z off (l.take dLen))) := by
  obtain ⟨b, o2, rfl, hc⟩ := hb.2.2.2.2 hne
  have hrun := run_copy_row (P := P) w dT sT ty 5 g off dLen dCap ⟨b, o2, none⟩ l.length sCap _ t ((l.take dLen).map (Value.int .u8)) hu hsz hg (by simp; exact Nat.min_comm _ _) ?_ (by simp [cellsB]; omega) (oneCell_u8 _)
  · rw [hrun]
    simp [goInt, rowW, splice, cellsB]
  · intro j v hj
    have hjl : j < (l.take dLen).length := by
      rcases Nat.lt_or_ge j (l.take dLen).length with h1 | h1
      · exact h1
      · rw [List.getElem?_eq_none (by simpa using h1)] at hj; cases hj
    have hj2 : j < l.length ∧ j < dLen := by simp at hjl; omega
    have := hc j hj2.1
    rw [List.getElem?_map, List.getElem?_take, if_pos hj2.2, List.getElem?_eq_getElem hj2.1] at hj
    simp only [Option.map_some, Option.some.injEq] at hj
    subst hj
    rw [addr_add, this, List.getD_eq_getElem?_getD, List.getElem?_eq_getElem hj2.1]
    rfl
/-- 'out[c:]' of a row of n bytes. -/
theorem cut_from {P : Program} {t : TypeId} (hu : P.underlying t = some (.slice 5)) (hsz : (P.info? 5).map (·.size) = some 1) (g c n : Nat) (h : c < n) (hn : n ≤ 140737488351232) (w' : World) :
    (Instr.slice t (.slice (some ⟨g, 0, none⟩) n n) (some (.int .i64 c)) none none).run P w' = .ok (.slice (some ⟨g, c, none⟩) (n - c) (n - c)) w' := by
  have he := elem_u8 hu
  rw [run_slice_l (P := P) (w := w') t (some ⟨g, 0, none⟩) n n (by rw [he]; exact hu) .i64 c (by omega) (by omega), he, run_size_u8 w' hsz]
  simp only [Result.andThen, sliced, Addr.add]
  simp
  split <;> simp <;> omega
theorem splice_tail (a l : List Int) (k : Nat) (h : l.length ≤ k) : splice (a ++ zerosB k) a.length l = (a ++ l) ++ zerosB (k - l.length) := by
  unfold splice
  rw [List.take_left, List.append_assoc]
  congr 2
  rw [List.drop_append, List.drop_of_length_le (by omega), List.nil_append]
  unfold zerosB
  rw [List.drop_replicate]
  congr 1
  omega

/-- The byte at x, as it was written last. -/
def byteAt (K : List (List Int)) (M : List (Nat × List Int)) (x : Nat) : Int := (vRd K M (x / 32)).getD (x % 32) 0
/-- n bytes from x on. -/
def vBytes (K : List (List Int)) (M : List (Nat × List Int)) (x n : Nat) : List Int := (List.range n).map (fun j => byteAt K M (x + j))
theorem length_vBytes (K : List (List Int)) (M : List (Nat × List Int)) (x n : Nat) : (vBytes K M x n).length = n := by unfold vBytes; simp
theorem vBytes_add (K : List (List Int)) (M : List (Nat × List Int)) (x n m : Nat) : vBytes K M x (n + m) = vBytes K M x n ++ vBytes K M (x + n) m := by
  unfold vBytes
  rw [List.range_add, List.map_append, List.map_map]
  congr 1
  apply List.map_congr_left
  intro j _
  show byteAt K M (x + (n + j)) = byteAt K M (x + n + j)
  rw [Nat.add_assoc]
/-- What a page gives of them. -/
theorem vBytes_page {K : List (List Int)} {M : List (Nat × List Int)} {y c : Nat} (hl : (vRd K M (y / 32)).length = 32) (hc : c ≤ 32 - y % 32) : ((vRd K M (y / 32)).drop (y % 32)).take c = vBytes K M y c := by
  apply List.ext_getElem?
  intro j
  unfold vBytes
  rw [List.getElem?_map, List.getElem?_take]
  by_cases hj : j < c
  · rw [if_pos hj, List.getElem?_range hj, List.getElem?_drop]
    simp only [Option.map_some]
    unfold byteAt
    have e1 : (y + j) / 32 = y / 32 := by omega
    have e2 : (y + j) % 32 = y % 32 + j := by omega
    rw [e1, e2, List.getD_eq_getElem?_getD, List.getElem?_eq_getElem (by omega)]
    rfl
  · rw [if_neg hj, List.getElem?_eq_none (by simp; omega)]
    rfl

section
variable {w w' : World} {v q gk gm : Nat} {K : List (List Int)} {M : List (Nat × List Int)}
theorem vBytes_byt (h : Vw w v q gk gm K M) (x n : Nat) (hx : x + n ≤ 32 * K.length) : Byt (vBytes K M x n) := by
  intro c hc
  unfold vBytes at hc
  obtain ⟨j, hj, rfl⟩ := List.mem_map.1 hc
  have hjn := List.mem_range.1 hj
  have hs := h.rdSec (i := (x + j) / 32) (by omega)
  unfold byteAt
  rw [List.getD_eq_getElem?_getD, List.getElem?_eq_getElem (by rw [hs.1]; omega)]
  exact hs.2 _ (List.getElem_mem _)

theorem vRead_no (h : Vw w v q gk gm K M) (x n : Int) (hx : x ≤ 9223372036854775807) (hn : n ≤ 9223372036854775807) (hno : ¬ (0 ≤ x ∧ 0 ≤ n ∧ n ≤ (32 * K.length : Nat) - x)) :
    Calls Tryd.prog 25 #[.pointer (some ⟨v, 0, none⟩), .int .i64 x, .int .i64 n] w fun e w' => e = .returned (.tuple #[.slice none 0 0, errV 1]) ∧ w = w' := by
  have hh := vHas_any h x n hx hn
  rw [decide_eq_false hno] at hh
  have HH := hide hh
  clear h hh hno
  go_enter Tryd.func25, Tryd.ntmps25
  go_wp2_with fail
  refine (unhide HH).mono ?_
  rintro e w1 ⟨rfl, rfl⟩
  go_wp2
  go_ret2
  exact ⟨rfl, rfl⟩

set_option maxRecDepth 100000 in
set_option maxHeartbeats 4000000 in
theorem vRead_yes (h : Vw w v q gk gm K M) (x n : Nat) (hx : x + n ≤ 32 * K.length) :
    Calls Tryd.prog 25 #[.pointer (some ⟨v, 0, none⟩), .int .i64 (x : Int), .int .i64 (n : Int)] w fun e w' => ∃ g, e = .returned (.tuple #[.slice (some ⟨g, 0, none⟩) n n, .nilIface]) ∧ w.heap.size ≤ g ∧ Blk w' g (vBytes K M x n) ∧ Below w.heap.size w w' := by
  have hL := h.len
  have hh := vHas_any h x n (by omega) (by omega)
  rw [decide_eq_true (by omega)] at hh
  have HH := hide hh
  have H := hide h
  obtain ⟨i0, hi0, hz0, hz1, hz2⟩ := info_parts info_u8
  clear h hh
  have hn6 : n ≤ 6400 := by omega
  go_enter Tryd.func25, Tryd.ntmps25
  go_wp2_with fail
  refine (unhide HH).mono ?_
  rintro e w1 ⟨rfl, rfl⟩
  go_wp2_with (at_make; refine wpList_make_u8 rfl _ _ 41 rfl i0 Tryd.underlying41 hi0 hz0 hz1 hz2 _ _ _ _ n rfl rfl rfl rfl (by omega) ?_)
  intro w1 hk1 hs1 hb1
  have HK1 := hide hk1
  have HB1 := hide hb1
  clear hk1 hb1 HH
  go_wp2_with fail
  go_loopw [9] (fun u wr => ∃ d : Nat, d ≤ n ∧ u = .int .i64 d ∧ Blk wr w.heap.size (vBytes K M x d ++ zerosB (n - d)) ∧ Below w.heap.size w wr) (fun u _ => n - (intOf u).toNat)
  case atStart => exact ⟨0, Nat.zero_le _, rfl, unhide HK1, unhide HB1⟩
  case round =>
    obtain ⟨d, hd, rfl, hblk, hbel⟩ := hrel
    clear HK1 HB1
    by_cases hlt : d < n
    · have hv := (unhide H).below hbel
      have hpl := vPlace_any (x + d) wr (by omega)
      rw [show ((x + d : Nat) : Int) = (x : Int) + (d : Int) by omega] at hpl
      have hbo := vBody_any hv ((x + d) / 32) (by omega)
      have hsec := hv.rdSec (i := (x + d) / 32) (by omega)
      have hfr : (x + d) % 32 < 32 := Nat.mod_lt _ (by omega)
      obtain ⟨c, hc⟩ : ∃ c, min (n - d) (32 - (x + d) % 32) = c := ⟨_, rfl⟩
      have hc1 : 0 < c ∧ c ≤ n - d ∧ c ≤ 32 - (x + d) % 32 := by omega
      have hpage := vBytes_page (K := K) (M := M) (y := x + d) (c := c) hsec.1 (by omega)
      have hadd := vBytes_add K M x d c
      have htk : ((vRd K M ((x + d) / 32)).drop ((x + d) % 32)).take (n - d) = ((vRd K M ((x + d) / 32)).drop ((x + d) % 32)).take c := by
        rcases Nat.le_total (n - d) (32 - (x + d) % 32) with h1 | h1
        · rw [show c = n - d by omega]
        · rw [show c = 32 - (x + d) % 32 by omega, List.take_of_length_le (by simp [hsec.1]; omega), List.take_of_length_le (by simp [hsec.1])]
      rw [hpage] at htk
      generalize hpg : (x + d) / 32 = pg at *
      generalize hfm : (x + d) % 32 = fr at *
      generalize hpb : vRd K M pg = pb at *
      unfold sv at hbo
      have HPL := hide hpl
      have HBO := hide hbo
      have HBLK := hide hblk
      have HBEL := hide hbel
      clear hv hpl hbo hblk hbel hpage
      go_wp2_with fail
      refine (unhide HPL).mono ?_
      rintro e w2 ⟨rfl, rfl⟩
      go_wp2_with fail
      refine (unhide HBO).mono ?_
      rintro e w2 ⟨rfl, hb2⟩
      have hst : (storeCells ⟨w2.heap.size, 0, none⟩ (cellsB pb).toList 0).run Tryd.prog (w2.alloc (.cells #[.int .u8 0, .int .u8 0, .int .u8 0, .int .u8 0, .int .u8 0, .int .u8 0, .int .u8 0, .int .u8 0, .int .u8 0, .int .u8 0, .int .u8 0, .int .u8 0, .int .u8 0, .int .u8 0, .int .u8 0, .int .u8 0, .int .u8 0, .int .u8 0, .int .u8 0, .int .u8 0, .int .u8 0, .int .u8 0, .int .u8 0, .int .u8 0, .int .u8 0, .int .u8 0, .int .u8 0, .int .u8 0, .int .u8 0, .int .u8 0, .int .u8 0, .int .u8 0] 106)) = .ok () (w2.alloc (.cells (cellsB pb) 106)) :=
        run_storeCells_new w2 106 #[.int .u8 0, .int .u8 0, .int .u8 0, .int .u8 0, .int .u8 0, .int .u8 0, .int .u8 0, .int .u8 0, .int .u8 0, .int .u8 0, .int .u8 0, .int .u8 0, .int .u8 0, .int .u8 0, .int .u8 0, .int .u8 0, .int .u8 0, .int .u8 0, .int .u8 0, .int .u8 0, .int .u8 0, .int .u8 0, .int .u8 0, .int .u8 0, .int .u8 0, .int .u8 0, .int .u8 0, .int .u8 0, .int .u8 0, .int .u8 0, .int .u8 0, .int .u8 0] (cellsB pb) (by rw [size_cellsB, hsec.1]; exact size_body) (by rw [size_cellsB, hsec.1]; rfl) (all_oneCell pb)
      have hsz : (cellsB pb).size = 32 := by rw [size_cellsB]; exact hsec.1
      have hnew : RowT (w2.alloc (.cells (cellsB pb) 106)).drew w2.heap.size 106 pb := heap_alloc_new _ _
      have hsrc : Bs (w2.alloc (.cells (cellsB pb) 106)).drew (some ⟨w2.heap.size, fr, none⟩) (32 - fr) (pb.drop fr) := by
        have := hnew.bs hsec.2 (by rw [hsec.1]; decide) fr (32 - fr) (32 - fr) (by rw [hsec.1]; omega) (Nat.le_refl _)
        rwa [List.take_of_length_le (by simp [hsec.1])] at this
      have hbA : Below wr.heap.size wr (w2.alloc (.cells (cellsB pb) 106)).drew := (hb2.alloc hb2.size _).trans ⟨rfl, rfl, rfl, Nat.le_refl _, fun _ _ => rfl⟩
      have hbW : Below w.heap.size w (w2.alloc (.cells (cellsB pb) 106)).drew := (unhide HBEL).trans (hbA.mono (unhide HBEL).size)
      have hdst : RowT (w2.alloc (.cells (cellsB pb) 106)).drew w.heap.size 5 (vBytes K M x d ++ zerosB (n - d)) := (unhide HBLK).below hbA
      have hll : (pb.drop fr).length = 32 - fr := by simp [hsec.1]
      have hcp := run_copy_min (P := Tryd.prog) (w2.alloc (.cells (cellsB pb) 106)).drew 41 41 3 Tryd.underlying41 size_u8 (off := d) (dLen := n - d) (dCap := n - d) (by intro e; rw [e] at hll; simp at hll; omega) (by rw [List.length_append, length_vBytes, length_zerosB]; omega) hdst hsrc
      have hspl : splice (vBytes K M x d ++ zerosB (n - d)) d ((pb.drop fr).take (n - d)) = vBytes K M x (d + c) ++ zerosB (n - (d + c)) := by
        have := splice_tail (vBytes K M x d) (vBytes K M (x + d) c) (n - d) (by rw [length_vBytes]; omega)
        rw [length_vBytes, length_vBytes] at this
        rw [htk, this, ← hadd, show n - d - c = n - (d + c) by omega]
      rw [hspl, hll, hc] at hcp
      have hif : (if 32 = fr then (⟨w2.heap.size, 0, none⟩ : Addr) else ⟨w2.heap.size, fr, none⟩) = ⟨w2.heap.size, fr, none⟩ := if_neg (by omega)
      rw [← hif] at hcp
      have HWP : Hid (IntKind.i64.wrap ((d : Int) + (c : Int)) = ((d + c : Nat) : Int)) := hide (by simp only [IntKind.wrap_i64]; omega)
      have hcut := fun w' => cut_from (P := Tryd.prog) (t := 41) Tryd.underlying41 size_u8 w.heap.size d n hlt (by omega) w'
      have HCP := hide hcp
      have HD2 := hide (rowW_blk hdst (vBytes K M x (d + c) ++ zerosB (n - (d + c))))
      have HB2 := hide (rowW_below (vBytes K M x (d + c) ++ zerosB (n - (d + c))) hbW (Nat.le_refl _))
      have e0 : (0 : Int) ≤ (fr : Int) := by omega
      have e1 : (fr : Int) ≤ 32 := by omega
      clear hnew hsrc hbA hbW hdst hcp hspl hb2 htk hadd hpb HPL HBO HBLK HBEL
      generalize hZZ : vBytes K M x (d + c) ++ zerosB (n - (d + c)) = ZZ at *
      have HZZ := hide hZZ
      clear hZZ hif
      go_wp2_with fail
      go_region_law (refine step_copy_run (by rfl) (.tmp 37) (.tmp 39) 41 41 (by rfl) (.slice (some ⟨w.heap.size, d, none⟩) (n - d) (n - d)) (.slice (some (if 32 = fr then ⟨w2.heap.size, 0, none⟩ else ⟨w2.heap.size, fr, none⟩)) (32 - fr) (32 - fr)) (by rfl) (by rfl) (.int .i64 c) (rowW (w2.alloc (.cells (cellsB pb) 106)).drew w.heap.size ZZ) (unhide HCP) ?_)
      go_wp2
      go_roundw
      case rel => exact ⟨d + c, by omega, by rw [unhide HWP], by rw [unhide HZZ]; exact unhide HD2, unhide HB2⟩
      case measure => rw [unhide HWP]; simp [intOf]; omega
    · obtain rfl : d = n := by omega
      rw [Nat.sub_self, show zerosB 0 = [] from rfl, List.append_nil] at hblk
      have HBLK := hide hblk
      have HBEL := hide hbel
      clear hblk hbel
      go_wp2
      go_ret2
      exact ⟨_, rfl, Nat.le_refl _, unhide HBLK, unhide HBEL⟩
end
end Go.Proofs.YtmphnhigohkaeaaDoor
/-! Contracts of package view: dirtyWith; what a Write comes to, as plain mathematics. (Part of the proofs over package view.) -/
namespace Go.Proofs.YtmphnhigohkaeaaDoor
open Go.RowKit
set_option linter.unusedVariables false

/-- How many of the k pages from lo on are not dirty. -/
def nw (M : List (Nat × List Int)) (lo : Nat) : Nat → Nat
  | 0 => 0
  | k + 1 => nw M lo k + (if (M.lookup (lo + k)).isSome then 0 else 1)
/-- How many pages n bytes from x on touch. -/
def spanP (x n : Nat) : Nat := if n = 0 then 0 else (x + n - 1) / 32 + 1 - x / 32
theorem nw_le (M : List (Nat × List Int)) (lo k : Nat) : nw M lo k ≤ k := by
  induction k with
  | zero => exact Nat.le_refl _
  | succ k ih => unfold nw; split <;> omega

section
variable {w w' : World} {v q gk gm : Nat} {K : List (List Int)} {M : List (Nat × List Int)}
set_option maxRecDepth 100000 in
set_option maxHeartbeats 4000000 in
theorem vDirtyWith_any (h : Vw w v q gk gm K M) (x n : Nat) (hx : x + n ≤ 32 * K.length) (hM : M.length ≤ 200) :
    Calls Tryd.prog 54 #[.pointer (some ⟨v, 0, none⟩), .int .i64 (x : Int), .int .i64 (n : Int)] w fun e w' => e = .returned (.int .i64 ((M.length + nw M (x / 32) (spanP x n) : Nat) : Int)) ∧ Below w.heap.size w w' := by
  have hL := h.len
  have H := hide h
  have c2 := h.c2
  have hlen := fun ty => h.mem.len ty
  clear h
  go_enter Tryd.func54, Tryd.ntmps54
  go_wp2_with fail
  go_loopw [7, 8] (fun cv dv wr => ∃ k d : Nat, dv = .int .i64 d ∧ cv = .int .i64 ((M.length + nw M (x / 32) k : Nat) : Int) ∧ ((d = 0 ∧ k = 0) ∨ (0 < k ∧ x + d = 32 * (x / 32 + k) ∧ 0 < n ∧ x / 32 + k ≤ (x + n - 1) / 32 + 1)) ∧ Below w.heap.size w wr) (fun _ dv _ => n - (intOf dv).toNat)
  case atStart => exact ⟨0, 0, rfl, rfl, .inl ⟨rfl, rfl⟩, Below.refl _ _⟩
  case round =>
    obtain ⟨k, d, rfl, rfl, hkd, hbel⟩ := hrel
    clear c2 hlen
    by_cases hlt : d < n
    · have hv := (unhide H).below hbel
      have c2 := hv.c2
      have hpl := vPlace_any (x + d) wr (by omega)
      rw [show ((x + d : Nat) : Int) = (x : Int) + (d : Int) by omega] at hpl
      have hpg : (x + d) / 32 = x / 32 + k := by omega
      have hfr : (x + d) % 32 < 32 := Nat.mod_lt _ (by omega)
      have hnx : x + (d + (32 - (x + d) % 32)) = 32 * (x / 32 + (k + 1)) := by omega
      have hin : x / 32 + (k + 1) ≤ (x + n - 1) / 32 + 1 := by omega
      rw [hpg] at hpl
      have hlook := hv.mem.look (i := x / 32 + k) (by omega)
      have hml : (memV M (x / 32 + k)).length = 32 := by
        unfold memV
        cases e : M.lookup (x / 32 + k) with
        | none => exact length_zerosB 32
        | some b => exact (hv.memOk _ (lookup_mem e)).2.1
      have hnk := nw_le M (x / 32) k
      have hk2 : k ≤ 201 := by omega
      have hsucc : nw M (x / 32) (k + 1) = nw M (x / 32) k + (if (M.lookup (x / 32 + k)).isSome then 0 else 1) := rfl
      unfold sv at hlook
      generalize memV M (x / 32 + k) = pb at *
      generalize hfm : (x + d) % 32 = fr at *
      generalize hPP : x / 32 + k = pg at *
      generalize hbb : (M.lookup pg).isSome = bb at *
      generalize hnw : nw M (x / 32) k = nk at *
      have hst : (storeCells ⟨wr.heap.size, 0, none⟩ (cellsB pb).toList 0).run Tryd.prog (wr.alloc (.cells #[.int .u8 0, .int .u8 0, .int .u8 0, .int .u8 0, .int .u8 0, .int .u8 0, .int .u8 0, .int .u8 0, .int .u8 0, .int .u8 0, .int .u8 0, .int .u8 0, .int .u8 0, .int .u8 0, .int .u8 0, .int .u8 0, .int .u8 0, .int .u8 0, .int .u8 0, .int .u8 0, .int .u8 0, .int .u8 0, .int .u8 0, .int .u8 0, .int .u8 0, .int .u8 0, .int .u8 0, .int .u8 0, .int .u8 0, .int .u8 0, .int .u8 0, .int .u8 0] 106)) = .ok () (wr.alloc (.cells (cellsB pb) 106)) :=
        run_storeCells_new wr 106 #[.int .u8 0, .int .u8 0, .int .u8 0, .int .u8 0, .int .u8 0, .int .u8 0, .int .u8 0, .int .u8 0, .int .u8 0, .int .u8 0, .int .u8 0, .int .u8 0, .int .u8 0, .int .u8 0, .int .u8 0, .int .u8 0, .int .u8 0, .int .u8 0, .int .u8 0, .int .u8 0, .int .u8 0, .int .u8 0, .int .u8 0, .int .u8 0, .int .u8 0, .int .u8 0, .int .u8 0, .int .u8 0, .int .u8 0, .int .u8 0, .int .u8 0, .int .u8 0] (cellsB pb) (by rw [size_cellsB, hml]; exact size_body) (by rw [size_cellsB, hml]; rfl) (all_oneCell pb)
      have hsz : (cellsB pb).size = 32 := by rw [size_cellsB]; exact hml
      have HPL := hide hpl
      have HB2 := hide (hbel.alloc hbel.size (.cells (cellsB pb) 106))
      have HS := hide hsucc
      have e1 : (fr : Int) < 32 := by omega
      have e2 : (0 : Int) ≤ (fr : Int) := by omega
      have e3 : (d : Int) ≤ 6400 := by omega
      clear hv hpl hbel hsucc hkd
      cases bb with
      | true =>
        go_wp2_with fail
        refine (unhide HPL).mono ?_
        rintro e w2 ⟨rfl, rfl⟩
        go_wp2
        go_roundw
        case rel => exact ⟨k + 1, d + (32 - fr), by go_num, by rw [unhide HS]; rfl, .inr ⟨by omega, hnx, by omega, hin⟩, unhide HB2⟩
        case measure => simp [intOf]; omega
      | false =>
        go_wp2_with fail
        refine (unhide HPL).mono ?_
        rintro e w2 ⟨rfl, rfl⟩
        go_wp2
        go_roundw
        case rel => exact ⟨k + 1, d + (32 - fr), by go_num, by rw [unhide HS]; go_num, .inr ⟨by omega, hnx, by omega, hin⟩, unhide HB2⟩
        case measure => simp [intOf]; omega
    · have hk : k = spanP x n := by
        unfold spanP
        split <;> omega
      have HBEL := hide hbel
      have HK := hide hk
      clear hbel hkd hk
      go_wp2
      go_ret
      exact ⟨by rw [← unhide HK]; rfl, unhide HBEL⟩
end

/-! ### what a Write comes to -/
theorem getD_splice {z l : List Int} {off : Nat} (h : off + l.length ≤ z.length) (j : Nat) : (splice z off l).getD j 0 = if off ≤ j ∧ j < off + l.length then l.getD (j - off) 0 else z.getD j 0 := by
  unfold splice
  simp only [List.getD_eq_getElem?_getD]
  by_cases h1 : j < off
  · rw [if_neg (by omega), List.getElem?_append_left (by simp; omega), List.getElem?_take, if_pos h1]
  · rw [List.getElem?_append_right (by simp; omega)]
    have e1 : (z.take off).length = off := by simp; omega
    rw [e1]
    by_cases h2 : j < off + l.length
    · rw [if_pos (by omega), List.getElem?_append_left (by omega)]
    · rw [if_neg (by omega), List.getElem?_append_right (by omega), List.getElem?_drop]
      congr 2
      omega
theorem length_splice' {z l : List Int} {off : Nat} (h : off + l.length ≤ z.length) : (splice z off l).length = z.length := by
  unfold splice
  simp
  omega
theorem vRd_put (K : List (List Int)) (M : List (Nat × List Int)) (i : Nat) (b : List Int) (j : Nat) : vRd K (memPut M i b) j = if j = i then b else vRd K M j := by
  unfold vRd
  rw [lookup_put]
  split <;> rfl
/-- A piece of bytes is laid into a page. -/
theorem byteAt_put {K : List (List Int)} {M : List (Nat × List Int)} {pg fr : Nat} {l : List Int} (hl : (vRd K M pg).length = 32) (hf : fr + l.length ≤ 32) (y : Nat) :
    byteAt K (memPut M pg (splice (vRd K M pg) fr l)) y = if 32 * pg + fr ≤ y ∧ y < 32 * pg + fr + l.length then l.getD (y - (32 * pg + fr)) 0 else byteAt K M y := by
  unfold byteAt
  rw [vRd_put]
  by_cases h1 : y / 32 = pg
  · rw [if_pos h1, getD_splice (by omega)]
    have h2 : y = 32 * pg + y % 32 := by omega
    by_cases h3 : fr ≤ y % 32 ∧ y % 32 < fr + l.length
    · rw [if_pos h3, if_pos (by omega)]
      congr 1
      omega
    · rw [if_neg h3, if_neg (by omega), h1]
  · rw [if_neg h1, if_neg (by omega)]
/-- M' is M behind a Write of the first d bytes of l from x on. -/
structure Wrote (K : List (List Int)) (M M' : List (Nat × List Int)) (x : Nat) (l : List Int) (d : Nat) : Prop where
  byte : ∀ y, byteAt K M' y = if x ≤ y ∧ y < x + d then l.getD (y - x) 0 else byteAt K M y
  key : ∀ i, (M'.lookup i).isSome = true ↔ (M.lookup i).isSome = true ∨ (x / 32 ≤ i ∧ i < x / 32 + spanP x d)
theorem Wrote.zero (K : List (List Int)) (M : List (Nat × List Int)) (x : Nat) (l : List Int) : Wrote K M M x l 0 :=
  ⟨fun y => by rw [if_neg (by omega)], fun i => by unfold spanP; rw [if_pos rfl]; constructor
                                                   · intro h; exact .inl h
                                                   · rintro (h | h)
                                                     · exact h
                                                     · omega⟩
theorem Wrote.step {K : List (List Int)} {M M1 : List (Nat × List Int)} {x d c : Nat} {l : List Int} (h : Wrote K M M1 x l d) (hl : (vRd K M1 ((x + d) / 32)).length = 32) (hc0 : 0 < c) (hc : (x + d) % 32 + c ≤ 32) (hd : d + c ≤ l.length) :
    Wrote K M (memPut M1 ((x + d) / 32) (splice (vRd K M1 ((x + d) / 32)) ((x + d) % 32) ((l.drop d).take c))) x l (d + c) := by
  have hlen : ((l.drop d).take c).length = c := by simp; omega
  refine ⟨fun y => ?_, fun i => ?_⟩
  · rw [byteAt_put hl (by omega), hlen, h.byte]
    have e : 32 * ((x + d) / 32) + (x + d) % 32 = x + d := by omega
    rw [e]
    by_cases h1 : x + d ≤ y ∧ y < x + d + c
    · rw [if_pos h1, if_pos (by omega)]
      simp only [List.getD_eq_getElem?_getD]
      rw [List.getElem?_take, if_pos (by omega), List.getElem?_drop]
      congr 2
      omega
    · rw [if_neg h1]
      by_cases h2 : x ≤ y ∧ y < x + d
      · rw [if_pos h2, if_pos (by omega)]
      · rw [if_neg h2, if_neg (by omega)]
  · rw [lookup_put]
    have hsp : spanP x (d + c) = (x + d) / 32 + 1 - x / 32 := by
      unfold spanP
      rw [if_neg (by omega)]
      omega
    rw [hsp]
    by_cases h1 : i = (x + d) / 32
    · rw [if_pos h1]
      simp
      right
      omega
    · rw [if_neg h1, h.key]
      unfold spanP
      by_cases h2 : d = 0
      · rw [if_pos h2]
        subst h2
        constructor
        · rintro (h | h)
          · exact .inl h
          · omega
        · rintro (h | h)
          · exact .inl h
          · exfalso; simp at h1 h; omega
      · rw [if_neg h2]
        constructor
        · rintro (h | h)
          · exact .inl h
          · right; omega
        · rintro (h | h)
          · exact .inl h
          · right; omega
end Go.Proofs.YtmphnhigohkaeaaDoor
/-! Contracts of package view: Write. (Part of the proofs over package view.) -/
namespace Go.Proofs.YtmphnhigohkaeaaDoor
open Go.RowKit
set_option linter.unusedVariables false

section
variable {w w' : World} {v q gk gm : Nat} {K : List (List Int)} {M : List (Nat × List Int)}
/-- A View behind another entry of its map. -/
theorem Vw.put (h : Vw w v q gk gm K M) {M' : List (Nat × List Int)} (hm : VMem w' gm M') (ht : w.mapTurned w' gm) (hok : ∀ x ∈ M', x.1 < K.length ∧ Sec x.2) : Vw w' v q gk gm K M' :=
  ⟨(ht.grown.block v h.vlt (fun e => h.nvm (Option.some.inj e))).trans h.blk, h.kept.same (ht.grown.block gk h.kept.lt (fun e => h.nkm (Option.some.inj e))), h.sec, h.len, hm, hok, h.nvk, h.nvm, h.nkm⟩
theorem memPut_ok {M : List (Nat × List Int)} {L i : Nat} {b : List Int} (h : ∀ x ∈ M, x.1 < L ∧ Sec x.2) (hi : i < L) (hb : Sec b) : ∀ x ∈ memPut M i b, x.1 < L ∧ Sec x.2 := by
  induction M with
  | nil =>
    intro x hx
    unfold memPut at hx
    simp at hx
    subst hx
    exact ⟨hi, hb⟩
  | cons y r ih =>
    obtain ⟨j, c⟩ := y
    intro x hx
    unfold memPut at hx
    split at hx
    · rcases List.mem_cons.1 hx with rfl | hx
      · exact ⟨hi, hb⟩
      · exact h x (List.mem_cons_of_mem _ hx)
    · rcases List.mem_cons.1 hx with rfl | hx
      · exact h _ List.mem_cons_self
      · exact ih (fun x hx => h x (List.mem_cons_of_mem _ hx)) x hx
/-- Bytes do not stand in a map. -/
theorem bs_map {a : Option Addr} {cap : Nat} {l : List Int} (hb : Bs w a cap l) (hm : VMem w gm M) (hne : l ≠ []) : ∀ y, a = some y → y.block ≠ gm := by
  intro y hy e
  obtain ⟨b, off, rfl, hc⟩ := hb.2.2.2.2 hne
  obtain rfl := Option.some.inj hy
  obtain ⟨es, clock, hm⟩ := hm.memAt.isMap
  have h0 := hc 0 (List.length_pos_iff.2 hne)
  have e' : b = gm := e
  subst e'
  simp [World.cell?, hm] at h0
/-- All but the map, and what is new, is as it was. -/
def OnlyV (g : Nat) (w w' : World) : Prop := Turn (fun k => k = g) (fun k => k = g) w w'
theorem OnlyV.bs {g : Nat} (h : OnlyV g w w') {a : Option Addr} {cap : Nat} {l : List Int} (hb : Bs w a cap l) (hn : l ≠ [] → ∀ y, a = some y → y.block ≠ g) : Bs w' a cap l := by
  by_cases hl : l = []
  · subst hl
    obtain ⟨h1, h2, h3, h4, _⟩ := hb
    exact ⟨h1, h2, h3, h4, fun hne => absurd rfl hne⟩
  · obtain ⟨b, off, rfl, hc⟩ := hb.2.2.2.2 hl
    obtain ⟨h1, h2, h3, h4, _⟩ := hb
    have hlt := block_lt_of_cell (hc 0 (List.length_pos_iff.2 hl))
    refine ⟨h1, h2, h3, h4, fun _ => ⟨b, off, rfl, fun i hi => ?_⟩⟩
    rw [← hc i hi]
    exact World.cell?_of_block (a := ⟨b, off + i, none⟩) (h.block b hlt (hn hl ⟨b, off, none⟩ rfl))

theorem vWrite_no (h : Vw w v q gk gm K M) (x : Int) (a : Option Addr) (cap : Nat) (n : Nat) (hx : x ≤ 9223372036854775807) (hn : n ≤ 140737488351232) (hno : ¬ (0 ≤ x ∧ (0 : Int) ≤ n ∧ (n : Int) ≤ (32 * K.length : Nat) - x)) :
    Calls Tryd.prog 24 #[.pointer (some ⟨v, 0, none⟩), .int .i64 x, .slice a n cap] w fun e w' => e = .returned (errV 1) ∧ w = w' := by
  have hh := vHas_any h x n hx (by omega)
  rw [decide_eq_false hno] at hh
  have HH := hide hh
  clear h hh hno
  go_enter Tryd.func24, Tryd.ntmps24
  go_wp2_with fail
  refine (unhide HH).mono ?_
  rintro e w1 ⟨rfl, rfl⟩
  go_wp2
  go_ret
  exact ⟨rfl, rfl⟩
theorem vWrite_full (h : Vw w v q gk gm K M) (x : Nat) (a : Option Addr) (cap : Nat) (n : Nat) (hx : x + n ≤ 32 * K.length) (hM : M.length ≤ 200) (hf : 23 < M.length + nw M (x / 32) (spanP x n)) :
    Calls Tryd.prog 24 #[.pointer (some ⟨v, 0, none⟩), .int .i64 (x : Int), .slice a n cap] w fun e w' => e = .returned (errV 4) ∧ Below w.heap.size w w' := by
  have hL := h.len
  have hh := vHas_any h x n (by omega) (by omega)
  rw [decide_eq_true (by omega)] at hh
  have HH := hide hh
  have HD := hide (vDirtyWith_any h x n hx hM)
  generalize M.length + nw M (x / 32) (spanP x n) = cn at *
  clear h hh
  go_enter Tryd.func24, Tryd.ntmps24
  go_wp2_with fail
  refine (unhide HH).mono ?_
  rintro e w1 ⟨rfl, rfl⟩
  go_wp2_with fail
  refine (unhide HD).mono ?_
  rintro e w1 ⟨rfl, hb1⟩
  go_wp2
  go_ret
  exact ⟨rfl, hb1⟩

set_option maxRecDepth 100000 in
set_option maxHeartbeats 8000000 in
theorem vWrite_yes (h : Vw w v q gk gm K M) (x : Nat) (a : Option Addr) (cap : Nat) (l : List Int) (hb : Bs w a cap l) (hx : x + l.length ≤ 32 * K.length) (hM : M.length ≤ 200) (hf : M.length + nw M (x / 32) (spanP x l.length) ≤ 23) :
    Calls Tryd.prog 24 #[.pointer (some ⟨v, 0, none⟩), .int .i64 (x : Int), .slice a l.length cap] w fun e w' => e = .returned .nilIface ∧ ∃ M', Vw w' v q gk gm K M' ∧ Wrote K M M' x l l.length ∧ OnlyV gm w w' := by
  have hL := h.len
  have hh := vHas_any h x l.length (by omega) (by omega)
  rw [decide_eq_true (by omega)] at hh
  have HH := hide hh
  have HD := hide (vDirtyWith_any h x l.length hx hM)
  generalize M.length + nw M (x / 32) (spanP x l.length) = cn at *
  have H := hide h
  have HB := hide hb
  have hbm : l ≠ [] → ∀ y, a = some y → y.block ≠ gm := fun hne => bs_map hb h.mem hne
  have HBM := hide hbm
  clear h hh hb hbm
  go_enter Tryd.func24, Tryd.ntmps24
  go_wp2_with fail
  refine (unhide HH).mono ?_
  rintro e w1 ⟨rfl, rfl⟩
  go_wp2_with fail
  refine (unhide HD).mono ?_
  rintro e w1 ⟨rfl, hb1⟩
  have hstart : Vw w1 v q gk gm K M ∧ OnlyV gm w w1 ∧ Bs w1 a cap l := ⟨(unhide H).below hb1, Turn.of_below hb1, (unhide HB).below hb1⟩
  have HST := hide hstart
  clear hstart hb1 HH HD
  go_wp2_with fail
  go_loopw [7] (fun u wr => ∃ (d : Nat) (M1 : List (Nat × List Int)), d ≤ l.length ∧ u = .int .i64 d ∧ Vw wr v q gk gm K M1 ∧ Wrote K M M1 x l d ∧ OnlyV gm w wr ∧ Bs wr a cap l) (fun u _ => l.length - (intOf u).toNat)
  case atStart => exact ⟨0, M, Nat.zero_le _, rfl, (unhide HST).1, Wrote.zero _ _ _ _, (unhide HST).2.1, (unhide HST).2.2⟩
  case round =>
    obtain ⟨d, M1, hd, rfl, hv, hw1, honly, hbs⟩ := hrel
    clear HST
    by_cases hlt : d < l.length
    · have hpl := vPlace_any (x + d) wr (by omega)
      rw [show ((x + d : Nat) : Int) = (x : Int) + (d : Int) by omega] at hpl
      have hpK : (x + d) / 32 < K.length := by omega
      have hbo := vBody_any hv ((x + d) / 32) hpK
      have hsec := hv.rdSec hpK
      have hfr : (x + d) % 32 < 32 := Nat.mod_lt _ (by omega)
      obtain ⟨c, hc⟩ : ∃ c, min (32 - (x + d) % 32) (l.length - d) = c := ⟨_, rfl⟩
      have hc1 : 0 < c ∧ c ≤ l.length - d ∧ c ≤ 32 - (x + d) % 32 := by omega
      have hstep := hw1.step (c := c) hsec.1 (by omega) (by omega) (by omega)
      have htk : (l.drop d).take (32 - (x + d) % 32) = (l.drop d).take c := by
        rcases Nat.le_total (32 - (x + d) % 32) (l.length - d) with h1 | h1
        · rw [show c = 32 - (x + d) % 32 by omega]
        · rw [show c = l.length - d by omega, List.take_of_length_le (by simp; omega), List.take_of_length_le (by simp)]
      have hM1 : M1.length ≤ 300 := by
        have := List.Nodup.length_le_of_subset hv.mem.nodup (l₂ := List.range K.length) (fun y hy => by
          obtain ⟨p, hp, rfl⟩ := List.mem_map.1 hy
          exact List.mem_range.2 (hv.memOk p hp).1)
        simp at this
        omega
      generalize hpg : (x + d) / 32 = pg at *
      generalize hfm : (x + d) % 32 = fr at *
      generalize hpb : vRd K M1 pg = pb at *
      rw [← htk] at hstep
      have hnlen : (splice pb fr ((l.drop d).take (32 - fr))).length = 32 := by
        rw [length_splice' (by rw [htk, hsec.1]; simp; omega)]; exact hsec.1
      have hnsec : Sec (splice pb fr ((l.drop d).take (32 - fr))) := ⟨hnlen, byt_splice hsec.2 (fun z hz => hbs.1 z (List.mem_of_mem_drop (List.mem_of_mem_take hz)))⟩
      obtain ⟨a2, hsl, hbs2⟩ := slice_lo (P := Tryd.prog) (t := 41) Tryd.underlying41 size_u8 hbs d hd
      unfold sv at hbo
      have HPL := hide hpl
      have HBO := hide hbo
      have HV := hide hv
      have HSTEP := hide hstep
      have HONLY := hide honly
      have HBS := hide hbs
      have HBS2 := hide hbs2
      clear hpl hbo hv hstep honly hbs hbs2 hw1
      go_wp2_with fail
      refine (unhide HPL).mono ?_
      rintro e w2 ⟨rfl, rfl⟩
      go_wp2_with fail
      refine (unhide HBO).mono ?_
      rintro e w2 ⟨rfl, hb2⟩
      have hst : (storeCells ⟨w2.heap.size, 0, none⟩ (cellsB pb).toList 0).run Tryd.prog (w2.alloc (.cells #[.int .u8 0, .int .u8 0, .int .u8 0, .int .u8 0, .int .u8 0, .int .u8 0, .int .u8 0, .int .u8 0, .int .u8 0, .int .u8 0, .int .u8 0, .int .u8 0, .int .u8 0, .int .u8 0, .int .u8 0, .int .u8 0, .int .u8 0, .int .u8 0, .int .u8 0, .int .u8 0, .int .u8 0, .int .u8 0, .int .u8 0, .int .u8 0, .int .u8 0, .int .u8 0, .int .u8 0, .int .u8 0, .int .u8 0, .int .u8 0, .int .u8 0, .int .u8 0] 106)) = .ok () (w2.alloc (.cells (cellsB pb) 106)) :=
        run_storeCells_new w2 106 #[.int .u8 0, .int .u8 0, .int .u8 0, .int .u8 0, .int .u8 0, .int .u8 0, .int .u8 0, .int .u8 0, .int .u8 0, .int .u8 0, .int .u8 0, .int .u8 0, .int .u8 0, .int .u8 0, .int .u8 0, .int .u8 0, .int .u8 0, .int .u8 0, .int .u8 0, .int .u8 0, .int .u8 0, .int .u8 0, .int .u8 0, .int .u8 0, .int .u8 0, .int .u8 0, .int .u8 0, .int .u8 0, .int .u8 0, .int .u8 0, .int .u8 0, .int .u8 0] (cellsB pb) (by rw [size_cellsB, hsec.1]; exact size_body) (by rw [size_cellsB, hsec.1]; rfl) (all_oneCell pb)
      have hsz : (cellsB pb).size = 32 := by rw [size_cellsB]; exact hsec.1
      have hnew : RowT (w2.alloc (.cells (cellsB pb) 106)).drew w2.heap.size 106 pb := heap_alloc_new _ _
      have hbA : Below wr.heap.size wr (w2.alloc (.cells (cellsB pb) 106)).drew := (hb2.alloc hb2.size _).trans ⟨rfl, rfl, rfl, Nat.le_refl _, fun _ _ => rfl⟩
      have hll : (l.drop d).length = l.length - d := by simp
      have hcp := run_copy_min (P := Tryd.prog) (w2.alloc (.cells (cellsB pb) 106)).drew 41 41 3 Tryd.underlying41 size_u8 (off := fr) (dLen := 32 - fr) (dCap := 32 - fr) (l := l.drop d) (by intro e; rw [e] at hll; simp at hll; omega) (by rw [hsec.1]; omega) hnew ((unhide HBS2).below hbA)
      rw [hll, hc] at hcp
      have hif : (if 32 = fr then (⟨w2.heap.size, 0, none⟩ : Addr) else ⟨w2.heap.size, fr, none⟩) = ⟨w2.heap.size, fr, none⟩ := if_neg (by omega)
      rw [← hif] at hcp
      generalize hNN : splice pb fr ((l.drop d).take (32 - fr)) = NN at *
      -- behind the copy
      have hrow3 : RowT (rowW (w2.alloc (.cells (cellsB pb) 106)).drew w2.heap.size NN) w2.heap.size 106 NN := hnew.set NN
      have hb3 : Below wr.heap.size wr (rowW (w2.alloc (.cells (cellsB pb) 106)).drew w2.heap.size NN) := rowW_below NN hbA hb2.size
      obtain ⟨w3, hw3⟩ : ∃ w3, w3 = rowW (w2.alloc (.cells (cellsB pb) 106)).drew w2.heap.size NN := ⟨_, rfl⟩
      rw [← hw3] at hcp hrow3 hb3
      have hv3 := (unhide HV).below hb3
      have hv4 : Vw w3.drew v q gk gm K M1 := hv3.below ⟨rfl, rfl, rfl, Nat.le_refl _, fun _ _ => rfl⟩
      have c2 := hv3.c2
      obtain ⟨w5, hup, hm5, ht5⟩ := hv4.mem.store hM1 (i := pg) (by omega) hnlen
      have hup' : Sem.run Tryd.prog (Instr.mapUpdate 107 (.map (some gm)) (.int .i64 pg) (.agg (NN.map (Value.int .u8)).toArray)) w3.drew = .ok () w5 := hup
      have hrg : w3.rangeAt w2.heap.size 0 (NN.map (Value.int .u8)) := range_mid 0 NN hnlen hrow3 (by rw [List.drop_zero, List.take_of_length_le (by rw [hnlen]; decide)])
      have hu := Tryd.underlying106
      have hin : (Tryd.prog.info? 106).map (·.size) = some (NN.map (Value.int .u8)).length := by rw [List.length_map, hnlen]; exact size_body
      have hl32 : (NN.map (Value.int .u8)).length = 32 := by rw [List.length_map, hnlen]
      have hon := oneCell_u8 NN
      have hgm : gm < wr.heap.size := (unhide HV).mem.lt
      have hsz3 := hb3.size
      have c25 : w5.cell? ⟨v, 2, none⟩ = some (.map (some gm)) := (World.cell?_of_block (a := ⟨v, 2, none⟩) (ht5.grown.block v hv4.vlt (fun e => hv4.nvm (Option.some.inj e)))).trans c2
      have rg5 : w5.rangeAt w2.heap.size 0 (NN.map (Value.int .u8)) := fun j u hj => (World.cell?_of_block (a := ⟨w2.heap.size, 0 + j, none⟩) (ht5.grown.block w2.heap.size hrow3.lt (fun e => by have := hb2.size; have := Option.some.inj e; omega))).trans (hrg j u hj)
      have hV5 := hv4.put hm5 ht5 (memPut_ok hv4.memOk hpK hnsec)
      have hO5 : OnlyV gm w w5 := ((unhide HONLY).trans (Turn.of_below hb3)).trans ((Turn.drew _ _).trans (Turn.map ht5 rfl))
      have hB5 : Bs w5 a cap l := hO5.bs (unhide HB) (unhide HBM)
      have HFIN := hide (And.intro hV5 (And.intro (unhide HSTEP) (And.intro hO5 hB5)))
      have HCP := hide hcp
      have HWP : Hid (IntKind.i64.wrap ((d : Int) + (c : Int)) = ((d + c : Nat) : Int)) := hide (by simp only [IntKind.wrap_i64]; omega)
      have e0 : (0 : Int) ≤ (fr : Int) := by omega
      have e1 : (fr : Int) ≤ 32 := by omega
      have HC := hide hc1
      clear hnew hcp hb2 hbA hif hrow3 hb3 hv3 hv4 hup hm5 ht5 hV5 hO5 hB5 HV HSTEP HONLY HBS HBS2 HBO HPL htk hnsec hw3 hsec hM1 hc
      go_wp2_with fail
      go_region_law (refine step_copy_run (by rfl) (.tmp 41) (.tmp 44) 41 41 (by rfl) (.slice (some (if 32 = fr then ⟨w2.heap.size, 0, none⟩ else ⟨w2.heap.size, fr, none⟩)) (32 - fr) (32 - fr)) (.slice a2 (l.length - d) (cap - d)) (by rfl) (by rfl) (.int .i64 c) w3 (unhide HCP) ?_)
      go_wp2_with fail
      go_region_held3 (fun w' => w'.cell? ⟨v, 2, none⟩ = some (.map (some gm)) ∧ w'.rangeAt w2.heap.size 0 (NN.map (Value.int .u8))) (first | go_keep_ranges | exact ⟨c25, rg5⟩) (fail)
      all_goals
        go_wp2
        go_roundw
        case rel => exact ⟨d + c, _, by have := unhide HC; omega, by rw [unhide HWP], unhide HFIN⟩
        case measure => rw [unhide HWP]; have := unhide HC; simp [intOf]; omega
    · obtain rfl : d = l.length := by omega
      have HFIN := hide (And.intro hv (And.intro hw1 honly))
      clear hv hw1 honly hbs
      go_wp2
      go_ret
      exact ⟨rfl, M1, unhide HFIN⟩
end
end Go.Proofs.YtmphnhigohkaeaaDoor
/-! Contracts of package view: New. (Part of the proofs over package view.) -/
namespace Go.Proofs.YtmphnhigohkaeaaDoor
open Go.RowKit
set_option linter.unusedVariables false

/-- The first L pages of a device. -/
def keptOf (D : DS) (L : Nat) : List (List Int) := (List.range L).map (fun i => D.rd (48 + i))
theorem length_keptOf (D : DS) (L : Nat) : (keptOf D L).length = L := by unfold keptOf; simp
theorem keptOf_succ (D : DS) (k : Nat) : keptOf D (k + 1) = keptOf D k ++ [D.rd (48 + k)] := by unfold keptOf; rw [List.range_succ, List.map_append]; rfl
theorem keptOf_getD (D : DS) {L i : Nat} (hi : i < L) : (keptOf D L).getD i [] = D.rd (48 + i) := by
  unfold keptOf
  rw [List.getD_eq_getElem?_getD, List.getElem?_map, List.getElem?_range hi]
  rfl
def keptK (D : DS) (L k : Nat) : List (List Int) := keptOf D k ++ List.replicate (L - k) (zerosB 32)
theorem keptK_set (D : DS) {L k : Nat} (hk : k < L) : (keptK D L k).set k (D.rd (48 + k)) = keptK D L (k + 1) := by
  unfold keptK
  have e : L - k = (L - (k + 1)) + 1 := by omega
  rw [e, List.replicate_succ, keptOf_succ, List.append_assoc, List.set_append]
  rw [length_keptOf, if_neg (by omega), Nat.sub_self]
  rfl
theorem keptK_sec {D : DS} (hok : D.Ok) {L k : Nat} (hL : 48 + L ≤ D.secs.length) (hk : k ≤ L) : ∀ s ∈ keptK D L k, Sec s := by
  intro s hs
  unfold keptK keptOf at hs
  rcases List.mem_append.1 hs with h | h
  · obtain ⟨i, hi, rfl⟩ := List.mem_map.1 h
    have := List.mem_range.1 hi
    exact hok.rd (by omega)
  · rw [(List.mem_replicate.1 h).2]
    exact sec_zeros
theorem keptK_zero (D : DS) (L : Nat) : (keptK D L 0).flatten = zerosB (L * 32) := by
  unfold keptK keptOf
  exact flat_zeros L
theorem length_keptK (D : DS) {L k : Nat} (hk : k ≤ L) : (keptK D L k).length = L := by unfold keptK; rw [List.length_append, length_keptOf, List.length_replicate]; omega
theorem info_body3 : (Tryd.prog.info? 106).map (fun i => (i.zero, i.size, i.bytes)) = some (some (sv (zerosB 32)), 32, 32) := by kernel_rfl

section
variable {w : World} {p q : Nat} {S : Nat → Prop} {D : DS} {s : Int}
set_option maxRecDepth 100000 in
set_option maxHeartbeats 4000000 in
theorem vNew_any (h : Dev w p S D) (hq : PgAt w q p s) {L : Nat} (hL : cntI D.secs.length = L) (hL1 : L ≤ 200) (hL2 : 48 + L ≤ D.secs.length) (hd : D.down = false) :
    Calls Tryd.prog 22 #[.pointer (some ⟨q, 0, none⟩)] w fun e w' => ∃ v gk gm, e = .returned (.tuple #[.pointer (some ⟨v, 0, none⟩), .nilIface]) ∧ Vw w' v q gk gm (keptOf D L) [] ∧ w.heap.size ≤ gk ∧ w.heap.size ≤ gm ∧ w.heap.size ≤ v ∧ Below w.heap.size w w' := by
  have hln := pLen_any h hq
  rw [hL] at hln
  have HLN := hide hln
  have HOK := hide h.ok
  have HRD : Hid (∀ (w1 : World) (k : Nat), Below w.heap.size w w1 → k < L → Calls Tryd.prog 19 #[.pointer (some ⟨q, 0, none⟩), .int .i64 k] w1 fun e w' => ∃ g, e = .returned (.tuple #[.slice (some ⟨g, 0, none⟩) 32 32, .nilIface]) ∧ w1.heap.size ≤ g ∧ Blk w' g (D.rd (48 + k)) ∧ Below w1.heap.size w1 w') :=
    hide (fun w1 k hb hk => pRead_yes (h.below hb) (hq.below hb) k (decide_eq_true ⟨by omega, by rw [hL]; omega⟩) hd)
  have hmm := @run_makeMap Tryd.prog
  obtain ⟨i0, hi0, hz0, hz1, hz2⟩ := info_parts info_body3
  clear h hq hln
  go_enter Tryd.func22, Tryd.ntmps22
  go_wp2_with fail
  refine (unhide HLN).mono ?_
  rintro e w1 ⟨rfl, rfl⟩
  go_wp2_with (at_make; refine wpList_make_secs rfl _ _ 104 106 rfl i0 Tryd.underlying104 hi0 hz0 hz1 hz2 _ _ _ _ L rfl rfl rfl rfl (by omega) ?_)
  go_loopw [13] (fun u wr => ∃ k : Nat, k ≤ L ∧ u = .int .i64 k ∧ RowT wr w.heap.size 106 (keptK D L k).flatten ∧ Below w.heap.size w wr) (fun u _ => L - (intOf u).toNat)
  case atStart => exact ⟨0, Nat.zero_le _, rfl, by rw [keptK_zero]; exact row_new w _ _, (Below.refl _ _).alloc (Nat.le_refl _) _⟩
  case round =>
    obtain ⟨k, hk, rfl, hrow, hbel⟩ := hrel
    by_cases hlt : k < L
    · have HR := hide (unhide HRD wr k hbel hlt)
      have HROW := hide hrow
      have HBEL := hide hbel
      have hsz := hbel.size
      clear hrow hbel
      go_wp2_with fail
      refine (unhide HR).mono ?_
      rintro e w2 ⟨gr, rfl, hgr, hb2, hbel2⟩
      have hrow2 := (unhide HROW).same (hbel2.block w.heap.size (unhide HROW).lt)
      have hks := keptK_sec (unhide HOK) hL2 hk
      have h32 : ∀ s ∈ keptK D L k, s.length = 32 := fun s hs => (hks s hs).1
      have hsec : Sec (D.rd (48 + k)) := (unhide HOK).rd (by omega)
      have hcp := run_copy_rowt (P := Tryd.prog) w2 41 41 3 Tryd.underlying41 size_u8 (dCap := 32) (off := k * 32) (by rw [flat_len _ h32, length_keptK D hk, hsec.1]; omega) hrow2 (blk_bs hb2 hsec)
      rw [flat_splice _ _ _ h32 (by rw [length_keptK D hk]; exact hlt) (by rw [hsec.1]; exact Nat.le_refl _), hsec.1, List.drop_of_length_le (by rw [(sec_getD hks (by rw [length_keptK D hk]; exact hlt)).1]; exact Nat.le_refl _), List.append_nil, keptK_set D hlt] at hcp
      have HR3 := hide (hrow2.set (keptK D L (k + 1)).flatten)
      have HB3 := hide (rowW_below (keptK D L (k + 1)).flatten ((unhide HBEL).trans (hbel2.mono hsz)) (Nat.le_refl _))
      have e0 : (k : Int) < (L : Int) := by omega
      have e1 : (0 : Int) ≤ (k : Int) := by omega
      clear hb2 hbel2 hrow2 hks h32 hsec HROW HBEL HR
      go_wp2
      go_roundw
      case rel => exact ⟨k + 1, by omega, by go_num, unhide HR3, unhide HB3⟩
      case measure => simp [intOf]; omega
    · obtain rfl : k = L := by omega
      have HROW := hide hrow
      have HBEL := hide hbel
      have hsz := hbel.size
      have hlt2 := hrow.lt
      clear hrow hbel
      go_wp2
      go_ret2
      have hfin := unhide HROW
      unfold keptK at hfin
      rw [Nat.sub_self, List.replicate_zero, List.append_nil] at hfin
      refine ⟨wr.heap.size + 1, w.heap.size, wr.heap.size, rfl, ?_, Nat.le_refl _, hsz, by omega, ((unhide HBEL).alloc hsz _).alloc (by simp; omega) _⟩
      refine ⟨?_, (hfin.same (heap_alloc_old _ _ hlt2)).same (heap_alloc_old _ _ (by simp; omega)), ?_, by rw [length_keptOf]; exact hL1, (VMem.made wr).same (heap_alloc_old _ _ (by simp)), fun x hx => (by cases hx), by omega, by omega, by omega⟩
      · have := heap_alloc_new (wr.alloc (.map #[] 0)) (.cells #[.pointer (some ⟨q, 0, none⟩), .slice (some ⟨w.heap.size, 0, none⟩) k k, .map (some wr.heap.size)] 109)
        rw [size_alloc] at this
        rw [length_keptOf]
        exact this
      · have := keptK_sec (unhide HOK) hL2 (Nat.le_refl k)
        unfold keptK at this
        rw [Nat.sub_self, List.replicate_zero, List.append_nil] at this
        exact this
end
end Go.Proofs.YtmphnhigohkaeaaDoor
/-! The library's slices.Sorted and maps.Keys at this program: laid off the shelf. (Part of the proofs over package view.) -/
namespace Go.Proofs.YtmphnhigohkaeaaDoor
open Go.RowKit Go.Maps Go.Sort Go.Shelf
set_option linter.unusedVariables false
def keysA_ren : Ren := { f := fun | 7 => 58 | 10 => 76 | n => n, t := fun | 23 => 107 | 26 => 3 | 3 => 106 | 28 => 117 | 0 => 0 | 27 => 116 | 33 => 103 | 4 => 4 | n => n, g := fun n => n }
theorem keysA : SlLaysZI.n7 Tryd.prog keysA_ren := { mixed := by kernel_rfl, f7 := ⟨ "maps.Keys[map[int]vaultkeel/view.body,int,vaultkeel/view.body]", by decide, Tryd.func58.trans rfl⟩, f10 := ⟨ "maps.Keys[map[int]vaultkeel/view.body,int,vaultkeel/view.body]$1", by decide, Tryd.func76.trans rfl⟩, t0 := Tryd.underlying0, a0 := Tryd.isAgg0, z0 := Tryd.sizeOf0, v0 := Tryd.zeroValue0, t4 := Tryd.underlying4, a4 := Tryd.isAgg4, z4 := Tryd.sizeOf4, v4 := Tryd.zeroValue4, t23 := Tryd.underlying107, a23 := Tryd.isAgg107, z23 := Tryd.sizeOf107, v23 := Tryd.zeroValue107, t26 := Tryd.underlying3, a26 := Tryd.isAgg3, z26 := Tryd.sizeOf3, v26 := Tryd.zeroValue3, t27 := Tryd.underlying116, a27 := Tryd.isAgg116, z27 := Tryd.sizeOf116, v27 := Tryd.zeroValue116, t28 := Tryd.underlying117, a28 := Tryd.isAgg117, z28 := Tryd.sizeOf117, v28 := Tryd.zeroValue117, t33 := Tryd.underlying103, a33 := Tryd.isAgg103, z33 := Tryd.sizeOf103, v33 := Tryd.zeroValue103 }
def sortedA_ren : Ren := { f := fun | 6 => 57 | 8 => 74 | 9 => 75 | 11 => 88 | 13 => 90 | 12 => 89 | 23 => 108 | 24 => 109 | 14 => 99 | 15 => 100 | 16 => 101 | 17 => 102 | 18 => 103 | 19 => 104 | 20 => 105 | 21 => 106 | 22 => 107 | 25 => 110 | 26 => 111 | 27 => 112 | 28 => 113 | 29 => 114 | 30 => 87 | 31 => 115 | n => n, t := fun | 26 => 3 | 28 => 117 | 24 => 40 | 0 => 0 | 3 => 3 | 37 => 153 | 48 => 179 | 50 => 181 | 4 => 4 | 40 => 173 | 39 => 172 | 45 => 124 | 5 => 5 | 9 => 9 | 51 => 182 | 55 => 186 | 57 => 188 | 58 => 112 | 33 => 103 | n => n, g := fun n => n }
theorem sortedA : SlLaysZI.n6 Tryd.prog sortedA_ren := { mixed := by kernel_rfl, f6 := ⟨ "slices.Sorted[int]", by decide, Tryd.func57.trans rfl⟩, f8 := ⟨ "slices.Collect[int]", by decide, Tryd.func74.trans rfl⟩, f11 := ⟨ "slices.AppendSeq[[]int,int]", by decide, Tryd.func88.trans rfl⟩, t0 := Tryd.underlying0, a0 := Tryd.isAgg0, z0 := Tryd.sizeOf0, v0 := Tryd.zeroValue0, t24 := Tryd.underlying40, a24 := Tryd.isAgg40, z24 := Tryd.sizeOf40, v24 := Tryd.zeroValue40, t26 := Tryd.underlying3, a26 := Tryd.isAgg3, z26 := Tryd.sizeOf3, v26 := Tryd.zeroValue3, t28 := Tryd.underlying117, a28 := Tryd.isAgg117, z28 := Tryd.sizeOf117, v28 := Tryd.zeroValue117, i26 := by kernel_rfl }
def sortA_ren : Ren := { f := fun | 5 => 75 | 8 => 90 | 7 => 89 | 19 => 108 | 20 => 109 | 10 => 99 | 11 => 100 | 12 => 101 | 13 => 102 | 14 => 103 | 15 => 104 | 16 => 105 | 17 => 106 | 18 => 107 | 30 => 110 | 31 => 111 | 32 => 112 | 33 => 113 | 34 => 114 | 35 => 87 | 40 => 115 | n => n, t := fun | 23 => 40 | 25 => 3 | 3 => 3 | 32 => 153 | 22 => 40 | 0 => 0 | 44 => 179 | 46 => 181 | 4 => 4 | 36 => 173 | 35 => 172 | 41 => 124 | 5 => 5 | 9 => 9 | 53 => 182 | 57 => 186 | 63 => 188 | 64 => 112 | n => n, g := fun n => n }
theorem sortA : SlLaysM.n5 Tryd.prog sortA_ren := { mixed := by kernel_rfl, f5 := ⟨ "slices.Sort[[]int,int]", by decide, Tryd.func75.trans rfl⟩, f7 := ⟨ "slices.pdqsortOrdered[int]", by decide, Tryd.func89.trans rfl⟩, f8 := Tryd.func90.trans rfl, f10 := ⟨ "slices.insertionSortOrdered[int]", by decide, Tryd.func99.trans rfl⟩, f11 := ⟨ "slices.heapSortOrdered[int]", by decide, Tryd.func100.trans rfl⟩, f12 := ⟨ "slices.breakPatternsOrdered[int]", by decide, Tryd.func101.trans rfl⟩, f13 := ⟨ "slices.choosePivotOrdered[int]", by decide, Tryd.func102.trans rfl⟩, f14 := ⟨ "slices.reverseRangeOrdered[int]", by decide, Tryd.func103.trans rfl⟩, f15 := ⟨ "slices.partialInsertionSortOrdered[int]", by decide, Tryd.func104.trans rfl⟩, f16 := ⟨ "cmp.Less[int]", by decide, Tryd.func105.trans rfl⟩, f17 := ⟨ "slices.partitionEqualOrdered[int]", by decide, Tryd.func106.trans rfl⟩, f18 := ⟨ "slices.partitionOrdered[int]", by decide, Tryd.func107.trans rfl⟩, f19 := Tryd.func108.trans rfl, f20 := Tryd.func109.trans rfl, f30 := ⟨ "slices.siftDownOrdered[int]", by decide, Tryd.func110.trans rfl⟩, f31 := Tryd.func111.trans rfl, f32 := Tryd.func112.trans rfl, f33 := ⟨ "slices.medianAdjacentOrdered[int]", by decide, Tryd.func113.trans rfl⟩, f34 := ⟨ "slices.medianOrdered[int]", by decide, Tryd.func114.trans rfl⟩, f35 := ⟨ "cmp.isNaN[int]", by decide, Tryd.func87.trans rfl⟩, f40 := ⟨ "slices.order2Ordered[int]", by decide, Tryd.func115.trans rfl⟩, t0 := Tryd.underlying0, a0 := Tryd.isAgg0, z0 := Tryd.sizeOf0, v0 := Tryd.zeroValue0, t3 := Tryd.underlying3, a3 := Tryd.isAgg3, z3 := Tryd.sizeOf3, v3 := Tryd.zeroValue3, t4 := Tryd.underlying4, a4 := Tryd.isAgg4, z4 := Tryd.sizeOf4, v4 := Tryd.zeroValue4, t5 := Tryd.underlying5, a5 := Tryd.isAgg5, z5 := Tryd.sizeOf5, v5 := Tryd.zeroValue5, t9 := Tryd.underlying9, a9 := Tryd.isAgg9, z9 := Tryd.sizeOf9, v9 := Tryd.zeroValue9, t22 := Tryd.underlying40, a22 := Tryd.isAgg40, z22 := Tryd.sizeOf40, v22 := Tryd.zeroValue40, t23 := Tryd.underlying40, a23 := Tryd.isAgg40, z23 := Tryd.sizeOf40, v23 := Tryd.zeroValue40, t25 := Tryd.underlying3, a25 := Tryd.isAgg3, z25 := Tryd.sizeOf3, v25 := Tryd.zeroValue3, t32 := Tryd.underlying153, a32 := Tryd.isAgg153, z32 := Tryd.sizeOf153, v32 := Tryd.zeroValue153, t35 := Tryd.underlying172, a35 := Tryd.isAgg172, z35 := Tryd.sizeOf172, v35 := Tryd.zeroValue172, t36 := Tryd.underlying173, a36 := Tryd.isAgg173, z36 := Tryd.sizeOf173, v36 := Tryd.zeroValue173, t41 := Tryd.underlying124, a41 := Tryd.isAgg124, z41 := Tryd.sizeOf124, v41 := Tryd.zeroValue124, t44 := Tryd.underlying179, a44 := Tryd.isAgg179, z44 := Tryd.sizeOf179, v44 := Tryd.zeroValue179, t46 := Tryd.underlying181, a46 := Tryd.isAgg181, z46 := Tryd.sizeOf181, v46 := Tryd.zeroValue181, t53 := Tryd.underlying182, a53 := Tryd.isAgg182, z53 := Tryd.sizeOf182, v53 := Tryd.zeroValue182, t57 := Tryd.underlying186, a57 := Tryd.isAgg186, z57 := Tryd.sizeOf186, v57 := Tryd.zeroValue186, t63 := Tryd.underlying188, a63 := Tryd.isAgg188, z63 := Tryd.sizeOf188, v63 := Tryd.zeroValue188, t64 := Tryd.underlying112, a64 := Tryd.isAgg112, z64 := Tryd.sizeOf112, v64 := Tryd.zeroValue112 }
/-- slices.Sort's two contracts at this program, at the fence that asks nothing. -/
theorem sortsA (m : Nat) : AnyZI.SortsIn Tryd.prog sortedA_ren Fence.wide m :=
  ⟨fun blk off cap ss W hH hblk hsz => callsIn_wide.2 (AnyM.slices_Sort_int sortA blk off cap ss W hH hblk hsz),
   fun p cap W => callsIn_wide.2 (AnyM.slices_Sort_int_none sortA p cap W)⟩
end Go.Proofs.YtmphnhigohkaeaaDoor
/-! Contracts of package view: Dirty. (Part of the proofs over package view.) -/
namespace Go.Proofs.YtmphnhigohkaeaaDoor
open Go.RowKit Go.Maps Go.Sort Go.Shelf
set_option linter.unusedVariables false

/-- The numbers of the dirty pages, rising. -/
def dirtyL (M : List (Nat × List Int)) : List Int := (M.map (fun x => (x.1 : Int))).mergeSort leI
theorem length_dirtyL (M : List (Nat × List Int)) : (dirtyL M).length = M.length := by unfold dirtyL; rw [List.length_mergeSort, List.length_map]
/-- The keys of the map are those of M. -/
theorem VMem.keys {w : World} {bm : Nat} {M : List (Nat × List Int)} {D : DataW Unit} (hown : w.ownsMap Tryd.prog 3 secR bm M.length D) (hnd : (M.map (·.1)).Nodup) (hneg : ∀ z : Int, Maps.has D (.int .i64 z) = true → 0 ≤ z) (hD : ∀ i : Nat, Maps.has D (.int .i64 i) = (M.lookup i).isSome) :
    (M.map (fun x => (x.1 : Int))).Perm (intKeys D) := by
  have hmem : ∀ i : Nat, i ∈ M.map (·.1) ↔ (M.lookup i).isSome = true := fun i => by
    constructor
    · intro hi
      cases hl : M.lookup i with
      | none => exact absurd hi (lookup_none.1 hl)
      | some b => rfl
    · intro hs
      refine Classical.byContradiction fun hc => ?_
      rw [lookup_none.2 hc] at hs
      cases hs
  refine CollectedI.perm (left := fun _ => false) ⟨?_, fun z => ?_⟩ hown (Maps.int_keyed Tryd.underlying3) Tryd.underlying3 (fun _ => rfl)
  · have : M.map (fun x => (x.1 : Int)) = (M.map (·.1)).map (fun i : Nat => (i : Int)) := by rw [List.map_map]; rfl
    rw [this]
    exact List.pairwise_map.2 (hnd.imp (fun hne e => hne (by omega)))
  · constructor
    · intro hz
      obtain ⟨x, hx, rfl⟩ := List.mem_map.1 hz
      refine ⟨?_, rfl⟩
      rw [hD, ← hmem]
      exact List.mem_map.2 ⟨x, hx, rfl⟩
    · rintro ⟨hz, _⟩
      have h0 := hneg z hz
      obtain ⟨i, rfl⟩ : ∃ i : Nat, z = i := ⟨z.toNat, by omega⟩
      rw [hD, ← hmem] at hz
      obtain ⟨x, hx, e⟩ := List.mem_map.1 hz
      exact List.mem_map.2 ⟨x, hx, by rw [e]⟩

section
variable {w : World} {v q gk gm : Nat} {K : List (List Int)} {M : List (Nat × List Int)}
set_option maxHeartbeats 1000000 in
theorem vDirty_any (h : Vw w v q gk gm K M) (hM : M.length ≤ 300) :
    Calls Tryd.prog 27 #[.pointer (some ⟨v, 0, none⟩)] w fun e w' => ∃ dv, e = .returned dv ∧ w'.ownsRow w.heap.size 3 1 dv M.length ((dirtyL M).map encZ) ∧ Below w.heap.size w w' := by
  obtain ⟨D0, hown, hsize, hnd, hneg, hD⟩ := h.mem
  have hperm := VMem.keys hown hnd hneg (fun i => (hD i).1)
  have c2 := h.c2
  have hmax : Maps.size D0 ≤ maxLen := by rw [hsize]; unfold maxLen; omega
  have hbytes : Maps.size D0 * 8 ≤ 140737488355328 := by rw [hsize]; omega
  refine (callsIn_wide (n := 6)).1 ?_
  have hbl := hown.lt
  have hseq : SeqGives Fence.wide 2 Tryd.prog 76 #[.pointer (some ⟨w.heap.size, 0, none⟩)] encZ (fun ss => ss.Perm (intKeys D0)) (Maps.size D0) (w.alloc (.cells #[.map (some gm)] 107)) :=
    AnyZI.keys_gives (ρ := keysA_ren) { keysA with } Fence.wide _ trivial rfl (by omega) w.heap.size gm M.length D0 _ (by simp) (by simp) (by
      obtain ⟨es, clock, hb, Ft, hs, hD⟩ := hown
      exact ⟨es, clock, (Below.heap_alloc _ _ gm hbl).trans hb, Ft, hs, hD⟩)
  have cK : ∀ mb W, CallsIn Fence.wide 5 Tryd.prog 58 #[.map mb] W fun e w' => e = .returned (.func (.func 76) #[] #[.pointer (some ⟨W.heap.size, 0, none⟩)]) ∧ w' = W.alloc (.cells #[.map mb] 107) := fun mb W => AnyZI.keys_in keysA Fence.wide 5 trivial rfl mb W
  have cS := AnyZI.sorted_in sortedA Fence.wide 5 trivial trivial trivial trivial rfl (by omega) (sortsA _) (enters_of Tryd.func75 (by kernel_rfl) rfl) 76 #[.pointer (some ⟨w.heap.size, 0, none⟩)] trivial (enters_of Tryd.func76 (by kernel_rfl) rfl) _ _ hmax hbytes _ hseq
  change CallsIn _ _ Tryd.prog 57 _ _ _ at cS
  have hfK : Fence.wide.fn 58 := trivial
  have hfS : Fence.wide.fn 57 := trivial
  clear hseq hown hD hneg hnd hsize hmax hbytes h
  refine callsIn_of_wp Tryd.func27 rfl trivial ?_ rfl
  simp only [Tryd.ntmps27, List.size_toArray, List.length_cons, List.length_nil, Nat.reduceAdd, Nat.reduceSub, Array.replicate_succ, Array.replicate_zero, List.push_toArray, List.append_toArray, List.nil_append, List.cons_append]
  gi_wp2_with (first
    | (gi_at_call 58; refine (cK _ _).mono ?_; rintro e w' ⟨rfl, rfl⟩)
    | (gi_at_call 57; refine cS.mono ?_; rintro e w' ⟨dv, ss, rfl, hS, hrow, hnil, hb⟩))
  go_ret
  have hsl : ss.length = M.length := by rw [hS.length_eq, ← hperm.length_eq, List.length_map]
  refine ⟨dv, rfl, ?_, ((Below.refl _ w).alloc (Nat.le_refl _) _).trans (hb.mono (by simp))⟩
  have hr := ownsRow_base_a (base' := w.heap.size) hrow (by simp)
  rw [hsl] at hr
  have e : ss.mergeSort (fun x y => decide (x ≤ y)) = dirtyL M := mergeSort_of_perm_i (hS.trans hperm.symm)
  rw [e] at hr
  exact hr
end
end Go.Proofs.YtmphnhigohkaeaaDoor
/-! vaultsame.Ints of two lists that are the same. (Part of the proofs over package view.) -/
namespace Go.Proofs.YtmphnhigohkaeaaDoor
open Go.RowKit
set_option linter.unusedVariables false

theorem ints_nil (a b : Option Addr) (c1 c2 : Nat) (w : World) :
    Calls Tryd.prog 26 #[.slice a 0 c1, .slice b 0 c2] w fun e w' => e = .returned (.bool true) ∧ w = w' := by
  go_enter Tryd.func26, Tryd.ntmps26
  go_wp2_with fail
  go_loop [5] (fun v => v = .int .i64 0) (fun _ => 0)
  case atStart => rfl
  case round =>
    subst hrel
    go_wp2
    go_ret
    exact ⟨rfl, rfl⟩

theorem ints_same (g1 g2 n c1 c2 : Nat) (F : Nat → Int) (w : World) (hn : n ≤ 300) (h1 : ∀ i, i < n → w.cell? ⟨g1, i, none⟩ = some (.int .i64 (F i))) (h2 : ∀ i, i < n → w.cell? ⟨g2, i, none⟩ = some (.int .i64 (F i))) :
    Calls Tryd.prog 26 #[.slice (some ⟨g1, 0, none⟩) n c1, .slice (some ⟨g2, 0, none⟩) n c2] w fun e w' => e = .returned (.bool true) ∧ (∃ m, w' = w.drewN m) := by
  have H1 := hide h1
  have H2 := hide h2
  clear h1 h2
  go_enter Tryd.func26, Tryd.ntmps26
  go_wp2_with fail
  go_loopw [5] (fun v wr => ∃ k m : Nat, k ≤ n ∧ v = .int .i64 k ∧ wr = w.drewN m) (fun v _ => n - (intOf v).toNat)
  case atStart => exact ⟨0, 0, by omega, rfl, rfl⟩
  case round =>
    obtain ⟨k, m, hk, rfl, rfl⟩ := hrel
    by_cases hlt : k < n
    · have q1 := (unhide H1) k hlt
      have q2 := (unhide H2) k hlt
      have f0 : (0 : Int) ≤ (k : Int) := by omega
      have f1 : (k : Int) < (n : Int) := by omega
      go_wp2
      go_quiet (fail)
      go_wp2
      go_roundw
      case rel => exact ⟨k + 1, m + nq, by omega, by go_num, rfl⟩
      case measure => simp [intOf]; omega
    · obtain rfl : k = n := by omega
      go_wp2
      go_ret
      exact ⟨rfl, _, rfl⟩
end Go.Proofs.YtmphnhigohkaeaaDoor
/-! What laws over package view need: each way a Write may go; how many pages are dirty; parts and the whole. (Part of the proofs over package view.) -/
namespace Go.Proofs.YtmphnhigohkaeaaDoor
open Go.RowKit
set_option linter.unusedVariables false

section
variable {w w' : World} {v q gk gm : Nat} {K : List (List Int)} {M M' : List (Nat × List Int)}
theorem Vw.mlen (h : Vw w v q gk gm K M) : M.length ≤ 200 := by
  have := List.Nodup.length_le_of_subset h.mem.nodup (l₂ := List.range K.length) (fun y hy => by
    obtain ⟨p, hp, rfl⟩ := List.mem_map.1 hy
    exact List.mem_range.2 (h.memOk p hp).1)
  have hl := h.len
  simp at this
  omega
theorem OnlyV.refl (g : Nat) (w : World) : OnlyV g w w := Turn.of_below (Below.refl _ _)
theorem OnlyV.of_below {g : Nat} (h : Below w.heap.size w w') : OnlyV g w w' := Turn.of_below h
/-- Another View, whose blocks are none of it. -/
theorem Vw.only (h : Vw w v q gk gm K M) {g : Nat} (ho : OnlyV g w w') (h1 : v ≠ g) (h2 : gk ≠ g) (h3 : gm ≠ g) : Vw w' v q gk gm K M :=
  h.same (ho.block v h.vlt h1) (ho.block gk h.kept.lt h2) (ho.block gm h.mem.lt h3)
theorem vWrite_any (h : Vw w v q gk gm K M) (x : Nat) (a : Option Addr) (cap : Nat) (l : List Int) (hb : Bs w a cap l) (hx : x ≤ 281474976710656) :
    Calls Tryd.prog 24 #[.pointer (some ⟨v, 0, none⟩), .int .i64 (x : Int), .slice a l.length cap] w fun e w' => ∃ (E : Int) (M' : List (Nat × List Int)), e = .returned (errV E) ∧ Vw w' v q gk gm K M' ∧ OnlyV gm w w' ∧
      ((32 * K.length < x + l.length ∧ E = 1 ∧ M' = M) ∨ (x + l.length ≤ 32 * K.length ∧ 23 < M.length + nw M (x / 32) (spanP x l.length) ∧ E = 4 ∧ M' = M) ∨ (x + l.length ≤ 32 * K.length ∧ M.length + nw M (x / 32) (spanP x l.length) ≤ 23 ∧ E = 0 ∧ Wrote K M M' x l l.length)) := by
  have hml := h.mlen
  have hll := hb.2.2.1
  by_cases h1 : 32 * K.length < x + l.length
  · exact (vWrite_no h x a cap l.length (by omega) hll (by omega)).mono fun e w' ⟨he, hw⟩ => ⟨1, M, he, hw ▸ h, hw ▸ OnlyV.refl _ _, .inl ⟨h1, rfl, rfl⟩⟩
  · by_cases h2 : 23 < M.length + nw M (x / 32) (spanP x l.length)
    · exact (vWrite_full h x a cap l.length (by omega) hml h2).mono fun e w' ⟨he, hw⟩ => ⟨4, M, he, h.below hw, OnlyV.of_below hw, .inr (.inl ⟨by omega, h2, rfl, rfl⟩)⟩
    · exact (vWrite_yes h x a cap l hb (by omega) hml (by omega)).mono fun e w' ⟨he, M', hv, hw, ho⟩ => ⟨0, M', he, hv, ho, .inr (.inr ⟨by omega, by omega, rfl, hw⟩)⟩
end

/-! ### how many are dirty -/
theorem nw_filter (M : List (Nat × List Int)) (lo k : Nat) : nw M lo k = ((List.range' lo k).filter (fun p => !(M.lookup p).isSome)).length := by
  induction k with
  | zero => rfl
  | succ k ih =>
    show nw M lo k + _ = _
    rw [List.range'_concat, List.filter_append, List.length_append, ih, Nat.one_mul]
    congr 1
    cases hb : (M.lookup (lo + k)).isSome with
    | true => simp [List.filter, hb]
    | false => simp [List.filter, hb]
theorem lookup_some_mem {M : List (Nat × List Int)} (i : Nat) : i ∈ M.map (·.1) ↔ (M.lookup i).isSome = true := by
  constructor
  · intro hi
    cases hl : M.lookup i with
    | none => exact absurd hi (lookup_none.1 hl)
    | some b => rfl
  · intro hs
    refine Classical.byContradiction fun hc => ?_
    rw [lookup_none.2 hc] at hs
    cases hs
theorem count_le {M : List (Nat × List Int)} {lo k lo2 k2 : Nat} (hnd : (M.map (·.1)).Nodup) (hk : ∀ i, (M.lookup i).isSome = true → lo ≤ i ∧ i < lo + k) (h1 : 0 < k2 → lo ≤ lo2) (h2 : 0 < k2 → lo2 + k2 ≤ lo + k) : M.length + nw M lo2 k2 ≤ k := by
  rw [nw_filter]
  have hn : (M.map (·.1) ++ (List.range' lo2 k2).filter (fun p => !(M.lookup p).isSome)).Nodup := by
    rw [List.nodup_append]
    refine ⟨hnd, List.Pairwise.filter _ (List.nodup_range' ..), fun a ha c hc e => ?_⟩
    subst e
    have h3 := (lookup_some_mem a).1 ha
    have h4 := (List.mem_filter.1 hc).2
    rw [h3] at h4
    cases h4
  have := List.Nodup.length_le_of_subset hn (l₂ := List.range' lo k) (fun y hy => by
    rw [List.mem_range'_1]
    rcases List.mem_append.1 hy with h | h
    · exact hk y ((lookup_some_mem y).1 h)
    · have h5 := List.mem_range'_1.1 (List.mem_filter.1 h).1
      have := h1 (by omega)
      have := h2 (by omega)
      omega)
  simpa using this
theorem nw_nil (lo k : Nat) : nw [] lo k = k := by
  induction k with
  | zero => rfl
  | succ k ih => show nw [] lo k + _ = _; rw [ih]; rfl
theorem dirtyL_eq {M M' : List (Nat × List Int)} (h1 : (M.map (·.1)).Nodup) (h2 : (M'.map (·.1)).Nodup) (h : ∀ i, (M.lookup i).isSome = true ↔ (M'.lookup i).isSome = true) : dirtyL M = dirtyL M' := by
  have hp : (M.map (·.1)).Perm (M'.map (·.1)) := (List.perm_ext_iff_of_nodup h1 h2).2 (fun i => by rw [lookup_some_mem, lookup_some_mem]; exact h i)
  have hm : ∀ M : List (Nat × List Int), M.map (fun x => (x.1 : Int)) = (M.map (·.1)).map (fun i : Nat => (i : Int)) := fun M => by rw [List.map_map]; rfl
  unfold dirtyL
  rw [hm, hm]
  exact mergeSort_of_perm_i (hp.map _)
theorem spanP_mono {x n m : Nat} (h : n ≤ m) : spanP x n ≤ spanP x m := by
  unfold spanP
  by_cases h0 : n = 0
  · rw [if_pos h0]; exact Nat.zero_le _
  · rw [if_neg h0, if_neg (by omega)]; omega
/-- In parts, or at once. -/
theorem wrote_parts {K : List (List Int)} {M M1 M2 M3 : List (Nat × List Int)} {x c : Nat} {l : List Int} (hc : c ≤ l.length) (h1 : Wrote K M M1 x l l.length) (h2 : Wrote K M M2 x (l.take c) (l.take c).length) (h3 : Wrote K M2 M3 (x + c) (l.drop c) (l.drop c).length) :
    (∀ y, byteAt K M1 y = byteAt K M3 y) ∧ ∀ i, (M1.lookup i).isSome = true ↔ (M3.lookup i).isSome = true := by
  have e1 : (l.take c).length = c := by simp; omega
  have e2 : (l.drop c).length = l.length - c := by simp
  refine ⟨fun y => ?_, fun i => ?_⟩
  · rw [h1.byte, h3.byte, h2.byte, e1, e2]
    by_cases a1 : x + c ≤ y ∧ y < x + c + (l.length - c)
    · rw [if_pos a1, if_pos (by omega)]
      simp only [List.getD_eq_getElem?_getD]
      rw [List.getElem?_drop]
      congr 2
      omega
    · rw [if_neg a1]
      by_cases a2 : x ≤ y ∧ y < x + c
      · rw [if_pos a2, if_pos (by omega)]
        simp only [List.getD_eq_getElem?_getD]
        rw [List.getElem?_take, if_pos (by omega)]
      · rw [if_neg a2, if_neg (by omega)]
  · rw [h1.key, h3.key, h2.key, e1, e2]
    have : (x / 32 ≤ i ∧ i < x / 32 + spanP x l.length) ↔ (x / 32 ≤ i ∧ i < x / 32 + spanP x c) ∨ ((x + c) / 32 ≤ i ∧ i < (x + c) / 32 + spanP (x + c) (l.length - c)) := by
      unfold spanP
      split <;> split <;> split <;> omega
    rw [this]
    constructor
    · rintro (h | h | h)
      · exact .inl (.inl h)
      · exact .inl (.inr h)
      · exact .inr h
    · rintro ((h | h) | h)
      · exact .inl h
      · exact .inr (.inl h)
      · exact .inr (.inr h)
theorem vBytes_wrote {K : List (List Int)} {M M1 : List (Nat × List Int)} {x c : Nat} {l : List Int} (hc : c ≤ l.length) (h1 : Wrote K M M1 x l l.length) : vBytes K M1 x c = l.take c := by
  apply List.ext_getElem?
  intro j
  unfold vBytes
  rw [List.getElem?_map, List.getElem?_take]
  by_cases hj : j < c
  · rw [if_pos hj, List.getElem?_range hj]
    simp only [Option.map_some]
    rw [h1.byte, if_pos (by omega), List.getD_eq_getElem?_getD, show x + j - x = j by omega, List.getElem?_eq_getElem (by omega)]
    rfl
  · rw [if_neg hj, List.getElem?_eq_none (by simp; omega)]
    rfl
theorem vBytes_same {K : List (List Int)} {M M' : List (Nat × List Int)} (h : ∀ y, byteAt K M y = byteAt K M' y) (x n : Nat) : vBytes K M x n = vBytes K M' x n := by
  unfold vBytes
  exact List.map_congr_left (fun j _ => h _)
/-- vaultsame.Ints of two rows of the same numbers. -/
theorem ints_rows {w : World} {B1 B2 n : Nat} {d1 d2 : Value} {xs : List Int} (h1 : w.ownsRow B1 3 1 d1 n (xs.map encZ)) (h2 : w.ownsRow B2 3 1 d2 n (xs.map encZ)) (hn : n ≤ 300) :
    ∃ a1 c1 a2 c2, d1 = .slice a1 n c1 ∧ d2 = .slice a2 n c2 ∧ Calls Tryd.prog 26 #[.slice a1 n c1, .slice a2 n c2] w fun e w' => e = .returned (.bool true) ∧ (∃ m, w' = w.drewN m) := by
  have hl : xs.length = n := by have := h1.1; rw [List.length_map] at this; omega
  have hcell : ∀ {g cap : Nat} {cur : Array Value}, w.heap[g]? = some (.cells cur 3 (0, 0)) → cur.toList.take (n * 1) = xs.map encZ → ∀ i, i < n → w.cell? ⟨g, i, none⟩ = some (.int .i64 (xs.getD i 0)) := fun {g cap cur} hb ht i hi => by
    rw [cell_of_row _ _ _ _ _ _ hb]
    have e : (cur.toList.take (n * 1))[i]? = some (.int .i64 (xs.getD i 0)) := by
      rw [ht, List.getElem?_map, List.getElem?_eq_getElem (by omega), List.getD_eq_getElem?_getD, List.getElem?_eq_getElem (by omega)]
      rfl
    rw [List.getElem?_take, if_pos (by omega)] at e
    simpa using e
  rcases h1.2 with ⟨rfl, h0⟩ | ⟨g1, cp1, cur1, rfl, _, hb1, _, _, _, ht1⟩
  · rcases h2.2 with ⟨rfl, _⟩ | ⟨g2, cp2, cur2, rfl, _⟩
    · exact ⟨none, 0, none, 0, by rw [h0], by rw [h0], by rw [h0]; exact (ints_nil _ _ _ _ w).mono fun e w' ⟨he, hw⟩ => ⟨he, 0, hw.symm⟩⟩
    · exact ⟨none, 0, some ⟨g2, 0, none⟩, cp2, by rw [h0], rfl, by rw [h0]; exact (ints_nil _ _ _ _ w).mono fun e w' ⟨he, hw⟩ => ⟨he, 0, hw.symm⟩⟩
  · rcases h2.2 with ⟨rfl, h0⟩ | ⟨g2, cp2, cur2, rfl, _, hb2, _, _, _, ht2⟩
    · exact ⟨some ⟨g1, 0, none⟩, cp1, none, 0, rfl, by rw [h0], by rw [h0]; exact (ints_nil _ _ _ _ w).mono fun e w' ⟨he, hw⟩ => ⟨he, 0, hw.symm⟩⟩
    · exact ⟨some ⟨g1, 0, none⟩, cp1, some ⟨g2, 0, none⟩, cp2, rfl, rfl, ints_same g1 g2 n cp1 cp2 (fun i => xs.getD i 0) w hn (hcell (cap := cp1) hb1 ht1) (hcell (cap := cp2) hb2 ht2)⟩
theorem bytes_strV {w : World} {a : Option Addr} {cap : Nat} {l : List Int} (hb : Bs w a cap l) (k : Nat) : (convert 41 9 (.slice a l.length cap)).run Tryd.prog (w.drewN k) = .ok (.string (strOf l)) (w.drewN k) :=
  conv_str (P := Tryd.prog) (t := 41) (e := 9) Tryd.underlying41 Tryd.underlying5 Tryd.underlying9 (bs_drewN hb k)
theorem blk_bsV {w : World} {g : Nat} {l : List Int} (h : Blk w g l) (hb : Byt l) (hl : l.length ≤ 140737488351232) : Bs w (some ⟨g, 0, none⟩) l.length l := by
  have := RowT.bs (t := 5) h hb hl 0 l.length l.length (by omega) (Nat.le_refl _)
  rwa [List.drop_zero, List.take_length] at this
end Go.Proofs.YtmphnhigohkaeaaDoor
