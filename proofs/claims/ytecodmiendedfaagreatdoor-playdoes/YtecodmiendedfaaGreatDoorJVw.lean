/-
  Parts of the proofs, joined by program.
-/
import Derived.Test.YtecodmiendedfaaGreatDoorJPh
import Derived.Test.YtecodmiendedfaaGreatDoorJNum
import Derived.Test.YtecodmiendedfaaGreatDoorJDev
import Derived.Deep.MidRow
import Derived.Deep.RegionLaw
import Derived.Deep.RegionHeld3
import Derived.Test.YtecodmiendedfaaGreatDoorJPg
namespace Go.Proofs.YtecodmiendedfaaGreatDoor
open Go.RowKit Go.MapKept Go.ChangeMaps
open Go.Maps (Keyed)
set_option linter.unusedVariables false
def VMem (w : World) (bm : Nat) (M : List (Nat × List Int)) : Prop :=
 ∃ D, w.ownsMap Tryz.prog 3 secR bm M.length D /\ Maps.size D = M.length /\ (M.map (·.1)).Nodup /\ (∀ z : Int, Maps.has D (.int .i64 z) = true -> 0 <= z) /\
  ∀ i : Nat, Maps.has D (.int .i64 i) = (M.lookup i).isSome /\ ∀ b, M.lookup i = some b -> D.atKey (.int .i64 i) (sd (zerosB 32)) = sd b
section
variable {w w' : World} {bm : Nat} {M : List (Nat × List Int)}
theorem VMem.memAt (h : VMem w bm M) : MemAt Tryz.prog 3 w bm M := by
 obtain ⟨D, h1, _, _, _, h2⟩ := h
 exact ⟨D, h1, h2⟩
theorem VMem.lt (h : VMem w bm M) : bm < w.heap.size := h.memAt.lt
theorem VMem.same (h : VMem w bm M) (hs : w'.heap[bm]? = w.heap[bm]?) : VMem w' bm M := by
 obtain ⟨D, ⟨es, clock, hb, r⟩, h2⟩ := h
 exact ⟨D, ⟨es, clock, hs.trans hb, r⟩, h2⟩
theorem VMem.made (w : World) : VMem (w.alloc (.map #[] 0)) w.heap.size [] :=
 ⟨.map [], World.ownsMap_made w _ _ _, rfl, List.nodup_nil, fun z hz => (by cases hz), fun i => ⟨rfl, fun b hb => by cases hb⟩⟩
theorem info_body : (Tryz.prog.info? 219).map (fun i => (i.zero, i.size)) = some (some (sv (zerosB 32)), 32) := by kernel_rfl
theorem size_body : (Tryz.prog.info? 219).map (·.size) = some 32 := by kernel_rfl
theorem zero_body (w : World) : (zeroValue 219).run Tryz.prog w = .ok (sv (zerosB 32)) w := (zero_of_info info_body).1 w
theorem VMem.look (h : VMem w bm M) {i : Nat} (hi : i < 300) :
  (Instr.lookup 220 (.map (some bm)) (.int .i64 i) true).run Tryz.prog w = .ok (.tuple #[sv (memV M i), .bool (M.lookup i).isSome]) w := by
 have := h.memAt.look (E := 219) Tryz.underlying3 Tryz.underlying220 (zero_body w) true (i := i) hi
 simpa using this
end
end Go.Proofs.YtecodmiendedfaaGreatDoor
namespace Go.Proofs.YtecodmiendedfaaGreatDoor
open Go.RowKit
set_option linter.unusedVariables false
structure Vw (w : World) (v q gk gm : Nat) (K : List (List Int)) (M : List (Nat × List Int)) : Prop where
 blk : w.heap[v]? = some (.cells #[.pointer (some ⟨q, 0, none⟩), .slice (some ⟨gk, 0, none⟩) K.length K.length, .map (some gm)] 222 (0, 0))
 kept : RowT w gk 219 K.flatten
 sec : ∀ s ∈ K, Sec s
 len : K.length <= 200
 mem : VMem w gm M
 memOk : ∀ x ∈ M, x.1 < K.length /\ Sec x.2
 nvk : v ≠ gk
 nvm : v ≠ gm
 nkm : gk ≠ gm
def vRd (K : List (List Int)) (M : List (Nat × List Int)) (i : Nat) : List Int := (M.lookup i).getD (K.getD i [])
section
variable {w w' : World} {v q gk gm : Nat} {K : List (List Int)} {M : List (Nat × List Int)}
theorem Vw.c1 (h : Vw w v q gk gm K M) : w.cell? ⟨v, 1, none⟩ = some (.slice (some ⟨gk, 0, none⟩) K.length K.length) := by rw [cell_of_row w v 1 _ _ (0, 0) h.blk]; rfl
theorem Vw.c2 (h : Vw w v q gk gm K M) : w.cell? ⟨v, 2, none⟩ = some (.map (some gm)) := by rw [cell_of_row w v 2 _ _ (0, 0) h.blk]; rfl
theorem Vw.vlt (h : Vw w v q gk gm K M) : v < w.heap.size := (Array.getElem?_eq_some_iff.1 h.blk).1
theorem Vw.same (h : Vw w v q gk gm K M) (e1 : w'.heap[v]? = w.heap[v]?) (e2 : w'.heap[gk]? = w.heap[gk]?) (e3 : w'.heap[gm]? = w.heap[gm]?) : Vw w' v q gk gm K M :=
 ⟨e1.trans h.blk, h.kept.same e2, h.sec, h.len, h.mem.same e3, h.memOk, h.nvk, h.nvm, h.nkm⟩
theorem Vw.below (h : Vw w v q gk gm K M) (hb : Below w.heap.size w w') : Vw w' v q gk gm K M :=
 h.same (hb.block v h.vlt) (hb.block gk h.kept.lt) (hb.block gm h.mem.lt)
theorem Vw.secs32 (h : Vw w v q gk gm K M) : ∀ s ∈ K, s.length = 32 := fun s hs => (h.sec s hs).1
theorem Vw.rdSec (h : Vw w v q gk gm K M) {i : Nat} (hi : i < K.length) : Sec (vRd K M i) := by
 unfold vRd
 cases e : M.lookup i with
 | none => exact sec_getD h.sec hi
 | some b => exact (h.memOk _ (lookup_mem e)).2
theorem vLen_any (h : Vw w v q gk gm K M) :
  Calls Tryz.prog 96 #[.pointer (some ⟨v, 0, none⟩)] w fun e w' => e = .returned (.int .i64 ((32 * K.length : Nat) : Int)) /\ w = w' := by
 have c1 := h.c1
 have hl := h.len
 clear h
 generalize K.length = L at *
 go_enter Tryz.func96, Tryz.ntmps96
 go_wp2
 go_ret
 exact ⟨by rw [show ((32 * L : Nat) : Int) = (L : Int) * 32 by omega]; first | rfl | go_num, rfl⟩
theorem vPlace_any (x : Nat) (w : World) (hx : x <= 1000000) :
  Calls Tryz.prog 136 #[.int .i64 (x : Int)] w fun e w' => e = .returned (.tuple #[.int .i64 ((x / 32 : Nat) : Int), .int .i64 ((x % 32 : Nat) : Int)]) /\ w = w' := by
 have h1 : (x : Int).tdiv 32 = ((x / 32 : Nat) : Int) := by
  rw [Int.tdiv_eq_ediv_of_nonneg (by omega)]; omega
 have h2 : (x : Int).tmod 32 = ((x % 32 : Nat) : Int) := by
  rw [Int.tmod_eq_emod_of_nonneg (by omega)]; omega
 go_enter Tryz.func136, Tryz.ntmps136
 go_wp2
 go_ret2
 exact ⟨by first | rfl | (congr 4 <;> omega) | (simp; omega), rfl⟩
theorem vHas_any (h : Vw w v q gk gm K M) (x n : Int) (hx : x <= 9223372036854775807) (hn : n <= 9223372036854775807) :
  Calls Tryz.prog 135 #[.pointer (some ⟨v, 0, none⟩), .int .i64 x, .int .i64 n] w fun e w' => e = .returned (.bool (decide (0 <= x /\ 0 <= n /\ n <= (32 * K.length : Nat) - x))) /\ w = w' := by
 have HL := hide (vLen_any h)
 have hl := h.len
 clear h
 generalize hLL : 32 * K.length = L at *
 have hL2 : (L : Int) <= 6400 := by omega
 have hL3 : (0 : Int) <= (L : Int) := by omega
 clear hLL hl
 by_cases h0 : 0 <= x
 ·by_cases h1 : 0 <= n
  ·by_cases h2 : n <= (L : Int) - x
   ·rw [decide_eq_true ⟨h0, h1, h2⟩]
    go_enter Tryz.func135, Tryz.ntmps135
    go_wp2_with fail
    refine (unhide HL).mono ?_
    rintro e w1 ⟨rfl, rfl⟩
    go_wp2
    go_ret
    exact ⟨rfl, rfl⟩
   ·rw [decide_eq_false (fun hh => h2 hh.2.2)]
    go_enter Tryz.func135, Tryz.ntmps135
    go_wp2_with fail
    refine (unhide HL).mono ?_
    rintro e w1 ⟨rfl, rfl⟩
    go_wp2
    go_ret
    exact ⟨by show Ending.returned (Value.bool (decide (n <= (L : Int) - x))) = _; rw [decide_eq_false (by omega)], rfl⟩
  ·rw [decide_eq_false (fun hh => h1 hh.2.1)]
   go_enter Tryz.func135, Tryz.ntmps135
   go_wp2
   go_ret
   exact ⟨rfl, rfl⟩
 ·rw [decide_eq_false (fun hh => h0 hh.1)]
  go_enter Tryz.func135, Tryz.ntmps135
  go_wp2
  go_ret
  exact ⟨rfl, rfl⟩
end
section
variable {w w' : World} {v q gk gm : Nat} {K : List (List Int)} {M : List (Nat × List Int)}
theorem store_row {w : World} {g : Nat} {z l : List Int} (hg : RowT w g 219 z) (hz : z.length = 32) (hl : l.length = 32) :
  (storeCells ⟨g, 0, none⟩ (cellsB l).toList 0).run Tryz.prog w = .ok () (rowW w g l) := by
 have hi : (Tryz.prog.info? 219).map (·.size) = some (cellsB l).size := by rw [size_cellsB, hl]; exact size_body
 have := run_storeVar_row (P := Tryz.prog) w g 219 219 (cellsB z) (cellsB l) hg hi (by rw [size_cellsB, size_cellsB, hz, hl]) (all_oneCell l)
 cases hq : Tryz.prog.info? 219 with
 | none => simp [hq] at hi
 | some i =>
  have hs : (cellsB l).size = i.size := by simp [hq] at hi; omega
  show _ = Result.ok () (w.setRow g (cellsB l))
  simpa [storeVar, sizeOf, typeInfo, hq, Value.cells, hs] using this
def two (w : World) (x y : List Int) : World := (w.alloc (.cells (cellsB x) 219)).alloc (.cells (cellsB y) 219)
theorem two_below (w : World) (x y : List Int) : Below w.heap.size w (two w x y) := ((Below.refl _ _).alloc (Nat.le_refl _) _).alloc (by simp) _
theorem two_fst (w : World) (x y : List Int) : RowT (two w x y) w.heap.size 219 x := by
 have h1 : RowT (w.alloc (.cells (cellsB x) 219)) w.heap.size 219 x := heap_alloc_new _ _
 exact h1.same (heap_alloc_old _ _ (by simp))
theorem two_snd (w : World) (x y : List Int) : RowT (two w x y) (w.heap.size + 1) 219 y := by
 have := heap_alloc_new (w.alloc (.cells (cellsB x) 219)) (.cells (cellsB y) 219)
 rw [size_alloc] at this
 exact this
set_option maxRecDepth 100000 in
theorem vBody_dirty (h : Vw w v q gk gm K M) (i : Nat) (hi : i < K.length) (b : List Int) (hb : M.lookup i = some b) :
  Calls Tryz.prog 137 #[.pointer (some ⟨v, 0, none⟩), .int .i64 i] w fun e w' => e = .returned (sv b) /\ Below w.heap.size w w' := by
 have hL := h.len
 have hbl : b.length = 32 := (h.memOk _ (lookup_mem hb)).2.1
 have hA := h.below (w' := w.alloc (.cells #[.int .u8 0, .int .u8 0, .int .u8 0, .int .u8 0, .int .u8 0, .int .u8 0, .int .u8 0, .int .u8 0, .int .u8 0, .int .u8 0, .int .u8 0, .int .u8 0, .int .u8 0, .int .u8 0, .int .u8 0, .int .u8 0, .int .u8 0, .int .u8 0, .int .u8 0, .int .u8 0, .int .u8 0, .int .u8 0, .int .u8 0, .int .u8 0, .int .u8 0, .int .u8 0, .int .u8 0, .int .u8 0, .int .u8 0, .int .u8 0, .int .u8 0, .int .u8 0] 219)) ((Below.refl _ _).alloc (Nat.le_refl _) _)
 have hlook := hA.mem.look (i := i) (by omega)
 have hmv : memV M i = b := by unfold memV; rw [hb]; rfl
 rw [hmv, hb] at hlook
 simp only [Option.isSome_some] at hlook
 unfold sv at hlook
 have c2 := hA.c2
 have hsz : (cellsB b).size = 32 := by rw [size_cellsB]; exact hbl
 have hst : (storeCells ⟨w.heap.size + 1, 0, none⟩ (cellsB b).toList 0).run Tryz.prog ((w.alloc (.cells #[.int .u8 0, .int .u8 0, .int .u8 0, .int .u8 0, .int .u8 0, .int .u8 0, .int .u8 0, .int .u8 0, .int .u8 0, .int .u8 0, .int .u8 0, .int .u8 0, .int .u8 0, .int .u8 0, .int .u8 0, .int .u8 0, .int .u8 0, .int .u8 0, .int .u8 0, .int .u8 0, .int .u8 0, .int .u8 0, .int .u8 0, .int .u8 0, .int .u8 0, .int .u8 0, .int .u8 0, .int .u8 0, .int .u8 0, .int .u8 0, .int .u8 0, .int .u8 0] 219)).alloc (.cells #[.int .u8 0, .int .u8 0, .int .u8 0, .int .u8 0, .int .u8 0, .int .u8 0, .int .u8 0, .int .u8 0, .int .u8 0, .int .u8 0, .int .u8 0, .int .u8 0, .int .u8 0, .int .u8 0, .int .u8 0, .int .u8 0, .int .u8 0, .int .u8 0, .int .u8 0, .int .u8 0, .int .u8 0, .int .u8 0, .int .u8 0, .int .u8 0, .int .u8 0, .int .u8 0, .int .u8 0, .int .u8 0, .int .u8 0, .int .u8 0, .int .u8 0, .int .u8 0] 219)) = .ok () (two w (zerosB 32) b) := by
  have := run_storeCells_new (P := Tryz.prog) (w.alloc (.cells #[.int .u8 0, .int .u8 0, .int .u8 0, .int .u8 0, .int .u8 0, .int .u8 0, .int .u8 0, .int .u8 0, .int .u8 0, .int .u8 0, .int .u8 0, .int .u8 0, .int .u8 0, .int .u8 0, .int .u8 0, .int .u8 0, .int .u8 0, .int .u8 0, .int .u8 0, .int .u8 0, .int .u8 0, .int .u8 0, .int .u8 0, .int .u8 0, .int .u8 0, .int .u8 0, .int .u8 0, .int .u8 0, .int .u8 0, .int .u8 0, .int .u8 0, .int .u8 0] 219)) 219 #[.int .u8 0, .int .u8 0, .int .u8 0, .int .u8 0, .int .u8 0, .int .u8 0, .int .u8 0, .int .u8 0, .int .u8 0, .int .u8 0, .int .u8 0, .int .u8 0, .int .u8 0, .int .u8 0, .int .u8 0, .int .u8 0, .int .u8 0, .int .u8 0, .int .u8 0, .int .u8 0, .int .u8 0, .int .u8 0, .int .u8 0, .int .u8 0, .int .u8 0, .int .u8 0, .int .u8 0, .int .u8 0, .int .u8 0, .int .u8 0, .int .u8 0, .int .u8 0] (cellsB b) (by rw [hsz]; exact size_body) (by rw [hsz]; rfl) (all_oneCell b)
  rw [size_alloc] at this
  exact this
 have HS := hide (two_snd w (zerosB 32) b)
 have hst2 := store_row (two_fst w (zerosB 32) b) (length_zerosB 32) hbl
 have HR := hide ((two_fst w (zerosB 32) b).set b)
 have HBEL := hide (rowW_below b (two_below w (zerosB 32) b) (Nat.le_refl _))
 clear h hb hA hmv
 generalize two w (zerosB 32) b = W2 at *
 go_enter Tryz.func137, Tryz.ntmps137
 go_wp2_with (refine wpList_load_row rfl 219 (.tmp 5) rfl (w.heap.size + 1) rfl 219 (cellsB b) (0, 0) _ (unhide HS) Tryz.underlying219 rfl (by rw [hsz]; exact size_body) ?_)
 refine bodyPost_ret (v := sv b) (results_cell_row rfl _ _ w.heap.size 219 (cellsB b) (0, 0) _ rfl (unhide HR) Tryz.underlying219 rfl (by rw [hsz]; exact size_body)) rfl ⟨rfl, unhide HBEL⟩
set_option maxRecDepth 100000 in
theorem vBody_kept (h : Vw w v q gk gm K M) (i : Nat) (hi : i < K.length) (hb : M.lookup i = none) :
  Calls Tryz.prog 137 #[.pointer (some ⟨v, 0, none⟩), .int .i64 i] w fun e w' => e = .returned (sv (K.getD i [])) /\ Below w.heap.size w w' := by
 have hL := h.len
 obtain ⟨b, hcd⟩ : ∃ b, K.getD i [] = b := ⟨_, rfl⟩
 have hbs : Sec b := by rw [<- hcd]; exact sec_getD h.sec hi
 have hbl := hbs.1
 have hA := h.below (w' := w.alloc (.cells #[.int .u8 0, .int .u8 0, .int .u8 0, .int .u8 0, .int .u8 0, .int .u8 0, .int .u8 0, .int .u8 0, .int .u8 0, .int .u8 0, .int .u8 0, .int .u8 0, .int .u8 0, .int .u8 0, .int .u8 0, .int .u8 0, .int .u8 0, .int .u8 0, .int .u8 0, .int .u8 0, .int .u8 0, .int .u8 0, .int .u8 0, .int .u8 0, .int .u8 0, .int .u8 0, .int .u8 0, .int .u8 0, .int .u8 0, .int .u8 0, .int .u8 0, .int .u8 0] 219)) ((Below.refl _ _).alloc (Nat.le_refl _) _)
 have hlook := hA.mem.look (i := i) (by omega)
 have hmv : memV M i = zerosB 32 := by unfold memV; rw [hb]; rfl
 rw [hmv, hb] at hlook
 simp only [Option.isSome_none] at hlook
 unfold sv at hlook
 have c2 := hA.c2
 have hsz : (cellsB b).size = 32 := by rw [size_cellsB]; exact hbl
 have hsz0 : (cellsB (zerosB 32)).size = 32 := by rw [size_cellsB]; exact length_zerosB 32
 have hst : (storeCells ⟨w.heap.size + 1, 0, none⟩ (cellsB (zerosB 32)).toList 0).run Tryz.prog ((w.alloc (.cells #[.int .u8 0, .int .u8 0, .int .u8 0, .int .u8 0, .int .u8 0, .int .u8 0, .int .u8 0, .int .u8 0, .int .u8 0, .int .u8 0, .int .u8 0, .int .u8 0, .int .u8 0, .int .u8 0, .int .u8 0, .int .u8 0, .int .u8 0, .int .u8 0, .int .u8 0, .int .u8 0, .int .u8 0, .int .u8 0, .int .u8 0, .int .u8 0, .int .u8 0, .int .u8 0, .int .u8 0, .int .u8 0, .int .u8 0, .int .u8 0, .int .u8 0, .int .u8 0] 219)).alloc (.cells #[.int .u8 0, .int .u8 0, .int .u8 0, .int .u8 0, .int .u8 0, .int .u8 0, .int .u8 0, .int .u8 0, .int .u8 0, .int .u8 0, .int .u8 0, .int .u8 0, .int .u8 0, .int .u8 0, .int .u8 0, .int .u8 0, .int .u8 0, .int .u8 0, .int .u8 0, .int .u8 0, .int .u8 0, .int .u8 0, .int .u8 0, .int .u8 0, .int .u8 0, .int .u8 0, .int .u8 0, .int .u8 0, .int .u8 0, .int .u8 0, .int .u8 0, .int .u8 0] 219)) = .ok () (two w (zerosB 32) (zerosB 32)) := by
  have := run_storeCells_new (P := Tryz.prog) (w.alloc (.cells #[.int .u8 0, .int .u8 0, .int .u8 0, .int .u8 0, .int .u8 0, .int .u8 0, .int .u8 0, .int .u8 0, .int .u8 0, .int .u8 0, .int .u8 0, .int .u8 0, .int .u8 0, .int .u8 0, .int .u8 0, .int .u8 0, .int .u8 0, .int .u8 0, .int .u8 0, .int .u8 0, .int .u8 0, .int .u8 0, .int .u8 0, .int .u8 0, .int .u8 0, .int .u8 0, .int .u8 0, .int .u8 0, .int .u8 0, .int .u8 0, .int .u8 0, .int .u8 0] 219)) 219 #[.int .u8 0, .int .u8 0, .int .u8 0, .int .u8 0, .int .u8 0, .int .u8 0, .int .u8 0, .int .u8 0, .int .u8 0, .int .u8 0, .int .u8 0, .int .u8 0, .int .u8 0, .int .u8 0, .int .u8 0, .int .u8 0, .int .u8 0, .int .u8 0, .int .u8 0, .int .u8 0, .int .u8 0, .int .u8 0, .int .u8 0, .int .u8 0, .int .u8 0, .int .u8 0, .int .u8 0, .int .u8 0, .int .u8 0, .int .u8 0, .int .u8 0, .int .u8 0] (cellsB (zerosB 32)) (by rw [hsz0]; exact size_body) (by rw [hsz0]; rfl) (all_oneCell (zerosB 32))
  rw [size_alloc] at this
  exact this
 have h2 := h.below (two_below w (zerosB 32) (zerosB 32))
 have c1 := h2.c1
 have hrg : (two w (zerosB 32) (zerosB 32)).rangeAt gk (i * 32) (b.map (Value.int .u8)) := range_mid (i * 32) b hbl h2.kept (by rw [flat_part _ _ h.secs32 hi, hcd])
 have hu := Tryz.underlying219
 have hin : (Tryz.prog.info? 219).map (·.size) = some (b.map (Value.int .u8)).length := by rw [List.length_map, hbl]; exact size_body
 have hst2 : (storeCells ⟨w.heap.size, 0, none⟩ (b.map (Value.int .u8)) 0).run Tryz.prog (two w (zerosB 32) (zerosB 32)) = _ := store_row (two_fst w (zerosB 32) (zerosB 32)) (length_zerosB 32) hbl
 have HR := hide ((two_fst w (zerosB 32) (zerosB 32)).set b)
 have HBEL := hide (rowW_below b (two_below w (zerosB 32) (zerosB 32)) (Nat.le_refl _))
 rw [hcd]
 have e0 : (i : Int) < (K.length : Int) := by omega
 have e1 : (0 : Int) <= (i : Int) := by omega
 clear h hb hA hmv h2 hcd hbs
 generalize cellsB (zerosB 32) = Z at *
 generalize two w (zerosB 32) (zerosB 32) = W2 at *
 go_enter Tryz.func137, Tryz.ntmps137
 go_wp2_with (refine wpList_load_mid rfl 219 (.tmp 23) rfl gk (i * 32) rfl (b.map (Value.int .u8)) _ hrg hu rfl hin ?_)
 refine bodyPost_ret (v := sv b) (results_cell_row rfl _ _ w.heap.size 219 (cellsB b) (0, 0) _ rfl (unhide HR) Tryz.underlying219 rfl (by rw [hsz]; exact size_body)) rfl ⟨rfl, unhide HBEL⟩
theorem vBody_any (h : Vw w v q gk gm K M) (i : Nat) (hi : i < K.length) :
  Calls Tryz.prog 137 #[.pointer (some ⟨v, 0, none⟩), .int .i64 i] w fun e w' => e = .returned (sv (vRd K M i)) /\ Below w.heap.size w w' := by
 unfold vRd
 cases hc : M.lookup i with
 | none => exact vBody_kept h i hi hc
 | some b => exact vBody_dirty h i hi b hc
end
theorem run_copy_min {P : Program} (w : World) (dT sT ty : TypeId) (hu : P.underlying dT = some (.slice 5)) (hsz : (P.info? 5).map (·.size) = some 1)
  {g t off dLen dCap : Nat} {sp : Option Addr} {sCap : Nat} {z l : List Int} (hne : l ≠ []) (hz : off + dLen <= z.length) (hg : RowT w g t z) (hb : Bs w sp sCap l) :
  (Builtin.copy_ #[dT, sT] ty #[.slice (some ⟨g, off, none⟩) dLen dCap, .slice sp l.length sCap]).run P w = .ok (.int .i64 ((min dLen l.length : Nat) : Int)) (rowW w g (splice z off (l.take dLen))) := by
 obtain ⟨b, o2, rfl, hc⟩ := hb.2.2.2.2 hne
 have hrun := run_copy_row (P := P) w dT sT ty 5 g off dLen dCap ⟨b, o2, none⟩ l.length sCap _ t ((l.take dLen).map (Value.int .u8)) hu hsz hg (by simp; exact Nat.min_comm _ _) ?_ (by simp [cellsB]; omega) (oneCell_u8 _)
 ·rw [hrun]
  simp [goInt, rowW, splice, cellsB]
 ·intro j v hj
  have hjl : j < (l.take dLen).length := by
   rcases Nat.lt_or_ge j (l.take dLen).length with h1 | h1
   ·exact h1
   ·rw [List.getElem?_eq_none (by simpa using h1)] at hj; cases hj
  have hj2 : j < l.length /\ j < dLen := by simp at hjl; omega
  have := hc j hj2.1
  rw [List.getElem?_map, List.getElem?_take, if_pos hj2.2, List.getElem?_eq_getElem hj2.1] at hj
  simp only [Option.map_some, Option.some.injEq] at hj
  subst hj
  rw [addr_add, this, List.getD_eq_getElem?_getD, List.getElem?_eq_getElem hj2.1]
  rfl
theorem cut_from {P : Program} {t : TypeId} (hu : P.underlying t = some (.slice 5)) (hsz : (P.info? 5).map (·.size) = some 1) (g c n : Nat) (h : c < n) (hn : n <= 140737488351232) (w' : World) :
  (Instr.slice t (.slice (some ⟨g, 0, none⟩) n n) (some (.int .i64 c)) none none).run P w' = .ok (.slice (some ⟨g, c, none⟩) (n - c) (n - c)) w' := by
 have he := elem_u8 hu
 rw [run_slice_l (P := P) (w := w') t (some ⟨g, 0, none⟩) n n (by rw [he]; exact hu) .i64 c (by omega) (by omega), he, run_size_u8 w' hsz]
 simp only [Result.andThen, sliced, Addr.add]
 simp
 split <;> simp <;> omega
theorem splice_tail (a l : List Int) (k : Nat) (h : l.length <= k) : splice (a ++ zerosB k) a.length l = (a ++ l) ++ zerosB (k - l.length) := by
 unfold splice
 rw [List.take_left, List.append_assoc]
 congr 2
 rw [List.drop_append, List.drop_of_length_le (by omega), List.nil_append]
 unfold zerosB
 rw [List.drop_replicate]
 congr 1
 omega
def byteAt (K : List (List Int)) (M : List (Nat × List Int)) (x : Nat) : Int := (vRd K M (x / 32)).getD (x % 32) 0
def vBytes (K : List (List Int)) (M : List (Nat × List Int)) (x n : Nat) : List Int := (List.range n).map (fun j => byteAt K M (x + j))
theorem length_vBytes (K : List (List Int)) (M : List (Nat × List Int)) (x n : Nat) : (vBytes K M x n).length = n := by unfold vBytes; simp
theorem vBytes_add (K : List (List Int)) (M : List (Nat × List Int)) (x n m : Nat) : vBytes K M x (n + m) = vBytes K M x n ++ vBytes K M (x + n) m := by
 unfold vBytes
 rw [List.range_add, List.map_append, List.map_map]
 congr 1
 apply List.map_congr_left
 intro j _
 show byteAt K M (x + (n + j)) = byteAt K M (x + n + j)
 rw [Nat.add_assoc]
theorem vBytes_page {K : List (List Int)} {M : List (Nat × List Int)} {y c : Nat} (hl : (vRd K M (y / 32)).length = 32) (hc : c <= 32 - y % 32) : ((vRd K M (y / 32)).drop (y % 32)).take c = vBytes K M y c := by
 apply List.ext_getElem?
 intro j
 unfold vBytes
 rw [List.getElem?_map, List.getElem?_take]
 by_cases hj : j < c
 ·rw [if_pos hj, List.getElem?_range hj, List.getElem?_drop]
  simp only [Option.map_some]
  unfold byteAt
  have e1 : (y + j) / 32 = y / 32 := by omega
  have e2 : (y + j) % 32 = y % 32 + j := by omega
  rw [e1, e2, List.getD_eq_getElem?_getD, List.getElem?_eq_getElem (by omega)]
  rfl
 ·rw [if_neg hj, List.getElem?_eq_none (by simp; omega)]
  rfl
section
variable {w w' : World} {v q gk gm : Nat} {K : List (List Int)} {M : List (Nat × List Int)}
set_option maxRecDepth 100000 in
set_option maxHeartbeats 4000000 in
theorem vRead_yes (h : Vw w v q gk gm K M) (x n : Nat) (hx : x + n <= 32 * K.length) :
  Calls Tryz.prog 95 #[.pointer (some ⟨v, 0, none⟩), .int .i64 (x : Int), .int .i64 (n : Int)] w fun e w' => ∃ g, e = .returned (.tuple #[.slice (some ⟨g, 0, none⟩) n n, .nilIface]) /\ w.heap.size <= g /\ Blk w' g (vBytes K M x n) /\ Below w.heap.size w w' := by
 have hL := h.len
 have hh := vHas_any h x n (by omega) (by omega)
 rw [decide_eq_true (by omega)] at hh
 have HH := hide hh
 have H := hide h
 obtain ⟨i0, hi0, hz0, hz1, hz2⟩ := info_parts info_u8
 clear h hh
 have hn6 : n <= 6400 := by omega
 go_enter Tryz.func95, Tryz.ntmps95
 go_wp2_with fail
 refine (unhide HH).mono ?_
 rintro e w1 ⟨rfl, rfl⟩
 go_wp2_with (at_make; refine wpList_make_u8 rfl _ _ 31 rfl i0 Tryz.underlying31 hi0 hz0 hz1 hz2 _ _ _ _ n rfl rfl rfl rfl (by omega) ?_)
 intro w1 hk1 hs1 hb1
 have HK1 := hide hk1
 have HB1 := hide hb1
 clear hk1 hb1 HH
 go_wp2_with fail
 go_loopw [9] (fun u wr => ∃ d : Nat, d <= n /\ u = .int .i64 d /\ Blk wr w.heap.size (vBytes K M x d ++ zerosB (n - d)) /\ Below w.heap.size w wr) (fun u _ => n - (intOf u).toNat)
 case atStart => exact ⟨0, Nat.zero_le _, rfl, unhide HK1, unhide HB1⟩
 case round =>
  obtain ⟨d, hd, rfl, hblk, hbel⟩ := hrel
  clear HK1 HB1
  by_cases hlt : d < n
  ·have hv := (unhide H).below hbel
   have hpl := vPlace_any (x + d) wr (by omega)
   rw [show ((x + d : Nat) : Int) = (x : Int) + (d : Int) by omega] at hpl
   have hbo := vBody_any hv ((x + d) / 32) (by omega)
   have hsec := hv.rdSec (i := (x + d) / 32) (by omega)
   have hfr : (x + d) % 32 < 32 := Nat.mod_lt _ (by omega)
   obtain ⟨c, hc⟩ : ∃ c, min (n - d) (32 - (x + d) % 32) = c := ⟨_, rfl⟩
   have hc1 : 0 < c /\ c <= n - d /\ c <= 32 - (x + d) % 32 := by omega
   have hpage := vBytes_page (K := K) (M := M) (y := x + d) (c := c) hsec.1 (by omega)
   have hadd := vBytes_add K M x d c
   have htk : ((vRd K M ((x + d) / 32)).drop ((x + d) % 32)).take (n - d) = ((vRd K M ((x + d) / 32)).drop ((x + d) % 32)).take c := by
    rcases Nat.le_total (n - d) (32 - (x + d) % 32) with h1 | h1
    ·rw [show c = n - d by omega]
    ·rw [show c = 32 - (x + d) % 32 by omega, List.take_of_length_le (by simp [hsec.1]; omega), List.take_of_length_le (by simp [hsec.1])]
   rw [hpage] at htk
   generalize hpg : (x + d) / 32 = pg at *
   generalize hfm : (x + d) % 32 = fr at *
   generalize hpb : vRd K M pg = pb at *
   unfold sv at hbo
   have HPL := hide hpl
   have HBO := hide hbo
   have HBLK := hide hblk
   have HBEL := hide hbel
   clear hv hpl hbo hblk hbel hpage
   go_wp2_with fail
   refine (unhide HPL).mono ?_
   rintro e w2 ⟨rfl, rfl⟩
   go_wp2_with fail
   refine (unhide HBO).mono ?_
   rintro e w2 ⟨rfl, hb2⟩
   have hst : (storeCells ⟨w2.heap.size, 0, none⟩ (cellsB pb).toList 0).run Tryz.prog (w2.alloc (.cells #[.int .u8 0, .int .u8 0, .int .u8 0, .int .u8 0, .int .u8 0, .int .u8 0, .int .u8 0, .int .u8 0, .int .u8 0, .int .u8 0, .int .u8 0, .int .u8 0, .int .u8 0, .int .u8 0, .int .u8 0, .int .u8 0, .int .u8 0, .int .u8 0, .int .u8 0, .int .u8 0, .int .u8 0, .int .u8 0, .int .u8 0, .int .u8 0, .int .u8 0, .int .u8 0, .int .u8 0, .int .u8 0, .int .u8 0, .int .u8 0, .int .u8 0, .int .u8 0] 219)) = .ok () (w2.alloc (.cells (cellsB pb) 219)) :=
    run_storeCells_new w2 219 #[.int .u8 0, .int .u8 0, .int .u8 0, .int .u8 0, .int .u8 0, .int .u8 0, .int .u8 0, .int .u8 0, .int .u8 0, .int .u8 0, .int .u8 0, .int .u8 0, .int .u8 0, .int .u8 0, .int .u8 0, .int .u8 0, .int .u8 0, .int .u8 0, .int .u8 0, .int .u8 0, .int .u8 0, .int .u8 0, .int .u8 0, .int .u8 0, .int .u8 0, .int .u8 0, .int .u8 0, .int .u8 0, .int .u8 0, .int .u8 0, .int .u8 0, .int .u8 0] (cellsB pb) (by rw [size_cellsB, hsec.1]; exact size_body) (by rw [size_cellsB, hsec.1]; rfl) (all_oneCell pb)
   have hsz : (cellsB pb).size = 32 := by rw [size_cellsB]; exact hsec.1
   have hnew : RowT (w2.alloc (.cells (cellsB pb) 219)).drew w2.heap.size 219 pb := heap_alloc_new _ _
   have hsrc : Bs (w2.alloc (.cells (cellsB pb) 219)).drew (some ⟨w2.heap.size, fr, none⟩) (32 - fr) (pb.drop fr) := by
    have := hnew.bs hsec.2 (by rw [hsec.1]; decide) fr (32 - fr) (32 - fr) (by rw [hsec.1]; omega) (Nat.le_refl _)
    rwa [List.take_of_length_le (by simp [hsec.1])] at this
   have hbA : Below wr.heap.size wr (w2.alloc (.cells (cellsB pb) 219)).drew := (hb2.alloc hb2.size _).trans ⟨rfl, rfl, rfl, Nat.le_refl _, fun _ _ => rfl⟩
   have hbW : Below w.heap.size w (w2.alloc (.cells (cellsB pb) 219)).drew := (unhide HBEL).trans (hbA.mono (unhide HBEL).size)
   have hdst : RowT (w2.alloc (.cells (cellsB pb) 219)).drew w.heap.size 5 (vBytes K M x d ++ zerosB (n - d)) := (unhide HBLK).below hbA
   have hll : (pb.drop fr).length = 32 - fr := by simp [hsec.1]
   have hcp := run_copy_min (P := Tryz.prog) (w2.alloc (.cells (cellsB pb) 219)).drew 31 31 3 Tryz.underlying31 size_u8 (off := d) (dLen := n - d) (dCap := n - d) (by intro e; rw [e] at hll; simp at hll; omega) (by rw [List.length_append, length_vBytes, length_zerosB]; omega) hdst hsrc
   have hspl : splice (vBytes K M x d ++ zerosB (n - d)) d ((pb.drop fr).take (n - d)) = vBytes K M x (d + c) ++ zerosB (n - (d + c)) := by
    have := splice_tail (vBytes K M x d) (vBytes K M (x + d) c) (n - d) (by rw [length_vBytes]; omega)
    rw [length_vBytes, length_vBytes] at this
    rw [htk, this, <- hadd, show n - d - c = n - (d + c) by omega]
   rw [hspl, hll, hc] at hcp
   have hif : (if 32 = fr then (⟨w2.heap.size, 0, none⟩ : Addr) else ⟨w2.heap.size, fr, none⟩) = ⟨w2.heap.size, fr, none⟩ := if_neg (by omega)
   rw [<- hif] at hcp
   have HWP : Hid (IntKind.i64.wrap ((d : Int) + (c : Int)) = ((d + c : Nat) : Int)) := hide (by simp only [IntKind.wrap_i64]; omega)
   have hcut := fun w' => cut_from (P := Tryz.prog) (t := 31) Tryz.underlying31 size_u8 w.heap.size d n hlt (by omega) w'
   have HCP := hide hcp
   have HD2 := hide (rowW_blk hdst (vBytes K M x (d + c) ++ zerosB (n - (d + c))))
   have HB2 := hide (rowW_below (vBytes K M x (d + c) ++ zerosB (n - (d + c))) hbW (Nat.le_refl _))
   have e0 : (0 : Int) <= (fr : Int) := by omega
   have e1 : (fr : Int) <= 32 := by omega
   clear hnew hsrc hbA hbW hdst hcp hspl hb2 htk hadd hpb HPL HBO HBLK HBEL
   generalize hZZ : vBytes K M x (d + c) ++ zerosB (n - (d + c)) = ZZ at *
   have HZZ := hide hZZ
   clear hZZ hif
   go_wp2_with fail
   go_region_law (refine step_copy_run (by rfl) (.tmp 37) (.tmp 39) 31 31 (by rfl) (.slice (some ⟨w.heap.size, d, none⟩) (n - d) (n - d)) (.slice (some (if 32 = fr then ⟨w2.heap.size, 0, none⟩ else ⟨w2.heap.size, fr, none⟩)) (32 - fr) (32 - fr)) (by rfl) (by rfl) (.int .i64 c) (rowW (w2.alloc (.cells (cellsB pb) 219)).drew w.heap.size ZZ) (unhide HCP) ?_)
   go_wp2
   go_roundw
   case rel => exact ⟨d + c, by omega, by rw [unhide HWP], by rw [unhide HZZ]; exact unhide HD2, unhide HB2⟩
   case measure => rw [unhide HWP]; simp [intOf]; omega
  ·obtain rfl : d = n := by omega
   rw [Nat.sub_self, show zerosB 0 = [] from rfl, List.append_nil] at hblk
   have HBLK := hide hblk
   have HBEL := hide hbel
   clear hblk hbel
   go_wp2
   go_ret2
   exact ⟨_, rfl, Nat.le_refl _, unhide HBLK, unhide HBEL⟩
end
section
variable {w w' : World} {v q gk gm : Nat} {K : List (List Int)} {M : List (Nat × List Int)}
end
section
variable {w w' : World} {v q gk gm : Nat} {K : List (List Int)} {M : List (Nat × List Int)}
end
def keptOf (D : DS) (L : Nat) : List (List Int) := (List.range L).map (fun i => D.rd (48 + i))
theorem length_keptOf (D : DS) (L : Nat) : (keptOf D L).length = L := by unfold keptOf; simp
theorem keptOf_succ (D : DS) (k : Nat) : keptOf D (k + 1) = keptOf D k ++ [D.rd (48 + k)] := by unfold keptOf; rw [List.range_succ, List.map_append]; rfl
theorem keptOf_getD (D : DS) {L i : Nat} (hi : i < L) : (keptOf D L).getD i [] = D.rd (48 + i) := by
 unfold keptOf
 rw [List.getD_eq_getElem?_getD, List.getElem?_map, List.getElem?_range hi]
 rfl
def keptK (D : DS) (L k : Nat) : List (List Int) := keptOf D k ++ List.replicate (L - k) (zerosB 32)
theorem keptK_set (D : DS) {L k : Nat} (hk : k < L) : (keptK D L k).set k (D.rd (48 + k)) = keptK D L (k + 1) := by
 unfold keptK
 have e : L - k = (L - (k + 1)) + 1 := by omega
 rw [e, List.replicate_succ, keptOf_succ, List.append_assoc, List.set_append]
 rw [length_keptOf, if_neg (by omega), Nat.sub_self]
 rfl
theorem keptK_sec {D : DS} (hok : D.Ok) {L k : Nat} (hL : 48 + L <= D.secs.length) (hk : k <= L) : ∀ s ∈ keptK D L k, Sec s := by
 intro s hs
 unfold keptK keptOf at hs
 rcases List.mem_append.1 hs with h | h
 ·obtain ⟨i, hi, rfl⟩ := List.mem_map.1 h
  have := List.mem_range.1 hi
  exact hok.rd (by omega)
 ·rw [(List.mem_replicate.1 h).2]
  exact sec_zeros
theorem keptK_zero (D : DS) (L : Nat) : (keptK D L 0).flatten = zerosB (L * 32) := by
 unfold keptK keptOf
 exact flat_zeros L
theorem length_keptK (D : DS) {L k : Nat} (hk : k <= L) : (keptK D L k).length = L := by unfold keptK; rw [List.length_append, length_keptOf, List.length_replicate]; omega
theorem info_body3 : (Tryz.prog.info? 219).map (fun i => (i.zero, i.size, i.bytes)) = some (some (sv (zerosB 32)), 32, 32) := by kernel_rfl
section
variable {w : World} {p q : Nat} {S : Nat -> Prop} {D : DS} {s : Int}
set_option maxRecDepth 100000 in
set_option maxHeartbeats 4000000 in
theorem vNew_any (h : Dev w p S D) (hq : PgAt w q p s) {L : Nat} (hL : cntI D.secs.length = L) (hL1 : L <= 200) (hL2 : 48 + L <= D.secs.length) (hd : D.down = false) :
  Calls Tryz.prog 94 #[.pointer (some ⟨q, 0, none⟩)] w fun e w' => ∃ v gk gm, e = .returned (.tuple #[.pointer (some ⟨v, 0, none⟩), .nilIface]) /\ Vw w' v q gk gm (keptOf D L) [] /\ w.heap.size <= gk /\ w.heap.size <= gm /\ w.heap.size <= v /\ Below w.heap.size w w' := by
 have hln := pLen_any h hq
 rw [hL] at hln
 have HLN := hide hln
 have HOK := hide h.ok
 have HRD : Hid (∀ (w1 : World) (k : Nat), Below w.heap.size w w1 -> k < L -> Calls Tryz.prog 134 #[.pointer (some ⟨q, 0, none⟩), .int .i64 k] w1 fun e w' => ∃ g, e = .returned (.tuple #[.slice (some ⟨g, 0, none⟩) 32 32, .nilIface]) /\ w1.heap.size <= g /\ Blk w' g (D.rd (48 + k)) /\ Below w1.heap.size w1 w') :=
  hide (fun w1 k hb hk => pRead_yes (h.below hb) (hq.below hb) k (decide_eq_true ⟨by omega, by rw [hL]; omega⟩) hd)
 have hmm := @run_makeMap Tryz.prog
 obtain ⟨i0, hi0, hz0, hz1, hz2⟩ := info_parts info_body3
 clear h hq hln
 go_enter Tryz.func94, Tryz.ntmps94
 go_wp2_with fail
 refine (unhide HLN).mono ?_
 rintro e w1 ⟨rfl, rfl⟩
 go_wp2_with (at_make; refine wpList_make_secs rfl _ _ 217 219 rfl i0 Tryz.underlying217 hi0 hz0 hz1 hz2 _ _ _ _ L rfl rfl rfl rfl (by omega) ?_)
 go_loopw [13] (fun u wr => ∃ k : Nat, k <= L /\ u = .int .i64 k /\ RowT wr w.heap.size 219 (keptK D L k).flatten /\ Below w.heap.size w wr) (fun u _ => L - (intOf u).toNat)
 case atStart => exact ⟨0, Nat.zero_le _, rfl, by rw [keptK_zero]; exact row_new w _ _, (Below.refl _ _).alloc (Nat.le_refl _) _⟩
 case round =>
  obtain ⟨k, hk, rfl, hrow, hbel⟩ := hrel
  by_cases hlt : k < L
  ·have HR := hide (unhide HRD wr k hbel hlt)
   have HROW := hide hrow
   have HBEL := hide hbel
   have hsz := hbel.size
   clear hrow hbel
   go_wp2_with fail
   refine (unhide HR).mono ?_
   rintro e w2 ⟨gr, rfl, hgr, hb2, hbel2⟩
   have hrow2 := (unhide HROW).same (hbel2.block w.heap.size (unhide HROW).lt)
   have hks := keptK_sec (unhide HOK) hL2 hk
   have h32 : ∀ s ∈ keptK D L k, s.length = 32 := fun s hs => (hks s hs).1
   have hsec : Sec (D.rd (48 + k)) := (unhide HOK).rd (by omega)
   have hcp := run_copy_rowt (P := Tryz.prog) w2 31 31 3 Tryz.underlying31 size_u8 (dCap := 32) (off := k * 32) (by rw [flat_len32 _ h32, length_keptK D hk, hsec.1]; omega) hrow2 (blk_bs hb2 hsec)
   rw [flat_splice _ _ _ h32 (by rw [length_keptK D hk]; exact hlt) (by rw [hsec.1]; exact Nat.le_refl _), hsec.1, List.drop_of_length_le (by rw [(sec_getD hks (by rw [length_keptK D hk]; exact hlt)).1]; exact Nat.le_refl _), List.append_nil, keptK_set D hlt] at hcp
   have HR3 := hide (hrow2.set (keptK D L (k + 1)).flatten)
   have HB3 := hide (rowW_below (keptK D L (k + 1)).flatten ((unhide HBEL).trans (hbel2.mono hsz)) (Nat.le_refl _))
   have e0 : (k : Int) < (L : Int) := by omega
   have e1 : (0 : Int) <= (k : Int) := by omega
   clear hb2 hbel2 hrow2 hks h32 hsec HROW HBEL HR
   go_wp2
   go_roundw
   case rel => exact ⟨k + 1, by omega, by go_num, unhide HR3, unhide HB3⟩
   case measure => simp [intOf]; omega
  ·obtain rfl : k = L := by omega
   have HROW := hide hrow
   have HBEL := hide hbel
   have hsz := hbel.size
   have hlt2 := hrow.lt
   clear hrow hbel
   go_wp2
   go_ret2
   have hfin := unhide HROW
   unfold keptK at hfin
   rw [Nat.sub_self, List.replicate_zero, List.append_nil] at hfin
   refine ⟨wr.heap.size + 1, w.heap.size, wr.heap.size, rfl, ?_, Nat.le_refl _, hsz, by omega, ((unhide HBEL).alloc hsz _).alloc (by simp; omega) _⟩
   refine ⟨?_, (hfin.same (heap_alloc_old _ _ hlt2)).same (heap_alloc_old _ _ (by simp; omega)), ?_, by rw [length_keptOf]; exact hL1, (VMem.made wr).same (heap_alloc_old _ _ (by simp)), fun x hx => (by cases hx), by omega, by omega, by omega⟩
   ·have := heap_alloc_new (wr.alloc (.map #[] 0)) (.cells #[.pointer (some ⟨q, 0, none⟩), .slice (some ⟨w.heap.size, 0, none⟩) k k, .map (some wr.heap.size)] 222)
    rw [size_alloc] at this
    rw [length_keptOf]
    exact this
   ·have := keptK_sec (unhide HOK) hL2 (Nat.le_refl k)
    unfold keptK at this
    rw [Nat.sub_self, List.replicate_zero, List.append_nil] at this
    exact this
end
end Go.Proofs.YtecodmiendedfaaGreatDoor
