/-
  The map of a device: which sectors are in memory alone, as a block of the heap; looked up, put, cleared. (Part of the proofs over package device.)
-/
import Derived.Test.YtnpdejlbknjhnaaDoorDevPlain
import Derived.Test.YtnpdejlbknjhnaaDoorLaws
import Derived.Maps.OwnSet
import Derived.Deep.RegionLaw
namespace Go.Proofs.YtnpdejlbknjhnaaDoor
open Go.RowKit Go.MapKept Go.ChangeMaps
open Go.Maps (Keyed)
set_option linter.unusedVariables false

/-- The cells of a row of bytes, and an array of bytes as a value. -/
def cellsB (l : List Int) : Array Value := (l.map (Value.int .u8)).toArray
def sv (l : List Int) : Value := .agg (cellsB l)
def sd (l : List Int) : DataW Unit := .agg (l.map fun z => .lit (.int .u8 z))
theorem size_cellsB (l : List Int) : (cellsB l).size = l.length := by simp [cellsB]
theorem getD_cellsB (l : List Int) (i : Nat) (h : i < l.length) : (cellsB l)[i]? = some (.int .u8 (l.getD i 0)) := by
  simp [cellsB, h, List.getD]

def isU8 : Value → Bool
  | .int .u8 _ => true
  | _ => false
def unU8 : Value → Int
  | .int .u8 z => z
  | _ => 0
/-- How an element of the map reads. -/
def secR : Value → Option (DataW Unit × List MemPlace)
  | .agg cs => if cs.toList.all isU8 = true ∧ cs.size = 32 then some (.agg (cs.toList.map fun v => .lit (.int .u8 (unU8 v))), []) else none
  | _ => none

theorem all_isU8 (l : List Int) : (l.map (Value.int .u8)).all isU8 = true := by
  induction l with
  | nil => rfl
  | cons a r ih => simp [isU8]

theorem secR_mk {l : List Int} (h : l.length = 32) : secR (sv l) = some (sd l, []) := by
  have h1 := all_isU8 l
  unfold secR sv
  simp only [cellsB, List.size_toArray, List.length_map, h, h1, and_self, if_true, sd, List.map_map]
  congr 1

theorem isU8_list {cs : List Value} (h : cs.all isU8 = true) : cs = (cs.map unU8).map (Value.int .u8) := by
  induction cs with
  | nil => rfl
  | cons a r ih =>
    simp only [List.all_cons, Bool.and_eq_true] at h
    have ha : a = .int .u8 (unU8 a) := by
      cases a <;> simp [isU8] at h
      rename_i q z
      cases q <;> simp at h
      rfl
    simp only [List.map_cons, ← ha]
    congr 1
    exact ih h.2

theorem secR_inv {v : Value} {d : DataW Unit} {ps : List MemPlace} (h : secR v = some (d, ps)) : ∃ l, l.length = 32 ∧ v = sv l ∧ d = sd l := by
  unfold secR at h
  cases v <;> simp only [reduceCtorEq] at h
  rename_i cs
  split at h
  · rename_i hc
    simp only [Option.some.injEq, Prod.mk.injEq] at h
    refine ⟨cs.toList.map unU8, by simpa using hc.2, ?_, ?_⟩
    · unfold sv cellsB
      rw [← isU8_list hc.1]
    · rw [← h.1]; simp [sd]
  · cases h

theorem sd_inj {a b : List Int} (h : sd a = sd b) : a = b := by
  unfold sd at h
  simp only [DataW.agg.injEq] at h
  induction a generalizing b with
  | nil => cases b with
    | nil => rfl
    | cons _ _ => simp at h
  | cons x r ih => cases b with
    | nil => simp at h
    | cons y s =>
      simp only [List.map_cons, List.cons.injEq, DataW.lit.injEq, Lit.int.injEq, true_and] at h
      rw [h.1, ih h.2]

/-- Block bm is the map of what is in memory alone. -/
def MemAt (P : Program) (K : TypeId) (w : World) (bm : Nat) (mem : List (Nat × List Int)) : Prop :=
  ∃ D, w.ownsMap P K secR bm mem.length D ∧ ∀ i : Nat, Maps.has D (.int .i64 i) = (mem.lookup i).isSome ∧ ∀ b, mem.lookup i = some b → D.atKey (.int .i64 i) (sd (zerosB 32)) = sd b

section
variable {P : Program} {K : TypeId} {w : World} {bm : Nat} {mem : List (Nat × List Int)}

theorem MemAt.lt (h : MemAt P K w bm mem) : bm < w.heap.size := by
  obtain ⟨D, h1, _⟩ := h
  exact h1.lt

theorem MemAt.isMap (h : MemAt P K w bm mem) : ∃ es clock, w.heap[bm]? = some (.map es clock) := by
  obtain ⟨D, ⟨es, clock, hb, _⟩, _⟩ := h
  exact ⟨es, clock, hb⟩

theorem MemAt.same {w' : World} (h : MemAt P K w bm mem) (hs : w'.heap[bm]? = w.heap[bm]?) : MemAt P K w' bm mem := by
  obtain ⟨D, ⟨es, clock, hb, r⟩, h2⟩ := h
  exact ⟨D, ⟨es, clock, hs.trans hb, r⟩, h2⟩

theorem wf_small (i : Nat) (h : i < 300) : (Lit.int .i64 (i : Int)).wf = true := WalkArith.wf_i64 (by omega)

theorem memAt_made (w : World) : MemAt P K (w.alloc (.map #[] 0)) w.heap.size [] :=
  ⟨.map [], World.ownsMap_made w P K secR, fun i => ⟨rfl, fun b hb => by simp at hb⟩⟩

theorem ownsMap_size {H : Type} {R : Value → Option (DataW H × List MemPlace)} {n m : Nat} {D : DataW H} (h : w.ownsMap P K R bm n D) (hm : Maps.size D ≤ m) : w.ownsMap P K R bm m D := by
  obtain ⟨es, clock, hb, F, hs, rfl⟩ := h
  exact ⟨es, clock, hb, F, by simpa [Maps.size, length_sorted] using hm, rfl⟩

/-- What a look-up gives. -/
def memV (mem : List (Nat × List Int)) (i : Nat) : List Int := (mem.lookup i).getD (zerosB 32)

theorem MemAt.look {T E : TypeId} (h : MemAt P K w bm mem) (hK : P.underlying K = some (.int .i64)) (hT : P.underlying T = some (.map K E)) (hz : (zeroValue E).run P w = .ok (sv (zerosB 32)) w) (c : Bool) {i : Nat} (hi : i < 300) :
    (Instr.lookup T (.map (some bm)) (.int .i64 i) c).run P w = .ok (if c then .tuple #[sv (memV mem i), .bool (mem.lookup i).isSome] else sv (memV mem i)) w := by
  obtain ⟨D, hown, hD⟩ := h
  have hkey := Maps.keyOf_int_mk (P := P) hK (wf_small i hi)
  have hzd := secR_mk (l := zerosB 32) (by simp [zerosB])
  have hval : ∀ v ps, secR v = some (D.atKey (.int .i64 i) (sd (zerosB 32)), ps) → v = sv (memV mem i) := by
    intro v ps hv
    obtain ⟨l, hl, rfl, hd⟩ := secR_inv hv
    unfold memV
    cases hm : mem.lookup i with
    | none =>
      have hno : Maps.has D (.int .i64 i) = false := by rw [(hD i).1, hm]; rfl
      rw [Maps.atKey_of_not_has hno] at hd
      rw [sd_inj hd]; rfl
    | some b =>
      rw [(hD i).2 b hm] at hd
      rw [sd_inj hd]; rfl
  cases c with
  | true =>
    obtain ⟨v, ps, hrun, hv⟩ := hown.look_ok (Maps.int_keyed hK) hT hz hzd hkey
    rw [hrun, hval v ps hv, (hD i).1]; rfl
  | false =>
    obtain ⟨v, ps, hrun, hv⟩ := hown.lookup (Maps.int_keyed hK) hT hz hzd hkey
    rw [hrun, hval v ps hv]; rfl

theorem MemAt.store {T E : TypeId} (h : MemAt P K w bm mem) (hK : P.underlying K = some (.int .i64)) (hT : P.underlying T = some (.map K E)) (hn : mem.length ≤ 300) {i : Nat} (hi : i < 300) {b : List Int} (hb : b.length = 32) :
    ∃ w', (Instr.mapUpdate T (.map (some bm)) (.int .i64 i) (sv b)).run P w = .ok () w' ∧ MemAt P K w' bm (memPut mem i b) ∧ w.mapTurned w' bm := by
  obtain ⟨D, hown, hD⟩ := h
  have hkey := Maps.keyOf_int_mk (P := P) hK (wf_small i hi)
  obtain ⟨w', hrun, hown', ht⟩ := hown.store (Maps.int_keyed hK) hT (by unfold maxLen; omega) hkey (secR_mk hb)
  have hlit : WideAt.IsKeyLit (.int .i64 (i : Int)) := (Maps.int_keyed hK).key hkey
  refine ⟨w', hrun, ⟨_, ownsMap_size hown' ?_, fun j => ?_⟩, ht⟩
  · rw [Maps.size_put (hown.tidy (Maps.int_keyed hK)), (hD i).1]
    have h1 := hown.size_le
    have h2 : (memPut mem i b).length = ((memPut mem i b).map (·.1)).length := by simp
    rw [h2, keys_put]
    cases hm : mem.lookup i with
    | none =>
      have := lookup_none.1 hm
      simp only [this, if_false, Option.isSome_none, Bool.false_eq_true]
      simp; omega
    | some c =>
      have : i ∈ mem.map (·.1) := by
        refine Classical.byContradiction fun hc => ?_
        rw [lookup_none.2 hc] at hm; cases hm
      simp only [this, if_true, Option.isSome_some]
      simp; omega
  · rw [lookup_put]
    by_cases hj : j = i
    · subst hj
      refine ⟨by simp [Maps.has_put_same hown.isMap hlit], fun c hc => ?_⟩
      simp at hc; subst hc
      exact Maps.atKey_put_same hown.isMap hlit _ _
    · have hne : Lit.int .i64 (j : Int) ≠ Lit.int .i64 (i : Int) := by
        intro e; simp only [Lit.int.injEq, true_and] at e; omega
      simp only [hj, if_false]
      rw [Maps.has_put_other hne, Maps.atKey_put_other hne]
      exact hD j

theorem MemAt.clear {T E : TypeId} (h : MemAt P K w bm mem) (hT : P.underlying T = some (.map K E)) :
    ∃ w', (∀ ty, (Builtin.clear_ #[T] ty #[.map (some bm)]).run P w = .ok (.tuple #[]) w') ∧ MemAt P K w' bm [] ∧ w.mapTurned w' bm := by
  obtain ⟨es, clock, hb⟩ := h.isMap
  refine ⟨setBlock w bm (.map #[] clock), fun ty => ?_, ⟨.map [], ?_, fun i => ⟨rfl, fun b hb => by simp at hb⟩⟩, ⟨es, clock, #[], clock, hb, rfl⟩⟩
  · simp [Builtin.clear_, run_underlying hT, MapKept.run_getObj_map hb, MapKept.run_setObj_map _ hb, Result.andThen, setBlock]
  · exact ⟨#[], clock, heap_setBlock_same hb _, ⟨by simp, stamped_empty clock, by simp⟩, Nat.le_refl _, rfl⟩
end
end Go.Proofs.YtnpdejlbknjhnaaDoor
