/-
  How the reference's device stands in memory. (Part of the proof of DevicePlays.)
-/
import Derived.Test.YtnpdejlbknjhnaaDoorDevLive
import Derived.Test.YtnpdejlbknjhnaaDoorOwn
namespace Go.Proofs.YtnpdejlbknjhnaaDoor
open Go.RowKit
set_option linter.unusedVariables false

/-- A value that is a slice of 32 bytes of its own, never written again. -/
def SecV (w : World) (S : Nat → Prop) (v : Value) (l : List Int) : Prop :=
  ∃ g cap, v = .slice (some ⟨g, 0, none⟩) 32 cap ∧ S g ∧ (∃ cur, w.heap[g]? = some (.cells cur 5 (0, 0))) ∧ Bs w (some ⟨g, 0, none⟩) cap l

def linCells (w : World) (S : Nat → Prop) (cs : List Value) (mem : List (Nat × List Int)) : Prop :=
  ∀ i, i < mem.length → cs[2 * i]? = some (.int .i64 ((mem.getD i (0, [])).1 : Int)) ∧ ∃ v, cs[2 * i + 1]? = some v ∧ SecV w S v (mem.getD i (0, [])).2
def secCells (w : World) (S : Nat → Prop) (cs : List Value) (secs : List (List Int)) : Prop :=
  ∀ i, i < secs.length → ∃ v, cs[i]? = some v ∧ SecV w S v (secs.getD i [])

structure RefAt (w : World) (p : Nat) (sv lv : Value) (left : Int) (S : Nat → Prop) (D : DS) : Prop where
  ok : D.Ok
  str : w.heap[p]? = some (.cells #[sv, lv, .int .i64 left, .bool D.down] 48 (0, 0))
  sec : ∃ cs, w.ownsRow 0 35 1 sv D.secs.length cs ∧ secCells w S cs D.secs
  lin : ∃ cs, w.ownsRow 0 50 2 lv D.mem.length cs ∧ linCells w S cs D.mem
  inp : S p
  ins : ∀ g, sv.ownBlock = some g → S g
  inl : ∀ g, lv.ownBlock = some g → S g
  lt : ∀ k, S k → k < w.heap.size
  lf : D.down = true ∨ left = (if D.left < 0 then -1 else D.left)
  lb : -1 ≤ left ∧ left ≤ 9223372036854775807

def Ref (w : World) (p : Nat) (S : Nat → Prop) (D : DS) : Prop := ∃ sv lv left, RefAt w p sv lv left S D

section
variable {w w' : World} {p : Nat} {sv lv : Value} {left : Int} {S S' : Nat → Prop} {D : DS}

theorem SecV.same {v : Value} {l : List Int} (h : SecV w S v l) (hs : ∀ k, S k → w'.heap[k]? = w.heap[k]?) (hi : ∀ k, S k → S' k) : SecV w' S' v l := by
  obtain ⟨g, cap, rfl, h1, ⟨cur, h2⟩, h3⟩ := h
  refine ⟨g, cap, rfl, hi g h1, ⟨cur, (hs g h1).trans h2⟩, h3.1, h3.2.1, h3.2.2.1, h3.2.2.2.1, fun hne => ?_⟩
  obtain ⟨b, off, e, hc⟩ := h3.2.2.2.2 hne
  obtain ⟨rfl, rfl⟩ : g = b ∧ 0 = off := by simpa using e
  exact ⟨g, 0, rfl, fun i hi => (World.cell?_of_block (a := ⟨g, 0 + i, none⟩) (hs g h1)).trans (hc i hi)⟩

theorem RefAt.same (h : RefAt w p sv lv left S D) (hz : w.heap.size ≤ w'.heap.size) (hs : ∀ k, S k → w'.heap[k]? = w.heap[k]?) : RefAt w' p sv lv left S D := by
  refine ⟨h.ok, (hs _ h.inp).trans h.str, ?_, ?_, h.inp, h.ins, h.inl, fun k hk => Nat.lt_of_lt_of_le (h.lt k hk) hz, h.lf, h.lb⟩
  · obtain ⟨cs, h1, h2⟩ := h.sec
    refine ⟨cs, ownsRow_same h1 (fun g hg => hs g (h.ins g hg)), fun i hi => ?_⟩
    obtain ⟨v, h3, h4⟩ := h2 i hi
    exact ⟨v, h3, h4.same hs (fun _ h => h)⟩
  · obtain ⟨cs, h1, h2⟩ := h.lin
    refine ⟨cs, ownsRow_same h1 (fun g hg => hs g (h.inl g hg)), fun i hi => ?_⟩
    obtain ⟨h5, v, h3, h4⟩ := h2 i hi
    exact ⟨h5, v, h3, h4.same hs (fun _ h => h)⟩
theorem RefAt.alloc (h : RefAt w p sv lv left S D) (o : Obj) : RefAt (w.alloc o) p sv lv left S D := h.same (by simp) (fun k hk => heap_alloc_old w o (h.lt k hk))
theorem Ref.same (h : Ref w p S D) (hz : w.heap.size ≤ w'.heap.size) (hs : ∀ k, S k → w'.heap[k]? = w.heap[k]?) : Ref w' p S D := by
  obtain ⟨sv, lv, left, h⟩ := h
  exact ⟨sv, lv, left, h.same hz hs⟩
theorem Ref.lt (h : Ref w p S D) : ∀ k, S k → k < w.heap.size := by
  obtain ⟨sv, lv, left, h⟩ := h
  exact h.lt
theorem Ref.below (h : Ref w p S D) (hb : Below w.heap.size w w') : Ref w' p S D := h.same hb.size (fun k hk => hb.block k (h.lt k hk))
theorem Ref.turn {T T' : Nat → Prop} (h : Ref w p S D) (ht : Turn T T' w w') (hd : ∀ k, S k → ¬ T k) : Ref w' p S D := h.same ht.size (fun k hk => ht.block k (h.lt k hk) (hd k hk))

/-- A block of bytes is none of the others. -/
theorem SecV.ne {v : Value} {l : List Int} {k : Nat} {cur : Array Value} {t : TypeId} (hk : w.heap[k]? = some (.cells cur t (0, 0))) (ht : t ≠ 5) (h : SecV w S v l) (hset : ∀ j, j ≠ k → w'.heap[j]? = w.heap[j]?) : SecV w' S v l := by
  obtain ⟨g, cap, rfl, h1, ⟨cur2, h2⟩, h3⟩ := h
  have hne : g ≠ k := by
    intro e; subst e
    rw [hk] at h2
    simp at h2
    exact ht h2.2
  refine ⟨g, cap, rfl, h1, ⟨cur2, (hset g hne).trans h2⟩, h3.1, h3.2.1, h3.2.2.1, h3.2.2.2.1, fun hn => ?_⟩
  obtain ⟨b, off, e, hc⟩ := h3.2.2.2.2 hn
  obtain ⟨rfl, rfl⟩ : g = b ∧ 0 = off := by simpa using e
  exact ⟨g, 0, rfl, fun i hi => (World.cell?_of_block (a := ⟨g, 0 + i, none⟩) (hset g hne)).trans (hc i hi)⟩

theorem RefAt.nsv (h : RefAt w p sv lv left S D) : sv.ownBlock ≠ some p := by
  intro e
  obtain ⟨cs, h1, _⟩ := h.sec
  obtain ⟨cur, h2⟩ := ownsRow_block h1 e
  rw [h.str] at h2
  simp at h2
theorem RefAt.nlv (h : RefAt w p sv lv left S D) : lv.ownBlock ≠ some p := by
  intro e
  obtain ⟨cs, h1, _⟩ := h.lin
  obtain ⟨cur, h2⟩ := ownsRow_block h1 e
  rw [h.str] at h2
  simp at h2

/-- A field of the struct is written. -/
theorem RefAt.field (h : RefAt w p sv lv left S D) {j : Nat} {v : Value} {left' : Int} {dn : Bool} {lf' : Int} (hstr : (w.setCell ⟨p, j, none⟩ v).heap[p]? = some (.cells #[sv, lv, .int .i64 left', .bool dn] 48 (0, 0)))
    (hl : dn = true ∨ left' = (if lf' < 0 then -1 else lf')) (hb : -1 ≤ left' ∧ left' ≤ 9223372036854775807) (hlf : -9223372036854775808 ≤ lf' ∧ lf' ≤ 9223372036854775807) : RefAt (w.setCell ⟨p, j, none⟩ v) p sv lv left' S { D with down := dn, left := lf' } := by
  have hset : ∀ k, k ≠ p → (w.setCell ⟨p, j, none⟩ v).heap[k]? = w.heap[k]? := fun k hk => heap_setCell_other _ _ _ _ hk
  refine ⟨⟨h.ok.len, h.ok.sec, h.ok.mem, h.ok.apart, hlf⟩, hstr, ?_, ?_, h.inp, h.ins, h.inl, fun k hk => by simpa using h.lt k hk, hl, hb⟩
  · obtain ⟨cs, h1, h2⟩ := h.sec
    refine ⟨cs, ownsRow_same h1 (fun g hg => hset g (fun e => h.nsv (by rw [hg, e]))), fun i hi => ?_⟩
    obtain ⟨u, h3, h4⟩ := h2 i hi
    exact ⟨u, h3, h4.ne h.str (by decide) hset⟩
  · obtain ⟨cs, h1, h2⟩ := h.lin
    refine ⟨cs, ownsRow_same h1 (fun g hg => hset g (fun e => h.nlv (by rw [hg, e]))), fun i hi => ?_⟩
    obtain ⟨h5, u, h3, h4⟩ := h2 i hi
    exact ⟨h5, u, h3, h4.ne h.str (by decide) hset⟩

theorem RefAt.c0 (h : RefAt w p sv lv left S D) : w.cell? ⟨p, 0, none⟩ = some sv := by rw [cell_of_row _ _ _ _ _ _ h.str]; simp
theorem RefAt.c1 (h : RefAt w p sv lv left S D) : w.cell? ⟨p, 1, none⟩ = some lv := by rw [cell_of_row _ _ _ _ _ _ h.str]; simp
theorem RefAt.c2 (h : RefAt w p sv lv left S D) : w.cell? ⟨p, 2, none⟩ = some (.int .i64 left) := by rw [cell_of_row _ _ _ _ _ _ h.str]; simp
theorem RefAt.c3 (h : RefAt w p sv lv left S D) : w.cell? ⟨p, 3, none⟩ = some (.bool D.down) := by rw [cell_of_row _ _ _ _ _ _ h.str]; simp
theorem RefAt.fr (h : RefAt w p sv lv left S D) (i : Nat) : w.frozen? ⟨p, i, none⟩ = false := frozen_of_row _ _ _ _ _ h.str

/-- The slice of sectors, and what stands at i. -/
theorem RefAt.sv_form (h : RefAt w p sv lv left S D) (hpos : 0 < D.secs.length) : ∃ g cap, sv = .slice (some ⟨g, 0, none⟩) D.secs.length cap ∧ D.secs.length ≤ cap ∧ cap ≤ maxLen ∧ S g ∧ ∀ i, i < D.secs.length → ∃ v, w.cell? ⟨g, i, none⟩ = some v ∧ SecV w S v (D.secs.getD i []) := by
  obtain ⟨cs, h1, h2⟩ := h.sec
  rcases h1.2 with ⟨_, h0⟩ | ⟨g, cap, cur, rfl, _, hb, h3, h4, h5, h6⟩
  · omega
  · refine ⟨g, cap, rfl, h3, h4, h.ins g rfl, fun i hi => ?_⟩
    obtain ⟨v, h7, h8⟩ := h2 i hi
    refine ⟨v, ?_, h8⟩
    rw [cell_of_row _ _ _ _ _ _ hb]
    rw [← h6, List.getElem?_take, if_pos (by omega)] at h7
    simpa using h7
theorem RefAt.lv_form (h : RefAt w p sv lv left S D) : (lv = .slice none 0 0 ∧ D.mem = []) ∨ ∃ g cap, lv = .slice (some ⟨g, 0, none⟩) D.mem.length cap ∧ D.mem.length ≤ cap ∧ cap ≤ maxLen ∧ S g ∧ ∀ i, i < D.mem.length → w.cell? ⟨g, i * 2, none⟩ = some (.int .i64 ((D.mem.getD i (0, [])).1 : Int)) ∧ ∃ v, w.cell? ⟨g, i * 2 + 1, none⟩ = some v ∧ SecV w S v (D.mem.getD i (0, [])).2 := by
  obtain ⟨cs, h1, h2⟩ := h.lin
  rcases h1.2 with ⟨h0, h9⟩ | ⟨g, cap, cur, rfl, _, hb, h3, h4, h5, h6⟩
  · exact .inl ⟨h0, List.eq_nil_of_length_eq_zero h9⟩
  · refine .inr ⟨g, cap, rfl, h3, h4, h.inl g rfl, fun i hi => ?_⟩
    obtain ⟨h7, v, h8, h9⟩ := h2 i hi
    rw [← h6, List.getElem?_take, if_pos (by omega)] at h7 h8
    refine ⟨?_, v, ?_, h9⟩
    · rw [cell_of_row _ _ _ _ _ _ hb, Nat.mul_comm]; simpa using h7
    · rw [cell_of_row _ _ _ _ _ _ hb, Nat.mul_comm]; simpa using h8
end
end Go.Proofs.YtnpdejlbknjhnaaDoor
