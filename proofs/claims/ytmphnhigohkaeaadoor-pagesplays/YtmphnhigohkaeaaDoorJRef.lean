/-
  Joined by program: RefRep; RefA; RefB; RefC; RefD; RefE; RefF; RefG; RefNumA; RefStamp. (Parts of the proofs over the packages of the program.)
-/
import Derived.Test.YtmphnhigohkaeaaDoorJDev
import Derived.Test.YtmphnhigohkaeaaDoorJStamp
import Derived.Deep.RegionHeld3
import Derived.Deep.AppendLies
import Derived.Deep.RegionWith
import Derived.Deep.RegionLaw
import Derived.Deep.QuietTactic
import Derived.BigQuiet
/-! How the reference's device stands in memory. (Part of the proof of DevicePlays.) -/
namespace Go.Proofs.YtmphnhigohkaeaaDoor
open Go.RowKit
set_option linter.unusedVariables false

/-- A value that is a slice of 32 bytes of its own, never written again. -/
def SecV (w : World) (S : Nat → Prop) (v : Value) (l : List Int) : Prop :=
  ∃ g cap, v = .slice (some ⟨g, 0, none⟩) 32 cap ∧ S g ∧ (∃ cur, w.heap[g]? = some (.cells cur 5 (0, 0))) ∧ Bs w (some ⟨g, 0, none⟩) cap l

def linCells (w : World) (S : Nat → Prop) (cs : List Value) (mem : List (Nat × List Int)) : Prop :=
  ∀ i, i < mem.length → cs[2 * i]? = some (.int .i64 ((mem.getD i (0, [])).1 : Int)) ∧ ∃ v, cs[2 * i + 1]? = some v ∧ SecV w S v (mem.getD i (0, [])).2
def secCells (w : World) (S : Nat → Prop) (cs : List Value) (secs : List (List Int)) : Prop :=
  ∀ i, i < secs.length → ∃ v, cs[i]? = some v ∧ SecV w S v (secs.getD i [])

structure RefAt (w : World) (p : Nat) (sv lv : Value) (left : Int) (S : Nat → Prop) (D : DS) : Prop where
  ok : D.Ok
  str : w.heap[p]? = some (.cells #[sv, lv, .int .i64 left, .bool D.down] 72 (0, 0))
  sec : ∃ cs, w.ownsRow 0 41 1 sv D.secs.length cs ∧ secCells w S cs D.secs
  lin : ∃ cs, w.ownsRow 0 92 2 lv D.mem.length cs ∧ linCells w S cs D.mem
  inp : S p
  ins : ∀ g, sv.ownBlock = some g → S g
  inl : ∀ g, lv.ownBlock = some g → S g
  lt : ∀ k, S k → k < w.heap.size
  lf : D.down = true ∨ left = (if D.left < 0 then -1 else D.left)
  lb : -1 ≤ left ∧ left ≤ 9223372036854775807

def Ref (w : World) (p : Nat) (S : Nat → Prop) (D : DS) : Prop := ∃ sv lv left, RefAt w p sv lv left S D

section
variable {w w' : World} {p : Nat} {sv lv : Value} {left : Int} {S S' : Nat → Prop} {D : DS}

theorem SecV.same {v : Value} {l : List Int} (h : SecV w S v l) (hs : ∀ k, S k → w'.heap[k]? = w.heap[k]?) (hi : ∀ k, S k → S' k) : SecV w' S' v l := by
  obtain ⟨g, cap, rfl, h1, ⟨cur, h2⟩, h3⟩ := h
  refine ⟨g, cap, rfl, hi g h1, ⟨cur, (hs g h1).trans h2⟩, h3.1, h3.2.1, h3.2.2.1, h3.2.2.2.1, fun hne => ?_⟩
  obtain ⟨b, off, e, hc⟩ := h3.2.2.2.2 hne
  obtain ⟨rfl, rfl⟩ : g = b ∧ 0 = off := by simpa using e
  exact ⟨g, 0, rfl, fun i hi => (World.cell?_of_block (a := ⟨g, 0 + i, none⟩) (hs g h1)).trans (hc i hi)⟩

theorem RefAt.same (h : RefAt w p sv lv left S D) (hz : w.heap.size ≤ w'.heap.size) (hs : ∀ k, S k → w'.heap[k]? = w.heap[k]?) : RefAt w' p sv lv left S D := by
  refine ⟨h.ok, (hs _ h.inp).trans h.str, ?_, ?_, h.inp, h.ins, h.inl, fun k hk => Nat.lt_of_lt_of_le (h.lt k hk) hz, h.lf, h.lb⟩
  · obtain ⟨cs, h1, h2⟩ := h.sec
    refine ⟨cs, ownsRow_same h1 (fun g hg => hs g (h.ins g hg)), fun i hi => ?_⟩
    obtain ⟨v, h3, h4⟩ := h2 i hi
    exact ⟨v, h3, h4.same hs (fun _ h => h)⟩
  · obtain ⟨cs, h1, h2⟩ := h.lin
    refine ⟨cs, ownsRow_same h1 (fun g hg => hs g (h.inl g hg)), fun i hi => ?_⟩
    obtain ⟨h5, v, h3, h4⟩ := h2 i hi
    exact ⟨h5, v, h3, h4.same hs (fun _ h => h)⟩
theorem RefAt.alloc (h : RefAt w p sv lv left S D) (o : Obj) : RefAt (w.alloc o) p sv lv left S D := h.same (by simp) (fun k hk => heap_alloc_old w o (h.lt k hk))
theorem Ref.same (h : Ref w p S D) (hz : w.heap.size ≤ w'.heap.size) (hs : ∀ k, S k → w'.heap[k]? = w.heap[k]?) : Ref w' p S D := by
  obtain ⟨sv, lv, left, h⟩ := h
  exact ⟨sv, lv, left, h.same hz hs⟩
theorem Ref.lt (h : Ref w p S D) : ∀ k, S k → k < w.heap.size := by
  obtain ⟨sv, lv, left, h⟩ := h
  exact h.lt
theorem Ref.below (h : Ref w p S D) (hb : Below w.heap.size w w') : Ref w' p S D := h.same hb.size (fun k hk => hb.block k (h.lt k hk))
theorem Ref.turn {T T' : Nat → Prop} (h : Ref w p S D) (ht : Turn T T' w w') (hd : ∀ k, S k → ¬ T k) : Ref w' p S D := h.same ht.size (fun k hk => ht.block k (h.lt k hk) (hd k hk))

/-- A block of bytes is none of the others. -/
theorem SecV.ne {v : Value} {l : List Int} {k : Nat} {cur : Array Value} {t : TypeId} (hk : w.heap[k]? = some (.cells cur t (0, 0))) (ht : t ≠ 5) (h : SecV w S v l) (hset : ∀ j, j ≠ k → w'.heap[j]? = w.heap[j]?) : SecV w' S v l := by
  obtain ⟨g, cap, rfl, h1, ⟨cur2, h2⟩, h3⟩ := h
  have hne : g ≠ k := by
    intro e; subst e
    rw [hk] at h2
    simp at h2
    exact ht h2.2
  refine ⟨g, cap, rfl, h1, ⟨cur2, (hset g hne).trans h2⟩, h3.1, h3.2.1, h3.2.2.1, h3.2.2.2.1, fun hn => ?_⟩
  obtain ⟨b, off, e, hc⟩ := h3.2.2.2.2 hn
  obtain ⟨rfl, rfl⟩ : g = b ∧ 0 = off := by simpa using e
  exact ⟨g, 0, rfl, fun i hi => (World.cell?_of_block (a := ⟨g, 0 + i, none⟩) (hset g hne)).trans (hc i hi)⟩

theorem RefAt.nsv (h : RefAt w p sv lv left S D) : sv.ownBlock ≠ some p := by
  intro e
  obtain ⟨cs, h1, _⟩ := h.sec
  obtain ⟨cur, h2⟩ := ownsRow_block h1 e
  rw [h.str] at h2
  simp at h2
theorem RefAt.nlv (h : RefAt w p sv lv left S D) : lv.ownBlock ≠ some p := by
  intro e
  obtain ⟨cs, h1, _⟩ := h.lin
  obtain ⟨cur, h2⟩ := ownsRow_block h1 e
  rw [h.str] at h2
  simp at h2

/-- A field of the struct is written. -/
theorem RefAt.field (h : RefAt w p sv lv left S D) {j : Nat} {v : Value} {left' : Int} {dn : Bool} {lf' : Int} (hstr : (w.setCell ⟨p, j, none⟩ v).heap[p]? = some (.cells #[sv, lv, .int .i64 left', .bool dn] 72 (0, 0)))
    (hl : dn = true ∨ left' = (if lf' < 0 then -1 else lf')) (hb : -1 ≤ left' ∧ left' ≤ 9223372036854775807) (hlf : -9223372036854775808 ≤ lf' ∧ lf' ≤ 9223372036854775807) : RefAt (w.setCell ⟨p, j, none⟩ v) p sv lv left' S { D with down := dn, left := lf' } := by
  have hset : ∀ k, k ≠ p → (w.setCell ⟨p, j, none⟩ v).heap[k]? = w.heap[k]? := fun k hk => heap_setCell_other _ _ _ _ hk
  refine ⟨⟨h.ok.len, h.ok.sec, h.ok.mem, h.ok.apart, hlf⟩, hstr, ?_, ?_, h.inp, h.ins, h.inl, fun k hk => by simpa using h.lt k hk, hl, hb⟩
  · obtain ⟨cs, h1, h2⟩ := h.sec
    refine ⟨cs, ownsRow_same h1 (fun g hg => hset g (fun e => h.nsv (by rw [hg, e]))), fun i hi => ?_⟩
    obtain ⟨u, h3, h4⟩ := h2 i hi
    exact ⟨u, h3, h4.ne h.str (by decide) hset⟩
  · obtain ⟨cs, h1, h2⟩ := h.lin
    refine ⟨cs, ownsRow_same h1 (fun g hg => hset g (fun e => h.nlv (by rw [hg, e]))), fun i hi => ?_⟩
    obtain ⟨h5, u, h3, h4⟩ := h2 i hi
    exact ⟨h5, u, h3, h4.ne h.str (by decide) hset⟩

theorem RefAt.c0 (h : RefAt w p sv lv left S D) : w.cell? ⟨p, 0, none⟩ = some sv := by rw [cell_of_row _ _ _ _ _ _ h.str]; simp
theorem RefAt.c1 (h : RefAt w p sv lv left S D) : w.cell? ⟨p, 1, none⟩ = some lv := by rw [cell_of_row _ _ _ _ _ _ h.str]; simp
theorem RefAt.c2 (h : RefAt w p sv lv left S D) : w.cell? ⟨p, 2, none⟩ = some (.int .i64 left) := by rw [cell_of_row _ _ _ _ _ _ h.str]; simp
theorem RefAt.c3 (h : RefAt w p sv lv left S D) : w.cell? ⟨p, 3, none⟩ = some (.bool D.down) := by rw [cell_of_row _ _ _ _ _ _ h.str]; simp
theorem RefAt.fr (h : RefAt w p sv lv left S D) (i : Nat) : w.frozen? ⟨p, i, none⟩ = false := frozen_of_row _ _ _ _ _ h.str

/-- The slice of sectors, and what stands at i. -/
theorem RefAt.sv_form (h : RefAt w p sv lv left S D) (hpos : 0 < D.secs.length) : ∃ g cap, sv = .slice (some ⟨g, 0, none⟩) D.secs.length cap ∧ D.secs.length ≤ cap ∧ cap ≤ maxLen ∧ S g ∧ ∀ i, i < D.secs.length → ∃ v, w.cell? ⟨g, i, none⟩ = some v ∧ SecV w S v (D.secs.getD i []) := by
  obtain ⟨cs, h1, h2⟩ := h.sec
  rcases h1.2 with ⟨_, h0⟩ | ⟨g, cap, cur, rfl, _, hb, h3, h4, h5, h6⟩
  · omega
  · refine ⟨g, cap, rfl, h3, h4, h.ins g rfl, fun i hi => ?_⟩
    obtain ⟨v, h7, h8⟩ := h2 i hi
    refine ⟨v, ?_, h8⟩
    rw [cell_of_row _ _ _ _ _ _ hb]
    rw [← h6, List.getElem?_take, if_pos (by omega)] at h7
    simpa using h7
theorem RefAt.lv_form (h : RefAt w p sv lv left S D) : (lv = .slice none 0 0 ∧ D.mem = []) ∨ ∃ g cap, lv = .slice (some ⟨g, 0, none⟩) D.mem.length cap ∧ D.mem.length ≤ cap ∧ cap ≤ maxLen ∧ S g ∧ ∀ i, i < D.mem.length → w.cell? ⟨g, i * 2, none⟩ = some (.int .i64 ((D.mem.getD i (0, [])).1 : Int)) ∧ ∃ v, w.cell? ⟨g, i * 2 + 1, none⟩ = some v ∧ SecV w S v (D.mem.getD i (0, [])).2 := by
  obtain ⟨cs, h1, h2⟩ := h.lin
  rcases h1.2 with ⟨h0, h9⟩ | ⟨g, cap, cur, rfl, _, hb, h3, h4, h5, h6⟩
  · exact .inl ⟨h0, List.eq_nil_of_length_eq_zero h9⟩
  · refine .inr ⟨g, cap, rfl, h3, h4, h.inl g rfl, fun i hi => ?_⟩
    obtain ⟨h7, v, h8, h9⟩ := h2 i hi
    rw [← h6, List.getElem?_take, if_pos (by omega)] at h7 h8
    refine ⟨?_, v, ?_, h9⟩
    · rw [cell_of_row _ _ _ _ _ _ hb, Nat.mul_comm]; simpa using h7
    · rw [cell_of_row _ _ _ _ _ _ hb, Nat.mul_comm]; simpa using h8
end
end Go.Proofs.YtmphnhigohkaeaaDoor
/-! Contracts of the reference's device: copied, step, Fail, Read. (Part of the proof of DevicePlays.) -/
namespace Go.Proofs.YtmphnhigohkaeaaDoor
open Go.RowKit
set_option linter.unusedVariables false

theorem copied_any (a : Option Addr) (cap : Nat) (l : List Int) (w : World) (hb : Bs w a cap l) (hne : l ≠ []) :
    Calls Tryd.prog 46 #[.slice a l.length cap] w fun e w' => ∃ g c, e = .returned (.slice (some ⟨g, 0, none⟩) l.length c) ∧ Own w' w.heap.size g c l ∧ Below w.heap.size w w' := by
  obtain ⟨i0, hi0, hz0, hz1, hz2⟩ := info_parts info_u8
  have hl := hb.2.2.1
  go_enter Tryd.func46, Tryd.ntmps46
  go_wp2_with (at_builtin; refine wpList_append_new rfl _ _ 41 rfl i0 Tryd.underlying41 hi0 hz0 hz1 hz2 a cap l rfl rfl hb hne ?_)
  intro g c w1 hown hbel
  go_wp2
  go_ret
  exact ⟨g, c, rfl, hown, hbel⟩

section
variable {w : World} {p : Nat} {S : Nat → Prop} {D : DS}

theorem rstep_any {sv lv : Value} {left : Int} (h : RefAt w p sv lv left S D) (hd : D.down = false) :
    Calls Tryd.prog 63 #[.pointer (some ⟨p, 0, none⟩)] w fun e w' => e = .returned (.bool (decide (D.left ≠ 0))) ∧ (∃ left', RefAt w' p sv lv left' S D.step) ∧ Turn S S w w' := by
  have c2 := h.c2
  have c3 := h.c3
  have f2 := h.fr 2
  have f3 := h.fr 3
  rw [hd] at c3
  have hlb := h.lb
  have hlf : left = (if D.left < 0 then -1 else D.left) := by
    rcases h.lf with h1 | h1
    · rw [hd] at h1; cases h1
    · exact h1
  have hol := h.ok.left
  by_cases h0 : D.left = 0
  · have hs : D.step = { D with down := true, left := D.left } := by unfold DS.step; rw [if_pos h0]
    rw [hs, decide_eq_false (fun h => h h0)]
    have hl0 : left = 0 := by rw [hlf, h0]; rfl
    have hstr1 : (w.setCell ⟨p, 3, none⟩ (.bool true)).heap[p]? = some (.cells #[sv, lv, .int .i64 left, .bool true] 72 (0, 0)) := by rw [heap_setCell_same _ _ _ _ _ _ h.str]; simp
    have h1 := h.field (lf' := D.left) hstr1 (.inl rfl) hlb hol
    have hstr2 : ((w.setCell ⟨p, 3, none⟩ (.bool true)).setCell ⟨p, 2, none⟩ (.int .i64 (-1))).heap[p]? = some (.cells #[sv, lv, .int .i64 (-1), .bool true] 72 (0, 0)) := by rw [heap_setCell_same _ _ _ _ _ _ hstr1]; simp
    have h2 := h1.field (lf' := D.left) hstr2 (.inl rfl) (by omega) hol
    have H2 := hide h2
    have HI := hide h.inp
    rw [hl0] at c2
    clear h h1 h2 hstr1 hstr2 hs hlf hl0 h0 hlb
    go_enter Tryd.func63, Tryd.ntmps63
    go_wp2
    go_ret
    exact ⟨rfl, ⟨_, unhide H2⟩, (Turn.setCell _ _ (unhide HI)).trans (Turn.setCell _ _ (unhide HI))⟩
  · rw [decide_eq_true h0]
    by_cases h1 : 0 < D.left
    · have hs : D.step = { D with down := false, left := D.left - 1 } := by unfold DS.step; rw [if_neg h0, if_pos h1, ← hd]
      rw [hs]
      have hl0 : left = D.left := by rw [hlf, if_neg (by omega)]
      have hstr1 : (w.setCell ⟨p, 2, none⟩ (.int .i64 (left - 1))).heap[p]? = some (.cells #[sv, lv, .int .i64 (left - 1), .bool false] 72 (0, 0)) := by rw [heap_setCell_same _ _ _ _ _ _ h.str]; simp [hd]
      have h2 := h.field (lf' := D.left - 1) hstr1 (.inr (by rw [if_neg (by omega), hl0])) (by omega) (by omega)
      have H2 := hide h2
      have HI := hide h.inp
      have e1 : 0 < left := by omega
      clear h h2 hstr1 hs hlf hl0 h0 h1
      go_enter Tryd.func63, Tryd.ntmps63
      go_wp2
      go_ret
      exact ⟨rfl, ⟨_, unhide H2⟩, Turn.setCell _ _ (unhide HI)⟩
    · have hs : D.step = D := by unfold DS.step; rw [if_neg h0, if_neg h1]
      rw [hs]
      have hl0 : left = -1 := by rw [hlf, if_pos (by omega)]
      rw [hl0] at c2
      have H2 := hide h
      clear h hs hlf hl0 h0 h1 hlb
      go_enter Tryd.func63, Tryd.ntmps63
      go_wp2
      go_ret
      exact ⟨rfl, ⟨_, unhide H2⟩, Turn.refl _ _⟩

theorem rfail_any (n : Int) (hn : -9223372036854775808 ≤ n ∧ n ≤ 9223372036854775807) (h : Ref w p S D) :
    Calls Tryd.prog 13 #[.pointer (some ⟨p, 0, none⟩), .int .i64 n] w fun e w' => e = .returned (.tuple #[]) ∧ Ref w' p S { D with left := n } ∧ Turn S S w w' := by
  obtain ⟨sv, lv, left, h⟩ := h
  have c2 := h.c2
  have f2 := h.fr 2
  by_cases h0 : n < 0
  · have hstr1 : (w.setCell ⟨p, 2, none⟩ (.int .i64 (-1))).heap[p]? = some (.cells #[sv, lv, .int .i64 (-1), .bool D.down] 72 (0, 0)) := by rw [heap_setCell_same _ _ _ _ _ _ h.str]; simp
    have h2 := h.field (lf' := n) hstr1 (.inr (by rw [if_pos h0])) (by omega) hn
    have H2 := hide h2
    have HI := hide h.inp
    clear h h2 hstr1
    go_enter Tryd.func13, Tryd.ntmps13
    go_wp2
    go_end0
    exact ⟨rfl, ⟨sv, lv, _, unhide H2⟩, Turn.setCell _ _ (unhide HI)⟩
  · have hstr1 : (w.setCell ⟨p, 2, none⟩ (.int .i64 n)).heap[p]? = some (.cells #[sv, lv, .int .i64 n, .bool D.down] 72 (0, 0)) := by rw [heap_setCell_same _ _ _ _ _ _ h.str]; simp
    have h2 := h.field (lf' := n) hstr1 (.inr (by rw [if_neg h0])) (by omega) hn
    have H2 := hide h2
    have HI := hide h.inp
    clear h h2 hstr1
    go_enter Tryd.func13, Tryd.ntmps13
    go_wp2
    go_end0
    exact ⟨rfl, ⟨sv, lv, _, unhide H2⟩, Turn.setCell _ _ (unhide HI)⟩

theorem rread_no (i : Int) (h : Ref w p S D) (hpos : 0 < D.secs.length) (he : D.readE i ≠ 0) :
    Calls Tryd.prog 18 #[.pointer (some ⟨p, 0, none⟩), .int .i64 i] w fun e w' => e = .returned (.tuple #[.slice none 0 0, .int .i64 (D.readE i)]) ∧ w = w' := by
  obtain ⟨sv, lv, left, h⟩ := h
  have c0 := h.c0
  have c3 := h.c3
  have hlen := h.ok.len
  obtain ⟨g, cap, rfl, _, _, _, _⟩ := h.sv_form hpos
  clear h
  unfold DS.readE at *
  by_cases h1 : i < 0
  · rw [if_pos (.inl h1)]
    clear he
    go_enter Tryd.func18, Tryd.ntmps18
    go_wp2
    go_ret2
    exact ⟨rfl, rfl⟩
  · by_cases h2 : (D.secs.length : Int) ≤ i
    · rw [if_pos (.inr h2)]
      clear he
      go_enter Tryd.func18, Tryd.ntmps18
      go_wp2
      go_ret2
      exact ⟨rfl, rfl⟩
    · have hn : ¬ (i < 0 ∨ (D.secs.length : Int) ≤ i) := by omega
      rw [if_neg hn] at he ⊢
      by_cases h3 : D.down = true
      · rw [if_pos h3]
        rw [h3] at c3
        clear he hn
        go_enter Tryd.func18, Tryd.ntmps18
        go_wp2
        go_ret2
        exact ⟨rfl, rfl⟩
      · rw [if_neg h3] at he
        exact absurd rfl he

theorem rread_yes (i : Nat) (h : Ref w p S D) (hi : i < D.secs.length) (hd : D.down = false) :
    Calls Tryd.prog 18 #[.pointer (some ⟨p, 0, none⟩), .int .i64 i] w fun e w' => (∃ v, e = .returned (.tuple #[v, .int .i64 0]) ∧ SecV w S v (D.rd i)) ∧ w = w' := by
  obtain ⟨sv, lv, left, h⟩ := h
  have c0 := h.c0
  have c1 := h.c1
  have c3 := h.c3
  rw [hd] at c3
  have hlen := h.ok.len
  have hml := h.ok.mem_len
  have hap := h.ok.apart
  obtain ⟨g, cap, rfl, hg1, hg2, _, hg4⟩ := h.sv_form (by omega)
  obtain ⟨vs, hvs, hsv⟩ := hg4 i hi
  obtain ⟨gv, cv, rfl, hsv'⟩ : ∃ gv cv, vs = .slice (some ⟨gv, 0, none⟩) 32 cv ∧ SecV w S vs (D.secs.getD i []) := by
    obtain ⟨gv, cv, e, r⟩ := hsv
    exact ⟨gv, cv, e, gv, cv, e, r⟩
  have HSV := hide hsv'
  have e1 : ¬ (i : Int) < 0 := by omega
  have e2 : ¬ (D.secs.length : Int) ≤ (i : Int) := by omega
  have e3 : (0 : Int) ≤ (i : Int) := by omega
  have e4 : (i : Int) < (D.secs.length : Int) := by omega
  unfold maxLen at hg2
  have hform := h.lv_form
  clear h hsv hsv' hg4
  rcases hform with ⟨rfl, hm0⟩ | ⟨gl, lc, rfl, hl1, hl2, _, hl4⟩
  · have hrd : D.rd i = D.secs.getD i [] := by unfold DS.rd; rw [hm0]; rfl
    have HRD := hide hrd
    clear hrd hm0
    go_enter Tryd.func18, Tryd.ntmps18
    go_wp2_with fail
    go_loop [6] (fun v => v = .int .i64 0) (fun _ => 0)
    case atStart => rfl
    case round =>
      subst hrel
      go_wp2
      go_ret2
      exact ⟨⟨_, rfl, by rw [unhide HRD]; exact unhide HSV⟩, rfl⟩
  · unfold maxLen at hl2
    have HL4 := hide hl4
    clear hl4
    go_enter Tryd.func18, Tryd.ntmps18
    go_wp2_with fail
    go_loop [6] (fun v => ∃ k : Nat, k ≤ D.mem.length ∧ v = .int .i64 k ∧ ∀ j, j < k → (D.mem.getD j (0, [])).1 ≠ i) (fun v => D.mem.length - (intOf v).toNat)
    case atStart => exact ⟨0, by omega, rfl, fun j hj => absurd hj (Nat.not_lt_zero j)⟩
    case round =>
      obtain ⟨k, hk, rfl, hno⟩ := hrel
      have HNO := hide hno
      clear hno
      by_cases hlt : k < D.mem.length
      · obtain ⟨q0, vb, q1, hvb⟩ := (unhide HL4) k hlt
        obtain ⟨gb, cb, rfl, hvb'⟩ : ∃ gb cb, vb = .slice (some ⟨gb, 0, none⟩) 32 cb ∧ SecV w S vb (D.mem.getD k (0, [])).2 := by
          obtain ⟨gb, cb, e, r⟩ := hvb
          exact ⟨gb, cb, e, gb, cb, e, r⟩
        have hlk := lookup_at hap hlt
        obtain ⟨ky, bd, hkb⟩ : ∃ ky bd, D.mem.getD k (0, []) = (ky, bd) := ⟨_, _, rfl⟩
        simp only [hkb] at q0 hvb' hlk
        have f0 : (0 : Int) ≤ (k : Int) := by omega
        have f1 : (k : Int) < (D.mem.length : Int) := by omega
        by_cases hky : ky = i
        · subst hky
          have hrd : D.rd ky = bd := by unfold DS.rd; rw [hlk]; rfl
          have HVB := hide hvb'
          have HRD := hide hrd
          clear hvb' hvb hlk hrd hkb
          go_wp2
          go_ret2
          exact ⟨⟨_, rfl, by rw [unhide HRD]; exact unhide HVB⟩, rfl⟩
        · have hky' : ¬ (ky : Int) = (i : Int) := by omega
          have HKB := hide hkb
          have HKY := hide hky
          clear hvb' hvb hlk hkb hky
          go_wp2
          go_round
          case rel => exact ⟨k + 1, by omega, by go_num, fun j hj => by
            by_cases e : j = k
            · rw [e, unhide HKB]; exact unhide HKY
            · exact (unhide HNO) j (by omega)⟩
          case measure => simp [intOf]; omega
      · obtain rfl : k = D.mem.length := by omega
        have hrd : D.rd i = D.secs.getD i [] := by
          unfold DS.rd
          rw [lookup_none.2 (fun hm => by
            obtain ⟨q, hq, hq2⟩ := List.mem_map.1 hm
            obtain ⟨j, hj, hj2⟩ := List.getElem_of_mem hq
            have := (unhide HNO) j hj
            simp [List.getD, hj, hj2] at this
            exact this hq2)]
          rfl
        have HRD := hide hrd
        clear hrd
        go_wp2
        go_ret2
        exact ⟨⟨_, rfl, by rw [unhide HRD]; exact unhide HSV⟩, rfl⟩
end
end Go.Proofs.YtmphnhigohkaeaaDoor
/-! Contracts of the reference's device: Flush. (Part of the proof of DevicePlays.) -/
namespace Go.Proofs.YtmphnhigohkaeaaDoor
open Go.RowKit
set_option linter.unusedVariables false

section
variable {w : World} {p : Nat} {S : Nat → Prop} {D : DS}

theorem oneCell_slice (a : Option Addr) (n c : Nat) : (Value.slice a n c).oneCell' = true := rfl

/-- A sector is laid anew. -/
theorem RefAt.setSec {lv : Value} {left : Int} {g n cap : Nat} (h : RefAt w p (.slice (some ⟨g, 0, none⟩) n cap) lv left S D) (i : Nat) (hi : i < D.secs.length) {v : Value} {l : List Int} (hv : SecV w S v l) (hl : Sec l) :
    RefAt (w.setCell ⟨g, i, none⟩ v) p (.slice (some ⟨g, 0, none⟩) n cap) lv left S { D with secs := D.secs.set i l } ∧ Turn S S w (w.setCell ⟨g, i, none⟩ v) := by
  obtain ⟨cs, h1, h2⟩ := h.sec
  obtain rfl : n = D.secs.length := by
    rcases h1.2 with ⟨e, _⟩ | ⟨g', c', cur', e, _⟩
    · cases e
    · simp only [Value.slice.injEq] at e; exact e.2.1
  have hgS : S g := h.ins g rfl
  obtain ⟨cur, hcur⟩ := ownsRow_block h1 (g := g) rfl
  have hgp : g ≠ p := fun e => h.nsv (by rw [← e]; rfl)
  have hset : ∀ k, k ≠ g → (w.setCell ⟨g, i, none⟩ v).heap[k]? = w.heap[k]? := fun k hk => heap_setCell_other _ _ _ _ hk
  have hlg : lv.ownBlock ≠ some g := by
    intro e
    obtain ⟨cs2, h3, _⟩ := h.lin
    obtain ⟨cur2, h4⟩ := ownsRow_block h3 e
    rw [hcur] at h4
    simp at h4
  refine ⟨⟨⟨by show (D.secs.set i l).length ≤ 300; rw [List.length_set]; exact h.ok.len, fun s hs => ?_, fun q hq => by show q.1 < (D.secs.set i l).length ∧ _; rw [List.length_set]; exact h.ok.mem q hq, h.ok.apart, h.ok.left⟩, (hset p hgp.symm).trans h.str, ?_, ?_, h.inp, h.ins, h.inl, fun k hk => by simpa using h.lt k hk, h.lf, h.lb⟩, Turn.setCell _ _ hgS⟩
  · rcases mem_set_or hs with h3 | h3
    · exact h.ok.sec s h3
    · rw [h3]; exact hl
  · show ∃ cs, (w.setCell ⟨g, i, none⟩ v).ownsRow 0 41 1 (.slice (some ⟨g, 0, none⟩) D.secs.length cap) (D.secs.set i l).length cs ∧ secCells (w.setCell ⟨g, i, none⟩ v) S cs (D.secs.set i l)
    rw [List.length_set]
    refine ⟨cs.set i v, (World.ownsRow.stored h1 i v).1, fun j hj => ?_⟩
    rw [List.length_set] at hj
    have hcl : cs.length = D.secs.length := by have := h1.1; omega
    by_cases e : j = i
    · subst e
      refine ⟨v, by rw [List.getElem?_set_self (by omega)], ?_⟩
      rw [getD_set_self _ _ _ hi]
      exact hv.ne hcur (by decide) hset
    · obtain ⟨u, h5, h6⟩ := h2 j hj
      refine ⟨u, by rw [List.getElem?_set_ne (fun e2 => e e2.symm)]; exact h5, ?_⟩
      rw [getD_set_ne _ _ (fun e2 => e e2.symm)]
      exact h6.ne hcur (by decide) hset
  · obtain ⟨cs2, h3, h4⟩ := h.lin
    refine ⟨cs2, ownsRow_same h3 (fun k hk => hset k (fun e => hlg (by rw [hk, e]))), fun j hj => ?_⟩
    obtain ⟨h5, u, h6, h7⟩ := h4 j hj
    exact ⟨h5, u, h6, h7.ne hcur (by decide) hset⟩

/-- All lines are gone. -/
theorem RefAt.forget {sv lv : Value} {left : Int} (h : RefAt w p sv lv left S D) : RefAt (w.setCell ⟨p, 1, none⟩ (.slice none 0 0)) p sv (.slice none 0 0) left S { D with mem := [] } := by
  have hset : ∀ k, k ≠ p → (w.setCell ⟨p, 1, none⟩ (.slice none 0 0)).heap[k]? = w.heap[k]? := fun k hk => heap_setCell_other _ _ _ _ hk
  refine ⟨⟨h.ok.len, h.ok.sec, fun q hq => (by cases hq), List.nodup_nil, h.ok.left⟩, by rw [heap_setCell_same _ _ _ _ _ _ h.str]; simp, ?_, ⟨[], World.ownsRow_nil _ _ _ _, fun i hi => absurd hi (Nat.not_lt_zero i)⟩, h.inp, h.ins, fun g hg => (by cases hg), fun k hk => by simpa using h.lt k hk, h.lf, h.lb⟩
  obtain ⟨cs, h1, h2⟩ := h.sec
  refine ⟨cs, ownsRow_same h1 (fun g hg => hset g (fun e => h.nsv (by rw [hg, e]))), fun i hi => ?_⟩
  obtain ⟨u, h3, h4⟩ := h2 i hi
  exact ⟨u, h3, h4.ne h.str (by decide) hset⟩

theorem rflush_go {sv lv : Value} {left : Int} (h : RefAt w p sv lv left S D) (hpos : 0 < D.secs.length) (h1 : D.down = false) (h2 : ¬ D.left = 0) :
    Calls Tryd.prog 35 #[.pointer (some ⟨p, 0, none⟩)] w fun e w' => e = .returned (.int .i64 0) ∧ Ref w' p S D.step.flush ∧ Turn S S w w' := by
  have c3 := h.c3
  rw [h1] at c3
  have hst := rstep_any h h1
  rw [decide_eq_true h2] at hst
  have HS := hide hst
  have hsl : D.step.secs.length = D.secs.length := by unfold DS.step; split; rfl; split; rfl; rfl
  have hpos' : 0 < D.step.secs.length := by omega
  clear h hst hsl
  go_enter Tryd.func35, Tryd.ntmps35
  go_wp2_with fail
  refine (unhide HS).mono ?_
  rintro e w1 ⟨rfl, ⟨left', h'⟩, ht⟩
  clear HS c3 h1 h2 hpos
  have c1 := h'.c1
  have hml := h'.ok.mem_len
  have hlen := h'.ok.len
  have H := hide h'
  have HT := hide ht
  obtain ⟨gs, cap, rfl, hcap, hcm, hgS, _⟩ := h'.sv_form hpos'
  have hform := h'.lv_form
  unfold maxLen at hcm
  clear h' ht
  rcases hform with ⟨rfl, hm0⟩ | ⟨gl, lc, rfl, hl1, hl2, hglS, _⟩
  · have hfl : D.step.flush = { D.step with mem := [] } := by unfold DS.flush; rw [hm0]; rfl
    have HFL := hide hfl
    have H2 := hide (unhide H).forget
    have f1 := (unhide H).fr 1
    have HI := hide (unhide H).inp
    clear hfl hm0
    go_wp2_with fail
    go_loop [4] (fun v => v = .int .i64 0) (fun _ => 0)
    case atStart => rfl
    case round =>
      subst hrel
      go_wp2
      go_ret
      exact ⟨rfl, ⟨_, _, _, by rw [unhide HFL]; exact unhide H2⟩, (unhide HT).trans (Turn.setCell _ _ (unhide HI))⟩
  · unfold maxLen at hl2
    have hne1 : gs ≠ p := fun e => (unhide H).nsv (by rw [← e]; rfl)
    have hne2 : gl ≠ p := fun e => (unhide H).nlv (by rw [← e]; rfl)
    have hne3 : gs ≠ gl := by
      intro e
      obtain ⟨cs, q1, _⟩ := (unhide H).sec
      obtain ⟨cs2, q2, _⟩ := (unhide H).lin
      obtain ⟨cur, q3⟩ := ownsRow_block q1 (g := gs) rfl
      obtain ⟨cur2, q4⟩ := ownsRow_block q2 (g := gl) rfl
      rw [e, q4] at q3
      simp at q3
    go_wp2_with fail
    go_loopw [4] (fun v wr => ∃ k : Nat, k ≤ D.step.mem.length ∧ v = .int .i64 k ∧ RefAt wr p (.slice (some ⟨gs, 0, none⟩) D.step.secs.length cap) (.slice (some ⟨gl, 0, none⟩) D.step.mem.length lc) left' S { D.step with secs := flushK D.step.secs D.step.mem k } ∧ Turn S S w wr) (fun v _ => D.step.mem.length - (intOf v).toNat)
    case atStart => exact ⟨0, Nat.zero_le _, rfl, unhide H, unhide HT⟩
    case round =>
      obtain ⟨k, hk, rfl, hd, htr⟩ := hrel
      clear H HT c1
      have d1 := hd.c1
      by_cases hlt : k < D.step.mem.length
      · obtain ⟨ky, bd, hkb⟩ : ∃ ky bd, D.step.mem.getD k (0, []) = (ky, bd) := ⟨_, _, rfl⟩
        have d0 := hd.c0
        have hpm : D.step.mem.getD k (0, []) ∈ D.step.mem := pair_mem hlt
        have hset : flushK D.step.secs D.step.mem (k + 1) = (flushK D.step.secs D.step.mem k).set (D.step.mem.getD k (0, [])).1 (D.step.mem.getD k (0, [])).2 := rfl
        have hq := hd.ok.mem _ hpm
        obtain ⟨q0, vb, q1, hvb⟩ : wr.cell? ⟨gl, k * 2, none⟩ = some (.int .i64 ((D.step.mem.getD k (0, [])).1 : Int)) ∧ ∃ v, wr.cell? ⟨gl, k * 2 + 1, none⟩ = some v ∧ SecV wr S v (D.step.mem.getD k (0, [])).2 := by
          rcases hd.lv_form with ⟨e, _⟩ | ⟨g', c', e, _, _, _, hh⟩
          · cases e
          · simp only [Value.slice.injEq, Option.some.injEq, Addr.mk.injEq, and_true] at e
            rw [e.1]; exact hh k hlt
        simp only [hkb] at q0 hvb hset hq
        have hkl : ky < D.step.secs.length := by have := hq.1; rwa [length_flushK] at this
        obtain ⟨v0, hv0⟩ : ∃ v, wr.cell? ⟨gs, ky, none⟩ = some v := by
          obtain ⟨g', c', e, _, _, _, hh⟩ := hd.sv_form (by show 0 < (flushK D.step.secs D.step.mem k).length; rw [length_flushK]; exact hpos')
          simp only [Value.slice.injEq, Option.some.injEq, Addr.mk.injEq, and_true] at e
          obtain ⟨v, hv, _⟩ := hh ky hq.1
          rw [e.1]; exact ⟨v, hv⟩
        obtain ⟨gb, cb, rfl, hvb'⟩ : ∃ gb cb, vb = .slice (some ⟨gb, 0, none⟩) 32 cb ∧ SecV wr S vb bd := by
          obtain ⟨gb, cb, e, r⟩ := hvb
          exact ⟨gb, cb, e, gb, cb, e, r⟩
        have hfz : wr.frozen? ⟨gs, ky, none⟩ = false := by
          obtain ⟨cs, q5, _⟩ := hd.sec
          obtain ⟨cur, q6⟩ := ownsRow_block q5 (g := gs) rfl
          exact frozen_of_row _ _ _ _ _ q6
        have hd' : RefAt wr.drew p (.slice (some ⟨gs, 0, none⟩) D.step.secs.length cap) (.slice (some ⟨gl, 0, none⟩) D.step.mem.length lc) left' S { D.step with secs := flushK D.step.secs D.step.mem k } := hd.same (Nat.le_refl _) (fun _ _ => rfl)
        have hres := hd'.setSec ky hq.1 (v := .slice (some ⟨gb, 0, none⟩) 32 cb) (l := bd) hvb' hq.2
        have HR := hide hres
        have HS := hide hset
        have HTR := hide htr
        have f0 : (0 : Int) ≤ (k : Int) := by omega
        have f1 : (k : Int) < (D.step.mem.length : Int) := by omega
        have f2 : (0 : Int) ≤ (ky : Int) := by omega
        have f3 : (ky : Int) < (D.step.secs.length : Int) := by omega
        clear hd hd' hres hset htr hvb hvb' hq hpm hkb
        go_wp2_with fail
        go_region_held3 (fun w' => w'.cell? ⟨p, 0, none⟩ = some (.slice (some ⟨gs, 0, none⟩) D.step.secs.length cap) ∧ w'.cell? ⟨p, 1, none⟩ = some (.slice (some ⟨gl, 0, none⟩) D.step.mem.length lc) ∧ w'.cell? ⟨gl, k * 2, none⟩ = some (.int .i64 (ky : Int)) ∧ w'.cell? ⟨gl, k * 2 + 1, none⟩ = some (.slice (some ⟨gb, 0, none⟩) 32 cb)) (first | go_keep | (go_split_ands; refine ⟨?_, ?_, ?_, ?_⟩ <;> first | go_keep | (simp [hne1, hne2, hne3, Ne.symm hne1, Ne.symm hne2, Ne.symm hne3]; assumption))) (fail)
        go_wp2
        go_roundw
        case rel => exact ⟨k + 1, by omega, by go_num, by rw [unhide HS]; exact (unhide HR).1, (unhide HTR).trans ((Turn.drew S _).trans (unhide HR).2)⟩
        case measure => simp [intOf]; omega
      · obtain rfl : k = D.step.mem.length := by omega
        have H2 := hide hd.forget
        have f1 := hd.fr 1
        have HI := hide hd.inp
        have HTR := hide htr
        clear hd htr
        go_wp2
        go_ret
        exact ⟨rfl, ⟨_, _, _, unhide H2⟩, (unhide HTR).trans (Turn.setCell _ _ (unhide HI))⟩

theorem rflush_any (h : Ref w p S D) (hpos : 0 < D.secs.length) :
    Calls Tryd.prog 35 #[.pointer (some ⟨p, 0, none⟩)] w fun e w' => e = .returned (.int .i64 D.flushE) ∧ Ref w' p S D.doFlush ∧ Turn S S w w' := by
  obtain ⟨sv, lv, left, h⟩ := h
  unfold DS.flushE DS.doFlush
  by_cases h1 : D.down = true
  · rw [if_pos h1, if_pos h1]
    have c3 := h.c3
    rw [h1] at c3
    have H := hide h
    clear h
    go_enter Tryd.func35, Tryd.ntmps35
    go_wp2
    go_ret
    exact ⟨rfl, ⟨sv, lv, left, unhide H⟩, Turn.refl _ _⟩
  · rw [if_neg h1, if_neg h1]
    have h1' : D.down = false := by simpa using h1
    by_cases h2 : D.left = 0
    · rw [if_pos h2, if_pos h2]
      have c3 := h.c3
      rw [h1'] at c3
      have hst := rstep_any h h1'
      rw [decide_eq_false (fun h => h h2)] at hst
      have he : D.step = { D with down := true } := by unfold DS.step; rw [if_pos h2]
      rw [he] at hst
      have HS := hide hst
      clear h hst he h1 h2
      go_enter Tryd.func35, Tryd.ntmps35
      go_wp2_with fail
      refine (unhide HS).mono ?_
      rintro e w1 ⟨rfl, ⟨left', h'⟩, ht⟩
      go_wp2
      go_ret
      exact ⟨rfl, ⟨sv, lv, left', h'⟩, ht⟩
    · rw [if_neg h2, if_neg h2]
      exact rflush_go h hpos h1' h2
end
end Go.Proofs.YtmphnhigohkaeaaDoor
/-! Contracts of the reference's device: Write. (Part of the proof of DevicePlays.) -/
namespace Go.Proofs.YtmphnhigohkaeaaDoor
open Go.RowKit
set_option linter.unusedVariables false

theorem memPut_set {m : List (Nat × List Int)} (hn : (m.map (·.1)).Nodup) {q : Nat} (hq : q < m.length) (l : List Int) : memPut m (m.getD q (0, [])).1 l = m.set q ((m.getD q (0, [])).1, l) := by
  induction m generalizing q with
  | nil => simp at hq
  | cons x r ih =>
    obtain ⟨j, c⟩ := x
    simp only [List.map_cons, List.nodup_cons] at hn
    cases q with
    | zero => simp [memPut]
    | succ q =>
      have hq' : q < r.length := by simpa using hq
      have e2 : ((j, c) :: r).getD (q + 1) (0, []) = r.getD q (0, []) := by simp [List.getD]
      have hm := key_mem hq'
      have hne : ¬ j = (r.getD q (0, [])).1 := fun e => hn.1 (e ▸ hm)
      rw [e2]
      unfold memPut
      rw [if_neg hne, ih hn.2 hq', List.set_cons_succ]

theorem Turn.grow {S : Nat → Prop} {w w1 : World} (hb : Below w.heap.size w w1) {g : Nat} (hg : w.heap.size ≤ g) : Turn S (fun k => S k ∨ k = g) w w1 :=
  ⟨hb.os, hb.tape, hb.output, hb.size, fun k hk _ => hb.block k hk, fun k hk hs => by
    rcases hs with h | h
    · exact h
    · omega⟩

theorem below_of_drew {w w1 : World} (h : Below w.drew.heap.size w.drew w1) : Below w.heap.size w w1 := ⟨h.os, h.tape, h.output, h.size, h.block⟩
theorem bcell {W w1 : World} (hb : Below W.heap.size W w1) : (∀ b o, b < W.heap.size → w1.cell? ⟨b, o, none⟩ = W.cell? ⟨b, o, none⟩) ∧ (∀ b o, b < W.heap.size → w1.frozen? ⟨b, o, none⟩ = W.frozen? ⟨b, o, none⟩) :=
  ⟨fun b o h => hb.cell (p := ⟨b, o, none⟩) h, fun b o h => hb.frozen (p := ⟨b, o, none⟩) h⟩

section
variable {w w' : World} {p : Nat} {S S' : Nat → Prop} {D : DS}

theorem SecV.wide {v : Value} {l : List Int} (h : SecV w S v l) (hi : ∀ k, S k → S' k) : SecV w S' v l := h.same (fun _ _ => rfl) hi

/-- What 'copied' made. -/
theorem secV_own {base g c : Nat} {l : List Int} (h : Own w base g c l) (hs : Sec l) (hg : S g) : SecV w S (.slice (some ⟨g, 0, none⟩) 32 c) l := by
  refine ⟨g, c, rfl, hg, ?_, h.bs hs.2 (by rw [hs.1]; decide)⟩
  exact ownsRow_block h (g := g) rfl

theorem RefAt.wide {sv lv : Value} {left : Int} (h : RefAt w p sv lv left S D) (hi : ∀ k, S k → S' k) (hlt : ∀ k, S' k → k < w.heap.size) : RefAt w p sv lv left S' D := by
  refine ⟨h.ok, h.str, ?_, ?_, hi _ h.inp, fun g hg => hi g (h.ins g hg), fun g hg => hi g (h.inl g hg), hlt, h.lf, h.lb⟩
  · obtain ⟨cs, h1, h2⟩ := h.sec
    refine ⟨cs, h1, fun i hi2 => ?_⟩
    obtain ⟨u, h3, h4⟩ := h2 i hi2
    exact ⟨u, h3, h4.wide hi⟩
  · obtain ⟨cs, h1, h2⟩ := h.lin
    refine ⟨cs, h1, fun i hi2 => ?_⟩
    obtain ⟨h5, u, h3, h4⟩ := h2 i hi2
    exact ⟨h5, u, h3, h4.wide hi⟩

/-- A line's body is laid anew. -/
theorem RefAt.setLine {sv : Value} {left : Int} {g n cap : Nat} (h : RefAt w p sv (.slice (some ⟨g, 0, none⟩) n cap) left S D) (q : Nat) (hq : q < D.mem.length) {v : Value} {l : List Int} (hv : SecV w S v l) (hl : Sec l) :
    RefAt (w.setCell ⟨g, q * 2 + 1, none⟩ v) p sv (.slice (some ⟨g, 0, none⟩) n cap) left S (D.put (D.mem.getD q (0, [])).1 l) ∧ Turn S S w (w.setCell ⟨g, q * 2 + 1, none⟩ v) := by
  obtain ⟨cs, h1, h2⟩ := h.lin
  obtain rfl : n = D.mem.length := by
    rcases h1.2 with ⟨e, _⟩ | ⟨g', c', cur', e, _⟩
    · cases e
    · simp only [Value.slice.injEq] at e; exact e.2.1
  have hgS : S g := h.inl g rfl
  obtain ⟨cur, hcur⟩ := ownsRow_block h1 (g := g) rfl
  have hgp : g ≠ p := fun e => h.nlv (by rw [← e]; rfl)
  have hset : ∀ k, k ≠ g → (w.setCell ⟨g, q * 2 + 1, none⟩ v).heap[k]? = w.heap[k]? := fun k hk => heap_setCell_other _ _ _ _ hk
  have hsg : sv.ownBlock ≠ some g := by
    intro e
    obtain ⟨cs2, h3, _⟩ := h.sec
    obtain ⟨cur2, h4⟩ := ownsRow_block h3 e
    rw [hcur] at h4
    simp at h4
  have hput : (D.put (D.mem.getD q (0, [])).1 l).mem = D.mem.set q ((D.mem.getD q (0, [])).1, l) := memPut_set h.ok.apart hq l
  refine ⟨⟨h.ok.put (h.ok.mem _ (pair_mem hq)).1 hl, (hset p hgp.symm).trans h.str, ?_, ?_, h.inp, h.ins, h.inl, fun k hk => by simpa using h.lt k hk, h.lf, h.lb⟩, Turn.setCell _ _ hgS⟩
  · obtain ⟨cs2, h3, h4⟩ := h.sec
    refine ⟨cs2, ownsRow_same h3 (fun k hk => hset k (fun e => hsg (by rw [hk, e]))), fun j hj => ?_⟩
    obtain ⟨u, h6, h7⟩ := h4 j hj
    exact ⟨u, h6, h7.ne hcur (by decide) hset⟩
  · rw [hput, List.length_set]
    refine ⟨cs.set (q * 2 + 1) v, (World.ownsRow.stored h1 (q * 2 + 1) v).1, fun j hj => ?_⟩
    rw [List.length_set] at hj
    have hcl : cs.length = D.mem.length * 2 := h1.1
    obtain ⟨h5, u, h6, h7⟩ := h2 j hj
    by_cases e : j = q
    · subst e
      have e1 : (D.mem.set j ((D.mem.getD j (0, [])).1, l)).getD j (0, []) = ((D.mem.getD j (0, [])).1, l) := by simp [List.getD, hq]
      rw [e1]
      exact ⟨by rw [List.getElem?_set_ne (by omega)]; exact h5, v, by rw [Nat.mul_comm, List.getElem?_set_self (by omega)], hv.ne hcur (by decide) hset⟩
    · have e1 : (D.mem.set q ((D.mem.getD q (0, [])).1, l)).getD j (0, []) = D.mem.getD j (0, []) := by simp [List.getD, List.getElem?_set_ne (fun e2 => e e2.symm)]
      rw [e1]
      exact ⟨by rw [List.getElem?_set_ne (by omega)]; exact h5, u, by rw [List.getElem?_set_ne (by omega)]; exact h6, h7.ne hcur (by decide) hset⟩
end
end Go.Proofs.YtmphnhigohkaeaaDoor
/-! Contracts of the reference's device: Write of what is there. (Part of the proof of DevicePlays.) -/
namespace Go.Proofs.YtmphnhigohkaeaaDoor
open Go.RowKit
set_option linter.unusedVariables false

section
variable {w : World} {p : Nat} {S : Nat → Prop} {D : DS}

theorem keys_same {m : List (Nat × List Int)} {i : Nat} (l : List Int) (hi : i ∈ m.map (·.1)) (k : Nat) : ((memPut m i l).getD k (0, [])).1 = (m.getD k (0, [])).1 := by
  have h : (memPut m i l).map (·.1) = m.map (·.1) := by rw [keys_put, if_pos hi]
  have h2 : ((memPut m i l).map (·.1))[k]? = (m.map (·.1))[k]? := by rw [h]
  rw [List.getElem?_map, List.getElem?_map] at h2
  simp only [List.getD]
  cases e1 : (memPut m i l)[k]? with
  | none => cases e2 : m[k]? with
    | none => rfl
    | some _ => rw [e1, e2] at h2; simp at h2
  | some x => cases e2 : m[k]? with
    | none => rw [e1, e2] at h2; simp at h2
    | some y => rw [e1, e2] at h2; simpa using h2
theorem length_put_old {m : List (Nat × List Int)} {i : Nat} (l : List Int) (hi : i ∈ m.map (·.1)) : (memPut m i l).length = m.length := by
  have h : (memPut m i l).map (·.1) = m.map (·.1) := by rw [keys_put, if_pos hi]
  rw [← length_keys, h, length_keys]

set_option maxHeartbeats 2000000 in
theorem rwrite_old {sv lv : Value} {left : Int} (i : Nat) (a : Option Addr) (cap : Nat) (l : List Int) (h : RefAt w p sv lv left S D) (hi : i < D.secs.length) (hd : D.down = false) (hb : Bs w a cap l) (hl : l.length = 32) (q : Nat) (hq : q < D.mem.length) (hqi : (D.mem.getD q (0, [])).1 = i) :
    Calls Tryd.prog 34 #[.pointer (some ⟨p, 0, none⟩), .int .i64 i, .slice a 32 cap] w fun e w' => e = .returned (.int .i64 (if D.left = 0 then 9 else 0)) ∧ (∃ S', Ref w' p S' (D.put i l).step ∧ Turn S S' w w') := by
  have hsl : Sec l := ⟨hl, hb.1⟩
  have c0 := h.c0
  have c1 := h.c1
  have c3 := h.c3
  rw [hd] at c3
  have hlen := h.ok.len
  have hml := h.ok.mem_len
  have him : i ∈ D.mem.map (·.1) := by rw [← hqi]; exact key_mem hq
  obtain ⟨gs, scap, rfl, hs1, hs2, _, _⟩ := h.sv_form (by omega)
  unfold maxLen at hs2
  obtain ⟨gl, lc, rfl, hl1, hl2, hglS, hl4⟩ : ∃ gl lc, lv = .slice (some ⟨gl, 0, none⟩) D.mem.length lc ∧ D.mem.length ≤ lc ∧ lc ≤ maxLen ∧ S gl ∧ ∀ i, i < D.mem.length → w.cell? ⟨gl, i * 2, none⟩ = some (.int .i64 ((D.mem.getD i (0, [])).1 : Int)) ∧ ∃ v, w.cell? ⟨gl, i * 2 + 1, none⟩ = some v ∧ SecV w S v (D.mem.getD i (0, [])).2 := by
    rcases h.lv_form with ⟨_, e⟩ | r
    · rw [e] at hq; simp at hq
    · exact r
  unfold maxLen at hl2
  have e1 : ¬ (i : Int) < 0 := by omega
  have e2 : ¬ (D.secs.length : Int) ≤ (i : Int) := by omega
  have hlp := h.lt p h.inp
  have hlg := h.lt gl hglS
  have hkey : ∀ g c w1, Own w1 w.heap.size g c l → Below w.heap.size w w1 → RefAt (w1.setCell ⟨gl, q * 2 + 1, none⟩ (.slice (some ⟨g, 0, none⟩) 32 c)) p (.slice (some ⟨gs, 0, none⟩) D.secs.length scap) (.slice (some ⟨gl, 0, none⟩) D.mem.length lc) left (fun k => S k ∨ k = g) (D.put i l) ∧ Turn S (fun k => S k ∨ k = g) w (w1.setCell ⟨gl, q * 2 + 1, none⟩ (.slice (some ⟨g, 0, none⟩) 32 c)) := by
    intro g c w1 ho hbel
    have hgw : w.heap.size ≤ g := ho.base
    have hgl : g < w1.heap.size := (ho.lt g rfl).2
    have h1 : RefAt w1 p _ _ left S D := h.same hbel.size (fun k hk => hbel.block k (h.lt k hk))
    have h2 := h1.wide (S' := fun k => S k ∨ k = g) (fun k hk => .inl hk) (fun k hk => by
      rcases hk with hk | hk
      · exact h1.lt k hk
      · omega)
    have h3 := h2.setLine q hq (secV_own ho hsl (.inr rfl)) hsl
    rw [hqi] at h3
    exact ⟨h3.1, (Turn.grow hbel hgw).trans h3.2⟩
  have hcp := copied_any a cap l w.drew hb (by intro e; rw [e] at hl; cases hl)
  rw [hl] at hcp
  have hfz : w.frozen? ⟨gl, q * 2 + 1, none⟩ = false := by
    obtain ⟨cs, q5, _⟩ := h.lin
    obtain ⟨cur, q6⟩ := ownsRow_block q5 (g := gl) rfl
    exact frozen_of_row _ _ _ _ _ q6
  obtain ⟨_, vq, hvq, _⟩ := hl4 q hq
  have hkeyo : ∀ k, k < D.mem.length → k ≠ q → (D.mem.getD k (0, [])).1 ≠ i := fun k hk hne e => hne (key_inj h.ok.apart hk hq (by rw [e, hqi]))
  obtain ⟨E, hE⟩ : ∃ E : Int, (if D.left = 0 then (9 : Int) else 0) = E := ⟨_, rfl⟩
  have hst : ∀ w1 S1 left1, RefAt w1 p (.slice (some ⟨gs, 0, none⟩) D.secs.length scap) (.slice (some ⟨gl, 0, none⟩) D.mem.length lc) left1 S1 (D.put i l) → Calls Tryd.prog 63 #[.pointer (some ⟨p, 0, none⟩)] w1 fun e w' => e = .returned (.bool (decide (D.left ≠ 0))) ∧ (∃ left', RefAt w' p (.slice (some ⟨gs, 0, none⟩) D.secs.length scap) (.slice (some ⟨gl, 0, none⟩) D.mem.length lc) left' S1 (D.put i l).step) ∧ Turn S1 S1 w1 w' :=
    fun w1 S1 left1 h1 => rstep_any h1 hd
  have HST := hide hst
  have HKEY := hide hkey
  have HCP := hide hcp
  have HL4 := hide hl4
  have HKO := hide hkeyo
  have HIM := hide him
  have HE := hide hE
  rw [hE]
  clear h hst hkey hcp hl4 hkeyo him hE
  go_enter Tryd.func34, Tryd.ntmps34
  go_wp2_with fail
  go_loopw [7, 8] (fun f jv wr => ∃ k : Nat, k ≤ D.mem.length ∧ jv = .int .i64 k ∧ ((k ≤ q ∧ f = .bool false ∧ wr = w) ∨ (q < k ∧ f = .bool true ∧ ∃ S', RefAt wr p (.slice (some ⟨gs, 0, none⟩) D.secs.length scap) (.slice (some ⟨gl, 0, none⟩) D.mem.length lc) left S' (D.put i l) ∧ Turn S S' w wr))) (fun _ jv _ => D.mem.length - (intOf jv).toNat)
  case atStart => exact ⟨0, by omega, rfl, .inl ⟨by omega, rfl, rfl⟩⟩
  case round =>
    obtain ⟨k, hk, rfl, hor⟩ := hrel
    have f0 : (0 : Int) ≤ (k : Int) := by omega
    rcases hor with ⟨hkq, rfl, rfl⟩ | ⟨hkq, rfl, S1, hr1, ht1⟩
    · have hlt : k < D.mem.length := by omega
      have f1 : (k : Int) < (D.mem.length : Int) := by omega
      obtain ⟨q0, vb, q1, _⟩ := (unhide HL4) k hlt
      by_cases e : k = q
      · subst e
        rw [hqi] at q0
        have HQI := hide hqi
        clear hqi
        go_wp2_with fail
        go_region_with (go_at_call 46; refine (unhide HCP).mono ?_; rintro e w1 ⟨g, c, rfl, hown, hbel⟩; have r1 : w1.cell? ⟨p, 1, none⟩ = some (.slice (some ⟨gl, 0, none⟩) D.mem.length lc) := (hbel.cell (p := ⟨p, 1, none⟩) hlp).trans c1; have r2 : w1.cell? ⟨gl, k * 2 + 1, none⟩ = some vq := (hbel.cell (p := ⟨gl, k * 2 + 1, none⟩) hlg).trans hvq; have r3 : w1.frozen? ⟨gl, k * 2 + 1, none⟩ = false := (hbel.frozen (p := ⟨gl, k * 2 + 1, none⟩) hlg).trans hfz)
        all_goals
          go_wp2
          go_roundw
          case rel => exact ⟨k + 1, by omega, by go_num, .inr ⟨by omega, rfl, _, (unhide HKEY g c w1 hown (below_of_drew hbel)).1, (unhide HKEY g c w1 hown (below_of_drew hbel)).2⟩⟩
          case measure => simp [intOf]; omega
      · have hne := (unhide HKO) k hlt e
        obtain ⟨ky, bd, hkb⟩ : ∃ ky bd, D.mem.getD k (0, []) = (ky, bd) := ⟨_, _, rfl⟩
        simp only [hkb] at q0 hne
        have hne' : ¬ (ky : Int) = (i : Int) := by omega
        clear hkb hne
        go_wp2
        go_roundw
        case rel => exact ⟨k + 1, by omega, by go_num, .inl ⟨by omega, by simp⟩⟩
        case measure => simp [intOf]; omega
    · have d1 := hr1.c1
      by_cases hlt : k < D.mem.length
      · have f1 : (k : Int) < (D.mem.length : Int) := by omega
        have hne := (unhide HKO) k hlt (by omega)
        have hlp2 : (D.put i l).mem.length = D.mem.length := length_put_old l (unhide HIM)
        obtain ⟨q0, _⟩ : wr.cell? ⟨gl, k * 2, none⟩ = some (.int .i64 (((D.put i l).mem.getD k (0, [])).1 : Int)) ∧ True := by
          rcases hr1.lv_form with ⟨e, _⟩ | ⟨g', c', e, _, _, _, hh⟩
          · cases e
          · simp only [Value.slice.injEq, Option.some.injEq, Addr.mk.injEq, and_true] at e
            rw [e.1]; exact ⟨(hh k (by omega)).1, trivial⟩
        rw [show ((D.put i l).mem.getD k (0, [])).1 = (D.mem.getD k (0, [])).1 from keys_same l (unhide HIM) k] at q0
        obtain ⟨ky, bd, hkb⟩ : ∃ ky bd, D.mem.getD k (0, []) = (ky, bd) := ⟨_, _, rfl⟩
        simp only [hkb] at q0 hne
        have hne' : ¬ (ky : Int) = (i : Int) := by omega
        have HR1 := hide hr1
        have HT1 := hide ht1
        clear hkb hne hlp2 hr1 ht1
        go_wp2
        go_roundw
        case rel => exact ⟨k + 1, by omega, by go_num, .inr ⟨by omega, by simp, S1, unhide HR1, unhide HT1⟩⟩
        case measure => simp [intOf]; omega
      · obtain rfl : k = D.mem.length := by omega
        have HS1 := hide ((unhide HST) wr S1 left hr1)
        have HT1 := hide ht1
        clear hr1 ht1
        go_wp2_with fail
        refine (unhide HS1).mono ?_
        rintro e w2 ⟨rfl, ⟨left2, h2⟩, ht2⟩
        by_cases h0 : D.left = 0
        · rw [decide_eq_false (fun h => h h0)]
          have hE9 : E = 9 := by rw [← unhide HE, if_pos h0]
          have HE9 := hide hE9
          clear hE9 h0
          go_wp2
          go_ret
          exact ⟨by rw [unhide HE9]; rfl, S1, ⟨_, _, _, h2⟩, (unhide HT1).trans ht2⟩
        · rw [decide_eq_true h0]
          have hE9 : E = 0 := by rw [← unhide HE, if_neg h0]
          have HE9 := hide hE9
          clear hE9 h0
          go_wp2
          go_ret
          exact ⟨by rw [unhide HE9]; rfl, S1, ⟨_, _, _, h2⟩, (unhide HT1).trans ht2⟩
end
end Go.Proofs.YtmphnhigohkaeaaDoor
/-! Contracts of the reference's device: Write of what was not there. (Part of the proof of DevicePlays.) -/
namespace Go.Proofs.YtmphnhigohkaeaaDoor
open Go.RowKit
set_option linter.unusedVariables false

theorem info_line : (Tryd.prog.info? 92).map (fun i => (i.zero, i.size, i.bytes)) = some (some (.agg #[.int .i64 0, .slice none 0 0]), 2, 32) := by kernel_rfl

theorem news_line (w : World) (t : TypeId) (x y : Value) : ∀ j u, ([x, y] : List Value)[j]? = some u → (w.alloc (.cells #[x, y] t)).cell? (Addr.add ⟨w.heap.size, 0, none⟩ j) = some u := by
  intro j u hj
  rw [addr_add, Nat.zero_add, cell_of_row _ _ _ _ _ (0, 0) (heap_alloc_new w _)]
  match j, hj with
  | 0, hj => simpa using hj
  | 1, hj => simpa using hj
  | j + 2, hj => simp at hj
theorem one_line (x : Int) (a : Option Addr) (n c : Nat) : ∀ u ∈ ([.int .i64 x, .slice a n c] : List Value), u.oneCell' = true := by
  intro u hu; simp at hu; rcases hu with rfl | rfl <;> rfl

theorem memPut_new {m : List (Nat × List Int)} {i : Nat} (hn : i ∉ m.map (·.1)) (l : List Int) : memPut m i l = m ++ [(i, l)] := by
  induction m with
  | nil => rfl
  | cons x r ih =>
    obtain ⟨j, b⟩ := x
    simp only [List.map_cons, List.mem_cons, not_or] at hn
    unfold memPut
    rw [if_neg (fun e => hn.1 e.symm), ih hn.2]; rfl

section
variable {w : World} {p : Nat} {S : Nat → Prop} {D : DS}

/-- One line more. -/
theorem RefAt.addLine {sv lv v : Value} {left : Int} {w1 w2 : World} {o : Obj} {i g c : Nat} {l : List Int} (h : RefAt w p sv lv left S D) (hi : i < D.secs.length) (hno : D.mem.lookup i = none) (hsl : Sec l) (ho : Own w1 w.heap.size g c l) (hb : Below w.heap.size w w1)
    (cs : List Value) (hlin : linCells w S cs D.mem) (hcl : cs.length = D.mem.length * 2) (hown : w2.ownsRow 0 92 2 v (D.mem.length + 1) (cs ++ [.int .i64 (i : Int), .slice (some ⟨g, 0, none⟩) 32 c])) (hgrow : (w1.alloc o).grownBy w2 lv.ownBlock) (hat : v.ownBlock = lv.ownBlock ∨ v.ownBlock = some (w1.heap.size + 1)) :
    RefAt (w2.setCell ⟨p, 1, none⟩ v) p sv v left (fun k => S k ∨ k = g ∨ v.ownBlock = some k) (D.put i l) ∧ Turn S (fun k => S k ∨ k = g ∨ v.ownBlock = some k) w (w2.setCell ⟨p, 1, none⟩ v) := by
  have hgw : w.heap.size ≤ g := ho.base
  have hgl : g < w1.heap.size := (ho.lt g rfl).2
  have hz2 := hgrow.size
  simp only [size_alloc] at hz2
  have hblk : ∀ k, S k → lv.ownBlock ≠ some k → w2.heap[k]? = w.heap[k]? := fun k hk hne =>
    (hgrow.block k (by have := h.lt k hk; have := hb.size; simp; omega) (fun e => hne e.symm)).trans ((heap_alloc_old _ _ (by have := h.lt k hk; have := hb.size; omega)).trans (hb.block k (h.lt k hk)))
  have hg2 : w2.heap[g]? = w1.heap[g]? := by
    refine (hgrow.block g (by simp; omega) (fun e => ?_)).trans (heap_alloc_old _ _ hgl)
    have := h.lt g (h.inl g e.symm)
    omega
  have hstr2 : w2.heap[p]? = _ := (hblk p h.inp h.nlv).trans h.str
  have hset : ∀ k, k ≠ p → (w2.setCell ⟨p, 1, none⟩ v).heap[k]? = w2.heap[k]? := fun k hk => heap_setCell_other _ _ _ _ hk
  have hvp : v.ownBlock ≠ some p := by
    intro e
    rcases hat with h1 | h1
    · exact h.nlv (by rw [← h1]; exact e)
    · rw [h1] at e; have := Option.some.inj e; have := h.lt p h.inp; have := hb.size; omega
  have hlb : ∀ u b, SecV w S u b → SecV (w2.setCell ⟨p, 1, none⟩ v) (fun k => S k ∨ k = g ∨ v.ownBlock = some k) u b := by
    intro u b hu
    obtain ⟨g1, c1, rfl, k1, ⟨cur, k2⟩, k3⟩ := hu
    have hn1 : lv.ownBlock ≠ some g1 := by
      intro e
      obtain ⟨cs2, q1, _⟩ := h.lin
      obtain ⟨cur2, q2⟩ := ownsRow_block q1 e
      rw [k2] at q2
      simp at q2
    have hn2 : g1 ≠ p := by
      intro e; subst e
      rw [h.str] at k2
      simp at k2
    have e1 : (w2.setCell ⟨p, 1, none⟩ v).heap[g1]? = w.heap[g1]? := (hset g1 hn2).trans (hblk g1 k1 hn1)
    refine ⟨g1, c1, rfl, .inl k1, ⟨cur, e1.trans k2⟩, k3.1, k3.2.1, k3.2.2.1, k3.2.2.2.1, fun hne => ?_⟩
    obtain ⟨b', off, e, hc⟩ := k3.2.2.2.2 hne
    obtain ⟨rfl, rfl⟩ : g1 = b' ∧ 0 = off := by simpa using e
    exact ⟨g1, 0, rfl, fun j hj => (World.cell?_of_block (a := ⟨g1, 0 + j, none⟩) e1).trans (hc j hj)⟩
  have hnew : SecV (w2.setCell ⟨p, 1, none⟩ v) (fun k => S k ∨ k = g ∨ v.ownBlock = some k) (.slice (some ⟨g, 0, none⟩) 32 c) l := by
    have hgp : g ≠ p := by have := h.lt p h.inp; omega
    have hv1 : SecV w1 (fun k => k = g) (.slice (some ⟨g, 0, none⟩) 32 c) l := secV_own ho hsl rfl
    exact hv1.same (fun k hk => by subst hk; exact (hset k hgp).trans hg2) (fun k hk => .inr (.inl hk))
  have hk : (memPut D.mem i l) = D.mem ++ [(i, l)] := memPut_new (lookup_none.1 hno) l
  refine ⟨⟨h.ok.put hi hsl, by rw [heap_setCell_same _ _ _ _ _ _ hstr2]; simp; rfl, ?_, ?_, .inl h.inp, fun k hk => .inl (h.ins k hk), fun k hk => .inr (.inr hk), ?_, h.lf, h.lb⟩, ?_⟩
  · obtain ⟨cs2, q1, q2⟩ := h.sec
    refine ⟨cs2, ownsRow_same q1 (fun k hk => (hset k (fun e => h.nsv (by rw [hk, e]))).trans (hblk k (h.ins k hk) (fun e => ?_))), fun j hj => ?_⟩
    · obtain ⟨cs3, q3, _⟩ := h.lin
      obtain ⟨cur3, q4⟩ := ownsRow_block q3 e
      obtain ⟨cur4, q5⟩ := ownsRow_block q1 hk
      rw [q4] at q5
      simp at q5
    · obtain ⟨u, q3, q4⟩ := q2 j hj
      exact ⟨u, q3, hlb u _ q4⟩
  · show ∃ cs, (w2.setCell ⟨p, 1, none⟩ v).ownsRow 0 92 2 v (memPut D.mem i l).length cs ∧ linCells _ _ cs (memPut D.mem i l)
    rw [hk, List.length_append]
    refine ⟨_, ownsRow_same hown (fun k hk2 => hset k (fun e => hvp (by rw [hk2, e]))), fun j hj => ?_⟩
    simp at hj
    by_cases e : j < D.mem.length
    · obtain ⟨q1, u, q2, q3⟩ := hlin j e
      have e1 : (D.mem ++ [(i, l)]).getD j (0, []) = D.mem.getD j (0, []) := by simp [List.getD, List.getElem?_append_left e]
      rw [e1]
      exact ⟨by rw [List.getElem?_append_left (by omega)]; exact q1, u, by rw [List.getElem?_append_left (by omega)]; exact q2, hlb u _ q3⟩
    · obtain rfl : j = D.mem.length := by omega
      have e1 : (D.mem ++ [(i, l)]).getD D.mem.length (0, []) = (i, l) := by simp [List.getD]
      rw [e1]
      exact ⟨by rw [List.getElem?_append_right (by omega)]; simp [hcl, Nat.mul_comm], .slice (some ⟨g, 0, none⟩) 32 c, by rw [List.getElem?_append_right (by omega)]; simp [hcl, Nat.mul_comm], hnew⟩
  · intro k hk2
    show k < (w2.setCell ⟨p, 1, none⟩ v).heap.size
    have hzz : (w2.setCell ⟨p, 1, none⟩ v).heap.size = w2.heap.size := by simp
    rw [hzz]
    rcases hk2 with h1 | h1 | h1
    · have := h.lt k h1; have := hb.size; omega
    · omega
    · exact (hown.lt k h1).2
  · refine ⟨hgrow.os.trans hb.os, hgrow.tape.trans hb.tape, hgrow.output.trans hb.output, by have := hb.size; simp; omega, fun k hk2 hn => ?_, fun k hk2 hs => ?_⟩
    · have hkp : k ≠ p := fun e => hn (e ▸ h.inp)
      refine (hset k hkp).trans ((hgrow.block k (by have := hb.size; simp; omega) (fun e => hn (h.inl k e.symm))).trans ((heap_alloc_old _ _ (by have := hb.size; omega)).trans (hb.block k hk2)))
    · rcases hs with h1 | h1 | h1
      · exact h1
      · omega
      · rcases hat with h2 | h2
        · exact h.inl k (by rw [← h2]; exact h1)
        · rw [h2] at h1; have := Option.some.inj h1; have := hb.size; omega

set_option maxRecDepth 100000 in
set_option maxHeartbeats 2000000 in
theorem rwrite_new {sv lv : Value} {left : Int} (i : Nat) (a : Option Addr) (cap : Nat) (l : List Int) (h : RefAt w p sv lv left S D) (hi : i < D.secs.length) (hd : D.down = false) (hb : Bs w a cap l) (hl : l.length = 32) (hno : D.mem.lookup i = none) :
    Calls Tryd.prog 34 #[.pointer (some ⟨p, 0, none⟩), .int .i64 i, .slice a 32 cap] w fun e w' => e = .returned (.int .i64 (if D.left = 0 then 9 else 0)) ∧ (∃ S', Ref w' p S' (D.put i l).step ∧ Turn S S' w w') := by
  have hsl : Sec l := ⟨hl, hb.1⟩
  have c0 := h.c0
  have c1 := h.c1
  have c3 := h.c3
  rw [hd] at c3
  have hlen := h.ok.len
  have hml := h.ok.mem_len
  have hkn := lookup_none.1 hno
  obtain ⟨gs, scap, rfl, hs1, hs2, _, _⟩ := h.sv_form (by omega)
  unfold maxLen at hs2
  have e1 : ¬ (i : Int) < 0 := by omega
  have e2 : ¬ (D.secs.length : Int) ≤ (i : Int) := by omega
  have hlp := h.lt p h.inp
  have hf1 := h.fr 1
  obtain ⟨i0, hi0, hz0, hz1, hz2⟩ := info_parts info_line
  obtain ⟨cs, hcs1, hcs2⟩ := h.lin
  have hcl : cs.length = D.mem.length * 2 := hcs1.1
  have hnlv := h.nlv
  have hownf : ∀ w1 o, Below w.drew.heap.size w.drew w1 → (w1.alloc o).ownsRow 0 92 2 lv D.mem.length cs := fun w1 o hbel =>
    (ownsRow_same hcs1 (fun g hg => hbel.block g (h.lt g (h.inl g hg)))).alloc o
  have hfin : ∀ g c w1 g2 c2 w2 o, Own w1 w.heap.size g c l → Below w.drew.heap.size w.drew w1 → w2.ownsRow 0 92 2 (.slice (some ⟨g2, 0, none⟩) (D.mem.length + 1) c2) (D.mem.length + 1) (cs ++ [.int .i64 (i : Int), .slice (some ⟨g, 0, none⟩) 32 c]) → (w1.alloc o).grownBy w2 lv.ownBlock → (lv.ownBlock = some g2 ∨ g2 = w1.heap.size + 1) →
      ∃ S', RefAt (w2.setCell ⟨p, 1, none⟩ (.slice (some ⟨g2, 0, none⟩) (D.mem.length + 1) c2)) p (.slice (some ⟨gs, 0, none⟩) D.secs.length scap) (.slice (some ⟨g2, 0, none⟩) (D.mem.length + 1) c2) left S' (D.put i l) ∧ Turn S S' w (w2.setCell ⟨p, 1, none⟩ (.slice (some ⟨g2, 0, none⟩) (D.mem.length + 1) c2)) := by
    intro g c w1 g2 c2 w2 o ho hbel h2 h3 h4
    have := h.addLine hi hno hsl ho (below_of_drew hbel) cs hcs2 hcl h2 h3 (by
      rcases h4 with h5 | h5
      · exact .inl h5.symm
      · exact .inr (by rw [← h5]; rfl))
    exact ⟨_, this.1, this.2⟩
  have hcp := copied_any a cap l w.drew hb (by intro e; rw [e] at hl; cases hl)
  rw [hl] at hcp
  obtain ⟨E, hE⟩ : ∃ E : Int, (if D.left = 0 then (9 : Int) else 0) = E := ⟨_, rfl⟩
  have hst : ∀ w1 S1 sv1 lv1 left1, RefAt w1 p sv1 lv1 left1 S1 (D.put i l) → Calls Tryd.prog 63 #[.pointer (some ⟨p, 0, none⟩)] w1 fun e w' => e = .returned (.bool (decide (D.left ≠ 0))) ∧ (∃ left', RefAt w' p sv1 lv1 left' S1 (D.put i l).step) ∧ Turn S1 S1 w1 w' :=
    fun w1 S1 sv1 lv1 left1 h1 => rstep_any h1 hd
  have hform := h.lv_form
  have HST := hide hst
  have HFIN := hide hfin
  have HCP := hide hcp
  have HOF := hide hownf
  have HE := hide hE
  have HKN := hide hkn
  have HB := hide hb
  rw [hE]
  clear h hst hfin hcp hownf hcs1 hcs2 hE hno hkn hb
  rcases hform with ⟨rfl, hm0⟩ | ⟨gl, lc, rfl, hl1, hl2, hglS, hl4⟩
  · have HM0 := hide hm0
    clear hm0
    go_enter Tryd.func34, Tryd.ntmps34
    go_wp2_with fail
    go_loop [7, 8] (fun f jv => f = .bool false ∧ jv = .int .i64 0) (fun _ _ => 0)
    case atStart => exact ⟨rfl, rfl⟩
    case round =>
      obtain ⟨rfl, rfl⟩ := hrel
      go_wp2_with fail
      go_region_law (first
        | (refine step_append_lies _ (by rfl) (.tmp 62) (.tmp 67) 70 (by rfl) 0 92 i0 _ 2 32 Tryd.underlying70 hi0 hz0 hz1 hz2 (by rfl) (by decide) _ _ _ (by rfl) ((unhide HOF) w1 _ hbel) ⟨w1.heap.size, 0, none⟩ 1 1 [.int .i64 (i : Int), .slice (some ⟨g, 0, none⟩) 32 c] (by rfl) (by rfl) (news_line w1 _ _ _) (one_line _ _ _ _) (by decide) (by unfold maxLen; omega) (by omega) (Nat.zero_le _) (w1.heap.size + 1) (by simp) ?_; intro g2 c2 w2 hown2 hgrow2 hat2 hlt2; have s1 : w2.cell? ⟨p, 1, none⟩ = some (.slice none 0 0) := hgrow2.cell (a := ⟨p, 1, none⟩) ((World.cell?_of_block (a := ⟨p, 1, none⟩) (heap_alloc_old _ _ (by have := hbel.size; exact Nat.lt_of_lt_of_le hlp this))).trans r1) (fun e => hnlv e.symm); have s2 : w2.frozen? ⟨p, 1, none⟩ = false := by (rw [World.frozen?_of_block (a := ⟨p, 1, none⟩) ((hgrow2.block p (by have := hbel.size; simp; exact Nat.lt_succ_of_lt (Nat.lt_of_lt_of_le hlp this)) (fun e => hnlv e.symm)).trans ((heap_alloc_old _ _ (Nat.lt_of_lt_of_le hlp hbel.size)).trans (hbel.block p hlp)))]; exact hf1))
        | (go_simp; refine (unhide HCP).mono ?_; rintro e w1 ⟨g, c, rfl, hown, hbel⟩; dsimp only; have r1 : w1.cell? ⟨p, 1, none⟩ = some (.slice none 0 0) := (hbel.cell (p := ⟨p, 1, none⟩) hlp).trans c1; have r1b : ∀ o, (w1.alloc o).cell? ⟨p, 1, none⟩ = some (.slice none 0 0) := fun o => (World.cell?_of_block (a := ⟨p, 1, none⟩) (heap_alloc_old _ _ (Nat.lt_of_lt_of_le hlp hbel.size))).trans r1))
      all_goals
        obtain ⟨S2, hR2, hT2⟩ := (unhide HFIN) g c w1 g2 c2 w2 _ hown hbel hown2 hgrow2 hat2
        have HS2 := hide ((unhide HST) _ S2 _ _ _ hR2)
        have HT2 := hide hT2
        clear hR2 hT2 hown hbel hown2 hgrow2 hat2
        go_wp2_with fail
        refine (unhide HS2).mono ?_
        rintro e w3 ⟨rfl, ⟨left3, h3⟩, ht3⟩
        by_cases h0 : D.left = 0
        · rw [decide_eq_false (fun h => h h0)]
          have HE9 := hide (show E = 9 by rw [← unhide HE, if_pos h0])
          clear h0
          go_wp2
          go_ret
          exact ⟨by rw [unhide HE9]; rfl, S2, ⟨_, _, _, h3⟩, (unhide HT2).trans ht3⟩
        · rw [decide_eq_true h0]
          have HE9 := hide (show E = 0 by rw [← unhide HE, if_neg h0])
          clear h0
          go_wp2
          go_ret
          exact ⟨by rw [unhide HE9]; rfl, S2, ⟨_, _, _, h3⟩, (unhide HT2).trans ht3⟩
  · unfold maxLen at hl2
    have HL4 := hide hl4
    clear hl4
    go_enter Tryd.func34, Tryd.ntmps34
    go_wp2_with fail
    go_loop [7, 8] (fun f jv => ∃ k : Nat, k ≤ D.mem.length ∧ f = .bool false ∧ jv = .int .i64 k) (fun _ jv => D.mem.length - (intOf jv).toNat)
    case atStart => exact ⟨0, by omega, rfl, rfl⟩
    case round =>
      obtain ⟨k, hk, rfl, rfl⟩ := hrel
      have f0 : (0 : Int) ≤ (k : Int) := by omega
      by_cases hlt : k < D.mem.length
      · have f1 : (k : Int) < (D.mem.length : Int) := by omega
        obtain ⟨q0, vb, q1, _⟩ := (unhide HL4) k hlt
        have hne : (D.mem.getD k (0, [])).1 ≠ i := fun e => (unhide HKN) (e ▸ key_mem hlt)
        obtain ⟨ky, bd, hkb⟩ : ∃ ky bd, D.mem.getD k (0, []) = (ky, bd) := ⟨_, _, rfl⟩
        simp only [hkb] at q0 hne
        have hne' : ¬ (ky : Int) = (i : Int) := by omega
        clear hkb hne
        go_wp2
        go_round
        case rel => exact ⟨k + 1, by omega, rfl, by go_num⟩
        case measure => simp [intOf]; omega
      · obtain rfl : k = D.mem.length := by omega
        go_wp2_with fail
        go_region_law (first
          | (refine step_append_lies _ (by rfl) (.tmp 62) (.tmp 67) 70 (by rfl) 0 92 i0 _ 2 32 Tryd.underlying70 hi0 hz0 hz1 hz2 (by rfl) (by decide) _ _ _ (by rfl) ((unhide HOF) w1 _ hbel) ⟨w1.heap.size, 0, none⟩ 1 1 [.int .i64 (i : Int), .slice (some ⟨g, 0, none⟩) 32 c] (by rfl) (by rfl) (news_line w1 _ _ _) (one_line _ _ _ _) (by decide) (by unfold maxLen; omega) (by omega) (Nat.zero_le _) (w1.heap.size + 1) (by simp) ?_; intro g2 c2 w2 hown2 hgrow2 hat2 hlt2; have s1 : w2.cell? ⟨p, 1, none⟩ = some (.slice (some ⟨gl, 0, none⟩) D.mem.length lc) := hgrow2.cell (a := ⟨p, 1, none⟩) ((World.cell?_of_block (a := ⟨p, 1, none⟩) (heap_alloc_old _ _ (by have := hbel.size; exact Nat.lt_of_lt_of_le hlp this))).trans r1) (fun e => hnlv e.symm); have s2 : w2.frozen? ⟨p, 1, none⟩ = false := by (rw [World.frozen?_of_block (a := ⟨p, 1, none⟩) ((hgrow2.block p (by have := hbel.size; simp; exact Nat.lt_succ_of_lt (Nat.lt_of_lt_of_le hlp this)) (fun e => hnlv e.symm)).trans ((heap_alloc_old _ _ (Nat.lt_of_lt_of_le hlp hbel.size)).trans (hbel.block p hlp)))]; exact hf1))
          | (go_simp; refine (unhide HCP).mono ?_; rintro e w1 ⟨g, c, rfl, hown, hbel⟩; dsimp only; have r1 : w1.cell? ⟨p, 1, none⟩ = some (.slice (some ⟨gl, 0, none⟩) D.mem.length lc) := (hbel.cell (p := ⟨p, 1, none⟩) hlp).trans c1; have r1b : ∀ o, (w1.alloc o).cell? ⟨p, 1, none⟩ = some (.slice (some ⟨gl, 0, none⟩) D.mem.length lc) := fun o => (World.cell?_of_block (a := ⟨p, 1, none⟩) (heap_alloc_old _ _ (Nat.lt_of_lt_of_le hlp hbel.size))).trans r1))
        all_goals
          obtain ⟨S2, hR2, hT2⟩ := (unhide HFIN) g c w1 g2 c2 w2 _ hown hbel hown2 hgrow2 hat2
          have HS2 := hide ((unhide HST) _ S2 _ _ _ hR2)
          have HT2 := hide hT2
          clear hR2 hT2 hown hbel hown2 hgrow2 hat2
          go_wp2_with fail
          refine (unhide HS2).mono ?_
          rintro e w3 ⟨rfl, ⟨left3, h3⟩, ht3⟩
          by_cases h0 : D.left = 0
          · rw [decide_eq_false (fun h => h h0)]
            have HE9 := hide (show E = 9 by rw [← unhide HE, if_pos h0])
            clear h0
            go_wp2
            go_ret
            exact ⟨by rw [unhide HE9]; rfl, S2, ⟨_, _, _, h3⟩, (unhide HT2).trans ht3⟩
          · rw [decide_eq_true h0]
            have HE9 := hide (show E = 0 by rw [← unhide HE, if_neg h0])
            clear h0
            go_wp2
            go_ret
            exact ⟨by rw [unhide HE9]; rfl, S2, ⟨_, _, _, h3⟩, (unhide HT2).trans ht3⟩

theorem rwrite_fail (i : Int) (a : Option Addr) (cap len : Nat) (hll : len ≤ 140737488351232) (h : Ref w p S D) (hpos : 0 < D.secs.length) (hc : i < 0 ∨ (D.secs.length : Int) ≤ i ∨ len ≠ 32 ∨ D.down = true) :
    Calls Tryd.prog 34 #[.pointer (some ⟨p, 0, none⟩), .int .i64 i, .slice a len cap] w fun e w' => e = .returned (.int .i64 (if i < 0 ∨ (D.secs.length : Int) ≤ i then 1 else if len ≠ 32 then 3 else 9)) ∧ w = w' := by
  obtain ⟨sv, lv, left, h⟩ := h
  have c0 := h.c0
  have c3 := h.c3
  have hlen := h.ok.len
  obtain ⟨gs, scap, rfl, _, hs2, _, _⟩ := h.sv_form hpos
  unfold maxLen at hs2
  clear h
  by_cases h1 : i < 0
  · rw [if_pos (.inl h1)]
    clear hc
    go_enter Tryd.func34, Tryd.ntmps34
    go_wp2
    go_ret
    exact ⟨rfl, rfl⟩
  · by_cases h2 : (D.secs.length : Int) ≤ i
    · rw [if_pos (.inr h2)]
      clear hc
      go_enter Tryd.func34, Tryd.ntmps34
      go_wp2
      go_ret
      exact ⟨rfl, rfl⟩
    · rw [if_neg (by omega)]
      by_cases h3 : len ≠ 32
      · rw [if_pos h3]
        have h3' : ¬ (len : Int) = 32 := by omega
        clear hc h3
        go_enter Tryd.func34, Tryd.ntmps34
        go_wp2
        go_ret
        exact ⟨rfl, rfl⟩
      · rw [if_neg h3]
        have h3' : len = 32 := Classical.byContradiction h3
        subst h3'
        have h4 : D.down = true := by
          rcases hc with h | h | h | h
          · exact absurd h h1
          · exact absurd h h2
          · exact absurd h h3
          · exact h
        rw [h4] at c3
        clear hc h3 h4
        go_enter Tryd.func34, Tryd.ntmps34
        go_wp2
        go_ret
        exact ⟨rfl, rfl⟩

theorem rwrite_any (i : Int) (a : Option Addr) (cap : Nat) (l : List Int) (h : Ref w p S D) (hpos : 0 < D.secs.length) (hb : Bs w a cap l) :
    Calls Tryd.prog 34 #[.pointer (some ⟨p, 0, none⟩), .int .i64 i, .slice a l.length cap] w fun e w' => e = .returned (.int .i64 (D.writeE i l)) ∧ (∃ S', Ref w' p S' (D.write i l) ∧ Turn S S' w w') := by
  by_cases hc : i < 0 ∨ (D.secs.length : Int) ≤ i ∨ l.length ≠ 32 ∨ D.down = true
  · have hw : D.write i l = D := by unfold DS.write; rw [if_pos hc]
    have he : D.writeE i l = (if i < 0 ∨ (D.secs.length : Int) ≤ i then 1 else if l.length ≠ 32 then 3 else 9) := by
      unfold DS.writeE
      by_cases h1 : i < 0 ∨ (D.secs.length : Int) ≤ i
      · rw [if_pos h1, if_pos h1]
      · rw [if_neg h1, if_neg h1]
        by_cases h2 : l.length ≠ 32
        · rw [if_pos h2, if_pos h2]
        · rw [if_neg h2, if_neg h2, if_pos (by
            rcases hc with h | h | h | h
            · exact absurd (.inl h) h1
            · exact absurd (.inr h) h1
            · exact absurd h h2
            · exact h)]
    rw [hw, he]
    exact (rwrite_fail i a cap l.length hb.2.2.1 h hpos hc).mono fun e w' ⟨h1, h2⟩ => ⟨h1, S, h2 ▸ h, h2 ▸ Turn.refl _ _⟩
  · obtain ⟨k, rfl⟩ : ∃ k : Nat, i = k := ⟨i.toNat, by
      rcases Int.lt_or_le i 0 with h1 | h1
      · exact absurd (.inl h1) hc
      · omega⟩
    have hk : k < D.secs.length := by
      rcases Nat.lt_or_ge k D.secs.length with h1 | h1
      · exact h1
      · exact absurd (.inr (.inl (by omega))) hc
    have hl : l.length = 32 := Classical.byContradiction fun h1 => hc (.inr (.inr (.inl h1)))
    have hd : D.down = false := by
      cases e : D.down with
      | false => rfl
      | true => exact absurd (.inr (.inr (.inr e))) hc
    have hw : D.write k l = (D.put k l).step := by unfold DS.write; rw [if_neg hc]; rfl
    have he : D.writeE k l = (if D.left = 0 then 9 else 0) := by
      unfold DS.writeE
      rw [if_neg (by omega), if_neg (fun h1 => h1 hl), if_neg (by rw [hd]; exact Bool.false_ne_true)]
    rw [hw, he, hl]
    obtain ⟨sv, lv, left, h⟩ := h
    cases hc2 : D.mem.lookup k with
    | none => exact rwrite_new k a cap l h hk hd hb hl hc2
    | some c =>
      obtain ⟨q, hq, hq2⟩ := List.getElem_of_mem (lookup_mem hc2)
      exact rwrite_old k a cap l h hk hd hb hl q hq (by simp [List.getD, hq, hq2])
end
end Go.Proofs.YtmphnhigohkaeaaDoor
/-! Contracts of the reference's device: NewDevice. (Part of the proof of DevicePlays.) -/
namespace Go.Proofs.YtmphnhigohkaeaaDoor
open Go.RowKit
set_option linter.unusedVariables false

section
variable {w : World} {p : Nat} {S : Nat → Prop} {D : DS}

/-- One sector more. -/
theorem RefAt.addSec {sv lv v : Value} {left : Int} {w1 w2 : World} {o : Obj} {g c : Nat} {l : List Int} (h : RefAt w p sv lv left S D) (hok : DS.Ok { D with secs := D.secs ++ [l] }) (hgw : w.heap.size ≤ g) (hgl : g < w1.heap.size) (hv1 : SecV w1 (fun k => k = g) (.slice (some ⟨g, 0, none⟩) 32 c) l) (hb : Below w.heap.size w w1)
    (cs : List Value) (hsec : secCells w S cs D.secs) (hcl : cs.length = D.secs.length) (hown : w2.ownsRow 0 41 1 v (D.secs.length + 1) (cs ++ [.slice (some ⟨g, 0, none⟩) 32 c])) (hgrow : (w1.alloc o).grownBy w2 sv.ownBlock) (hat : v.ownBlock = sv.ownBlock ∨ v.ownBlock = some (w1.heap.size + 1)) :
    RefAt (w2.setCell ⟨p, 0, none⟩ v) p v lv left (fun k => S k ∨ k = g ∨ v.ownBlock = some k) { D with secs := D.secs ++ [l] } ∧ Turn S (fun k => S k ∨ k = g ∨ v.ownBlock = some k) w (w2.setCell ⟨p, 0, none⟩ v) := by
  have hz2 := hgrow.size
  simp only [size_alloc] at hz2
  have hblk : ∀ k, S k → sv.ownBlock ≠ some k → w2.heap[k]? = w.heap[k]? := fun k hk hne =>
    (hgrow.block k (by have := h.lt k hk; have := hb.size; simp; omega) (fun e => hne e.symm)).trans ((heap_alloc_old _ _ (by have := h.lt k hk; have := hb.size; omega)).trans (hb.block k (h.lt k hk)))
  have hg2 : w2.heap[g]? = w1.heap[g]? := by
    refine (hgrow.block g (by simp; omega) (fun e => ?_)).trans (heap_alloc_old _ _ hgl)
    have := h.lt g (h.ins g e.symm)
    omega
  have hstr2 : w2.heap[p]? = _ := (hblk p h.inp h.nsv).trans h.str
  have hset : ∀ k, k ≠ p → (w2.setCell ⟨p, 0, none⟩ v).heap[k]? = w2.heap[k]? := fun k hk => heap_setCell_other _ _ _ _ hk
  have hvp : v.ownBlock ≠ some p := by
    intro e
    rcases hat with h1 | h1
    · exact h.nsv (by rw [← h1]; exact e)
    · rw [h1] at e; have := Option.some.inj e; have := h.lt p h.inp; have := hb.size; omega
  have hlb : ∀ u b, SecV w S u b → SecV (w2.setCell ⟨p, 0, none⟩ v) (fun k => S k ∨ k = g ∨ v.ownBlock = some k) u b := by
    intro u b hu
    obtain ⟨g1, c1, rfl, k1, ⟨cur, k2⟩, k3⟩ := hu
    have hn1 : sv.ownBlock ≠ some g1 := by
      intro e
      obtain ⟨cs2, q1, _⟩ := h.sec
      obtain ⟨cur2, q2⟩ := ownsRow_block q1 e
      rw [k2] at q2
      simp at q2
    have hn2 : g1 ≠ p := by
      intro e; subst e
      rw [h.str] at k2
      simp at k2
    have e1 : (w2.setCell ⟨p, 0, none⟩ v).heap[g1]? = w.heap[g1]? := (hset g1 hn2).trans (hblk g1 k1 hn1)
    refine ⟨g1, c1, rfl, .inl k1, ⟨cur, e1.trans k2⟩, k3.1, k3.2.1, k3.2.2.1, k3.2.2.2.1, fun hne => ?_⟩
    obtain ⟨b', off, e, hc⟩ := k3.2.2.2.2 hne
    obtain ⟨rfl, rfl⟩ : g1 = b' ∧ 0 = off := by simpa using e
    exact ⟨g1, 0, rfl, fun j hj => (World.cell?_of_block (a := ⟨g1, 0 + j, none⟩) e1).trans (hc j hj)⟩
  have hnew : SecV (w2.setCell ⟨p, 0, none⟩ v) (fun k => S k ∨ k = g ∨ v.ownBlock = some k) (.slice (some ⟨g, 0, none⟩) 32 c) l := by
    have hgp : g ≠ p := by have := h.lt p h.inp; omega
    exact hv1.same (fun k hk => by subst hk; exact (hset k hgp).trans hg2) (fun k hk => .inr (.inl hk))
  refine ⟨⟨hok, by rw [heap_setCell_same _ _ _ _ _ _ hstr2]; simp, ?_, ?_, .inl h.inp, fun k hk => .inr (.inr hk), fun k hk => .inl (h.inl k hk), ?_, h.lf, h.lb⟩, ?_⟩
  · show ∃ cs, (w2.setCell ⟨p, 0, none⟩ v).ownsRow 0 41 1 v (D.secs ++ [l]).length cs ∧ secCells _ _ cs (D.secs ++ [l])
    rw [List.length_append]
    refine ⟨_, ownsRow_same hown (fun k hk2 => hset k (fun e => hvp (by rw [hk2, e]))), fun j hj => ?_⟩
    simp at hj
    by_cases e : j < D.secs.length
    · obtain ⟨u, q2, q3⟩ := hsec j e
      have e1 : (D.secs ++ [l]).getD j [] = D.secs.getD j [] := by simp [List.getD, List.getElem?_append_left e]
      rw [e1]
      exact ⟨u, by rw [List.getElem?_append_left (by omega)]; exact q2, hlb u _ q3⟩
    · obtain rfl : j = D.secs.length := by omega
      have e1 : (D.secs ++ [l]).getD D.secs.length [] = l := by simp [List.getD]
      rw [e1]
      exact ⟨.slice (some ⟨g, 0, none⟩) 32 c, by rw [List.getElem?_append_right (by omega)]; simp [hcl], hnew⟩
  · obtain ⟨cs2, q1, q2⟩ := h.lin
    refine ⟨cs2, ownsRow_same q1 (fun k hk => (hset k (fun e => h.nlv (by rw [hk, e]))).trans (hblk k (h.inl k hk) (fun e => ?_))), fun j hj => ?_⟩
    · obtain ⟨cs3, q3, _⟩ := h.sec
      obtain ⟨cur3, q4⟩ := ownsRow_block q3 e
      obtain ⟨cur4, q5⟩ := ownsRow_block q1 hk
      rw [q4] at q5
      simp at q5
    · obtain ⟨q5, u, q3, q4⟩ := q2 j hj
      exact ⟨q5, u, q3, hlb u _ q4⟩
  · intro k hk2
    show k < (w2.setCell ⟨p, 0, none⟩ v).heap.size
    have hzz : (w2.setCell ⟨p, 0, none⟩ v).heap.size = w2.heap.size := by simp
    rw [hzz]
    rcases hk2 with h1 | h1 | h1
    · have := h.lt k h1; have := hb.size; omega
    · omega
    · exact (hown.lt k h1).2
  · refine ⟨hgrow.os.trans hb.os, hgrow.tape.trans hb.tape, hgrow.output.trans hb.output, by have := hb.size; simp; omega, fun k hk2 hn => ?_, fun k hk2 hs => ?_⟩
    · have hkp : k ≠ p := fun e => hn (e ▸ h.inp)
      refine (hset k hkp).trans ((hgrow.block k (by have := hb.size; simp; omega) (fun e => hn (h.ins k e.symm))).trans ((heap_alloc_old _ _ (by have := hb.size; omega)).trans (hb.block k hk2)))
    · rcases hs with h1 | h1 | h1
      · exact h1
      · omega
      · rcases hat with h2 | h2
        · exact h.ins k (by rw [← h2]; exact h1)
        · rw [h2] at h1; have := Option.some.inj h1; have := hb.size; omega
end

theorem info_bytes' : (Tryd.prog.info? 41).map (fun i => (i.zero, i.size, i.bytes)) = some (some (.slice none 0 0), 1, 24) := by kernel_rfl

/-- make([]byte, 32). -/
theorem run_make32 (w : World) : (Instr.makeSlice 41 (.int .i64 32) (.int .i64 32)).run Tryd.prog w = .ok (.slice (some ⟨w.heap.size, 0, none⟩) 32 32) (w.alloc (.cells (cellsB (zerosB 32)) 5)) := by
  obtain ⟨i0, hi0, hz0, hz1, hz2⟩ := info_parts info_u8
  have h := run_make (P := Tryd.prog) w 41 5 i0 _ Tryd.underlying41 hi0 hz0 .i64 .i64 32 32 (by decide) (by decide) (by rw [hz2]; decide) (by decide)
  rw [hz1] at h
  simp only [show Int.toNat 32 = 32 from rfl] at h
  have e : madeCells (Value.int .u8 0).cells (32 * 1) = cellsB (zerosB 32) := by
    have := made_zeros 32
    unfold cellsB
    rw [← this, Array.toArray_toList]
  rw [e] at h
  exact h

theorem ok_zsecs (k : Nat) (hk : k ≤ 300) : (ds0 (zsecs k) (-1)).Ok := DS.ok_new k hk
theorem zsecs_succ (k : Nat) : zsecs (k + 1) = zsecs k ++ [zerosB 32] := by unfold zsecs zerosB; rw [List.replicate_succ']

set_option maxRecDepth 100000 in
set_option maxHeartbeats 2000000 in
theorem rnew_any (n : Nat) (w : World) (hn : n ≤ 300) :
    Calls Tryd.prog 6 #[.int .i64 n] w fun e w' => ∃ p S, e = .returned (.pointer (some ⟨p, 0, none⟩)) ∧ Ref w' p S (ds0 (zsecs n) (-1)) ∧ (∀ k, S k → w.heap.size ≤ k) ∧ Below w.heap.size w w' := by
  have hmk := run_make32
  obtain ⟨i0, hi0, hz0, hz1, hz2⟩ := info_parts info_bytes'
  go_enter Tryd.func6, Tryd.ntmps6
  go_wp2_with fail
  go_loopw [4] (fun v wr => ∃ (k : Nat) (S : Nat → Prop) (sv : Value), k ≤ n ∧ v = .int .i64 k ∧ RefAt wr w.heap.size sv (.slice none 0 0) (-1) S (ds0 (zsecs k) (-1)) ∧ (∀ j, S j → w.heap.size ≤ j) ∧ Below w.heap.size w wr) (fun v _ => n - (intOf v).toNat)
  case atStart =>
    refine ⟨0, fun k => k = w.heap.size, .slice none 0 0, by omega, rfl, ⟨ok_zsecs 0 (by decide), heap_alloc_new _ _, ⟨[], World.ownsRow_nil _ _ _ _, fun i hi => absurd hi (Nat.not_lt_zero i)⟩, ⟨[], World.ownsRow_nil _ _ _ _, fun i hi => absurd hi (Nat.not_lt_zero i)⟩, rfl, fun g hg => (by cases hg), fun g hg => (by cases hg), fun k hk => (by subst hk; simp), .inr rfl, by decide⟩, fun j hj => (by omega), (Below.refl _ _).alloc (Nat.le_refl _) _⟩
  case round =>
    obtain ⟨k, S, sv, hk, rfl, hr, hS, hbel⟩ := hrel
    by_cases hlt : k < n
    · have c0 := hr.c0
      have f0 := hr.fr 0
      have hlp := hr.lt _ hr.inp
      obtain ⟨cs, hcs1, hcs2⟩ := hr.sec
      have hl0 : (ds0 (zsecs k) (-1)).secs.length = k := length_zsecs k
      rw [hl0] at hcs1
      have hcl : cs.length = k := by have := hcs1.1; omega
      have hnsv := hr.nsv
      have hown1 : ((World.drew wr).alloc (.cells (cellsB (zerosB 32)) 5)).ownsRow 0 41 1 sv k cs := (World.ownsRow.drew hcs1).alloc _
      have hfin : ∀ g2 c2 w2 o, w2.ownsRow 0 41 1 (.slice (some ⟨g2, 0, none⟩) (k + 1) c2) (k + 1) (cs ++ [.slice (some ⟨wr.heap.size, 0, none⟩) 32 32]) → (((World.drew wr).alloc (.cells (cellsB (zerosB 32)) 5)).alloc o).grownBy w2 sv.ownBlock → (sv.ownBlock = some g2 ∨ g2 = wr.heap.size + 1 + 1) →
          ∃ S', RefAt (w2.setCell ⟨w.heap.size, 0, none⟩ (.slice (some ⟨g2, 0, none⟩) (k + 1) c2)) w.heap.size (.slice (some ⟨g2, 0, none⟩) (k + 1) c2) (.slice none 0 0) (-1) S' (ds0 (zsecs (k + 1)) (-1)) ∧ Turn S S' wr (w2.setCell ⟨w.heap.size, 0, none⟩ (.slice (some ⟨g2, 0, none⟩) (k + 1) c2)) := by
        intro g2 c2 w2 o h2 h3 h4
        have hb1 : Below wr.heap.size wr ((World.drew wr).alloc (.cells (cellsB (zerosB 32)) 5)) := (Below.mk rfl rfl rfl (Nat.le_refl _) (fun _ _ => rfl) : Below wr.heap.size wr wr.drew).alloc (Nat.le_refl _) _
        have hnewrow : Blk ((World.drew wr).alloc (.cells (cellsB (zerosB 32)) 5)) wr.heap.size (zerosB 32) := heap_alloc_new (World.drew wr) _
        have hbs := hnewrow.bs (byt_zerosB 32) (by rw [length_zerosB]; decide)
        rw [length_zerosB] at hbs
        have hv1 : SecV ((World.drew wr).alloc (.cells (cellsB (zerosB 32)) 5)) (fun k => k = wr.heap.size) (.slice (some ⟨wr.heap.size, 0, none⟩) 32 32) (zerosB 32) := ⟨_, _, rfl, rfl, ⟨_, hnewrow⟩, hbs⟩
        have e := zsecs_succ k
        have hok2 : DS.Ok { ds0 (zsecs k) (-1) with secs := (ds0 (zsecs k) (-1)).secs ++ [zerosB 32] } := by
          show (DS.mk (zsecs k ++ [zerosB 32]) [] (-1) false).Ok
          rw [← e]; exact ok_zsecs (k + 1) (by omega)
        have := hr.addSec (l := zerosB 32) hok2 (Nat.le_refl _) (by simp) hv1 hb1 cs hcs2 (by rw [hcl, hl0]) (by rw [hl0]; exact h2) h3 (by
          rcases h4 with h5 | h5
          · exact .inl h5.symm
          · exact .inr (by rw [h5]; simp [Value.ownBlock]))
        refine ⟨_, ?_, this.2⟩
        have h9 := this.1
        rw [show ({ ds0 (zsecs k) (-1) with secs := (ds0 (zsecs k) (-1)).secs ++ [zerosB 32] } : DS) = ds0 (zsecs (k + 1)) (-1) from by rw [e]; rfl] at h9
        exact h9
      have HFIN := hide hfin
      have HOWN := hide hown1
      have HSS := hide hS
      have HBEL := hide hbel
      have hf0' : wr.frozen? ⟨w.heap.size, 0, none⟩ = false := f0
      clear hr hfin hown1 hcs1 hcs2 hl0 hS hbel
      go_wp2_with fail
      have c0b : ∀ o, (wr.alloc o).cell? ⟨w.heap.size, 0, none⟩ = some sv := fun o => (World.cell?_of_block (a := ⟨w.heap.size, 0, none⟩) (heap_alloc_old _ _ hlp)).trans c0
      have c0c : ∀ o o', ((wr.alloc o).alloc o').cell? ⟨w.heap.size, 0, none⟩ = some sv := fun o o' => (World.cell?_of_block (a := ⟨w.heap.size, 0, none⟩) (heap_alloc_old _ _ (by simp; omega))).trans (c0b o)
      go_region_law (refine step_append_lies _ (by rfl) (.tmp 16) (.tmp 18) 69 (by rfl) 0 41 i0 _ 1 24 Tryd.underlying69 hi0 hz0 hz1 hz2 (by rfl) (by decide) _ _ _ (by rfl) ((unhide HOWN).alloc _) ⟨wr.heap.size + 1, 0, none⟩ 1 1 [.slice (some ⟨wr.heap.size, 0, none⟩) 32 32] (by rfl) (by rfl) (cell_one_new' wr _ _ _) (fun u hu => by simp at hu; subst hu; rfl) (by decide) (by unfold maxLen; omega) (by omega) (Nat.zero_le _) (wr.heap.size + 1 + 1) (by simp) ?_; intro g2 c2 w2 hown2 hgrow2 hat2 hlt2; have b1 := (hgrow2.block w.heap.size (by simp; omega) (fun e => hnsv e.symm)).trans ((heap_alloc_old _ _ (by simp; omega)).trans (heap_alloc_old _ _ hlp)); have s1 : w2.cell? ⟨w.heap.size, 0, none⟩ = some sv := (World.cell?_of_block (a := ⟨w.heap.size, 0, none⟩) b1).trans c0; have s2 : w2.frozen? ⟨w.heap.size, 0, none⟩ = false := (World.frozen?_of_block (a := ⟨w.heap.size, 0, none⟩) b1).trans f0; clear b1)
      all_goals
        obtain ⟨S2, hR2, hT2⟩ := (unhide HFIN) g2 c2 w2 (.cells #[.slice (some ⟨wr.heap.size, 0, none⟩) 32 32] 41) hown2 hgrow2 hat2
        have HR2 := hide hR2
        have HT2 := hide hT2
        clear hR2 hT2 hown2 hgrow2 hat2
        go_wp2
        go_roundw
        case rel => exact ⟨k + 1, S2, _, by omega, by go_num, unhide HR2, fun j hj => by
            rcases Nat.lt_or_ge j wr.heap.size with h1 | h1
            · exact (unhide HSS) j ((unhide HT2).foot j h1 hj)
            · exact Nat.le_trans (unhide HBEL).size h1, (unhide HBEL).trans ((unhide HT2).below (unhide HSS) (unhide HBEL).size)⟩
        case measure => simp [intOf]; omega
    · obtain rfl : k = n := by omega
      have HR := hide hr
      clear hr
      go_wp2
      go_ret
      exact ⟨_, S, rfl, ⟨_, _, _, unhide HR⟩, hS, hbel⟩
end Go.Proofs.YtmphnhigohkaeaaDoor
/-! Contracts of the reference's device: Crash. (Part of the proof of DevicePlays.) -/
namespace Go.Proofs.YtmphnhigohkaeaaDoor
open Go.RowKit
set_option linter.unusedVariables false

section
variable {w : World} {p : Nat} {S : Nat → Prop} {D : DS}

/-- The first j bytes of b over those of s. -/
theorem torn_succ {s b : List Int} (hs : s.length = 32) (hb : b.length = 32) (j : Nat) (hj : j < 32) : (torn1 s b j).set j (b.getD j 0) = torn1 s b (j + 1) := by
  unfold torn1
  apply List.ext_getElem?
  intro i
  rw [List.getElem?_set]
  have hl1 : (b.take j).length = j := by simp; omega
  have hl2 : (b.take (j + 1)).length = j + 1 := by simp; omega
  by_cases h1 : j = i
  · subst h1
    rw [if_pos rfl]
    rw [if_pos (by simp; omega), List.getElem?_append_left (by omega), List.getElem?_take, if_pos (by omega)]
    simp [List.getD, hb, hj]
  · rw [if_neg h1]
    by_cases h2 : i < j
    · rw [List.getElem?_append_left (by omega), List.getElem?_append_left (by omega), List.getElem?_take, List.getElem?_take, if_pos h2, if_pos (by omega)]
    · rw [List.getElem?_append_right (by omega), List.getElem?_append_right (by omega), List.getElem?_drop, List.getElem?_drop]
      congr 1; omega

/-- The device is made anew behind a crash. -/
theorem RefAt.crashed {sv lv : Value} {left : Int} (h : RefAt w p sv lv left S D) :
    RefAt (((w.setCell ⟨p, 1, none⟩ (.slice none 0 0)).setCell ⟨p, 3, none⟩ (.bool false)).setCell ⟨p, 2, none⟩ (.int .i64 (-1))) p sv (.slice none 0 0) (-1) S ⟨D.secs, [], -1, false⟩ ∧ Turn S S w (((w.setCell ⟨p, 1, none⟩ (.slice none 0 0)).setCell ⟨p, 3, none⟩ (.bool false)).setCell ⟨p, 2, none⟩ (.int .i64 (-1))) := by
  have h1 := h.forget
  have hs1 : ((w.setCell ⟨p, 1, none⟩ (.slice none 0 0)).setCell ⟨p, 3, none⟩ (.bool false)).heap[p]? = some (.cells #[sv, .slice none 0 0, .int .i64 left, .bool false] 72 (0, 0)) := by rw [heap_setCell_same _ _ _ _ _ _ h1.str]; simp
  have hs2 : (((w.setCell ⟨p, 1, none⟩ (.slice none 0 0)).setCell ⟨p, 3, none⟩ (.bool false)).setCell ⟨p, 2, none⟩ (.int .i64 (-1))).heap[p]? = some (.cells #[sv, .slice none 0 0, .int .i64 (-1), .bool false] 72 (0, 0)) := by rw [heap_setCell_same _ _ _ _ _ _ hs1]; simp
  have hset : ∀ k, k ≠ p → (((w.setCell ⟨p, 1, none⟩ (.slice none 0 0)).setCell ⟨p, 3, none⟩ (.bool false)).setCell ⟨p, 2, none⟩ (.int .i64 (-1))).heap[k]? = (w.setCell ⟨p, 1, none⟩ (.slice none 0 0)).heap[k]? := fun k hk => (heap_setCell_other _ _ _ _ hk).trans (heap_setCell_other _ _ _ _ hk)
  refine ⟨⟨⟨h.ok.len, h.ok.sec, fun q hq => (by cases hq), List.nodup_nil, by simp⟩, hs2, ?_, ⟨[], World.ownsRow_nil _ _ _ _, fun i hi => absurd hi (Nat.not_lt_zero i)⟩, h.inp, h.ins, fun g hg => (by cases hg), fun k hk => by simpa using h.lt k hk, .inr rfl, by decide⟩, ((Turn.setCell _ _ h.inp).trans (Turn.setCell _ _ h.inp)).trans (Turn.setCell _ _ h.inp)⟩
  obtain ⟨cs, q1, q2⟩ := h1.sec
  refine ⟨cs, ownsRow_same q1 (fun g hg => hset g (fun e => h1.nsv (by rw [hg, e]))), fun i hi => ?_⟩
  obtain ⟨u, q3, q4⟩ := q2 i hi
  exact ⟨u, q3, q4.ne h1.str (by decide) hset⟩

set_option maxRecDepth 100000 in
set_option maxHeartbeats 4000000 in
theorem rcrash_some {sv lv : Value} {left : Int} (ka : Option Addr) (kcap : Nat) (keep : List Bool) (torn cut : Int) (h : RefAt w p sv lv left S D) (hpos : 0 < D.secs.length) (hkeep : Bls w ka kcap keep) (hkn : keep ≠ [] → ∀ x, ka = some x → ¬ S x.block) :
    Calls Tryd.prog 15 #[.pointer (some ⟨p, 0, none⟩), .slice ka keep.length kcap, .int .i64 torn, .int .i64 cut] w fun e w' => e = .returned (.int .i64 D.mem.length) ∧ (∃ S', Ref w' p S' (D.crash keep torn (cutN cut)) ∧ Turn S S' w w') := by
  have c1 := h.c1
  have hml := h.ok.mem_len
  have hlen := h.ok.len
  have hkl := hkeep.2.1
  have H := hide h
  have HK := hide hkeep
  have HKN := hide hkn
  obtain ⟨gs, cap, rfl, hs1, hs2, hgsS, _⟩ := h.sv_form hpos
  unfold maxLen at hs2
  have hform := h.lv_form
  clear h hkeep hkn
  rcases hform with ⟨rfl, hm0⟩ | ⟨gl, lc, rfl, hl1, hl2, hglS, _⟩
  · have hcr := (unhide H).crashed
    have d2 := (unhide H).c2
    have d3 := (unhide H).c3
    have g1 := (unhide H).fr 1
    have g2 := (unhide H).fr 2
    have g3 := (unhide H).fr 3
    have hcd : D.crash keep torn (cutN cut) = ⟨D.secs, [], -1, false⟩ := by unfold DS.crash; rw [hm0]; rfl
    have hl0 : D.mem.length = 0 := by rw [hm0]; rfl
    have HCD := hide hcd
    have HL0 := hide hl0
    have HCR := hide hcr
    clear hcr hcd hl0 hm0
    go_enter Tryd.func15, Tryd.ntmps15
    go_wp2_with fail
    go_loop [10] (fun v => v = .int .i64 0) (fun _ => 0)
    case atStart => rfl
    case round =>
      subst hrel
      go_wp2
      go_ret
      exact ⟨by rw [unhide HL0]; rfl, S, ⟨_, _, _, by rw [unhide HCD]; exact (unhide HCR).1⟩, (unhide HCR).2⟩
  · unfold maxLen at hl2
    go_enter Tryd.func15, Tryd.ntmps15
    go_wp2_with fail
    go_loopw [10] (fun v wr => ∃ (k : Nat) (S' : Nat → Prop), k ≤ D.mem.length ∧ v = .int .i64 k ∧ RefAt wr p (.slice (some ⟨gs, 0, none⟩) D.secs.length cap) (.slice (some ⟨gl, 0, none⟩) D.mem.length lc) left S' { D with secs := crashK D.secs D.mem keep torn (cutN cut) k } ∧ Turn S S' w wr) (fun v _ => D.mem.length - (intOf v).toNat)
    case atStart => exact ⟨0, S, by omega, rfl, unhide H, Turn.refl _ _⟩
    case round =>
      obtain ⟨k, S1, hk, rfl, hd, htr⟩ := hrel
      clear H c1
      have d1 := hd.c1
      by_cases hlt : k < D.mem.length
      · obtain ⟨ky, bd, hkb⟩ : ∃ ky bd, D.mem.getD k (0, []) = (ky, bd) := ⟨_, _, rfl⟩
        have d0 := hd.c0
        have hpm : D.mem.getD k (0, []) ∈ D.mem := pair_mem hlt
        have hset := crashK_succ (secs := D.secs) keep torn (cutN cut) k ky bd hkb
        have hq := hd.ok.mem _ hpm
        obtain ⟨q0, vb, q1, hvb⟩ : wr.cell? ⟨gl, k * 2, none⟩ = some (.int .i64 ((D.mem.getD k (0, [])).1 : Int)) ∧ ∃ v, wr.cell? ⟨gl, k * 2 + 1, none⟩ = some v ∧ SecV wr S1 v (D.mem.getD k (0, [])).2 := by
          rcases hd.lv_form with ⟨e, _⟩ | ⟨g', c', e, _, _, _, hh⟩
          · cases e
          · simp only [Value.slice.injEq, Option.some.injEq, Addr.mk.injEq, and_true] at e
            rw [e.1]; exact hh k hlt
        simp only [hkb] at q0 hvb hq
        obtain ⟨gb, cb, rfl, hvb'⟩ : ∃ gb cb, vb = .slice (some ⟨gb, 0, none⟩) 32 cb ∧ SecV wr S1 vb bd := by
          obtain ⟨gb, cb, e, r⟩ := hvb
          exact ⟨gb, cb, e, gb, cb, e, r⟩
        have f0 : (0 : Int) ≤ (k : Int) := by omega
        have f1 : (k : Int) < (D.mem.length : Int) := by omega
        obtain ⟨so, hso⟩ : ∃ so, (crashK D.secs D.mem keep torn (cutN cut) k).getD ky [] = so := ⟨_, rfl⟩
        have hdx := hd.alloc (.cells #[.int .i64 (ky : Int), .slice (some ⟨gb, 0, none⟩) 32 cb] 92)
        have hsS : Sec so := by rw [← hso]; exact sec_getD hd.ok.sec hq.1
        have x0d := hdx.c0
        have hkyl : ky < D.secs.length := by have := hq.1; rwa [length_crashK] at this
        obtain ⟨vs, hvs, hsv⟩ : ∃ v, (wr.alloc (.cells #[.int .i64 (ky : Int), .slice (some ⟨gb, 0, none⟩) 32 cb] 92)).cell? ⟨gs, ky, none⟩ = some v ∧ SecV (wr.alloc (.cells #[.int .i64 (ky : Int), .slice (some ⟨gb, 0, none⟩) 32 cb] 92)) S1 v so := by
          obtain ⟨g', c', e, _, _, _, hh⟩ := hdx.sv_form (by show 0 < (crashK D.secs D.mem keep torn (cutN cut) k).length; rw [length_crashK]; exact hpos)
          simp only [Value.slice.injEq, Option.some.injEq, Addr.mk.injEq, and_true] at e
          obtain ⟨v, hv, hv2⟩ := hh ky hq.1
          have hso' : ({ D with secs := crashK D.secs D.mem keep torn (cutN cut) k } : DS).secs.getD ky [] = so := hso
          rw [hso'] at hv2
          rw [e.1]; exact ⟨v, hv, hv2⟩
        obtain ⟨gv, cv, rfl, hgvS, hgvb, hbv⟩ := hsv
        have hvbx : SecV (wr.alloc (.cells #[.int .i64 (ky : Int), .slice (some ⟨gb, 0, none⟩) 32 cb] 92)) S1 (.slice (some ⟨gb, 0, none⟩) 32 cb) bd := hvb'.same (fun j hj => heap_alloc_old _ _ (hd.lt j hj)) (fun _ h => h)
        have hfz : (wr.alloc (.cells #[.int .i64 (ky : Int), .slice (some ⟨gb, 0, none⟩) 32 cb] 92)).frozen? ⟨gs, ky, none⟩ = false := by
          obtain ⟨cs, q5, _⟩ := hdx.sec
          obtain ⟨cur, q6⟩ := ownsRow_block q5 (g := gs) rfl
          exact frozen_of_row _ _ _ _ _ q6
        have hx0 : (wr.alloc (.cells #[.int .i64 (ky : Int), .slice (some ⟨gb, 0, none⟩) 32 cb] 92)).cell? ⟨wr.heap.size, 0, none⟩ = some (.int .i64 (ky : Int)) := by rw [cell_of_row _ _ _ _ _ _ (heap_alloc_new _ _)]; simp
        have hx1 : (wr.alloc (.cells #[.int .i64 (ky : Int), .slice (some ⟨gb, 0, none⟩) 32 cb] 92)).cell? ⟨wr.heap.size, 1, none⟩ = some (.slice (some ⟨gb, 0, none⟩) 32 cb) := by rw [cell_of_row _ _ _ _ _ _ (heap_alloc_new _ _)]; simp
        have hgsl : gs < wr.heap.size := hd.lt gs (hd.ins gs rfl)
        have hpl : p < wr.heap.size := hd.lt p hd.inp
        have hne1 : gs ≠ p := fun e => hd.nsv (by rw [← e]; rfl)
        have f2 : (0 : Int) ≤ (ky : Int) := by omega
        have f3 : (ky : Int) < (D.secs.length : Int) := by omega
        have hsb : Sec bd := hq.2
        have htx : Turn S S1 w (wr.alloc (.cells #[.int .i64 (ky : Int), .slice (some ⟨gb, 0, none⟩) 32 cb] 92)) := htr.trans (Turn.alloc S1 _ _)
        have HDX := hide hdx
        have HQ := hide hq
        have HTX := hide htx
        have HSET := hide hset
        have HSO := hide hso
        have HVB := hide hvbx
        by_cases ht : (k : Int) = torn
        · have hone : one keep torn (cutN cut) k so bd = torn1 so bd (cutN cut) := by unfold one; rw [if_pos ht]
          have HONE := hide hone
          have hcp := copied_any (some ⟨gv, 0, none⟩) cv so (World.drew (wr.alloc (.cells #[.int .i64 (ky : Int), .slice (some ⟨gb, 0, none⟩) 32 cb] 92))) hbv (by intro e; have := hsS.1; rw [e] at this; cases this)
          rw [hsS.1] at hcp
          have HCP := hide hcp
          clear hcp hone hd hdx htr htx hset hq hvb hvb' hvbx hso hpm hkb
          subst ht
          go_wp2_with fail
          generalize (wr.alloc (.cells #[.int .i64 (ky : Int), .slice (some ⟨gb, 0, none⟩) 32 cb] 92)) = wx at *
          go_region_held3 (fun w' => w'.cell? ⟨p, 0, none⟩ = some (.slice (some ⟨gs, 0, none⟩) D.secs.length cap) ∧ w'.cell? ⟨wr.heap.size, 0, none⟩ = some (.int .i64 (ky : Int)) ∧ w'.cell? ⟨gs, ky, none⟩ = some (.slice (some ⟨gv, 0, none⟩) 32 cv)) (first | go_keep | (go_split_ands; refine ⟨?_, ?_, ?_⟩ <;> go_keep))
            ((go_at_call 46; refine (unhide HCP).mono ?_; rintro e w1 ⟨g, c, rfl, hown, hbel⟩; have r0 := (hbel.cell (p := ⟨p, 0, none⟩) (block_lt_of_cell x0d)).trans x0d; have r1 := (hbel.cell (p := ⟨wr.heap.size, 0, none⟩) (block_lt_of_cell hx0)).trans hx0; have r2 := (hbel.cell (p := ⟨gs, ky, none⟩) (block_lt_of_cell hvs)).trans hvs))
          have hbel' : Below wx.heap.size wx w1 := below_of_drew hbel
          have hown' : Own w1 wx.heap.size g c so := hown
          have HO1 := hide hown'
          have HB1 := hide hbel'
          clear hown hbel hown' hbel' r0 r1 r2 HCP
          generalize wr.heap.size = xp at *
          go_wp2_with fail
          go_loopw [13] (fun v wq => ∃ j : Nat, j ≤ 32 ∧ (j : Int) ≤ max cut 0 ∧ v = .int .i64 j ∧ Own wq wx.heap.size g c (torn1 so bd j) ∧ Below wx.heap.size wx wq) (fun v _ => 32 - (intOf v).toNat)
          case atStart => exact ⟨0, by omega, by omega, rfl, by rw [show torn1 so bd 0 = so from by simp [torn1]]; exact unhide HO1, unhide HB1⟩
          case round =>
            obtain ⟨j, hj, hjc, rfl, hoj, hbj⟩ := hrel
            have hlj : (torn1 so bd j).length = 32 := (sec_torn hsS hsb j).1
            by_cases hjj : j < 32 ∧ (j : Int) < cut
            · obtain ⟨j1, j2⟩ := hjj
              have y1 := (hbj.cell (p := ⟨xp, 1, none⟩) (block_lt_of_cell hx1)).trans hx1
              have y2 : wr.cell? ⟨gb, j, none⟩ = some (.int .u8 (bd.getD j 0)) := by
                obtain ⟨g', c', e, _, _, hbb⟩ := unhide HVB
                obtain ⟨rfl, rfl⟩ : gb = g' ∧ cb = c' := by simpa using e
                obtain ⟨b', off, e2, hc⟩ := hbb.2.2.2.2 (by intro e3; have := hsb.1; rw [e3] at this; cases this)
                obtain ⟨rfl, rfl⟩ : gb = b' ∧ 0 = off := by simpa using e2
                have h5 := hc j (by rw [hsb.1]; exact j1)
                rw [Nat.zero_add] at h5
                exact (hbj.cell (p := ⟨gb, j, none⟩) (block_lt_of_cell h5)).trans h5
              have y3 := hoj.cell j (by rw [hlj]; exact j1)
              have y4 := hoj.frozen j
              have HOJ := hide (hoj.set j (bd.getD j 0))
              have HBJ := hide (show Below wx.heap.size wx (wr.setCell ⟨g, j, none⟩ (.int .u8 (bd.getD j 0))) from hbj.setCell hoj.base _)
              have HTS := hide (torn_succ hsS.1 hsb.1 j j1)
              have g0 : (0 : Int) ≤ (j : Int) := by omega
              have g1 : (j : Int) < 32 := by omega
              generalize bd.getD j 0 = bj at *
              clear hoj hbj
              go_wp2
              go_roundw
              case rel => exact ⟨j + 1, by omega, by omega, by go_num, by rw [← unhide HTS]; exact unhide HOJ, unhide HBJ⟩
              case measure => simp [intOf]; omega
            · have hjc2 : j = cutN cut := by unfold cutN; omega
              have hsT : Sec (torn1 so bd (cutN cut)) := sec_torn hsS hsb _
              rw [hjc2] at hoj
              have hgl : g < wr.heap.size := (hoj.lt g rfl).2
              have hdq := (unhide HDX).same hbj.size (fun k hk => hbj.block k ((unhide HDX).lt k hk))
              have hdw := (hdq.wide (S' := fun k => S1 k ∨ k = g) (fun k hk => .inl hk) (fun k hk => by
                rcases hk with hk | hk
                · exact hdq.lt k hk
                · omega)).same (w' := wr.drew) (Nat.le_refl _) (fun _ _ => rfl)
              have hoj' : Own wr.drew wx.heap.size g c (torn1 so bd (cutN cut)) := hoj
              have hres := hdw.setSec ky (unhide HQ).1 (secV_own hoj' hsT (.inr rfl)) hsT
              have hbw : wx.heap.size ≤ g := hoj.base
              have HT2 := hide (((unhide HTX).trans (Turn.grow hbj hbw)).trans (Turn.drew (fun k => S1 k ∨ k = g) wr))
              have HR := hide hres
              have y0 := (hbj.cell (p := ⟨p, 0, none⟩) (block_lt_of_cell x0d)).trans x0d
              have y1 := (hbj.cell (p := ⟨xp, 0, none⟩) (block_lt_of_cell hx0)).trans hx0
              have y2 := (hbj.cell (p := ⟨gs, ky, none⟩) (block_lt_of_cell hvs)).trans hvs
              have y3 := (hbj.frozen (p := ⟨gs, ky, none⟩) (block_lt_of_cell hvs)).trans hfz
              have hcond : (j = 32) ∨ (j < 32 ∧ ¬ (j : Int) < cut) := by omega
              have hne4 : gs ≠ xp := by omega
              clear hdq hdw hoj hoj' hres hbj hjc2 hlj
              rcases hcond with h32 | ⟨h32, h33⟩
              · subst h32
                go_wp2_with fail
                go_region_held3 (fun w' => w'.cell? ⟨p, 0, none⟩ = some (.slice (some ⟨gs, 0, none⟩) D.secs.length cap) ∧ w'.cell? ⟨xp, 0, none⟩ = some (.int .i64 (ky : Int))) (first | go_keep | (go_split_ands; refine ⟨?_, ?_⟩ <;> first | go_keep | (simp [hne1, hne4, Ne.symm hne1, Ne.symm hne4]; assumption))) (fail)
                go_wp2
                go_roundw
                case rel => exact ⟨k + 1, _, by omega, by go_num, by rw [unhide HSET, unhide HSO, unhide HONE]; exact (unhide HR).1, (unhide HT2).trans (unhide HR).2⟩
                case measure => simp [intOf]; omega
              · have g1 : (j : Int) < 32 := by omega
                go_wp2_with fail
                go_region_held3 (fun w' => w'.cell? ⟨p, 0, none⟩ = some (.slice (some ⟨gs, 0, none⟩) D.secs.length cap) ∧ w'.cell? ⟨xp, 0, none⟩ = some (.int .i64 (ky : Int))) (first | go_keep | (go_split_ands; refine ⟨?_, ?_⟩ <;> first | go_keep | (simp [hne1, hne4, Ne.symm hne1, Ne.symm hne4]; assumption))) (fail)
                go_wp2
                go_roundw
                case rel => exact ⟨k + 1, _, by omega, by go_num, by rw [unhide HSET, unhide HSO, unhide HONE]; exact (unhide HR).1, (unhide HT2).trans (unhide HR).2⟩
                case measure => simp [intOf]; omega
        · by_cases hkk : k < keep.length
          · have hne : keep ≠ [] := by intro e; rw [e] at hkk; simp at hkk
            obtain ⟨b3, off3, rfl, hc3⟩ := (unhide HK).2.2 hne
            have hb3 := block_lt_of_cell (hc3 k hkk)
            have hkc : (wr.alloc (.cells #[.int .i64 (ky : Int), .slice (some ⟨gb, 0, none⟩) 32 cb] 92)).cell? ⟨b3, off3 + k, none⟩ = some (.bool (keep.getD k false)) :=
              (World.cell?_of_block (a := ⟨b3, off3 + k, none⟩) ((heap_alloc_old _ _ (Nat.lt_of_lt_of_le hb3 htr.size)).trans (htr.block b3 hb3 ((unhide HKN) hne _ rfl)))).trans (hc3 k hkk)
            have hkk' : (k : Int) < (keep.length : Int) := by omega
            by_cases hkt : keep.getD k false = true
            · have hone : one keep torn (cutN cut) k so bd = bd := by unfold one; rw [if_neg ht, if_pos hkt]
              rw [hkt] at hkc
              have hdw := hdx.same (w' := World.drew (wr.alloc (.cells #[.int .i64 (ky : Int), .slice (some ⟨gb, 0, none⟩) 32 cb] 92))) (Nat.le_refl _) (fun _ _ => rfl)
              have hres := hdw.setSec ky hq.1 (v := .slice (some ⟨gb, 0, none⟩) 32 cb) hvbx hsb
              have HR := hide hres
              have HONE := hide hone
              have HT2 := hide ((unhide HTX).trans (Turn.drew S1 _))
              have hne4 : gs ≠ wr.heap.size := by omega
              clear hone hd hdx hdw hres htr htx hset hq hvb hvb' hvbx hso hpm hkb hc3 hkt hne hb3
              go_wp2_with fail
              generalize (wr.alloc (.cells #[.int .i64 (ky : Int), .slice (some ⟨gb, 0, none⟩) 32 cb] 92)) = wx at *
              go_region_held3 (fun w' => w'.cell? ⟨p, 0, none⟩ = some (.slice (some ⟨gs, 0, none⟩) D.secs.length cap) ∧ w'.cell? ⟨wr.heap.size, 0, none⟩ = some (.int .i64 (ky : Int)) ∧ w'.cell? ⟨wr.heap.size, 1, none⟩ = some (.slice (some ⟨gb, 0, none⟩) 32 cb)) (first | go_keep | (go_split_ands; refine ⟨?_, ?_, ?_⟩ <;> first | go_keep | (simp [hne1, hne4, Ne.symm hne1, Ne.symm hne4]; assumption))) (fail)
              go_wp2
              go_roundw
              case rel => exact ⟨k + 1, _, by omega, by go_num, by rw [unhide HSET, unhide HSO, unhide HONE]; exact (unhide HR).1, (unhide HT2).trans (unhide HR).2⟩
              case measure => simp [intOf]; omega
            · have hone : one keep torn (cutN cut) k so bd = so := by unfold one; rw [if_neg ht, if_neg hkt]
              have hkt' : keep.getD k false = false := by simpa using hkt
              rw [hkt'] at hkc
              have hsame : crashK D.secs D.mem keep torn (cutN cut) (k + 1) = crashK D.secs D.mem keep torn (cutN cut) k := by rw [hset, hso, hone, ← hso, set_getD_self]
              have HSM := hide hsame
              clear hone hsame hd hdx htr htx hset hq hvb hvb' hvbx hso hpm hkb hc3 hkt hkt' hne hb3
              go_wp2
              go_roundw
              case rel => exact ⟨k + 1, S1, by omega, by go_num, by rw [unhide HSM]; exact unhide HDX, unhide HTX⟩
              case measure => simp [intOf]; omega
          · have hkt' : keep.getD k false = false := by simp [List.getD, List.getElem?_eq_none (by omega : keep.length ≤ k)]
            have hkk' : ¬ (k : Int) < (keep.length : Int) := by omega
            have hone : one keep torn (cutN cut) k so bd = so := by unfold one; rw [if_neg ht, if_neg (by rw [hkt']; exact Bool.false_ne_true)]
            have hsame : crashK D.secs D.mem keep torn (cutN cut) (k + 1) = crashK D.secs D.mem keep torn (cutN cut) k := by rw [hset, hso, hone, ← hso, set_getD_self]
            have HSM := hide hsame
            clear hone hsame hd hdx htr htx hset hq hvb hvb' hvbx hso hpm hkb hkt'
            go_wp2
            go_roundw
            case rel => exact ⟨k + 1, S1, by omega, by go_num, by rw [unhide HSM]; exact unhide HDX, unhide HTX⟩
            case measure => simp [intOf]; omega
      · obtain rfl : k = D.mem.length := by omega
        have hcr := hd.crashed
        have d2 := hd.c2
        have d3 := hd.c3
        have g1 := hd.fr 1
        have g2 := hd.fr 2
        have g3 := hd.fr 3
        have HCR := hide hcr
        have HTR := hide htr
        clear hcr htr hd
        go_wp2
        go_ret
        exact ⟨rfl, S1, ⟨_, _, _, (unhide HCR).1⟩, (unhide HTR).trans (unhide HCR).2⟩
end
end Go.Proofs.YtmphnhigohkaeaaDoor
/-! The contract of the document's own answer for a number (vaultref1.Number). (Part of the proofs of NumTells, StampTells.) -/
namespace Go.Proofs.YtmphnhigohkaeaaDoor
open Go.RowKit
set_option linter.unusedVariables false

theorem numOf_drop (l : List Int) (j : Nat) (h : j < l.length) : numOf (l.drop j) = l.getD j 0 + 256 * numOf (l.drop (j + 1)) := by
  rw [List.drop_eq_getElem_cons h]
  simp [numOf, List.getD, h]

theorem numOf_drop_bd (l : List Int) (hb : Byt l) (h4 : l.length ≤ 4) (j : Nat) : 0 ≤ numOf (l.drop j) ∧ numOf (l.drop j) ≤ 4294967295 := by
  have h := numOf_bd (l.drop j) (fun z hz => hb z (List.mem_of_mem_drop hz))
  have h2 : (256 : Int) ^ (l.drop j).length ≤ 4294967296 := by
    have h3 : (l.drop j).length ≤ 4 := by simp; omega
    rcases (show (l.drop j).length = 0 ∨ (l.drop j).length = 1 ∨ (l.drop j).length = 2 ∨ (l.drop j).length = 3 ∨ (l.drop j).length = 4 from by omega) with e | e | e | e | e <;> rw [e] <;> decide
  omega

set_option maxRecDepth 100000 in
theorem rNumber (a : Option Addr) (cap : Nat) (l : List Int) (w : World) (hbs : Bs w a cap l) (h4 : l.length ≤ 4) :
    Calls Tryd.prog 72 #[.slice a l.length cap] w fun e w' => e = .returned (.int .i64 (numOf l)) ∧ w = w' := by
  go_enter Tryd.func72, Tryd.ntmps72
  go_wp2
  go_loop [3, 4] (fun n i => ∃ j : Nat, j ≤ l.length ∧ i = .int .i64 ((j : Int) - 1) ∧ n = .int .i64 (numOf (l.drop j))) (fun _ i => (intOf i + 1).toNat)
  case atStart => exact ⟨l.length, Nat.le_refl _, rfl, by simp [numOf]⟩
  case round =>
    obtain ⟨j, hj, rfl, rfl⟩ := hrel
    by_cases h0 : 1 ≤ j
    · obtain ⟨i, rfl⟩ : ∃ i, j = i + 1 := ⟨j - 1, by omega⟩
      obtain ⟨b, off, rfl, hc⟩ := hbs.2.2.2.2 (by intro h; subst h; simp at hj)
      have hx := hc i (by omega)
      have hy := hbs.1.getD i
      have hd := numOf_drop l i (by omega)
      have hbd := numOf_drop_bd l hbs.1 h4 (i + 1)
      have hji : ((i + 1 : Nat) : Int) - 1 = (i : Int) := by omega
      rw [hji]
      clear hji
      have HD := hide hd
      clear hd hc hbs
      generalize l.getD i 0 = c at *
      generalize numOf (l.drop (i + 1)) = n at *
      go_wp2
      go_round
      case rel => exact ⟨i, by omega, rfl, by rw [unhide HD]; go_num⟩
      case measure => simp [intOf]
    · obtain rfl : j = 0 := by omega
      go_wp2
      go_ret
      exact ⟨rfl, rfl⟩
end Go.Proofs.YtmphnhigohkaeaaDoor
/-! The contracts of the document's own answers for stamps (vaultref1.Make, Open). (Part of the proof of StampTells.) -/
namespace Go.Proofs.YtmphnhigohkaeaaDoor
open Go.RowKit
set_option linter.unusedVariables false

/-- The digits of a stamp. -/
def dig (n : Int) (j : Nat) : Int := n / 256 ^ j % 256
theorem pow_two (j : Nat) : (2 : Int) ^ (8 * j) = 256 ^ j := by rw [Int.pow_mul]; rfl
theorem side_getD (n : Int) (j : Nat) (h : j < 4) : (side n).getD j 0 = dig n j := by
  have := putK_in (zerosB 4) 0 n 4 j h (by rw [length_zerosB]; decide)
  rw [Nat.zero_add] at this
  unfold side dig
  rw [this, pow_two]

/-- What stands in a sector, byte by byte, when the first k bytes of the body and i digits of both stamps are there. -/
def spot (n : Int) (b : List Int) (k i j : Nat) : Int := if j < i then dig n j else if 28 ≤ j ∧ j < 28 + i then dig n (j - 28) else if 4 ≤ j ∧ j < 4 + k then b.getD (j - 4) 0 else 0
def Part (n : Int) (b : List Int) (k i : Nat) (l : List Int) : Prop := l.length = 32 ∧ ∀ j, j < 32 → l.getD j 0 = spot n b k i j

theorem getD_set (l : List Int) (i j : Nat) (x : Int) (hi : i < l.length) : (l.set i x).getD j 0 = if i = j then x else l.getD j 0 := by
  simp only [List.getD_eq_getElem?_getD, List.getElem?_set]
  by_cases h : i = j
  · rw [if_pos h, if_pos h, if_pos hi]; rfl
  · rw [if_neg h, if_neg h]

theorem zerosB_getD (n j : Nat) : (zerosB n).getD j 0 = 0 := by
  unfold zerosB
  simp only [List.getD_eq_getElem?_getD, List.getElem?_replicate]
  split <;> rfl
theorem Part.zero (n : Int) (b : List Int) : Part n b 0 0 (zerosB 32) := ⟨length_zerosB 32, fun j hj => by
  rw [zerosB_getD]
  unfold spot
  rw [if_neg (by omega), if_neg (by omega), if_neg (by omega)]⟩
theorem Part.body {n : Int} {b : List Int} {k : Nat} {l : List Int} (h : Part n b k 0 l) (hk : k < 24) : Part n b (k + 1) 0 (l.set (4 + k) (b.getD k 0)) := by
  refine ⟨by rw [List.length_set]; exact h.1, fun j hj => ?_⟩
  rw [getD_set _ _ _ _ (by rw [h.1]; omega), h.2 j hj]
  unfold spot
  by_cases e : 4 + k = j
  · subst e
    rw [if_pos rfl, if_neg (by omega), if_neg (by omega), if_pos (by omega)]
    congr 1
    omega
  · rw [if_neg e]
    repeat' split
    all_goals first | rfl | omega
theorem Part.side {n : Int} {b : List Int} {k i : Nat} {l : List Int} (h : Part n b k i l) (hi : i < 4) (hk : k ≤ 24) : Part n b k (i + 1) ((l.set i (dig n i)).set (28 + i) (dig n i)) := by
  refine ⟨by rw [List.length_set, List.length_set]; exact h.1, fun j hj => ?_⟩
  rw [getD_set _ _ _ _ (by rw [List.length_set, h.1]; omega), getD_set _ _ _ _ (by rw [h.1]; omega), h.2 j hj]
  unfold spot
  by_cases e : 28 + i = j
  · subst e
    rw [if_pos rfl, if_neg (by omega), if_pos (by omega)]
    congr 1
    omega
  · rw [if_neg e]
    by_cases e2 : i = j
    · subst e2
      rw [if_pos rfl, if_pos (by omega)]
    · rw [if_neg e2]
      repeat' split
      all_goals first | rfl | omega
theorem Part.whole {n : Int} {b : List Int} {l : List Int} (h : Part n b b.length 4 l) (hb : b.length ≤ 24) : l = secL n b := by
  refine ext_getD (by rw [h.1, length_secL n b hb]) (fun j hj => ?_)
  rw [h.1] at hj
  rw [h.2 j hj, secL_eq n b hb]
  have hs := length_side n
  have l1 : (b ++ zerosB (24 - b.length)).length = 24 := by simp [zerosB]; omega
  unfold spot
  by_cases h1 : j < 4
  · rw [if_pos h1, ← side_getD n j h1]
    simp only [List.getD_eq_getElem?_getD]
    rw [List.getElem?_append_left (by omega)]
  · rw [if_neg h1]
    simp only [List.getD_eq_getElem?_getD]
    rw [List.getElem?_append_right (by omega), hs]
    by_cases h2 : 28 ≤ j ∧ j < 28 + 4
    · rw [if_pos h2, ← side_getD n (j - 28) (by omega), List.getElem?_append_right (by omega), l1, List.getD_eq_getElem?_getD, show j - 4 - 24 = j - 28 by omega]
    · rw [if_neg h2, List.getElem?_append_left (by omega)]
      by_cases h3 : 4 ≤ j ∧ j < 4 + b.length
      · rw [if_pos h3, List.getElem?_append_left (by omega)]
      · rw [if_neg h3, List.getElem?_append_right (by omega)]
        have := zerosB_getD (24 - b.length) (j - 4 - b.length)
        rw [List.getD_eq_getElem?_getD] at this
        exact this.symm

theorem rMake_range (n : Int) (a : Option Addr) (len cap : Nat) (w : World) (h : n < 1 ∨ 4294967295 < n) :
    Calls Tryd.prog 33 #[.int .i64 n, .slice a len cap] w fun e w' => e = .returned (.tuple #[.slice none 0 0, .int .i64 1]) ∧ w = w' := by
  by_cases h1 : n < 1
  · clear h
    go_enter Tryd.func33, Tryd.ntmps33
    go_wp2
    go_ret2
    exact ⟨rfl, rfl⟩
  · have h2 : 4294967295 < n := by omega
    clear h
    go_enter Tryd.func33, Tryd.ntmps33
    go_wp2
    go_ret2
    exact ⟨rfl, rfl⟩
theorem rMake_full (n : Int) (a : Option Addr) (len cap : Nat) (w : World) (h1 : ¬ n < 1) (h2 : ¬ 4294967295 < n) (h3 : 24 < len) :
    Calls Tryd.prog 33 #[.int .i64 n, .slice a len cap] w fun e w' => e = .returned (.tuple #[.slice none 0 0, .int .i64 4]) ∧ w = w' := by
  go_enter Tryd.func33, Tryd.ntmps33
  go_wp2
  go_ret2
  exact ⟨rfl, rfl⟩

theorem div_step (n : Int) (i : Nat) : n / 256 ^ i / 256 = n / 256 ^ (i + 1) := by
  rw [Int.pow_succ, Int.ediv_ediv_of_nonneg (Int.pow_nonneg (by decide))]

set_option maxRecDepth 100000 in
set_option maxHeartbeats 2000000 in
theorem rMake_yes (n : Int) (a : Option Addr) (cap : Nat) (b : List Int) (w : World) (hb : Bs w a cap b) (h1 : ¬ n < 1) (h2 : ¬ 4294967295 < n) (h3 : b.length ≤ 24) :
    Calls Tryd.prog 33 #[.int .i64 n, .slice a b.length cap] w fun e w' => ∃ g, e = .returned (.tuple #[.slice (some ⟨g, 0, none⟩) 32 32, .int .i64 0]) ∧ Blk w' g (secL n b) ∧ Below w.heap.size w w' := by
  obtain ⟨i0, hi0, hz0, hz1, hz2⟩ := info_parts info_u8
  have HB := hide hb
  clear hb
  go_enter Tryd.func33, Tryd.ntmps33
  go_wp2_with (at_make; refine wpList_make_u8 rfl _ _ 41 rfl i0 Tryd.underlying41 hi0 hz0 hz1 hz2 _ _ _ _ 32 rfl rfl rfl rfl (by omega) ?_)
  intro w1 hk1 hs1 hb1
  have HK1 := hide hk1
  have HB1 := hide hb1
  clear hk1 hb1 hs1
  go_wp2_with fail
  go_loopw [7] (fun v wr => ∃ (k : Nat) (l : List Int), k ≤ b.length ∧ v = .int .i64 k ∧ Blk wr w.heap.size l ∧ Part n b k 0 l ∧ Below w.heap.size w wr) (fun v _ => b.length - (intOf v).toNat)
  case atStart => exact ⟨0, zerosB 32, by omega, rfl, unhide HK1, Part.zero n b, unhide HB1⟩
  case round =>
    obtain ⟨k, l, hk, rfl, hblk, hpart, hbel⟩ := hrel
    clear HK1 HB1
    by_cases hlt : k < b.length
    · have hne : b ≠ [] := by intro e; rw [e] at hlt; simp at hlt
      obtain ⟨gb, off, rfl, hc⟩ := (unhide HB).2.2.2.2 hne
      have q := (hbel.cell (p := ⟨gb, off + k, none⟩) (block_lt_of_cell (hc k hlt))).trans (hc k hlt)
      have hfz := hblk.frozen (4 + k)
      have hcl := hblk.cell (4 + k) (by rw [hpart.1]; omega)
      have HK := hide (hblk.set (4 + k) (b.getD k 0))
      have HPT := hide (hpart.body (k := k) (by omega))
      have hbs : Below w.heap.size w (wr.setCell ⟨w.heap.size, 4 + k, none⟩ (.int .u8 (b.getD k 0))) := hbel.setCell (Nat.le_refl _) _
      have HBL := hide hbs
      clear hbs
      generalize b.getD k 0 = bk at *
      clear hblk hpart hbel hc hne
      go_wp2
      go_roundw
      case rel => exact ⟨k + 1, _, by omega, by go_num, unhide HK, unhide HPT, unhide HBL⟩
      case measure => simp [intOf]; omega
    · obtain rfl : k = b.length := by omega
      have HK := hide hblk
      have HPT := hide hpart
      have HBL := hide hbel
      clear hblk hpart hbel hlt hk
      go_wp2_with fail
      go_loopw [8, 9] (fun nv v wr => ∃ (i : Nat) (l : List Int), i ≤ 4 ∧ v = .int .i64 i ∧ nv = .int .i64 (n / 256 ^ i) ∧ Blk wr w.heap.size l ∧ Part n b b.length i l ∧ Below w.heap.size w wr) (fun _ v _ => 4 - (intOf v).toNat)
      case atStart => exact ⟨0, l, by omega, rfl, by simp, unhide HK, unhide HPT, unhide HBL⟩
      case round =>
        obtain ⟨i, l, hi, rfl, rfl, hblk, hpart, hbel⟩ := hrel
        clear HK HPT HBL
        have hd1 := div_step n i
        have hny : 0 ≤ n / 256 ^ i ∧ n / 256 ^ i ≤ 4294967295 := by
          have hp : (0 : Int) < 256 ^ i := Int.pow_pos (by decide)
          refine ⟨Int.ediv_nonneg (by omega) (by omega), Int.le_trans (Int.ediv_le_self _ (by omega)) (by omega)⟩
        have hdig : dig n i = n / 256 ^ i % 256 := rfl
        by_cases hlt : i < 4
        · have k1 := hblk.set i (dig n i)
          have k2 := k1.set (28 + i) (dig n i)
          have hfz1 := hblk.frozen i
          have hcl1 := hblk.cell i (by rw [hpart.1]; omega)
          have hfz2 := k1.frozen (28 + i)
          have hcl2 := k1.cell (28 + i) (by rw [List.length_set, hpart.1]; omega)
          have hb1 : Below w.heap.size w (wr.setCell ⟨w.heap.size, i, none⟩ (.int .u8 (dig n i))) := hbel.setCell (Nat.le_refl _) _
          have hb2 : Below w.heap.size w ((wr.setCell ⟨w.heap.size, i, none⟩ (.int .u8 (dig n i))).setCell ⟨w.heap.size, 28 + i, none⟩ (.int .u8 (dig n i))) := hb1.setCell (Nat.le_refl _) _
          have HK := hide k2
          have HBL := hide hb2
          have HPT := hide (hpart.side hlt h3)
          have hdb : 0 ≤ dig n i ∧ dig n i ≤ 255 := by rw [hdig]; omega
          have hm : (n / 256 ^ i).tmod 256 = dig n i := by rw [Int.tmod_eq_emod_of_nonneg hny.1]; exact hdig.symm
          have hq : (n / 256 ^ i).tdiv 256 = n / 256 ^ (i + 1) := by rw [Int.tdiv_eq_ediv_of_nonneg hny.1]; exact hd1
          clear k1 k2 hb1 hb2 hblk hpart hbel hdig hd1
          have hny2 : 0 ≤ n / 256 ^ (i + 1) ∧ n / 256 ^ (i + 1) ≤ 4294967295 := by
            have hp : (0 : Int) < 256 ^ (i + 1) := Int.pow_pos (by decide)
            exact ⟨Int.ediv_nonneg (by omega) (by omega), Int.le_trans (Int.ediv_le_self _ (by omega)) (by omega)⟩
          generalize dig n i = d at *
          obtain ⟨ny2, hq2⟩ : ∃ ny2, n / 256 ^ (i + 1) = ny2 := ⟨_, rfl⟩
          rw [hq2] at hq hny2
          have HQ2 := hide hq2
          clear hq2
          generalize n / 256 ^ i = ny at *
          go_wp2
          go_roundw
          case rel => exact ⟨i + 1, _, by omega, by go_num, by rw [unhide HQ2], unhide HK, unhide HPT, unhide HBL⟩
          case measure => simp [intOf]; omega
        · obtain rfl : i = 4 := by omega
          have HK := hide hblk
          have HPT := hide (hpart.whole h3)
          have HBL := hide hbel
          clear hblk hpart hbel hlt hi
          generalize n / 256 ^ 4 = ny at *
          go_wp2
          go_ret2
          exact ⟨_, rfl, by rw [← unhide HPT]; exact unhide HK, unhide HBL⟩

theorem rMake_any (n : Int) (a : Option Addr) (cap : Nat) (b : List Int) (w : World) (hb : Bs w a cap b) :
    Calls Tryd.prog 33 #[.int .i64 n, .slice a b.length cap] w (Ends w (makeOut n b).1 (.int .i64 (makeOut n b).2)) := by
  unfold makeOut
  by_cases h : n < 1 ∨ 4294967295 < n
  · rw [if_pos h]
    exact (rMake_range n a b.length cap w h).mono fun e w' ⟨he, hw⟩ => ends_nil he hw
  · rw [if_neg h]
    by_cases h3 : 24 < b.length
    · rw [if_pos h3]
      exact (rMake_full n a b.length cap w (fun h1 => h (.inl h1)) (fun h1 => h (.inr h1)) h3).mono fun e w' ⟨he, hw⟩ => ends_nil he hw
    · rw [if_neg h3]
      refine (rMake_yes n a cap b w hb (fun h1 => h (.inl h1)) (fun h1 => h (.inr h1)) (by omega)).mono fun e w' ⟨g, he, hk, hbel⟩ => ⟨some ⟨g, 0, none⟩, 32, ?_, ?_, hbel⟩
      · rw [he, length_secL n b (by omega)]
      · have := Blk.bs hk (byt_secL n b hb.1) (by rw [length_secL n b (by omega)]; decide)
        rwa [length_secL n b (by omega)] at this

/-! ### Open -/
theorem rOpen_shape (a : Option Addr) (len cap : Nat) (w : World) (h : len ≠ 32) :
    Calls Tryd.prog 50 #[.slice a len cap] w fun e w' => e = .returned (.tuple #[.int .i64 0, .slice none 0 0, .int .i64 3]) ∧ w = w' := by
  have h' : ¬ (len : Int) = 32 := by omega
  clear h
  go_enter Tryd.func50, Tryd.ntmps50
  go_wp2
  go_ret3
  exact ⟨rfl, rfl⟩

set_option maxRecDepth 100000 in
set_option maxHeartbeats 1000000 in
theorem rOpen_any (a : Option Addr) (cap : Nat) (l : List Int) (w : World) (hb : Bs w a cap l) :
    Calls Tryd.prog 50 #[.slice a l.length cap] w (EndsN w (openOut l).1 (openOut l).2.1 (.int .i64 (openOut l).2.2)) := by
  by_cases h : l.length ≠ 32
  · unfold openOut
    rw [if_pos h]
    exact (rOpen_shape a l.length cap w h).mono fun e w' ⟨he, hw⟩ => endsN_nil he hw
  · have hl : l.length = 32 := by omega
    obtain ⟨x1, p1, s1⟩ := slice_hi (P := Tryd.prog) (t := 41) Tryd.underlying41 size_u8 hb 4 (by omega)
    obtain ⟨x2, p2, s2⟩ := slice_lo (P := Tryd.prog) (t := 41) Tryd.underlying41 size_u8 hb 28 (by omega)
    obtain ⟨x3, p3, s3⟩ := slice_lohi (P := Tryd.prog) (t := 41) Tryd.underlying41 size_u8 hb 4 28 (by decide) (by omega)
    have l1 : (l.take 4).length = 4 := by simp; omega
    have l2 : (l.drop 28).length = 4 := by simp; omega
    have l3 : ((l.drop 4).take 24).length = 24 := by simp; omega
    have n1 := rNumber x1 cap (l.take 4) w s1 (by omega)
    have n2 := rNumber x2 (cap - 28) (l.drop 28) w s2 (by omega)
    rw [l1, ← getV_front] at n1
    rw [l2, ← getV_back l hl] at n2
    rw [hl] at p1 p2 p3
    rw [show ((4 : Nat) : Int) = 4 from rfl] at p1
    rw [show ((28 : Nat) : Int) = 28 from rfl, show 32 - 28 = 4 from rfl] at p2
    rw [show ((4 : Nat) : Int) = 4 from rfl, show ((28 : Nat) : Int) = 28 from rfl, show 28 - 4 = 24 from rfl] at p3
    rw [show 28 - 4 = 24 from rfl] at s3
    have N1 := hide n1
    have N2 := hide n2
    have S3 := hide s3
    unfold openOut
    rw [if_neg h]
    clear n1 n2 s1 s2 s3 l1 l2 h hb
    rw [hl]
    clear hl
    generalize getV l 0 4 = x at *
    generalize getV l 28 4 = y at *
    generalize (l.drop 4).take 24 = L at *
    by_cases h2 : x = y
    · subst h2
      rw [if_neg (fun h => h rfl)]
      by_cases h3 : x = 0
      · subst h3
        rw [if_pos rfl]
        go_enter Tryd.func50, Tryd.ntmps50
        go_wp2_with fail
        refine (unhide N1).mono ?_
        rintro e w1 ⟨rfl, rfl⟩
        go_wp2_with fail
        refine (unhide N2).mono ?_
        rintro e w1 ⟨rfl, rfl⟩
        go_wp2
        go_ret3
        exact endsN_nil rfl rfl
      · rw [if_neg h3]
        go_enter Tryd.func50, Tryd.ntmps50
        go_wp2_with fail
        refine (unhide N1).mono ?_
        rintro e w1 ⟨rfl, rfl⟩
        go_wp2_with fail
        refine (unhide N2).mono ?_
        rintro e w1 ⟨rfl, rfl⟩
        go_wp2_with fail
        go_quiet (fail)
        go_wp2
        go_ret3
        exact ⟨x3, cap - 4, by rw [l3]; rfl, unhide S3, below_drewN (Below.refl _ _) _⟩
    · rw [if_pos h2]
      go_enter Tryd.func50, Tryd.ntmps50
      go_wp2_with fail
      refine (unhide N1).mono ?_
      rintro e w1 ⟨rfl, rfl⟩
      go_wp2_with fail
      refine (unhide N2).mono ?_
      rintro e w1 ⟨rfl, rfl⟩
      go_wp2
      go_ret3
      exact endsN_nil rfl rfl
end Go.Proofs.YtmphnhigohkaeaaDoor
