/-
  Tables of byte slices, lists of pages, and what many writes come to. (Part of the proof of DeviceBack.)
-/
import Derived.Test.YtnpdejlbknjhnaaDoorDevLive
namespace Go.Proofs.YtnpdejlbknjhnaaDoor
open Go.RowKit
set_option linter.unusedVariables false

/-- The power does not go. -/
def DS.Idle (D : DS) : Prop := D.left = -1 ∧ D.down = false

theorem DS.Idle.write {D : DS} (h : D.Idle) (i : Int) (b : List Int) : (D.write i b).Idle ∧ (D.write i b).secs = D.secs := by
  unfold DS.write
  split
  · exact ⟨h, rfl⟩
  · unfold DS.step
    have h1 : (D.put i.toNat b).left = -1 := h.1
    rw [h1, if_neg (by decide), if_neg (by decide)]
    exact ⟨⟨h1, h.2⟩, rfl⟩

/-- Behind the first k of many writes. -/
def wrs (D : DS) (l : List (Int × List Int)) : Nat → DS
  | 0 => D
  | k + 1 => (wrs D l k).write (l.getD k (0, [])).1 (l.getD k (0, [])).2

theorem wrs_idle {D : DS} (h : D.Idle) (l : List (Int × List Int)) : ∀ k, (wrs D l k).Idle ∧ (wrs D l k).secs = D.secs
  | 0 => ⟨h, rfl⟩
  | k + 1 => by
    obtain ⟨h1, h2⟩ := wrs_idle h l k
    obtain ⟨h3, h4⟩ := h1.write (l.getD k (0, [])).1 (l.getD k (0, [])).2
    exact ⟨h3, h4.trans h2⟩

theorem flush_idle {D : DS} (h : D.Idle) : D.doFlush = ds0 (flushK D.secs D.mem D.mem.length) (-1) ∧ D.flushE = 0 := by
  obtain ⟨X, M, lf, dn⟩ := D
  obtain ⟨rfl, rfl⟩ := h
  constructor
  · simp [DS.doFlush, DS.step, DS.flush, ds0]
  · simp [DS.flushE]

theorem idle_eq {D : DS} (h : D.Idle) (X : List (List Int)) (hX : D.secs = X) : D = ⟨X, D.mem, -1, false⟩ := by
  obtain ⟨X', M, lf, dn⟩ := D
  obtain ⟨rfl, rfl⟩ := h
  subst hX; rfl

/-- The slice '.slice a l.length cap' of pages reads in w as l. -/
def Pgs (w : World) (a : Option Addr) (cap : Nat) (l : List (Int × List Int)) : Prop :=
  l.length ≤ cap ∧ l.length ≤ 140737488351232 ∧ (l ≠ [] → ∃ b off, a = some ⟨b, off, none⟩ ∧ ∀ i, i < l.length → w.cell? ⟨b, off + i * 2, none⟩ = some (.int .i64 (l.getD i (0, [])).1) ∧
    ∃ ab capb, w.cell? ⟨b, off + (i * 2 + 1), none⟩ = some (.slice ab (l.getD i (0, [])).2.length capb) ∧ Bs w ab capb (l.getD i (0, [])).2)

/-- A table of byte slices: the first m of n stand as F says; no block of it is in S. -/
def Tab (w : World) (S : Nat → Prop) (t n : Nat) (F : Nat → List Int) (m : Nat) : Prop :=
  ∃ cur : Array Value, w.heap[t]? = some (.cells cur 35 (0, 0)) ∧ cur.size = n ∧ ¬ S t ∧ ∀ i, i < m → ∃ g, cur[i]? = some (.slice (some ⟨g, 0, none⟩) 32 32) ∧ Blk w g (F i) ∧ ¬ S g

section
variable {w w' : World} {S S' : Nat → Prop} {t n m : Nat} {F : Nat → List Int}
theorem Tab.lt (h : Tab w S t n F m) : t < w.heap.size := by
  obtain ⟨cur, h1, _⟩ := h
  exact (Array.getElem?_eq_some_iff.1 h1).1
theorem Blk.same {g : Nat} {l : List Int} (h : Blk w g l) (e : w'.heap[g]? = w.heap[g]?) : Blk w' g l := by
  unfold Blk at h ⊢; rw [e]; exact h
theorem Tab.turn (h : Tab w S t n F m) (ht : Turn S S' w w') : Tab w' S' t n F m := by
  have hlt := h.lt
  obtain ⟨cur, h1, h2, h3, h4⟩ := h
  refine ⟨cur, (ht.block t hlt h3).trans h1, h2, fun hs => h3 (ht.foot t hlt hs), fun i hi => ?_⟩
  obtain ⟨g, h5, h6, h7⟩ := h4 i hi
  exact ⟨g, h5, h6.same (ht.block g h6.lt h7), fun hs => h7 (ht.foot g h6.lt hs)⟩
theorem Tab.below (h : Tab w S t n F m) (hb : Below w.heap.size w w') : Tab w' S t n F m := h.turn (Turn.of_below hb)
theorem Tab.cell (h : Tab w S t n F m) (i : Nat) (hi : i < m) : ∃ g, w.cell? ⟨t, i, none⟩ = some (.slice (some ⟨g, 0, none⟩) 32 32) ∧ Blk w g (F i) := by
  obtain ⟨cur, h1, h2, h3, h4⟩ := h
  obtain ⟨g, h5, h6, h7⟩ := h4 i hi
  exact ⟨g, by rw [cell_of_row _ _ _ _ _ _ h1]; exact h5, h6⟩
theorem Tab.room (h : Tab w S t n F m) (i : Nat) (hi : i < n) : ∃ v, w.cell? ⟨t, i, none⟩ = some v := by
  obtain ⟨cur, h1, h2, h3, h4⟩ := h
  exact ⟨cur[i]'(by omega), by rw [cell_of_row _ _ _ _ _ _ h1]; exact Array.getElem?_eq_getElem (by omega)⟩
theorem Tab.fr (h : Tab w S t n F m) (i : Nat) : w.frozen? ⟨t, i, none⟩ = false := by
  obtain ⟨cur, h1, _⟩ := h
  exact frozen_of_row _ _ _ _ _ h1
theorem Tab.put (h : Tab w S t n F m) (hm : m < n) {g : Nat} (hg : Blk w g (F m)) (hn : ¬ S g) : Tab (w.setCell ⟨t, m, none⟩ (.slice (some ⟨g, 0, none⟩) 32 32)) S t n F (m + 1) := by
  obtain ⟨cur, h1, h2, h3, h4⟩ := h
  have hne : ∀ g' l, Blk w g' l → g' ≠ t := by
    intro g' l hb e
    subst e
    unfold Blk at hb
    rw [h1] at hb
    simp at hb
  refine ⟨cur.setIfInBounds m (.slice (some ⟨g, 0, none⟩) 32 32), heap_setCell_same _ _ _ _ _ _ h1, by simp [h2], h3, fun i hi => ?_⟩
  by_cases e : i = m
  · subst e
    exact ⟨g, by rw [Array.getElem?_setIfInBounds_self_of_lt (by omega)], hg.same (heap_setCell_other _ _ _ _ (hne g _ hg)), hn⟩
  · obtain ⟨g', h5, h6, h7⟩ := h4 i (by omega)
    refine ⟨g', ?_, h6.same (heap_setCell_other _ _ _ _ (hne g' _ h6)), h7⟩
    rw [Array.getElem?_setIfInBounds_ne (fun e' => e e'.symm)]; exact h5
/-- Another block is written. -/
theorem Tab.other (h : Tab w S t n F m) {a : Addr} {v : Value} (hne : a.block ≠ t) (hb : ∀ g l, Blk w g l → g ≠ a.block) : Tab (w.setCell a v) S t n F m := by
  obtain ⟨cur, h1, h2, h3, h4⟩ := h
  refine ⟨cur, (heap_setCell_other _ _ _ _ hne.symm).trans h1, h2, h3, fun i hi => ?_⟩
  obtain ⟨g, h5, h6, h7⟩ := h4 i hi
  exact ⟨g, h5, h6.same (heap_setCell_other _ _ _ _ (hb g _ h6)), h7⟩
theorem Tab.notBlk (h : Tab w S t n F m) : ∀ g l, Blk w g l → g ≠ t := by
  intro g l hb e
  subst e
  obtain ⟨cur, h1, _⟩ := h
  unfold Blk at hb
  rw [h1] at hb
  simp at hb
end

theorem Live.setOther {w0 w : World} {p : Nat} {S : Nat → Prop} {D : DS} (h : Live w0 w p S D) {a : Addr} {v : Value} (hn : ¬ S a.block) (hb : w0.heap.size ≤ a.block) : Live w0 (w.setCell a v) p S D :=
  ⟨h.dev.same (by simp) (fun k hk => heap_setCell_other _ _ _ _ (fun e => hn (e ▸ hk))), h.bel.setCell hb v, h.base⟩
theorem Live.new {w0 w : World} {p : Nat} {S : Nat → Prop} {D : DS} (h : Live w0 w p S D) {g : Nat} (hg : w.heap.size ≤ g) : ¬ S g := fun hs => by have := h.dev.lt g hs; omega
theorem IBlk.turn {w w' : World} {S S' : Nat → Prop} {g : Nat} {l : List Int} (h : IBlk w g l) (ht : Turn S S' w w') (hn : ¬ S g) : IBlk w' g l ∧ ¬ S' g := ⟨h.same (ht.block g h.lt hn), fun hs => hn (ht.foot g h.lt hs)⟩
theorem IBlk.notTab {w : World} {S : Nat → Prop} {t n m : Nat} {F : Nat → List Int} {g : Nat} {l : List Int} (h : IBlk w g l) (ht : Tab w S t n F m) : g ≠ t := by
  intro e
  subst e
  obtain ⟨cur, h1, _⟩ := ht
  unfold IBlk at h
  rw [h1] at h
  simp at h

theorem info_bytes : (Tryd.prog.info? 35).map (fun i => (i.zero, i.size, i.bytes)) = some (some (.slice none 0 0), 1, 24) := by kernel_rfl
theorem wpList_make_tab {P : Program} {w : World} {ops : Array Oper} {rest : List Oper} {o : Oper} {a : Act} {Q : Exit → Act → World → Prop}
    (hg : o.guard = none) (l c : Operand) (t : TypeId) (hop : o.op = Op.makeSlice t l c)
    (i : TypeInfo) (h1 : P.underlying t = some (.slice 35)) (h2 : P.info? 35 = some i) (h3 : i.zero = some (.slice none 0 0)) (h4 : i.size = 1) (h5 : i.bytes = 24)
    (kl kc : IntKind) (L C : Int) (n : Nat) (hl : a.eval l = .int kl L) (hc : a.eval c = .int kc C) (hL : L = (n : Int)) (hC : C = (n : Int)) (b2 : n ≤ 300)
    (hK : ∀ w', (∀ S F, ¬ S w.heap.size → Tab w' S w.heap.size n F 0) → Below w.heap.size w w' → wpList P ops Q rest (a.put o.dst (.slice (some ⟨w.heap.size, 0, none⟩) n n)) w') :
    wpList P ops Q (o :: rest) a w := by
  refine wpList_plain hg fun K hK' => ?_
  have hrun := run_make (P := P) w t 35 i _ h1 h2 h3 kl kc n n (by omega) (by omega) (by rw [h5]; omega) (by omega)
  subst hL
  subst hC
  unfold Oper.wp
  simp [execOp, hop, hl, hc, hrun, Result.andThen]
  refine hK' _ _ (hK _ (fun S F hS => ⟨_, heap_alloc_new _ _, by rw [size_madeCells, h4, Nat.mul_one], hS, fun i hi => absurd hi (Nat.not_lt_zero i)⟩) ((Below.refl _ _).alloc (Nat.le_refl _) _))

/-- Where in memory the sector i stands, as far as the first n go; -1: nowhere. -/
def atK (M : List (Nat × List Int)) (i : Nat) : Nat → Int
  | 0 => -1
  | j + 1 => if (M.getD j (0, [])).1 = i then (j : Int) else atK M i j
theorem atK_cases (M : List (Nat × List Int)) (i : Nat) : ∀ n, (atK M i n = -1 ∧ ∀ j, j < n → (M.getD j (0, [])).1 ≠ i) ∨ ∃ q, q < n ∧ (M.getD q (0, [])).1 = i ∧ atK M i n = q
  | 0 => .inl ⟨rfl, fun j hj => absurd hj (Nat.not_lt_zero j)⟩
  | n + 1 => by
    unfold atK
    by_cases h : (M.getD n (0, [])).1 = i
    · rw [if_pos h]; exact .inr ⟨n, Nat.lt_succ_self n, h, rfl⟩
    · rw [if_neg h]
      rcases atK_cases M i n with ⟨h1, h2⟩ | ⟨q, h1, h2, h3⟩
      · refine .inl ⟨h1, fun j hj => ?_⟩
        by_cases e : j = n
        · rw [e]; exact h
        · exact h2 j (by omega)
      · exact .inr ⟨q, by omega, h2, h3⟩
theorem keysI_getD (M : List (Nat × List Int)) (j : Nat) (h : j < M.length) : (keysI M).getD j 0 = ((M.getD j (0, [])).1 : Int) := by
  simp [keysI, List.getD, h]

theorem torn1_take {s b : List Int} (hb : Sec b) (c : Nat) (hc : c ≤ 32) : (torn1 s b c).take c = b.take c := by
  unfold torn1
  rw [List.take_append_of_le_length (by simp [hb.1]; omega), List.take_take, Nat.min_self]
theorem torn1_drop {s b : List Int} (hb : Sec b) (c : Nat) (hc : c ≤ 32) : (torn1 s b c).drop c = s.drop c := by
  unfold torn1
  have h : (b.take c).length = c := by simp [hb.1]; omega
  rw [List.drop_append, List.drop_eq_nil_of_le (by omega), h, Nat.sub_self, List.drop_zero, List.nil_append]
theorem bs_drewN {w : World} {a : Option Addr} {cap : Nat} {l : List Int} (hb : Bs w a cap l) (n : Nat) : Bs (w.drewN n) a cap l := hb
theorem blk_bs {w : World} {g : Nat} {l : List Int} (h : Blk w g l) (hs : Sec l) : Bs w (some ⟨g, 0, none⟩) 32 l := by
  have := h.bs hs.2 (by rw [hs.1]; decide)
  rwa [hs.1] at this
/-- A cut of 32 bytes, as a text. -/
theorem cut_lo {w : World} {a : Option Addr} {l : List Int} (hb : Bs w a 32 l) (hl : l.length = 32) (z : Int) (c : Nat) (hz : z = c) (hc : c ≤ 32) :
    ∃ a' d cp, (∀ w', (Instr.slice 35 (.slice a 32 32) (some (.int .i64 z)) none none).run Tryd.prog w' = .ok (.slice a' d cp) w') ∧ (∀ n, (convert 35 9 (.slice a' d cp)).run Tryd.prog (w.drewN n) = .ok (.string (strOf (l.drop c))) (w.drewN n)) := by
  subst hz
  obtain ⟨a', h1, h2⟩ := slice_lo (P := Tryd.prog) Tryd.underlying35 size_u8 hb c (by omega)
  refine ⟨a', l.length - c, 32 - c, ?_, fun n => ?_⟩
  · intro w'; rw [← h1 w', hl]
  · have := conv_str (P := Tryd.prog) (t := 35) (e := 9) Tryd.underlying35 Tryd.underlying5 Tryd.underlying9 (bs_drewN h2 n)
    rwa [List.length_drop] at this
theorem cut_hi {w : World} {a : Option Addr} {l : List Int} (hb : Bs w a 32 l) (hl : l.length = 32) (z : Int) (c : Nat) (hz : z = c) (hc : c ≤ 32) :
    ∃ a' d cp, (∀ w', (Instr.slice 35 (.slice a 32 32) none (some (.int .i64 z)) none).run Tryd.prog w' = .ok (.slice a' d cp) w') ∧ (∀ n, (convert 35 9 (.slice a' d cp)).run Tryd.prog (w.drewN n) = .ok (.string (strOf (l.take c))) (w.drewN n)) := by
  subst hz
  obtain ⟨a', h1, h2⟩ := slice_hi (P := Tryd.prog) Tryd.underlying35 size_u8 hb c (by omega)
  refine ⟨a', c, 32, ?_, fun n => ?_⟩
  · intro w'; rw [← h1 w', hl]
  · have := conv_str (P := Tryd.prog) (t := 35) (e := 9) Tryd.underlying35 Tryd.underlying5 Tryd.underlying9 (bs_drewN h2 n)
    rwa [show (l.take c).length = c from by simp; omega] at this
theorem whole_str {w : World} {g : Nat} {l : List Int} (h : Blk w g l) (hs : Sec l) (n : Nat) : (convert 35 9 (.slice (some ⟨g, 0, none⟩) 32 32)).run Tryd.prog (w.drewN n) = .ok (.string (strOf l)) (w.drewN n) := by
  have := conv_str (P := Tryd.prog) (t := 35) (e := 9) Tryd.underlying35 Tryd.underlying5 Tryd.underlying9 (bs_drewN (blk_bs h hs) n)
  rwa [hs.1] at this
theorem whole_str0 {w : World} {g : Nat} {l : List Int} (h : Blk w g l) (hs : Sec l) : (convert 35 9 (.slice (some ⟨g, 0, none⟩) 32 32)).run Tryd.prog w = .ok (.string (strOf l)) w := by
  have := conv_str (P := Tryd.prog) (t := 35) (e := 9) Tryd.underlying35 Tryd.underlying5 Tryd.underlying9 (blk_bs h hs)
  rwa [hs.1] at this
end Go.Proofs.YtnpdejlbknjhnaaDoor
