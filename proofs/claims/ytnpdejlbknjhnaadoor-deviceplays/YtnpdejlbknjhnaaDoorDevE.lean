/-
  Contracts of package device: New, Read, Pending, Len. (Part of the proofs over package device.)
-/
import Derived.Test.YtnpdejlbknjhnaaDoorDevD
import Derived.Carry
namespace Go.Proofs.YtnpdejlbknjhnaaDoor
open Go.RowKit
set_option linter.unusedVariables false

theorem info_u8 : (Tryd.prog.info? 5).map (fun i => (i.zero, i.size, i.bytes)) = some (some (.int .u8 0), 1, 1) := by kernel_rfl
theorem info_sec3 : (Tryd.prog.info? 74).map (fun i => (i.zero, i.size, i.bytes)) = some (some (sv (zerosB 32)), 32, 32) := by kernel_rfl

/-- A whole sector in the midst of a row. -/
theorem range_mid {w : World} {g t : Nat} {z : List Int} (off : Nat) (l : List Int) (hl : l.length = 32) (h : RowT w g t z) (hz : (z.drop off).take 32 = l) : w.rangeAt g off (l.map (Value.int .u8)) := by
  intro j v hv
  have hj : j < 32 := by
    rcases Nat.lt_or_ge j 32 with h1 | h1
    · exact h1
    · rw [List.getElem?_eq_none (by rw [List.length_map, hl]; exact h1)] at hv; cases hv
  have h3 : off + j < z.length := by
    have : ((z.drop off).take 32).length = 32 := by rw [hz]; exact hl
    simp at this; omega
  have h2 : (cellsB l)[j]? = some v := by simpa [cellsB] using hv
  rw [getD_cellsB l j (by omega)] at h2
  rw [h.cell _ h3, ← h2, ← hz]
  simp [List.getD, hj]

section
variable {w : World} {p : Nat} {S : Nat → Prop} {D : DS}

theorem len_any (h : Dev w p S D) :
    Calls Tryd.prog 21 #[.pointer (some ⟨p, 0, none⟩)] w fun e w' => e = .returned (.int .i64 D.secs.length) ∧ w = w' := by
  obtain ⟨sb, bm, pv, h⟩ := h
  have c0 := h.c0
  have hl := h.ok.len
  clear h
  go_enter Tryd.func21, Tryd.ntmps21
  go_wp2
  go_ret
  exact ⟨rfl, rfl⟩

theorem read_no (i : Int) (h : Dev w p S D) (he : D.readE i ≠ 0) :
    Calls Tryd.prog 17 #[.pointer (some ⟨p, 0, none⟩), .int .i64 i] w fun e w' => e = .returned (.tuple #[.slice none 0 0, errV (D.readE i)]) ∧ w = w' := by
  obtain ⟨sb, bm, pv, h⟩ := h
  have c4 := h.c4
  have hhas := has_any i h
  unfold DS.readE at *
  by_cases h1 : i < 0 ∨ (D.secs.length : Int) ≤ i
  · rw [if_pos h1]
    have hf : hasB D.secs.length i = false := decide_eq_false (by omega)
    rw [hf] at hhas
    have HH := hide hhas
    clear h hhas h1 hf c4 he
    go_enter Tryd.func17, Tryd.ntmps17
    go_wp2_with fail
    refine (unhide HH).mono ?_
    rintro e w1 ⟨rfl, rfl⟩
    go_wp2
    go_ret2
    exact ⟨rfl, rfl⟩
  · rw [if_neg h1] at he ⊢
    have hf : hasB D.secs.length i = true := decide_eq_true (by omega)
    rw [hf] at hhas
    by_cases h3 : D.down = true
    · rw [if_pos h3]
      rw [h3] at c4
      have HH := hide hhas
      clear h hhas h1 hf he
      go_enter Tryd.func17, Tryd.ntmps17
      go_wp2_with fail
      refine (unhide HH).mono ?_
      rintro e w1 ⟨rfl, rfl⟩
      go_wp2
      go_ret2
      exact ⟨rfl, rfl⟩
    · rw [if_neg h3] at he
      exact absurd rfl he

set_option maxRecDepth 100000 in
theorem read_mem {sb bm : Nat} {pv : Value} (i : Nat) (h : DevAt w p sb bm pv S D) (hi : i < D.secs.length) (hd : D.down = false) (c : List Int) (hc : D.mem.lookup i = some c) :
    Calls Tryd.prog 17 #[.pointer (some ⟨p, 0, none⟩), .int .i64 i] w fun e w' => ∃ g, e = .returned (.tuple #[.slice (some ⟨g, 0, none⟩) 32 32, .nilIface]) ∧ w.heap.size ≤ g ∧ Blk w' g (D.rd i) ∧ Below w.heap.size w w' := by
  have hlen := h.ok.len
  have c1 := h.c1
  have c4 := h.c4
  rw [hd] at c4
  have hhas := has_any (i : Int) h
  have hf : hasB D.secs.length i = true := decide_eq_true (by omega)
  rw [hf] at hhas
  have hcs : Sec c := (h.ok.mem _ (lookup_mem hc)).2
  have hlook := h.mem.look (E := 74) Tryd.underlying3 Tryd.underlying65 (zero_sec w) true (i := i) (by omega)
  have hmv : memV D.mem i = c := by unfold memV; rw [hc]; rfl
  rw [hmv, hc] at hlook
  simp only [if_true, Option.isSome_some] at hlook
  unfold sv at hlook
  have hrd : D.rd i = c := by unfold DS.rd; rw [hc]; rfl
  rw [hrd]
  have hsz : (cellsB c).size = 32 := by rw [size_cellsB]; exact hcs.1
  have hst := store_new w c hcs.1
  have hbs : Bs (w.alloc (.cells (cellsB c) 74)) (some ⟨w.heap.size, 0, none⟩) 32 c := by
    have := (row_new w c 74).bs hcs.2 (by rw [hcs.1]; decide) 0 32 32 (by rw [hcs.1]; decide) (Nat.le_refl _)
    rwa [List.drop_zero, List.take_of_length_le (by rw [hcs.1]; decide)] at this
  have hcopy : ∀ w1, Blk w1 (w.heap.size + 1) (zerosB 32) → Bs w1 (some ⟨w.heap.size, 0, none⟩) 32 c → Sem.run Tryd.prog (Builtin.copy_ #[35, 35] 3 #[.slice (some ⟨w.heap.size + 1, 0, none⟩) 32 32, .slice (some ⟨w.heap.size, 0, none⟩) 32 32]) w1 = .ok (.int .i64 32) (rowW w1 (w.heap.size + 1) c) := fun w1 h5 h6 => by
    have := run_copy_u8 (P := Tryd.prog) w1 35 35 3 Tryd.underlying35 size_u8 (w.heap.size + 1) 32 (some ⟨w.heap.size, 0, none⟩) 32 (zerosB 32) c (by rw [hcs.1, length_zerosB]) h5 h6
    rw [hcs.1] at this; exact this
  obtain ⟨i0, hi0, hz0, hz1, hz2⟩ := info_parts info_u8
  have HH := hide hhas
  have HB := hide hbs
  clear h hhas hf hc hmv hbs hrd
  go_enter Tryd.func17, Tryd.ntmps17
  go_wp2_with fail
  refine (unhide HH).mono ?_
  rintro e w1 ⟨rfl, rfl⟩
  go_wp2_with (at_make; refine wpList_make_u8 rfl _ _ 35 rfl i0 Tryd.underlying35 hi0 hz0 hz1 hz2 _ _ _ _ 32 rfl rfl rfl rfl (by omega) ?_)
  intro w1 hk1 hs1 hb1
  have hb2 := (unhide HB).below (w' := w1) (by rw [size_alloc]; exact hb1)
  have hb0 : Below w.heap.size w w1 := ((Below.refl _ _).alloc (Nat.le_refl _) (.cells (cellsB c) 74)).trans (hb1.mono (by omega))
  go_wp2
  go_ret2
  exact ⟨_, rfl, by omega, rowW_blk hk1 c, rowW_below c hb0 (by omega)⟩

set_option maxRecDepth 100000 in
theorem read_sec {sb bm : Nat} {pv : Value} (i : Nat) (h : DevAt w p sb bm pv S D) (hi : i < D.secs.length) (hd : D.down = false) (hc : D.mem.lookup i = none) :
    Calls Tryd.prog 17 #[.pointer (some ⟨p, 0, none⟩), .int .i64 i] w fun e w' => ∃ g, e = .returned (.tuple #[.slice (some ⟨g, 0, none⟩) 32 32, .nilIface]) ∧ w.heap.size ≤ g ∧ Blk w' g (D.rd i) ∧ Below w.heap.size w w' := by
  have hlen := h.ok.len
  have c1 := h.c1
  have c4 := h.c4
  rw [hd] at c4
  have hhas := has_any (i : Int) h
  have hf : hasB D.secs.length i = true := decide_eq_true (by omega)
  rw [hf] at hhas
  have hlook := h.mem.look (E := 74) Tryd.underlying3 Tryd.underlying65 (zero_sec w) true (i := i) (by omega)
  have hmv : memV D.mem i = zerosB 32 := by unfold memV; rw [hc]; rfl
  rw [hmv, hc] at hlook
  simp only [if_true, Option.isSome_none] at hlook
  unfold sv at hlook
  generalize hzz : zerosB 32 = zz at hlook
  have hzl : zz.length = 32 := by rw [← hzz]; exact length_zerosB 32
  have hsz : (cellsB zz).size = 32 := by rw [size_cellsB]; exact hzl
  have hst := store_new w zz hzl
  have hrd : D.rd i = D.secs.getD i [] := by unfold DS.rd; rw [hc]; rfl
  rw [hrd]
  obtain ⟨c, hcd⟩ : ∃ c, D.secs.getD i [] = c := ⟨_, rfl⟩
  have hcs : Sec c := by rw [← hcd]; exact sec_getD h.ok.sec hi
  have h1 := h.alloc (.cells (cellsB zz) 74)
  have c0 := h1.c0
  have hl32 : ∀ s ∈ D.secs, s.length = 32 := fun s hs => (h.ok.sec s hs).1
  have hrg : (w.alloc (.cells (cellsB zz) 74)).rangeAt sb (i * 32) (c.map (Value.int .u8)) := range_mid (i * 32) c hcs.1 h1.sec (by rw [flat_part _ _ hl32 hi, hcd])
  have hu := Tryd.underlying74
  have hin : (Tryd.prog.info? 74).map (·.size) = some (c.map (Value.int .u8)).length := by rw [List.length_map, hcs.1]; exact size_sec
  have hcl := hcs.1
  have hst2 : (storeCells ⟨w.heap.size, 0, none⟩ (c.map (Value.int .u8)) 0).run Tryd.prog (w.alloc (.cells (cellsB zz) 74)) = .ok () (w.alloc (.cells (cellsB c) 74)) :=
    run_storeCells_new w 74 (cellsB zz) (cellsB c) (by rw [size_cellsB, hcs.1]; exact size_sec) (by rw [size_cellsB, size_cellsB, hcs.1, hzl]) (all_oneCell c)
  rw [hcd]
  have hbs : Bs (w.alloc (.cells (cellsB c) 74)) (some ⟨w.heap.size, 0, none⟩) 32 c := by
    have := (row_new w c 74).bs hcs.2 (by rw [hcs.1]; decide) 0 32 32 (by rw [hcs.1]; decide) (Nat.le_refl _)
    rwa [List.drop_zero, List.take_of_length_le (by rw [hcs.1]; decide)] at this
  have hcopy : ∀ w1, Blk w1 (w.heap.size + 1) (zerosB 32) → Bs w1 (some ⟨w.heap.size, 0, none⟩) 32 c → Sem.run Tryd.prog (Builtin.copy_ #[35, 35] 3 #[.slice (some ⟨w.heap.size + 1, 0, none⟩) 32 32, .slice (some ⟨w.heap.size, 0, none⟩) 32 32]) w1 = .ok (.int .i64 32) (rowW w1 (w.heap.size + 1) c) := fun w1 h5 h6 => by
    have := run_copy_u8 (P := Tryd.prog) w1 35 35 3 Tryd.underlying35 size_u8 (w.heap.size + 1) 32 (some ⟨w.heap.size, 0, none⟩) 32 (zerosB 32) c (by rw [hcs.1, length_zerosB]) h5 h6
    rw [hcs.1] at this; exact this
  obtain ⟨i0, hi0, hz0, hz1, hz2⟩ := info_parts info_u8
  have e0 : (i : Int) < (D.secs.length : Int) := by omega
  have e1 : (0 : Int) ≤ (i : Int) := by omega
  have HH := hide hhas
  have HB := hide hbs
  clear h hhas hf hc hmv hbs hrd hcd h1 hzz hzl hl32 hcs
  go_enter Tryd.func17, Tryd.ntmps17
  go_wp2_with fail
  refine (unhide HH).mono ?_
  rintro e w1 ⟨rfl, rfl⟩
  go_wp2_with (first | (refine wpList_load_mid rfl 74 (.tmp 35) rfl sb (i * 32) rfl (c.map (Value.int .u8)) _ hrg hu rfl hin ?_) | (at_make; refine wpList_make_u8 rfl _ _ 35 rfl i0 Tryd.underlying35 hi0 hz0 hz1 hz2 _ _ _ _ 32 rfl rfl rfl rfl (by omega) ?_))
  intro w1 hk1 hs1 hb1
  have hb2 := (unhide HB).below (w' := w1) (by rw [size_alloc]; exact hb1)
  have hb0 : Below w.heap.size w w1 := ((Below.refl _ _).alloc (Nat.le_refl _) (.cells (cellsB c) 74)).trans (hb1.mono (by omega))
  go_wp2
  go_ret2
  exact ⟨_, rfl, by omega, rowW_blk hk1 c, rowW_below c hb0 (by omega)⟩

theorem read_yes (i : Nat) (h : Dev w p S D) (hi : i < D.secs.length) (hd : D.down = false) :
    Calls Tryd.prog 17 #[.pointer (some ⟨p, 0, none⟩), .int .i64 i] w fun e w' => ∃ g, e = .returned (.tuple #[.slice (some ⟨g, 0, none⟩) 32 32, .nilIface]) ∧ w.heap.size ≤ g ∧ Blk w' g (D.rd i) ∧ Below w.heap.size w w' := by
  obtain ⟨sb, bm, pv, h⟩ := h
  cases hc : D.mem.lookup i with
  | none => exact read_sec i h hi hd hc
  | some c => exact read_mem i h hi hd c hc

theorem new_no (n : Int) (w : World) (h : n < 1 ∨ 300 < n) :
    Calls Tryd.prog 5 #[.int .i64 n] w fun e w' => e = .returned (.tuple #[.pointer none, errV 1]) ∧ w = w' := by
  by_cases h1 : n < 1
  · go_enter Tryd.func5, Tryd.ntmps5
    go_wp2
    go_ret2
    exact ⟨rfl, rfl⟩
  · have h2 : 300 < n := by omega
    go_enter Tryd.func5, Tryd.ntmps5
    go_wp2
    go_ret2
    exact ⟨rfl, rfl⟩

theorem flat_zeros (n : Nat) : (List.replicate n (List.replicate 32 (0 : Int))).flatten = zerosB (n * 32) := by
  induction n with
  | zero => rfl
  | succ n ih =>
    rw [List.replicate_succ, List.flatten_cons, ih]
    unfold zerosB
    rw [show (n + 1) * 32 = 32 + n * 32 from by omega, List.replicate_append_replicate]

theorem zeros_getD (n i : Nat) : (zerosB n).getD i 0 = 0 := by
  unfold zerosB
  rw [List.getD_eq_getElem?_getD, List.getElem?_replicate]
  split <;> rfl
theorem zero_at (j : Nat) (hj : j < 32) : (cellsB (zerosB 32))[j]! = .int .u8 0 := by
  have h : (cellsB (zerosB 32))[j]? = some (.int .u8 0) := by
    rw [getD_cellsB _ _ (by rw [length_zerosB]; exact hj), zeros_getD]
  rw [getElem!_def, h]

theorem made_secs (n : Nat) : madeCells (sv (zerosB 32)).cells (n * 32) = cellsB (zerosB (n * 32)) := by
  have hz : (sv (zerosB 32)).cells = cellsB (zerosB 32) := rfl
  rw [hz]
  unfold madeCells
  apply Array.ext
  · rw [Array.size_map, Array.size_range, size_cellsB, length_zerosB]
  · intro i h1 h2
    have h3 : i < n * 32 := by rwa [size_cellsB, length_zerosB] at h2
    have h4 := getD_cellsB (zerosB (n * 32)) i (by rw [length_zerosB]; exact h3)
    rw [Array.getElem?_eq_getElem h2, zeros_getD] at h4
    rw [Option.some.inj h4, Array.getElem_map, Array.getElem_range, size_cellsB, length_zerosB, zero_at _ (Nat.mod_lt _ (by decide))]

theorem wpList_make_secs {P : Program} {w : World} {ops : Array Oper} {rest : List Oper} {o : Oper} {a : Act} {Q : Exit → Act → World → Prop}
    (hg : o.guard = none) (l c : Operand) (t e : TypeId) (hop : o.op = Op.makeSlice t l c)
    (i : TypeInfo) (h1 : P.underlying t = some (.slice e)) (h2 : P.info? e = some i) (h3 : i.zero = some (sv (zerosB 32))) (h4 : i.size = 32) (h5 : i.bytes = 32)
    (kl kc : IntKind) (L C : Int) (n : Nat) (hl : a.eval l = .int kl L) (hc : a.eval c = .int kc C) (hL : L = (n : Int)) (hC : C = (n : Int)) (b2 : n ≤ 300)
    (hK : wpList P ops Q rest (a.put o.dst (.slice (some ⟨w.heap.size, 0, none⟩) n n)) (w.alloc (.cells (cellsB (zerosB (n * 32))) e))) :
    wpList P ops Q (o :: rest) a w := by
  refine wpList_plain hg fun K hK' => ?_
  have hrun := run_make (P := P) w t e i _ h1 h2 h3 kl kc n n (by omega) (by omega) (by rw [h5]; omega) (by omega)
  subst hL
  subst hC
  rw [h4, made_secs] at hrun
  unfold Oper.wp
  simp [execOp, hop, hl, hc, hrun, Result.andThen]
  exact hK' _ _ hK

theorem new_yes (n : Nat) (w : World) (h1 : 1 ≤ n) (h2 : n ≤ 300) :
    Calls Tryd.prog 5 #[.int .i64 n] w fun e w' => ∃ p S, e = .returned (.tuple #[.pointer (some ⟨p, 0, none⟩), .nilIface]) ∧ Dev w' p S (DS.new n) ∧ (∀ k, S k → w.heap.size ≤ k) ∧ Below w.heap.size w w' := by
  have e1 : ¬ (n : Int) < 1 := by omega
  have e2 : ¬ 300 < (n : Int) := by omega
  have hmm := @run_makeMap Tryd.prog
  obtain ⟨i0, hi0, hz0, hz1, hz2⟩ := info_parts info_sec3
  go_enter Tryd.func5, Tryd.ntmps5
  go_wp2_with (at_make; refine wpList_make_secs rfl _ _ 64 74 rfl i0 Tryd.underlying64 hi0 hz0 hz1 hz2 _ _ _ _ n rfl rfl rfl rfl h2 ?_)
  go_ret2
  refine ⟨w.heap.size + 1 + 1, rfl, fun k => w.heap.size ≤ k ∧ k < w.heap.size + 3, ⟨w.heap.size, w.heap.size + 1, .slice none 0 0, ?_⟩, fun k hk => hk.1, ?_⟩
  · have hn : (List.replicate n (List.replicate 32 (0 : Int))).length = n := by simp
    have hA : ((w.alloc (.cells (cellsB (zerosB (n * 32))) 74)).alloc (.map #[] 0)).heap.size = w.heap.size + 1 + 1 := by simp
    refine ⟨DS.ok_new n h2, ?_, ?_, ?_, World.ownsRow_nil _ _ _ _, ⟨by omega, by omega⟩, ⟨by omega, by omega⟩, ⟨by omega, by omega⟩, fun g hg => (by cases hg), fun k hk => (by have h9 := hk.2; simp; omega), by omega, fun e => (by cases e), fun e => (by cases e)⟩
    · have := heap_alloc_new ((w.alloc (.cells (cellsB (zerosB (n * 32))) 74)).alloc (.map #[] 0)) (.cells (devCells w.heap.size n (w.heap.size + 1) (.slice none 0 0) (-1) false) 67)
      rw [hA] at this
      show _ = some (Obj.cells (devCells w.heap.size (List.replicate n (List.replicate 32 (0 : Int))).length (w.heap.size + 1) (.slice none 0 0) (-1) false) _ _)
      rw [hn]
      exact this
    · show RowT _ _ _ (List.replicate n (List.replicate 32 (0 : Int))).flatten
      rw [flat_zeros]
      exact ((row_new w (zerosB (n * 32)) 74).same (heap_alloc_old _ _ (by simp))).same (heap_alloc_old _ _ (by simp; omega))
    · have := memAt_made (P := Tryd.prog) (K := 3) (w.alloc (.cells (cellsB (zerosB (n * 32))) 74))
      rw [size_alloc] at this
      exact this.same (heap_alloc_old _ _ (by simp))
  · exact (((Below.refl _ _).alloc (Nat.le_refl _) _).alloc (by simp) _).alloc (by simp; omega) _
end
end Go.Proofs.YtnpdejlbknjhnaaDoor
