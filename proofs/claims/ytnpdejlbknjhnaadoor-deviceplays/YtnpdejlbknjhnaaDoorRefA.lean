/-
  Contracts of the reference's device: copied, step, Fail, Read. (Part of the proof of DevicePlays.)
-/
import Derived.Test.YtnpdejlbknjhnaaDoorRefRep
namespace Go.Proofs.YtnpdejlbknjhnaaDoor
open Go.RowKit
set_option linter.unusedVariables false

theorem copied_any (a : Option Addr) (cap : Nat) (l : List Int) (w : World) (hb : Bs w a cap l) (hne : l ≠ []) :
    Calls Tryd.prog 31 #[.slice a l.length cap] w fun e w' => ∃ g c, e = .returned (.slice (some ⟨g, 0, none⟩) l.length c) ∧ Own w' w.heap.size g c l ∧ Below w.heap.size w w' := by
  obtain ⟨i0, hi0, hz0, hz1, hz2⟩ := info_parts info_u8
  have hl := hb.2.2.1
  go_enter Tryd.func31, Tryd.ntmps31
  go_wp2_with (at_builtin; refine wpList_append_new rfl _ _ 35 rfl i0 Tryd.underlying35 hi0 hz0 hz1 hz2 a cap l rfl rfl hb hne ?_)
  intro g c w1 hown hbel
  go_wp2
  go_ret
  exact ⟨g, c, rfl, hown, hbel⟩

section
variable {w : World} {p : Nat} {S : Nat → Prop} {D : DS}

theorem rstep_any {sv lv : Value} {left : Int} (h : RefAt w p sv lv left S D) (hd : D.down = false) :
    Calls Tryd.prog 32 #[.pointer (some ⟨p, 0, none⟩)] w fun e w' => e = .returned (.bool (decide (D.left ≠ 0))) ∧ (∃ left', RefAt w' p sv lv left' S D.step) ∧ Turn S S w w' := by
  have c2 := h.c2
  have c3 := h.c3
  have f2 := h.fr 2
  have f3 := h.fr 3
  rw [hd] at c3
  have hlb := h.lb
  have hlf : left = (if D.left < 0 then -1 else D.left) := by
    rcases h.lf with h1 | h1
    · rw [hd] at h1; cases h1
    · exact h1
  have hol := h.ok.left
  by_cases h0 : D.left = 0
  · have hs : D.step = { D with down := true, left := D.left } := by unfold DS.step; rw [if_pos h0]
    rw [hs, decide_eq_false (fun h => h h0)]
    have hl0 : left = 0 := by rw [hlf, h0]; rfl
    have hstr1 : (w.setCell ⟨p, 3, none⟩ (.bool true)).heap[p]? = some (.cells #[sv, lv, .int .i64 left, .bool true] 48 (0, 0)) := by rw [heap_setCell_same _ _ _ _ _ _ h.str]; simp
    have h1 := h.field (lf' := D.left) hstr1 (.inl rfl) hlb hol
    have hstr2 : ((w.setCell ⟨p, 3, none⟩ (.bool true)).setCell ⟨p, 2, none⟩ (.int .i64 (-1))).heap[p]? = some (.cells #[sv, lv, .int .i64 (-1), .bool true] 48 (0, 0)) := by rw [heap_setCell_same _ _ _ _ _ _ hstr1]; simp
    have h2 := h1.field (lf' := D.left) hstr2 (.inl rfl) (by omega) hol
    have H2 := hide h2
    have HI := hide h.inp
    rw [hl0] at c2
    clear h h1 h2 hstr1 hstr2 hs hlf hl0 h0 hlb
    go_enter Tryd.func32, Tryd.ntmps32
    go_wp2
    go_ret
    exact ⟨rfl, ⟨_, unhide H2⟩, (Turn.setCell _ _ (unhide HI)).trans (Turn.setCell _ _ (unhide HI))⟩
  · rw [decide_eq_true h0]
    by_cases h1 : 0 < D.left
    · have hs : D.step = { D with down := false, left := D.left - 1 } := by unfold DS.step; rw [if_neg h0, if_pos h1, ← hd]
      rw [hs]
      have hl0 : left = D.left := by rw [hlf, if_neg (by omega)]
      have hstr1 : (w.setCell ⟨p, 2, none⟩ (.int .i64 (left - 1))).heap[p]? = some (.cells #[sv, lv, .int .i64 (left - 1), .bool false] 48 (0, 0)) := by rw [heap_setCell_same _ _ _ _ _ _ h.str]; simp [hd]
      have h2 := h.field (lf' := D.left - 1) hstr1 (.inr (by rw [if_neg (by omega), hl0])) (by omega) (by omega)
      have H2 := hide h2
      have HI := hide h.inp
      have e1 : 0 < left := by omega
      clear h h2 hstr1 hs hlf hl0 h0 h1
      go_enter Tryd.func32, Tryd.ntmps32
      go_wp2
      go_ret
      exact ⟨rfl, ⟨_, unhide H2⟩, Turn.setCell _ _ (unhide HI)⟩
    · have hs : D.step = D := by unfold DS.step; rw [if_neg h0, if_neg h1]
      rw [hs]
      have hl0 : left = -1 := by rw [hlf, if_pos (by omega)]
      rw [hl0] at c2
      have H2 := hide h
      clear h hs hlf hl0 h0 h1 hlb
      go_enter Tryd.func32, Tryd.ntmps32
      go_wp2
      go_ret
      exact ⟨rfl, ⟨_, unhide H2⟩, Turn.refl _ _⟩

theorem rfail_any (n : Int) (hn : -9223372036854775808 ≤ n ∧ n ≤ 9223372036854775807) (h : Ref w p S D) :
    Calls Tryd.prog 13 #[.pointer (some ⟨p, 0, none⟩), .int .i64 n] w fun e w' => e = .returned (.tuple #[]) ∧ Ref w' p S { D with left := n } ∧ Turn S S w w' := by
  obtain ⟨sv, lv, left, h⟩ := h
  have c2 := h.c2
  have f2 := h.fr 2
  by_cases h0 : n < 0
  · have hstr1 : (w.setCell ⟨p, 2, none⟩ (.int .i64 (-1))).heap[p]? = some (.cells #[sv, lv, .int .i64 (-1), .bool D.down] 48 (0, 0)) := by rw [heap_setCell_same _ _ _ _ _ _ h.str]; simp
    have h2 := h.field (lf' := n) hstr1 (.inr (by rw [if_pos h0])) (by omega) hn
    have H2 := hide h2
    have HI := hide h.inp
    clear h h2 hstr1
    go_enter Tryd.func13, Tryd.ntmps13
    go_wp2
    go_end0
    exact ⟨rfl, ⟨sv, lv, _, unhide H2⟩, Turn.setCell _ _ (unhide HI)⟩
  · have hstr1 : (w.setCell ⟨p, 2, none⟩ (.int .i64 n)).heap[p]? = some (.cells #[sv, lv, .int .i64 n, .bool D.down] 48 (0, 0)) := by rw [heap_setCell_same _ _ _ _ _ _ h.str]; simp
    have h2 := h.field (lf' := n) hstr1 (.inr (by rw [if_neg h0])) (by omega) hn
    have H2 := hide h2
    have HI := hide h.inp
    clear h h2 hstr1
    go_enter Tryd.func13, Tryd.ntmps13
    go_wp2
    go_end0
    exact ⟨rfl, ⟨sv, lv, _, unhide H2⟩, Turn.setCell _ _ (unhide HI)⟩

theorem rread_no (i : Int) (h : Ref w p S D) (hpos : 0 < D.secs.length) (he : D.readE i ≠ 0) :
    Calls Tryd.prog 16 #[.pointer (some ⟨p, 0, none⟩), .int .i64 i] w fun e w' => e = .returned (.tuple #[.slice none 0 0, .int .i64 (D.readE i)]) ∧ w = w' := by
  obtain ⟨sv, lv, left, h⟩ := h
  have c0 := h.c0
  have c3 := h.c3
  have hlen := h.ok.len
  obtain ⟨g, cap, rfl, _, _, _, _⟩ := h.sv_form hpos
  clear h
  unfold DS.readE at *
  by_cases h1 : i < 0
  · rw [if_pos (.inl h1)]
    clear he
    go_enter Tryd.func16, Tryd.ntmps16
    go_wp2
    go_ret2
    exact ⟨rfl, rfl⟩
  · by_cases h2 : (D.secs.length : Int) ≤ i
    · rw [if_pos (.inr h2)]
      clear he
      go_enter Tryd.func16, Tryd.ntmps16
      go_wp2
      go_ret2
      exact ⟨rfl, rfl⟩
    · have hn : ¬ (i < 0 ∨ (D.secs.length : Int) ≤ i) := by omega
      rw [if_neg hn] at he ⊢
      by_cases h3 : D.down = true
      · rw [if_pos h3]
        rw [h3] at c3
        clear he hn
        go_enter Tryd.func16, Tryd.ntmps16
        go_wp2
        go_ret2
        exact ⟨rfl, rfl⟩
      · rw [if_neg h3] at he
        exact absurd rfl he

theorem rread_yes (i : Nat) (h : Ref w p S D) (hi : i < D.secs.length) (hd : D.down = false) :
    Calls Tryd.prog 16 #[.pointer (some ⟨p, 0, none⟩), .int .i64 i] w fun e w' => (∃ v, e = .returned (.tuple #[v, .int .i64 0]) ∧ SecV w S v (D.rd i)) ∧ w = w' := by
  obtain ⟨sv, lv, left, h⟩ := h
  have c0 := h.c0
  have c1 := h.c1
  have c3 := h.c3
  rw [hd] at c3
  have hlen := h.ok.len
  have hml := h.ok.mem_len
  have hap := h.ok.apart
  obtain ⟨g, cap, rfl, hg1, hg2, _, hg4⟩ := h.sv_form (by omega)
  obtain ⟨vs, hvs, hsv⟩ := hg4 i hi
  obtain ⟨gv, cv, rfl, hsv'⟩ : ∃ gv cv, vs = .slice (some ⟨gv, 0, none⟩) 32 cv ∧ SecV w S vs (D.secs.getD i []) := by
    obtain ⟨gv, cv, e, r⟩ := hsv
    exact ⟨gv, cv, e, gv, cv, e, r⟩
  have HSV := hide hsv'
  have e1 : ¬ (i : Int) < 0 := by omega
  have e2 : ¬ (D.secs.length : Int) ≤ (i : Int) := by omega
  have e3 : (0 : Int) ≤ (i : Int) := by omega
  have e4 : (i : Int) < (D.secs.length : Int) := by omega
  unfold maxLen at hg2
  have hform := h.lv_form
  clear h hsv hsv' hg4
  rcases hform with ⟨rfl, hm0⟩ | ⟨gl, lc, rfl, hl1, hl2, _, hl4⟩
  · have hrd : D.rd i = D.secs.getD i [] := by unfold DS.rd; rw [hm0]; rfl
    have HRD := hide hrd
    clear hrd hm0
    go_enter Tryd.func16, Tryd.ntmps16
    go_wp2_with fail
    go_loop [6] (fun v => v = .int .i64 0) (fun _ => 0)
    case atStart => rfl
    case round =>
      subst hrel
      go_wp2
      go_ret2
      exact ⟨⟨_, rfl, by rw [unhide HRD]; exact unhide HSV⟩, rfl⟩
  · unfold maxLen at hl2
    have HL4 := hide hl4
    clear hl4
    go_enter Tryd.func16, Tryd.ntmps16
    go_wp2_with fail
    go_loop [6] (fun v => ∃ k : Nat, k ≤ D.mem.length ∧ v = .int .i64 k ∧ ∀ j, j < k → (D.mem.getD j (0, [])).1 ≠ i) (fun v => D.mem.length - (intOf v).toNat)
    case atStart => exact ⟨0, by omega, rfl, fun j hj => absurd hj (Nat.not_lt_zero j)⟩
    case round =>
      obtain ⟨k, hk, rfl, hno⟩ := hrel
      have HNO := hide hno
      clear hno
      by_cases hlt : k < D.mem.length
      · obtain ⟨q0, vb, q1, hvb⟩ := (unhide HL4) k hlt
        obtain ⟨gb, cb, rfl, hvb'⟩ : ∃ gb cb, vb = .slice (some ⟨gb, 0, none⟩) 32 cb ∧ SecV w S vb (D.mem.getD k (0, [])).2 := by
          obtain ⟨gb, cb, e, r⟩ := hvb
          exact ⟨gb, cb, e, gb, cb, e, r⟩
        have hlk := lookup_at hap hlt
        obtain ⟨ky, bd, hkb⟩ : ∃ ky bd, D.mem.getD k (0, []) = (ky, bd) := ⟨_, _, rfl⟩
        simp only [hkb] at q0 hvb' hlk
        have f0 : (0 : Int) ≤ (k : Int) := by omega
        have f1 : (k : Int) < (D.mem.length : Int) := by omega
        by_cases hky : ky = i
        · subst hky
          have hrd : D.rd ky = bd := by unfold DS.rd; rw [hlk]; rfl
          have HVB := hide hvb'
          have HRD := hide hrd
          clear hvb' hvb hlk hrd hkb
          go_wp2
          go_ret2
          exact ⟨⟨_, rfl, by rw [unhide HRD]; exact unhide HVB⟩, rfl⟩
        · have hky' : ¬ (ky : Int) = (i : Int) := by omega
          have HKB := hide hkb
          have HKY := hide hky
          clear hvb' hvb hlk hkb hky
          go_wp2
          go_round
          case rel => exact ⟨k + 1, by omega, by go_num, fun j hj => by
            by_cases e : j = k
            · rw [e, unhide HKB]; exact unhide HKY
            · exact (unhide HNO) j (by omega)⟩
          case measure => simp [intOf]; omega
      · obtain rfl : k = D.mem.length := by omega
        have hrd : D.rd i = D.secs.getD i [] := by
          unfold DS.rd
          rw [lookup_none.2 (fun hm => by
            obtain ⟨q, hq, hq2⟩ := List.mem_map.1 hm
            obtain ⟨j, hj, hj2⟩ := List.getElem_of_mem hq
            have := (unhide HNO) j hj
            simp [List.getD, hj, hj2] at this
            exact this hq2)]
          rfl
        have HRD := hide hrd
        clear hrd
        go_wp2
        go_ret2
        exact ⟨⟨_, rfl, by rw [unhide HRD]; exact unhide HSV⟩, rfl⟩
end
end Go.Proofs.YtnpdejlbknjhnaaDoor
