/-
  Contracts of the reference's device: Flush. (Part of the proof of DevicePlays.)
-/
import Derived.Test.YtnpdejlbknjhnaaDoorRefA
import Derived.Deep.RegionHeld3
namespace Go.Proofs.YtnpdejlbknjhnaaDoor
open Go.RowKit
set_option linter.unusedVariables false

section
variable {w : World} {p : Nat} {S : Nat → Prop} {D : DS}

theorem oneCell_slice (a : Option Addr) (n c : Nat) : (Value.slice a n c).oneCell' = true := rfl

/-- A sector is laid anew. -/
theorem RefAt.setSec {lv : Value} {left : Int} {g n cap : Nat} (h : RefAt w p (.slice (some ⟨g, 0, none⟩) n cap) lv left S D) (i : Nat) (hi : i < D.secs.length) {v : Value} {l : List Int} (hv : SecV w S v l) (hl : Sec l) :
    RefAt (w.setCell ⟨g, i, none⟩ v) p (.slice (some ⟨g, 0, none⟩) n cap) lv left S { D with secs := D.secs.set i l } ∧ Turn S S w (w.setCell ⟨g, i, none⟩ v) := by
  obtain ⟨cs, h1, h2⟩ := h.sec
  obtain rfl : n = D.secs.length := by
    rcases h1.2 with ⟨e, _⟩ | ⟨g', c', cur', e, _⟩
    · cases e
    · simp only [Value.slice.injEq] at e; exact e.2.1
  have hgS : S g := h.ins g rfl
  obtain ⟨cur, hcur⟩ := ownsRow_block h1 (g := g) rfl
  have hgp : g ≠ p := fun e => h.nsv (by rw [← e]; rfl)
  have hset : ∀ k, k ≠ g → (w.setCell ⟨g, i, none⟩ v).heap[k]? = w.heap[k]? := fun k hk => heap_setCell_other _ _ _ _ hk
  have hlg : lv.ownBlock ≠ some g := by
    intro e
    obtain ⟨cs2, h3, _⟩ := h.lin
    obtain ⟨cur2, h4⟩ := ownsRow_block h3 e
    rw [hcur] at h4
    simp at h4
  refine ⟨⟨⟨by show (D.secs.set i l).length ≤ 300; rw [List.length_set]; exact h.ok.len, fun s hs => ?_, fun q hq => by show q.1 < (D.secs.set i l).length ∧ _; rw [List.length_set]; exact h.ok.mem q hq, h.ok.apart, h.ok.left⟩, (hset p hgp.symm).trans h.str, ?_, ?_, h.inp, h.ins, h.inl, fun k hk => by simpa using h.lt k hk, h.lf, h.lb⟩, Turn.setCell _ _ hgS⟩
  · rcases mem_set_or hs with h3 | h3
    · exact h.ok.sec s h3
    · rw [h3]; exact hl
  · show ∃ cs, (w.setCell ⟨g, i, none⟩ v).ownsRow 0 35 1 (.slice (some ⟨g, 0, none⟩) D.secs.length cap) (D.secs.set i l).length cs ∧ secCells (w.setCell ⟨g, i, none⟩ v) S cs (D.secs.set i l)
    rw [List.length_set]
    refine ⟨cs.set i v, (World.ownsRow.stored h1 i v).1, fun j hj => ?_⟩
    rw [List.length_set] at hj
    have hcl : cs.length = D.secs.length := by have := h1.1; omega
    by_cases e : j = i
    · subst e
      refine ⟨v, by rw [List.getElem?_set_self (by omega)], ?_⟩
      rw [getD_set_self _ _ _ hi]
      exact hv.ne hcur (by decide) hset
    · obtain ⟨u, h5, h6⟩ := h2 j hj
      refine ⟨u, by rw [List.getElem?_set_ne (fun e2 => e e2.symm)]; exact h5, ?_⟩
      rw [getD_set_ne _ _ (fun e2 => e e2.symm)]
      exact h6.ne hcur (by decide) hset
  · obtain ⟨cs2, h3, h4⟩ := h.lin
    refine ⟨cs2, ownsRow_same h3 (fun k hk => hset k (fun e => hlg (by rw [hk, e]))), fun j hj => ?_⟩
    obtain ⟨h5, u, h6, h7⟩ := h4 j hj
    exact ⟨h5, u, h6, h7.ne hcur (by decide) hset⟩

/-- All lines are gone. -/
theorem RefAt.forget {sv lv : Value} {left : Int} (h : RefAt w p sv lv left S D) : RefAt (w.setCell ⟨p, 1, none⟩ (.slice none 0 0)) p sv (.slice none 0 0) left S { D with mem := [] } := by
  have hset : ∀ k, k ≠ p → (w.setCell ⟨p, 1, none⟩ (.slice none 0 0)).heap[k]? = w.heap[k]? := fun k hk => heap_setCell_other _ _ _ _ hk
  refine ⟨⟨h.ok.len, h.ok.sec, fun q hq => (by cases hq), List.nodup_nil, h.ok.left⟩, by rw [heap_setCell_same _ _ _ _ _ _ h.str]; simp, ?_, ⟨[], World.ownsRow_nil _ _ _ _, fun i hi => absurd hi (Nat.not_lt_zero i)⟩, h.inp, h.ins, fun g hg => (by cases hg), fun k hk => by simpa using h.lt k hk, h.lf, h.lb⟩
  obtain ⟨cs, h1, h2⟩ := h.sec
  refine ⟨cs, ownsRow_same h1 (fun g hg => hset g (fun e => h.nsv (by rw [hg, e]))), fun i hi => ?_⟩
  obtain ⟨u, h3, h4⟩ := h2 i hi
  exact ⟨u, h3, h4.ne h.str (by decide) hset⟩

theorem rflush_go {sv lv : Value} {left : Int} (h : RefAt w p sv lv left S D) (hpos : 0 < D.secs.length) (h1 : D.down = false) (h2 : ¬ D.left = 0) :
    Calls Tryd.prog 11 #[.pointer (some ⟨p, 0, none⟩)] w fun e w' => e = .returned (.int .i64 0) ∧ Ref w' p S D.step.flush ∧ Turn S S w w' := by
  have c3 := h.c3
  rw [h1] at c3
  have hst := rstep_any h h1
  rw [decide_eq_true h2] at hst
  have HS := hide hst
  have hsl : D.step.secs.length = D.secs.length := by unfold DS.step; split; rfl; split; rfl; rfl
  have hpos' : 0 < D.step.secs.length := by omega
  clear h hst hsl
  go_enter Tryd.func11, Tryd.ntmps11
  go_wp2_with fail
  refine (unhide HS).mono ?_
  rintro e w1 ⟨rfl, ⟨left', h'⟩, ht⟩
  clear HS c3 h1 h2 hpos
  have c1 := h'.c1
  have hml := h'.ok.mem_len
  have hlen := h'.ok.len
  have H := hide h'
  have HT := hide ht
  obtain ⟨gs, cap, rfl, hcap, hcm, hgS, _⟩ := h'.sv_form hpos'
  have hform := h'.lv_form
  unfold maxLen at hcm
  clear h' ht
  rcases hform with ⟨rfl, hm0⟩ | ⟨gl, lc, rfl, hl1, hl2, hglS, _⟩
  · have hfl : D.step.flush = { D.step with mem := [] } := by unfold DS.flush; rw [hm0]; rfl
    have HFL := hide hfl
    have H2 := hide (unhide H).forget
    have f1 := (unhide H).fr 1
    have HI := hide (unhide H).inp
    clear hfl hm0
    go_wp2_with fail
    go_loop [4] (fun v => v = .int .i64 0) (fun _ => 0)
    case atStart => rfl
    case round =>
      subst hrel
      go_wp2
      go_ret
      exact ⟨rfl, ⟨_, _, _, by rw [unhide HFL]; exact unhide H2⟩, (unhide HT).trans (Turn.setCell _ _ (unhide HI))⟩
  · unfold maxLen at hl2
    have hne1 : gs ≠ p := fun e => (unhide H).nsv (by rw [← e]; rfl)
    have hne2 : gl ≠ p := fun e => (unhide H).nlv (by rw [← e]; rfl)
    have hne3 : gs ≠ gl := by
      intro e
      obtain ⟨cs, q1, _⟩ := (unhide H).sec
      obtain ⟨cs2, q2, _⟩ := (unhide H).lin
      obtain ⟨cur, q3⟩ := ownsRow_block q1 (g := gs) rfl
      obtain ⟨cur2, q4⟩ := ownsRow_block q2 (g := gl) rfl
      rw [e, q4] at q3
      simp at q3
    go_wp2_with fail
    go_loopw [4] (fun v wr => ∃ k : Nat, k ≤ D.step.mem.length ∧ v = .int .i64 k ∧ RefAt wr p (.slice (some ⟨gs, 0, none⟩) D.step.secs.length cap) (.slice (some ⟨gl, 0, none⟩) D.step.mem.length lc) left' S { D.step with secs := flushK D.step.secs D.step.mem k } ∧ Turn S S w wr) (fun v _ => D.step.mem.length - (intOf v).toNat)
    case atStart => exact ⟨0, Nat.zero_le _, rfl, unhide H, unhide HT⟩
    case round =>
      obtain ⟨k, hk, rfl, hd, htr⟩ := hrel
      clear H HT c1
      have d1 := hd.c1
      by_cases hlt : k < D.step.mem.length
      · obtain ⟨ky, bd, hkb⟩ : ∃ ky bd, D.step.mem.getD k (0, []) = (ky, bd) := ⟨_, _, rfl⟩
        have d0 := hd.c0
        have hpm : D.step.mem.getD k (0, []) ∈ D.step.mem := pair_mem hlt
        have hset : flushK D.step.secs D.step.mem (k + 1) = (flushK D.step.secs D.step.mem k).set (D.step.mem.getD k (0, [])).1 (D.step.mem.getD k (0, [])).2 := rfl
        have hq := hd.ok.mem _ hpm
        obtain ⟨q0, vb, q1, hvb⟩ : wr.cell? ⟨gl, k * 2, none⟩ = some (.int .i64 ((D.step.mem.getD k (0, [])).1 : Int)) ∧ ∃ v, wr.cell? ⟨gl, k * 2 + 1, none⟩ = some v ∧ SecV wr S v (D.step.mem.getD k (0, [])).2 := by
          rcases hd.lv_form with ⟨e, _⟩ | ⟨g', c', e, _, _, _, hh⟩
          · cases e
          · simp only [Value.slice.injEq, Option.some.injEq, Addr.mk.injEq, and_true] at e
            rw [e.1]; exact hh k hlt
        simp only [hkb] at q0 hvb hset hq
        have hkl : ky < D.step.secs.length := by have := hq.1; rwa [length_flushK] at this
        obtain ⟨v0, hv0⟩ : ∃ v, wr.cell? ⟨gs, ky, none⟩ = some v := by
          obtain ⟨g', c', e, _, _, _, hh⟩ := hd.sv_form (by show 0 < (flushK D.step.secs D.step.mem k).length; rw [length_flushK]; exact hpos')
          simp only [Value.slice.injEq, Option.some.injEq, Addr.mk.injEq, and_true] at e
          obtain ⟨v, hv, _⟩ := hh ky hq.1
          rw [e.1]; exact ⟨v, hv⟩
        obtain ⟨gb, cb, rfl, hvb'⟩ : ∃ gb cb, vb = .slice (some ⟨gb, 0, none⟩) 32 cb ∧ SecV wr S vb bd := by
          obtain ⟨gb, cb, e, r⟩ := hvb
          exact ⟨gb, cb, e, gb, cb, e, r⟩
        have hfz : wr.frozen? ⟨gs, ky, none⟩ = false := by
          obtain ⟨cs, q5, _⟩ := hd.sec
          obtain ⟨cur, q6⟩ := ownsRow_block q5 (g := gs) rfl
          exact frozen_of_row _ _ _ _ _ q6
        have hd' : RefAt wr.drew p (.slice (some ⟨gs, 0, none⟩) D.step.secs.length cap) (.slice (some ⟨gl, 0, none⟩) D.step.mem.length lc) left' S { D.step with secs := flushK D.step.secs D.step.mem k } := hd.same (Nat.le_refl _) (fun _ _ => rfl)
        have hres := hd'.setSec ky hq.1 (v := .slice (some ⟨gb, 0, none⟩) 32 cb) (l := bd) hvb' hq.2
        have HR := hide hres
        have HS := hide hset
        have HTR := hide htr
        have f0 : (0 : Int) ≤ (k : Int) := by omega
        have f1 : (k : Int) < (D.step.mem.length : Int) := by omega
        have f2 : (0 : Int) ≤ (ky : Int) := by omega
        have f3 : (ky : Int) < (D.step.secs.length : Int) := by omega
        clear hd hd' hres hset htr hvb hvb' hq hpm hkb
        go_wp2_with fail
        go_region_held3 (fun w' => w'.cell? ⟨p, 0, none⟩ = some (.slice (some ⟨gs, 0, none⟩) D.step.secs.length cap) ∧ w'.cell? ⟨p, 1, none⟩ = some (.slice (some ⟨gl, 0, none⟩) D.step.mem.length lc) ∧ w'.cell? ⟨gl, k * 2, none⟩ = some (.int .i64 (ky : Int)) ∧ w'.cell? ⟨gl, k * 2 + 1, none⟩ = some (.slice (some ⟨gb, 0, none⟩) 32 cb)) (first | go_keep | (go_split_ands; refine ⟨?_, ?_, ?_, ?_⟩ <;> first | go_keep | (simp [hne1, hne2, hne3, Ne.symm hne1, Ne.symm hne2, Ne.symm hne3]; assumption))) (fail)
        go_wp2
        go_roundw
        case rel => exact ⟨k + 1, by omega, by go_num, by rw [unhide HS]; exact (unhide HR).1, (unhide HTR).trans ((Turn.drew S _).trans (unhide HR).2)⟩
        case measure => simp [intOf]; omega
      · obtain rfl : k = D.step.mem.length := by omega
        have H2 := hide hd.forget
        have f1 := hd.fr 1
        have HI := hide hd.inp
        have HTR := hide htr
        clear hd htr
        go_wp2
        go_ret
        exact ⟨rfl, ⟨_, _, _, unhide H2⟩, (unhide HTR).trans (Turn.setCell _ _ (unhide HI))⟩

theorem rflush_any (h : Ref w p S D) (hpos : 0 < D.secs.length) :
    Calls Tryd.prog 11 #[.pointer (some ⟨p, 0, none⟩)] w fun e w' => e = .returned (.int .i64 D.flushE) ∧ Ref w' p S D.doFlush ∧ Turn S S w w' := by
  obtain ⟨sv, lv, left, h⟩ := h
  unfold DS.flushE DS.doFlush
  by_cases h1 : D.down = true
  · rw [if_pos h1, if_pos h1]
    have c3 := h.c3
    rw [h1] at c3
    have H := hide h
    clear h
    go_enter Tryd.func11, Tryd.ntmps11
    go_wp2
    go_ret
    exact ⟨rfl, ⟨sv, lv, left, unhide H⟩, Turn.refl _ _⟩
  · rw [if_neg h1, if_neg h1]
    have h1' : D.down = false := by simpa using h1
    by_cases h2 : D.left = 0
    · rw [if_pos h2, if_pos h2]
      have c3 := h.c3
      rw [h1'] at c3
      have hst := rstep_any h h1'
      rw [decide_eq_false (fun h => h h2)] at hst
      have he : D.step = { D with down := true } := by unfold DS.step; rw [if_pos h2]
      rw [he] at hst
      have HS := hide hst
      clear h hst he h1 h2
      go_enter Tryd.func11, Tryd.ntmps11
      go_wp2_with fail
      refine (unhide HS).mono ?_
      rintro e w1 ⟨rfl, ⟨left', h'⟩, ht⟩
      go_wp2
      go_ret
      exact ⟨rfl, ⟨sv, lv, left', h'⟩, ht⟩
    · rw [if_neg h2, if_neg h2]
      exact rflush_go h hpos h1' h2
end
end Go.Proofs.YtnpdejlbknjhnaaDoor
