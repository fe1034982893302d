/-
  Contracts of the reference's device: Crash. (Part of the proof of DevicePlays.)
-/
import Derived.Test.YtnpdejlbknjhnaaDoorRefF
namespace Go.Proofs.YtnpdejlbknjhnaaDoor
open Go.RowKit
set_option linter.unusedVariables false

section
variable {w : World} {p : Nat} {S : Nat → Prop} {D : DS}

/-- The first j bytes of b over those of s. -/
theorem torn_succ {s b : List Int} (hs : s.length = 32) (hb : b.length = 32) (j : Nat) (hj : j < 32) : (torn1 s b j).set j (b.getD j 0) = torn1 s b (j + 1) := by
  unfold torn1
  apply List.ext_getElem?
  intro i
  rw [List.getElem?_set]
  have hl1 : (b.take j).length = j := by simp; omega
  have hl2 : (b.take (j + 1)).length = j + 1 := by simp; omega
  by_cases h1 : j = i
  · subst h1
    rw [if_pos rfl]
    rw [if_pos (by simp; omega), List.getElem?_append_left (by omega), List.getElem?_take, if_pos (by omega)]
    simp [List.getD, hb, hj]
  · rw [if_neg h1]
    by_cases h2 : i < j
    · rw [List.getElem?_append_left (by omega), List.getElem?_append_left (by omega), List.getElem?_take, List.getElem?_take, if_pos h2, if_pos (by omega)]
    · rw [List.getElem?_append_right (by omega), List.getElem?_append_right (by omega), List.getElem?_drop, List.getElem?_drop]
      congr 1; omega

/-- The device is made anew behind a crash. -/
theorem RefAt.crashed {sv lv : Value} {left : Int} (h : RefAt w p sv lv left S D) :
    RefAt (((w.setCell ⟨p, 1, none⟩ (.slice none 0 0)).setCell ⟨p, 3, none⟩ (.bool false)).setCell ⟨p, 2, none⟩ (.int .i64 (-1))) p sv (.slice none 0 0) (-1) S ⟨D.secs, [], -1, false⟩ ∧ Turn S S w (((w.setCell ⟨p, 1, none⟩ (.slice none 0 0)).setCell ⟨p, 3, none⟩ (.bool false)).setCell ⟨p, 2, none⟩ (.int .i64 (-1))) := by
  have h1 := h.forget
  have hs1 : ((w.setCell ⟨p, 1, none⟩ (.slice none 0 0)).setCell ⟨p, 3, none⟩ (.bool false)).heap[p]? = some (.cells #[sv, .slice none 0 0, .int .i64 left, .bool false] 48 (0, 0)) := by rw [heap_setCell_same _ _ _ _ _ _ h1.str]; simp
  have hs2 : (((w.setCell ⟨p, 1, none⟩ (.slice none 0 0)).setCell ⟨p, 3, none⟩ (.bool false)).setCell ⟨p, 2, none⟩ (.int .i64 (-1))).heap[p]? = some (.cells #[sv, .slice none 0 0, .int .i64 (-1), .bool false] 48 (0, 0)) := by rw [heap_setCell_same _ _ _ _ _ _ hs1]; simp
  have hset : ∀ k, k ≠ p → (((w.setCell ⟨p, 1, none⟩ (.slice none 0 0)).setCell ⟨p, 3, none⟩ (.bool false)).setCell ⟨p, 2, none⟩ (.int .i64 (-1))).heap[k]? = (w.setCell ⟨p, 1, none⟩ (.slice none 0 0)).heap[k]? := fun k hk => (heap_setCell_other _ _ _ _ hk).trans (heap_setCell_other _ _ _ _ hk)
  refine ⟨⟨⟨h.ok.len, h.ok.sec, fun q hq => (by cases hq), List.nodup_nil, by simp⟩, hs2, ?_, ⟨[], World.ownsRow_nil _ _ _ _, fun i hi => absurd hi (Nat.not_lt_zero i)⟩, h.inp, h.ins, fun g hg => (by cases hg), fun k hk => by simpa using h.lt k hk, .inr rfl, by decide⟩, ((Turn.setCell _ _ h.inp).trans (Turn.setCell _ _ h.inp)).trans (Turn.setCell _ _ h.inp)⟩
  obtain ⟨cs, q1, q2⟩ := h1.sec
  refine ⟨cs, ownsRow_same q1 (fun g hg => hset g (fun e => h1.nsv (by rw [hg, e]))), fun i hi => ?_⟩
  obtain ⟨u, q3, q4⟩ := q2 i hi
  exact ⟨u, q3, q4.ne h1.str (by decide) hset⟩

set_option maxRecDepth 100000 in
set_option maxHeartbeats 4000000 in
theorem rcrash_some {sv lv : Value} {left : Int} (ka : Option Addr) (kcap : Nat) (keep : List Bool) (torn cut : Int) (h : RefAt w p sv lv left S D) (hpos : 0 < D.secs.length) (hkeep : Bls w ka kcap keep) (hkn : keep ≠ [] → ∀ x, ka = some x → ¬ S x.block) :
    Calls Tryd.prog 15 #[.pointer (some ⟨p, 0, none⟩), .slice ka keep.length kcap, .int .i64 torn, .int .i64 cut] w fun e w' => e = .returned (.int .i64 D.mem.length) ∧ (∃ S', Ref w' p S' (D.crash keep torn (cutN cut)) ∧ Turn S S' w w') := by
  have c1 := h.c1
  have hml := h.ok.mem_len
  have hlen := h.ok.len
  have hkl := hkeep.2.1
  have H := hide h
  have HK := hide hkeep
  have HKN := hide hkn
  obtain ⟨gs, cap, rfl, hs1, hs2, hgsS, _⟩ := h.sv_form hpos
  unfold maxLen at hs2
  have hform := h.lv_form
  clear h hkeep hkn
  rcases hform with ⟨rfl, hm0⟩ | ⟨gl, lc, rfl, hl1, hl2, hglS, _⟩
  · have hcr := (unhide H).crashed
    have d2 := (unhide H).c2
    have d3 := (unhide H).c3
    have g1 := (unhide H).fr 1
    have g2 := (unhide H).fr 2
    have g3 := (unhide H).fr 3
    have hcd : D.crash keep torn (cutN cut) = ⟨D.secs, [], -1, false⟩ := by unfold DS.crash; rw [hm0]; rfl
    have hl0 : D.mem.length = 0 := by rw [hm0]; rfl
    have HCD := hide hcd
    have HL0 := hide hl0
    have HCR := hide hcr
    clear hcr hcd hl0 hm0
    go_enter Tryd.func15, Tryd.ntmps15
    go_wp2_with fail
    go_loop [10] (fun v => v = .int .i64 0) (fun _ => 0)
    case atStart => rfl
    case round =>
      subst hrel
      go_wp2
      go_ret
      exact ⟨by rw [unhide HL0]; rfl, S, ⟨_, _, _, by rw [unhide HCD]; exact (unhide HCR).1⟩, (unhide HCR).2⟩
  · unfold maxLen at hl2
    go_enter Tryd.func15, Tryd.ntmps15
    go_wp2_with fail
    go_loopw [10] (fun v wr => ∃ (k : Nat) (S' : Nat → Prop), k ≤ D.mem.length ∧ v = .int .i64 k ∧ RefAt wr p (.slice (some ⟨gs, 0, none⟩) D.secs.length cap) (.slice (some ⟨gl, 0, none⟩) D.mem.length lc) left S' { D with secs := crashK D.secs D.mem keep torn (cutN cut) k } ∧ Turn S S' w wr) (fun v _ => D.mem.length - (intOf v).toNat)
    case atStart => exact ⟨0, S, by omega, rfl, unhide H, Turn.refl _ _⟩
    case round =>
      obtain ⟨k, S1, hk, rfl, hd, htr⟩ := hrel
      clear H c1
      have d1 := hd.c1
      by_cases hlt : k < D.mem.length
      · obtain ⟨ky, bd, hkb⟩ : ∃ ky bd, D.mem.getD k (0, []) = (ky, bd) := ⟨_, _, rfl⟩
        have d0 := hd.c0
        have hpm : D.mem.getD k (0, []) ∈ D.mem := pair_mem hlt
        have hset := crashK_succ (secs := D.secs) keep torn (cutN cut) k ky bd hkb
        have hq := hd.ok.mem _ hpm
        obtain ⟨q0, vb, q1, hvb⟩ : wr.cell? ⟨gl, k * 2, none⟩ = some (.int .i64 ((D.mem.getD k (0, [])).1 : Int)) ∧ ∃ v, wr.cell? ⟨gl, k * 2 + 1, none⟩ = some v ∧ SecV wr S1 v (D.mem.getD k (0, [])).2 := by
          rcases hd.lv_form with ⟨e, _⟩ | ⟨g', c', e, _, _, _, hh⟩
          · cases e
          · simp only [Value.slice.injEq, Option.some.injEq, Addr.mk.injEq, and_true] at e
            rw [e.1]; exact hh k hlt
        simp only [hkb] at q0 hvb hq
        obtain ⟨gb, cb, rfl, hvb'⟩ : ∃ gb cb, vb = .slice (some ⟨gb, 0, none⟩) 32 cb ∧ SecV wr S1 vb bd := by
          obtain ⟨gb, cb, e, r⟩ := hvb
          exact ⟨gb, cb, e, gb, cb, e, r⟩
        have f0 : (0 : Int) ≤ (k : Int) := by omega
        have f1 : (k : Int) < (D.mem.length : Int) := by omega
        obtain ⟨so, hso⟩ : ∃ so, (crashK D.secs D.mem keep torn (cutN cut) k).getD ky [] = so := ⟨_, rfl⟩
        have hdx := hd.alloc (.cells #[.int .i64 (ky : Int), .slice (some ⟨gb, 0, none⟩) 32 cb] 50)
        have hsS : Sec so := by rw [← hso]; exact sec_getD hd.ok.sec hq.1
        have x0d := hdx.c0
        have hkyl : ky < D.secs.length := by have := hq.1; rwa [length_crashK] at this
        obtain ⟨vs, hvs, hsv⟩ : ∃ v, (wr.alloc (.cells #[.int .i64 (ky : Int), .slice (some ⟨gb, 0, none⟩) 32 cb] 50)).cell? ⟨gs, ky, none⟩ = some v ∧ SecV (wr.alloc (.cells #[.int .i64 (ky : Int), .slice (some ⟨gb, 0, none⟩) 32 cb] 50)) S1 v so := by
          obtain ⟨g', c', e, _, _, _, hh⟩ := hdx.sv_form (by show 0 < (crashK D.secs D.mem keep torn (cutN cut) k).length; rw [length_crashK]; exact hpos)
          simp only [Value.slice.injEq, Option.some.injEq, Addr.mk.injEq, and_true] at e
          obtain ⟨v, hv, hv2⟩ := hh ky hq.1
          have hso' : ({ D with secs := crashK D.secs D.mem keep torn (cutN cut) k } : DS).secs.getD ky [] = so := hso
          rw [hso'] at hv2
          rw [e.1]; exact ⟨v, hv, hv2⟩
        obtain ⟨gv, cv, rfl, hgvS, hgvb, hbv⟩ := hsv
        have hvbx : SecV (wr.alloc (.cells #[.int .i64 (ky : Int), .slice (some ⟨gb, 0, none⟩) 32 cb] 50)) S1 (.slice (some ⟨gb, 0, none⟩) 32 cb) bd := hvb'.same (fun j hj => heap_alloc_old _ _ (hd.lt j hj)) (fun _ h => h)
        have hfz : (wr.alloc (.cells #[.int .i64 (ky : Int), .slice (some ⟨gb, 0, none⟩) 32 cb] 50)).frozen? ⟨gs, ky, none⟩ = false := by
          obtain ⟨cs, q5, _⟩ := hdx.sec
          obtain ⟨cur, q6⟩ := ownsRow_block q5 (g := gs) rfl
          exact frozen_of_row _ _ _ _ _ q6
        have hx0 : (wr.alloc (.cells #[.int .i64 (ky : Int), .slice (some ⟨gb, 0, none⟩) 32 cb] 50)).cell? ⟨wr.heap.size, 0, none⟩ = some (.int .i64 (ky : Int)) := by rw [cell_of_row _ _ _ _ _ _ (heap_alloc_new _ _)]; simp
        have hx1 : (wr.alloc (.cells #[.int .i64 (ky : Int), .slice (some ⟨gb, 0, none⟩) 32 cb] 50)).cell? ⟨wr.heap.size, 1, none⟩ = some (.slice (some ⟨gb, 0, none⟩) 32 cb) := by rw [cell_of_row _ _ _ _ _ _ (heap_alloc_new _ _)]; simp
        have hgsl : gs < wr.heap.size := hd.lt gs (hd.ins gs rfl)
        have hpl : p < wr.heap.size := hd.lt p hd.inp
        have hne1 : gs ≠ p := fun e => hd.nsv (by rw [← e]; rfl)
        have f2 : (0 : Int) ≤ (ky : Int) := by omega
        have f3 : (ky : Int) < (D.secs.length : Int) := by omega
        have hsb : Sec bd := hq.2
        have htx : Turn S S1 w (wr.alloc (.cells #[.int .i64 (ky : Int), .slice (some ⟨gb, 0, none⟩) 32 cb] 50)) := htr.trans (Turn.alloc S1 _ _)
        have HDX := hide hdx
        have HQ := hide hq
        have HTX := hide htx
        have HSET := hide hset
        have HSO := hide hso
        have HVB := hide hvbx
        by_cases ht : (k : Int) = torn
        · have hone : one keep torn (cutN cut) k so bd = torn1 so bd (cutN cut) := by unfold one; rw [if_pos ht]
          have HONE := hide hone
          have hcp := copied_any (some ⟨gv, 0, none⟩) cv so (World.drew (wr.alloc (.cells #[.int .i64 (ky : Int), .slice (some ⟨gb, 0, none⟩) 32 cb] 50))) hbv (by intro e; have := hsS.1; rw [e] at this; cases this)
          rw [hsS.1] at hcp
          have HCP := hide hcp
          clear hcp hone hd hdx htr htx hset hq hvb hvb' hvbx hso hpm hkb
          subst ht
          go_wp2_with fail
          generalize (wr.alloc (.cells #[.int .i64 (ky : Int), .slice (some ⟨gb, 0, none⟩) 32 cb] 50)) = wx at *
          go_region_held3 (fun w' => w'.cell? ⟨p, 0, none⟩ = some (.slice (some ⟨gs, 0, none⟩) D.secs.length cap) ∧ w'.cell? ⟨wr.heap.size, 0, none⟩ = some (.int .i64 (ky : Int)) ∧ w'.cell? ⟨gs, ky, none⟩ = some (.slice (some ⟨gv, 0, none⟩) 32 cv)) (first | go_keep | (go_split_ands; refine ⟨?_, ?_, ?_⟩ <;> go_keep))
            ((go_at_call 31; refine (unhide HCP).mono ?_; rintro e w1 ⟨g, c, rfl, hown, hbel⟩; have r0 := (hbel.cell (p := ⟨p, 0, none⟩) (block_lt_of_cell x0d)).trans x0d; have r1 := (hbel.cell (p := ⟨wr.heap.size, 0, none⟩) (block_lt_of_cell hx0)).trans hx0; have r2 := (hbel.cell (p := ⟨gs, ky, none⟩) (block_lt_of_cell hvs)).trans hvs))
          have hbel' : Below wx.heap.size wx w1 := below_of_drew hbel
          have hown' : Own w1 wx.heap.size g c so := hown
          have HO1 := hide hown'
          have HB1 := hide hbel'
          clear hown hbel hown' hbel' r0 r1 r2 HCP
          generalize wr.heap.size = xp at *
          go_wp2_with fail
          go_loopw [13] (fun v wq => ∃ j : Nat, j ≤ 32 ∧ (j : Int) ≤ max cut 0 ∧ v = .int .i64 j ∧ Own wq wx.heap.size g c (torn1 so bd j) ∧ Below wx.heap.size wx wq) (fun v _ => 32 - (intOf v).toNat)
          case atStart => exact ⟨0, by omega, by omega, rfl, by rw [show torn1 so bd 0 = so from by simp [torn1]]; exact unhide HO1, unhide HB1⟩
          case round =>
            obtain ⟨j, hj, hjc, rfl, hoj, hbj⟩ := hrel
            have hlj : (torn1 so bd j).length = 32 := (sec_torn hsS hsb j).1
            by_cases hjj : j < 32 ∧ (j : Int) < cut
            · obtain ⟨j1, j2⟩ := hjj
              have y1 := (hbj.cell (p := ⟨xp, 1, none⟩) (block_lt_of_cell hx1)).trans hx1
              have y2 : wr.cell? ⟨gb, j, none⟩ = some (.int .u8 (bd.getD j 0)) := by
                obtain ⟨g', c', e, _, _, hbb⟩ := unhide HVB
                obtain ⟨rfl, rfl⟩ : gb = g' ∧ cb = c' := by simpa using e
                obtain ⟨b', off, e2, hc⟩ := hbb.2.2.2.2 (by intro e3; have := hsb.1; rw [e3] at this; cases this)
                obtain ⟨rfl, rfl⟩ : gb = b' ∧ 0 = off := by simpa using e2
                have h5 := hc j (by rw [hsb.1]; exact j1)
                rw [Nat.zero_add] at h5
                exact (hbj.cell (p := ⟨gb, j, none⟩) (block_lt_of_cell h5)).trans h5
              have y3 := hoj.cell j (by rw [hlj]; exact j1)
              have y4 := hoj.frozen j
              have HOJ := hide (hoj.set j (bd.getD j 0))
              have HBJ := hide (show Below wx.heap.size wx (wr.setCell ⟨g, j, none⟩ (.int .u8 (bd.getD j 0))) from hbj.setCell hoj.base _)
              have HTS := hide (torn_succ hsS.1 hsb.1 j j1)
              have g0 : (0 : Int) ≤ (j : Int) := by omega
              have g1 : (j : Int) < 32 := by omega
              generalize bd.getD j 0 = bj at *
              clear hoj hbj
              go_wp2
              go_roundw
              case rel => exact ⟨j + 1, by omega, by omega, by go_num, by rw [← unhide HTS]; exact unhide HOJ, unhide HBJ⟩
              case measure => simp [intOf]; omega
            · have hjc2 : j = cutN cut := by unfold cutN; omega
              have hsT : Sec (torn1 so bd (cutN cut)) := sec_torn hsS hsb _
              rw [hjc2] at hoj
              have hgl : g < wr.heap.size := (hoj.lt g rfl).2
              have hdq := (unhide HDX).same hbj.size (fun k hk => hbj.block k ((unhide HDX).lt k hk))
              have hdw := (hdq.wide (S' := fun k => S1 k ∨ k = g) (fun k hk => .inl hk) (fun k hk => by
                rcases hk with hk | hk
                · exact hdq.lt k hk
                · omega)).same (w' := wr.drew) (Nat.le_refl _) (fun _ _ => rfl)
              have hoj' : Own wr.drew wx.heap.size g c (torn1 so bd (cutN cut)) := hoj
              have hres := hdw.setSec ky (unhide HQ).1 (secV_own hoj' hsT (.inr rfl)) hsT
              have hbw : wx.heap.size ≤ g := hoj.base
              have HT2 := hide (((unhide HTX).trans (Turn.grow hbj hbw)).trans (Turn.drew (fun k => S1 k ∨ k = g) wr))
              have HR := hide hres
              have y0 := (hbj.cell (p := ⟨p, 0, none⟩) (block_lt_of_cell x0d)).trans x0d
              have y1 := (hbj.cell (p := ⟨xp, 0, none⟩) (block_lt_of_cell hx0)).trans hx0
              have y2 := (hbj.cell (p := ⟨gs, ky, none⟩) (block_lt_of_cell hvs)).trans hvs
              have y3 := (hbj.frozen (p := ⟨gs, ky, none⟩) (block_lt_of_cell hvs)).trans hfz
              have hcond : (j = 32) ∨ (j < 32 ∧ ¬ (j : Int) < cut) := by omega
              have hne4 : gs ≠ xp := by omega
              clear hdq hdw hoj hoj' hres hbj hjc2 hlj
              rcases hcond with h32 | ⟨h32, h33⟩
              · subst h32
                go_wp2_with fail
                go_region_held3 (fun w' => w'.cell? ⟨p, 0, none⟩ = some (.slice (some ⟨gs, 0, none⟩) D.secs.length cap) ∧ w'.cell? ⟨xp, 0, none⟩ = some (.int .i64 (ky : Int))) (first | go_keep | (go_split_ands; refine ⟨?_, ?_⟩ <;> first | go_keep | (simp [hne1, hne4, Ne.symm hne1, Ne.symm hne4]; assumption))) (fail)
                go_wp2
                go_roundw
                case rel => exact ⟨k + 1, _, by omega, by go_num, by rw [unhide HSET, unhide HSO, unhide HONE]; exact (unhide HR).1, (unhide HT2).trans (unhide HR).2⟩
                case measure => simp [intOf]; omega
              · have g1 : (j : Int) < 32 := by omega
                go_wp2_with fail
                go_region_held3 (fun w' => w'.cell? ⟨p, 0, none⟩ = some (.slice (some ⟨gs, 0, none⟩) D.secs.length cap) ∧ w'.cell? ⟨xp, 0, none⟩ = some (.int .i64 (ky : Int))) (first | go_keep | (go_split_ands; refine ⟨?_, ?_⟩ <;> first | go_keep | (simp [hne1, hne4, Ne.symm hne1, Ne.symm hne4]; assumption))) (fail)
                go_wp2
                go_roundw
                case rel => exact ⟨k + 1, _, by omega, by go_num, by rw [unhide HSET, unhide HSO, unhide HONE]; exact (unhide HR).1, (unhide HT2).trans (unhide HR).2⟩
                case measure => simp [intOf]; omega
        · by_cases hkk : k < keep.length
          · have hne : keep ≠ [] := by intro e; rw [e] at hkk; simp at hkk
            obtain ⟨b3, off3, rfl, hc3⟩ := (unhide HK).2.2 hne
            have hb3 := block_lt_of_cell (hc3 k hkk)
            have hkc : (wr.alloc (.cells #[.int .i64 (ky : Int), .slice (some ⟨gb, 0, none⟩) 32 cb] 50)).cell? ⟨b3, off3 + k, none⟩ = some (.bool (keep.getD k false)) :=
              (World.cell?_of_block (a := ⟨b3, off3 + k, none⟩) ((heap_alloc_old _ _ (Nat.lt_of_lt_of_le hb3 htr.size)).trans (htr.block b3 hb3 ((unhide HKN) hne _ rfl)))).trans (hc3 k hkk)
            have hkk' : (k : Int) < (keep.length : Int) := by omega
            by_cases hkt : keep.getD k false = true
            · have hone : one keep torn (cutN cut) k so bd = bd := by unfold one; rw [if_neg ht, if_pos hkt]
              rw [hkt] at hkc
              have hdw := hdx.same (w' := World.drew (wr.alloc (.cells #[.int .i64 (ky : Int), .slice (some ⟨gb, 0, none⟩) 32 cb] 50))) (Nat.le_refl _) (fun _ _ => rfl)
              have hres := hdw.setSec ky hq.1 (v := .slice (some ⟨gb, 0, none⟩) 32 cb) hvbx hsb
              have HR := hide hres
              have HONE := hide hone
              have HT2 := hide ((unhide HTX).trans (Turn.drew S1 _))
              have hne4 : gs ≠ wr.heap.size := by omega
              clear hone hd hdx hdw hres htr htx hset hq hvb hvb' hvbx hso hpm hkb hc3 hkt hne hb3
              go_wp2_with fail
              generalize (wr.alloc (.cells #[.int .i64 (ky : Int), .slice (some ⟨gb, 0, none⟩) 32 cb] 50)) = wx at *
              go_region_held3 (fun w' => w'.cell? ⟨p, 0, none⟩ = some (.slice (some ⟨gs, 0, none⟩) D.secs.length cap) ∧ w'.cell? ⟨wr.heap.size, 0, none⟩ = some (.int .i64 (ky : Int)) ∧ w'.cell? ⟨wr.heap.size, 1, none⟩ = some (.slice (some ⟨gb, 0, none⟩) 32 cb)) (first | go_keep | (go_split_ands; refine ⟨?_, ?_, ?_⟩ <;> first | go_keep | (simp [hne1, hne4, Ne.symm hne1, Ne.symm hne4]; assumption))) (fail)
              go_wp2
              go_roundw
              case rel => exact ⟨k + 1, _, by omega, by go_num, by rw [unhide HSET, unhide HSO, unhide HONE]; exact (unhide HR).1, (unhide HT2).trans (unhide HR).2⟩
              case measure => simp [intOf]; omega
            · have hone : one keep torn (cutN cut) k so bd = so := by unfold one; rw [if_neg ht, if_neg hkt]
              have hkt' : keep.getD k false = false := by simpa using hkt
              rw [hkt'] at hkc
              have hsame : crashK D.secs D.mem keep torn (cutN cut) (k + 1) = crashK D.secs D.mem keep torn (cutN cut) k := by rw [hset, hso, hone, ← hso, set_getD_self]
              have HSM := hide hsame
              clear hone hsame hd hdx htr htx hset hq hvb hvb' hvbx hso hpm hkb hc3 hkt hkt' hne hb3
              go_wp2
              go_roundw
              case rel => exact ⟨k + 1, S1, by omega, by go_num, by rw [unhide HSM]; exact unhide HDX, unhide HTX⟩
              case measure => simp [intOf]; omega
          · have hkt' : keep.getD k false = false := by simp [List.getD, List.getElem?_eq_none (by omega : keep.length ≤ k)]
            have hkk' : ¬ (k : Int) < (keep.length : Int) := by omega
            have hone : one keep torn (cutN cut) k so bd = so := by unfold one; rw [if_neg ht, if_neg (by rw [hkt']; exact Bool.false_ne_true)]
            have hsame : crashK D.secs D.mem keep torn (cutN cut) (k + 1) = crashK D.secs D.mem keep torn (cutN cut) k := by rw [hset, hso, hone, ← hso, set_getD_self]
            have HSM := hide hsame
            clear hone hsame hd hdx htr htx hset hq hvb hvb' hvbx hso hpm hkb hkt'
            go_wp2
            go_roundw
            case rel => exact ⟨k + 1, S1, by omega, by go_num, by rw [unhide HSM]; exact unhide HDX, unhide HTX⟩
            case measure => simp [intOf]; omega
      · obtain rfl : k = D.mem.length := by omega
        have hcr := hd.crashed
        have d2 := hd.c2
        have d3 := hd.c3
        have g1 := hd.fr 1
        have g2 := hd.fr 2
        have g3 := hd.fr 3
        have HCR := hide hcr
        have HTR := hide htr
        clear hcr htr hd
        go_wp2
        go_ret
        exact ⟨rfl, S1, ⟨_, _, _, (unhide HCR).1⟩, (unhide HTR).trans (unhide HCR).2⟩
end
end Go.Proofs.YtnpdejlbknjhnaaDoor
