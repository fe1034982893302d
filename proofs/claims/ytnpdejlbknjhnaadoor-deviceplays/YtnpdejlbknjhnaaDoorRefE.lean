/-
  Contracts of the reference's device: Write of what was not there. (Part of the proof of DevicePlays.)
-/
import Derived.Test.YtnpdejlbknjhnaaDoorRefD
import Derived.Deep.RegionLaw
import Derived.Deep.RegionHeld3
namespace Go.Proofs.YtnpdejlbknjhnaaDoor
open Go.RowKit
set_option linter.unusedVariables false

theorem info_line : (Tryd.prog.info? 50).map (fun i => (i.zero, i.size, i.bytes)) = some (some (.agg #[.int .i64 0, .slice none 0 0]), 2, 32) := by kernel_rfl

theorem news_line (w : World) (t : TypeId) (x y : Value) : ∀ j u, ([x, y] : List Value)[j]? = some u → (w.alloc (.cells #[x, y] t)).cell? (Addr.add ⟨w.heap.size, 0, none⟩ j) = some u := by
  intro j u hj
  rw [addr_add, Nat.zero_add, cell_of_row _ _ _ _ _ (0, 0) (heap_alloc_new w _)]
  match j, hj with
  | 0, hj => simpa using hj
  | 1, hj => simpa using hj
  | j + 2, hj => simp at hj
theorem one_line (x : Int) (a : Option Addr) (n c : Nat) : ∀ u ∈ ([.int .i64 x, .slice a n c] : List Value), u.oneCell' = true := by
  intro u hu; simp at hu; rcases hu with rfl | rfl <;> rfl

theorem memPut_new {m : List (Nat × List Int)} {i : Nat} (hn : i ∉ m.map (·.1)) (l : List Int) : memPut m i l = m ++ [(i, l)] := by
  induction m with
  | nil => rfl
  | cons x r ih =>
    obtain ⟨j, b⟩ := x
    simp only [List.map_cons, List.mem_cons, not_or] at hn
    unfold memPut
    rw [if_neg (fun e => hn.1 e.symm), ih hn.2]; rfl

section
variable {w : World} {p : Nat} {S : Nat → Prop} {D : DS}

/-- One line more. -/
theorem RefAt.addLine {sv lv v : Value} {left : Int} {w1 w2 : World} {o : Obj} {i g c : Nat} {l : List Int} (h : RefAt w p sv lv left S D) (hi : i < D.secs.length) (hno : D.mem.lookup i = none) (hsl : Sec l) (ho : Own w1 w.heap.size g c l) (hb : Below w.heap.size w w1)
    (cs : List Value) (hlin : linCells w S cs D.mem) (hcl : cs.length = D.mem.length * 2) (hown : w2.ownsRow 0 50 2 v (D.mem.length + 1) (cs ++ [.int .i64 (i : Int), .slice (some ⟨g, 0, none⟩) 32 c])) (hgrow : (w1.alloc o).grownBy w2 lv.ownBlock) (hat : v.ownBlock = lv.ownBlock ∨ v.ownBlock = some (w1.heap.size + 1)) :
    RefAt (w2.setCell ⟨p, 1, none⟩ v) p sv v left (fun k => S k ∨ k = g ∨ v.ownBlock = some k) (D.put i l) ∧ Turn S (fun k => S k ∨ k = g ∨ v.ownBlock = some k) w (w2.setCell ⟨p, 1, none⟩ v) := by
  have hgw : w.heap.size ≤ g := ho.base
  have hgl : g < w1.heap.size := (ho.lt g rfl).2
  have hz2 := hgrow.size
  simp only [size_alloc] at hz2
  have hblk : ∀ k, S k → lv.ownBlock ≠ some k → w2.heap[k]? = w.heap[k]? := fun k hk hne =>
    (hgrow.block k (by have := h.lt k hk; have := hb.size; simp; omega) (fun e => hne e.symm)).trans ((heap_alloc_old _ _ (by have := h.lt k hk; have := hb.size; omega)).trans (hb.block k (h.lt k hk)))
  have hg2 : w2.heap[g]? = w1.heap[g]? := by
    refine (hgrow.block g (by simp; omega) (fun e => ?_)).trans (heap_alloc_old _ _ hgl)
    have := h.lt g (h.inl g e.symm)
    omega
  have hstr2 : w2.heap[p]? = _ := (hblk p h.inp h.nlv).trans h.str
  have hset : ∀ k, k ≠ p → (w2.setCell ⟨p, 1, none⟩ v).heap[k]? = w2.heap[k]? := fun k hk => heap_setCell_other _ _ _ _ hk
  have hvp : v.ownBlock ≠ some p := by
    intro e
    rcases hat with h1 | h1
    · exact h.nlv (by rw [← h1]; exact e)
    · rw [h1] at e; have := Option.some.inj e; have := h.lt p h.inp; have := hb.size; omega
  have hlb : ∀ u b, SecV w S u b → SecV (w2.setCell ⟨p, 1, none⟩ v) (fun k => S k ∨ k = g ∨ v.ownBlock = some k) u b := by
    intro u b hu
    obtain ⟨g1, c1, rfl, k1, ⟨cur, k2⟩, k3⟩ := hu
    have hn1 : lv.ownBlock ≠ some g1 := by
      intro e
      obtain ⟨cs2, q1, _⟩ := h.lin
      obtain ⟨cur2, q2⟩ := ownsRow_block q1 e
      rw [k2] at q2
      simp at q2
    have hn2 : g1 ≠ p := by
      intro e; subst e
      rw [h.str] at k2
      simp at k2
    have e1 : (w2.setCell ⟨p, 1, none⟩ v).heap[g1]? = w.heap[g1]? := (hset g1 hn2).trans (hblk g1 k1 hn1)
    refine ⟨g1, c1, rfl, .inl k1, ⟨cur, e1.trans k2⟩, k3.1, k3.2.1, k3.2.2.1, k3.2.2.2.1, fun hne => ?_⟩
    obtain ⟨b', off, e, hc⟩ := k3.2.2.2.2 hne
    obtain ⟨rfl, rfl⟩ : g1 = b' ∧ 0 = off := by simpa using e
    exact ⟨g1, 0, rfl, fun j hj => (World.cell?_of_block (a := ⟨g1, 0 + j, none⟩) e1).trans (hc j hj)⟩
  have hnew : SecV (w2.setCell ⟨p, 1, none⟩ v) (fun k => S k ∨ k = g ∨ v.ownBlock = some k) (.slice (some ⟨g, 0, none⟩) 32 c) l := by
    have hgp : g ≠ p := by have := h.lt p h.inp; omega
    have hv1 : SecV w1 (fun k => k = g) (.slice (some ⟨g, 0, none⟩) 32 c) l := secV_own ho hsl rfl
    exact hv1.same (fun k hk => by subst hk; exact (hset k hgp).trans hg2) (fun k hk => .inr (.inl hk))
  have hk : (memPut D.mem i l) = D.mem ++ [(i, l)] := memPut_new (lookup_none.1 hno) l
  refine ⟨⟨h.ok.put hi hsl, by rw [heap_setCell_same _ _ _ _ _ _ hstr2]; simp; rfl, ?_, ?_, .inl h.inp, fun k hk => .inl (h.ins k hk), fun k hk => .inr (.inr hk), ?_, h.lf, h.lb⟩, ?_⟩
  · obtain ⟨cs2, q1, q2⟩ := h.sec
    refine ⟨cs2, ownsRow_same q1 (fun k hk => (hset k (fun e => h.nsv (by rw [hk, e]))).trans (hblk k (h.ins k hk) (fun e => ?_))), fun j hj => ?_⟩
    · obtain ⟨cs3, q3, _⟩ := h.lin
      obtain ⟨cur3, q4⟩ := ownsRow_block q3 e
      obtain ⟨cur4, q5⟩ := ownsRow_block q1 hk
      rw [q4] at q5
      simp at q5
    · obtain ⟨u, q3, q4⟩ := q2 j hj
      exact ⟨u, q3, hlb u _ q4⟩
  · show ∃ cs, (w2.setCell ⟨p, 1, none⟩ v).ownsRow 0 50 2 v (memPut D.mem i l).length cs ∧ linCells _ _ cs (memPut D.mem i l)
    rw [hk, List.length_append]
    refine ⟨_, ownsRow_same hown (fun k hk2 => hset k (fun e => hvp (by rw [hk2, e]))), fun j hj => ?_⟩
    simp at hj
    by_cases e : j < D.mem.length
    · obtain ⟨q1, u, q2, q3⟩ := hlin j e
      have e1 : (D.mem ++ [(i, l)]).getD j (0, []) = D.mem.getD j (0, []) := by simp [List.getD, List.getElem?_append_left e]
      rw [e1]
      exact ⟨by rw [List.getElem?_append_left (by omega)]; exact q1, u, by rw [List.getElem?_append_left (by omega)]; exact q2, hlb u _ q3⟩
    · obtain rfl : j = D.mem.length := by omega
      have e1 : (D.mem ++ [(i, l)]).getD D.mem.length (0, []) = (i, l) := by simp [List.getD]
      rw [e1]
      exact ⟨by rw [List.getElem?_append_right (by omega)]; simp [hcl, Nat.mul_comm], .slice (some ⟨g, 0, none⟩) 32 c, by rw [List.getElem?_append_right (by omega)]; simp [hcl, Nat.mul_comm], hnew⟩
  · intro k hk2
    show k < (w2.setCell ⟨p, 1, none⟩ v).heap.size
    have hzz : (w2.setCell ⟨p, 1, none⟩ v).heap.size = w2.heap.size := by simp
    rw [hzz]
    rcases hk2 with h1 | h1 | h1
    · have := h.lt k h1; have := hb.size; omega
    · omega
    · exact (hown.lt k h1).2
  · refine ⟨hgrow.os.trans hb.os, hgrow.tape.trans hb.tape, hgrow.output.trans hb.output, by have := hb.size; simp; omega, fun k hk2 hn => ?_, fun k hk2 hs => ?_⟩
    · have hkp : k ≠ p := fun e => hn (e ▸ h.inp)
      refine (hset k hkp).trans ((hgrow.block k (by have := hb.size; simp; omega) (fun e => hn (h.inl k e.symm))).trans ((heap_alloc_old _ _ (by have := hb.size; omega)).trans (hb.block k hk2)))
    · rcases hs with h1 | h1 | h1
      · exact h1
      · omega
      · rcases hat with h2 | h2
        · exact h.inl k (by rw [← h2]; exact h1)
        · rw [h2] at h1; have := Option.some.inj h1; have := hb.size; omega

set_option maxRecDepth 100000 in
set_option maxHeartbeats 2000000 in
theorem rwrite_new {sv lv : Value} {left : Int} (i : Nat) (a : Option Addr) (cap : Nat) (l : List Int) (h : RefAt w p sv lv left S D) (hi : i < D.secs.length) (hd : D.down = false) (hb : Bs w a cap l) (hl : l.length = 32) (hno : D.mem.lookup i = none) :
    Calls Tryd.prog 9 #[.pointer (some ⟨p, 0, none⟩), .int .i64 i, .slice a 32 cap] w fun e w' => e = .returned (.int .i64 (if D.left = 0 then 9 else 0)) ∧ (∃ S', Ref w' p S' (D.put i l).step ∧ Turn S S' w w') := by
  have hsl : Sec l := ⟨hl, hb.1⟩
  have c0 := h.c0
  have c1 := h.c1
  have c3 := h.c3
  rw [hd] at c3
  have hlen := h.ok.len
  have hml := h.ok.mem_len
  have hkn := lookup_none.1 hno
  obtain ⟨gs, scap, rfl, hs1, hs2, _, _⟩ := h.sv_form (by omega)
  unfold maxLen at hs2
  have e1 : ¬ (i : Int) < 0 := by omega
  have e2 : ¬ (D.secs.length : Int) ≤ (i : Int) := by omega
  have hlp := h.lt p h.inp
  have hf1 := h.fr 1
  obtain ⟨i0, hi0, hz0, hz1, hz2⟩ := info_parts info_line
  obtain ⟨cs, hcs1, hcs2⟩ := h.lin
  have hcl : cs.length = D.mem.length * 2 := hcs1.1
  have hnlv := h.nlv
  have hownf : ∀ w1 o, Below w.drew.heap.size w.drew w1 → (w1.alloc o).ownsRow 0 50 2 lv D.mem.length cs := fun w1 o hbel =>
    (ownsRow_same hcs1 (fun g hg => hbel.block g (h.lt g (h.inl g hg)))).alloc o
  have hfin : ∀ g c w1 g2 c2 w2 o, Own w1 w.heap.size g c l → Below w.drew.heap.size w.drew w1 → w2.ownsRow 0 50 2 (.slice (some ⟨g2, 0, none⟩) (D.mem.length + 1) c2) (D.mem.length + 1) (cs ++ [.int .i64 (i : Int), .slice (some ⟨g, 0, none⟩) 32 c]) → (w1.alloc o).grownBy w2 lv.ownBlock → (lv.ownBlock = some g2 ∨ g2 = w1.heap.size + 1) →
      ∃ S', RefAt (w2.setCell ⟨p, 1, none⟩ (.slice (some ⟨g2, 0, none⟩) (D.mem.length + 1) c2)) p (.slice (some ⟨gs, 0, none⟩) D.secs.length scap) (.slice (some ⟨g2, 0, none⟩) (D.mem.length + 1) c2) left S' (D.put i l) ∧ Turn S S' w (w2.setCell ⟨p, 1, none⟩ (.slice (some ⟨g2, 0, none⟩) (D.mem.length + 1) c2)) := by
    intro g c w1 g2 c2 w2 o ho hbel h2 h3 h4
    have := h.addLine hi hno hsl ho (below_of_drew hbel) cs hcs2 hcl h2 h3 (by
      rcases h4 with h5 | h5
      · exact .inl h5.symm
      · exact .inr (by rw [← h5]; rfl))
    exact ⟨_, this.1, this.2⟩
  have hcp := copied_any a cap l w.drew hb (by intro e; rw [e] at hl; cases hl)
  rw [hl] at hcp
  obtain ⟨E, hE⟩ : ∃ E : Int, (if D.left = 0 then (9 : Int) else 0) = E := ⟨_, rfl⟩
  have hst : ∀ w1 S1 sv1 lv1 left1, RefAt w1 p sv1 lv1 left1 S1 (D.put i l) → Calls Tryd.prog 32 #[.pointer (some ⟨p, 0, none⟩)] w1 fun e w' => e = .returned (.bool (decide (D.left ≠ 0))) ∧ (∃ left', RefAt w' p sv1 lv1 left' S1 (D.put i l).step) ∧ Turn S1 S1 w1 w' :=
    fun w1 S1 sv1 lv1 left1 h1 => rstep_any h1 hd
  have hform := h.lv_form
  have HST := hide hst
  have HFIN := hide hfin
  have HCP := hide hcp
  have HOF := hide hownf
  have HE := hide hE
  have HKN := hide hkn
  have HB := hide hb
  rw [hE]
  clear h hst hfin hcp hownf hcs1 hcs2 hE hno hkn hb
  rcases hform with ⟨rfl, hm0⟩ | ⟨gl, lc, rfl, hl1, hl2, hglS, hl4⟩
  · have HM0 := hide hm0
    clear hm0
    go_enter Tryd.func9, Tryd.ntmps9
    go_wp2_with fail
    go_loop [7, 8] (fun f jv => f = .bool false ∧ jv = .int .i64 0) (fun _ _ => 0)
    case atStart => exact ⟨rfl, rfl⟩
    case round =>
      obtain ⟨rfl, rfl⟩ := hrel
      go_wp2_with fail
      go_region_law (first
        | (refine step_append_lies _ (by rfl) (.tmp 62) (.tmp 67) 46 (by rfl) 0 50 i0 _ 2 32 Tryd.underlying46 hi0 hz0 hz1 hz2 (by rfl) (by decide) _ _ _ (by rfl) ((unhide HOF) w1 _ hbel) ⟨w1.heap.size, 0, none⟩ 1 1 [.int .i64 (i : Int), .slice (some ⟨g, 0, none⟩) 32 c] (by rfl) (by rfl) (news_line w1 _ _ _) (one_line _ _ _ _) (by decide) (by unfold maxLen; omega) (by omega) (Nat.zero_le _) (w1.heap.size + 1) (by simp) ?_; intro g2 c2 w2 hown2 hgrow2 hat2 hlt2; have s1 : w2.cell? ⟨p, 1, none⟩ = some (.slice none 0 0) := hgrow2.cell (a := ⟨p, 1, none⟩) ((World.cell?_of_block (a := ⟨p, 1, none⟩) (heap_alloc_old _ _ (by have := hbel.size; exact Nat.lt_of_lt_of_le hlp this))).trans r1) (fun e => hnlv e.symm); have s2 : w2.frozen? ⟨p, 1, none⟩ = false := by (rw [World.frozen?_of_block (a := ⟨p, 1, none⟩) ((hgrow2.block p (by have := hbel.size; simp; exact Nat.lt_succ_of_lt (Nat.lt_of_lt_of_le hlp this)) (fun e => hnlv e.symm)).trans ((heap_alloc_old _ _ (Nat.lt_of_lt_of_le hlp hbel.size)).trans (hbel.block p hlp)))]; exact hf1))
        | (go_simp; refine (unhide HCP).mono ?_; rintro e w1 ⟨g, c, rfl, hown, hbel⟩; dsimp only; have r1 : w1.cell? ⟨p, 1, none⟩ = some (.slice none 0 0) := (hbel.cell (p := ⟨p, 1, none⟩) hlp).trans c1; have r1b : ∀ o, (w1.alloc o).cell? ⟨p, 1, none⟩ = some (.slice none 0 0) := fun o => (World.cell?_of_block (a := ⟨p, 1, none⟩) (heap_alloc_old _ _ (Nat.lt_of_lt_of_le hlp hbel.size))).trans r1))
      all_goals
        obtain ⟨S2, hR2, hT2⟩ := (unhide HFIN) g c w1 g2 c2 w2 _ hown hbel hown2 hgrow2 hat2
        have HS2 := hide ((unhide HST) _ S2 _ _ _ hR2)
        have HT2 := hide hT2
        clear hR2 hT2 hown hbel hown2 hgrow2 hat2
        go_wp2_with fail
        refine (unhide HS2).mono ?_
        rintro e w3 ⟨rfl, ⟨left3, h3⟩, ht3⟩
        by_cases h0 : D.left = 0
        · rw [decide_eq_false (fun h => h h0)]
          have HE9 := hide (show E = 9 by rw [← unhide HE, if_pos h0])
          clear h0
          go_wp2
          go_ret
          exact ⟨by rw [unhide HE9]; rfl, S2, ⟨_, _, _, h3⟩, (unhide HT2).trans ht3⟩
        · rw [decide_eq_true h0]
          have HE9 := hide (show E = 0 by rw [← unhide HE, if_neg h0])
          clear h0
          go_wp2
          go_ret
          exact ⟨by rw [unhide HE9]; rfl, S2, ⟨_, _, _, h3⟩, (unhide HT2).trans ht3⟩
  · unfold maxLen at hl2
    have HL4 := hide hl4
    clear hl4
    go_enter Tryd.func9, Tryd.ntmps9
    go_wp2_with fail
    go_loop [7, 8] (fun f jv => ∃ k : Nat, k ≤ D.mem.length ∧ f = .bool false ∧ jv = .int .i64 k) (fun _ jv => D.mem.length - (intOf jv).toNat)
    case atStart => exact ⟨0, by omega, rfl, rfl⟩
    case round =>
      obtain ⟨k, hk, rfl, rfl⟩ := hrel
      have f0 : (0 : Int) ≤ (k : Int) := by omega
      by_cases hlt : k < D.mem.length
      · have f1 : (k : Int) < (D.mem.length : Int) := by omega
        obtain ⟨q0, vb, q1, _⟩ := (unhide HL4) k hlt
        have hne : (D.mem.getD k (0, [])).1 ≠ i := fun e => (unhide HKN) (e ▸ key_mem hlt)
        obtain ⟨ky, bd, hkb⟩ : ∃ ky bd, D.mem.getD k (0, []) = (ky, bd) := ⟨_, _, rfl⟩
        simp only [hkb] at q0 hne
        have hne' : ¬ (ky : Int) = (i : Int) := by omega
        clear hkb hne
        go_wp2
        go_round
        case rel => exact ⟨k + 1, by omega, rfl, by go_num⟩
        case measure => simp [intOf]; omega
      · obtain rfl : k = D.mem.length := by omega
        go_wp2_with fail
        go_region_law (first
          | (refine step_append_lies _ (by rfl) (.tmp 62) (.tmp 67) 46 (by rfl) 0 50 i0 _ 2 32 Tryd.underlying46 hi0 hz0 hz1 hz2 (by rfl) (by decide) _ _ _ (by rfl) ((unhide HOF) w1 _ hbel) ⟨w1.heap.size, 0, none⟩ 1 1 [.int .i64 (i : Int), .slice (some ⟨g, 0, none⟩) 32 c] (by rfl) (by rfl) (news_line w1 _ _ _) (one_line _ _ _ _) (by decide) (by unfold maxLen; omega) (by omega) (Nat.zero_le _) (w1.heap.size + 1) (by simp) ?_; intro g2 c2 w2 hown2 hgrow2 hat2 hlt2; have s1 : w2.cell? ⟨p, 1, none⟩ = some (.slice (some ⟨gl, 0, none⟩) D.mem.length lc) := hgrow2.cell (a := ⟨p, 1, none⟩) ((World.cell?_of_block (a := ⟨p, 1, none⟩) (heap_alloc_old _ _ (by have := hbel.size; exact Nat.lt_of_lt_of_le hlp this))).trans r1) (fun e => hnlv e.symm); have s2 : w2.frozen? ⟨p, 1, none⟩ = false := by (rw [World.frozen?_of_block (a := ⟨p, 1, none⟩) ((hgrow2.block p (by have := hbel.size; simp; exact Nat.lt_succ_of_lt (Nat.lt_of_lt_of_le hlp this)) (fun e => hnlv e.symm)).trans ((heap_alloc_old _ _ (Nat.lt_of_lt_of_le hlp hbel.size)).trans (hbel.block p hlp)))]; exact hf1))
          | (go_simp; refine (unhide HCP).mono ?_; rintro e w1 ⟨g, c, rfl, hown, hbel⟩; dsimp only; have r1 : w1.cell? ⟨p, 1, none⟩ = some (.slice (some ⟨gl, 0, none⟩) D.mem.length lc) := (hbel.cell (p := ⟨p, 1, none⟩) hlp).trans c1; have r1b : ∀ o, (w1.alloc o).cell? ⟨p, 1, none⟩ = some (.slice (some ⟨gl, 0, none⟩) D.mem.length lc) := fun o => (World.cell?_of_block (a := ⟨p, 1, none⟩) (heap_alloc_old _ _ (Nat.lt_of_lt_of_le hlp hbel.size))).trans r1))
        all_goals
          obtain ⟨S2, hR2, hT2⟩ := (unhide HFIN) g c w1 g2 c2 w2 _ hown hbel hown2 hgrow2 hat2
          have HS2 := hide ((unhide HST) _ S2 _ _ _ hR2)
          have HT2 := hide hT2
          clear hR2 hT2 hown hbel hown2 hgrow2 hat2
          go_wp2_with fail
          refine (unhide HS2).mono ?_
          rintro e w3 ⟨rfl, ⟨left3, h3⟩, ht3⟩
          by_cases h0 : D.left = 0
          · rw [decide_eq_false (fun h => h h0)]
            have HE9 := hide (show E = 9 by rw [← unhide HE, if_pos h0])
            clear h0
            go_wp2
            go_ret
            exact ⟨by rw [unhide HE9]; rfl, S2, ⟨_, _, _, h3⟩, (unhide HT2).trans ht3⟩
          · rw [decide_eq_true h0]
            have HE9 := hide (show E = 0 by rw [← unhide HE, if_neg h0])
            clear h0
            go_wp2
            go_ret
            exact ⟨by rw [unhide HE9]; rfl, S2, ⟨_, _, _, h3⟩, (unhide HT2).trans ht3⟩

theorem rwrite_fail (i : Int) (a : Option Addr) (cap len : Nat) (hll : len ≤ 140737488351232) (h : Ref w p S D) (hpos : 0 < D.secs.length) (hc : i < 0 ∨ (D.secs.length : Int) ≤ i ∨ len ≠ 32 ∨ D.down = true) :
    Calls Tryd.prog 9 #[.pointer (some ⟨p, 0, none⟩), .int .i64 i, .slice a len cap] w fun e w' => e = .returned (.int .i64 (if i < 0 ∨ (D.secs.length : Int) ≤ i then 1 else if len ≠ 32 then 3 else 9)) ∧ w = w' := by
  obtain ⟨sv, lv, left, h⟩ := h
  have c0 := h.c0
  have c3 := h.c3
  have hlen := h.ok.len
  obtain ⟨gs, scap, rfl, _, hs2, _, _⟩ := h.sv_form hpos
  unfold maxLen at hs2
  clear h
  by_cases h1 : i < 0
  · rw [if_pos (.inl h1)]
    clear hc
    go_enter Tryd.func9, Tryd.ntmps9
    go_wp2
    go_ret
    exact ⟨rfl, rfl⟩
  · by_cases h2 : (D.secs.length : Int) ≤ i
    · rw [if_pos (.inr h2)]
      clear hc
      go_enter Tryd.func9, Tryd.ntmps9
      go_wp2
      go_ret
      exact ⟨rfl, rfl⟩
    · rw [if_neg (by omega)]
      by_cases h3 : len ≠ 32
      · rw [if_pos h3]
        have h3' : ¬ (len : Int) = 32 := by omega
        clear hc h3
        go_enter Tryd.func9, Tryd.ntmps9
        go_wp2
        go_ret
        exact ⟨rfl, rfl⟩
      · rw [if_neg h3]
        have h3' : len = 32 := Classical.byContradiction h3
        subst h3'
        have h4 : D.down = true := by
          rcases hc with h | h | h | h
          · exact absurd h h1
          · exact absurd h h2
          · exact absurd h h3
          · exact h
        rw [h4] at c3
        clear hc h3 h4
        go_enter Tryd.func9, Tryd.ntmps9
        go_wp2
        go_ret
        exact ⟨rfl, rfl⟩

theorem rwrite_any (i : Int) (a : Option Addr) (cap : Nat) (l : List Int) (h : Ref w p S D) (hpos : 0 < D.secs.length) (hb : Bs w a cap l) :
    Calls Tryd.prog 9 #[.pointer (some ⟨p, 0, none⟩), .int .i64 i, .slice a l.length cap] w fun e w' => e = .returned (.int .i64 (D.writeE i l)) ∧ (∃ S', Ref w' p S' (D.write i l) ∧ Turn S S' w w') := by
  by_cases hc : i < 0 ∨ (D.secs.length : Int) ≤ i ∨ l.length ≠ 32 ∨ D.down = true
  · have hw : D.write i l = D := by unfold DS.write; rw [if_pos hc]
    have he : D.writeE i l = (if i < 0 ∨ (D.secs.length : Int) ≤ i then 1 else if l.length ≠ 32 then 3 else 9) := by
      unfold DS.writeE
      by_cases h1 : i < 0 ∨ (D.secs.length : Int) ≤ i
      · rw [if_pos h1, if_pos h1]
      · rw [if_neg h1, if_neg h1]
        by_cases h2 : l.length ≠ 32
        · rw [if_pos h2, if_pos h2]
        · rw [if_neg h2, if_neg h2, if_pos (by
            rcases hc with h | h | h | h
            · exact absurd (.inl h) h1
            · exact absurd (.inr h) h1
            · exact absurd h h2
            · exact h)]
    rw [hw, he]
    exact (rwrite_fail i a cap l.length hb.2.2.1 h hpos hc).mono fun e w' ⟨h1, h2⟩ => ⟨h1, S, h2 ▸ h, h2 ▸ Turn.refl _ _⟩
  · obtain ⟨k, rfl⟩ : ∃ k : Nat, i = k := ⟨i.toNat, by
      rcases Int.lt_or_le i 0 with h1 | h1
      · exact absurd (.inl h1) hc
      · omega⟩
    have hk : k < D.secs.length := by
      rcases Nat.lt_or_ge k D.secs.length with h1 | h1
      · exact h1
      · exact absurd (.inr (.inl (by omega))) hc
    have hl : l.length = 32 := Classical.byContradiction fun h1 => hc (.inr (.inr (.inl h1)))
    have hd : D.down = false := by
      cases e : D.down with
      | false => rfl
      | true => exact absurd (.inr (.inr (.inr e))) hc
    have hw : D.write k l = (D.put k l).step := by unfold DS.write; rw [if_neg hc]; rfl
    have he : D.writeE k l = (if D.left = 0 then 9 else 0) := by
      unfold DS.writeE
      rw [if_neg (by omega), if_neg (fun h1 => h1 hl), if_neg (by rw [hd]; exact Bool.false_ne_true)]
    rw [hw, he, hl]
    obtain ⟨sv, lv, left, h⟩ := h
    cases hc2 : D.mem.lookup k with
    | none => exact rwrite_new k a cap l h hk hd hb hl hc2
    | some c =>
      obtain ⟨q, hq, hq2⟩ := List.getElem_of_mem (lookup_mem hc2)
      exact rwrite_old k a cap l h hk hd hb hl q hq (by simp [List.getD, hq, hq2])
end
end Go.Proofs.YtnpdejlbknjhnaaDoor
