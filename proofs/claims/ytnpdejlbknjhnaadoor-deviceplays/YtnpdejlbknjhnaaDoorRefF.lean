/-
  Contracts of the reference's device: NewDevice. (Part of the proof of DevicePlays.)
-/
import Derived.Test.YtnpdejlbknjhnaaDoorRefE
namespace Go.Proofs.YtnpdejlbknjhnaaDoor
open Go.RowKit
set_option linter.unusedVariables false

section
variable {w : World} {p : Nat} {S : Nat → Prop} {D : DS}

/-- One sector more. -/
theorem RefAt.addSec {sv lv v : Value} {left : Int} {w1 w2 : World} {o : Obj} {g c : Nat} {l : List Int} (h : RefAt w p sv lv left S D) (hok : DS.Ok { D with secs := D.secs ++ [l] }) (hgw : w.heap.size ≤ g) (hgl : g < w1.heap.size) (hv1 : SecV w1 (fun k => k = g) (.slice (some ⟨g, 0, none⟩) 32 c) l) (hb : Below w.heap.size w w1)
    (cs : List Value) (hsec : secCells w S cs D.secs) (hcl : cs.length = D.secs.length) (hown : w2.ownsRow 0 35 1 v (D.secs.length + 1) (cs ++ [.slice (some ⟨g, 0, none⟩) 32 c])) (hgrow : (w1.alloc o).grownBy w2 sv.ownBlock) (hat : v.ownBlock = sv.ownBlock ∨ v.ownBlock = some (w1.heap.size + 1)) :
    RefAt (w2.setCell ⟨p, 0, none⟩ v) p v lv left (fun k => S k ∨ k = g ∨ v.ownBlock = some k) { D with secs := D.secs ++ [l] } ∧ Turn S (fun k => S k ∨ k = g ∨ v.ownBlock = some k) w (w2.setCell ⟨p, 0, none⟩ v) := by
  have hz2 := hgrow.size
  simp only [size_alloc] at hz2
  have hblk : ∀ k, S k → sv.ownBlock ≠ some k → w2.heap[k]? = w.heap[k]? := fun k hk hne =>
    (hgrow.block k (by have := h.lt k hk; have := hb.size; simp; omega) (fun e => hne e.symm)).trans ((heap_alloc_old _ _ (by have := h.lt k hk; have := hb.size; omega)).trans (hb.block k (h.lt k hk)))
  have hg2 : w2.heap[g]? = w1.heap[g]? := by
    refine (hgrow.block g (by simp; omega) (fun e => ?_)).trans (heap_alloc_old _ _ hgl)
    have := h.lt g (h.ins g e.symm)
    omega
  have hstr2 : w2.heap[p]? = _ := (hblk p h.inp h.nsv).trans h.str
  have hset : ∀ k, k ≠ p → (w2.setCell ⟨p, 0, none⟩ v).heap[k]? = w2.heap[k]? := fun k hk => heap_setCell_other _ _ _ _ hk
  have hvp : v.ownBlock ≠ some p := by
    intro e
    rcases hat with h1 | h1
    · exact h.nsv (by rw [← h1]; exact e)
    · rw [h1] at e; have := Option.some.inj e; have := h.lt p h.inp; have := hb.size; omega
  have hlb : ∀ u b, SecV w S u b → SecV (w2.setCell ⟨p, 0, none⟩ v) (fun k => S k ∨ k = g ∨ v.ownBlock = some k) u b := by
    intro u b hu
    obtain ⟨g1, c1, rfl, k1, ⟨cur, k2⟩, k3⟩ := hu
    have hn1 : sv.ownBlock ≠ some g1 := by
      intro e
      obtain ⟨cs2, q1, _⟩ := h.sec
      obtain ⟨cur2, q2⟩ := ownsRow_block q1 e
      rw [k2] at q2
      simp at q2
    have hn2 : g1 ≠ p := by
      intro e; subst e
      rw [h.str] at k2
      simp at k2
    have e1 : (w2.setCell ⟨p, 0, none⟩ v).heap[g1]? = w.heap[g1]? := (hset g1 hn2).trans (hblk g1 k1 hn1)
    refine ⟨g1, c1, rfl, .inl k1, ⟨cur, e1.trans k2⟩, k3.1, k3.2.1, k3.2.2.1, k3.2.2.2.1, fun hne => ?_⟩
    obtain ⟨b', off, e, hc⟩ := k3.2.2.2.2 hne
    obtain ⟨rfl, rfl⟩ : g1 = b' ∧ 0 = off := by simpa using e
    exact ⟨g1, 0, rfl, fun j hj => (World.cell?_of_block (a := ⟨g1, 0 + j, none⟩) e1).trans (hc j hj)⟩
  have hnew : SecV (w2.setCell ⟨p, 0, none⟩ v) (fun k => S k ∨ k = g ∨ v.ownBlock = some k) (.slice (some ⟨g, 0, none⟩) 32 c) l := by
    have hgp : g ≠ p := by have := h.lt p h.inp; omega
    exact hv1.same (fun k hk => by subst hk; exact (hset k hgp).trans hg2) (fun k hk => .inr (.inl hk))
  refine ⟨⟨hok, by rw [heap_setCell_same _ _ _ _ _ _ hstr2]; simp, ?_, ?_, .inl h.inp, fun k hk => .inr (.inr hk), fun k hk => .inl (h.inl k hk), ?_, h.lf, h.lb⟩, ?_⟩
  · show ∃ cs, (w2.setCell ⟨p, 0, none⟩ v).ownsRow 0 35 1 v (D.secs ++ [l]).length cs ∧ secCells _ _ cs (D.secs ++ [l])
    rw [List.length_append]
    refine ⟨_, ownsRow_same hown (fun k hk2 => hset k (fun e => hvp (by rw [hk2, e]))), fun j hj => ?_⟩
    simp at hj
    by_cases e : j < D.secs.length
    · obtain ⟨u, q2, q3⟩ := hsec j e
      have e1 : (D.secs ++ [l]).getD j [] = D.secs.getD j [] := by simp [List.getD, List.getElem?_append_left e]
      rw [e1]
      exact ⟨u, by rw [List.getElem?_append_left (by omega)]; exact q2, hlb u _ q3⟩
    · obtain rfl : j = D.secs.length := by omega
      have e1 : (D.secs ++ [l]).getD D.secs.length [] = l := by simp [List.getD]
      rw [e1]
      exact ⟨.slice (some ⟨g, 0, none⟩) 32 c, by rw [List.getElem?_append_right (by omega)]; simp [hcl], hnew⟩
  · obtain ⟨cs2, q1, q2⟩ := h.lin
    refine ⟨cs2, ownsRow_same q1 (fun k hk => (hset k (fun e => h.nlv (by rw [hk, e]))).trans (hblk k (h.inl k hk) (fun e => ?_))), fun j hj => ?_⟩
    · obtain ⟨cs3, q3, _⟩ := h.sec
      obtain ⟨cur3, q4⟩ := ownsRow_block q3 e
      obtain ⟨cur4, q5⟩ := ownsRow_block q1 hk
      rw [q4] at q5
      simp at q5
    · obtain ⟨q5, u, q3, q4⟩ := q2 j hj
      exact ⟨q5, u, q3, hlb u _ q4⟩
  · intro k hk2
    show k < (w2.setCell ⟨p, 0, none⟩ v).heap.size
    have hzz : (w2.setCell ⟨p, 0, none⟩ v).heap.size = w2.heap.size := by simp
    rw [hzz]
    rcases hk2 with h1 | h1 | h1
    · have := h.lt k h1; have := hb.size; omega
    · omega
    · exact (hown.lt k h1).2
  · refine ⟨hgrow.os.trans hb.os, hgrow.tape.trans hb.tape, hgrow.output.trans hb.output, by have := hb.size; simp; omega, fun k hk2 hn => ?_, fun k hk2 hs => ?_⟩
    · have hkp : k ≠ p := fun e => hn (e ▸ h.inp)
      refine (hset k hkp).trans ((hgrow.block k (by have := hb.size; simp; omega) (fun e => hn (h.ins k e.symm))).trans ((heap_alloc_old _ _ (by have := hb.size; omega)).trans (hb.block k hk2)))
    · rcases hs with h1 | h1 | h1
      · exact h1
      · omega
      · rcases hat with h2 | h2
        · exact h.ins k (by rw [← h2]; exact h1)
        · rw [h2] at h1; have := Option.some.inj h1; have := hb.size; omega
end

theorem info_bytes' : (Tryd.prog.info? 35).map (fun i => (i.zero, i.size, i.bytes)) = some (some (.slice none 0 0), 1, 24) := by kernel_rfl

/-- make([]byte, 32). -/
theorem run_make32 (w : World) : (Instr.makeSlice 35 (.int .i64 32) (.int .i64 32)).run Tryd.prog w = .ok (.slice (some ⟨w.heap.size, 0, none⟩) 32 32) (w.alloc (.cells (cellsB (zerosB 32)) 5)) := by
  obtain ⟨i0, hi0, hz0, hz1, hz2⟩ := info_parts info_u8
  have h := run_make (P := Tryd.prog) w 35 5 i0 _ Tryd.underlying35 hi0 hz0 .i64 .i64 32 32 (by decide) (by decide) (by rw [hz2]; decide) (by decide)
  rw [hz1] at h
  simp only [show Int.toNat 32 = 32 from rfl] at h
  have e : madeCells (Value.int .u8 0).cells (32 * 1) = cellsB (zerosB 32) := by
    have := made_zeros 32
    unfold cellsB
    rw [← this, Array.toArray_toList]
  rw [e] at h
  exact h

theorem ok_zsecs (k : Nat) (hk : k ≤ 300) : (ds0 (zsecs k) (-1)).Ok := DS.ok_new k hk
theorem zsecs_succ (k : Nat) : zsecs (k + 1) = zsecs k ++ [zerosB 32] := by unfold zsecs zerosB; rw [List.replicate_succ']

set_option maxRecDepth 100000 in
set_option maxHeartbeats 2000000 in
theorem rnew_any (n : Nat) (w : World) (hn : n ≤ 300) :
    Calls Tryd.prog 7 #[.int .i64 n] w fun e w' => ∃ p S, e = .returned (.pointer (some ⟨p, 0, none⟩)) ∧ Ref w' p S (ds0 (zsecs n) (-1)) ∧ (∀ k, S k → w.heap.size ≤ k) ∧ Below w.heap.size w w' := by
  have hmk := run_make32
  obtain ⟨i0, hi0, hz0, hz1, hz2⟩ := info_parts info_bytes'
  go_enter Tryd.func7, Tryd.ntmps7
  go_wp2_with fail
  go_loopw [4] (fun v wr => ∃ (k : Nat) (S : Nat → Prop) (sv : Value), k ≤ n ∧ v = .int .i64 k ∧ RefAt wr w.heap.size sv (.slice none 0 0) (-1) S (ds0 (zsecs k) (-1)) ∧ (∀ j, S j → w.heap.size ≤ j) ∧ Below w.heap.size w wr) (fun v _ => n - (intOf v).toNat)
  case atStart =>
    refine ⟨0, fun k => k = w.heap.size, .slice none 0 0, by omega, rfl, ⟨ok_zsecs 0 (by decide), heap_alloc_new _ _, ⟨[], World.ownsRow_nil _ _ _ _, fun i hi => absurd hi (Nat.not_lt_zero i)⟩, ⟨[], World.ownsRow_nil _ _ _ _, fun i hi => absurd hi (Nat.not_lt_zero i)⟩, rfl, fun g hg => (by cases hg), fun g hg => (by cases hg), fun k hk => (by subst hk; simp), .inr rfl, by decide⟩, fun j hj => (by omega), (Below.refl _ _).alloc (Nat.le_refl _) _⟩
  case round =>
    obtain ⟨k, S, sv, hk, rfl, hr, hS, hbel⟩ := hrel
    by_cases hlt : k < n
    · have c0 := hr.c0
      have f0 := hr.fr 0
      have hlp := hr.lt _ hr.inp
      obtain ⟨cs, hcs1, hcs2⟩ := hr.sec
      have hl0 : (ds0 (zsecs k) (-1)).secs.length = k := length_zsecs k
      rw [hl0] at hcs1
      have hcl : cs.length = k := by have := hcs1.1; omega
      have hnsv := hr.nsv
      have hown1 : ((World.drew wr).alloc (.cells (cellsB (zerosB 32)) 5)).ownsRow 0 35 1 sv k cs := (World.ownsRow.drew hcs1).alloc _
      have hfin : ∀ g2 c2 w2 o, w2.ownsRow 0 35 1 (.slice (some ⟨g2, 0, none⟩) (k + 1) c2) (k + 1) (cs ++ [.slice (some ⟨wr.heap.size, 0, none⟩) 32 32]) → (((World.drew wr).alloc (.cells (cellsB (zerosB 32)) 5)).alloc o).grownBy w2 sv.ownBlock → (sv.ownBlock = some g2 ∨ g2 = wr.heap.size + 1 + 1) →
          ∃ S', RefAt (w2.setCell ⟨w.heap.size, 0, none⟩ (.slice (some ⟨g2, 0, none⟩) (k + 1) c2)) w.heap.size (.slice (some ⟨g2, 0, none⟩) (k + 1) c2) (.slice none 0 0) (-1) S' (ds0 (zsecs (k + 1)) (-1)) ∧ Turn S S' wr (w2.setCell ⟨w.heap.size, 0, none⟩ (.slice (some ⟨g2, 0, none⟩) (k + 1) c2)) := by
        intro g2 c2 w2 o h2 h3 h4
        have hb1 : Below wr.heap.size wr ((World.drew wr).alloc (.cells (cellsB (zerosB 32)) 5)) := (Below.mk rfl rfl rfl (Nat.le_refl _) (fun _ _ => rfl) : Below wr.heap.size wr wr.drew).alloc (Nat.le_refl _) _
        have hnewrow : Blk ((World.drew wr).alloc (.cells (cellsB (zerosB 32)) 5)) wr.heap.size (zerosB 32) := heap_alloc_new (World.drew wr) _
        have hbs := hnewrow.bs (byt_zerosB 32) (by rw [length_zerosB]; decide)
        rw [length_zerosB] at hbs
        have hv1 : SecV ((World.drew wr).alloc (.cells (cellsB (zerosB 32)) 5)) (fun k => k = wr.heap.size) (.slice (some ⟨wr.heap.size, 0, none⟩) 32 32) (zerosB 32) := ⟨_, _, rfl, rfl, ⟨_, hnewrow⟩, hbs⟩
        have e := zsecs_succ k
        have hok2 : DS.Ok { ds0 (zsecs k) (-1) with secs := (ds0 (zsecs k) (-1)).secs ++ [zerosB 32] } := by
          show (DS.mk (zsecs k ++ [zerosB 32]) [] (-1) false).Ok
          rw [← e]; exact ok_zsecs (k + 1) (by omega)
        have := hr.addSec (l := zerosB 32) hok2 (Nat.le_refl _) (by simp) hv1 hb1 cs hcs2 (by rw [hcl, hl0]) (by rw [hl0]; exact h2) h3 (by
          rcases h4 with h5 | h5
          · exact .inl h5.symm
          · exact .inr (by rw [h5]; simp [Value.ownBlock]))
        refine ⟨_, ?_, this.2⟩
        have h9 := this.1
        rw [show ({ ds0 (zsecs k) (-1) with secs := (ds0 (zsecs k) (-1)).secs ++ [zerosB 32] } : DS) = ds0 (zsecs (k + 1)) (-1) from by rw [e]; rfl] at h9
        exact h9
      have HFIN := hide hfin
      have HOWN := hide hown1
      have HSS := hide hS
      have HBEL := hide hbel
      have hf0' : wr.frozen? ⟨w.heap.size, 0, none⟩ = false := f0
      clear hr hfin hown1 hcs1 hcs2 hl0 hS hbel
      go_wp2_with fail
      have c0b : ∀ o, (wr.alloc o).cell? ⟨w.heap.size, 0, none⟩ = some sv := fun o => (World.cell?_of_block (a := ⟨w.heap.size, 0, none⟩) (heap_alloc_old _ _ hlp)).trans c0
      have c0c : ∀ o o', ((wr.alloc o).alloc o').cell? ⟨w.heap.size, 0, none⟩ = some sv := fun o o' => (World.cell?_of_block (a := ⟨w.heap.size, 0, none⟩) (heap_alloc_old _ _ (by simp; omega))).trans (c0b o)
      go_region_law (refine step_append_lies _ (by rfl) (.tmp 16) (.tmp 18) 23 (by rfl) 0 35 i0 _ 1 24 Tryd.underlying23 hi0 hz0 hz1 hz2 (by rfl) (by decide) _ _ _ (by rfl) ((unhide HOWN).alloc _) ⟨wr.heap.size + 1, 0, none⟩ 1 1 [.slice (some ⟨wr.heap.size, 0, none⟩) 32 32] (by rfl) (by rfl) (cell_one_new' wr _ _ _) (fun u hu => by simp at hu; subst hu; rfl) (by decide) (by unfold maxLen; omega) (by omega) (Nat.zero_le _) (wr.heap.size + 1 + 1) (by simp) ?_; intro g2 c2 w2 hown2 hgrow2 hat2 hlt2; have b1 := (hgrow2.block w.heap.size (by simp; omega) (fun e => hnsv e.symm)).trans ((heap_alloc_old _ _ (by simp; omega)).trans (heap_alloc_old _ _ hlp)); have s1 : w2.cell? ⟨w.heap.size, 0, none⟩ = some sv := (World.cell?_of_block (a := ⟨w.heap.size, 0, none⟩) b1).trans c0; have s2 : w2.frozen? ⟨w.heap.size, 0, none⟩ = false := (World.frozen?_of_block (a := ⟨w.heap.size, 0, none⟩) b1).trans f0; clear b1)
      all_goals
        obtain ⟨S2, hR2, hT2⟩ := (unhide HFIN) g2 c2 w2 (.cells #[.slice (some ⟨wr.heap.size, 0, none⟩) 32 32] 35) hown2 hgrow2 hat2
        have HR2 := hide hR2
        have HT2 := hide hT2
        clear hR2 hT2 hown2 hgrow2 hat2
        go_wp2
        go_roundw
        case rel => exact ⟨k + 1, S2, _, by omega, by go_num, unhide HR2, fun j hj => by
            rcases Nat.lt_or_ge j wr.heap.size with h1 | h1
            · exact (unhide HSS) j ((unhide HT2).foot j h1 hj)
            · exact Nat.le_trans (unhide HBEL).size h1, (unhide HBEL).trans ((unhide HT2).below (unhide HSS) (unhide HBEL).size)⟩
        case measure => simp [intOf]; omega
    · obtain rfl : k = n := by omega
      have HR := hide hr
      clear hr
      go_wp2
      go_ret
      exact ⟨_, S, rfl, ⟨_, _, _, unhide HR⟩, hS, hbel⟩
end Go.Proofs.YtnpdejlbknjhnaaDoor
