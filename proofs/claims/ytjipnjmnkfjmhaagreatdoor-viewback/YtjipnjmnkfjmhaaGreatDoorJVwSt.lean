/-
  How a View, and two lists of bytes beside it, stand while it is written to, committed and aborted. (Part of the proof of ViewBack.)
-/
import Derived.Test.YtjipnjmnkfjmhaaGreatDoorJVwCn
import Derived.Test.YtjipnjmnkfjmhaaGreatDoorJTell
namespace Go.Proofs.YtjipnjmnkfjmhaaGreatDoor
open Go.RowKit
set_option linter.unusedVariables false

/-- Block g is a row of bytes of capacity cap, of which the first are l. -/
def RwAt (w : World) (g cap : Nat) (l : List Int) : Prop := ∃ cur : Array Value, w.heap[g]? = some (.cells cur 5 (0, 0)) ∧ cur.size = cap ∧ l.length ≤ cap ∧ cur.toList.take l.length = l.map (Value.int .u8)
section
variable {w w' : World} {g cap : Nat} {l : List Int}
theorem RwAt.lt (h : RwAt w g cap l) : g < w.heap.size := by
  obtain ⟨cur, h1, _⟩ := h
  exact (Array.getElem?_eq_some_iff.1 h1).1
theorem RwAt.same (h : RwAt w g cap l) (e : w'.heap[g]? = w.heap[g]?) : RwAt w' g cap l := by
  obtain ⟨cur, h1, h2⟩ := h
  exact ⟨cur, e.trans h1, h2⟩
theorem RwAt.cell (h : RwAt w g cap l) (i : Nat) (hi : i < l.length) : w.cell? ⟨g, i, none⟩ = some (.int .u8 (l.getD i 0)) := by
  obtain ⟨cur, h1, h2, h3, h4⟩ := h
  rw [cell_of_row _ _ _ _ _ _ h1]
  have e : (cur.toList.take l.length)[i]? = some (.int .u8 (l.getD i 0)) := by
    rw [h4, List.getElem?_map, List.getElem?_eq_getElem hi, List.getD_eq_getElem?_getD, List.getElem?_eq_getElem hi]
    rfl
  rw [List.getElem?_take, if_pos hi] at e
  simpa using e
theorem RwAt.fr (h : RwAt w g cap l) (i : Nat) : w.frozen? ⟨g, i, none⟩ = false := by
  obtain ⟨cur, h1, _⟩ := h
  exact frozen_of_row _ _ _ _ _ h1
theorem RwAt.bs (h : RwAt w g cap l) (hb : Byt l) (hl : l.length ≤ 140737488351232) : Bs w (some ⟨g, 0, none⟩) cap l := by
  have h3 : l.length ≤ cap := by obtain ⟨cur, _, _, h3, _⟩ := h; exact h3
  refine ⟨hb, h3, hl, fun e => (by cases e), fun _ => ⟨g, 0, rfl, fun i hi => ?_⟩⟩
  rw [Nat.zero_add]
  exact h.cell i hi
theorem RwAt.set (h : RwAt w g cap l) (i : Nat) (b : Int) (hi : i < l.length) : RwAt (w.setCell ⟨g, i, none⟩ (.int .u8 b)) g cap (l.set i b) := by
  obtain ⟨cur, h1, h2, h3, h4⟩ := h
  refine ⟨_, heap_setCell_same _ _ _ _ _ _ h1, by simp [h2], by rw [List.length_set]; exact h3, ?_⟩
  rw [List.length_set, List.map_set, ← h4]
  simp [List.take_set]
theorem RwAt.blk (h : Blk w g l) : RwAt w g l.length l := by
  have h' : w.heap[g]? = some (.cells (l.map (Value.int .u8)).toArray 5 (0, 0)) := h
  exact ⟨_, h', by simp, Nat.le_refl _, by simp; exact List.take_of_length_le (by simp)⟩
theorem RwAt.own {B n : Nat} {v : Value} (h : w.ownsRow B 5 1 v n (l.map (Value.int .u8))) (hn : n = l.length) (h0 : 0 < n) : ∃ g cap, v = .slice (some ⟨g, 0, none⟩) l.length cap ∧ B ≤ g ∧ RwAt w g cap l := by
  subst hn
  rcases h.2 with ⟨_, h1⟩ | ⟨g, cap, cur, rfl, hB, h1, h2, _, h4, h5⟩
  · omega
  · rw [Nat.mul_one] at h4 h5
    exact ⟨g, cap, rfl, hB, cur, h1, h4, h2, h5⟩
end
theorem splice_set {z b : List Int} {x k : Nat} (hx : x + b.length ≤ z.length) (hk : k < b.length) : (splice z x (b.take k)).set (x + k) (b.getD k 0) = splice z x (b.take (k + 1)) := by
  have l1 : (b.take k).length = k := by simp; omega
  have l2 : (b.take (k + 1)).length = k + 1 := by simp; omega
  apply List.ext_getElem?
  intro j
  have e1 := length_splice' (z := z) (l := b.take k) (off := x) (by omega)
  have e2 := length_splice' (z := z) (l := b.take (k + 1)) (off := x) (by omega)
  by_cases hj : j < z.length
  · have g1 := getD_splice (z := z) (l := b.take k) (off := x) (by omega) j
    have g2 := getD_splice (z := z) (l := b.take (k + 1)) (off := x) (by omega) j
    rw [l1] at g1
    rw [l2] at g2
    rw [List.getD_eq_getElem?_getD, List.getElem?_eq_getElem (by omega), Option.getD_some] at g1 g2
    rw [List.getElem?_eq_getElem (by rw [List.length_set]; omega), List.getElem?_eq_getElem (by omega), List.getElem_set, g1, g2]
    by_cases e : x + k = j
    · rw [if_pos e, if_pos (by omega)]
      simp only [List.getD_eq_getElem?_getD, List.getElem?_take]
      rw [if_pos (by omega), show j - x = k by omega]
    · rw [if_neg e]
      by_cases h2 : x ≤ j ∧ j < x + k
      · rw [if_pos h2, if_pos (by omega)]
        simp only [List.getD_eq_getElem?_getD, List.getElem?_take]
        rw [if_pos (by omega), if_pos (by omega)]
      · rw [if_neg h2, if_neg (by omega)]
  · rw [List.getElem?_eq_none (by rw [List.length_set]; omega), List.getElem?_eq_none (by omega)]
theorem vBytes_getD (K : List (List Int)) (M : List (Nat × List Int)) (x n : Nat) {j : Nat} (hj : j < n) : (vBytes K M x n).getD j 0 = byteAt K M (x + j) := by
  unfold vBytes
  rw [List.getD_eq_getElem?_getD, List.getElem?_map, List.getElem?_range hj]
  rfl
/-- A list is overwritten as a View is written to. -/
theorem splice_wrote {K : List (List Int)} {M M' : List (Nat × List Int)} {x N : Nat} {b : List Int} (h : Wrote K M M' x b b.length) (hx : x + b.length ≤ N) : splice (vBytes K M 0 N) x b = vBytes K M' 0 N := by
  have hl : (vBytes K M 0 N).length = N := length_vBytes _ _ _ _
  apply List.ext_getElem?
  intro j
  have e1 := length_splice' (z := vBytes K M 0 N) (l := b) (off := x) (by omega)
  by_cases hj : j < N
  · have g1 := getD_splice (z := vBytes K M 0 N) (l := b) (off := x) (by omega) j
    have g2 := vBytes_getD K M' 0 N hj
    rw [vBytes_getD K M 0 N hj, Nat.zero_add] at g1
    rw [Nat.zero_add, h.byte] at g2
    rw [List.getD_eq_getElem?_getD, List.getElem?_eq_getElem (by omega), Option.getD_some] at g1
    rw [List.getD_eq_getElem?_getD, List.getElem?_eq_getElem (by rw [length_vBytes]; omega), Option.getD_some] at g2
    rw [List.getElem?_eq_getElem (by omega), List.getElem?_eq_getElem (by rw [length_vBytes]; omega), g1, g2]
  · rw [List.getElem?_eq_none (by omega), List.getElem?_eq_none (by rw [length_vBytes]; omega)]
/-- All bytes are the pages behind one another. -/
theorem vBytes_all {K : List (List Int)} {M : List (Nat × List Int)} (h : ∀ i, i < K.length → (vRd K M i).length = 32) : vBytes K M 0 (32 * K.length) = (nowK K M).flatten := by
  have hk : ∀ k, k ≤ K.length → vBytes K M 0 (32 * k) = ((List.range k).map (fun i => vRd K M i)).flatten := fun k => by
    induction k with
    | zero => intro _; rfl
    | succ k ih =>
      intro hk
      rw [Nat.mul_succ, vBytes_add, ih (by omega), List.range_succ, List.map_append, List.flatten_append, Nat.zero_add]
      congr 1
      have := vBytes_page (K := K) (M := M) (y := 32 * k) (c := 32) (by rw [show 32 * k / 32 = k by omega]; exact h k (by omega)) (by omega)
      rw [show 32 * k / 32 = k by omega, show 32 * k % 32 = 0 by omega, List.drop_zero, List.take_of_length_le (by rw [h k (by omega)]; exact Nat.le_refl _)] at this
      rw [← this]
      simp
  exact hk _ (Nat.le_refl _)
theorem nowK_nil {K : List (List Int)} : nowK K [] = K := by
  have : mixK K [] (fun _ => false) = nowK K [] := mixK_end (fun _ => rfl)
  rw [← this]
  exact mixK_start (fun i => rfl)
/-- Page k of all bytes. -/
theorem vBytes_part {K : List (List Int)} {M : List (Nat × List Int)} {k : Nat} (hk : k < K.length) (hl : (vRd K M k).length = 32) : ((vBytes K M 0 (32 * K.length)).drop (32 * k)).take 32 = vRd K M k := by
  have e : 32 * K.length = 32 * k + (32 * K.length - 32 * k) := by omega
  rw [e, vBytes_add, List.drop_left' (length_vBytes _ _ _ _), Nat.zero_add]
  have e2 : 32 * K.length - 32 * k = 32 + (32 * K.length - 32 * k - 32) := by omega
  rw [e2, vBytes_add, List.take_left' (length_vBytes _ _ _ _)]
  have := vBytes_page (K := K) (M := M) (y := 32 * k) (c := 32) (by rw [show 32 * k / 32 = k by omega]; exact hl) (by omega)
  rw [show 32 * k / 32 = k by omega, show 32 * k % 32 = 0 by omega, List.drop_zero, List.take_of_length_le (by rw [hl]; exact Nat.le_refl _)] at this
  exact this.symm
/-- No more are dirty than were told. -/
theorem wrote_len {K : List (List Int)} {M M' : List (Nat × List Int)} {x : Nat} {l : List Int} (h : Wrote K M M' x l l.length) (hnd : (M'.map (·.1)).Nodup) : M'.length ≤ M.length + nw M (x / 32) (spanP x l.length) := by
  rw [nw_filter]
  have := List.Nodup.length_le_of_subset hnd (l₂ := M.map (·.1) ++ (List.range' (x / 32) (spanP x l.length)).filter (fun p => !(M.lookup p).isSome)) (fun i hi => by
    rcases (h.key i).1 ((lookup_some_mem i).1 hi) with h1 | h1
    · exact List.mem_append.2 (.inl ((lookup_some_mem i).2 h1))
    · cases hs : (M.lookup i).isSome with
      | true => exact List.mem_append.2 (.inl ((lookup_some_mem i).2 hs))
      | false => exact List.mem_append.2 (.inr (List.mem_filter.2 ⟨List.mem_range'_1.2 h1, by rw [hs]; rfl⟩)))
  simpa using this

/-- The View with its pages and its device; now and kept beside them. -/
structure St (w0 w : World) (p q v gk gm : Nat) (S : Nat → Prop) (D : DS) (s : Int) (n : Nat) (K : List (List Int)) (M : List (Nat × List Int)) (gn cn gp cp : Nat) : Prop where
  vb : Vb w0 w p q v gk gm S D s n K M
  now : RwAt w gn cn (vBytes K M 0 (32 * K.length))
  kept : RwAt w gp cp K.flatten
  few : M.length ≤ 23
  nn : ¬ footV S q gk gm gn
  np : ¬ footV S q gk gm gp
  nvn : gn ≠ v
  apart : gn ≠ gp
  bn : w0.heap.size ≤ gn
  bp : w0.heap.size ≤ gp
section
variable {w0 w w' : World} {p q v gk gm : Nat} {S S' : Nat → Prop} {D D' : DS} {s s' : Int} {n : Nat} {K K' : List (List Int)} {M M' : List (Nat × List Int)} {gn cn gp cp : Nat}
theorem St.below (h : St w0 w p q v gk gm S D s n K M gn cn gp cp) (hb : Below w.heap.size w w') : St w0 w' p q v gk gm S D s n K M gn cn gp cp :=
  ⟨h.vb.below hb, h.now.same (hb.block gn h.now.lt), h.kept.same (hb.block gp h.kept.lt), h.few, h.nn, h.np, h.nvn, h.apart, h.bn, h.bp⟩
theorem St.drewN (h : St w0 w p q v gk gm S D s n K M gn cn gp cp) (m : Nat) : St w0 (w.drewN m) p q v gk gm S D s n K M gn cn gp cp := h.below (below_drewN (Below.refl _ _) m)
theorem St.rd32 (h : St w0 w p q v gk gm S D s n K M gn cn gp cp) : ∀ i, i < K.length → (vRd K M i).length = 32 := fun i hi => (h.vb.view.rdSec hi).1
theorem St.nowBs (h : St w0 w p q v gk gm S D s n K M gn cn gp cp) : Bs w (some ⟨gn, 0, none⟩) cn (vBytes K M 0 (32 * K.length)) :=
  h.now.bs (vBytes_byt h.vb.view 0 _ (by omega)) (by rw [length_vBytes]; have := h.vb.view.len; omega)
theorem St.keptLen (h : St w0 w p q v gk gm S D s n K M gn cn gp cp) : K.flatten.length = 32 * K.length := by rw [flat_len _ h.vb.view.secs32, Nat.mul_comm]
theorem St.keptBs (h : St w0 w p q v gk gm S D s n K M gn cn gp cp) : Bs w (some ⟨gp, 0, none⟩) cp K.flatten :=
  h.kept.bs (fun z hz => by obtain ⟨x, hx, hzx⟩ := List.mem_flatten.1 hz; exact (h.vb.view.sec x hx).2 z hzx) (by rw [h.keptLen]; have := h.vb.view.len; omega)
/-- A Write, in any place. -/
theorem St.write (h : St w0 w p q v gk gm S D s n K M gn cn gp cp) (x : Int) (hx : x ≤ 9223372036854775807) (a : Option Addr) (cap : Nat) (b : List Int) (hb : Bs w0 a cap b) :
    Calls Tryz.prog 11 #[.pointer (some ⟨v, 0, none⟩), .int .i64 x, .slice a b.length cap] w fun e w' => ∃ (E : Int) (M' : List (Nat × List Int)), e = .returned (errV E) ∧ Vb w0 w' p q v gk gm S D s n K M' ∧ M'.length ≤ 23 ∧ RwAt w' gn cn (vBytes K M 0 (32 * K.length)) ∧ RwAt w' gp cp K.flatten ∧
      ((E ≠ 0 ∧ M' = M) ∨ (E = 0 ∧ ∃ y : Nat, x = y ∧ y + b.length ≤ 32 * K.length ∧ Wrote K M M' y b b.length)) := by
  have hbw := hb.below h.vb.live.bel
  by_cases hx0 : 0 ≤ x ∧ x ≤ 281474976710656
  · obtain ⟨y, rfl⟩ : ∃ y : Nat, x = y := ⟨x.toNat, by omega⟩
    refine (vWrite_any h.vb.view y a cap b hbw (by omega)).mono ?_
    rintro e w' ⟨E, M', rfl, hv, ho, hc⟩
    have hvb : Vb w0 w' p q v gk gm S D s n K M' := h.vb.turnV (fun k e => .inr e) ho hv rfl (fun _ _ => rfl)
    have hn := h.now.same (ho.block gn h.now.lt (fun e => h.nn (.inr (.inr e))))
    have hk := h.kept.same (ho.block gp h.kept.lt (fun e => h.np (.inr (.inr e))))
    rcases hc with ⟨_, rfl, rfl⟩ | ⟨_, _, rfl, rfl⟩ | ⟨c1, c2, rfl, c4⟩
    · exact ⟨1, M', rfl, hvb, h.few, hn, hk, .inl ⟨by decide, rfl⟩⟩
    · exact ⟨4, M', rfl, hvb, h.few, hn, hk, .inl ⟨by decide, rfl⟩⟩
    · exact ⟨0, M', rfl, hvb, Nat.le_trans (wrote_len c4 hv.mem.nodup) c2, hn, hk, .inr ⟨rfl, y, rfl, c1, c4⟩⟩
  · have hl := h.vb.view.len
    exact (vWrite_no h.vb.view x a cap b.length hx hb.2.2.1 (by omega)).mono fun e w' ⟨he, hw⟩ => ⟨1, M, he, hw ▸ h.vb, h.few, hw ▸ h.now, hw ▸ h.kept, .inl ⟨by decide, rfl⟩⟩
/-- Other lists beside them. -/
theorem St.mk' (hv : Vb w0 w p q v gk gm S D s n K M) (hn : RwAt w gn cn (vBytes K M 0 (32 * K.length))) (hk : RwAt w gp cp K.flatten) (few : M.length ≤ 23) (nn : ¬ footV S q gk gm gn) (np : ¬ footV S q gk gm gp) (nvn : gn ≠ v) (ap : gn ≠ gp) (bn : w0.heap.size ≤ gn) (bp : w0.heap.size ≤ gp) : St w0 w p q v gk gm S D s n K M gn cn gp cp :=
  ⟨hv, hn, hk, few, nn, np, nvn, ap, bn, bp⟩
theorem Vb.footLt (h : Vb w0 w p q v gk gm S D s n K M) : ∀ k, footV S q gk gm k → k < w.heap.size := fun k hk => by
  rcases hk with (hk | rfl) | rfl | rfl
  · exact h.live.dev.lt k hk
  · exact h.pg.lt
  · exact h.view.kept.lt
  · exact h.view.mem.lt
end
end Go.Proofs.YtjipnjmnkfjmhaaGreatDoor
