/-
  Package view's Commit: what it comes to, as plain mathematics; the pages that it hands on, in memory. (Part of the proofs over package view.)
-/
import Derived.Test.YtjipnjmnkfjmhaaGreatDoorJVw
import Derived.Maps.RangeWalk
namespace Go.Proofs.YtjipnjmnkfjmhaaGreatDoor
open Go.RowKit
set_option linter.unusedVariables false

/-- All pages as they were written last. -/
def nowK (K : List (List Int)) (M : List (Nat × List Int)) : List (List Int) := (List.range K.length).map (fun i => vRd K M i)
theorem length_nowK (K : List (List Int)) (M : List (Nat × List Int)) : (nowK K M).length = K.length := by unfold nowK; simp
theorem nowK_getD {K : List (List Int)} {M : List (Nat × List Int)} {i : Nat} (hi : i < K.length) : (nowK K M).getD i [] = vRd K M i := by
  unfold nowK
  rw [List.getD_eq_getElem?_getD, List.getElem?_map, List.getElem?_range hi]
  rfl
/-- The pages that Commit hands on. -/
def handed (K : List (List Int)) (M : List (Nat × List Int)) (k : Nat) : List (Int × List Int) := ((dirtyL M).take k).map (fun z => (z, vRd K M z.toNat))
theorem dirtyL_perm (M : List (Nat × List Int)) : (dirtyL M).Perm (M.map (fun x => (x.1 : Int))) := List.mergeSort_perm _ _
theorem mem_dirtyL {M : List (Nat × List Int)} {z : Int} (h : z ∈ dirtyL M) : ∃ i : Nat, z = i ∧ (M.lookup i).isSome = true := by
  obtain ⟨x, hx, rfl⟩ := List.mem_map.1 ((dirtyL_perm M).mem_iff.1 h)
  exact ⟨x.1, rfl, (lookup_some_mem x.1).1 (List.mem_map.2 ⟨x, hx, rfl⟩)⟩
theorem dirtyL_mem {M : List (Nat × List Int)} {i : Nat} (h : (M.lookup i).isSome = true) : (i : Int) ∈ dirtyL M := by
  refine (dirtyL_perm M).mem_iff.2 ?_
  obtain ⟨x, hx, e⟩ := List.mem_map.1 ((lookup_some_mem i).2 h)
  exact List.mem_map.2 ⟨x, hx, by rw [e]⟩
theorem dirtyL_nodup {M : List (Nat × List Int)} (h : (M.map (·.1)).Nodup) : (dirtyL M).Nodup := by
  refine (dirtyL_perm M).nodup_iff.2 ?_
  have : M.map (fun x => (x.1 : Int)) = (M.map (·.1)).map (fun i : Nat => (i : Int)) := by rw [List.map_map]; rfl
  rw [this]
  exact List.pairwise_map.2 (h.imp (fun hne e => hne (by omega)))
theorem length_handed (K : List (List Int)) (M : List (Nat × List Int)) {k : Nat} (hk : k ≤ M.length) : (handed K M k).length = k := by
  unfold handed
  rw [List.length_map, List.length_take, length_dirtyL]
  omega
theorem handed_getD (K : List (List Int)) (M : List (Nat × List Int)) {k j : Nat} (hk : k ≤ M.length) (hj : j < k) : (handed K M k).getD j (0, []) = ((dirtyL M).getD j 0, vRd K M ((dirtyL M).getD j 0).toNat) := by
  unfold handed
  have hl : j < (dirtyL M).length := by rw [length_dirtyL]; omega
  simp only [List.getD_eq_getElem?_getD]
  rw [List.getElem?_map, List.getElem?_take, if_pos hj, List.getElem?_eq_getElem hl]
  rfl
theorem handed_succ (K : List (List Int)) (M : List (Nat × List Int)) {k : Nat} (hk : k < M.length) : handed K M (k + 1) = handed K M k ++ [((dirtyL M).getD k 0, vRd K M ((dirtyL M).getD k 0).toNat)] := by
  unfold handed
  have hl : k < (dirtyL M).length := by rw [length_dirtyL]; omega
  rw [List.take_add_one, List.getElem?_eq_getElem hl, List.map_append]
  simp only [List.getD_eq_getElem?_getD]
  rw [List.getElem?_eq_getElem hl]
  rfl
section
variable {w w' : World} {v q gk gm : Nat} {K : List (List Int)} {M : List (Nat × List Int)}
theorem Vw.dirtyAt (h : Vw w v q gk gm K M) {j : Nat} (hj : j < M.length) : ∃ i : Nat, (dirtyL M).getD j 0 = i ∧ i < K.length ∧ (M.lookup i).isSome = true := by
  have hl : j < (dirtyL M).length := by rw [length_dirtyL]; omega
  have hm : (dirtyL M).getD j 0 ∈ dirtyL M := by
    rw [List.getD_eq_getElem?_getD, List.getElem?_eq_getElem hl]
    exact List.getElem_mem hl
  obtain ⟨i, hi, hs⟩ := mem_dirtyL hm
  refine ⟨i, hi, ?_, hs⟩
  obtain ⟨x, hx, e⟩ := List.mem_map.1 ((lookup_some_mem i).2 hs)
  rw [← e]
  exact (h.memOk x hx).1
theorem Vw.handedValid (h : Vw w v q gk gm K M) (hM : M.length ≤ 23) : Valid K.length (handed K M M.length) := by
  have hlen := length_handed K M (Nat.le_refl M.length)
  refine ⟨by rw [hlen]; exact hM, fun k hk => ?_, fun k hk => ?_, fun j k hjk hk => ?_⟩
  · rw [hlen] at hk
    rw [handed_getD K M (Nat.le_refl _) hk]
    obtain ⟨i, hi, hlt, _⟩ := h.dirtyAt hk
    show 0 ≤ (dirtyL M).getD k 0 ∧ (dirtyL M).getD k 0 < K.length
    rw [hi]; omega
  · rw [hlen] at hk
    rw [handed_getD K M (Nat.le_refl _) hk]
    obtain ⟨i, hi, hlt, _⟩ := h.dirtyAt hk
    show (vRd K M ((dirtyL M).getD k 0).toNat).length = 32
    rw [hi, Int.toNat_natCast]
    exact (h.rdSec hlt).1
  · rw [hlen] at hk
    rw [handed_getD K M (Nat.le_refl _) hk, handed_getD K M (Nat.le_refl _) (by omega)]
    have hl : (dirtyL M).length = M.length := length_dirtyL M
    have := List.pairwise_iff_getElem.1 (dirtyL_nodup h.mem.nodup) j k (by omega) (by omega) hjk
    show (dirtyL M).getD j 0 ≠ (dirtyL M).getD k 0
    simp only [List.getD_eq_getElem?_getD]
    rw [List.getElem?_eq_getElem (by omega), List.getElem?_eq_getElem (by omega)]
    exact this
theorem Vw.handedByt (h : Vw w v q gk gm K M) : ∀ k, k < (handed K M M.length).length → Byt ((handed K M M.length).getD k (0, [])).2 := by
  intro k hk
  rw [length_handed K M (Nat.le_refl _)] at hk
  rw [handed_getD K M (Nat.le_refl _) hk]
  obtain ⟨i, hi, hlt, _⟩ := h.dirtyAt hk
  show Byt (vRd K M ((dirtyL M).getD k 0).toNat)
  rw [hi, Int.toNat_natCast]
  exact (h.rdSec hlt).2
/-- The pages behind a Commit of all that is dirty. -/
theorem Vw.updNow (h : Vw w v q gk gm K M) (hM : M.length ≤ 23) {P : Nat → List Int} (hP : ∀ i, i < K.length → P i = K.getD i []) : ∀ i, i < K.length → upd P (handed K M M.length) i = (nowK K M).getD i [] := by
  intro i hi
  rw [nowK_getD hi]
  have hlen := length_handed K M (Nat.le_refl M.length)
  by_cases hs : (M.lookup i).isSome = true
  · have hm := dirtyL_mem hs
    obtain ⟨k, hk, e⟩ := List.getElem_of_mem hm
    rw [length_dirtyL] at hk
    have e2 : (dirtyL M).getD k 0 = i := by
      rw [List.getD_eq_getElem?_getD, List.getElem?_eq_getElem (by rw [length_dirtyL]; exact hk)]
      exact e
    have := upd_at (P := P) (h.handedValid hM) (k := k) (by rw [hlen]; exact hk)
    rw [handed_getD K M (Nat.le_refl _) hk, e2] at this
    simpa using this
  · rw [upd_other, hP i hi]
    · unfold vRd
      cases e : M.lookup i with
      | none => rfl
      | some b => rw [e] at hs; exact absurd rfl hs
    · intro hmem
      unfold handed at hmem
      rw [List.map_map] at hmem
      obtain ⟨z, hz, e⟩ := List.mem_map.1 hmem
      obtain ⟨i', hi', hs'⟩ := mem_dirtyL (List.mem_of_mem_take hz)
      have : z = i := e
      rw [hi'] at this
      have : i' = i := by omega
      subst this
      exact hs hs'
end

/-- Pages x in a row that append made, each body a variable of its own; all of it stands at B or behind. -/
def Ys (w : World) (B : Nat) (v : Value) (x : List (Int × List Int)) : Prop :=
  ∃ xs : List Value, w.ownsRow B 76 2 v x.length xs ∧ ∀ i, i < x.length → xs[i * 2]? = some (.int .i64 (x.getD i (0, [])).1) ∧ ∃ g, xs[i * 2 + 1]? = some (.slice (some ⟨g, 0, none⟩) 32 32) ∧ RowT w g 60 (x.getD i (0, [])).2 ∧ Sec (x.getD i (0, [])).2 ∧ B ≤ g ∧ v.ownBlock ≠ some g ∧ -9223372036854775808 ≤ (x.getD i (0, [])).1 ∧ (x.getD i (0, [])).1 ≤ 9223372036854775807
theorem Ys.nil (w : World) (B : Nat) : Ys w B (.slice none 0 0) [] := ⟨[], World.ownsRow_nil _ _ _ _, fun i hi => by cases hi⟩
theorem Ys.pgsO {w : World} {B : Nat} {v : Value} {x : List (Int × List Int)} {S : Nat → Prop} (h : Ys w B v x) (hx : x.length ≤ 1000) (hS : ∀ k, S k → k < B) : ∃ a cap, v = .slice a x.length cap ∧ PgsO w S a cap x := by
  obtain ⟨xs, ⟨hlen, hrow⟩, hc⟩ := h
  rcases hrow with ⟨rfl, h0⟩ | ⟨g, cap, cur, rfl, hB, hb, h3, h4, h5, h6⟩
  · exact ⟨none, 0, by rw [h0], ⟨by omega, by omega, fun hne => absurd (List.eq_nil_of_length_eq_zero h0) hne⟩⟩
  · refine ⟨some ⟨g, 0, none⟩, cap, rfl, ⟨h3, by omega, fun hne => ⟨g, 0, rfl, fun hs => by have := hS g hs; omega, fun i hi => ?_⟩⟩⟩
    obtain ⟨c0, gb, c1, hrt, hsec, hBg, _, hr1, hr2⟩ := hc i hi
    have hcell : ∀ j u, xs[j]? = some u → w.cell? ⟨g, 0 + j, none⟩ = some u := fun j u hj => by
      rw [cell_of_row _ _ _ _ _ _ hb, Nat.zero_add]
      rw [← h6, List.getElem?_take] at hj
      split at hj
      · simpa using hj
      · cases hj
    have hbs := hrt.bs hsec.2 (by rw [hsec.1]; decide) 0 32 32 (by rw [hsec.1]; decide) (Nat.le_refl _)
    rw [List.drop_zero, List.take_of_length_le (by rw [hsec.1]; decide)] at hbs
    exact ⟨hcell _ _ c0, some ⟨gb, 0, none⟩, 32, by rw [hsec.1]; exact hcell _ _ c1, hbs, fun _ y hy hs => by obtain rfl := Option.some.inj hy; have := hS _ hs; dsimp only at this; omega, hr1, hr2⟩
/-- One page more. -/
theorem Ys.more {w w9 : World} {B : Nat} {v v9 : Value} {x : List (Int × List Int)} {z : Int} {b : List Int} {xs : List Value} (hown : w.ownsRow B 76 2 v x.length xs)
    (hc : ∀ i, i < x.length → xs[i * 2]? = some (.int .i64 (x.getD i (0, [])).1) ∧ ∃ g, xs[i * 2 + 1]? = some (.slice (some ⟨g, 0, none⟩) 32 32) ∧ RowT w g 60 (x.getD i (0, [])).2 ∧ Sec (x.getD i (0, [])).2 ∧ B ≤ g ∧ v.ownBlock ≠ some g ∧ -9223372036854775808 ≤ (x.getD i (0, [])).1 ∧ (x.getD i (0, [])).1 ≤ 9223372036854775807)
    (hB : B ≤ w.heap.size) (hsec : Sec b) (h1 : -9223372036854775808 ≤ z) (h2 : z ≤ 9223372036854775807)
    (hg : ((w.alloc (.cells (cellsB b) 60)).alloc (.cells #[.int .i64 z, .slice (some ⟨w.heap.size, 0, none⟩) 32 32] 76)).grownBy w9 v.ownBlock)
    (hat : v9.ownBlock = v.ownBlock ∨ v9.ownBlock = some (w.heap.size + 2))
    (ho : w9.ownsRow B 76 2 v9 (x.length + 1) (xs ++ [.int .i64 z, .slice (some ⟨w.heap.size, 0, none⟩) 32 32])) : Ys w9 B v9 (x ++ [(z, b)]) := by
  have hlt : ∀ k, v.ownBlock = some k → k < w.heap.size := fun k hk => (hown.lt k hk).2
  have hsame : ∀ g, g < w.heap.size + 1 → v.ownBlock ≠ some g → w9.heap[g]? = (w.alloc (.cells (cellsB b) 60)).heap[g]? := fun g hg1 hne =>
    (hg.block g (by simp; omega) (fun e => hne e.symm)).trans (Below.heap_alloc _ _ _ (by simp; omega))
  refine ⟨_, by rw [List.length_append]; exact ho, fun i hi => ?_⟩
  have hl := hown.1
  rw [List.length_append] at hi
  simp only [List.length_cons, List.length_nil] at hi
  by_cases e : i < x.length
  · have eg : (x ++ [(z, b)]).getD i (0, []) = x.getD i (0, []) := by simp only [List.getD_eq_getElem?_getD]; rw [List.getElem?_append_left e]
    rw [eg, List.getElem?_append_left (by omega), List.getElem?_append_left (by omega)]
    obtain ⟨c0, g, c1, hrt, hs, hBg, hne, hr1, hr2⟩ := hc i e
    have hgl := hrt.lt
    refine ⟨c0, g, c1, hrt.same ((hsame g (by omega) hne).trans (Below.heap_alloc _ _ _ hgl)), hs, hBg, fun e9 => ?_, hr1, hr2⟩
    rcases hat with h9 | h9
    · exact hne (by rw [← h9]; exact e9)
    · rw [h9] at e9; have := Option.some.inj e9; omega
  · obtain rfl : i = x.length := by omega
    have eg : (x ++ [(z, b)]).getD x.length (0, []) = (z, b) := by simp only [List.getD_eq_getElem?_getD]; rw [List.getElem?_append_right (Nat.le_refl _)]; simp
    rw [eg, List.getElem?_append_right (by omega), List.getElem?_append_right (by omega), hl]
    simp only [Nat.sub_self, Nat.add_sub_cancel_left]
    refine ⟨rfl, w.heap.size, rfl, RowT.same (heap_alloc_new w _) (hsame w.heap.size (by omega) (fun e9 => by have := hlt _ e9; omega)), hsec, hB, fun e9 => ?_, h1, h2⟩
    rcases hat with h9 | h9
    · rw [h9] at e9; have := hlt _ e9; omega
    · rw [h9] at e9; have := Option.some.inj e9; omega

theorem info_pageV : (Tryz.prog.info? 76).map (fun i => (i.zero, i.size, i.bytes)) = some (some (.agg #[.int .i64 0, .slice none 0 0]), 2, 32) := by kernel_rfl
theorem cell_two_at (w : World) (o : Obj) (x y : Value) (t : TypeId) : ∀ j u, [x, y][j]? = some u → ((w.alloc o).alloc (.cells #[x, y] t)).cell? ((⟨w.heap.size + 1, 0, none⟩ : Addr).add j) = some u := by
  intro j u hj
  have hb := heap_alloc2_new w o (.cells #[x, y] t)
  rw [addr_add, cell_of_row _ _ _ _ _ (0, 0) hb]
  match j, hj with
  | 0, hj => simp at hj; subst hj; rfl
  | 1, hj => simp at hj; subst hj; rfl
theorem one_pageV (z : Int) (a : Option Addr) (n c : Nat) : ∀ u ∈ [Value.int .i64 z, Value.slice a n c], u.oneCell' = true := by
  intro u hu
  rcases List.mem_cons.1 hu with rfl | hu
  · rfl
  · rcases List.mem_cons.1 hu with rfl | hu
    · rfl
    · cases hu
/-- A row of numbers that came of a call. -/
theorem ints_form {w : World} {B n : Nat} {d : Value} {xs : List Int} (h : w.ownsRow B 3 1 d n (xs.map encZ)) : ∃ a c, d = .slice a n c ∧ ∀ j, j < n → ∃ g, a = some ⟨g, 0, none⟩ ∧ w.cell? ⟨g, j, none⟩ = some (.int .i64 (xs.getD j 0)) := by
  have hl : xs.length = n := by have := h.1; rw [List.length_map] at this; omega
  rcases h.2 with ⟨rfl, h0⟩ | ⟨g, cap, cur, rfl, _, hb, _, _, _, ht⟩
  · exact ⟨none, 0, by rw [h0], fun j hj => by omega⟩
  · refine ⟨some ⟨g, 0, none⟩, cap, rfl, fun j hj => ⟨g, rfl, ?_⟩⟩
    rw [cell_of_row _ _ _ _ _ _ hb]
    have e : (cur.toList.take (n * 1))[j]? = some (.int .i64 (xs.getD j 0)) := by
      rw [ht, List.getElem?_map, List.getElem?_eq_getElem (by omega), List.getD_eq_getElem?_getD, List.getElem?_eq_getElem (by omega)]
      rfl
    rw [List.getElem?_take, if_pos (by omega)] at e
    simpa using e
theorem chk_valid {L : Nat} {l : List (Int × List Int)} (hv : Valid L l) : ∀ k, k ≤ l.length → chkK L l k = 0 := fun k => by
  induction k with
  | zero => intro _; rfl
  | succ k ih =>
    intro hk
    unfold chkK
    rw [if_pos (ih (by omega))]
    unfold pgFault
    have h1 := hv.num k (by omega)
    have h2 := hv.body k (by omega)
    rw [if_neg (by omega), if_neg (by rw [h2]; exact fun h => h rfl), if_neg]
    intro hany
    obtain ⟨j, hj, e⟩ := List.any_eq_true.1 hany
    exact hv.apart j k (List.mem_range.1 hj) (by omega) (by simpa using e)
theorem commitE_valid {L : Nat} {l : List (Int × List Int)} (hv : Valid L l) : commitE L l = 0 := by
  unfold commitE
  rw [if_neg (by have := hv.len; omega)]
  exact chk_valid hv _ (Nat.le_refl _)
/-- Cells of a row of bytes are written, one behind the other. -/
theorem setCells_row {g t : Nat} : ∀ (l : List Int) (w : World) (z : List Int) (off : Nat), RowT w g t z → off + l.length ≤ z.length → RowT (w.setCells g off (l.map (Value.int .u8))) g t (splice z off l) ∧ Turn (fun k => k = g) (fun k => k = g) w (w.setCells g off (l.map (Value.int .u8)))
  | [], w, z, off, h, _ => by
    have e : splice z off [] = z := by simp [splice]
    rw [e]
    exact ⟨h, Turn.of_below (Below.refl _ _)⟩
  | a :: r, w, z, off, h, hz => by
    have hz' : off + (r.length + 1) ≤ z.length := hz
    have h1 : RowT (w.setCell ⟨g, off, none⟩ (.int .u8 a)) g t (z.set off a) := by
      unfold RowT at *
      rw [heap_setCell_same _ _ _ _ _ _ h]
      simp [cellsB, List.map_set]
    obtain ⟨h2, h3⟩ := setCells_row r _ _ (off + 1) h1 (by rw [List.length_set]; omega)
    have e : splice (z.set off a) (off + 1) r = splice z off (a :: r) := by
      unfold splice
      rw [List.take_set, List.drop_set_of_lt (by omega)]
      have e2 : (z.take (off + 1)).set off a = z.take off ++ [a] := by
        rw [List.take_add_one, List.getElem?_eq_getElem (by omega)]
        rw [List.set_append, if_neg (by simp; omega)]
        have : off - (z.take off).length = 0 := by simp; omega
        rw [this]
        rfl
      rw [e2, List.append_assoc]
      congr 1
      simp only [List.cons_append, List.nil_append, List.length_cons]
      congr 3
      omega
    rw [← e]
    exact ⟨h2, (Turn.setCell (S := fun k => k = g) w (a := ⟨g, off, none⟩) (.int .u8 a) rfl).trans h3⟩
end Go.Proofs.YtjipnjmnkfjmhaaGreatDoor
