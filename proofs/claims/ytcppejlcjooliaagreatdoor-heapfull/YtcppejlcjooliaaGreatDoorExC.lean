/-
  Contracts of package extent: rising. (Part of the proofs over package extent.)
-/
import Derived.Test.YtcppejlcjooliaaGreatDoorExB
import Derived.Maps.AppendAt
namespace Go.Proofs.YtcppejlcjooliaaGreatDoor
open Go.RowKit Go.Sort Go.Shelf
set_option linter.unusedVariables false

/-! ### rows of extents that a call made -/
/-- A value that owns a row of extents (or is nil, of none). -/
def ExO (w : World) (B : Nat) (v : Value) (l : List (Int × Int)) : Prop := w.ownsRow B 45 2 v l.length (l.flatMap exC)
theorem flat_length (l : List (Int × Int)) : (l.flatMap exC).length = l.length * 2 := by
  induction l with
  | nil => rfl
  | cons e r ih => rw [List.flatMap_cons, List.length_append, ih, List.length_cons]; show 2 + r.length * 2 = _; omega
theorem flat_get : ∀ (l : List (Int × Int)) (i : Nat), i < l.length → (l.flatMap exC)[i * 2]? = some (.int .i64 (l.getD i (0, 0)).1) ∧ (l.flatMap exC)[i * 2 + 1]? = some (.int .i64 (l.getD i (0, 0)).2)
  | [], i, h => by simp at h
  | e :: r, 0, _ => ⟨rfl, rfl⟩
  | e :: r, i + 1, h => by
    have := flat_get r i (by simpa using h)
    rw [List.flatMap_cons]
    show ([Value.int .i64 e.1, .int .i64 e.2] ++ r.flatMap exC)[(i + 1) * 2]? = _ ∧ ([Value.int .i64 e.1, .int .i64 e.2] ++ r.flatMap exC)[(i + 1) * 2 + 1]? = _
    rw [List.getElem?_append_right (by simp; omega), List.getElem?_append_right (by simp; omega)]
    simp only [List.length_cons, List.length_nil, Nat.zero_add, Nat.reduceAdd]
    rw [show (i + 1) * 2 - 2 = i * 2 by omega, show (i + 1) * 2 + 1 - 2 = i * 2 + 1 by omega]
    exact this
theorem flat_one (l : List (Int × Int)) : ∀ u ∈ l.flatMap exC, u.oneCell' = true := by
  intro u hu
  obtain ⟨e, _, hu⟩ := List.mem_flatMap.1 hu
  unfold exC at hu
  rcases List.mem_cons.1 hu with rfl | hu
  · rfl
  · rcases List.mem_cons.1 hu with rfl | hu
    · rfl
    · cases hu
theorem ExO.nil (w : World) (B : Nat) : ExO w B (.slice none 0 0) [] := ⟨by simp, .inl ⟨rfl, rfl⟩⟩
theorem ExO.exs {w : World} {B : Nat} {v : Value} {l : List (Int × Int)} (h : ExO w B v l) (hb : ∀ e ∈ l, InI e) (hl : l.length ≤ 8796093021952) : ∃ a c, v = .slice a l.length c ∧ Exs w a c l := by
  rcases h.2 with ⟨rfl, h0⟩ | ⟨g, cap, cur, rfl, hB, hc, h3, h4, h5, h6⟩
  · have : l = [] := List.eq_nil_of_length_eq_zero h0
    subst this
    exact ⟨none, 0, rfl, fun e he => (by cases he), ⟨Nat.le_refl _, fun _ => rfl⟩, by decide, fun h => absurd rfl h⟩
  · refine ⟨some ⟨g, 0, none⟩, cap, rfl, hb, ⟨h3, fun e => by cases e⟩, hl, fun _ => ⟨g, 0, rfl, fun i hi => ?_⟩⟩
    obtain ⟨q0, q1⟩ := flat_get l i hi
    rw [← h6, List.getElem?_take, if_pos (by omega)] at q0 q1
    rw [cell_of_row _ _ _ _ _ _ hc, cell_of_row _ _ _ _ _ _ hc, Nat.zero_add]
    exact ⟨by simpa using q0, by simpa using q1⟩
theorem ExO.below {w w' : World} {B : Nat} {v : Value} {l : List (Int × Int)} (h : ExO w B v l) (hb : Below w.heap.size w w') : ExO w' B v l := by
  refine ⟨h.1, ?_⟩
  rcases h.2 with h0 | ⟨g, cap, cur, rfl, hB, hc, h3⟩
  · exact .inl h0
  · exact .inr ⟨g, cap, cur, rfl, hB, (hb.block g (Array.getElem?_eq_some_iff.1 hc).1).trans hc, h3⟩
theorem ExO.base {w : World} {B B' : Nat} {v : Value} {l : List (Int × Int)} (h : ExO w B v l) (hb : B' ≤ B) : ExO w B' v l := by
  refine ⟨h.1, ?_⟩
  rcases h.2 with h0 | ⟨g, cap, cur, rfl, hB, hc, h3⟩
  · exact .inl h0
  · exact .inr ⟨g, cap, cur, rfl, by omega, hc, h3⟩
theorem info_ex : (Tryz.prog.info? 45).map (fun i => (i.zero, i.size, i.bytes)) = some (some (.agg #[.int .i64 0, .int .i64 0]), 2, 16) := by kernel_rfl

/-! ### Clone, SortFunc -/
theorem clone_none (n c : Nat) (w : World) :
    Calls Tryz.prog 66 #[.slice none n c] w fun e w' => e = .returned (.slice none 0 0) ∧ w' = w := AnyE.slices_Clone_nil exClone n c w
set_option maxHeartbeats 1000000 in
theorem clone_empty (x : Addr) (c : Nat) (w : World) :
    Calls Tryz.prog 66 #[.slice (some x) 0 c] w fun e w' => ∃ v, e = .returned v ∧ ExO w' w.heap.size v [] ∧ Below w.heap.size w w' := by
  obtain ⟨i0, hi, hz0, hz1, hz2⟩ := info_parts info_ex
  have q22 : ∀ (w : World) (a : Option Addr) (n c n' c' : Nat), (binOp .eql 63 (.slice a n c) (.slice none n' c')).run Tryz.prog w = .ok (.bool a.isNone) w := fun w a n c n' c' => Lib.run_eql_slice_nil w _ _ a n c n' c' Tryz.underlying63
  go_enter Tryz.func66, Tryz.ntmps66
  go_wp2_with (at_builtin; refine wpList_append_own _ rfl _ _ 63 rfl w.heap.size 45 i0 (.agg #[.int .i64 0, .int .i64 0]) 2 16 Tryz.underlying63 hi hz0 hz1 hz2 rfl (by decide) _ _ _ rfl (World.ownsRow_made w #[] 0 (Nat.le_refl _) (Nat.zero_le _) (by simp)) x 0 c [] rfl rfl (fun j u hj => by simp at hj) (fun u hu => by cases hu) (Nat.zero_le _) (by simp) (by simp) ?_)
  intro v' w1 hown hgrow hnil
  go_wp2
  go_ret
  exact ⟨v', rfl, hown, ((Below.refl _ w).alloc (Nat.le_refl _) _).grown hgrow (by simp) (by intro k hk; simp [Value.ownBlock] at hk; omega)⟩
theorem clone_any (a : Option Addr) (cap : Nat) (l : List (Int × Int)) (w : World) (hl : Exs w a cap l) :
    Calls Tryz.prog 66 #[.slice a l.length cap] w fun e w' => ∃ v, e = .returned v ∧ ExO w' w.heap.size v l ∧ Below w.heap.size w w' := by
  obtain ⟨h1, h2, h3, h4⟩ := hl
  by_cases h0 : l = []
  · subst h0
    cases a with
    | none => exact (clone_none _ _ w).mono fun e w' ⟨he, hw⟩ => ⟨_, he, by rw [hw]; exact ExO.nil _ _, by rw [hw]; exact Below.refl _ _⟩
    | some x => exact clone_empty x cap w
  · obtain ⟨b, off, rfl, hc⟩ := h4 h0
    obtain ⟨i0, hi, hz0, hz1, hz2⟩ := info_parts info_ex
    refine (AnyE.slices_Clone exClone i0 (.agg #[.int .i64 0, .int .i64 0]) 2 16 hi hz0 hz1 hz2 rfl (by decide) Tryz.sizeOf45 b off l.length cap (l.flatMap exC) w (flat_length l) (by unfold maxLen; omega) (by omega) (fun j u hj => ?_) (flat_one l)).mono ?_
    · have hjl : j < l.length * 2 := by
        rw [← flat_length]
        exact (List.getElem?_eq_some_iff.1 hj).1
      obtain ⟨c0, c1⟩ := hc (j / 2) (by omega)
      obtain ⟨q0, q1⟩ := flat_get l (j / 2) (by omega)
      rcases Nat.mod_two_eq_zero_or_one j with hm | hm
      · have e : j / 2 * 2 = j := by omega
        rw [e] at c0 q0
        rw [q0] at hj
        rw [c0]; exact hj
      · have e : j / 2 * 2 + 1 = j := by omega
        rw [e] at q1
        rw [Nat.add_assoc, e] at c1
        rw [q1] at hj
        rw [c1]; exact hj
    · rintro e w' ⟨v, rfl, hown, _, hb⟩
      exact ⟨v, rfl, hown, hb⟩

def cmpX (x y : (Int × Int)) : Int := Lib.compareInt x.1 y.1
theorem ltX (x y : (Int × Int)) : ltOf cmpX x y = decide (x.1 < y.1) := by
  unfold ltOf cmpX Lib.compareInt
  by_cases h1 : x.1 < y.1
  · simp [h1]
  · by_cases h2 : y.1 < x.1 <;> simp [h1, h2]
theorem swoX : SWO (ltOf cmpX) where
  irrefl x := by rw [ltX]; simp
  trans x y z h1 h2 := by rw [ltX] at *; simp at *; omega
  ntrans x y z h1 h2 := by rw [ltX] at *; simp at *; omega
set_option maxHeartbeats 1000000 in
theorem rising1_any (x y : (Int × Int)) (W : World) : Calls Tryz.prog 68 #[.agg #[.int .i64 x.1, .int .i64 x.2], .agg #[.int .i64 y.1, .int .i64 y.2]] W fun e w' => e = .returned (.int .i64 (cmpX x y)) ∧ ∃ q os', w' = grow (W.drewN q) os' := by
  have hcon := fun W' => AnyG.cmp_Compare_int exCmp x.1 y.1 W'
  change ∀ W', Calls Tryz.prog 69 _ _ _ at hcon
  unfold cmpX
  generalize Lib.compareInt x.1 y.1 = r at hcon ⊢
  go_enter Tryz.func68, Tryz.ntmps68
  go_wp2_with (go_at_call 69; refine (hcon _).mono ?_; rintro e w' ⟨rfl, rfl⟩)
  go_ret
  exact ⟨rfl, 0, _, by rw [alloc_eq_grow, alloc_eq_grow, grow_grow]; rfl⟩
theorem cmpLaysX (blk off size : Nat) (w : World) : CmpLays Tryz.prog 68 #[] exC 2 cmpX blk off size w :=
  fun _ _ _ _ x y => rising1_any x y _

/-- What the row holds, as a list. -/
theorem flat_array (d : Array (Int × Int)) : (flatK exC 2 d).toList = d.toList.flatMap exC := by
  apply List.ext_getElem?
  intro t
  by_cases ht : t < d.size * 2
  · have h1 := get_flatK exC 2 d t ht
    have hs : t < (flatK exC 2 d).size := by rw [size_flatK]; exact ht
    rw [getElem!_pos _ t hs] at h1
    rw [List.getElem?_eq_getElem (by simpa using hs)]
    have e1 : (flatK exC 2 d).toList[t]'(by simpa using hs) = (flatK exC 2 d)[t] := by simp
    rw [e1, h1]
    obtain ⟨q0, q1⟩ := flat_get d.toList (t / 2) (by simp; omega)
    have e2 : d.toList.getD (t / 2) (0, 0) = d[t / 2]! := by
      rw [getElem!_pos _ (t / 2) (by omega)]
      simp [List.getD, Array.getElem?_eq_getElem (show t / 2 < d.size by omega)]
    rw [e2] at q0 q1
    rcases Nat.mod_two_eq_zero_or_one t with hm | hm
    · rw [hm]
      have e : t / 2 * 2 = t := by omega
      rw [e] at q0
      rw [q0]; rfl
    · rw [hm]
      have e : t / 2 * 2 + 1 = t := by omega
      rw [e] at q1
      rw [q1]; rfl
  · rw [List.getElem?_eq_none (by simp; omega), List.getElem?_eq_none (by rw [flat_length]; simp; omega)]

theorem sortW_heap (w : World) (g m : Nat) (d' : Array (Int × Int)) (os : Array Obj) : (sortWorldK exC 2 w g 0 m d' os).heap = w.heap.modify g (onCells (putCells id 0 (flatK exC 2 d'))) ++ os := rfl
/-- Behind the sort the row is the sorted one's. -/
theorem sorted_own {w : World} {B g cap : Nat} {cur : Array Value} {d' : Array (Int × Int)} {m : Nat} {os : Array Obj} (hB : B ≤ g) (hg : w.heap[g]? = some (.cells cur 45 (0, 0))) (hn : d'.size ≤ cap) (hm : cap ≤ maxLen) (hs : cur.size = cap * 2) :
    ExO (sortWorldK exC 2 w g 0 m d' os) B (.slice (some ⟨g, 0, none⟩) d'.size cap) d'.toList ∧ Below g w (sortWorldK exC 2 w g 0 m d' os) := by
  have hlt := (Array.getElem?_eq_some_iff.1 hg).1
  have hheap : (sortWorldK exC 2 w g 0 m d' os).heap[g]? = some (.cells (putCells id 0 (flatK exC 2 d') cur) 45 (0, 0)) := by
    rw [sortW_heap, Array.getElem?_append_left (by simpa using hlt), Array.getElem?_modify, if_pos rfl, hg]
    rfl
  refine ⟨⟨by rw [flat_length], .inr ⟨g, cap, _, by simp, hB, hheap, by simpa using hn, hm, by simp [putCells, hs], ?_⟩⟩, ⟨rfl, rfl, rfl, ?_, fun k hk => ?_⟩⟩
  · apply List.ext_getElem?
    intro t
    rw [List.getElem?_take]
    by_cases ht : t < d'.size * 2
    · rw [if_pos (by simpa using ht), ← flat_array]
      have h2 : t < cap * 2 := by omega
      simp only [Array.getElem?_toList]
      unfold putCells
      rw [Array.getElem?_mapIdx, Array.getElem?_eq_getElem (by rw [hs]; exact h2), Array.getElem?_eq_getElem (by rw [size_flatK]; exact ht)]
      simp only [Option.map_some]
      rw [if_pos ⟨Nat.zero_le _, by rw [size_flatK, Nat.zero_add]; exact ht⟩, Nat.sub_zero, getElem!_pos _ t (by rw [size_flatK]; exact ht)]
      rfl
    · rw [if_neg (by simpa using ht), List.getElem?_eq_none (by rw [flat_length]; simpa using ht)]
  · rw [sortW_heap]
    simp
  · rw [sortW_heap, Array.getElem?_append_left (by simpa using Nat.lt_trans hk hlt), Array.getElem?_modify, if_neg (by omega)]

set_option maxHeartbeats 1000000 in
theorem sort_any (B : Nat) (v : Value) (l : List (Int × Int)) (w : World) (h : ExO w B v l) (hB : B ≤ w.heap.size) (hl : l.length ≤ 8796093021952) :
    Calls Tryz.prog 67 #[v, .func (.func 68) #[] #[]] w fun e w' => e = .returned (.tuple #[]) ∧ ∃ s : List (Int × Int), s.Perm l ∧ s.Pairwise (fun a b => a.1 ≤ b.1) ∧ ExO w' B v s ∧ Below B w w' := by
  rcases h.2 with ⟨rfl, h0⟩ | ⟨g, cap, cur, rfl, hB, hc, h3, h4, h5, h6⟩
  · have : l = [] := List.eq_nil_of_length_eq_zero h0
    subst this
    exact (AnyF.slices_SortFunc_none exSort none 0 _ w).mono fun e w' ⟨he, hw⟩ => ⟨he, [], List.Perm.refl _, List.Pairwise.nil, by rw [hw]; exact ExO.nil _ _, by rw [hw]; exact Below.refl _ _⟩
  · have hlt := (Array.getElem?_eq_some_iff.1 hc).1
    have hH : HoldsK exC 2 w g 0 l.toArray := by
      intro j hj
      rw [size_flatK] at hj
      have hj2 : j < l.length * 2 := by simpa using hj
      rw [Nat.zero_add]
      refine ⟨?_, frozen_of_row w g j _ _ hc⟩
      rw [cell_of_row _ _ _ _ _ _ hc]
      have e1 : (cur.toList.take (l.length * 2))[j]? = (flatK exC 2 l.toArray).toList[j]? := by rw [h6, flat_array]
      rw [List.getElem?_take, if_pos hj2] at e1
      have hs : j < (flatK exC 2 l.toArray).size := by rw [size_flatK]; exact hj
      simp only [Array.getElem?_toList] at e1
      rw [e1, Array.getElem?_eq_getElem hs, getElem!_pos _ j hs]
      rfl
    have hcon := AnyQ.slices_SortFunc exSort 2 Tryz.isAgg45 Tryz.sizeOf45 exC (fun _ => rfl) (fun x v hv => flat_one [x] v (by simpa using hv)) cmpX swoX 68 #[] g 0 cap l.toArray w (enters_of Tryz.func68 (by kernel_rfl) rfl) (cmpLaysX g 0 _ w) hH hlt (by simp; omega)
    change Calls Tryz.prog 67 _ _ _ at hcon
    rw [List.size_toArray] at hcon
    refine hcon.mono ?_
    rintro e w' ⟨rfl, d', n, os, hp, hs, rfl⟩
    have hsz : d'.size = l.length := by have := hp.1; simpa using this
    obtain ⟨ho, hbel⟩ := sorted_own (w := w) (B := B) (g := g) (cap := cap) (cur := cur) (d' := d') (m := n) (os := os) hB hc (by omega) h4 h5
    rw [hsz] at ho
    refine ⟨rfl, d'.toList, ?_, ?_, ho, hbel.mono hB⟩
    · have := hp.2.2
      rw [show d'.extract 0 l.length = d' by rw [← hsz]; simp, show l.toArray.extract 0 l.length = l.toArray by simp] at this
      simpa using this
    · rw [List.pairwise_iff_getElem]
      intro i j hi hj hij
      have := hs i j (Nat.zero_le _) hij (by simp at hj; omega)
      rw [ltX] at this
      have h1 : d'[j]! = d'.toList[j] := by rw [getElem!_pos _ j (by simpa using hj)]; simp
      have h2 : d'[i]! = d'.toList[i] := by rw [getElem!_pos _ i (by simpa using hi)]; simp
      rw [h1, h2] at this
      have := of_decide_eq_false this
      omega

theorem rising_any (a : Option Addr) (cap : Nat) (l : List (Int × Int)) (w : World) (hl : Exs w a cap l) :
    Calls Tryz.prog 52 #[.slice a l.length cap] w fun e w' => ∃ v s, e = .returned v ∧ s.Perm l ∧ s.Pairwise (fun a b => a.1 ≤ b.1) ∧ ExO w' w.heap.size v s ∧ Below w.heap.size w w' := by
  have HC := hide (clone_any a cap l w hl)
  have hl3 := hl.2.2.1
  clear hl
  generalize hN : l.length = N at *
  have HN := hide hN
  clear hN
  go_enter Tryz.func52, Tryz.ntmps52
  go_wp2_with fail
  refine (unhide HC).mono ?_
  rintro e w1 ⟨v, rfl, ho, hb⟩
  have HS := hide (sort_any w.heap.size v l w1 ho hb.size (by rw [unhide HN]; exact hl3))
  have HB := hide hb
  clear hb ho HC
  go_wp2_with fail
  refine (unhide HS).mono ?_
  rintro e w2 ⟨rfl, s, hp, hs, ho, hb⟩
  have HF := hide (And.intro hp (And.intro hs (And.intro ho ((unhide HB).trans hb))))
  clear hp hs ho hb
  go_wp2
  go_ret
  exact ⟨v, s, rfl, (unhide HF).1, (unhide HF).2.1, (unhide HF).2.2.1, (unhide HF).2.2.2⟩
end Go.Proofs.YtcppejlcjooliaaGreatDoor
