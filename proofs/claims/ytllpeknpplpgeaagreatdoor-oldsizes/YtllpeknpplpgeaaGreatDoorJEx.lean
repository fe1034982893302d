/-
  Joined by program: ExC; ExD; ExE; HpE; HpC; HpF. (Parts of the proofs over the packages of the program.)
-/
import Derived.Test.YtllpeknpplpgeaaGreatDoorExB
import Derived.Maps.AppendAt
import Derived.Test.YtllpeknpplpgeaaGreatDoorJHp
import Derived.Test.YtllpeknpplpgeaaGreatDoorImF
import Derived.Test.YtllpeknpplpgeaaGreatDoorJHq
import Derived.Test.YtllpeknpplpgeaaGreatDoorJCh
import Derived.Test.YtllpeknpplpgeaaGreatDoorExA
import Derived.Deep.RegionHeld3
/-! Contracts of package extent: rising. (Part of the proofs over package extent.) -/
namespace Go.Proofs.YtllpeknpplpgeaaGreatDoor
open Go.RowKit Go.Sort Go.Shelf
set_option linter.unusedVariables false

/-! ### rows of extents that a call made -/
/-- A value that owns a row of extents (or is nil, of none). -/
def ExO (w : World) (B : Nat) (v : Value) (l : List (Int × Int)) : Prop := w.ownsRow B 45 2 v l.length (l.flatMap exC)
theorem flat_length (l : List (Int × Int)) : (l.flatMap exC).length = l.length * 2 := by
  induction l with
  | nil => rfl
  | cons e r ih => rw [List.flatMap_cons, List.length_append, ih, List.length_cons]; show 2 + r.length * 2 = _; omega
theorem flat_get : ∀ (l : List (Int × Int)) (i : Nat), i < l.length → (l.flatMap exC)[i * 2]? = some (.int .i64 (l.getD i (0, 0)).1) ∧ (l.flatMap exC)[i * 2 + 1]? = some (.int .i64 (l.getD i (0, 0)).2)
  | [], i, h => by simp at h
  | e :: r, 0, _ => ⟨rfl, rfl⟩
  | e :: r, i + 1, h => by
    have := flat_get r i (by simpa using h)
    rw [List.flatMap_cons]
    show ([Value.int .i64 e.1, .int .i64 e.2] ++ r.flatMap exC)[(i + 1) * 2]? = _ ∧ ([Value.int .i64 e.1, .int .i64 e.2] ++ r.flatMap exC)[(i + 1) * 2 + 1]? = _
    rw [List.getElem?_append_right (by simp; omega), List.getElem?_append_right (by simp; omega)]
    simp only [List.length_cons, List.length_nil, Nat.zero_add, Nat.reduceAdd]
    rw [show (i + 1) * 2 - 2 = i * 2 by omega, show (i + 1) * 2 + 1 - 2 = i * 2 + 1 by omega]
    exact this
theorem flat_one (l : List (Int × Int)) : ∀ u ∈ l.flatMap exC, u.oneCell' = true := by
  intro u hu
  obtain ⟨e, _, hu⟩ := List.mem_flatMap.1 hu
  unfold exC at hu
  rcases List.mem_cons.1 hu with rfl | hu
  · rfl
  · rcases List.mem_cons.1 hu with rfl | hu
    · rfl
    · cases hu
theorem ExO.nil (w : World) (B : Nat) : ExO w B (.slice none 0 0) [] := ⟨by simp, .inl ⟨rfl, rfl⟩⟩
theorem ExO.exs {w : World} {B : Nat} {v : Value} {l : List (Int × Int)} (h : ExO w B v l) (hb : ∀ e ∈ l, InI e) (hl : l.length ≤ 8796093021952) : ∃ a c, v = .slice a l.length c ∧ Exs w a c l := by
  rcases h.2 with ⟨rfl, h0⟩ | ⟨g, cap, cur, rfl, hB, hc, h3, h4, h5, h6⟩
  · have : l = [] := List.eq_nil_of_length_eq_zero h0
    subst this
    exact ⟨none, 0, rfl, fun e he => (by cases he), ⟨Nat.le_refl _, fun _ => rfl⟩, by decide, fun h => absurd rfl h⟩
  · refine ⟨some ⟨g, 0, none⟩, cap, rfl, hb, ⟨h3, fun e => by cases e⟩, hl, fun _ => ⟨g, 0, rfl, fun i hi => ?_⟩⟩
    obtain ⟨q0, q1⟩ := flat_get l i hi
    rw [← h6, List.getElem?_take, if_pos (by omega)] at q0 q1
    rw [cell_of_row _ _ _ _ _ _ hc, cell_of_row _ _ _ _ _ _ hc, Nat.zero_add]
    exact ⟨by simpa using q0, by simpa using q1⟩
theorem ExO.below {w w' : World} {B : Nat} {v : Value} {l : List (Int × Int)} (h : ExO w B v l) (hb : Below w.heap.size w w') : ExO w' B v l := by
  refine ⟨h.1, ?_⟩
  rcases h.2 with h0 | ⟨g, cap, cur, rfl, hB, hc, h3⟩
  · exact .inl h0
  · exact .inr ⟨g, cap, cur, rfl, hB, (hb.block g (Array.getElem?_eq_some_iff.1 hc).1).trans hc, h3⟩
theorem ExO.base {w : World} {B B' : Nat} {v : Value} {l : List (Int × Int)} (h : ExO w B v l) (hb : B' ≤ B) : ExO w B' v l := by
  refine ⟨h.1, ?_⟩
  rcases h.2 with h0 | ⟨g, cap, cur, rfl, hB, hc, h3⟩
  · exact .inl h0
  · exact .inr ⟨g, cap, cur, rfl, by omega, hc, h3⟩
theorem info_ex : (Tryz.prog.info? 45).map (fun i => (i.zero, i.size, i.bytes)) = some (some (.agg #[.int .i64 0, .int .i64 0]), 2, 16) := by kernel_rfl

/-! ### Clone, SortFunc -/
theorem clone_none (n c : Nat) (w : World) :
    Calls Tryz.prog 138 #[.slice none n c] w fun e w' => e = .returned (.slice none 0 0) ∧ w' = w := AnyE.slices_Clone_nil exClone n c w
set_option maxHeartbeats 1000000 in
theorem clone_empty (x : Addr) (c : Nat) (w : World) :
    Calls Tryz.prog 138 #[.slice (some x) 0 c] w fun e w' => ∃ v, e = .returned v ∧ ExO w' w.heap.size v [] ∧ Below w.heap.size w w' := by
  obtain ⟨i0, hi, hz0, hz1, hz2⟩ := info_parts info_ex
  have q22 : ∀ (w : World) (a : Option Addr) (n c n' c' : Nat), (binOp .eql 123 (.slice a n c) (.slice none n' c')).run Tryz.prog w = .ok (.bool a.isNone) w := fun w a n c n' c' => Lib.run_eql_slice_nil w _ _ a n c n' c' Tryz.underlying123
  go_enter Tryz.func138, Tryz.ntmps138
  go_wp2_with (at_builtin; refine wpList_append_own _ rfl _ _ 123 rfl w.heap.size 45 i0 (.agg #[.int .i64 0, .int .i64 0]) 2 16 Tryz.underlying123 hi hz0 hz1 hz2 rfl (by decide) _ _ _ rfl (World.ownsRow_made w #[] 0 (Nat.le_refl _) (Nat.zero_le _) (by simp)) x 0 c [] rfl rfl (fun j u hj => by simp at hj) (fun u hu => by cases hu) (Nat.zero_le _) (by simp) (by simp) ?_)
  intro v' w1 hown hgrow hnil
  go_wp2
  go_ret
  exact ⟨v', rfl, hown, ((Below.refl _ w).alloc (Nat.le_refl _) _).grown hgrow (by simp) (by intro k hk; simp [Value.ownBlock] at hk; omega)⟩
theorem clone_any (a : Option Addr) (cap : Nat) (l : List (Int × Int)) (w : World) (hl : Exs w a cap l) :
    Calls Tryz.prog 138 #[.slice a l.length cap] w fun e w' => ∃ v, e = .returned v ∧ ExO w' w.heap.size v l ∧ Below w.heap.size w w' := by
  obtain ⟨h1, h2, h3, h4⟩ := hl
  by_cases h0 : l = []
  · subst h0
    cases a with
    | none => exact (clone_none _ _ w).mono fun e w' ⟨he, hw⟩ => ⟨_, he, by rw [hw]; exact ExO.nil _ _, by rw [hw]; exact Below.refl _ _⟩
    | some x => exact clone_empty x cap w
  · obtain ⟨b, off, rfl, hc⟩ := h4 h0
    obtain ⟨i0, hi, hz0, hz1, hz2⟩ := info_parts info_ex
    refine (AnyE.slices_Clone exClone i0 (.agg #[.int .i64 0, .int .i64 0]) 2 16 hi hz0 hz1 hz2 rfl (by decide) Tryz.sizeOf45 b off l.length cap (l.flatMap exC) w (flat_length l) (by unfold maxLen; omega) (by omega) (fun j u hj => ?_) (flat_one l)).mono ?_
    · have hjl : j < l.length * 2 := by
        rw [← flat_length]
        exact (List.getElem?_eq_some_iff.1 hj).1
      obtain ⟨c0, c1⟩ := hc (j / 2) (by omega)
      obtain ⟨q0, q1⟩ := flat_get l (j / 2) (by omega)
      rcases Nat.mod_two_eq_zero_or_one j with hm | hm
      · have e : j / 2 * 2 = j := by omega
        rw [e] at c0 q0
        rw [q0] at hj
        rw [c0]; exact hj
      · have e : j / 2 * 2 + 1 = j := by omega
        rw [e] at q1
        rw [Nat.add_assoc, e] at c1
        rw [q1] at hj
        rw [c1]; exact hj
    · rintro e w' ⟨v, rfl, hown, _, hb⟩
      exact ⟨v, rfl, hown, hb⟩

def cmpX (x y : (Int × Int)) : Int := Lib.compareInt x.1 y.1
theorem ltX (x y : (Int × Int)) : ltOf cmpX x y = decide (x.1 < y.1) := by
  unfold ltOf cmpX Lib.compareInt
  by_cases h1 : x.1 < y.1
  · simp [h1]
  · by_cases h2 : y.1 < x.1 <;> simp [h1, h2]
theorem swoX : SWO (ltOf cmpX) where
  irrefl x := by rw [ltX]; simp
  trans x y z h1 h2 := by rw [ltX] at *; simp at *; omega
  ntrans x y z h1 h2 := by rw [ltX] at *; simp at *; omega
set_option maxHeartbeats 1000000 in
theorem rising1_any (x y : (Int × Int)) (W : World) : Calls Tryz.prog 140 #[.agg #[.int .i64 x.1, .int .i64 x.2], .agg #[.int .i64 y.1, .int .i64 y.2]] W fun e w' => e = .returned (.int .i64 (cmpX x y)) ∧ ∃ q os', w' = grow (W.drewN q) os' := by
  have hcon := fun W' => AnyG.cmp_Compare_int exCmp x.1 y.1 W'
  change ∀ W', Calls Tryz.prog 141 _ _ _ at hcon
  unfold cmpX
  generalize Lib.compareInt x.1 y.1 = r at hcon ⊢
  go_enter Tryz.func140, Tryz.ntmps140
  go_wp2_with (go_at_call 141; refine (hcon _).mono ?_; rintro e w' ⟨rfl, rfl⟩)
  go_ret
  exact ⟨rfl, 0, _, by rw [alloc_eq_grow, alloc_eq_grow, grow_grow]; rfl⟩
theorem cmpLaysX (blk off size : Nat) (w : World) : CmpLays Tryz.prog 140 #[] exC 2 cmpX blk off size w :=
  fun _ _ _ _ x y => rising1_any x y _

/-- What the row holds, as a list. -/
theorem flat_array (d : Array (Int × Int)) : (flatK exC 2 d).toList = d.toList.flatMap exC := by
  apply List.ext_getElem?
  intro t
  by_cases ht : t < d.size * 2
  · have h1 := get_flatK exC 2 d t ht
    have hs : t < (flatK exC 2 d).size := by rw [size_flatK]; exact ht
    rw [getElem!_pos _ t hs] at h1
    rw [List.getElem?_eq_getElem (by simpa using hs)]
    have e1 : (flatK exC 2 d).toList[t]'(by simpa using hs) = (flatK exC 2 d)[t] := by simp
    rw [e1, h1]
    obtain ⟨q0, q1⟩ := flat_get d.toList (t / 2) (by simp; omega)
    have e2 : d.toList.getD (t / 2) (0, 0) = d[t / 2]! := by
      rw [getElem!_pos _ (t / 2) (by omega)]
      simp [List.getD, Array.getElem?_eq_getElem (show t / 2 < d.size by omega)]
    rw [e2] at q0 q1
    rcases Nat.mod_two_eq_zero_or_one t with hm | hm
    · rw [hm]
      have e : t / 2 * 2 = t := by omega
      rw [e] at q0
      rw [q0]; rfl
    · rw [hm]
      have e : t / 2 * 2 + 1 = t := by omega
      rw [e] at q1
      rw [q1]; rfl
  · rw [List.getElem?_eq_none (by simp; omega), List.getElem?_eq_none (by rw [flat_length]; simp; omega)]

theorem sortW_heap (w : World) (g m : Nat) (d' : Array (Int × Int)) (os : Array Obj) : (sortWorldK exC 2 w g 0 m d' os).heap = w.heap.modify g (onCells (putCells id 0 (flatK exC 2 d'))) ++ os := rfl
/-- Behind the sort the row is the sorted one's. -/
theorem sorted_own {w : World} {B g cap : Nat} {cur : Array Value} {d' : Array (Int × Int)} {m : Nat} {os : Array Obj} (hB : B ≤ g) (hg : w.heap[g]? = some (.cells cur 45 (0, 0))) (hn : d'.size ≤ cap) (hm : cap ≤ maxLen) (hs : cur.size = cap * 2) :
    ExO (sortWorldK exC 2 w g 0 m d' os) B (.slice (some ⟨g, 0, none⟩) d'.size cap) d'.toList ∧ Below g w (sortWorldK exC 2 w g 0 m d' os) := by
  have hlt := (Array.getElem?_eq_some_iff.1 hg).1
  have hheap : (sortWorldK exC 2 w g 0 m d' os).heap[g]? = some (.cells (putCells id 0 (flatK exC 2 d') cur) 45 (0, 0)) := by
    rw [sortW_heap, Array.getElem?_append_left (by simpa using hlt), Array.getElem?_modify, if_pos rfl, hg]
    rfl
  refine ⟨⟨by rw [flat_length], .inr ⟨g, cap, _, by simp, hB, hheap, by simpa using hn, hm, by simp [putCells, hs], ?_⟩⟩, ⟨rfl, rfl, rfl, ?_, fun k hk => ?_⟩⟩
  · apply List.ext_getElem?
    intro t
    rw [List.getElem?_take]
    by_cases ht : t < d'.size * 2
    · rw [if_pos (by simpa using ht), ← flat_array]
      have h2 : t < cap * 2 := by omega
      simp only [Array.getElem?_toList]
      unfold putCells
      rw [Array.getElem?_mapIdx, Array.getElem?_eq_getElem (by rw [hs]; exact h2), Array.getElem?_eq_getElem (by rw [size_flatK]; exact ht)]
      simp only [Option.map_some]
      rw [if_pos ⟨Nat.zero_le _, by rw [size_flatK, Nat.zero_add]; exact ht⟩, Nat.sub_zero, getElem!_pos _ t (by rw [size_flatK]; exact ht)]
      rfl
    · rw [if_neg (by simpa using ht), List.getElem?_eq_none (by rw [flat_length]; simpa using ht)]
  · rw [sortW_heap]
    simp
  · rw [sortW_heap, Array.getElem?_append_left (by simpa using Nat.lt_trans hk hlt), Array.getElem?_modify, if_neg (by omega)]

set_option maxHeartbeats 1000000 in
theorem sort_any (B : Nat) (v : Value) (l : List (Int × Int)) (w : World) (h : ExO w B v l) (hB : B ≤ w.heap.size) (hl : l.length ≤ 8796093021952) :
    Calls Tryz.prog 139 #[v, .func (.func 140) #[] #[]] w fun e w' => e = .returned (.tuple #[]) ∧ ∃ s : List (Int × Int), s.Perm l ∧ s.Pairwise (fun a b => a.1 ≤ b.1) ∧ ExO w' B v s ∧ Below B w w' := by
  rcases h.2 with ⟨rfl, h0⟩ | ⟨g, cap, cur, rfl, hB, hc, h3, h4, h5, h6⟩
  · have : l = [] := List.eq_nil_of_length_eq_zero h0
    subst this
    exact (AnyF.slices_SortFunc_none exSort none 0 _ w).mono fun e w' ⟨he, hw⟩ => ⟨he, [], List.Perm.refl _, List.Pairwise.nil, by rw [hw]; exact ExO.nil _ _, by rw [hw]; exact Below.refl _ _⟩
  · have hlt := (Array.getElem?_eq_some_iff.1 hc).1
    have hH : HoldsK exC 2 w g 0 l.toArray := by
      intro j hj
      rw [size_flatK] at hj
      have hj2 : j < l.length * 2 := by simpa using hj
      rw [Nat.zero_add]
      refine ⟨?_, frozen_of_row w g j _ _ hc⟩
      rw [cell_of_row _ _ _ _ _ _ hc]
      have e1 : (cur.toList.take (l.length * 2))[j]? = (flatK exC 2 l.toArray).toList[j]? := by rw [h6, flat_array]
      rw [List.getElem?_take, if_pos hj2] at e1
      have hs : j < (flatK exC 2 l.toArray).size := by rw [size_flatK]; exact hj
      simp only [Array.getElem?_toList] at e1
      rw [e1, Array.getElem?_eq_getElem hs, getElem!_pos _ j hs]
      rfl
    have hcon := AnyQ.slices_SortFunc exSort 2 Tryz.isAgg45 Tryz.sizeOf45 exC (fun _ => rfl) (fun x v hv => flat_one [x] v (by simpa using hv)) cmpX swoX 140 #[] g 0 cap l.toArray w (enters_of Tryz.func140 (by kernel_rfl) rfl) (cmpLaysX g 0 _ w) hH hlt (by simp; omega)
    change Calls Tryz.prog 139 _ _ _ at hcon
    rw [List.size_toArray] at hcon
    refine hcon.mono ?_
    rintro e w' ⟨rfl, d', n, os, hp, hs, rfl⟩
    have hsz : d'.size = l.length := by have := hp.1; simpa using this
    obtain ⟨ho, hbel⟩ := sorted_own (w := w) (B := B) (g := g) (cap := cap) (cur := cur) (d' := d') (m := n) (os := os) hB hc (by omega) h4 h5
    rw [hsz] at ho
    refine ⟨rfl, d'.toList, ?_, ?_, ho, hbel.mono hB⟩
    · have := hp.2.2
      rw [show d'.extract 0 l.length = d' by rw [← hsz]; simp, show l.toArray.extract 0 l.length = l.toArray by simp] at this
      simpa using this
    · rw [List.pairwise_iff_getElem]
      intro i j hi hj hij
      have := hs i j (Nat.zero_le _) hij (by simp at hj; omega)
      rw [ltX] at this
      have h1 : d'[j]! = d'.toList[j] := by rw [getElem!_pos _ j (by simpa using hj)]; simp
      have h2 : d'[i]! = d'.toList[i] := by rw [getElem!_pos _ i (by simpa using hi)]; simp
      rw [h1, h2] at this
      have := of_decide_eq_false this
      omega

theorem rising_any (a : Option Addr) (cap : Nat) (l : List (Int × Int)) (w : World) (hl : Exs w a cap l) :
    Calls Tryz.prog 128 #[.slice a l.length cap] w fun e w' => ∃ v s, e = .returned v ∧ s.Perm l ∧ s.Pairwise (fun a b => a.1 ≤ b.1) ∧ ExO w' w.heap.size v s ∧ Below w.heap.size w w' := by
  have HC := hide (clone_any a cap l w hl)
  have hl3 := hl.2.2.1
  clear hl
  generalize hN : l.length = N at *
  have HN := hide hN
  clear hN
  go_enter Tryz.func128, Tryz.ntmps128
  go_wp2_with fail
  refine (unhide HC).mono ?_
  rintro e w1 ⟨v, rfl, ho, hb⟩
  have HS := hide (sort_any w.heap.size v l w1 ho hb.size (by rw [unhide HN]; exact hl3))
  have HB := hide hb
  clear hb ho HC
  go_wp2_with fail
  refine (unhide HS).mono ?_
  rintro e w2 ⟨rfl, s, hp, hs, ho, hb⟩
  have HF := hide (And.intro hp (And.intro hs (And.intro ho ((unhide HB).trans hb))))
  clear hp hs ho hb
  go_wp2
  go_ret
  exact ⟨v, s, rfl, (unhide HF).1, (unhide HF).2.1, (unhide HF).2.2.1, (unhide HF).2.2.2⟩
end Go.Proofs.YtllpeknpplpgeaaGreatDoor
/-! Contracts of package extent: Frees. (Part of the proofs over package extent.) -/
namespace Go.Proofs.YtllpeknpplpgeaaGreatDoor
open Go.RowKit Go.Sort Go.Shelf
set_option linter.unusedVariables false

theorem runs_take {T : List (Int × Int)} {k : Nat} (hk : k < T.length) : runsOf 0 (T.take (k + 1)) = runsOf 0 (T.take k) ++ (if endOf 0 (T.take k) < (T.getD k (0, 0)).1 then [(endOf 0 (T.take k), (T.getD k (0, 0)).1 - endOf 0 (T.take k))] else []) ∧ endOf 0 (T.take (k + 1)) = (T.getD k (0, 0)).1 + (T.getD k (0, 0)).2 := by
  have e : T.getD k (0, 0) = T[k] := by simp [List.getD, hk]
  rw [List.take_succ_eq_append_getElem hk, runsOf_append, endOf_append, e]
  refine ⟨?_, rfl⟩
  show _ ++ (_ ++ []) = _
  rw [List.append_nil]
theorem end_small {T : List (Int × Int)} (hT : ∀ e ∈ T, (0 ≤ e.1 ∧ 0 ≤ e.2) ∧ e.1 + e.2 ≤ 6400) : ∀ k, 0 ≤ endOf 0 (T.take k) ∧ endOf 0 (T.take k) ≤ 6400 := by
  have : ∀ (s : List (Int × Int)) (f : Int), 0 ≤ f → f ≤ 6400 → (∀ e ∈ s, (0 ≤ e.1 ∧ 0 ≤ e.2) ∧ e.1 + e.2 ≤ 6400) → 0 ≤ endOf f s ∧ endOf f s ≤ 6400 := by
    intro s
    induction s with
    | nil => intro f h1 h2 _; exact ⟨h1, h2⟩
    | cons e r ih => intro f _ _ h; have := h e (by simp); exact ih _ (by omega) (by omega) (fun x hx => h x (by simp [hx]))
  intro k
  exact this _ 0 (by omega) (by omega) (fun e he => hT e (List.mem_of_mem_take he))
theorem ex_news (w : World) (x y : Value) (t : TypeId) : ∀ j u, [x, y][j]? = some u → (w.alloc (.cells #[x, y] t)).cell? ((⟨w.heap.size, 0, none⟩ : Addr).add j) = some u := by
  intro j u hj
  rw [addr_add, cell_of_row _ _ _ _ _ (0, 0) (heap_alloc_new w _)]
  match j, hj with
  | 0, hj => simp at hj; subst hj; rfl
  | 1, hj => simp at hj; subst hj; rfl
theorem ex_news2 (w : World) (o : Obj) (x y : Value) (t : TypeId) : ∀ j u, [x, y][j]? = some u → ((w.alloc o).alloc (.cells #[x, y] t)).cell? ((⟨w.heap.size + 1, 0, none⟩ : Addr).add j) = some u := by
  have := ex_news (w.alloc o) x y t
  rw [show (w.alloc o).heap.size = w.heap.size + 1 by simp] at this
  exact this
theorem ex_one (x y : Int) : ∀ u ∈ [Value.int .i64 x, Value.int .i64 y], u.oneCell' = true := flat_one [(x, y)]
theorem ExO.more {w w' : World} {B : Nat} {v v' : Value} {l : List (Int × Int)} {x y : Int} (h : w'.ownsRow B 45 2 v' (l.length + 1) (l.flatMap exC ++ [.int .i64 x, .int .i64 y])) : ExO w' B v' (l ++ [(x, y)]) := by
  unfold ExO
  rw [List.length_append, List.flatMap_append]
  exact h
theorem ExO.block {w : World} {B : Nat} {v : Value} {l : List (Int × Int)} (h : ExO w B v l) : ∀ k, v.ownBlock = some k → B ≤ k ∧ k < w.heap.size := World.ownsRow.lt h

theorem frees_bad (n : Int) (a : Option Addr) (cap : Nat) (l : List (Int × Int)) (w : World) (hl : Exs w a cap l) (hc : chk n l ≠ 0) :
    Calls Tryz.prog 107 #[.int .i64 n, .slice a l.length cap] w fun e w' => e = .returned (.tuple #[.slice none 0 0, errV (chk n l)]) ∧ Below w.heap.size w w' := by
  have HC := hide (check_all n a cap l w hl)
  rw [errV_pos _ hc] at HC ⊢
  generalize chk n l = c at *
  generalize l.length = N at *
  clear hl hc
  go_enter Tryz.func107, Tryz.ntmps107
  go_wp2_with fail
  refine (unhide HC).mono ?_
  rintro e w1 ⟨rfl, hb⟩
  go_wp2
  go_ret2
  exact ⟨rfl, hb⟩

set_option maxHeartbeats 2000000 in
theorem frees_go (n : Int) (a : Option Addr) (cap : Nat) (l : List (Int × Int)) (w : World) (hl : Exs w a cap l) (hc : chk n l = 0) :
    Calls Tryz.prog 107 #[.int .i64 n, .slice a l.length cap] w fun e w' => ∃ v, e = .returned (.tuple #[v, .nilIface]) ∧ ExO w' w.heap.size v (freeOf n (srtL l)) ∧ Below w.heap.size w w' := by
  obtain ⟨i0, hi0, hz0, hz1, hz2⟩ := info_parts info_ex
  have hck := check_all n a cap l w hl
  rw [hc, errV_zero] at hck
  obtain ⟨h0, h1, h2, hg⟩ := chk_zero.1 hc
  have HC := hide hck
  have HL := hide hl
  have HG := hide hg
  clear hck hl hc hg
  go_enter Tryz.func107, Tryz.ntmps107
  go_wp2_with fail
  refine (unhide HC).mono ?_
  rintro e w1 ⟨rfl, hb1⟩
  have HR := hide (rising_any a cap l w1 ((unhide HL).below hb1))
  have HB1 := hide hb1
  clear hb1 HC
  go_wp2_with fail
  refine (unhide HR).mono ?_
  rintro e w2 ⟨vs, s, rfl, hp, hs, ho, hb2⟩
  have hse := (unhide HG).srt_eq hp hs
  subst hse
  have hlen : (YtllpeknpplpgeaaGreatDoor.srtL l).length ≤ 200 := by rw [hp.length_eq]; exact h2
  have hgs := (unhide HG).perm hp
  have HB2 := hide ((unhide HB1).trans (hb2.mono (unhide HB1).size))
  have hb2s := hb2.size
  have hb1s := (unhide HB1).size
  have ho2 : (w2.alloc (.cells #[.int .i64 n, .int .i64 0] 45)).ownsRow w1.heap.size 45 2 vs (YtllpeknpplpgeaaGreatDoor.srtL l).length ((YtllpeknpplpgeaaGreatDoor.srtL l).flatMap exC) := World.ownsRow.alloc ho _
  have HGS := hide hgs
  have HO := hide ho2
  have HOW := hide ho.block
  clear ho ho2 hp hs hb2 HB1 hgs HR
  generalize hgen : YtllpeknpplpgeaaGreatDoor.srtL l = s at *
  have HGEN := hide hgen
  clear hgen
  go_wp2_with (at_builtin; refine wpList_append_own _ rfl _ _ 123 rfl w1.heap.size 45 i0 (.agg #[.int .i64 0, .int .i64 0]) 2 16 Tryz.underlying123 hi0 hz0 hz1 hz2 rfl (by decide) _ _ _ rfl (unhide HO) ⟨w2.heap.size, 0, none⟩ 1 1 [.int .i64 n, .int .i64 0] rfl rfl (ex_news _ _ _ _) (ex_one _ _) (by unfold maxLen; omega) (by omega) (by simp; omega) ?_)
  intro vt w3 hown3 hgrow3 hnil3
  have ho3 : ExO w3 w1.heap.size vt (s ++ [(n, 0)]) := ExO.more (w := w2) (v := vs) hown3
  have HB3 : Hid (Below w.heap.size w w3) := hide ((((unhide HB2).alloc (unhide HB2).size _)).grown hgrow3 (by simp; omega) (fun k hk => by have := (unhide HOW k hk).1; omega))
  have hT : ∀ e ∈ s ++ [(n, 0)], (0 ≤ e.1 ∧ 0 ≤ e.2) ∧ e.1 + e.2 ≤ 6400 := fun e he => by
    rcases List.mem_append.1 he with he | he
    · have := (unhide HGS).all e he; omega
    · rw [List.mem_singleton.1 he]; dsimp only; omega
  have hTl : (s ++ [(n, 0)]).length ≤ 201 := by rw [List.length_append]; simp; omega
  obtain ⟨at', ct, rfl, hTx⟩ := ho3.exs (fun e he => by have := hT e he; unfold InI; omega) (by omega)
  have hne : s ++ [(n, 0)] ≠ [] := by simp
  obtain ⟨bt, ot, rfl, hcell⟩ := hTx.2.2.2 hne
  have hbt := block_lt_of_cell (hcell 0 (by simp)).1
  dsimp only at hbt
  have HCELL := hide hcell
  have HT := hide hT
  have hfr : freeOf n s = runsOf 0 ((s ++ [(n, 0)]).take (s ++ [(n, 0)]).length) := by rw [List.take_length]; rfl
  have HFR := hide hfr
  rw [show (s.length : Nat) + 1 = (s ++ [(n, 0)]).length by simp] at *
  clear hcell hTx ho3 hown3 hgrow3 hnil3 hT HO HOW HGS HB2 hfr hne
  generalize s ++ [(n, 0)] = T at *
  go_wp2_with fail
  go_loopw [7, 8, 24] (fun rv0 fv cv wr => ∃ (k : Nat) (rv : Value), rv = rv0 ∧ k ≤ T.length ∧ cv = .int .i64 k ∧ fv = .int .i64 (endOf 0 (T.take k)) ∧ ExO wr w3.heap.size rv (runsOf 0 (T.take k)) ∧ Below w3.heap.size w3 wr) (fun _ _ cv _ => T.length - (intOf cv).toNat)
  case atStart => exact ⟨0, _, rfl, Nat.zero_le _, rfl, rfl, ExO.nil _ _, Below.refl _ _⟩
  case round =>
    obtain ⟨k, rv, hrv, hk, rfl, rfl, hown, hbel⟩ := hrel
    subst hrv
    by_cases hlt : k < T.length
    · obtain ⟨c0, c1⟩ := unhide HCELL k hlt
      rw [← hbel.cell (p := ⟨bt, ot + k * 2, none⟩) hbt] at c0
      rw [← hbel.cell (p := ⟨bt, ot + k * 2 + 1, none⟩) hbt] at c1
      obtain ⟨r1, r2⟩ := runs_take hlt
      obtain ⟨f1, f2⟩ := end_small (unhide HT) k
      have hrl : (runsOf 0 (T.take k)).length ≤ 201 := Nat.le_trans (runs_len _ _) (by simp; omega)
      have hmem : T.getD k (0, 0) ∈ T := by
        have : T.getD k (0, 0) = T[k] := by simp [List.getD, hlt]
        rw [this]; exact List.getElem_mem hlt
      have hTk := unhide HT _ hmem
      have hblk := hown.block
      have hs3 := hbel.size
      generalize T.getD k (0, 0) = e at *
      generalize endOf 0 (T.take k) = f at *
      obtain ⟨x, y⟩ := e
      dsimp only at *
      obtain ⟨⟨t1, t2⟩, t3⟩ := hTk
      have hsm : Sm (x, y) := by unfold Sm; dsimp only; omega
      by_cases hfx : f < x
      · rw [if_pos hfx] at r1
        have HR1 := hide r1
        have HR2 := hide r2
        have hlt2 := Nat.lt_of_lt_of_le hbt hs3
        have ho1 : ((wr.alloc (.cells #[.int .i64 x, .int .i64 y] 45)).alloc (.cells #[.int .i64 f, .int .i64 (x - f)] 45)).ownsRow w3.heap.size 45 2 rv (runsOf 0 (T.take k)).length ((runsOf 0 (T.take k)).flatMap exC) := World.ownsRow.alloc (World.ownsRow.alloc hown _) _
        have HO1 := hide ho1
        have HBEL := hide hbel
        have HBLK := hide hblk
        clear ho1 hown hbel r1 r2 hblk hmem
        generalize hrun : runsOf 0 (T.take k) = rr at *
        have HRUN := hide hrun
        clear hrun
        go_wp2_with (at_builtin; refine wpList_append_own _ rfl _ _ 123 rfl w3.heap.size 45 i0 (.agg #[.int .i64 0, .int .i64 0]) 2 16 Tryz.underlying123 hi0 hz0 hz1 hz2 rfl (by decide) _ _ _ rfl (unhide HO1) ⟨wr.heap.size + 1, 0, none⟩ 1 1 [.int .i64 f, .int .i64 (x - f)] rfl rfl (ex_news2 _ _ _ _ _) (ex_one _ _) (by unfold maxLen; omega) (by omega) (by simp; omega) ?_)
        intro v' w' hown' hgrow' hn'
        have ho' : ExO w' w3.heap.size v' (rr ++ [(f, x - f)]) := ExO.more (w := wr) (v := rv) hown'
        have hb' : Below w3.heap.size w3 w' := (((unhide HBEL).alloc hs3 _).alloc (by simp; omega) _).grown hgrow' (by simp; omega) (fun j hj => (unhide HBLK j hj).1)
        have hnb : some wr.heap.size ≠ rv.ownBlock := fun e => by have := (unhide HBLK _ e.symm).2; omega
        have d0 : w'.cell? ⟨wr.heap.size, 0, none⟩ = some (.int .i64 x) := hgrow'.cell (a := ⟨wr.heap.size, 0, none⟩) (by rw [World.cell?_alloc_lt _ _ ⟨wr.heap.size, 0, none⟩ (by simp), cell_of_row _ _ _ _ _ (0, 0) (heap_alloc_new wr _)]; rfl) hnb
        have d1 : w'.cell? ⟨wr.heap.size, 1, none⟩ = some (.int .i64 y) := hgrow'.cell (a := ⟨wr.heap.size, 1, none⟩) (by rw [World.cell?_alloc_lt _ _ ⟨wr.heap.size, 1, none⟩ (by simp), cell_of_row _ _ _ _ _ (0, 0) (heap_alloc_new wr _)]; rfl) hnb
        have HBH := hide (behind_any (x, y) w' hsm)
        have HO' := hide ho'
        have HB' := hide hb'
        clear hown' hgrow' hn' ho' hb' hnb c0 c1 HO1
        go_wp2_with fail
        refine (unhide HBH).mono ?_
        rintro e w5 ⟨rfl, hb5⟩
        have HO5 := hide ((unhide HO').below hb5)
        have HB5 := hide ((unhide HB').trans (hb5.mono (unhide HB').size))
        clear hb5 d0 d1
        go_wp2
        go_roundw
        case rel => exact ⟨k + 1, _, rfl, by omega, by go_num, by rw [unhide HR2], by rw [unhide HR1]; exact unhide HO5, unhide HB5⟩
        case measure => simp [intOf]; omega
      · rw [if_neg hfx, List.append_nil] at r1
        have HR1 := hide r1
        have HR2 := hide r2
        have hb1 : Below w3.heap.size w3 (wr.alloc (.cells #[.int .i64 x, .int .i64 y] 45)) := hbel.alloc hs3 _
        have ho1 : ExO (wr.alloc (.cells #[.int .i64 x, .int .i64 y] 45)) w3.heap.size rv (runsOf 0 (T.take k)) := World.ownsRow.alloc hown _
        have HBH := hide (behind_any (x, y) (wr.alloc (.cells #[.int .i64 x, .int .i64 y] 45)) hsm)
        have HO1 := hide ho1
        have HBEL := hide hb1
        clear ho1 hown hbel r1 r2 hblk hmem hb1
        go_wp2_with fail
        refine (unhide HBH).mono ?_
        rintro e w5 ⟨rfl, hb5⟩
        have HO5 := hide ((unhide HO1).below hb5)
        have HB5 := hide ((unhide HBEL).trans (hb5.mono (unhide HBEL).size))
        clear hb5
        go_wp2
        go_roundw
        case rel => exact ⟨k + 1, _, rfl, by omega, by go_num, by rw [unhide HR2], by rw [unhide HR1]; exact unhide HO5, unhide HB5⟩
        case measure => simp [intOf]; omega
    · obtain rfl : k = T.length := by omega
      rw [← unhide HFR, ← unhide HGEN] at hown
      have HF := hide hown
      have HBF := hide ((unhide HB3).trans (hbel.mono (unhide HB3).size))
      have hs3 := (unhide HB3).size
      clear hown hbel
      go_wp2
      go_ret2
      exact ⟨_, rfl, (unhide HF).base hs3, unhide HBF⟩

theorem frees_any (n : Int) (a : Option Addr) (cap : Nat) (l : List (Int × Int)) (w : World) (hl : Exs w a cap l) :
    Calls Tryz.prog 107 #[.int .i64 n, .slice a l.length cap] w fun e w' => ∃ v, e = .returned (.tuple #[v, errV (chk n l)]) ∧ ExO w' w.heap.size v (freeL n l) ∧ Below w.heap.size w w' := by
  unfold freeL
  by_cases hc : chk n l = 0
  · rw [if_pos hc]
    exact (frees_go n a cap l w hl hc).mono fun e w' ⟨v, he, h1, h2⟩ => ⟨v, by rw [he, hc]; rfl, h1, h2⟩
  · rw [if_neg hc]
    exact (frees_bad n a cap l w hl hc).mono fun e w' ⟨he, h2⟩ => ⟨_, he, ExO.nil _ _, h2⟩
end Go.Proofs.YtllpeknpplpgeaaGreatDoor
/-! Contracts of package extent: Fit. (Part of the proofs over package extent.) -/
namespace Go.Proofs.YtllpeknpplpgeaaGreatDoor
open Go.RowKit Go.Sort Go.Shelf
set_option linter.unusedVariables false

/-- Block g is one extent. -/
def ExB (w : World) (g : Nat) (e : (Int × Int)) : Prop := w.heap[g]? = some (.cells #[.int .i64 e.1, .int .i64 e.2] 45 (0, 0))
theorem ExB.lt {w : World} {g : Nat} {e : (Int × Int)} (h : ExB w g e) : g < w.heap.size := (Array.getElem?_eq_some_iff.1 h).1
theorem ExB.c0 {w : World} {g : Nat} {e : (Int × Int)} (h : ExB w g e) : w.cell? ⟨g, 0, none⟩ = some (.int .i64 e.1) := by rw [cell_of_row _ _ _ _ _ _ h]; rfl
theorem ExB.c1 {w : World} {g : Nat} {e : (Int × Int)} (h : ExB w g e) : w.cell? ⟨g, 1, none⟩ = some (.int .i64 e.2) := by rw [cell_of_row _ _ _ _ _ _ h]; rfl
theorem ExB.fr {w : World} {g : Nat} {e : (Int × Int)} (h : ExB w g e) (i : Nat) : w.frozen? ⟨g, i, none⟩ = false := frozen_of_row w g i _ _ h
theorem ExB.alloc {w : World} {g : Nat} {e : (Int × Int)} (h : ExB w g e) (o : Obj) : ExB (w.alloc o) g e := (heap_alloc_old w o h.lt).trans h
theorem ExB.set {w : World} {g : Nat} {e : (Int × Int)} (h : ExB w g e) (x y : Int) : ExB ((w.setCell ⟨g, 0, none⟩ (.int .i64 x)).setCell ⟨g, 1, none⟩ (.int .i64 y)) g (x, y) := by
  have h1 := heap_setCell_same w g 0 _ _ (.int .i64 x) h
  have h2 := heap_setCell_same (w.setCell ⟨g, 0, none⟩ (.int .i64 x)) g 1 _ _ (.int .i64 y) h1
  exact h2
theorem ExB.new (w : World) (x y : Int) : ExB (w.alloc (.cells #[.int .i64 x, .int .i64 y] 45)) w.heap.size (x, y) := heap_alloc_new w _

theorem fit_bad (n : Int) (a : Option Addr) (cap : Nat) (l : List (Int × Int)) (size : Int) (w : World) (hl : Exs w a cap l) (hc : chk n l ≠ 0) :
    Calls Tryz.prog 72 #[.int .i64 n, .slice a l.length cap, .int .i64 size] w fun e w' => e = .returned (.tuple #[.int .i64 0, errV (chk n l)]) ∧ Below w.heap.size w w' := by
  have HC := hide (frees_any n a cap l w hl)
  rw [errV_pos _ hc] at HC ⊢
  generalize chk n l = c at *
  generalize freeL n l = h at *
  generalize l.length = N at *
  clear hl hc
  go_enter Tryz.func72, Tryz.ntmps72
  go_wp2_with fail
  refine (unhide HC).mono ?_
  rintro e w1 ⟨v, rfl, _, hb⟩
  go_wp2
  go_ret2
  exact ⟨rfl, hb⟩
theorem fit_size (n : Int) (a : Option Addr) (cap : Nat) (l : List (Int × Int)) (size : Int) (w : World) (hl : Exs w a cap l) (hc : chk n l = 0) (hs : size < 1 ∨ 6400 < size) :
    Calls Tryz.prog 72 #[.int .i64 n, .slice a l.length cap, .int .i64 size] w fun e w' => e = .returned (.tuple #[.int .i64 0, errV 1]) ∧ Below w.heap.size w w' := by
  have HC := hide (frees_any n a cap l w hl)
  rw [hc, errV_zero] at HC
  rw [errV_pos 1 (by decide)]
  generalize freeL n l = h at *
  generalize l.length = N at *
  clear hl hc
  by_cases h1 : size < 1
  · go_enter Tryz.func72, Tryz.ntmps72
    go_wp2_with fail
    refine (unhide HC).mono ?_
    rintro e w1 ⟨v, rfl, _, hb⟩
    go_wp2
    go_ret2
    exact ⟨rfl, hb⟩
  · have h2 : 6400 < size := by omega
    go_enter Tryz.func72, Tryz.ntmps72
    go_wp2_with fail
    refine (unhide HC).mono ?_
    rintro e w1 ⟨v, rfl, _, hb⟩
    go_wp2
    go_ret2
    exact ⟨rfl, hb⟩

theorem fit_take {size : Int} {h : List (Int × Int)} {k : Nat} (hk : k < h.length) : fitB size (h.take (k + 1)) = fitStep size (fitB size (h.take k)) (h.getD k (0, 0)) := by
  have e : h.getD k (0, 0) = h[k] := by simp [List.getD, hk]
  unfold fitB
  rw [List.take_succ_eq_append_getElem hk, List.foldl_append, e]
  rfl

set_option maxHeartbeats 2000000 in
theorem fit_go (n : Int) (a : Option Addr) (cap : Nat) (l : List (Int × Int)) (size : Int) (w : World) (hl : Exs w a cap l) (hc : chk n l = 0) (hs1 : 1 ≤ size) (hs2 : size ≤ 6400) (A E : Int) (hAE : ((fitB size (freeL n l)).2 = 0 ∧ A = 0 ∧ E = 4) ∨ ((fitB size (freeL n l)).2 ≠ 0 ∧ A = (fitB size (freeL n l)).1 ∧ E = 0)) :
    Calls Tryz.prog 72 #[.int .i64 n, .slice a l.length cap, .int .i64 size] w fun e w' => e = .returned (.tuple #[.int .i64 A, errV E]) ∧ Below w.heap.size w w' := by
  obtain ⟨hsm, hlen⟩ := freeL_small hc
  have h0 := (chk_zero.1 hc).2.1
  have HC := hide (frees_any n a cap l w hl)
  rw [hc, errV_zero] at HC
  have g1 : ¬ size < 1 := by omega
  have g2 : ¬ 6400 < size := by omega
  generalize freeL n l = h at *
  have HAE := hide hAE
  clear hl hc hAE
  generalize l.length = N at *
  go_enter Tryz.func72, Tryz.ntmps72
  go_wp2_with fail
  refine (unhide HC).mono ?_
  rintro e w1 ⟨v, rfl, ho, hb1⟩
  obtain ⟨ah, ch, rfl, hx⟩ := ho.exs (fun e he => by have := hsm e he; unfold InI; omega) (by omega)
  have HX := hide hx
  have HB1 := hide hb1
  have HSM := hide hsm
  clear hx ho hb1 hsm HC
  go_wp2_with fail
  go_loopw [32] (fun cv wr => ∃ k : Nat, k ≤ h.length ∧ cv = .int .i64 k ∧ ExB wr w1.heap.size (fitB size (h.take k)) ∧ Below w1.heap.size w1 wr) (fun cv _ => h.length - (intOf cv).toNat)
  case atStart => exact ⟨0, Nat.zero_le _, rfl, ExB.new _ _ _, (Below.refl _ _).alloc (Nat.le_refl _) _⟩
  case round =>
    obtain ⟨k, hk, rfl, hB, hbel⟩ := hrel
    by_cases hlt : k < h.length
    · have hne : h ≠ [] := by intro e; rw [e] at hlt; simp at hlt
      obtain ⟨b, off, rfl, hcell⟩ := (unhide HX).2.2.2 hne
      obtain ⟨c0, c1⟩ := hcell k hlt
      rw [← hbel.cell (block_lt_of_cell c0)] at c0
      rw [← hbel.cell (block_lt_of_cell c1)] at c1
      have hst := fit_take (size := size) hlt
      have hblt := hB.lt
      generalize h.getD k (0, 0) = r at *
      generalize fitB size (h.take k) = best at *
      obtain ⟨x, y⟩ := r
      obtain ⟨b1, b2⟩ := best
      dsimp only at *
      have hB' := hB.alloc (.cells #[.int .i64 x, .int .i64 y] 45)
      have hR := ExB.new wr x y
      have d0 := hB.c0
      have d1 := hB.c1
      have e0 := hB.fr 0
      have e1 := hB.fr 1
      dsimp only at d0 d1
      have HBW := hide hB
      have HBE := hide hbel
      have hbA : Below w1.heap.size w1 (wr.alloc (.cells #[.int .i64 x, .int .i64 y] 45)) := hbel.alloc hbel.size _
      have HBA := hide hbA
      have HB' := hide hB'
      have HST := hide hst
      clear hB hB' hbel hbA hst hcell hR hne
      by_cases q1 : size ≤ y
      · by_cases q2 : b2 = 0
        · have HS2 : Hid (fitB size (h.take (k + 1)) = (x, y)) := hide (by rw [unhide HST]; exact if_pos ⟨q1, .inl q2⟩)
          subst q2
          clear HST
          go_wp2
          go_roundw
          case rel => exact ⟨k + 1, by omega, by go_num, by rw [unhide HS2]; exact ((unhide HBW).set x y).alloc _, (((unhide HBE).setCell (Nat.le_refl _) _).setCell (Nat.le_refl _) _).alloc (by have := (unhide HBE).size; simp; omega) _⟩
          case measure => simp [intOf]; omega
        · by_cases q3 : y < b2
          · have HS2 : Hid (fitB size (h.take (k + 1)) = (x, y)) := hide (by rw [unhide HST]; exact if_pos ⟨q1, .inr q3⟩)
            clear HST
            go_wp2
            go_roundw
            case rel => exact ⟨k + 1, by omega, by go_num, by rw [unhide HS2]; exact ((unhide HBW).set x y).alloc _, (((unhide HBE).setCell (Nat.le_refl _) _).setCell (Nat.le_refl _) _).alloc (by have := (unhide HBE).size; simp; omega) _⟩
            case measure => simp [intOf]; omega
          · have HS2 : Hid (fitB size (h.take (k + 1)) = (b1, b2)) := hide (by rw [unhide HST]; exact if_neg (fun hh => hh.2.elim q2 q3))
            clear HST
            go_wp2
            go_roundw
            case rel => exact ⟨k + 1, by omega, by go_num, by rw [unhide HS2]; exact unhide HB', unhide HBA⟩
            case measure => simp [intOf]; omega
      · have HS2 : Hid (fitB size (h.take (k + 1)) = (b1, b2)) := hide (by rw [unhide HST]; exact if_neg (fun hh => q1 hh.1))
        clear HST
        go_wp2
        go_roundw
        case rel => exact ⟨k + 1, by omega, by go_num, by rw [unhide HS2]; exact unhide HB', unhide HBA⟩
        case measure => simp [intOf]; omega
    · obtain rfl : k = h.length := by omega
      rw [List.take_length] at hB
      have d0 := hB.c0
      have d1 := hB.c1
      have HBF := hide ((unhide HB1).trans (hbel.mono (unhide HB1).size))
      clear hB hbel
      have hae := unhide HAE
      clear HAE
      generalize fitB size h = best at *
      obtain ⟨b1, b2⟩ := best
      dsimp only at *
      rcases hae with ⟨q, rfl, rfl⟩ | ⟨q, rfl, rfl⟩
      · subst q
        go_wp2
        go_ret2
        exact ⟨rfl, unhide HBF⟩
      · go_wp2
        go_ret2
        exact ⟨rfl, unhide HBF⟩

theorem fit_any (n : Int) (a : Option Addr) (cap : Nat) (l : List (Int × Int)) (size : Int) (w : World) (hl : Exs w a cap l) :
    Calls Tryz.prog 72 #[.int .i64 n, .slice a l.length cap, .int .i64 size] w fun e w' => e = .returned (.tuple #[.int .i64 (fitAt n l size), errV (fitE n l size)]) ∧ Below w.heap.size w w' := by
  by_cases hc : chk n l = 0
  · by_cases hs : size < 1 ∨ 6400 < size
    · have e1 : fitE n l size = 1 := by unfold fitE; rw [if_neg (fun h => h hc), if_pos hs]
      have e2 : fitAt n l size = 0 := by unfold fitAt; rw [e1]; rfl
      rw [e1, e2]
      exact fit_size n a cap l size w hl hc hs
    · by_cases h0 : (fitB size (freeL n l)).2 = 0
      · have e1 : fitE n l size = 4 := by unfold fitE; rw [if_neg (fun h => h hc), if_neg hs, if_pos h0]
        have e2 : fitAt n l size = 0 := by unfold fitAt; rw [e1]; rfl
        exact fit_go n a cap l size w hl hc (by omega) (by omega) _ _ (.inl ⟨h0, e2, e1⟩)
      · have e1 : fitE n l size = 0 := by unfold fitE; rw [if_neg (fun h => h hc), if_neg hs, if_neg h0]
        have e2 : fitAt n l size = (fitB size (freeL n l)).1 := by unfold fitAt; rw [e1]; rfl
        exact fit_go n a cap l size w hl hc (by omega) (by omega) _ _ (.inr ⟨h0, e2, e1⟩)
  · have e1 : fitE n l size = chk n l := by unfold fitE; rw [if_pos hc]
    have e2 : fitAt n l size = 0 := by unfold fitAt; rw [e1, if_neg hc]
    rw [e1, e2]
    exact fit_bad n a cap l size w hl hc
end Go.Proofs.YtllpeknpplpgeaaGreatDoor
/-! Contracts of package heap: the least handle that is none; where there is room. (Part of the proofs over package heap.) -/
namespace Go.Proofs.YtllpeknpplpgeaaGreatDoor
open Go.RowKit
set_option linter.unusedVariables false

set_option maxHeartbeats 1000000 in
theorem least_any (a : Option Addr) (cap : Nat) (l : List (Int × Int × Int × Int)) (w : World) (hs : Sls enC 4 w a cap l) (hl : l.length ≤ 40) :
    Calls Tryz.prog 40 #[.slice a l.length cap] w fun e w' => e = .returned (.tuple #[.int .i64 (if 40 < lowF l then 0 else lowF l), errV (if 40 < lowF l then 4 else 0)]) ∧ Below w.heap.size w w' := by
  have hcap := hs.2.2.1
  have HS := hide hs
  clear hs
  generalize hA : (if 40 < lowF l then (0 : Int) else lowF l) = RA
  generalize hE : errV (if 40 < lowF l then 4 else 0) = RE
  have HA := hide hA
  have HE := hide hE
  clear hA hE
  go_enter Tryz.func40, Tryz.ntmps40
  go_wp2_with fail
  go_loopw [4, 9] (fun hv iv wr => ∃ k : Nat, k ≤ l.length ∧ iv = .int .i64 k ∧ hv = .int .i64 (lowF (l.take k)) ∧ Below w.heap.size w wr) (fun _ iv _ => l.length - (intOf iv).toNat)
  case atStart => exact ⟨0, Nat.zero_le _, rfl, rfl, Below.refl _ _⟩
  case round =>
    obtain ⟨k, hk, rfl, rfl, hbel⟩ := hrel
    have hbd := lowF_bd (l.take k)
    by_cases hlt : k < l.length
    · have hne : l ≠ [] := by intro e; rw [e] at hlt; simp at hlt
      obtain ⟨b1, o1, rfl, hc1⟩ := ((unhide HS).below hbel).2.2.2 hne
      obtain ⟨f, hf⟩ : ∃ f, l[k]? = some f := ⟨l[k], List.getElem?_eq_getElem hlt⟩
      obtain ⟨q0, q1, q2, q3⟩ := Sls.ent (cap := 0) hc1 hf
      have HT := hide (lowF_take hf)
      have HBEL := hide hbel
      have hkl : (l.take k).length ≤ 40 := by simp; omega
      obtain ⟨x, y, z, t⟩ := f
      dsimp only at *
      clear hc1 hf hne hbel
      generalize lowF (l.take k) = H at *
      by_cases he : x = H
      · subst he
        go_wp2
        go_roundw
        case rel => exact ⟨k + 1, by omega, by go_num, by rw [unhide HT, if_pos rfl], (unhide HBEL).alloc (unhide HBEL).size _⟩
        case measure => simp [intOf]; omega
      · have he' : (x == H) = false := by rw [beq_eq_false_iff_ne]; exact he
        go_wp2
        go_roundw
        case rel => exact ⟨k + 1, by omega, by go_num, by rw [unhide HT, if_neg he], (unhide HBEL).alloc (unhide HBEL).size _⟩
        case measure => simp [intOf]; omega
    · obtain rfl : k = l.length := by omega
      rw [List.take_length] at hbd ⊢
      have HBEL := hide hbel
      clear hbel
      generalize lowF l = H at *
      by_cases hH : 40 < H
      · go_wp2
        go_ret2
        have h1 := unhide HA
        have h2 := unhide HE
        rw [if_pos hH] at h1 h2
        exact ⟨by rw [← h1, ← h2]; rfl, unhide HBEL⟩
      · go_wp2
        go_ret2
        have h1 := unhide HA
        have h2 := unhide HE
        rw [if_neg (by omega)] at h1 h2
        exact ⟨by rw [← h1, ← h2]; rfl, unhide HBEL⟩

/-- What entries take behind the head, as a row of extents that a call made. -/
theorem info_exH : (Tryz.prog.info? 45).map (fun i => (i.zero, i.size, i.bytes)) = some (some (.agg #[.int .i64 0, .int .i64 0]), 2, 16) := by kernel_rfl
theorem exC_len (e : Int × Int) : (exC e).length = 2 := rfl
theorem exC_one (e : Int × Int) : ∀ u ∈ exC e, u.oneCell' = true := by
  intro u hu
  unfold exC at hu
  rcases List.mem_cons.1 hu with rfl | hu
  · rfl
  rw [List.mem_singleton.1 hu]
  rfl
theorem sh_take {l : List (Int × Int × Int × Int)} {k : Nat} {e : (Int × Int × Int × Int)} (h : l[k]? = some e) : (l.map shE).take (k + 1) = (l.map shE).take k ++ [(e.2.1 - 288, e.2.2.1)] := by
  rw [List.take_add_one, List.getElem?_map, h]
  rfl
set_option maxHeartbeats 2000000 in
theorem room_any (n : Nat) (a : Option Addr) (cap : Nat) (l : List (Int × Int × Int × Int)) (size : Int) (w : World) (hs : Sls enC 4 w a cap l) (hl : l.length ≤ 40) (hn : 288 ≤ n ∧ n ≤ 6400) (hin : ∀ e ∈ l, 0 ≤ e.2.1 ∧ e.2.1 ≤ 65535 ∧ 0 ≤ e.2.2.1 ∧ e.2.2.1 ≤ 65535) :
    Calls Tryz.prog 41 #[.int .i64 n, .slice a l.length cap, .int .i64 size] w fun e w' => e = .returned (.tuple #[.int .i64 (if fitE ((n : Int) - 288) (l.map shE) size = 0 then 288 + fitAt ((n : Int) - 288) (l.map shE) size else 0), errV (fitE ((n : Int) - 288) (l.map shE) size)]) ∧ Below w.heap.size w w' := by
  obtain ⟨i0, hi0, hz0, hz1, hz2⟩ := info_parts info_exH
  have hcap := hs.2.2.1
  have HS := hide hs
  have HIN := hide hin
  clear hs hin
  generalize hA : (if fitE ((n : Int) - 288) (l.map shE) size = 0 then 288 + fitAt ((n : Int) - 288) (l.map shE) size else 0) = RA
  generalize hE : errV (fitE ((n : Int) - 288) (l.map shE) size) = RE
  have HA := hide hA
  have HE := hide hE
  clear hA hE
  go_enter Tryz.func41, Tryz.ntmps41
  go_wp2_with fail
  go_loopw [8, 15] (fun v iv wr => ∃ k : Nat, k ≤ l.length ∧ iv = .int .i64 k ∧ Lst exC 2 45 wr w.heap.size v ((l.map shE).take k) ∧ Below w.heap.size w wr) (fun _ iv _ => l.length - (intOf iv).toNat)
  case atStart => exact ⟨0, Nat.zero_le _, rfl, Lst.nil _ _, Below.refl _ _⟩
  case round =>
    obtain ⟨k, hk, rfl, hown, hbel⟩ := hrel
    obtain ⟨va, vm, vc, rfl⟩ := hown.shape
    by_cases hlt : k < l.length
    · have hne : l ≠ [] := by intro e; rw [e] at hlt; simp at hlt
      obtain ⟨b1, o1, rfl, hc1⟩ := ((unhide HS).below hbel).2.2.2 hne
      obtain ⟨f, hf⟩ : ∃ f, l[k]? = some f := ⟨l[k], List.getElem?_eq_getElem hlt⟩
      obtain ⟨q0, q1, q2, q3⟩ := Sls.ent (cap := 0) hc1 hf
      have HT := hide (sh_take hf)
      have hfi := unhide HIN f (List.mem_of_getElem? hf)
      have hml : ((l.map shE).take k).length ≤ 40 := by simp; omega
      obtain ⟨x, y, z, t⟩ := f
      dsimp only at *
      have hB1 := hbel.alloc hbel.size (.cells #[.int .i64 x, .int .i64 y, .int .i64 z, .int .i64 t] 47)
      have HB3 := hide (hB1.alloc hB1.size (.cells #[.int .i64 (y - 288), .int .i64 z] 45))
      have HO3 := hide ((hown.below ((Below.refl _ _).alloc (Nat.le_refl _) (.cells #[.int .i64 x, .int .i64 y, .int .i64 z, .int .i64 t] 47))).below ((Below.refl _ _).alloc (Nat.le_refl _) (.cells #[.int .i64 (y - 288), .int .i64 z] 45)))
      have HGN : Hid (((wr.alloc (.cells #[.int .i64 x, .int .i64 y, .int .i64 z, .int .i64 t] 47)).alloc (.cells #[.int .i64 (y - 288), .int .i64 z] 45)).heap[wr.heap.size + 1]? = some (.cells (exC (y - 288, z)).toArray 45 (0, 0))) := hide (by
        have := heap_alloc_new (wr.alloc (.cells #[.int .i64 x, .int .i64 y, .int .i64 z, .int .i64 t] 47)) (.cells #[.int .i64 (y - 288), .int .i64 z] 45)
        rw [sz_alloc] at this
        exact this)
      have hsz := hbel.size
      clear hc1 hf hne hbel hB1 hown
      go_wp2_with (at_builtin; refine wpList_append_lst rfl _ _ 123 rfl w.heap.size i0 (.agg #[.int .i64 0, .int .i64 0]) 16 Tryz.underlying123 hi0 hz0 hz1 hz2 rfl (by decide) (by decide) _ _ rfl (unhide HO3) (wr.heap.size + 1) (y - 288, z) rfl (unhide HGN) rfl (exC_one _) (by omega) (by simp; omega) ?_)
      intro v9 w9 hown9 hbel9
      rw [← unhide HT] at hown9
      have HO9 := hide hown9
      have HB9 := hide ((unhide HB3).trans hbel9)
      obtain ⟨a9, m9, c9, rfl⟩ := hown9.shape
      clear hown9 hbel9 HO3 HB3 HGN q0 q1 q2 q3
      go_wp2
      go_roundw
      case rel => exact ⟨k + 1, by omega, by go_num, unhide HO9, unhide HB9⟩
      case measure => simp [intOf]; omega
    · obtain rfl : k = l.length := by omega
      rw [List.take_of_length_le (by simp)] at hown
      have ho : ExO wr w.heap.size (.slice va vm vc) (l.map shE) := hown
      obtain ⟨a2, c2, e2, hexs⟩ := ho.exs (fun e he => by
        obtain ⟨f, hf, rfl⟩ := List.mem_map.1 he
        have := unhide HIN f hf
        unfold InI shE
        dsimp only
        omega) (by simp; omega)
      simp only [Value.slice.injEq] at e2
      obtain ⟨rfl, rfl, rfl⟩ := e2
      have HF := hide (fit_any ((n : Int) - 288) va vc (l.map shE) size wr hexs)
      have HBEL := hide hbel
      have hml : (l.map shE).length ≤ 40 := by simp; omega
      have hfa : 0 ≤ fitAt ((n : Int) - 288) (l.map shE) size ∧ fitAt ((n : Int) - 288) (l.map shE) size ≤ 6400 := by
        unfold fitAt
        by_cases h0 : fitE ((n : Int) - 288) (l.map shE) size = 0
        · rw [if_pos h0]
          unfold fitE at h0
          by_cases h1 : chk ((n : Int) - 288) (l.map shE) = 0
          · have h2 := freeL_small h1
            rw [if_neg (fun h => h h1)] at h0
            by_cases h3 : size < 1 ∨ 6400 < size
            · rw [if_pos h3] at h0; exact absurd h0 (by decide)
            · rw [if_neg h3] at h0
              by_cases h4 : (fitB size (freeL ((n : Int) - 288) (l.map shE))).2 = 0
              · rw [if_pos h4] at h0; exact absurd h0 (by decide)
              · rcases fit_spec (size := size) (by omega) (fun r hr => (h2.1 r hr).2.1) with ⟨h5, _⟩ | ⟨_, h6, _⟩
                · exact absurd h5 h4
                · have := h2.1 _ h6; omega
          · rw [if_pos h1] at h0; exact absurd h0 h1
        · rw [if_neg h0]; omega
      clear hown ho hexs hbel
      generalize fitAt ((n : Int) - 288) (l.map shE) size = FA at *
      generalize fitE ((n : Int) - 288) (l.map shE) size = FE at *
      generalize (l.map shE).length = M at *
      go_wp2_with fail
      refine (unhide HF).mono ?_
      rintro e w1 ⟨rfl, hb1⟩
      have HB1 := hide ((unhide HBEL).trans (hb1.mono (unhide HBEL).size))
      clear hb1 HF HBEL
      by_cases h0 : FE = 0
      · subst h0
        rw [errV_zero]
        go_wp2
        go_ret2
        have h1 := unhide HA
        have h2 := unhide HE
        rw [if_pos trivial] at h1
        exact ⟨by rw [← h1, ← h2]; rfl, unhide HB1⟩
      · rw [errV_pos _ h0]
        go_wp2
        go_ret2
        have h1 := unhide HA
        have h2 := unhide HE
        rw [if_neg h0] at h1
        rw [errV_pos _ h0] at h2
        exact ⟨by rw [← h1, ← h2]; rfl, unhide HB1⟩
end Go.Proofs.YtllpeknpplpgeaaGreatDoor
/-! Contracts of package heap: n bytes of an object; Read, Write. (Part of the proofs over package heap.) -/
namespace Go.Proofs.YtllpeknpplpgeaaGreatDoor
open Go.RowKit Go.Sort
set_option linter.unusedVariables false

theorem hPart_bs (a : Option Addr) (cap : Nat) (l : List Int) (x n : Nat) (w : World) (hbs : Bs w a cap l) (hx : x + n ≤ l.length) :
    Calls Tryz.prog 43 #[.slice a l.length cap, .agg #[.int .i64 x, .int .i64 n]] w fun e w' => ∃ a' c', e = .returned (.slice a' n c') ∧ Bs w' a' c' ((l.drop x).take n) ∧ Below w.heap.size w w' := by
  have hb0 : Below w.heap.size w (w.alloc (.cells #[.int .i64 x, .int .i64 n] 45)) := (Below.refl _ _).alloc (Nat.le_refl _) _
  obtain ⟨a1, hs1, hb1⟩ := slice_lohi (P := Tryz.prog) (t := 22) Tryz.underlying22 size_u8 (hbs.below hb0) x (x + n) (by omega) hx
  have e1 : x + n - x = n := by omega
  rw [e1] at hs1 hb1
  have e2 : ((x + n : Nat) : Int) = (x : Int) + n := by omega
  rw [e2] at hs1
  have HB0 := hide hb0
  have HB1 := hide hb1
  have h3 := hbs.2.2.1
  clear hbs hb0 hb1 e1 e2
  generalize l.length = N at *
  go_enter Tryz.func43, Tryz.ntmps43
  go_wp2
  go_ret
  exact ⟨_, _, rfl, unhide HB1, unhide HB0⟩
theorem hPart_row (g c N x n : Nat) (w : World) (hN : N ≤ 140737488351232) (hp : x + n ≤ N) (hn : N ≤ c) (hlt : x < c) :
    Calls Tryz.prog 43 #[.slice (some ⟨g, 0, none⟩) N c, .agg #[.int .i64 x, .int .i64 n]] w fun e w' => e = .returned (.slice (some ⟨g, x, none⟩) n (c - x)) ∧ Below w.heap.size w w' := by
  have hs1 := fun w' => cut2_row (P := Tryz.prog) (t := 22) Tryz.underlying22 size_u8 g c N x n hp hn hlt w'
  go_enter Tryz.func43, Tryz.ntmps43
  go_wp2
  go_ret
  exact ⟨rfl, (Below.refl _ _).alloc (Nat.le_refl _) _⟩

theorem hPart_any (g c : Nat) (L : List Int) (x n : Nat) (w : World) (hbs : Bs w (some ⟨g, 0, none⟩) c L) (hx : x + n ≤ L.length) :
    Calls Tryz.prog 43 #[.slice (some ⟨g, 0, none⟩) L.length c, .agg #[.int .i64 x, .int .i64 n]] w fun e w' => ∃ q c', e = .returned (.slice q n c') ∧ Bs w' q c' ((L.drop x).take n) ∧ (0 < n → q = some ⟨g, x, none⟩) ∧ Below w.heap.size w w' := by
  rcases Nat.eq_zero_or_pos n with rfl | hn
  · exact (hPart_bs (some ⟨g, 0, none⟩) c L x 0 w hbs hx).mono fun e w' ⟨a', c', he, h1, h2⟩ => ⟨a', c', he, h1, fun h => absurd h (Nat.lt_irrefl _), h2⟩
  · have hc := hbs.2.1
    refine (hPart_row g c L.length x n w hbs.2.2.1 hx hc (by omega)).mono fun e w' ⟨he, h2⟩ => ⟨_, _, he, ?_, fun _ => rfl, h2⟩
    have := (hbs.drop x (by omega)).take n
    rw [if_neg (by omega)] at this
    have h3 := this.below h2
    simpa [addr_add] using h3
/-- The same, as an equation for every world. -/
theorem hPart_run (g c : Nat) (L : List Int) (x n : Nat) (w : World) (hbs : Bs w (some ⟨g, 0, none⟩) c L) (hx : x + n ≤ L.length) :
    ∃ q, (∀ w', (Instr.slice 22 (.slice (some ⟨g, 0, none⟩) L.length c) (some (.int .i64 x)) (some (.int .i64 ((x : Int) + n))) none).run Tryz.prog w' = .ok (.slice q n (c - x)) w') ∧ Bs w q (c - x) ((L.drop x).take n) ∧ (0 < n → q = some ⟨g, x, none⟩) := by
  rcases Nat.eq_zero_or_pos n with rfl | hn
  · obtain ⟨a1, hs1, hb1⟩ := slice_lohi (P := Tryz.prog) (t := 22) Tryz.underlying22 size_u8 hbs x (x + 0) (by omega) hx
    rw [show x + 0 - x = 0 by omega] at hs1 hb1
    exact ⟨a1, fun w' => by have := hs1 w'; rw [show ((x + 0 : Nat) : Int) = (x : Int) + ((0 : Nat) : Int) by omega] at this; exact this, hb1, fun h => absurd h (Nat.lt_irrefl _)⟩
  · have hc := hbs.2.1
    refine ⟨some ⟨g, x, none⟩, fun w' => cut2_row (P := Tryz.prog) (t := 22) Tryz.underlying22 size_u8 g c L.length x n hx hc (by omega) w', ?_, fun _ => rfl⟩
    have := (hbs.drop x (by omega)).take n
    rw [if_neg (by omega)] at this
    simpa [addr_add] using this
theorem hPart_w (a : Option Addr) (cap N : Nat) (x n : Nat) (a1 : Option Addr) (hN : N ≤ 140737488351232) (hx : x + n ≤ N) (hs : ∀ w', (Instr.slice 22 (.slice a N cap) (some (.int .i64 (x : Int))) (some (.int .i64 ((x : Int) + n))) none).run Tryz.prog w' = .ok (.slice a1 n (cap - x)) w') (w : World) :
    Calls Tryz.prog 43 #[.slice a N cap, .agg #[.int .i64 (x : Int), .int .i64 (n : Int)]] w fun e w' => e = .returned (.slice a1 n (cap - x)) ∧ ∃ q os, w' = grow (w.drewN q) os := by
  go_enter Tryz.func43, Tryz.ntmps43
  go_wp2
  go_ret
  exact ⟨rfl, 0, _, by rw [alloc_eq_grow]; rfl⟩
end Go.Proofs.YtllpeknpplpgeaaGreatDoor
/-! Contracts of package heap: Alloc. (Part of the proofs over package heap.) -/
namespace Go.Proofs.YtllpeknpplpgeaaGreatDoor
open Go.RowKit
set_option linter.unusedVariables false

theorem alloc_range (p g c B : Nat) (L : List Int) (n t : Int) (w : World) (hh : Hp w B p g c L) (hbad : n < 1 ∨ 1000 < n ∨ t < 0 ∨ 15 < t) :
    Calls Tryz.prog 14 #[.pointer (some ⟨p, 0, none⟩), .int .i64 n, .int .i64 t] w fun e w' => e = .returned (.tuple #[.int .i64 0, errV 1]) ∧ w = w' := by
  clear hh
  rw [errV_pos 1 (by decide)]
  by_cases c1 : n < 1
  · clear hbad
    go_enter Tryz.func14, Tryz.ntmps14
    go_wp2
    go_ret2
    exact ⟨rfl, rfl⟩
  · by_cases c2 : 1000 < n
    · clear hbad
      go_enter Tryz.func14, Tryz.ntmps14
      go_wp2
      go_ret2
      exact ⟨rfl, rfl⟩
    · by_cases c3 : t < 0
      · clear hbad
        go_enter Tryz.func14, Tryz.ntmps14
        go_wp2
        go_ret2
        exact ⟨rfl, rfl⟩
      · have c4 : 15 < t := by omega
        clear hbad
        go_enter Tryz.func14, Tryz.ntmps14
        go_wp2
        go_ret2
        exact ⟨rfl, rfl⟩
set_option maxHeartbeats 1000000 in
theorem alloc_none (p g c B : Nat) (L : List Int) (n t : Int) (w : World) (hh : Hp w B p g c L) (hr : ¬ (n < 1 ∨ 1000 < n ∨ t < 0 ∨ 15 < t)) (hlow : lowH L = 40) :
    Calls Tryz.prog 14 #[.pointer (some ⟨p, 0, none⟩), .int .i64 n, .int .i64 t] w fun e w' => e = .returned (.tuple #[.int .i64 0, errV 4]) ∧ Below w.heap.size w w' := by
  have HE := hide (iEnts_yes (some ⟨g, 0, none⟩) c L w hh.bs hh.fine.len0)
  have HLW := hide (fun (a : Option Addr) (cap : Nat) (W : World) (hs : Sls enC 4 W a cap (entsK L 40)) => least_any a cap (entsK L 40) W hs (entsK_len L 40))
  rw [lowF_low, hlow, if_pos (by decide), if_pos (by decide)] at HLW
  have hel := entsK_len L 40
  have hcl := hh.cell
  have hl := hh.len
  rw [errV_pos 4 (by decide)] at HLW ⊢
  clear hh hlow
  have r1 : ¬ n < 1 := by omega
  have r2 : ¬ 1000 < n := by omega
  have r3 : ¬ t < 0 := by omega
  have r4 : ¬ 15 < t := by omega
  clear hr
  generalize entsK L 40 = EN at *
  generalize L.length = M at *
  go_enter Tryz.func14, Tryz.ntmps14
  go_wp2_with fail
  refine (unhide HE).mono ?_
  rintro e w1 ⟨v1, rfl, hown1, hb1⟩
  obtain ⟨a1, c1, rfl, hsl1⟩ := hown1.sls enC_len (by omega)
  have HLW1 := hide (unhide HLW a1 c1 w1 hsl1)
  have HB1 := hide hb1
  clear hown1 hsl1 hb1 HE HLW hcl
  go_wp2_with fail
  refine (unhide HLW1).mono ?_
  rintro e w2 ⟨rfl, hb2⟩
  have HB2 := hide ((unhide HB1).trans (hb2.mono (unhide HB1).size))
  clear hb2 HLW1 HB1
  go_wp2
  go_ret2
  exact ⟨rfl, unhide HB2⟩
set_option maxHeartbeats 1000000 in
theorem alloc_full (p g c B : Nat) (L : List Int) (n t : Int) (w : World) (hh : Hp w B p g c L) (hr : ¬ (n < 1 ∨ 1000 < n ∨ t < 0 ∨ 15 < t)) (hlow : lowH L ≠ 40) (hfit : fitE ((L.length : Int) - 288) (takeL L) n ≠ 0) :
    Calls Tryz.prog 14 #[.pointer (some ⟨p, 0, none⟩), .int .i64 n, .int .i64 t] w fun e w' => e = .returned (.tuple #[.int .i64 0, errV (fitE ((L.length : Int) - 288) (takeL L) n)]) ∧ Below w.heap.size w w' := by
  have HE := hide (iEnts_yes (some ⟨g, 0, none⟩) c L w hh.bs hh.fine.len0)
  have HLW := hide (fun (a : Option Addr) (cap : Nat) (W : World) (hs : Sls enC 4 W a cap (entsK L 40)) => least_any a cap (entsK L 40) W hs (entsK_len L 40))
  have h40 := lowH_le L
  rw [lowF_low, if_neg (by omega), if_neg (by omega), errV_zero] at HLW
  have HRM := hide (fun (a : Option Addr) (cap : Nat) (W : World) (hs : Sls enC 4 W a cap (entsK L 40)) => room_any L.length a cap (entsK L 40) n W hs (entsK_len L 40) hh.fine.len (ents_in hh.fine))
  change Hid (∀ (a : Option Addr) (cap : Nat) (W : World), Sls enC 4 W a cap (entsK L 40) → Calls Tryz.prog 41 #[.int .i64 L.length, .slice a (entsK L 40).length cap, .int .i64 n] W fun e w' => e = .returned (.tuple #[.int .i64 (if fitE ((L.length : Int) - 288) (takeL L) n = 0 then 288 + fitAt ((L.length : Int) - 288) (takeL L) n else 0), errV (fitE ((L.length : Int) - 288) (takeL L) n)]) ∧ Below W.heap.size W w') at HRM
  rw [if_neg hfit, errV_pos _ hfit] at HRM
  rw [errV_pos _ hfit]
  have hel := entsK_len L 40
  have HH := hide hh
  have hcl := hh.cell
  have hl := hh.len
  clear hh hlow
  have r1 : ¬ n < 1 := by omega
  have r2 : ¬ 1000 < n := by omega
  have r3 : ¬ t < 0 := by omega
  have r4 : ¬ 15 < t := by omega
  clear hr hfit
  generalize fitE ((L.length : Int) - 288) (takeL L) n = FE at *
  generalize lowH L = LH at *
  generalize entsK L 40 = EN at *
  go_enter Tryz.func14, Tryz.ntmps14
  go_wp2_with fail
  refine (unhide HE).mono ?_
  rintro e w1 ⟨v1, rfl, hown1, hb1⟩
  obtain ⟨a1, c1, rfl, hsl1⟩ := hown1.sls enC_len (by omega)
  have HLW1 := hide (unhide HLW a1 c1 w1 hsl1)
  have HSL := hide hsl1
  have HB1 := hide hb1
  clear hown1 hsl1 hb1 HE HLW hcl
  go_wp2_with fail
  refine (unhide HLW1).mono ?_
  rintro e w2 ⟨rfl, hb2⟩
  have hB2 := (unhide HB1).trans (hb2.mono (unhide HB1).size)
  have hcl := ((unhide HH).below hB2).cell
  have HRM2 := hide (unhide HRM a1 c1 w2 ((unhide HSL).below hb2))
  have HB2 := hide hB2
  clear hb2 hB2 HLW1 HB1 HRM HSL HH
  go_wp2_with fail
  refine (unhide HRM2).mono ?_
  rintro e w3 ⟨rfl, hb3⟩
  have HB3 := hide ((unhide HB2).trans (hb3.mono (unhide HB2).size))
  clear hb3 HRM2 HB2 hcl
  go_wp2
  go_ret2
  exact ⟨rfl, unhide HB3⟩
set_option maxHeartbeats 2000000 in
theorem alloc_yes (p g c B : Nat) (L : List Int) (n t : Int) (w : World) (hh : Hp w B p g c L) (hB : B ≤ w.heap.size) (h0 : alE L n t = 0) :
    Calls Tryz.prog 14 #[.pointer (some ⟨p, 0, none⟩), .int .i64 n, .int .i64 t] w fun e w' => e = .returned (.tuple #[.int .i64 (alH L n t), .nilIface]) ∧ ∃ g' c', Hp w' B p g' c' (alB L n t) ∧ Turn (foot p g) (foot p g') w w' := by
  obtain ⟨x, N, hk⟩ := al_ok hh.fine h0
  have h40 := hk.low
  have hlay := hk.lay hh.fine h0
  have hput := hk.put hh.fine
  have himg := hk.img h0
  have hf1 := alB_fine hh.fine n t
  have hby1 := alB_byt hh.byt n t
  have hlen1 := (hk.keep hh.fine h0).2.1
  have HE := hide (iEnts_yes (some ⟨g, 0, none⟩) c L w hh.bs hh.fine.len0)
  have HLW := hide (fun (a : Option Addr) (cap : Nat) (W : World) (hs : Sls enC 4 W a cap (entsK L 40)) => least_any a cap (entsK L 40) W hs (entsK_len L 40))
  rw [lowF_low, if_neg (by omega), if_neg (by omega), errV_zero] at HLW
  have HRM := hide (fun (a : Option Addr) (cap : Nat) (W : World) (hs : Sls enC 4 W a cap (entsK L 40)) => room_any L.length a cap (entsK L 40) n W hs (entsK_len L 40) hh.fine.len (ents_in hh.fine))
  change Hid (∀ (a : Option Addr) (cap : Nat) (W : World), Sls enC 4 W a cap (entsK L 40) → Calls Tryz.prog 41 #[.int .i64 L.length, .slice a (entsK L 40).length cap, .int .i64 n] W fun e w' => e = .returned (.tuple #[.int .i64 (if fitE ((L.length : Int) - 288) (takeL L) n = 0 then 288 + fitAt ((L.length : Int) - 288) (takeL L) n else 0), errV (fitE ((L.length : Int) - 288) (takeL L) n)]) ∧ Below W.heap.size W w') at HRM
  rw [hk.fit, if_pos rfl, errV_zero, hk.eqx] at HRM
  have hel := entsK_len L 40
  have hPl : (putL L ((lowH L : Int) + 1, (x : Int), (N : Int), t)).length = L.length := putL_len hput
  have HPUT : Hid (∀ W : World, Below w.heap.size w W → Calls Tryz.prog 42 #[.slice (some ⟨g, 0, none⟩) L.length c, .agg #[.int .i64 ((lowH L : Int) + 1), .int .i64 x, .int .i64 N, .int .i64 t]] W fun e w' => ∃ g4 c4 cur4, e = .returned (.tuple #[.slice (some ⟨g4, 0, none⟩) L.length c4, .nilIface]) ∧ Row w' w.heap.size g4 c4 cur4 (putL L ((lowH L : Int) + 1, (x : Int), (N : Int), t)) ∧ Below w.heap.size w w' ∧ Below W.heap.size W w') := hide (fun W hW => by
    refine (iPut_row (some ⟨g, 0, none⟩) c L ((lowH L : Int) + 1) x N t W (hh.bs.below hW) hput).mono fun e w' ⟨g4, c4, cur4, he, hr4, hb4⟩ => ⟨g4, c4, cur4, ?_, ?_, hW.trans (hb4.mono hW.size), hb4⟩
    · rw [he]
      have hq : splice L (plc ((lowH L : Int) + 1)) (rowE ((lowH L : Int) + 1, (x : Int), (N : Int), t)) = putL L ((lowH L : Int) + 1, (x : Int), (N : Int), t) := by unfold putL; rw [if_pos hput]
      rw [hq, hPl]
    · have hq : splice L (plc ((lowH L : Int) + 1)) (rowE ((lowH L : Int) + 1, (x : Int), (N : Int), t)) = putL L ((lowH L : Int) + 1, (x : Int), (N : Int), t) := by unfold putL; rw [if_pos hput]
      rw [hq] at hr4
      exact hr4.low hW.size)
  have hx1 := hk.x1
  have hx2 := hk.x2
  have hn1 := hk.n1
  have hn2 := hk.n2
  have ht1 := hk.t1
  have ht2 := hk.t2
  have hnN := hk.eqn
  subst hnN
  have HH := hide hh
  have hcl := hh.cell
  have hl := hh.len
  have HLAY := hide hlay
  have HF1 := hide hf1
  have HBY1 := hide hby1
  have HLEN1 := hide hlen1
  rw [himg.2]
  clear hh hk hput hlay hf1 hby1 hlen1 himg h0
  have r1 : ¬ (N : Int) < 1 := by omega
  have r2 : ¬ 1000 < (N : Int) := by omega
  have r3 : ¬ t < 0 := by omega
  have r4 : ¬ 15 < t := by omega
  generalize alB L N t = AB at *
  generalize putL L ((lowH L : Int) + 1, (x : Int), (N : Int), t) = P at *
  generalize lowH L = LH at *
  generalize entsK L 40 = EN at *
  generalize hM : L.length = M at *
  go_enter Tryz.func14, Tryz.ntmps14
  go_wp2_with fail
  refine (unhide HE).mono ?_
  rintro e w1 ⟨v1, rfl, hown1, hb1⟩
  obtain ⟨a1, c1, rfl, hsl1⟩ := hown1.sls enC_len (by omega)
  have HLW1 := hide (unhide HLW a1 c1 w1 hsl1)
  have HSL := hide hsl1
  have HB1 := hide hb1
  clear hown1 hsl1 hb1 HE HLW hcl
  go_wp2_with fail
  refine (unhide HLW1).mono ?_
  rintro e w2 ⟨rfl, hb2⟩
  have hB2 := (unhide HB1).trans (hb2.mono (unhide HB1).size)
  have hcl := ((unhide HH).below hB2).cell
  rw [hM] at hcl
  have HRM2 := hide (unhide HRM a1 c1 w2 ((unhide HSL).below hb2))
  have HB2 := hide hB2
  clear hb2 hB2 HLW1 HB1 HRM HSL
  go_wp2_with fail
  refine (unhide HRM2).mono ?_
  rintro e w3 ⟨rfl, hb3⟩
  have hB3 := (unhide HB2).trans (hb3.mono (unhide HB2).size)
  have hB3a : Below w.heap.size w (w3.alloc (.cells #[.int .i64 x, .int .i64 N] 45)) := hB3.alloc hB3.size _
  have hcl3 := ((unhide HH).below hB3a).cell
  rw [hM] at hcl3
  have hex : (w3.alloc (.cells #[.int .i64 x, .int .i64 N] 45)).heap[w3.heap.size]? = some (.cells #[.int .i64 x, .int .i64 N] 45 (0, 0)) := heap_alloc_new w3 _
  have hx0 : (w3.alloc (.cells #[.int .i64 x, .int .i64 N] 45)).cell? ⟨w3.heap.size, 0, none⟩ = some (.int .i64 x) := by rw [cell_of_row _ _ _ _ _ _ hex]; rfl
  have hx1' : (w3.alloc (.cells #[.int .i64 x, .int .i64 N] 45)).cell? ⟨w3.heap.size, 1, none⟩ = some (.int .i64 N) := by rw [cell_of_row _ _ _ _ _ _ hex]; rfl
  have HPUT3 : Hid (Calls Tryz.prog 42 #[.slice (some ⟨g, 0, none⟩) M c, .agg #[.int .i64 ((LH : Int) + 1), .int .i64 x, .int .i64 N, .int .i64 t]] (w3.alloc (.cells #[.int .i64 x, .int .i64 N] 45)).drew fun e w' => ∃ g4 c4 cur4, e = .returned (.tuple #[.slice (some ⟨g4, 0, none⟩) M c4, .nilIface]) ∧ Row w' w.heap.size g4 c4 cur4 P ∧ Below w.heap.size w w' ∧ w'.cell? ⟨p, 0, none⟩ = some (.slice (some ⟨g, 0, none⟩) M c) ∧ w'.cell? ⟨w3.heap.size, 0, none⟩ = some (.int .i64 x) ∧ w'.cell? ⟨w3.heap.size, 1, none⟩ = some (.int .i64 N)) := hide (by
    refine (unhide HPUT _ (below_drew hB3a)).mono fun e w' ⟨g4, c4, cur4, he, hr, hb, hb2⟩ => ⟨g4, c4, cur4, he, hr, hb, ?_, ?_, ?_⟩
    · exact (hb2.cell (p := ⟨p, 0, none⟩) (block_lt_of_cell hcl3)).trans hcl3
    · exact (hb2.cell (p := ⟨w3.heap.size, 0, none⟩) (block_lt_of_cell hx0)).trans hx0
    · exact (hb2.cell (p := ⟨w3.heap.size, 1, none⟩) (block_lt_of_cell hx1')).trans hx1')
  clear hb3 HRM2 HB2 hcl HPUT hex hB3 hB3a
  go_wp2_with fail
  generalize w3.alloc (.cells #[.int .i64 x, .int .i64 N] 45) = wx at *
  go_region_held3 (fun w' => w'.cell? ⟨p, 0, none⟩ = some (.slice (some ⟨g, 0, none⟩) M c) ∧ w'.cell? ⟨w3.heap.size, 0, none⟩ = some (.int .i64 x) ∧ w'.cell? ⟨w3.heap.size, 1, none⟩ = some (.int .i64 N)) (first | go_keep | (go_split_ands; refine ⟨?_, ?_, ?_⟩ <;> go_keep))
    ((go_at_call 42; refine (unhide HPUT3).mono ?_; rintro e w4 ⟨g4, c4, cur4, rfl, hr4, hb4, r0, r1, r2⟩))
  have hc4 := hr4.2.2.1
  rw [hPl] at hc4
  have HPART := hide (fun W => hPart_row g4 c4 M x N W (by omega) hx2 hc4 (by omega))
  have HR4 := hide hr4
  have HB4 := hide hb4
  clear hr4 hb4 HPUT3 hcl3 hx0 hx1'
  go_wp2_with fail
  refine (unhide HPART _).mono ?_
  rintro e w5 ⟨rfl, hb5⟩
  have hr5 := (unhide HR4).below hb5
  have hB5 := (unhide HB4).trans (hb5.mono (unhide HB4).size)
  have hclr : ∀ ty, (Builtin.clear_ #[22] ty #[.slice (some ⟨g4, x, none⟩) N (c4 - x)]).run Tryz.prog w5 = .ok (.tuple #[]) (laidW w5 g4 cur4 x (zerosB N)) := fun ty => run_clear_u8 w5 _ ty Tryz.underlying22 zero_u8 w.heap.size g4 x N _ c4 cur4 P (by omega) (by omega) hr5
  have hr6 := laidW_row hr5 (show x + (zerosB N).length ≤ _ by rw [length_zerosB]; omega)
  rw [unhide HLAY] at hr6
  have hB6 := laidW_below (cur := cur4) (l := zerosB N) (off := x) hB5 hr5.1
  have hp6 : (laidW w5 g4 cur4 x (zerosB N)).heap[p]? = some (.cells #[.slice (some ⟨g, 0, none⟩) L.length c] 81 (0, 0)) := (hB6.block p (unhide HH).plt).trans (unhide HH).blk
  have hcl6 : (laidW w5 g4 cur4 x (zerosB N)).cell? ⟨p, 0, none⟩ = some (.slice (some ⟨g, 0, none⟩) L.length c) := by rw [cell_of_row _ _ _ _ _ _ hp6]; rfl
  have hfr6 : (laidW w5 g4 cur4 x (zerosB N)).frozen? ⟨p, 0, none⟩ = false := frozen_of_row _ _ 0 _ _ hp6
  have HSET := hide ((unhide HH).set hB6 hr6 (unhide HBY1) (unhide HF1) hB)
  rw [unhide HLEN1] at HSET
  clear hr5 hr6 hB5 hB6 hp6 hb5 HR4 HB4 HPART r0 r1 r2
  generalize laidW w5 g4 cur4 x (zerosB N) = w6 at *
  go_wp2
  go_ret2
  exact ⟨rfl, g4, c4, unhide HSET⟩
theorem hAlloc_any (p g c B : Nat) (L : List Int) (n t : Int) (w : World) (hh : Hp w B p g c L) (hB : B ≤ w.heap.size) :
    Calls Tryz.prog 14 #[.pointer (some ⟨p, 0, none⟩), .int .i64 n, .int .i64 t] w fun e w' => e = .returned (.tuple #[.int .i64 (alH L n t), errV (alE L n t)]) ∧ ∃ g' c', Hp w' B p g' c' (alB L n t) ∧ Turn (foot p g) (foot p g') w w' := by
  by_cases h0 : alE L n t = 0
  · rw [h0, errV_zero]
    exact alloc_yes p g c B L n t w hh hB h0
  · have e1 : alH L n t = 0 := by unfold alH; rw [if_neg h0]
    have e2 : alB L n t = L := by unfold alB; rw [if_neg h0]
    rw [e1, e2]
    by_cases h1 : n < 1 ∨ 1000 < n ∨ t < 0 ∨ 15 < t
    · have e3 : alE L n t = 1 := by unfold alE; rw [if_pos h1]
      rw [e3]
      exact (alloc_range p g c B L n t w hh h1).mono fun e w' ⟨he, hw⟩ => ⟨he, g, c, by rw [← hw]; exact hh, by rw [← hw]; exact Turn.refl _ _⟩
    · by_cases h2 : lowH L = 40
      · have e3 : alE L n t = 4 := by unfold alE; rw [if_neg h1, if_pos h2]
        rw [e3]
        exact (alloc_none p g c B L n t w hh h1 h2).mono fun e w' ⟨he, hb⟩ => ⟨he, g, c, hh.below hb, Turn.of_below hb⟩
      · have e3 : alE L n t = fitE ((L.length : Int) - 288) (takeL L) n := by unfold alE; rw [if_neg h1, if_neg h2]
        rw [e3] at h0 ⊢
        exact (alloc_full p g c B L n t w hh h1 h2 h0).mono fun e w' ⟨he, hb⟩ => ⟨he, g, c, hh.below hb, Turn.of_below hb⟩
end Go.Proofs.YtllpeknpplpgeaaGreatDoor
