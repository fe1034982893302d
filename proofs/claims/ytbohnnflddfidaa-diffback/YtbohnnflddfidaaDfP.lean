/-
  The map of the pages in which something changes. (Part of the proofs over package diff.)
-/
import Derived.Test.YtbohnnflddfidaaDfD
import Derived.Test.YtbohnnflddfidaaVwSort
import Derived.Maps.OwnSet
namespace Go.Proofs.Ytbohnnflddfidaa
open Go.RowKit Go.MapKept Go.ChangeMaps Go.Sort Go.Shelf
open Go.Maps (Keyed)
set_option linter.unusedVariables false

/-! ### plain: page by page -/
/-- Does a change from X on, of n bytes, touch a page, as far as it has been gone over up to p? -/
def inP (X p j : Nat) : Bool := decide (X / 32 ≤ j) && decide (j < p / 32)
theorem inP_zero (X j : Nat) : inP X X j = false := by
  unfold inP
  rw [Bool.and_eq_false_iff, decide_eq_false_iff_not, decide_eq_false_iff_not]
  omega
theorem inP_step {X p : Nat} (h : X ≤ p) (j : Nat) : inP X (p + (32 - p % 32)) j = (inP X p j || (j == p / 32)) := by
  unfold inP
  have h1 : (p + (32 - p % 32)) / 32 = p / 32 + 1 := by omega
  have h2 : X / 32 ≤ p / 32 := by omega
  rw [h1, Bool.eq_iff_iff]
  simp only [Bool.and_eq_true, Bool.or_eq_true, decide_eq_true_eq, beq_iff_eq]
  omega
/-- Gone over to its end it touches those pages in which it writes. -/
theorem inP_all {X n p : Nat} (h1 : X ≤ p) (h2 : p = X ∨ (p % 32 = 0 ∧ p < X + n + 32 ∧ X < X + n)) (h3 : X + n ≤ p) (j : Nat) : inP X p j = true ↔ ∃ k, k < n ∧ (X + k) / 32 = j := by
  unfold inP
  simp only [Bool.and_eq_true, decide_eq_true_eq]
  constructor
  · rintro ⟨h4, h5⟩
    rcases h2 with rfl | ⟨h6, h7, h8⟩
    · omega
    · by_cases h : X / 32 = j
      · exact ⟨0, by omega, by omega⟩
      · exact ⟨32 * j - X, by omega, by omega⟩
  · rintro ⟨k, hk, rfl⟩
    rcases h2 with rfl | ⟨h6, h7, h8⟩
    · omega
    · constructor
      · omega
      · omega
theorem touch_snoc (l : List (Int × List Int × List Int)) (c : (Int × List Int × List Int)) (j : Nat) : touch (l ++ [c]) j = (touch l j || (List.range c.2.2.length).any (fun k => (c.1.toNat + k) / 32 == j)) := by
  unfold touch
  rw [List.any_append]
  simp
theorem pgE_at {l : List (Int × List Int × List Int)} (h : pgE l = 0) : ∀ c ∈ l, 0 ≤ c.1 ∧ c.1 < 6400 ∧ c.1 + c.2.2.length ≤ 6400 := by
  induction l with
  | nil => intro c hc; cases hc
  | cons d r ih =>
    unfold pgE at h
    by_cases hd : d.1 < 0 ∨ 6400 ≤ d.1 ∨ 6400 - d.1 < d.2.2.length
    · rw [if_pos hd] at h; cases h
    · rw [if_neg hd] at h
      intro c hc
      rcases List.mem_cons.1 hc with rfl | hc
      · omega
      · exact ih h c hc
theorem touch_lt {l : List (Int × List Int × List Int)} (h : pgE l = 0) {j : Nat} (hj : touch l j = true) : j < 200 := by
  obtain ⟨c, hc, k, hk, rfl⟩ := touch_iff.1 hj
  have := pgE_at h c hc
  omega
/-! ### in memory -/
/-- Block gm is the map of the pages of which t says so; at most q were put. -/
def PgM (w : World) (gm q : Nat) (t : Nat → Bool) : Prop :=
  ∃ D : DataW Unit, w.ownsMap Try.prog 3 (plainElem Try.prog 3) gm q D ∧ (∀ z : Int, Maps.has D (.int .i64 z) = true → 0 ≤ z) ∧ ∀ j : Nat, Maps.has D (.int .i64 j) = t j
theorem PgM.made (w : World) : PgM (w.alloc (.map #[] 0)) w.heap.size 0 (fun _ => false) := ⟨.map [], World.ownsMap_made w _ _ _, fun z hz => (by cases hz), fun j => rfl⟩
theorem PgM.lt {w : World} {gm q : Nat} {t : Nat → Bool} (h : PgM w gm q t) : gm < w.heap.size := by
  obtain ⟨D, h1, _⟩ := h
  exact h1.lt
theorem PgM.same {w w' : World} {gm q : Nat} {t : Nat → Bool} (h : PgM w gm q t) (hs : w'.heap[gm]? = w.heap[gm]?) : PgM w' gm q t := by
  obtain ⟨D, ⟨es, clock, hb, r⟩, h2⟩ := h
  exact ⟨D, ⟨es, clock, hs.trans hb, r⟩, h2⟩
theorem info_intP : (Try.prog.info? 3).map (fun i => (i.zero, i.size, i.bytes)) = some (some (.int .i64 0), 1, 8) := by kernel_rfl
theorem zero_intP (w : World) : (zeroValue 3).run Try.prog w = .ok (.int .i64 0) w := by
  obtain ⟨i0, hi0, hz0, hz1, hz2⟩ := info_parts info_intP
  simp [zeroValue, typeInfo, hi0, hz0]
theorem wf_page (j : Nat) (hj : j < 1000) : (Lit.int .i64 (j : Int)).wf = true := WalkArith.wf_i64 (by omega)
theorem PgM.look {w : World} {gm q : Nat} {t : Nat → Bool} (h : PgM w gm q t) (j : Nat) (hj : j < 1000) : ∃ c : Int, (Instr.lookup 61 (.map (some gm)) (.int .i64 j) false).run Try.prog w = .ok (.int .i64 c) w := by
  obtain ⟨D, h1, h2, h3⟩ := h
  have hkey := Maps.keyOf_int_mk (P := Try.prog) Try.underlying3 (wf_page j hj)
  obtain ⟨c, hrun, _, _⟩ := h1.lookup_int (Maps.int_keyed Try.underlying3) Try.underlying61 Try.underlying3 (zero_intP w) hkey
  exact ⟨c, hrun⟩
theorem PgM.store {w : World} {gm q : Nat} {t : Nat → Bool} (h : PgM w gm q t) (hq : q < 100000000) (j : Nat) (hj : j < 1000) (x : Int) (hx : (Lit.int .i64 x).wf = true) :
    ∃ w', (Instr.mapUpdate 61 (.map (some gm)) (.int .i64 j) (.int .i64 x)).run Try.prog w = .ok () w' ∧ PgM w' gm (q + 1) (fun i => t i || (i == j)) ∧ w.mapTurned w' gm := by
  obtain ⟨D, h1, h2, h3⟩ := h
  have hK := Maps.int_keyed (P := Try.prog) Try.underlying3
  have hkey := Maps.keyOf_int_mk (P := Try.prog) Try.underlying3 (wf_page j hj)
  obtain ⟨w', hrun, hown', ht⟩ := h1.store hK Try.underlying61 (by unfold maxLen; omega) hkey (plainElem_int Try.underlying3 (a := x) hx)
  have hlit : WideAt.IsKeyLit (.int .i64 (j : Int)) := hK.key hkey
  refine ⟨w', hrun, ⟨_, hown', fun z hz => ?_, fun i => ?_⟩, ht⟩
  · by_cases e : z = j
    · omega
    · have hne : Lit.int .i64 z ≠ Lit.int .i64 (j : Int) := by
        intro e2; simp only [Lit.int.injEq, true_and] at e2; exact e e2
      rw [Maps.has_put_other hne] at hz
      exact h2 z hz
  · by_cases e : i = j
    · subst e
      rw [Maps.has_put_same h1.isMap hlit]
      simp
    · have hne : Lit.int .i64 (i : Int) ≠ Lit.int .i64 (j : Int) := by
        intro e2; simp only [Lit.int.injEq, true_and] at e2; omega
      show Maps.has _ _ = (t i || (i == j))
      rw [Maps.has_put_other hne, h3 i, beq_eq_false_iff_ne.2 e, Bool.or_false]
/-- The pages of a map, as slices.Sorted(maps.Keys(m)) has them. -/
theorem PgM.keys {w : World} {gm q : Nat} {t : Nat → Bool} {D : DataW Unit} (h1 : w.ownsMap Try.prog 3 (plainElem Try.prog 3) gm q D) (h2 : ∀ z : Int, Maps.has D (.int .i64 z) = true → 0 ≤ z) (h3 : ∀ j : Nat, Maps.has D (.int .i64 j) = t j) (ht : ∀ j, t j = true → j < 200) :
    (((List.range 200).filter t).map (fun i : Nat => (i : Int))).Perm (intKeys D) := by
  refine CollectedI.perm (left := fun _ => false) ⟨?_, fun z => ?_⟩ h1 (Maps.int_keyed Try.underlying3) Try.underlying3 (fun _ => rfl)
  · exact List.pairwise_map.2 ((List.nodup_range.filter _).imp (fun hne e => hne (by omega)))
  · constructor
    · intro hz
      obtain ⟨i, hi, rfl⟩ := List.mem_map.1 hz
      refine ⟨?_, rfl⟩
      rw [h3]
      exact (List.mem_filter.1 hi).2
    · rintro ⟨hz, _⟩
      have h0 := h2 z hz
      obtain ⟨i, rfl⟩ : ∃ i : Nat, z = i := ⟨z.toNat, by omega⟩
      rw [h3] at hz
      exact List.mem_map.2 ⟨i, List.mem_filter.2 ⟨List.mem_range.2 (ht i hz), hz⟩, rfl⟩
theorem keysP_any (gm : Nat) (W : World) : Calls Try.prog 28 #[.map (some gm)] W fun e w' => e = .returned (.func (.func 42) #[] #[.pointer (some ⟨W.heap.size, 0, none⟩)]) ∧ w' = W.alloc (.cells #[.map (some gm)] 61) :=
  (callsIn_wide (n := 5)).1 (AnyZI.keys_in keysA Fence.wide 5 trivial rfl (some gm) W)
theorem sortedP_any (gm q : Nat) (t : Nat → Bool) (W : World) (h : PgM W gm q t) (ht : ∀ j, t j = true → j < 200) :
    Calls Try.prog 27 #[.func (.func 42) #[] #[.pointer (some ⟨W.heap.size, 0, none⟩)]] (W.alloc (.cells #[.map (some gm)] 61)) fun e w' =>
      ∃ v, ∃ P : List Int, e = .returned v ∧ w'.ownsRow W.heap.size 3 1 v P.length (P.map encZ) ∧ P.length ≤ 200 ∧ (∀ z, z ∈ P ↔ ∃ j : Nat, z = j ∧ t j = true) ∧ Below W.heap.size W w' := by
  obtain ⟨D0, hown, hneg, hD⟩ := h
  have hperm := PgM.keys hown hneg hD ht
  have hsz : Maps.size D0 ≤ 200 := by
    have h1 := hperm.length_eq
    have h2 : (((List.range 200).filter t).map (fun i : Nat => (i : Int))).length ≤ 200 := by
      rw [List.length_map]
      exact Nat.le_trans (List.length_filter_le _ _) (by simp)
    obtain ⟨es, clock, _, _, _, e⟩ := hown
    rw [h1, e] at h2
    unfold intKeys at h2
    rw [List.length_map] at h2
    rw [e]
    exact h2
  have hmax : Maps.size D0 ≤ maxLen := by unfold maxLen; omega
  have hbytes : Maps.size D0 * 8 ≤ 140737488355328 := by omega
  have hbl := hown.lt
  have hseq : SeqGives Fence.wide 2 Try.prog 42 #[.pointer (some ⟨W.heap.size, 0, none⟩)] encZ (fun ss => ss.Perm (intKeys D0)) (Maps.size D0) (W.alloc (.cells #[.map (some gm)] 61)) :=
    AnyZI.keys_gives (ρ := keysA_ren) { keysA with } Fence.wide _ trivial rfl (by omega) W.heap.size gm q D0 _ (by simp) (by simp) (by
      obtain ⟨es, clock, hb, Ft, hs, hD⟩ := hown
      exact ⟨es, clock, (Below.heap_alloc _ _ gm hbl).trans hb, Ft, hs, hD⟩)
  have cS := AnyZI.sorted_in sortedA Fence.wide 5 trivial trivial trivial trivial rfl (by omega) (sortsA _) (enters_of Try.func41 (by kernel_rfl) rfl) 42 #[.pointer (some ⟨W.heap.size, 0, none⟩)] trivial (enters_of Try.func42 (by kernel_rfl) rfl) _ _ hmax hbytes _ hseq
  change CallsIn _ _ Try.prog 27 _ _ _ at cS
  refine ((callsIn_wide).1 cS).mono ?_
  rintro e w' ⟨dv, ss, rfl, hS, hrow, hnil, hb⟩
  have hr := ownsRow_base_a (base' := W.heap.size) hrow (by simp)
  have hps := hS.trans hperm.symm
  refine ⟨dv, ss.mergeSort (fun x y => decide (x ≤ y)), rfl, by rw [List.length_mergeSort]; exact hr, ?_, fun z => ?_, ((Below.refl _ W).alloc (Nat.le_refl _) _).trans (hb.mono (by simp))⟩
  · rw [List.length_mergeSort, hps.length_eq, List.length_map]
    exact Nat.le_trans (List.length_filter_le _ _) (by simp)
  · rw [List.mem_mergeSort, hps.mem_iff, List.mem_map]
    constructor
    · rintro ⟨i, hi, rfl⟩
      exact ⟨i, rfl, (List.mem_filter.1 hi).2⟩
    · rintro ⟨j, rfl, hj⟩
      exact ⟨j, List.mem_filter.2 ⟨List.mem_range.2 (ht j hj), hj⟩, rfl⟩
set_option maxRecDepth 100000 in
theorem within_yes (x : Int) (a1 a2 : Option Addr) (n1 c1 n2 c2 : Nat) (w : World) (h0 : 0 ≤ x) (h1 : x < 6400) (h2 : x + n2 ≤ 6400) :
    Calls Try.prog 26 #[chV x a1 n1 c1 a2 n2 c2] w fun e w' => e = .returned (.bool true) ∧ Below w.heap.size w w' := by
  have HB := hide ((Below.refl _ w).alloc (Nat.le_refl _) (.cells #[.int .i64 x, .slice a1 n1 c1, .slice a2 n2 c2] 29))
  have h3 : (n2 : Int) ≤ 6400 - x := by omega
  unfold chV
  go_enter Try.func26, Try.ntmps26
  go_wp2
  go_ret
  exact ⟨rfl, unhide HB⟩
end Go.Proofs.Ytbohnnflddfidaa
