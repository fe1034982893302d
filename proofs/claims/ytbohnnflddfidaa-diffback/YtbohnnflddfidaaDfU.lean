/-
  The contract of diff.Turn. (Part of the proofs over package diff.)
-/
import Derived.Test.YtbohnnflddfidaaDfX
namespace Go.Proofs.Ytbohnnflddfidaa
open Go.RowKit Go.Shelf
set_option linter.unusedVariables false

/-- What a row of changes owns it owns behind the turn of a block that is no cells. -/
theorem ownsRow_turn {A B : World} {base k n : Nat} {T : TypeId} {v : Value} {xs : List Value} {row : Option Nat} (h : A.ownsRow base T k v n xs) (hg : A.grownBy B row) (hr : ∀ r, row = some r → ∃ o : Obj, A.heap[r]? = some o ∧ o.isCells = false) : B.ownsRow base T k v n xs := by
  refine h.kept hg ?_
  rcases h.2 with ⟨rfl, _⟩ | ⟨g, cap, cur, rfl, _, hgb, _⟩
  · exact .inl rfl
  · refine .inr fun e' => ?_
    obtain ⟨o, ho, hc⟩ := hr g (by rw [← e']; rfl)
    rw [hgb] at ho
    cases ho
    cases hc
theorem ChO.turn {A B : World} {n0 : Nat} {v : Value} {l : List (Int × List Int × List Int)} {row : Option Nat} (h : ChO A n0 v l) (hg : A.grownBy B row) (hr : ∀ r, row = some r → ∃ o : Obj, A.heap[r]? = some o ∧ o.isCells = false) : ChO B n0 v l := by
  obtain ⟨rs, h1, h2, h3⟩ := h
  refine ⟨rs, h1, ownsRow_turn h2 hg hr, fun r hr' => ?_⟩
  obtain ⟨⟨a1, a2, a3⟩, b1, b2, b3⟩ := h3 r hr'
  exact ⟨⟨a1, a2, ownsRow_turn a3 hg hr⟩, b1, b2, ownsRow_turn b3 hg hr⟩
theorem KpT.b {n0 g : Nat} {w : World} (hn : n0 ≤ w.heap.size) (hg : g < w.heap.size) (W : World) (l : Nat) (o o' : Obj) (hl : w.heap.size ≤ l) (h : W.heap[l]? = some o) (h1 : o.isCells = false) (h2 : o.isWalk = false) : KpT n0 g W (W.putObj l o') :=
  ⟨belowK_b hn W l o o' hl h h1 h2, World.putObj_heap_other (by omega)⟩
def rAt (rs : List (Int × (Option Addr × Nat × List Int) × (Option Addr × Nat × List Int))) (i : Nat) : (Int × (Option Addr × Nat × List Int) × (Option Addr × Nat × List Int)) := rs.getD i (0, (none, 0, []), (none, 0, []))
/-- A change, turned. -/
def tr1 (r : (Int × (Option Addr × Nat × List Int) × (Option Addr × Nat × List Int))) : (Int × List Int × List Int) := (r.1, r.2.2.2.2, r.2.1.2.2)

set_option maxRecDepth 100000 in
set_option maxHeartbeats 2000000 in
theorem turn_raw (al : Option Addr) (cl : Nat) (rs : List (Int × (Option Addr × Nat × List Int) × (Option Addr × Nat × List Int))) (w : World) (hs : Sls rwC 3 w al cl rs) (hr : ∀ r ∈ rs, RdC w r) (hm : rs.length ≤ 100000) :
    Calls Try.prog 8 #[.slice al rs.length cl] w fun e w' => ∃ v, e = .returned v ∧ ChO w' w.heap.size v ((dn rs.length rs.length).map (fun x => tr1 (rAt rs x.1))) ∧ Below w.heap.size w w' := by
  have hmx : Try.prog.follows .mixedOrders = true := by kernel_rfl
  obtain ⟨i0, hi0, hz0, hz1, hz2⟩ := info_parts info_chg
  have HS := hide hs
  have HR := hide hr
  clear hs hr
  refine (callsIn_wide (n := 6)).1 ?_
  refine callsIn_of_wp_marks Try.func8 rfl trivial ?_ rfl
  simp only [Try.ntmps8, List.size_toArray, List.length_cons, List.length_nil, Nat.reduceAdd, Nat.reduceSub, Array.replicate_succ, Array.replicate_zero, List.push_toArray, List.append_toArray, List.nil_append, List.cons_append]
  gi_wp2_with (gi_at_make; refine wpListIn_make_own _ rfl _ _ 23 rfl w.heap.size 29 i0 _ 3 Try.underlying23 hi0 hz0 hz1 .i64 .i64 _ rs.length rfl rfl rfl (by rw [hz2]; omega) (by unfold maxLen; omega) (Nat.le_refl _) ?_)
  intro w1 hown1 hg1
  have hb1 : Below w.heap.size w w1 := (Below.refl _ _).grown hg1 (Nat.le_refl _) (fun k e => by cases e)
  have hcho1 : ChO w1 w.heap.size (.slice (some ⟨w.heap.size, 0, none⟩) 0 rs.length) [] := ⟨[], rfl, hown1, fun r hr => by cases hr⟩
  have HCHO := hide hcho1
  have HB1 := hide hb1
  have hsz1 := hb1.size
  clear hown1 hg1 hcho1 hb1
  gi_wp2_with (refine ⟨trivial, ?_⟩; gi_at_call 17; refine (backward_in _ _ _ _ _).mono ?_; rintro e w' ⟨rfl, rfl⟩)
  have bO := Boxed.new w1 23 (.slice (some ⟨w.heap.size, 0, none⟩) 0 rs.length)
  have bG := Boxed.new (w1.alloc (.cells #[.slice (some ⟨w.heap.size, 0, none⟩) 0 rs.length] 23)) 23 (.slice al rs.length cl)
  rw [World.size_alloc] at bG
  have hB0 : Below w.heap.size w ((w1.alloc (.cells #[.slice (some ⟨w.heap.size, 0, none⟩) 0 rs.length] 23)).alloc (.cells #[.slice al rs.length cl] 23)) := ((unhide HB1).alloc hsz1 _).alloc (by simp; omega) _
  have hc0 : ChO ((w1.alloc (.cells #[.slice (some ⟨w.heap.size, 0, none⟩) 0 rs.length] 23)).alloc (.cells #[.slice al rs.length cl] 23)) w.heap.size (.slice (some ⟨w.heap.size, 0, none⟩) 0 rs.length) [] := (unhide HCHO).below (((Below.refl _ w1).alloc (Nat.le_refl _) _).alloc (by simp) _)
  have hWs : ((w1.alloc (.cells #[.slice (some ⟨w.heap.size, 0, none⟩) 0 rs.length] 23)).alloc (.cells #[.slice al rs.length cl] 23)).heap.size = w1.heap.size + 2 := by simp
  have bO2 := bO.alloc (.cells #[.slice al rs.length cl] 23)
  generalize ((w1.alloc (.cells #[.slice (some ⟨w.heap.size, 0, none⟩) 0 rs.length] 23)).alloc (.cells #[.slice al rs.length cl] 23)) = W0 at bO2 bG hB0 hc0 hWs ⊢
  clear bO HCHO HB1
  refine wpIn_rangeFunc_ownH rfl (by omega) (gf := 32) (lb := #[.pointer (some ⟨w1.heap.size + 1, 0, none⟩)]) rfl trivial (enters_of Try.func32 (by kernel_rfl) rfl)
    (backward_stops 5 (by omega) (w1.heap.size + 1) w.heap.size cl al rs hm w W0 (unhide HS) rfl hB0 bG.cell) (fun h k => KpT.t h k) (KpT.b (by omega) (by omega)) (Below.refl _ _) (fun _ => rfl)
    (fun pre W => (∃ v, Boxed W w1.heap.size 23 v ∧ ChO W w.heap.size v (pre.map (fun x => tr1 (rAt rs x.1)))) ∧ Boxed W (w1.heap.size + 1) 23 (.slice al rs.length cl) ∧ Below w.heap.size w W)
    (fun _ _ _ => False) ?hI (fun _ _ _ _ _ hs _ _ => hs) ⟨⟨_, bO2, hc0⟩, bG, hB0⟩
    (fun x a' W => ∃ Bx v, Boxed W w1.heap.size 23 v ∧ v.ownBlock ≠ some Bx ∧ w1.heap.size + 1 < Bx ∧ W.heap[Bx]? = some (.cells (rwC (rAt rs x.1)).toArray 29 (0, 0)) ∧
      a' = turnAct (.slice al rs.length cl) undef (.slice none 0 0) undef (.slice al rs.length cl) (.int .i64 rs.length) (.slice (some ⟨w.heap.size, 0, none⟩) 0 rs.length) (.slice al rs.length cl) (.func (.func 32) #[] #[.pointer (some ⟨w1.heap.size + 1, 0, none⟩)]) (.int .i64 (x.1 : Int)) (.agg (rwC (rAt rs x.1)).toArray) w1.heap.size Bx undef undef undef undef undef undef undef undef undef undef undef undef undef)
    ?hAx ?assign ?body ?done ?stop
  case hI =>
    intro pre A B row hs hg hr
    obtain ⟨⟨v, b1, b2⟩, b3, b4⟩ := hs
    have hne : ∀ k, k < w1.heap.size + 2 → some k ≠ row := fun k hk e => by have := (hr k e.symm).1; omega
    exact ⟨⟨v, b1.kept hg (hne _ (by omega)), b2.turn hg (fun r e => (hr r e).2)⟩, b3.kept hg (hne _ (by omega)), b4.grown hg b4.size (fun k e => by have := (hr k e).1; omega)⟩
  case hAx =>
    intro x a' u A B row hs hg hr
    obtain ⟨Bx, v, b1, b2, b3, b4, b5⟩ := hs
    refine ⟨Bx, v, b1.kept hg (fun e => by have := (hr _ e.symm).1; omega), b2, b3, (hg.block Bx (Array.getElem?_eq_some_iff.1 b4).1 (fun e => ?_)).trans b4, b5⟩
    obtain ⟨_, o, ho, hc⟩ := hr Bx e.symm
    rw [b4] at ho
    cases ho
    cases hc
  case assign =>
    rintro l pre x W K ⟨⟨v, b1, b2⟩, b3, b4⟩ hK
    have hgt : ∀ k, v.ownBlock = some k → k < W.heap.size := by
      obtain ⟨qs, _, h2, _⟩ := b2
      intro k hk
      rcases h2.2 with ⟨rfl, _⟩ | ⟨g', cap', cur, rfl, _, hc, _⟩
      · cases hk
      · simp [Value.ownBlock] at hk
        subst hk
        exact (Array.getElem?_eq_some_iff.1 hc).1
    have hfin : ∀ r : (Int × (Option Addr × Nat × List Int) × (Option Addr × Nat × List Int)), rAt rs x.1 = r → K (turnAct (.slice al rs.length cl) undef (.slice none 0 0) undef (.slice al rs.length cl) (.int .i64 rs.length) (.slice (some ⟨w.heap.size, 0, none⟩) 0 rs.length) (.slice al rs.length cl) (.func (.func 32) #[] #[.pointer (some ⟨w1.heap.size + 1, 0, none⟩)]) (.int .i64 (x.1 : Int)) (.agg (rwC r).toArray) w1.heap.size W.heap.size undef undef undef undef undef undef undef undef undef undef undef undef undef) (W.alloc (.cells (rwC r).toArray 29)) := by
      intro r hr
      subst hr
      refine hK _ _ ((KeepsOthers.alloc _ _).from _) ⟨(Below.refl _ W).alloc b4.size _, Below.heap_alloc _ _ _ b3.lt⟩ ⟨⟨v, b1.alloc _, b2.below ((Below.refl _ W).alloc (Nat.le_refl _) _)⟩, b3.alloc _, b4.alloc b4.size _⟩ ⟨W.heap.size, v, b1.alloc _, fun e => Nat.lt_irrefl _ (hgt _ e), b3.lt, heap_alloc_new _ _, rfl⟩
    unfold encT
    change Code.wpIn _ _ _ _ _ { tmps := _, defers := [] } W
    have e0 : rs.getD x.1 (0, (none, 0, []), (none, 0, [])) = rAt rs x.1 := rfl
    rw [e0]
    generalize rAt rs x.1 = r at hfin ⊢
    have hf := hfin r rfl
    obtain ⟨z, ⟨s1, k1, O⟩, ⟨s2, k2, N⟩⟩ := r
    unfold turnAct rwC slV at hf
    unfold rwC slV
    dsimp only at hf ⊢
    clear hfin hK
    gi_wp2_with (rw [Oper.semAt_eq _ _ _ (fun c h => by cases h)]; go_simp; try go_bits)
    exact hf
  case body =>
    rintro l pre x a' W hl ⟨rr, hrr⟩ ⟨⟨v, b1, b2⟩, b3, b4⟩ ⟨Bx, v2, d1, d2, d3, d4, rfl⟩ hlt
    obtain rfl : v2 = v := by
      have := d1.symm.trans b1
      simp at this
      exact this
    have hrm : rAt rs x.1 ∈ rs := by
      have : rAt rs x.1 = rs[x.1] := by unfold rAt; simp [List.getD, x.2]
      rw [this]
      exact List.getElem_mem x.2
    obtain ⟨hO0, hN0⟩ := unhide HR _ hrm
    have hO := hO0.below b4
    have hN := hN0.below b4
    have htr : (pre ++ [x]).map (fun x => tr1 (rAt rs x.1)) = pre.map (fun x => tr1 (rAt rs x.1)) ++ [tr1 (rAt rs x.1)] := by simp
    have hng : v2.ownBlock ≠ some (w1.heap.size + 1) := by
      obtain ⟨qs, _, h2, _⟩ := b2
      exact (b3.not_row (by decide) h2).symm
    have hcl : ∀ k o, W.heap[k]? = some o → o.isCells = false → k ≠ w1.heap.size ∧ v2.ownBlock ≠ some k := by
      intro k o hk ho
      constructor
      · rintro rfl
        rw [show W.heap[w1.heap.size]? = _ from b1] at hk
        cases hk
        cases ho
      · intro e
        obtain ⟨qs, _, h2, _⟩ := b2
        rcases h2.2 with ⟨rfl, _⟩ | ⟨g', cap', cur, rfl, _, hc, _⟩
        · cases e
        · simp [Value.ownBlock] at e
          subst e
          rw [hc] at hk
          cases hk
          cases ho
    have hpl : (pre.map (fun x => tr1 (rAt rs x.1))).length ≤ 100000 := by rw [List.length_map]; omega
    generalize rAt rs x.1 = r at *
    obtain ⟨z, ⟨s1, k1, O⟩, ⟨s2, k2, N⟩⟩ := r
    dsimp only at hO hN
    have hS : turnS Bx z s1 O.length k1 s2 N.length k2 W := by
      unfold rwC slV at d4
      dsimp only at d4
      refine ⟨?_, ?_, ?_⟩ <;> rw [cell_of_row _ _ _ _ _ _ d4] <;> rfl
    gi_wp2
    refine wpIn_region_any hmx ?_
    refine wpAny_round (noDefer_at (by kernel_rfl)) (fun ⟨a, w', h⟩ => h) _ _ _ _ ?_
    change wpAny Try.prog .any turnOps _ 13 (Array.replicate 13 false) (turnAct _ _ _ _ _ _ _ _ _ _ _ _ _ _ _ _ _ _ _ _ _ _ _ _ _ _) (World.drew W)
    refine wpAny_of_held _ _ _ _ (turn_region (n0 := w.heap.size) (W := World.drew W) (fun c a w' h => h) b1 (b2.below (Below.refl _ W).drew) hpl b4.size hsz1 hS (by omega) d2 hO hN ?_)
    intro a' w' v' e1 e2 e3 e4
    refine ⟨⟨(show W.heap.size ≤ w'.heap.size from e3.size), fun k o hk h0 ho => (e4 k (Array.getElem?_eq_some_iff.1 h0).1 (hcl k o h0 ho).1 (hcl k o h0 ho).2).trans h0⟩, ⟨(Below.refl _ W).drew.trans e3, e4 _ b3.lt (by omega) hng⟩, ⟨v', e1, ?_⟩, (e4 _ b3.lt (by omega) hng).trans b3, b4.trans ((Below.refl _ W).drew.trans e3)⟩
    rw [htr]
    exact e2
  case done =>
    rintro D ys W hD rfl ⟨⟨v, b1, b2⟩, b3, b4⟩ hK
    have hc := b1.cell
    obtain ⟨s9, m9, c9, rfl⟩ := b2.shape
    gi_wp2
    refine ⟨by simp, .inl ⟨_, _, rfl, run_takeDeferred hK, ?_⟩⟩
    refine ⟨_, results_tmp rfl _ _ _, _, rfl, b2.turn (grownBy_putObj' W D _) (fun r e => ?_), b4.trans (belowK_b (w := w) (Nat.le_refl _) W D _ _ (by omega) hK rfl rfl)⟩
    cases e
    exact ⟨_, hK, rfl⟩
  case stop =>
    rintro D c pre W _ _ h _
    exact h.elim
theorem dn_get {m : Nat} : ∀ {k i : Nat} (hk : k ≤ m) (hi : i < (dn m k).length), ((dn m k)[i]).1 = m - 1 - i
  | 0, i, _, hi => by simp [dn] at hi
  | k + 1, i, hk, hi => by
    have hs := dn_succ (m := m) (k := k) (by omega)
    have hl := dn_len (m := m) (k := k) (by omega)
    have hi2 : i < k + 1 := by rw [dn_len hk] at hi; exact hi
    by_cases h : i < k
    · have : (dn m (k + 1))[i] = (dn m k)[i]'(by rw [hl]; exact h) := by
        have e : (dn m (k + 1))[i]? = (dn m k)[i]? := by rw [hs, List.getElem?_append_left (by rw [hl]; exact h)]
        rw [List.getElem?_eq_getElem hi, List.getElem?_eq_getElem (by rw [hl]; exact h)] at e
        exact Option.some.inj e
      rw [this]
      exact dn_get (by omega) _
    · obtain rfl : i = k := by omega
      have e : (dn m (i + 1))[i]? = some ⟨m - 1 - i, by omega⟩ := by
        rw [hs, List.getElem?_append_right (by rw [hl]; exact Nat.le_refl _), hl]
        simp
      rw [List.getElem?_eq_getElem hi] at e
      rw [Option.some.inj e]
theorem dn_turn (rs : List (Int × (Option Addr × Nat × List Int) × (Option Addr × Nat × List Int))) : (dn rs.length rs.length).map (fun x => tr1 (rAt rs x.1)) = turnL (rs.map rwP) := by
  have hl := dn_len (Nat.le_refl rs.length)
  apply List.ext_getElem
  · rw [List.length_map, hl]
    unfold turnL
    rw [List.length_map, List.length_reverse, List.length_map]
  · intro i h1 h2
    rw [List.length_map, hl] at h1
    rw [List.getElem_map, dn_get (Nat.le_refl _) (by rw [hl]; exact h1)]
    have e : rAt rs (rs.length - 1 - i) = rs[rs.length - 1 - i] := by unfold rAt; simp [List.getD, show rs.length - 1 - i < rs.length by omega]
    rw [e]
    simp only [turnL, List.getElem_map, List.getElem_reverse, List.length_map]
    rfl
/-- What Turn makes of changes. -/
theorem turn_any (al : Option Addr) (cl : Nat) (l : List (Int × List Int × List Int)) (w : World) (hl : Chs w al cl l) (hm : l.length ≤ 100000) :
    Calls Try.prog 8 #[.slice al l.length cl] w fun e w' => ∃ va vc, e = .returned (.slice va (turnL l).length vc) ∧ Chs w' va vc (turnL l) ∧ Below w.heap.size w w' := by
  obtain ⟨rs, rfl, hs, hr⟩ := hl
  rw [List.length_map] at hm ⊢
  refine (turn_raw al cl rs w hs hr hm).mono ?_
  rintro e w' ⟨v, rfl, hch, hb⟩
  rw [dn_turn] at hch
  obtain ⟨va, vc, rfl, hc⟩ := hch.chs (by unfold turnL; rw [List.length_map, List.length_reverse, List.length_map]; omega)
  exact ⟨va, vc, rfl, hc, hb⟩
end Go.Proofs.Ytbohnnflddfidaa
