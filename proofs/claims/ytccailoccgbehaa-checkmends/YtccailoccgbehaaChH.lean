/-
  Two lists of faults, one behind the other; 'append(v, l...)' as a law for the walk. (Part of the proofs over package check.)
-/
import Derived.Test.YtccailoccgbehaaChG
import Derived.Test.YtccailoccgbehaaChLay
import Derived.Laws.AppendOwnNone
namespace Go.Proofs.Ytccailoccgbehaa
open Go.RowKit Go.Shelf
set_option linter.unusedVariables false

section
variable {α : Type} {enc : α → List Value} {k T : Nat}
theorem flat_of (hk : ∀ x, (enc x).length = k) : ∀ (l : List α) (j : Nat) (u : Value), (l.flatMap enc)[j]? = some u → ∃ i x j', l[i]? = some x ∧ (enc x)[j']? = some u ∧ j = i * k + j'
  | [], j, u, h => by simp at h
  | e :: r, j, u, h => by
    rw [List.flatMap_cons] at h
    by_cases hj : j < k
    · rw [List.getElem?_append_left (by rw [hk]; exact hj)] at h
      exact ⟨0, e, j, rfl, h, by omega⟩
    · rw [List.getElem?_append_right (by rw [hk]; omega), hk] at h
      obtain ⟨i, x, j', h1, h2, h3⟩ := flat_of hk r (j - k) u h
      exact ⟨i + 1, x, j', by simpa using h1, h2, by rw [Nat.succ_mul]; omega⟩
theorem flat_ones (h1 : ∀ x, ∀ u ∈ enc x, u.oneCell' = true) (l : List α) : ∀ u ∈ l.flatMap enc, u.oneCell' = true := by
  intro u hu
  obtain ⟨e, _, hu⟩ := List.mem_flatMap.1 hu
  exact h1 e u hu
/-- 'append(v, l...)', l many things. -/
theorem wpList_append_sls {P : Program} {w : World} {ops : Array Oper} {rest : List Oper} {o : Oper} {a : Act} {Q : Exit → Act → World → Prop} (hgd : o.guard = none) (s x : Operand) (t : TypeId)
    (ho : o.op = .call { callee := .builtin .append, args := #[s, x], argTypes := #[t, t] }) (B : Nat) (i0 : TypeInfo) (z : Value) (bytes : Nat)
    (ht : P.underlying t = some (.slice T)) (hi : P.info? T = some i0) (hz : i0.zero = some z) (hsize : i0.size = k) (hby : i0.bytes = bytes) (hzs : z.cells.size = k) (hsz : 0 < k) (hbb : bytes ≤ 100)
    (v : Value) (xs : List α) (hs : a.eval s = v) (hown : Lst enc k T w B v xs) (sp : Option Addr) (cap : Nat) (l : List α) (hx : a.eval x = .slice sp l.length cap) (hl : Sls enc k w sp cap l) (hk : ∀ x, (enc x).length = k) (h1 : ∀ x, ∀ u ∈ enc x, u.oneCell' = true) (hn : xs.length + l.length ≤ 1000) (hB : B ≤ w.heap.size)
    (h : ∀ v' w', Lst enc k T w' B v' (xs ++ l) → Below B w w' → wpList P ops Q rest (a.put o.dst v') w') :
    wpList P ops Q (o :: rest) a w := by
  obtain ⟨h2, h2', h3, h4⟩ := hl
  have fin : ∀ v' w', w'.ownsRow B T k v' (xs.length + l.length) (xs.flatMap enc ++ l.flatMap enc) → w.grownBy w' v.ownBlock → wpList P ops Q rest (a.put o.dst v') w' := fun v' w' ho' hg' => by
    refine h v' w' ?_ ((Below.refl _ _).grown hg' hB (fun k hk => hown.block k hk))
    unfold Lst
    rw [List.length_append, List.flatMap_append]
    exact ho'
  have hbig : (xs.length + l.length) * bytes ≤ 140737488355328 := Nat.le_trans (Nat.mul_le_mul hn hbb) (by decide)
  by_cases h0 : l = []
  · subst h0
    cases sp with
    | none =>
      have hc : cap = 0 := h2' rfl
      subst hc
      refine wpList_append_own_none hgd s x t ho B T i0 k ht hi v _ _ hs hown hx ?_
      exact h v w (by rw [List.append_nil]; exact hown) (Below.refl _ _)
    | some y =>
      exact wpList_append_own w hgd s x t ho B T i0 z k bytes ht hi hz hsize hby hzs hsz v _ _ hs hown y 0 cap [] hx (by simp) (fun j u hj => by simp at hj) (fun u hu => by cases hu) (by unfold maxLen; simp at hn; omega) (by simpa using hbig) hB (fun v' w' ho' hg' _ => fin v' w' ho' hg')
  · obtain ⟨b, off, rfl, hc⟩ := h4 h0
    refine wpList_append_own w hgd s x t ho B T i0 z k bytes ht hi hz hsize hby hzs hsz v _ _ hs hown ⟨b, off, none⟩ l.length cap (l.flatMap enc) hx (flat_len hk l) (fun j u hj => ?_) (flat_ones h1 l) (by unfold maxLen; omega) hbig hB (fun v' w' ho' hg' _ => fin v' w' ho' hg')
    obtain ⟨i, x, j', q1, q2, rfl⟩ := flat_of hk l j u hj
    rw [addr_add, ← Nat.add_assoc]
    exact hc i x q1 j' u q2
end

/-! ### slices.Grow, slices.Concat -/
theorem grow_any (n : Nat) (w : World) (hn : n ≤ 1000) :
    Calls Try.prog 20 #[.slice none 0 0, .int .i64 n] w fun r w' => ∃ v, r = .returned v ∧ Lst flC 2 31 w' w.heap.size v [] ∧ Below w.heap.size w w' := by
  obtain ⟨i0, hi0, hz0, hz1, hz2⟩ := info_parts info_flt
  by_cases h0 : n = 0
  · subst h0
    have h := Any8.slices_Grow_room flGrow none 0 0 0 w (Nat.le_refl _) (by decide) (by decide) (Nat.le_refl _)
    exact h.mono fun r w' ⟨hr, hw⟩ => ⟨_, hr, Lst.nil _ _, by rw [hw]; exact Below.refl _ _⟩
  · have h := Any8.slices_Grow_grow flGrow i0 _ hi0 hz0 (by omega) none 0 0 n [] w (Nat.le_refl _) (by omega) (by rw [hz2]; omega) (by omega) (by simp) (fun _ => rfl) (fun a ha => by cases ha)
    refine h.mono fun r w' ⟨hr, hw⟩ => ⟨_, hr, ?_, by rw [hw]; exact (Below.refl _ w).drew.alloc (Nat.le_refl _) _⟩
    rw [hw]
    have hz : ∀ m : Nat, (Builtin.zeroCells (Value.agg #[.int .i64 0, .int .i64 0]).cells m).size = m * 2 := fun m => by simp [Builtin.zeroCells, Value.cells]
    have hge := grownCap_ge w (0 + n) 0 (flGrow_ren.t 25)
    refine ⟨by simp, .inr ⟨w.heap.size, _, _, rfl, Nat.le_refl _, heap_alloc_new w.drew _, Nat.zero_le _, grownCap_le_maxLen w _ _ _ (by unfold maxLen; omega), ?_, by simp⟩⟩
    rw [Array.size_append, Array.size_append, hz, hz]
    generalize grownCap w (0 + n) 0 _ = G at *
    simp
    omega
set_option maxHeartbeats 1000000 in
theorem concat_any (g : Nat) (a1 a2 : Option Addr) (c1 c2 : Nat) (l1 l2 : List (Int × Int)) (w : World) (hg : w.heap[g]? = some (.cells #[.slice a1 l1.length c1, .slice a2 l2.length c2] 27 (0, 0))) (h1 : Sls flC 2 w a1 c1 l1) (h2 : Sls flC 2 w a2 c2 l2) (hn1 : l1.length ≤ 400) (hn2 : l2.length ≤ 400) :
    Calls Try.prog 11 #[.slice (some ⟨g, 0, none⟩) 2 2] w fun r w' => ∃ v, r = .returned v ∧ Lst flC 2 31 w' w.heap.size v (l1 ++ l2) ∧ Below w.heap.size w w' := by
  obtain ⟨i0, hi0, hz0, hz1, hz2⟩ := info_parts info_flt
  have q0 : w.cell? ⟨g, 0, none⟩ = some (.slice a1 l1.length c1) := by rw [cell_of_row _ _ _ _ _ _ hg]; rfl
  have q1 : w.cell? ⟨g, 1, none⟩ = some (.slice a2 l2.length c2) := by rw [cell_of_row _ _ _ _ _ _ hg]; rfl
  have hglt := block_lt_of_cell q0
  dsimp only at hglt
  have HG := hide (grow_any (l1.length + l2.length) w (by omega))
  rw [show ((l1.length + l2.length : Nat) : Int) = (l1.length : Int) + l2.length by omega] at HG
  have H1 := hide h1
  have H2 := hide h2
  clear h1 h2 hg
  go_enter Try.func11, Try.ntmps11
  go_wp2_with fail
  go_loop [3, 11] (fun sz iv => (iv = .int .i64 0 ∧ sz = .int .i64 0) ∨ (iv = .int .i64 1 ∧ sz = .int .i64 (l1.length : Int)) ∨ (iv = .int .i64 2 ∧ sz = .int .i64 ((l1.length : Int) + l2.length))) (fun _ iv => 2 - (intOf iv).toNat)
  case atStart => exact .inl ⟨rfl, rfl⟩
  case round =>
    rcases hrel with ⟨rfl, rfl⟩ | ⟨rfl, rfl⟩ | ⟨rfl, rfl⟩
    · go_wp2
      go_round
      case rel => exact .inr (.inl ⟨rfl, rfl⟩)
      case measure => simp [intOf]
    · go_wp2
      go_round
      case rel => exact .inr (.inr ⟨rfl, rfl⟩)
      case measure => simp [intOf]
    · go_wp2_with fail
      refine (unhide HG).mono ?_
      rintro e w1 ⟨v1, rfl, hown1, hb1⟩
      obtain ⟨va, vm, vc, rfl⟩ := hown1.shape
      have HO1 := hide hown1
      have HB1 := hide hb1
      clear hown1 hb1 HG
      go_wp2_with fail
      go_loopw [6, 27] (fun v iv wr => Below w.heap.size w wr ∧ ((iv = .int .i64 0 ∧ Lst flC 2 31 wr w.heap.size v []) ∨ (iv = .int .i64 1 ∧ Lst flC 2 31 wr w.heap.size v l1) ∨ (iv = .int .i64 2 ∧ Lst flC 2 31 wr w.heap.size v (l1 ++ l2)))) (fun _ iv _ => 2 - (intOf iv).toNat)
      case atStart => exact ⟨unhide HB1, .inl ⟨rfl, unhide HO1⟩⟩
      case round =>
        obtain ⟨hbel, hrel⟩ := hrel
        have hgl : g < wr.heap.size := Nat.lt_of_lt_of_le hglt hbel.size
        have hsz := hbel.size
        have r0 := (hbel.cell (block_lt_of_cell q0)).trans q0
        have r1 := (hbel.cell (block_lt_of_cell q1)).trans q1
        have HS1 := hide ((unhide H1).below hbel)
        have HS2 := hide ((unhide H2).below hbel)
        have HBEL := hide hbel
        clear hbel
        rcases hrel with ⟨rfl, hown⟩ | ⟨rfl, hown⟩ | ⟨rfl, hown⟩
        · obtain ⟨ya, ym, yc, rfl⟩ := hown.shape
          have HO := hide hown
          clear hown
          go_wp2_with (at_builtin; refine wpList_append_sls rfl _ _ 27 rfl w.heap.size i0 (.agg #[.int .i64 0, .int .i64 0]) 16 Try.underlying27 hi0 hz0 hz1 hz2 rfl (by decide) (by decide) _ _ rfl (unhide HO) a1 c1 l1 rfl (unhide HS1) flC_len flC_one (by simp; omega) hsz ?_)
          intro v9 w9 hown9 hbel9
          have HO9 := hide hown9
          have HB9 := hide ((unhide HBEL).trans hbel9)
          obtain ⟨a9, m9, c9, rfl⟩ := hown9.shape
          clear hown9 hbel9 HO HBEL
          go_wp2
          go_roundw
          case rel => exact ⟨unhide HB9, .inr (.inl ⟨rfl, unhide HO9⟩)⟩
          case measure => simp [intOf]
        · obtain ⟨ya, ym, yc, rfl⟩ := hown.shape
          have HO := hide hown
          clear hown
          go_wp2_with (at_builtin; refine wpList_append_sls rfl _ _ 27 rfl w.heap.size i0 (.agg #[.int .i64 0, .int .i64 0]) 16 Try.underlying27 hi0 hz0 hz1 hz2 rfl (by decide) (by decide) _ _ rfl (unhide HO) a2 c2 l2 rfl (unhide HS2) flC_len flC_one (by omega) hsz ?_)
          intro v9 w9 hown9 hbel9
          have HO9 := hide hown9
          have HB9 := hide ((unhide HBEL).trans hbel9)
          obtain ⟨a9, m9, c9, rfl⟩ := hown9.shape
          clear hown9 hbel9 HO HBEL
          go_wp2
          go_roundw
          case rel => exact ⟨unhide HB9, .inr (.inr ⟨rfl, unhide HO9⟩)⟩
          case measure => simp [intOf]
        · obtain ⟨ya, ym, yc, rfl⟩ := hown.shape
          have HO := hide hown
          clear hown
          go_wp2
          go_ret
          exact ⟨_, rfl, unhide HO, unhide HBEL⟩
end Go.Proofs.Ytccailoccgbehaa
