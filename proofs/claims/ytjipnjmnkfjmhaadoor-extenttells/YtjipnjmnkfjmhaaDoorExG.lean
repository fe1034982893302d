/-
  Extents: 'append(v, l...)' as a law for the walk; what one more extent comes to. (Part of the proofs over package extent.)
-/
import Derived.Test.YtjipnjmnkfjmhaaDoorExF
import Derived.Laws.AppendOwnNone
namespace Go.Proofs.YtjipnjmnkfjmhaaDoor
open Go.RowKit Go.Sort Go.Shelf
set_option linter.unusedVariables false

theorem wpList_append_exs {w : World} {ops : Array Oper} {rest : List Oper} {o : Oper} {a : Act} {Q : Exit → Act → World → Prop} (hgd : o.guard = none) (s x : Operand)
    (ho : o.op = .call { callee := .builtin .append, args := #[s, x], argTypes := #[22, 22] })
    (B : Nat) (v : Value) (xs : List (Int × Int)) (hs : a.eval s = v) (hown : ExO w B v xs) (sp : Option Addr) (cap : Nat) (l : List (Int × Int)) (hx : a.eval x = .slice sp l.length cap) (hl : Exs w sp cap l) (hn : xs.length + l.length ≤ 1000000) (hB : B ≤ w.heap.size)
    (h : ∀ v' w', ExO w' B v' (xs ++ l) → Below B w w' → (∀ k, v.ownBlock ≠ some k → k < w.heap.size → w'.heap[k]? = w.heap[k]?) → wpList Tryd.prog ops Q rest (a.put o.dst v') w') :
    wpList Tryd.prog ops Q (o :: rest) a w := by
  obtain ⟨i0, hi, hz0, hz1, hz2⟩ := info_parts info_ex
  obtain ⟨h1, ⟨h2, h2'⟩, h3, h4⟩ := hl
  have fin : ∀ v' w', w'.ownsRow B 42 2 v' (xs.length + l.length) (xs.flatMap exC ++ l.flatMap exC) → w.grownBy w' v.ownBlock → wpList Tryd.prog ops Q rest (a.put o.dst v') w' := fun v' w' ho' hg' => by
    refine h v' w' ?_ ((Below.refl _ _).grown hg' hB (fun k hk => (hown.block k hk).1)) (fun k hk hlt => hg'.block k hlt (fun e => hk e.symm))
    unfold ExO
    rw [List.length_append, List.flatMap_append]
    exact ho'
  by_cases h0 : l = []
  · subst h0
    cases sp with
    | none =>
      have hc : cap = 0 := h2' rfl
      subst hc
      refine wpList_append_own_none hgd s x 22 ho B 42 i0 2 Tryd.underlying22 hi v _ _ hs hown hx ?_
      refine h v w (by rw [List.append_nil]; exact hown) (Below.refl _ _) (fun k _ _ => rfl)
    | some y =>
      refine wpList_append_own w hgd s x 22 ho B 42 i0 (.agg #[.int .i64 0, .int .i64 0]) 2 16 Tryd.underlying22 hi hz0 hz1 hz2 rfl (by decide) v _ _ hs hown y 0 cap [] hx rfl (fun j u hj => by simp at hj) (fun u hu => by cases hu) (by unfold maxLen; omega) (by omega) hB (fun v' w' ho' hg' _ => fin v' w' ho' hg')
  · obtain ⟨b, off, rfl, hc⟩ := h4 h0
    refine wpList_append_own w hgd s x 22 ho B 42 i0 (.agg #[.int .i64 0, .int .i64 0]) 2 16 Tryd.underlying22 hi hz0 hz1 hz2 rfl (by decide) v _ _ hs hown ⟨b, off, none⟩ l.length cap (l.flatMap exC) hx (flat_length l) (fun j u hj => ?_) (flat_one l) (by unfold maxLen; omega) (by omega) hB (fun v' w' ho' hg' _ => fin v' w' ho' hg')
    have hjl : j < l.length * 2 := by
      rw [← flat_length]
      exact (List.getElem?_eq_some_iff.1 hj).1
    obtain ⟨c0, c1⟩ := hc (j / 2) (by omega)
    obtain ⟨q0, q1⟩ := flat_get l (j / 2) (by omega)
    rw [addr_add]
    rcases Nat.mod_two_eq_zero_or_one j with hm | hm
    · have e : j / 2 * 2 = j := by omega
      rw [e] at c0 q0
      rw [q0] at hj
      rw [c0]; exact hj
    · have e : j / 2 * 2 + 1 = j := by omega
      rw [e] at q1
      rw [Nat.add_assoc, e] at c1
      rw [q1] at hj
      rw [c1]; exact hj

/-- One extent that a call has laid, as a list. -/
theorem exs_one {w : World} {g : Nat} {e : (Int × Int)} (h : ExB w g e) (he : InI e) : Exs w (some ⟨g, 0, none⟩) 1 [e] :=
  ⟨fun x hx => by rw [List.mem_singleton.1 hx]; exact he, ⟨Nat.le_refl _, fun e => by cases e⟩, by simp, fun _ => ⟨g, 0, rfl, fun i hi => by
    have : i = 0 := by simp at hi; omega
    subst this
    exact ⟨h.c0, h.c1⟩⟩⟩

/-! ### what Fit and Stat say, in plain words -/
theorem freeL_eq {n : Int} {l s : List (Int × Int)} (hc : chk n l = 0) (hs : Srt l s) : freeL n l = freeOf n s := by
  unfold freeL
  rw [if_pos hc]
  have hg := (chk_zero.1 hc).2.2.2
  rw [srt_unique (hg.srtL.1.trans hs.1.symm) hg.srtL.2 hs.2]
theorem stat_spec {n : Int} {l : List (Int × Int)} (hc : chk n l = 0) {O U F M R : Int} (h : stT n l = (O, U, F, M, R)) : O = l.length ∧ U = lenSum l ∧ U + F = n ∧ 0 ≤ U ∧ 0 ≤ F ∧ 0 ≤ M ∧ M ≤ F ∧ M = mostOf 0 (freeL n l) ∧ R = (freeL n l).length := by
  unfold stT at h
  rw [if_pos hc] at h
  simp only [Prod.mk.injEq] at h
  obtain ⟨rfl, rfl, rfl, rfl, rfl⟩ := h
  obtain ⟨h0, h1, h2, hg⟩ := chk_zero.1 hc
  have hsum := hg.srtL.sum hg h0
  rw [← freeL_eq hc hg.srtL] at hsum
  have hsm := freeL_small hc
  have hge := lenSum_ge (h := freeL n l) (fun r hr => (hsm.1 r hr).2.1)
  have hge2 := lenSum_ge (h := l) (fun r hr => (hg.all r hr).2.1)
  have hm : mostOf 0 (freeL n l) ≤ lenSum (freeL n l) := most_le.2 ⟨hge.1, hge.2⟩
  have hm0 := (most_le (h := freeL n l) (m := 0) (M := mostOf 0 (freeL n l))).1 (Int.le_refl _)
  exact ⟨rfl, rfl, hsum, hge2.1, hge.1, hm0.1, hm, rfl, rfl⟩
theorem fit_no {n : Int} {l : List (Int × Int)} {size : Int} (hc : chk n l = 0) (hf : fitE n l size ≠ 0) : size < 1 ∨ mostOf 0 (freeL n l) < size := by
  by_cases h1 : size < 1
  · exact .inl h1
  · right
    obtain ⟨h0, h0', h2, hg⟩ := chk_zero.1 hc
    have hsm := freeL_small hc
    have hlt : ∀ r ∈ freeL n l, r.2 < size := by
      unfold fitE at hf
      rw [if_neg (fun h => h hc)] at hf
      by_cases h3 : size < 1 ∨ 6400 < size
      · intro r hr
        have := hsm.1 r hr
        omega
      · rw [if_neg h3] at hf
        rcases fit_spec (size := size) (by omega) (h := freeL n l) (fun r hr => (hsm.1 r hr).2.1) with ⟨_, h5⟩ | ⟨h4, _⟩
        · exact h5
        · rw [if_neg (by omega)] at hf
          exact absurd rfl hf
    have := (most_le (h := freeL n l) (m := 0) (M := size - 1)).2 ⟨by omega, fun r hr => by have := hlt r hr; omega⟩
    omega
theorem fit_yes {n : Int} {l : List (Int × Int)} {size : Int} (hf : fitE n l size = 0) : chk n l = 0 ∧ 1 ≤ size ∧ size ≤ 6400 ∧ ∃ x ∈ freeL n l, fitAt n l size = x.1 ∧ size ≤ x.2 ∧ ∀ r ∈ freeL n l, size ≤ r.2 → x.2 ≤ r.2 := by
  have hat : fitAt n l size = (fitB size (freeL n l)).1 := by unfold fitAt; rw [if_pos hf]
  unfold fitE at hf
  by_cases hc : chk n l = 0
  · rw [if_neg (fun h => h hc)] at hf
    by_cases h3 : size < 1 ∨ 6400 < size
    · rw [if_pos h3] at hf; cases hf
    · rw [if_neg h3] at hf
      have hsm := freeL_small hc
      rcases fit_spec (size := size) (by omega) (h := freeL n l) (fun r hr => (hsm.1 r hr).2.1) with ⟨h4, _⟩ | ⟨_, h5, h6, h7⟩
      · rw [if_pos h4] at hf; cases hf
      · exact ⟨hc, by omega, by omega, _, h5, hat, h6, h7⟩
  · rw [if_pos hc] at hf
    exact absurd hf hc
/-- One more, where it fits. -/
theorem more_spec {n : Int} {l : List (Int × Int)} {size : Int} (hf : fitE n l size = 0) (hl : l.length < 200) {O U F M R O' U' F' M' R' : Int} (h : stT n l = (O, U, F, M, R)) (h' : stT n ((fitAt n l size, size) :: l) = (O', U', F', M', R')) :
    chk n ((fitAt n l size, size) :: l) = 0 ∧ F' = F - size ∧ U' = U + size ∧ M' ≤ M ∧ R' ≤ R := by
  obtain ⟨hc, z1, z2, x, hx, hat, hxs, hmin⟩ := fit_yes hf
  obtain ⟨h0, h1, h2, hg⟩ := chk_zero.1 hc
  rw [hat] at h' ⊢
  rw [freeL_eq hc hg.srtL] at hx
  obtain ⟨s', R1, R2, hs', hG, hfr, hfr'⟩ := hg.srtL.more hg h0 hx z1 hxs
  have hc' : chk n ((x.1, size) :: l) = 0 := chk_zero.2 ⟨h0, h1, by simp; omega, hG⟩
  obtain ⟨_, u1, u2, _, _, _, _, u3, u4⟩ := stat_spec hc h
  obtain ⟨_, v1, v2, _, _, _, _, v3, v4⟩ := stat_spec hc' h'
  rw [freeL_eq hc hg.srtL, hfr] at u3 u4
  rw [freeL_eq hc' hs', hfr'] at v3 v4
  rw [lenSum_cons] at v1
  dsimp only at v1
  refine ⟨hc', by omega, by omega, ?_, ?_⟩
  · rw [v3]
    have hm := (most_le (h := R1 ++ x :: R2) (m := 0) (M := M)).1 (by rw [← u3]; exact Int.le_refl _)
    refine most_le.2 ⟨hm.1, fun r hr => ?_⟩
    rcases List.mem_append.1 hr with hr | hr
    · exact hm.2 r (by simp [hr])
    · rcases List.mem_append.1 hr with hr | hr
      · have hxm := hm.2 x (by simp)
        by_cases hz : size < x.2
        · rw [if_pos hz] at hr
          rw [List.mem_singleton.1 hr]
          dsimp only; omega
        · rw [if_neg hz] at hr; cases hr
      · exact hm.2 r (by simp [hr])
  · rw [u4, v4]
    simp only [List.length_append, List.length_cons]
    by_cases hz : size < x.2
    · rw [if_pos hz]; simp only [List.length_cons, List.length_nil]; omega
    · rw [if_neg hz]; simp only [List.length_nil]; omega
end Go.Proofs.YtjipnjmnkfjmhaaDoor
