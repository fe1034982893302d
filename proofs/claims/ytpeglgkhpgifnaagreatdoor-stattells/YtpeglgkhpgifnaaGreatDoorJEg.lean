/-
  Joined by program: ExG; ExHoles. (Parts of the proofs over the packages of the program.)
-/
import Derived.Test.YtpeglgkhpgifnaaGreatDoorJEy
import Derived.Laws.AppendOwnNone
import Derived.Test.YtpeglgkhpgifnaaGreatDoorJChp
/-! Extents: 'append(v, l...)' as a law for the walk; what one more extent comes to. (Part of the proofs over package extent.) -/
namespace Go.Proofs.YtpeglgkhpgifnaaGreatDoor
open Go.RowKit Go.Sort Go.Shelf
set_option linter.unusedVariables false

theorem wpList_append_exs {w : World} {ops : Array Oper} {rest : List Oper} {o : Oper} {a : Act} {Q : Exit → Act → World → Prop} (hgd : o.guard = none) (s x : Operand)
    (ho : o.op = .call { callee := .builtin .append, args := #[s, x], argTypes := #[30, 30] })
    (B : Nat) (v : Value) (xs : List (Int × Int)) (hs : a.eval s = v) (hown : ExO w B v xs) (sp : Option Addr) (cap : Nat) (l : List (Int × Int)) (hx : a.eval x = .slice sp l.length cap) (hl : Exs w sp cap l) (hn : xs.length + l.length ≤ 1000000) (hB : B ≤ w.heap.size)
    (h : ∀ v' w', ExO w' B v' (xs ++ l) → Below B w w' → (∀ k, v.ownBlock ≠ some k → k < w.heap.size → w'.heap[k]? = w.heap[k]?) → wpList Tryz.prog ops Q rest (a.put o.dst v') w') :
    wpList Tryz.prog ops Q (o :: rest) a w := by
  obtain ⟨i0, hi, hz0, hz1, hz2⟩ := info_parts info_ex
  obtain ⟨h1, ⟨h2, h2'⟩, h3, h4⟩ := hl
  have fin : ∀ v' w', w'.ownsRow B 45 2 v' (xs.length + l.length) (xs.flatMap exC ++ l.flatMap exC) → w.grownBy w' v.ownBlock → wpList Tryz.prog ops Q rest (a.put o.dst v') w' := fun v' w' ho' hg' => by
    refine h v' w' ?_ ((Below.refl _ _).grown hg' hB (fun k hk => (hown.block k hk).1)) (fun k hk hlt => hg'.block k hlt (fun e => hk e.symm))
    unfold ExO
    rw [List.length_append, List.flatMap_append]
    exact ho'
  by_cases h0 : l = []
  · subst h0
    cases sp with
    | none =>
      have hc : cap = 0 := h2' rfl
      subst hc
      refine wpList_append_own_none hgd s x 30 ho B 45 i0 2 Tryz.underlying30 hi v _ _ hs hown hx ?_
      refine h v w (by rw [List.append_nil]; exact hown) (Below.refl _ _) (fun k _ _ => rfl)
    | some y =>
      refine wpList_append_own w hgd s x 30 ho B 45 i0 (.agg #[.int .i64 0, .int .i64 0]) 2 16 Tryz.underlying30 hi hz0 hz1 hz2 rfl (by decide) v _ _ hs hown y 0 cap [] hx rfl (fun j u hj => by simp at hj) (fun u hu => by cases hu) (by unfold maxLen; omega) (by omega) hB (fun v' w' ho' hg' _ => fin v' w' ho' hg')
  · obtain ⟨b, off, rfl, hc⟩ := h4 h0
    refine wpList_append_own w hgd s x 30 ho B 45 i0 (.agg #[.int .i64 0, .int .i64 0]) 2 16 Tryz.underlying30 hi hz0 hz1 hz2 rfl (by decide) v _ _ hs hown ⟨b, off, none⟩ l.length cap (l.flatMap exC) hx (flat_length l) (fun j u hj => ?_) (flat_one l) (by unfold maxLen; omega) (by omega) hB (fun v' w' ho' hg' _ => fin v' w' ho' hg')
    have hjl : j < l.length * 2 := by
      rw [← flat_length]
      exact (List.getElem?_eq_some_iff.1 hj).1
    obtain ⟨c0, c1⟩ := hc (j / 2) (by omega)
    obtain ⟨q0, q1⟩ := flat_get l (j / 2) (by omega)
    rw [addr_add]
    rcases Nat.mod_two_eq_zero_or_one j with hm | hm
    · have e : j / 2 * 2 = j := by omega
      rw [e] at c0 q0
      rw [q0] at hj
      rw [c0]; exact hj
    · have e : j / 2 * 2 + 1 = j := by omega
      rw [e] at q1
      rw [Nat.add_assoc, e] at c1
      rw [q1] at hj
      rw [c1]; exact hj

/-- One extent that a call has laid, as a list. -/
theorem exs_one {w : World} {g : Nat} {e : (Int × Int)} (h : ExB w g e) (he : InI e) : Exs w (some ⟨g, 0, none⟩) 1 [e] :=
  ⟨fun x hx => by rw [List.mem_singleton.1 hx]; exact he, ⟨Nat.le_refl _, fun e => by cases e⟩, by simp, fun _ => ⟨g, 0, rfl, fun i hi => by
    have : i = 0 := by simp at hi; omega
    subst this
    exact ⟨h.c0, h.c1⟩⟩⟩

/-! ### what Fit and Stat say, in plain words -/
theorem freeL_eq {n : Int} {l s : List (Int × Int)} (hc : chk n l = 0) (hs : Srt l s) : freeL n l = freeOf n s := by
  unfold freeL
  rw [if_pos hc]
  have hg := (chk_zero.1 hc).2.2.2
  rw [srt_unique (hg.srtL.1.trans hs.1.symm) hg.srtL.2 hs.2]
theorem stat_spec {n : Int} {l : List (Int × Int)} (hc : chk n l = 0) {O U F M R : Int} (h : stT n l = (O, U, F, M, R)) : O = l.length ∧ U = lenSum l ∧ U + F = n ∧ 0 ≤ U ∧ 0 ≤ F ∧ 0 ≤ M ∧ M ≤ F ∧ M = mostOf 0 (freeL n l) ∧ R = (freeL n l).length := by
  unfold stT at h
  rw [if_pos hc] at h
  simp only [Prod.mk.injEq] at h
  obtain ⟨rfl, rfl, rfl, rfl, rfl⟩ := h
  obtain ⟨h0, h1, h2, hg⟩ := chk_zero.1 hc
  have hsum := hg.srtL.sum hg h0
  rw [← freeL_eq hc hg.srtL] at hsum
  have hsm := freeL_small hc
  have hge := lenSum_ge (h := freeL n l) (fun r hr => (hsm.1 r hr).2.1)
  have hge2 := lenSum_ge (h := l) (fun r hr => (hg.all r hr).2.1)
  have hm : mostOf 0 (freeL n l) ≤ lenSum (freeL n l) := most_le.2 ⟨hge.1, hge.2⟩
  have hm0 := (most_le (h := freeL n l) (m := 0) (M := mostOf 0 (freeL n l))).1 (Int.le_refl _)
  exact ⟨rfl, rfl, hsum, hge2.1, hge.1, hm0.1, hm, rfl, rfl⟩
theorem fit_no {n : Int} {l : List (Int × Int)} {size : Int} (hc : chk n l = 0) (hf : fitE n l size ≠ 0) : size < 1 ∨ mostOf 0 (freeL n l) < size := by
  by_cases h1 : size < 1
  · exact .inl h1
  · right
    obtain ⟨h0, h0', h2, hg⟩ := chk_zero.1 hc
    have hsm := freeL_small hc
    have hlt : ∀ r ∈ freeL n l, r.2 < size := by
      unfold fitE at hf
      rw [if_neg (fun h => h hc)] at hf
      by_cases h3 : size < 1 ∨ 6400 < size
      · intro r hr
        have := hsm.1 r hr
        omega
      · rw [if_neg h3] at hf
        rcases fit_spec (size := size) (by omega) (h := freeL n l) (fun r hr => (hsm.1 r hr).2.1) with ⟨_, h5⟩ | ⟨h4, _⟩
        · exact h5
        · rw [if_neg (by omega)] at hf
          exact absurd rfl hf
    have := (most_le (h := freeL n l) (m := 0) (M := size - 1)).2 ⟨by omega, fun r hr => by have := hlt r hr; omega⟩
    omega
theorem fit_yes {n : Int} {l : List (Int × Int)} {size : Int} (hf : fitE n l size = 0) : chk n l = 0 ∧ 1 ≤ size ∧ size ≤ 6400 ∧ ∃ x ∈ freeL n l, fitAt n l size = x.1 ∧ size ≤ x.2 ∧ ∀ r ∈ freeL n l, size ≤ r.2 → x.2 ≤ r.2 := by
  have hat : fitAt n l size = (fitB size (freeL n l)).1 := by unfold fitAt; rw [if_pos hf]
  unfold fitE at hf
  by_cases hc : chk n l = 0
  · rw [if_neg (fun h => h hc)] at hf
    by_cases h3 : size < 1 ∨ 6400 < size
    · rw [if_pos h3] at hf; cases hf
    · rw [if_neg h3] at hf
      have hsm := freeL_small hc
      rcases fit_spec (size := size) (by omega) (h := freeL n l) (fun r hr => (hsm.1 r hr).2.1) with ⟨h4, _⟩ | ⟨_, h5, h6, h7⟩
      · rw [if_pos h4] at hf; cases hf
      · exact ⟨hc, by omega, by omega, _, h5, hat, h6, h7⟩
  · rw [if_pos hc] at hf
    exact absurd hf hc
/-- One more, where it fits. -/
theorem more_spec {n : Int} {l : List (Int × Int)} {size : Int} (hf : fitE n l size = 0) (hl : l.length < 200) {O U F M R O' U' F' M' R' : Int} (h : stT n l = (O, U, F, M, R)) (h' : stT n ((fitAt n l size, size) :: l) = (O', U', F', M', R')) :
    chk n ((fitAt n l size, size) :: l) = 0 ∧ F' = F - size ∧ U' = U + size ∧ M' ≤ M ∧ R' ≤ R := by
  obtain ⟨hc, z1, z2, x, hx, hat, hxs, hmin⟩ := fit_yes hf
  obtain ⟨h0, h1, h2, hg⟩ := chk_zero.1 hc
  rw [hat] at h' ⊢
  rw [freeL_eq hc hg.srtL] at hx
  obtain ⟨s', R1, R2, hs', hG, hfr, hfr'⟩ := hg.srtL.more hg h0 hx z1 hxs
  have hc' : chk n ((x.1, size) :: l) = 0 := chk_zero.2 ⟨h0, h1, by simp; omega, hG⟩
  obtain ⟨_, u1, u2, _, _, _, _, u3, u4⟩ := stat_spec hc h
  obtain ⟨_, v1, v2, _, _, _, _, v3, v4⟩ := stat_spec hc' h'
  rw [freeL_eq hc hg.srtL, hfr] at u3 u4
  rw [freeL_eq hc' hs', hfr'] at v3 v4
  rw [lenSum_cons] at v1
  dsimp only at v1
  refine ⟨hc', by omega, by omega, ?_, ?_⟩
  · rw [v3]
    have hm := (most_le (h := R1 ++ x :: R2) (m := 0) (M := M)).1 (by rw [← u3]; exact Int.le_refl _)
    refine most_le.2 ⟨hm.1, fun r hr => ?_⟩
    rcases List.mem_append.1 hr with hr | hr
    · exact hm.2 r (by simp [hr])
    · rcases List.mem_append.1 hr with hr | hr
      · have hxm := hm.2 x (by simp)
        by_cases hz : size < x.2
        · rw [if_pos hz] at hr
          rw [List.mem_singleton.1 hr]
          dsimp only; omega
        · rw [if_neg hz] at hr; cases hr
      · exact hm.2 r (by simp [hr])
  · rw [u4, v4]
    simp only [List.length_append, List.length_cons]
    by_cases hz : size < x.2
    · rw [if_pos hz]; simp only [List.length_cons, List.length_nil]; omega
    · rw [if_neg hz]; simp only [List.length_nil]; omega
end Go.Proofs.YtpeglgkhpgifnaaGreatDoor
/-! Extents as plain data: runs found byte by byte are runs found between extents that rise; the document's answers. (Part of the proofs over package extent.) -/
namespace Go.Proofs.YtpeglgkhpgifnaaGreatDoor
set_option linter.unusedVariables false

/-- One more byte that none takes. -/
def extH (o : List (Int × Int)) (i : Nat) : List (Int × Int) := match o.getLast? with
  | none => [((i : Int), 1)]
  | some x => if x.1 + x.2 = i then o.dropLast ++ [(x.1, x.2 + 1)] else o ++ [((i : Int), 1)]
/-- Runs of bytes that none takes, byte by byte. -/
def holesTo (tk : Nat → Bool) : Nat → List (Int × Int)
  | 0 => []
  | i + 1 => if tk i = true then holesTo tk i else extH (holesTo tk i) i
/-- No run ends just there. -/
def Fresh (o : List (Int × Int)) (f : Nat) : Prop := ∀ x, o.getLast? = some x → x.1 + x.2 < f
theorem holes_free {tk : Nat → Bool} {f : Nat} {o : List (Int × Int)} (h : holesTo tk f = o) (hf : Fresh o f) : ∀ k, (∀ i, f ≤ i → i < f + k → tk i = false) → holesTo tk (f + k) = if k = 0 then o else o ++ [((f : Int), (k : Int))]
  | 0, _ => h
  | k + 1, ht => by
    have ih := holes_free h hf k (fun i h1 h2 => ht i h1 (by omega))
    rw [if_neg (by omega)]
    show (if tk (f + k) = true then holesTo tk (f + k) else extH (holesTo tk (f + k)) (f + k)) = _
    rw [if_neg (by rw [ht (f + k) (by omega) (by omega)]; simp), ih]
    by_cases hk : k = 0
    · subst hk
      rw [if_pos rfl]
      unfold extH
      cases hl : o.getLast? with
      | none => rw [List.getLast?_eq_none_iff.1 hl]; simp
      | some x =>
        have := hf x hl
        dsimp only
        rw [if_neg (by omega)]; simp
    · rw [if_neg hk]
      unfold extH
      rw [List.getLast?_concat]
      dsimp only
      rw [if_pos (by omega), List.dropLast_concat]
      congr 2
theorem holes_taken {tk : Nat → Bool} {f : Nat} : ∀ k, (∀ i, f ≤ i → i < f + k → tk i = true) → holesTo tk (f + k) = holesTo tk f
  | 0, _ => rfl
  | k + 1, ht => by
    show (if tk (f + k) = true then holesTo tk (f + k) else extH (holesTo tk (f + k)) (f + k)) = _
    rw [if_pos (ht (f + k) (by omega) (by omega))]
    exact holes_taken k (fun i h1 h2 => ht i h1 (by omega))
theorem holes_chain {tk : Nat → Bool} : ∀ (s : List (Int × Int)) (f : Nat) (o : List (Int × Int)), Chain f s → (∀ e ∈ s, 1 ≤ e.2) → (∀ i : Nat, (f : Int) ≤ i → (i : Int) < endOf f s → (tk i = true ↔ ∃ e ∈ s, e.1 ≤ i ∧ (i : Int) < e.1 + e.2)) → holesTo tk f = o → Fresh o f →
    holesTo tk (endOf f s).toNat = o ++ runsOf f s ∧ Fresh (o ++ runsOf f s) (endOf f s).toNat
  | [], f, o, _, _, _, h, hf => by
    simp only [endOf, runsOf, List.append_nil, Int.toNat_natCast]
    exact ⟨h, hf⟩
  | e :: r, f, o, hc, h1, ht, h, hf => by
    obtain ⟨c1, c2, c3⟩ := hc
    have he := h1 e (by simp)
    have hle := c3.endLe
    obtain ⟨k, hk⟩ : ∃ k : Nat, e.1 = f + k := ⟨(e.1 - f).toNat, by omega⟩
    obtain ⟨m, hm⟩ : ∃ m : Nat, e.2 = m := ⟨e.2.toNat, by omega⟩
    have a1 := holes_free h hf k (fun i i1 i2 => by
      cases hh : tk i with
      | false => rfl
      | true =>
        obtain ⟨x, hx, x1, x2⟩ := (ht i (by omega) (by show (i : Int) < endOf (e.1 + e.2) r; omega)).1 hh
        rcases List.mem_cons.1 hx with rfl | hx
        · omega
        · have := c3.mem x hx
          omega)
    have a2 := holes_taken (tk := tk) (f := f + k) m (fun i i1 i2 => (ht i (by omega) (by show (i : Int) < endOf (e.1 + e.2) r; omega)).2 ⟨e, by simp, by omega, by omega⟩)
    have ho : (if k = 0 then o else o ++ [((f : Int), (k : Int))]) = o ++ (if (f : Int) < e.1 then [((f : Int), e.1 - f)] else []) := by
      by_cases hk0 : k = 0
      · rw [if_pos hk0, if_neg (by omega), List.append_nil]
      · rw [if_neg hk0, if_pos (by omega), show e.1 - (f : Int) = k by omega]
    have hF : Fresh (o ++ (if (f : Int) < e.1 then [((f : Int), e.1 - f)] else [])) (f + k + m) := by
      intro x hx
      by_cases hk0 : (f : Int) < e.1
      · rw [if_pos hk0, List.getLast?_concat] at hx
        obtain rfl := Option.some.inj hx
        dsimp only; omega
      · rw [if_neg hk0, List.append_nil] at hx
        have := hf x hx
        omega
    have en : e.1 + e.2 = ((f + k + m : Nat) : Int) := by omega
    simp only [endOf, runsOf]
    rw [en, ← List.append_assoc]
    rw [en] at c3 hle
    refine holes_chain r (f + k + m) _ c3 (fun x hx => h1 x (by simp [hx])) (fun i i1 i2 => ?_) ?_ hF
    · rw [ht i (by omega) (by show (i : Int) < endOf (e.1 + e.2) r; rw [en]; exact i2)]
      constructor
      · rintro ⟨x, hx, x1, x2⟩
        rcases List.mem_cons.1 hx with rfl | hx
        · omega
        · exact ⟨x, hx, x1, x2⟩
      · rintro ⟨x, hx, x1, x2⟩
        exact ⟨x, by simp [hx], x1, x2⟩
    · rw [a2, a1, ho]
/-- Byte by byte, or between extents that rise: the same runs. -/
theorem Srt.holes {n : Nat} {l s : List (Int × Int)} (hs : Srt l s) (hg : Good n l) {tk : Nat → Bool} (ht : ∀ i : Nat, i < n → (tk i = true ↔ ∃ e ∈ l, e.1 ≤ i ∧ (i : Int) < e.1 + e.2)) : holesTo tk n = freeOf n s := by
  obtain ⟨hc, he, hle⟩ := hs.chain hg (by omega)
  obtain ⟨hc1, hc2⟩ := chain_append.1 hc
  have hgs := hg.perm hs.1
  have h0 := hc1.endLe
  obtain ⟨f, hf⟩ : ∃ f : Nat, endOf 0 s = f := ⟨(endOf 0 s).toNat, by omega⟩
  obtain ⟨k, hk⟩ : ∃ k : Nat, n = f + k := ⟨n - f, by omega⟩
  have a1 := holes_chain (tk := tk) s 0 [] hc1 (fun e hh => (hgs.all e hh).2.1) (fun i i1 i2 => by
    have i3 : (i : Int) < endOf 0 s := i2
    rw [ht i (by omega)]
    constructor
    · rintro ⟨e, hh, x⟩; exact ⟨e, hs.1.mem_iff.2 hh, x⟩
    · rintro ⟨e, hh, x⟩; exact ⟨e, hs.1.mem_iff.1 hh, x⟩) rfl (fun x hx => by cases hx)
  have e0 : endOf ((0 : Nat) : Int) s = f := hf
  rw [e0, Int.toNat_natCast, List.nil_append] at a1
  have a2 := holes_free a1.1 a1.2 k (fun i i1 i2 => by
    cases hh : tk i with
    | false => rfl
    | true =>
      obtain ⟨x, hx, x1, x2⟩ := (ht i (by omega)).1 hh
      have := hc1.mem x (hs.1.mem_iff.2 hx)
      omega)
  unfold freeOf
  rw [runsOf_append, hf, hk, a2]
  show _ = runsOf 0 s ++ ((if (f : Int) < ((f + k : Nat) : Int) then _ else _) ++ [])
  rw [List.append_nil]
  by_cases hk0 : k = 0
  · rw [if_pos hk0, if_neg (by omega), List.append_nil]; rfl
  · rw [if_neg hk0, if_pos (by omega)]
    have : ((f + k : Nat) : Int) - (f : Int) = k := by omega
    rw [this]; rfl

/-- The document's answer to where so much has room: its place (-1: none) and its length. -/
def fitR (size : Int) (a r : (Int × Int)) : (Int × Int) := if size ≤ r.2 ∧ (a.1 < 0 ∨ r.2 < a.2) then r else a
theorem fitR_fold {size : Int} : ∀ (h : List (Int × Int)) (a b : (Int × Int)), (∀ r ∈ h, 0 ≤ r.1 ∧ 1 ≤ r.2) → ((b.2 = 0 ∧ a.1 < 0) ∨ (a = b ∧ 0 ≤ b.1 ∧ 1 ≤ b.2)) →
    (((h.foldl (fitStep size) b).2 = 0 ∧ (h.foldl (fitR size) a).1 < 0) ∨ (h.foldl (fitR size) a = h.foldl (fitStep size) b ∧ 0 ≤ (h.foldl (fitStep size) b).1 ∧ 1 ≤ (h.foldl (fitStep size) b).2))
  | [], a, b, _, hab => hab
  | x :: h, a, b, hr, hab => by
    have hx := hr x (by simp)
    rw [List.foldl_cons, List.foldl_cons]
    refine fitR_fold h _ _ (fun r hh => hr r (by simp [hh])) ?_
    unfold fitStep fitR
    rcases hab with ⟨h1, h2⟩ | ⟨h1, h2, h3⟩
    · by_cases hz : size ≤ x.2
      · rw [if_pos ⟨hz, .inl h1⟩, if_pos ⟨hz, .inl h2⟩]
        exact .inr ⟨rfl, hx⟩
      · rw [if_neg (fun h => hz h.1), if_neg (fun h => hz h.1)]
        exact .inl ⟨h1, h2⟩
    · subst h1
      by_cases hz : size ≤ x.2 ∧ x.2 < a.2
      · rw [if_pos ⟨hz.1, .inr hz.2⟩, if_pos ⟨hz.1, .inr hz.2⟩]
        exact .inr ⟨rfl, hx⟩
      · rw [if_neg (fun h => hz ⟨h.1, h.2.elim (fun h => by omega) id⟩), if_neg (fun h => hz ⟨h.1, h.2.elim (fun h => by omega) id⟩)]
        exact .inr ⟨rfl, h2, h3⟩
theorem fitR_spec {size : Int} {h : List (Int × Int)} (hr : ∀ r ∈ h, 0 ≤ r.1 ∧ 1 ≤ r.2) : ((fitB size h).2 = 0 ∧ (h.foldl (fitR size) (-1, 0)).1 < 0) ∨ (h.foldl (fitR size) (-1, 0) = fitB size h ∧ 0 ≤ (fitB size h).1 ∧ 1 ≤ (fitB size h).2) :=
  fitR_fold h (-1, 0) (0, 0) hr (.inl ⟨rfl, by decide⟩)
end Go.Proofs.YtpeglgkhpgifnaaGreatDoor
