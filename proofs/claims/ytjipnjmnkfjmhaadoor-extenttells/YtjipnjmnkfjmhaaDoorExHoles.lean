/-
  Extents as plain data: runs found byte by byte are runs found between extents that rise; the document's answers. (Part of the proofs over package extent.)
-/
import Derived.Test.YtjipnjmnkfjmhaaDoorExPlain
namespace Go.Proofs.YtjipnjmnkfjmhaaDoor
set_option linter.unusedVariables false

/-- One more byte that none takes. -/
def extH (o : List (Int × Int)) (i : Nat) : List (Int × Int) := match o.getLast? with
  | none => [((i : Int), 1)]
  | some x => if x.1 + x.2 = i then o.dropLast ++ [(x.1, x.2 + 1)] else o ++ [((i : Int), 1)]
/-- Runs of bytes that none takes, byte by byte. -/
def holesTo (tk : Nat → Bool) : Nat → List (Int × Int)
  | 0 => []
  | i + 1 => if tk i = true then holesTo tk i else extH (holesTo tk i) i
/-- No run ends just there. -/
def Fresh (o : List (Int × Int)) (f : Nat) : Prop := ∀ x, o.getLast? = some x → x.1 + x.2 < f
theorem holes_free {tk : Nat → Bool} {f : Nat} {o : List (Int × Int)} (h : holesTo tk f = o) (hf : Fresh o f) : ∀ k, (∀ i, f ≤ i → i < f + k → tk i = false) → holesTo tk (f + k) = if k = 0 then o else o ++ [((f : Int), (k : Int))]
  | 0, _ => h
  | k + 1, ht => by
    have ih := holes_free h hf k (fun i h1 h2 => ht i h1 (by omega))
    rw [if_neg (by omega)]
    show (if tk (f + k) = true then holesTo tk (f + k) else extH (holesTo tk (f + k)) (f + k)) = _
    rw [if_neg (by rw [ht (f + k) (by omega) (by omega)]; simp), ih]
    by_cases hk : k = 0
    · subst hk
      rw [if_pos rfl]
      unfold extH
      cases hl : o.getLast? with
      | none => rw [List.getLast?_eq_none_iff.1 hl]; simp
      | some x =>
        have := hf x hl
        dsimp only
        rw [if_neg (by omega)]; simp
    · rw [if_neg hk]
      unfold extH
      rw [List.getLast?_concat]
      dsimp only
      rw [if_pos (by omega), List.dropLast_concat]
      congr 2
theorem holes_taken {tk : Nat → Bool} {f : Nat} : ∀ k, (∀ i, f ≤ i → i < f + k → tk i = true) → holesTo tk (f + k) = holesTo tk f
  | 0, _ => rfl
  | k + 1, ht => by
    show (if tk (f + k) = true then holesTo tk (f + k) else extH (holesTo tk (f + k)) (f + k)) = _
    rw [if_pos (ht (f + k) (by omega) (by omega))]
    exact holes_taken k (fun i h1 h2 => ht i h1 (by omega))
theorem holes_chain {tk : Nat → Bool} : ∀ (s : List (Int × Int)) (f : Nat) (o : List (Int × Int)), Chain f s → (∀ e ∈ s, 1 ≤ e.2) → (∀ i : Nat, (f : Int) ≤ i → (i : Int) < endOf f s → (tk i = true ↔ ∃ e ∈ s, e.1 ≤ i ∧ (i : Int) < e.1 + e.2)) → holesTo tk f = o → Fresh o f →
    holesTo tk (endOf f s).toNat = o ++ runsOf f s ∧ Fresh (o ++ runsOf f s) (endOf f s).toNat
  | [], f, o, _, _, _, h, hf => by
    simp only [endOf, runsOf, List.append_nil, Int.toNat_natCast]
    exact ⟨h, hf⟩
  | e :: r, f, o, hc, h1, ht, h, hf => by
    obtain ⟨c1, c2, c3⟩ := hc
    have he := h1 e (by simp)
    have hle := c3.endLe
    obtain ⟨k, hk⟩ : ∃ k : Nat, e.1 = f + k := ⟨(e.1 - f).toNat, by omega⟩
    obtain ⟨m, hm⟩ : ∃ m : Nat, e.2 = m := ⟨e.2.toNat, by omega⟩
    have a1 := holes_free h hf k (fun i i1 i2 => by
      cases hh : tk i with
      | false => rfl
      | true =>
        obtain ⟨x, hx, x1, x2⟩ := (ht i (by omega) (by show (i : Int) < endOf (e.1 + e.2) r; omega)).1 hh
        rcases List.mem_cons.1 hx with rfl | hx
        · omega
        · have := c3.mem x hx
          omega)
    have a2 := holes_taken (tk := tk) (f := f + k) m (fun i i1 i2 => (ht i (by omega) (by show (i : Int) < endOf (e.1 + e.2) r; omega)).2 ⟨e, by simp, by omega, by omega⟩)
    have ho : (if k = 0 then o else o ++ [((f : Int), (k : Int))]) = o ++ (if (f : Int) < e.1 then [((f : Int), e.1 - f)] else []) := by
      by_cases hk0 : k = 0
      · rw [if_pos hk0, if_neg (by omega), List.append_nil]
      · rw [if_neg hk0, if_pos (by omega), show e.1 - (f : Int) = k by omega]
    have hF : Fresh (o ++ (if (f : Int) < e.1 then [((f : Int), e.1 - f)] else [])) (f + k + m) := by
      intro x hx
      by_cases hk0 : (f : Int) < e.1
      · rw [if_pos hk0, List.getLast?_concat] at hx
        obtain rfl := Option.some.inj hx
        dsimp only; omega
      · rw [if_neg hk0, List.append_nil] at hx
        have := hf x hx
        omega
    have en : e.1 + e.2 = ((f + k + m : Nat) : Int) := by omega
    simp only [endOf, runsOf]
    rw [en, ← List.append_assoc]
    rw [en] at c3 hle
    refine holes_chain r (f + k + m) _ c3 (fun x hx => h1 x (by simp [hx])) (fun i i1 i2 => ?_) ?_ hF
    · rw [ht i (by omega) (by show (i : Int) < endOf (e.1 + e.2) r; rw [en]; exact i2)]
      constructor
      · rintro ⟨x, hx, x1, x2⟩
        rcases List.mem_cons.1 hx with rfl | hx
        · omega
        · exact ⟨x, hx, x1, x2⟩
      · rintro ⟨x, hx, x1, x2⟩
        exact ⟨x, by simp [hx], x1, x2⟩
    · rw [a2, a1, ho]
/-- Byte by byte, or between extents that rise: the same runs. -/
theorem Srt.holes {n : Nat} {l s : List (Int × Int)} (hs : Srt l s) (hg : Good n l) {tk : Nat → Bool} (ht : ∀ i : Nat, i < n → (tk i = true ↔ ∃ e ∈ l, e.1 ≤ i ∧ (i : Int) < e.1 + e.2)) : holesTo tk n = freeOf n s := by
  obtain ⟨hc, he, hle⟩ := hs.chain hg (by omega)
  obtain ⟨hc1, hc2⟩ := chain_append.1 hc
  have hgs := hg.perm hs.1
  have h0 := hc1.endLe
  obtain ⟨f, hf⟩ : ∃ f : Nat, endOf 0 s = f := ⟨(endOf 0 s).toNat, by omega⟩
  obtain ⟨k, hk⟩ : ∃ k : Nat, n = f + k := ⟨n - f, by omega⟩
  have a1 := holes_chain (tk := tk) s 0 [] hc1 (fun e hh => (hgs.all e hh).2.1) (fun i i1 i2 => by
    have i3 : (i : Int) < endOf 0 s := i2
    rw [ht i (by omega)]
    constructor
    · rintro ⟨e, hh, x⟩; exact ⟨e, hs.1.mem_iff.2 hh, x⟩
    · rintro ⟨e, hh, x⟩; exact ⟨e, hs.1.mem_iff.1 hh, x⟩) rfl (fun x hx => by cases hx)
  have e0 : endOf ((0 : Nat) : Int) s = f := hf
  rw [e0, Int.toNat_natCast, List.nil_append] at a1
  have a2 := holes_free a1.1 a1.2 k (fun i i1 i2 => by
    cases hh : tk i with
    | false => rfl
    | true =>
      obtain ⟨x, hx, x1, x2⟩ := (ht i (by omega)).1 hh
      have := hc1.mem x (hs.1.mem_iff.2 hx)
      omega)
  unfold freeOf
  rw [runsOf_append, hf, hk, a2]
  show _ = runsOf 0 s ++ ((if (f : Int) < ((f + k : Nat) : Int) then _ else _) ++ [])
  rw [List.append_nil]
  by_cases hk0 : k = 0
  · rw [if_pos hk0, if_neg (by omega), List.append_nil]; rfl
  · rw [if_neg hk0, if_pos (by omega)]
    have : ((f + k : Nat) : Int) - (f : Int) = k := by omega
    rw [this]; rfl

/-- The document's answer to where so much has room: its place (-1: none) and its length. -/
def fitR (size : Int) (a r : (Int × Int)) : (Int × Int) := if size ≤ r.2 ∧ (a.1 < 0 ∨ r.2 < a.2) then r else a
theorem fitR_fold {size : Int} : ∀ (h : List (Int × Int)) (a b : (Int × Int)), (∀ r ∈ h, 0 ≤ r.1 ∧ 1 ≤ r.2) → ((b.2 = 0 ∧ a.1 < 0) ∨ (a = b ∧ 0 ≤ b.1 ∧ 1 ≤ b.2)) →
    (((h.foldl (fitStep size) b).2 = 0 ∧ (h.foldl (fitR size) a).1 < 0) ∨ (h.foldl (fitR size) a = h.foldl (fitStep size) b ∧ 0 ≤ (h.foldl (fitStep size) b).1 ∧ 1 ≤ (h.foldl (fitStep size) b).2))
  | [], a, b, _, hab => hab
  | x :: h, a, b, hr, hab => by
    have hx := hr x (by simp)
    rw [List.foldl_cons, List.foldl_cons]
    refine fitR_fold h _ _ (fun r hh => hr r (by simp [hh])) ?_
    unfold fitStep fitR
    rcases hab with ⟨h1, h2⟩ | ⟨h1, h2, h3⟩
    · by_cases hz : size ≤ x.2
      · rw [if_pos ⟨hz, .inl h1⟩, if_pos ⟨hz, .inl h2⟩]
        exact .inr ⟨rfl, hx⟩
      · rw [if_neg (fun h => hz h.1), if_neg (fun h => hz h.1)]
        exact .inl ⟨h1, h2⟩
    · subst h1
      by_cases hz : size ≤ x.2 ∧ x.2 < a.2
      · rw [if_pos ⟨hz.1, .inr hz.2⟩, if_pos ⟨hz.1, .inr hz.2⟩]
        exact .inr ⟨rfl, hx⟩
      · rw [if_neg (fun h => hz ⟨h.1, h.2.elim (fun h => by omega) id⟩), if_neg (fun h => hz ⟨h.1, h.2.elim (fun h => by omega) id⟩)]
        exact .inr ⟨rfl, h2, h3⟩
theorem fitR_spec {size : Int} {h : List (Int × Int)} (hr : ∀ r ∈ h, 0 ≤ r.1 ∧ 1 ≤ r.2) : ((fitB size h).2 = 0 ∧ (h.foldl (fitR size) (-1, 0)).1 < 0) ∨ (h.foldl (fitR size) (-1, 0) = fitB size h ∧ 0 ≤ (fitB size h).1 ∧ 1 ≤ (fitB size h).2) :=
  fitR_fold h (-1, 0) (0, 0) hr (.inl ⟨rfl, by decide⟩)
end Go.Proofs.YtjipnjmnkfjmhaaDoor
