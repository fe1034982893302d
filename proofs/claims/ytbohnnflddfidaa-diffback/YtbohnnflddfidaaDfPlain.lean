/-
  What has changed between two lists of bytes, and what changes make of one, as plain lists. (Part of the proofs over package diff.)
-/
import Derived.Test.YtbohnnflddfidaaImPlain
namespace Go.Proofs.Ytbohnnflddfidaa
open Go.RowKit
set_option linter.unusedVariables false

/-! ### changes: where, what was there, what comes there -/
def chEnd (c : (Int × List Int × List Int)) : Int := c.1 + c.2.1.length
/-- One byte more that differs, at i. -/
def chPut (l : List (Int × List Int × List Int)) (i : Nat) (x y : Int) : List (Int × List Int × List Int) :=
  match l.getLast? with
  | some c => if chEnd c = i then l.dropLast ++ [(c.1, c.2.1 ++ [x], c.2.2 ++ [y])] else l ++ [((i : Int), [x], [y])]
  | none => [((i : Int), [x], [y])]
/-- The runs of the first bytes at which two lists differ. -/
def dfK (a b : List Int) : Nat → List (Int × List Int × List Int)
  | 0 => []
  | i + 1 => if a.getD i 0 = b.getD i 0 then dfK a b i else chPut (dfK a b i) i (a.getD i 0) (b.getD i 0)
/-- A change from a to b: so many bytes from p on. -/
def chOf (a b : List Int) (p n : Nat) : (Int × List Int × List Int) := ((p : Int), (a.drop p).take n, (b.drop p).take n)
structure Df (a b : List Int) (i : Nat) (l : List (Int × List Int × List Int)) : Prop where
  all : ∀ c ∈ l, ∃ p n : Nat, c = chOf a b p n ∧ 1 ≤ n ∧ p + n ≤ i ∧ ∀ k, p ≤ k → k < p + n → a.getD k 0 ≠ b.getD k 0
  gap : l.Pairwise (fun c d => chEnd c < d.1)
  cov : ∀ k, k < i → a.getD k 0 ≠ b.getD k 0 → ∃ c ∈ l, c.1 ≤ k ∧ (k : Int) < chEnd c
theorem chOf_end {a b : List Int} {p n : Nat} (h : p + n ≤ a.length) : chEnd (chOf a b p n) = ((p + n : Nat) : Int) := by
  unfold chEnd chOf
  dsimp only
  rw [List.length_take, List.length_drop]
  omega
theorem take_more {a : List Int} {p n : Nat} (h : p + n < a.length) : (a.drop p).take n ++ [a.getD (p + n) 0] = (a.drop p).take (n + 1) := by
  rw [List.take_add_one, List.getElem?_drop]
  have : a[p + n]? = some (a.getD (p + n) 0) := by simp [List.getD, h]
  rw [this]
  rfl
theorem df_dfK {a b : List Int} (hl : a.length = b.length) : ∀ i, i ≤ a.length → Df a b i (dfK a b i) := by
  intro i
  induction i with
  | zero => intro _; exact ⟨fun c hc => (by cases hc), List.Pairwise.nil, fun k hk => absurd hk (Nat.not_lt_zero k)⟩
  | succ i ih =>
    intro hi
    have h := ih (by omega)
    show Df a b (i + 1) (if a.getD i 0 = b.getD i 0 then dfK a b i else chPut (dfK a b i) i (a.getD i 0) (b.getD i 0))
    generalize dfK a b i = l at h
    by_cases he : a.getD i 0 = b.getD i 0
    · rw [if_pos he]
      refine ⟨fun c hc => ?_, h.gap, fun k hk hne => ?_⟩
      · obtain ⟨p, n, h1, h2, h3, h4⟩ := h.all c hc
        exact ⟨p, n, h1, h2, by omega, h4⟩
      · by_cases e : k = i
        · subst e; exact absurd he hne
        · exact h.cov k (by omega) hne
    · rw [if_neg he]
      have hone : (((i : Int), [a.getD i 0], [b.getD i 0]) : (Int × List Int × List Int)) = chOf a b i 1 := by
        unfold chOf
        have e1 := take_more (a := a) (p := i) (n := 0) (by omega)
        have e2 := take_more (a := b) (p := i) (n := 0) (by omega)
        rw [List.take_zero, List.nil_append, Nat.add_zero] at e1 e2
        rw [← e1, ← e2]
      have hnew : ∀ l' : List (Int × List Int × List Int), (∀ c ∈ l', ∃ p n : Nat, c = chOf a b p n ∧ 1 ≤ n ∧ p + n ≤ i ∧ ∀ k, p ≤ k → k < p + n → a.getD k 0 ≠ b.getD k 0) → l'.Pairwise (fun c d => chEnd c < d.1) → (∀ c ∈ l', chEnd c < i) → (∀ k, k < i → a.getD k 0 ≠ b.getD k 0 → ∃ c ∈ l', c.1 ≤ k ∧ (k : Int) < chEnd c) → Df a b (i + 1) (l' ++ [((i : Int), [a.getD i 0], [b.getD i 0])]) := fun l' g1 g2 g3 g4 => by
        rw [hone]
        refine ⟨fun c hc => ?_, ?_, fun k hk hne => ?_⟩
        · rcases List.mem_append.1 hc with hc | hc
          · obtain ⟨p, n, h1, h2, h3, h4⟩ := g1 c hc
            exact ⟨p, n, h1, h2, by omega, h4⟩
          · rw [List.mem_singleton.1 hc]
            exact ⟨i, 1, rfl, by omega, by omega, fun k h1 h2 => by rw [show k = i by omega]; exact he⟩
        · rw [List.pairwise_append]
          refine ⟨g2, List.pairwise_singleton _ _, fun c hc d hd => ?_⟩
          rw [List.mem_singleton.1 hd]
          exact g3 c hc
        · by_cases e : k = i
          · subst e
            refine ⟨chOf a b k 1, by simp, ?_, ?_⟩
            · exact Int.le_refl _
            · rw [chOf_end (by omega)]; omega
          · obtain ⟨c, hc, h5⟩ := g4 k (by omega) hne
            exact ⟨c, by simp [hc], h5⟩
      unfold chPut
      cases hlast : l.getLast? with
      | none =>
        have : l = [] := List.getLast?_eq_none_iff.1 hlast
        subst this
        exact hnew [] (fun c hc => by cases hc) List.Pairwise.nil (fun c hc => by cases hc) h.cov
      | some c =>
        obtain ⟨l', rfl⟩ := List.getLast?_eq_some_iff.1 hlast
        dsimp only
        have hc : c ∈ l' ++ [c] := by simp
        obtain ⟨p, n, rfl, hn, hpn, hdf⟩ := h.all c hc
        have hend := chOf_end (a := a) (b := b) (p := p) (n := n) (by omega)
        have hgap := List.pairwise_append.1 h.gap
        by_cases hei : chEnd (chOf a b p n) = i
        · rw [if_pos hei, List.dropLast_concat]
          have hpi : p + n = i := by omega
          have hext : (((chOf a b p n).1, (chOf a b p n).2.1 ++ [a.getD i 0], (chOf a b p n).2.2 ++ [b.getD i 0]) : (Int × List Int × List Int)) = chOf a b p (n + 1) := by
            unfold chOf
            dsimp only
            rw [← hpi, take_more (by omega), take_more (by omega)]
          rw [hext]
          refine ⟨fun d hd => ?_, ?_, fun k hk hne => ?_⟩
          · rcases List.mem_append.1 hd with hd | hd
            · obtain ⟨q, m, h1, h2, h3, h4⟩ := h.all d (by simp [hd])
              exact ⟨q, m, h1, h2, by omega, h4⟩
            · rw [List.mem_singleton.1 hd]
              refine ⟨p, n + 1, rfl, by omega, by omega, fun k h1 h2 => ?_⟩
              by_cases e : k = i
              · subst e; exact he
              · exact hdf k h1 (by omega)
          · rw [List.pairwise_append]
            refine ⟨hgap.1, List.pairwise_singleton _ _, fun d hd e hee => ?_⟩
            rw [List.mem_singleton.1 hee]
            exact hgap.2.2 d hd (chOf a b p n) (List.mem_singleton.2 rfl)
          · by_cases e : k = i
            · subst e
              refine ⟨chOf a b p (n + 1), by simp, ?_, ?_⟩
              · show (p : Int) ≤ k; omega
              · rw [chOf_end (by omega)]; omega
            · obtain ⟨d, hd, h5, h6⟩ := h.cov k (by omega) hne
              rcases List.mem_append.1 hd with hd | hd
              · exact ⟨d, by simp [hd], h5, h6⟩
              · rw [List.mem_singleton.1 hd] at h5 h6
                refine ⟨chOf a b p (n + 1), by simp, h5, ?_⟩
                rw [chOf_end (by omega)]
                rw [hend] at h6
                omega
        · rw [if_neg hei]
          refine hnew (l' ++ [chOf a b p n]) h.all h.gap (fun d hd => ?_) h.cov
          rcases List.mem_append.1 hd with hd | hd
          · have h7 := hgap.2.2 d hd _ (List.mem_singleton.2 rfl)
            have h8 : (chOf a b p n).1 = (p : Int) := rfl
            omega
          · rw [List.mem_singleton.1 hd]
            omega

/-! ### what changes make of a list -/
/-- What is wrong with a change. -/
def stepE (out : List Int) (c : (Int × List Int × List Int)) : Int :=
  if c.1 < 0 ∨ out.length - c.1.toNat < c.2.1.length then 1
  else if c.2.1.length ≠ c.2.2.length then 3
  else if (out.drop c.1.toNat).take c.2.1.length ≠ c.2.1 then 6 else 0
def stepL (out : List Int) (c : (Int × List Int × List Int)) : List Int := splice out c.1.toNat c.2.2
def apE (out : List Int) : List (Int × List Int × List Int) → Int
  | [] => 0
  | c :: l => if stepE out c = 0 then apE (stepL out c) l else stepE out c
def apL (out : List Int) : List (Int × List Int × List Int) → List Int
  | [] => out
  | c :: l => apL (stepL out c) l
theorem apE_append {l m : List (Int × List Int × List Int)} : ∀ {out : List Int}, apE out l = 0 → apE out (l ++ m) = apE (apL out l) m := by
  induction l with
  | nil => intro out _; rfl
  | cons c l ih =>
    intro out h
    unfold apE at h
    by_cases h0 : stepE out c = 0
    · rw [if_pos h0] at h
      show (if stepE out c = 0 then apE (stepL out c) (l ++ m) else _) = _
      rw [if_pos h0, ih h]
      rfl
    · rw [if_neg h0] at h
      exact absurd h h0
theorem apL_append {l m : List (Int × List Int × List Int)} : ∀ {out : List Int}, apL out (l ++ m) = apL (apL out l) m := by
  induction l with
  | nil => intro out; rfl
  | cons c l ih => intro out; exact ih
/-- Changes that touch no byte twice: each finds what it asks, and the bytes that it has are those of b then. -/
theorem ap_all {a b : List Int} (hl : a.length = b.length) : ∀ (l : List (Int × List Int × List Int)) (out : List Int), out.length = a.length → (∀ c ∈ l, ∃ p n : Nat, c = chOf a b p n ∧ p + n ≤ a.length ∧ ∀ k, p ≤ k → k < p + n → out.getD k 0 = a.getD k 0) → l.Pairwise (fun c d => chEnd c ≤ d.1 ∨ chEnd d ≤ c.1) →
    apE out l = 0 ∧ (apL out l).length = a.length ∧ ∀ k, (apL out l).getD k 0 = if ∃ c ∈ l, c.1 ≤ k ∧ (k : Int) < chEnd c then b.getD k 0 else out.getD k 0
  | [], out, hlen, _, _ => ⟨rfl, hlen, fun k => by rw [if_neg (by rintro ⟨c, hc, _⟩; cases hc)]; rfl⟩
  | c :: l, out, hlen, hall, hp => by
    obtain ⟨p, n, rfl, hpn, hag⟩ := hall c (by simp)
    have hend := chOf_end (a := a) (b := b) (p := p) (n := n) hpn
    have hln : ((b.drop p).take n).length = n := by rw [List.length_take, List.length_drop]; omega
    have hla : ((a.drop p).take n).length = n := by rw [List.length_take, List.length_drop]; omega
    have hst : (out.drop p).take n = (a.drop p).take n := by
      apply ext_getD
      · rw [hla, List.length_take, List.length_drop]; omega
      · intro k hk
        rw [List.length_take, List.length_drop] at hk
        have hk2 : k < n := by omega
        have h1 := hag (p + k) (by omega) (by omega)
        simp only [List.getD, List.getElem?_take, if_pos hk2, List.getElem?_drop] at h1 ⊢
        exact h1
    have h0 : stepE out (chOf a b p n) = 0 := by
      unfold stepE chOf
      dsimp only
      rw [hla, hln, Int.toNat_natCast, if_neg (by omega), if_neg (by simp), if_neg (by rw [hst]; simp)]
    have hsl : (stepL out (chOf a b p n)).length = a.length := by
      unfold stepL chOf
      dsimp only
      rw [length_splice (by rw [hln, Int.toNat_natCast]; omega), hlen]
    have hin : ∀ k, (stepL out (chOf a b p n)).getD k 0 = if p ≤ k ∧ k < p + n then b.getD k 0 else out.getD k 0 := fun k => by
      unfold stepL chOf
      dsimp only
      rw [Int.toNat_natCast]
      by_cases hk : p ≤ k ∧ k < p + n
      · rw [if_pos hk]
        obtain ⟨j, rfl⟩ : ∃ j, k = p + j := ⟨k - p, by omega⟩
        rw [splice_in (by rw [hln]; omega) (by rw [hln]; omega)]
        have hj : j < n := by omega
        simp only [List.getD, List.getElem?_take, if_pos hj, List.getElem?_drop]
      · rw [if_neg hk, splice_out (by rw [hln]; omega) (by rw [hln]; omega)]
    rw [List.pairwise_cons] at hp
    obtain ⟨i1, i2, i3⟩ := ap_all hl l (stepL out (chOf a b p n)) hsl (fun d hd => by
      obtain ⟨q, m, rfl, hqm, hag2⟩ := hall d (by simp [hd])
      refine ⟨q, m, rfl, hqm, fun k h1 h2 => ?_⟩
      have hdis := hp.1 _ hd
      rw [hend, chOf_end (a := a) (b := b) (p := q) (n := m) hqm] at hdis
      have e1 : (chOf a b q m).1 = (q : Int) := rfl
      have e2 : (chOf a b p n).1 = (p : Int) := rfl
      rw [e1, e2] at hdis
      rw [hin k, if_neg (by omega)]
      exact hag2 k h1 h2) hp.2
    refine ⟨?_, i2, fun k => ?_⟩
    · unfold apE
      rw [if_pos h0]
      exact i1
    · show (apL (stepL out (chOf a b p n)) l).getD k 0 = _
      rw [i3 k, hin k]
      by_cases hc : ∃ d ∈ l, d.1 ≤ k ∧ (k : Int) < chEnd d
      · obtain ⟨d, hd, h5⟩ := hc
        rw [if_pos ⟨d, hd, h5⟩, if_pos ⟨d, by simp [hd], h5⟩]
      · rw [if_neg hc]
        by_cases hk : p ≤ k ∧ k < p + n
        · rw [if_pos hk, if_pos ⟨chOf a b p n, by simp, by show (p : Int) ≤ k; omega, by rw [hend]; omega⟩]
        · rw [if_neg hk, if_neg]
          rintro ⟨d, hd, h5, h6⟩
          rcases List.mem_cons.1 hd with rfl | hd
          · rw [hend] at h6
            have e2 : (chOf a b p n).1 = (p : Int) := rfl
            rw [e2] at h5
            exact hk (by omega)
          · exact hc ⟨d, hd, h5, h6⟩
/-- What has changed makes of the old the new. -/
theorem df_apply {a b : List Int} (hl : a.length = b.length) : apE a (dfK a b a.length) = 0 ∧ apL a (dfK a b a.length) = b := by
  have h := df_dfK hl a.length (Nat.le_refl _)
  obtain ⟨h1, h2, h3⟩ := ap_all hl (dfK a b a.length) a rfl (fun c hc => by
    obtain ⟨p, n, h1, h2, h3, h4⟩ := h.all c hc
    exact ⟨p, n, h1, h3, fun k _ _ => rfl⟩) (h.gap.imp (fun g => .inl (Int.le_of_lt g)))
  refine ⟨h1, ?_⟩
  apply ext_getD
  · rw [h2, hl]
  · intro k hk
    rw [h3 k]
    by_cases hc : ∃ c ∈ dfK a b a.length, c.1 ≤ k ∧ (k : Int) < chEnd c
    · rw [if_pos hc]
    · rw [if_neg hc]
      exact Classical.byContradiction fun hne => hc (h.cov k (by omega) hne)
/-- The last first, what was there and what comes there exchanged. -/
def turnL (l : List (Int × List Int × List Int)) : List (Int × List Int × List Int) := l.reverse.map (fun c => (c.1, c.2.2, c.2.1))
theorem turn_turn (l : List (Int × List Int × List Int)) : turnL (turnL l) = l := by
  unfold turnL
  rw [← List.map_reverse, List.reverse_reverse, List.map_map]
  have : (fun c : (Int × List Int × List Int) => (c.1, c.2.2, c.2.1)) ∘ (fun c : (Int × List Int × List Int) => (c.1, c.2.2, c.2.1)) = id := by funext c; rfl
  rw [this, List.map_id]
/-- Turned, it makes of the new the old. -/
theorem df_turn {a b : List Int} (hl : a.length = b.length) : apE b (turnL (dfK a b a.length)) = 0 ∧ apL b (turnL (dfK a b a.length)) = a := by
  have h := df_dfK hl a.length (Nat.le_refl _)
  have hmem : ∀ c ∈ turnL (dfK a b a.length), ∃ p n : Nat, c = chOf b a p n ∧ p + n ≤ a.length ∧ chOf a b p n ∈ dfK a b a.length := fun c hc => by
    unfold turnL at hc
    obtain ⟨d, hd, rfl⟩ := List.mem_map.1 hc
    rw [List.mem_reverse] at hd
    obtain ⟨p, n, rfl, h2, h3, h4⟩ := h.all d hd
    exact ⟨p, n, rfl, h3, hd⟩
  have hpw : (turnL (dfK a b a.length)).Pairwise (fun c d => chEnd c ≤ d.1 ∨ chEnd d ≤ c.1) := by
    unfold turnL
    rw [List.pairwise_map, List.pairwise_reverse]
    refine h.gap.imp_of_mem (fun {c d} hc hd g => ?_)
    obtain ⟨p, n, rfl, _, h3, _⟩ := h.all c hc
    refine .inr ?_
    have e1 : chEnd (((chOf a b p n).1, (chOf a b p n).2.2, (chOf a b p n).2.1) : (Int × List Int × List Int)) = ((p + n : Nat) : Int) := chOf_end (a := b) (b := a) (by omega)
    rw [e1]
    rw [chOf_end (by omega)] at g
    exact Int.le_of_lt g
  obtain ⟨h1, h2, h3⟩ := ap_all hl.symm (turnL (dfK a b a.length)) b rfl (fun c hc => by
    obtain ⟨p, n, h1, h2, _⟩ := hmem c hc
    exact ⟨p, n, h1, by omega, fun k _ _ => rfl⟩) hpw
  refine ⟨h1, ?_⟩
  apply ext_getD
  · rw [h2, hl]
  · intro k hk
    rw [h3 k]
    by_cases hc : ∃ c ∈ turnL (dfK a b a.length), c.1 ≤ k ∧ (k : Int) < chEnd c
    · rw [if_pos hc]
    · rw [if_neg hc]
      refine Classical.byContradiction fun hne => hc ?_
      obtain ⟨c, hcm, h5, h6⟩ := h.cov k (by omega) (fun e => hne e.symm)
      obtain ⟨p, n, rfl, _, h8, _⟩ := h.all c hcm
      refine ⟨chOf b a p n, ?_, h5, ?_⟩
      · unfold turnL
        exact List.mem_map.2 ⟨chOf a b p n, List.mem_reverse.2 hcm, rfl⟩
      · rw [chOf_end (by omega)] at h6
        rw [chOf_end (by omega)]
        exact h6
end Go.Proofs.Ytbohnnflddfidaa
