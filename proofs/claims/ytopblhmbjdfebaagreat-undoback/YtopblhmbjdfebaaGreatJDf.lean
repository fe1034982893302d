/-
  Joined by program: DfPlain; DfPages; DfRun; DfRow; NumSame; DfA; DfB; DfCount. (Parts of the proofs over the packages of the program.)
-/
import Derived.Test.YtopblhmbjdfebaaGreatImPlain
import Derived.Test.YtopblhmbjdfebaaGreatImRow
import Derived.Deep.AppendLies
import Derived.Test.YtopblhmbjdfebaaGreatNumAhead
import Derived.Test.YtopblhmbjdfebaaGreatJHp
import Derived.Deep.RegionHeld3
import Derived.Deep.RegionLaw
/-! What has changed between two lists of bytes, and what changes make of one, as plain lists. (Part of the proofs over package diff.) -/
namespace Go.Proofs.YtopblhmbjdfebaaGreat
open Go.RowKit
set_option linter.unusedVariables false

/-! ### changes: where, what was there, what comes there -/
def chEnd (c : (Int × List Int × List Int)) : Int := c.1 + c.2.1.length
/-- One byte more that differs, at i. -/
def chPut (l : List (Int × List Int × List Int)) (i : Nat) (x y : Int) : List (Int × List Int × List Int) :=
  match l.getLast? with
  | some c => if chEnd c = i then l.dropLast ++ [(c.1, c.2.1 ++ [x], c.2.2 ++ [y])] else l ++ [((i : Int), [x], [y])]
  | none => [((i : Int), [x], [y])]
/-- The runs of the first bytes at which two lists differ. -/
def dfK (a b : List Int) : Nat → List (Int × List Int × List Int)
  | 0 => []
  | i + 1 => if a.getD i 0 = b.getD i 0 then dfK a b i else chPut (dfK a b i) i (a.getD i 0) (b.getD i 0)
/-- A change from a to b: so many bytes from p on. -/
def chOf (a b : List Int) (p n : Nat) : (Int × List Int × List Int) := ((p : Int), (a.drop p).take n, (b.drop p).take n)
structure Df (a b : List Int) (i : Nat) (l : List (Int × List Int × List Int)) : Prop where
  all : ∀ c ∈ l, ∃ p n : Nat, c = chOf a b p n ∧ 1 ≤ n ∧ p + n ≤ i ∧ ∀ k, p ≤ k → k < p + n → a.getD k 0 ≠ b.getD k 0
  gap : l.Pairwise (fun c d => chEnd c < d.1)
  cov : ∀ k, k < i → a.getD k 0 ≠ b.getD k 0 → ∃ c ∈ l, c.1 ≤ k ∧ (k : Int) < chEnd c
theorem chOf_end {a b : List Int} {p n : Nat} (h : p + n ≤ a.length) : chEnd (chOf a b p n) = ((p + n : Nat) : Int) := by
  unfold chEnd chOf
  dsimp only
  rw [List.length_take, List.length_drop]
  omega
theorem take_more {a : List Int} {p n : Nat} (h : p + n < a.length) : (a.drop p).take n ++ [a.getD (p + n) 0] = (a.drop p).take (n + 1) := by
  rw [List.take_add_one, List.getElem?_drop]
  have : a[p + n]? = some (a.getD (p + n) 0) := by simp [List.getD, h]
  rw [this]
  rfl
theorem df_dfK {a b : List Int} (hl : a.length = b.length) : ∀ i, i ≤ a.length → Df a b i (dfK a b i) := by
  intro i
  induction i with
  | zero => intro _; exact ⟨fun c hc => (by cases hc), List.Pairwise.nil, fun k hk => absurd hk (Nat.not_lt_zero k)⟩
  | succ i ih =>
    intro hi
    have h := ih (by omega)
    show Df a b (i + 1) (if a.getD i 0 = b.getD i 0 then dfK a b i else chPut (dfK a b i) i (a.getD i 0) (b.getD i 0))
    generalize dfK a b i = l at h
    by_cases he : a.getD i 0 = b.getD i 0
    · rw [if_pos he]
      refine ⟨fun c hc => ?_, h.gap, fun k hk hne => ?_⟩
      · obtain ⟨p, n, h1, h2, h3, h4⟩ := h.all c hc
        exact ⟨p, n, h1, h2, by omega, h4⟩
      · by_cases e : k = i
        · subst e; exact absurd he hne
        · exact h.cov k (by omega) hne
    · rw [if_neg he]
      have hone : (((i : Int), [a.getD i 0], [b.getD i 0]) : (Int × List Int × List Int)) = chOf a b i 1 := by
        unfold chOf
        have e1 := take_more (a := a) (p := i) (n := 0) (by omega)
        have e2 := take_more (a := b) (p := i) (n := 0) (by omega)
        rw [List.take_zero, List.nil_append, Nat.add_zero] at e1 e2
        rw [← e1, ← e2]
      have hnew : ∀ l' : List (Int × List Int × List Int), (∀ c ∈ l', ∃ p n : Nat, c = chOf a b p n ∧ 1 ≤ n ∧ p + n ≤ i ∧ ∀ k, p ≤ k → k < p + n → a.getD k 0 ≠ b.getD k 0) → l'.Pairwise (fun c d => chEnd c < d.1) → (∀ c ∈ l', chEnd c < i) → (∀ k, k < i → a.getD k 0 ≠ b.getD k 0 → ∃ c ∈ l', c.1 ≤ k ∧ (k : Int) < chEnd c) → Df a b (i + 1) (l' ++ [((i : Int), [a.getD i 0], [b.getD i 0])]) := fun l' g1 g2 g3 g4 => by
        rw [hone]
        refine ⟨fun c hc => ?_, ?_, fun k hk hne => ?_⟩
        · rcases List.mem_append.1 hc with hc | hc
          · obtain ⟨p, n, h1, h2, h3, h4⟩ := g1 c hc
            exact ⟨p, n, h1, h2, by omega, h4⟩
          · rw [List.mem_singleton.1 hc]
            exact ⟨i, 1, rfl, by omega, by omega, fun k h1 h2 => by rw [show k = i by omega]; exact he⟩
        · rw [List.pairwise_append]
          refine ⟨g2, List.pairwise_singleton _ _, fun c hc d hd => ?_⟩
          rw [List.mem_singleton.1 hd]
          exact g3 c hc
        · by_cases e : k = i
          · subst e
            refine ⟨chOf a b k 1, by simp, ?_, ?_⟩
            · exact Int.le_refl _
            · rw [chOf_end (by omega)]; omega
          · obtain ⟨c, hc, h5⟩ := g4 k (by omega) hne
            exact ⟨c, by simp [hc], h5⟩
      unfold chPut
      cases hlast : l.getLast? with
      | none =>
        have : l = [] := List.getLast?_eq_none_iff.1 hlast
        subst this
        exact hnew [] (fun c hc => by cases hc) List.Pairwise.nil (fun c hc => by cases hc) h.cov
      | some c =>
        obtain ⟨l', rfl⟩ := List.getLast?_eq_some_iff.1 hlast
        dsimp only
        have hc : c ∈ l' ++ [c] := by simp
        obtain ⟨p, n, rfl, hn, hpn, hdf⟩ := h.all c hc
        have hend := chOf_end (a := a) (b := b) (p := p) (n := n) (by omega)
        have hgap := List.pairwise_append.1 h.gap
        by_cases hei : chEnd (chOf a b p n) = i
        · rw [if_pos hei, List.dropLast_concat]
          have hpi : p + n = i := by omega
          have hext : (((chOf a b p n).1, (chOf a b p n).2.1 ++ [a.getD i 0], (chOf a b p n).2.2 ++ [b.getD i 0]) : (Int × List Int × List Int)) = chOf a b p (n + 1) := by
            unfold chOf
            dsimp only
            rw [← hpi, take_more (by omega), take_more (by omega)]
          rw [hext]
          refine ⟨fun d hd => ?_, ?_, fun k hk hne => ?_⟩
          · rcases List.mem_append.1 hd with hd | hd
            · obtain ⟨q, m, h1, h2, h3, h4⟩ := h.all d (by simp [hd])
              exact ⟨q, m, h1, h2, by omega, h4⟩
            · rw [List.mem_singleton.1 hd]
              refine ⟨p, n + 1, rfl, by omega, by omega, fun k h1 h2 => ?_⟩
              by_cases e : k = i
              · subst e; exact he
              · exact hdf k h1 (by omega)
          · rw [List.pairwise_append]
            refine ⟨hgap.1, List.pairwise_singleton _ _, fun d hd e hee => ?_⟩
            rw [List.mem_singleton.1 hee]
            exact hgap.2.2 d hd (chOf a b p n) (List.mem_singleton.2 rfl)
          · by_cases e : k = i
            · subst e
              refine ⟨chOf a b p (n + 1), by simp, ?_, ?_⟩
              · show (p : Int) ≤ k; omega
              · rw [chOf_end (by omega)]; omega
            · obtain ⟨d, hd, h5, h6⟩ := h.cov k (by omega) hne
              rcases List.mem_append.1 hd with hd | hd
              · exact ⟨d, by simp [hd], h5, h6⟩
              · rw [List.mem_singleton.1 hd] at h5 h6
                refine ⟨chOf a b p (n + 1), by simp, h5, ?_⟩
                rw [chOf_end (by omega)]
                rw [hend] at h6
                omega
        · rw [if_neg hei]
          refine hnew (l' ++ [chOf a b p n]) h.all h.gap (fun d hd => ?_) h.cov
          rcases List.mem_append.1 hd with hd | hd
          · have h7 := hgap.2.2 d hd _ (List.mem_singleton.2 rfl)
            have h8 : (chOf a b p n).1 = (p : Int) := rfl
            omega
          · rw [List.mem_singleton.1 hd]
            omega

/-! ### what changes make of a list -/
/-- What is wrong with a change. -/
def stepE (out : List Int) (c : (Int × List Int × List Int)) : Int :=
  if c.1 < 0 ∨ out.length - c.1.toNat < c.2.1.length then 1
  else if c.2.1.length ≠ c.2.2.length then 3
  else if (out.drop c.1.toNat).take c.2.1.length ≠ c.2.1 then 6 else 0
def stepL (out : List Int) (c : (Int × List Int × List Int)) : List Int := splice out c.1.toNat c.2.2
def apE (out : List Int) : List (Int × List Int × List Int) → Int
  | [] => 0
  | c :: l => if stepE out c = 0 then apE (stepL out c) l else stepE out c
def apL (out : List Int) : List (Int × List Int × List Int) → List Int
  | [] => out
  | c :: l => apL (stepL out c) l
theorem apE_append {l m : List (Int × List Int × List Int)} : ∀ {out : List Int}, apE out l = 0 → apE out (l ++ m) = apE (apL out l) m := by
  induction l with
  | nil => intro out _; rfl
  | cons c l ih =>
    intro out h
    unfold apE at h
    by_cases h0 : stepE out c = 0
    · rw [if_pos h0] at h
      show (if stepE out c = 0 then apE (stepL out c) (l ++ m) else _) = _
      rw [if_pos h0, ih h]
      rfl
    · rw [if_neg h0] at h
      exact absurd h h0
theorem apL_append {l m : List (Int × List Int × List Int)} : ∀ {out : List Int}, apL out (l ++ m) = apL (apL out l) m := by
  induction l with
  | nil => intro out; rfl
  | cons c l ih => intro out; exact ih
/-- Changes that touch no byte twice: each finds what it asks, and the bytes that it has are those of b then. -/
theorem ap_all {a b : List Int} (hl : a.length = b.length) : ∀ (l : List (Int × List Int × List Int)) (out : List Int), out.length = a.length → (∀ c ∈ l, ∃ p n : Nat, c = chOf a b p n ∧ p + n ≤ a.length ∧ ∀ k, p ≤ k → k < p + n → out.getD k 0 = a.getD k 0) → l.Pairwise (fun c d => chEnd c ≤ d.1 ∨ chEnd d ≤ c.1) →
    apE out l = 0 ∧ (apL out l).length = a.length ∧ ∀ k, (apL out l).getD k 0 = if ∃ c ∈ l, c.1 ≤ k ∧ (k : Int) < chEnd c then b.getD k 0 else out.getD k 0
  | [], out, hlen, _, _ => ⟨rfl, hlen, fun k => by rw [if_neg (by rintro ⟨c, hc, _⟩; cases hc)]; rfl⟩
  | c :: l, out, hlen, hall, hp => by
    obtain ⟨p, n, rfl, hpn, hag⟩ := hall c (by simp)
    have hend := chOf_end (a := a) (b := b) (p := p) (n := n) hpn
    have hln : ((b.drop p).take n).length = n := by rw [List.length_take, List.length_drop]; omega
    have hla : ((a.drop p).take n).length = n := by rw [List.length_take, List.length_drop]; omega
    have hst : (out.drop p).take n = (a.drop p).take n := by
      apply ext_getD
      · rw [hla, List.length_take, List.length_drop]; omega
      · intro k hk
        rw [List.length_take, List.length_drop] at hk
        have hk2 : k < n := by omega
        have h1 := hag (p + k) (by omega) (by omega)
        simp only [List.getD, List.getElem?_take, if_pos hk2, List.getElem?_drop] at h1 ⊢
        exact h1
    have h0 : stepE out (chOf a b p n) = 0 := by
      unfold stepE chOf
      dsimp only
      rw [hla, hln, Int.toNat_natCast, if_neg (by omega), if_neg (by simp), if_neg (by rw [hst]; simp)]
    have hsl : (stepL out (chOf a b p n)).length = a.length := by
      unfold stepL chOf
      dsimp only
      rw [length_splice (by rw [hln, Int.toNat_natCast]; omega), hlen]
    have hin : ∀ k, (stepL out (chOf a b p n)).getD k 0 = if p ≤ k ∧ k < p + n then b.getD k 0 else out.getD k 0 := fun k => by
      unfold stepL chOf
      dsimp only
      rw [Int.toNat_natCast]
      by_cases hk : p ≤ k ∧ k < p + n
      · rw [if_pos hk]
        obtain ⟨j, rfl⟩ : ∃ j, k = p + j := ⟨k - p, by omega⟩
        rw [splice_in (by rw [hln]; omega) (by rw [hln]; omega)]
        have hj : j < n := by omega
        simp only [List.getD, List.getElem?_take, if_pos hj, List.getElem?_drop]
      · rw [if_neg hk, splice_out (by rw [hln]; omega) (by rw [hln]; omega)]
    rw [List.pairwise_cons] at hp
    obtain ⟨i1, i2, i3⟩ := ap_all hl l (stepL out (chOf a b p n)) hsl (fun d hd => by
      obtain ⟨q, m, rfl, hqm, hag2⟩ := hall d (by simp [hd])
      refine ⟨q, m, rfl, hqm, fun k h1 h2 => ?_⟩
      have hdis := hp.1 _ hd
      rw [hend, chOf_end (a := a) (b := b) (p := q) (n := m) hqm] at hdis
      have e1 : (chOf a b q m).1 = (q : Int) := rfl
      have e2 : (chOf a b p n).1 = (p : Int) := rfl
      rw [e1, e2] at hdis
      rw [hin k, if_neg (by omega)]
      exact hag2 k h1 h2) hp.2
    refine ⟨?_, i2, fun k => ?_⟩
    · unfold apE
      rw [if_pos h0]
      exact i1
    · show (apL (stepL out (chOf a b p n)) l).getD k 0 = _
      rw [i3 k, hin k]
      by_cases hc : ∃ d ∈ l, d.1 ≤ k ∧ (k : Int) < chEnd d
      · obtain ⟨d, hd, h5⟩ := hc
        rw [if_pos ⟨d, hd, h5⟩, if_pos ⟨d, by simp [hd], h5⟩]
      · rw [if_neg hc]
        by_cases hk : p ≤ k ∧ k < p + n
        · rw [if_pos hk, if_pos ⟨chOf a b p n, by simp, by show (p : Int) ≤ k; omega, by rw [hend]; omega⟩]
        · rw [if_neg hk, if_neg]
          rintro ⟨d, hd, h5, h6⟩
          rcases List.mem_cons.1 hd with rfl | hd
          · rw [hend] at h6
            have e2 : (chOf a b p n).1 = (p : Int) := rfl
            rw [e2] at h5
            exact hk (by omega)
          · exact hc ⟨d, hd, h5, h6⟩
/-- What has changed makes of the old the new. -/
theorem df_apply {a b : List Int} (hl : a.length = b.length) : apE a (dfK a b a.length) = 0 ∧ apL a (dfK a b a.length) = b := by
  have h := df_dfK hl a.length (Nat.le_refl _)
  obtain ⟨h1, h2, h3⟩ := ap_all hl (dfK a b a.length) a rfl (fun c hc => by
    obtain ⟨p, n, h1, h2, h3, h4⟩ := h.all c hc
    exact ⟨p, n, h1, h3, fun k _ _ => rfl⟩) (h.gap.imp (fun g => .inl (Int.le_of_lt g)))
  refine ⟨h1, ?_⟩
  apply ext_getD
  · rw [h2, hl]
  · intro k hk
    rw [h3 k]
    by_cases hc : ∃ c ∈ dfK a b a.length, c.1 ≤ k ∧ (k : Int) < chEnd c
    · rw [if_pos hc]
    · rw [if_neg hc]
      exact Classical.byContradiction fun hne => hc (h.cov k (by omega) hne)
/-- The last first, what was there and what comes there exchanged. -/
def turnL (l : List (Int × List Int × List Int)) : List (Int × List Int × List Int) := l.reverse.map (fun c => (c.1, c.2.2, c.2.1))
theorem turn_turn (l : List (Int × List Int × List Int)) : turnL (turnL l) = l := by
  unfold turnL
  rw [← List.map_reverse, List.reverse_reverse, List.map_map]
  have : (fun c : (Int × List Int × List Int) => (c.1, c.2.2, c.2.1)) ∘ (fun c : (Int × List Int × List Int) => (c.1, c.2.2, c.2.1)) = id := by funext c; rfl
  rw [this, List.map_id]
/-- Turned, it makes of the new the old. -/
theorem df_turn {a b : List Int} (hl : a.length = b.length) : apE b (turnL (dfK a b a.length)) = 0 ∧ apL b (turnL (dfK a b a.length)) = a := by
  have h := df_dfK hl a.length (Nat.le_refl _)
  have hmem : ∀ c ∈ turnL (dfK a b a.length), ∃ p n : Nat, c = chOf b a p n ∧ p + n ≤ a.length ∧ chOf a b p n ∈ dfK a b a.length := fun c hc => by
    unfold turnL at hc
    obtain ⟨d, hd, rfl⟩ := List.mem_map.1 hc
    rw [List.mem_reverse] at hd
    obtain ⟨p, n, rfl, h2, h3, h4⟩ := h.all d hd
    exact ⟨p, n, rfl, h3, hd⟩
  have hpw : (turnL (dfK a b a.length)).Pairwise (fun c d => chEnd c ≤ d.1 ∨ chEnd d ≤ c.1) := by
    unfold turnL
    rw [List.pairwise_map, List.pairwise_reverse]
    refine h.gap.imp_of_mem (fun {c d} hc hd g => ?_)
    obtain ⟨p, n, rfl, _, h3, _⟩ := h.all c hc
    refine .inr ?_
    have e1 : chEnd (((chOf a b p n).1, (chOf a b p n).2.2, (chOf a b p n).2.1) : (Int × List Int × List Int)) = ((p + n : Nat) : Int) := chOf_end (a := b) (b := a) (by omega)
    rw [e1]
    rw [chOf_end (by omega)] at g
    exact Int.le_of_lt g
  obtain ⟨h1, h2, h3⟩ := ap_all hl.symm (turnL (dfK a b a.length)) b rfl (fun c hc => by
    obtain ⟨p, n, h1, h2, _⟩ := hmem c hc
    exact ⟨p, n, h1, by omega, fun k _ _ => rfl⟩) hpw
  refine ⟨h1, ?_⟩
  apply ext_getD
  · rw [h2, hl]
  · intro k hk
    rw [h3 k]
    by_cases hc : ∃ c ∈ turnL (dfK a b a.length), c.1 ≤ k ∧ (k : Int) < chEnd c
    · rw [if_pos hc]
    · rw [if_neg hc]
      refine Classical.byContradiction fun hne => hc ?_
      obtain ⟨c, hcm, h5, h6⟩ := h.cov k (by omega) (fun e => hne e.symm)
      obtain ⟨p, n, rfl, _, h8, _⟩ := h.all c hcm
      refine ⟨chOf b a p n, ?_, h5, ?_⟩
      · unfold turnL
        exact List.mem_map.2 ⟨chOf a b p n, List.mem_reverse.2 hcm, rfl⟩
      · rw [chOf_end (by omega)] at h6
        rw [chOf_end (by omega)]
        exact h6
end Go.Proofs.YtopblhmbjdfebaaGreat
/-! The pages in which something changes, as plain lists. (Part of the proofs over package diff.) -/
namespace Go.Proofs.YtopblhmbjdfebaaGreat
open Go.RowKit
set_option linter.unusedVariables false

/-- What is wrong with changes of which the pages are asked. -/
def pgE : List (Int × List Int × List Int) → Int
  | [] => 0
  | c :: l => if c.1 < 0 ∨ 6400 ≤ c.1 ∨ 6400 - c.1 < c.2.2.length then 1 else pgE l
/-- Does something change in a page? -/
def touch (l : List (Int × List Int × List Int)) (j : Nat) : Bool := l.any (fun c => (List.range c.2.2.length).any (fun k => (c.1.toNat + k) / 32 == j))
def pgL (l : List (Int × List Int × List Int)) : List Nat := (List.range 200).filter (touch l)
theorem touch_iff {l : List (Int × List Int × List Int)} {j : Nat} : touch l j = true ↔ ∃ c ∈ l, ∃ k : Nat, k < c.2.2.length ∧ (c.1.toNat + k) / 32 = j := by
  unfold touch
  rw [List.any_eq_true]
  constructor
  · rintro ⟨c, hc, h⟩
    obtain ⟨k, hk, h⟩ := List.any_eq_true.1 h
    exact ⟨c, hc, k, List.mem_range.1 hk, by simpa using h⟩
  · rintro ⟨c, hc, k, hk, h⟩
    exact ⟨c, hc, List.any_eq_true.2 ⟨k, List.mem_range.2 hk, by simpa using h⟩⟩
theorem pgE_ok : ∀ {l : List (Int × List Int × List Int)}, (∀ c ∈ l, 0 ≤ c.1 ∧ c.1 < 6400 ∧ c.1 + c.2.2.length ≤ 6400) → pgE l = 0
  | [], _ => rfl
  | c :: l, h => by
    have h1 := h c (by simp)
    unfold pgE
    rw [if_neg (by omega)]
    exact pgE_ok (fun d hd => h d (by simp [hd]))
theorem df_pages {a b : List Int} (hl : a.length = b.length) (h64 : a.length ≤ 6400) : pgE (dfK a b a.length) = 0 ∧ ∀ j : Nat, 32 * j < a.length → (touch (dfK a b a.length) j = true ↔ (a.drop (32 * j)).take 32 ≠ (b.drop (32 * j)).take 32) := by
  have h := df_dfK hl a.length (Nat.le_refl _)
  have hlen : ∀ p n : Nat, p + n ≤ a.length → (chOf a b p n).2.2.length = n := fun p n hpn => by
    show ((b.drop p).take n).length = n
    rw [List.length_take, List.length_drop]; omega
  refine ⟨pgE_ok (fun c hc => ?_), fun j hj => ?_⟩
  · obtain ⟨p, n, rfl, h2, h3, h4⟩ := h.all c hc
    rw [hlen p n h3]
    show 0 ≤ (p : Int) ∧ (p : Int) < 6400 ∧ (p : Int) + n ≤ 6400
    omega
  · rw [touch_iff]
    constructor
    · rintro ⟨c, hc, k, hk, he⟩
      obtain ⟨p, n, rfl, h2, h3, h4⟩ := h.all c hc
      rw [hlen p n h3] at hk
      have hpt : (chOf a b p n).1.toNat = p := Int.toNat_natCast p
      rw [hpt] at he
      intro e
      have hne := h4 (p + k) (by omega) (by omega)
      obtain ⟨i, hi⟩ : ∃ i, p + k = 32 * j + i := ⟨p + k - 32 * j, by omega⟩
      have hi32 : i < 32 := by omega
      have e2 := congrArg (fun l => l.getD i 0) e
      simp only [List.getD, List.getElem?_take, if_pos hi32, List.getElem?_drop] at e2
      rw [hi] at hne
      exact hne e2
    · intro hne
      refine Classical.byContradiction fun hno => hne ?_
      apply ext_getD
      · rw [List.length_take, List.length_take, List.length_drop, List.length_drop, hl]
      · intro i hi
        rw [List.length_take, List.length_drop] at hi
        have hi32 : i < 32 := by omega
        have hiN : 32 * j + i < a.length := by omega
        simp only [List.getD, List.getElem?_take, if_pos hi32, List.getElem?_drop]
        refine Classical.byContradiction fun hd => hno ?_
        obtain ⟨c, hc, h5, h6⟩ := h.cov (32 * j + i) hiN hd
        obtain ⟨p, n, rfl, h2, h3, h4⟩ := h.all c hc
        have e1 : (chOf a b p n).1 = (p : Int) := rfl
        rw [chOf_end h3] at h6
        rw [e1] at h5
        refine ⟨chOf a b p n, hc, 32 * j + i - p, by rw [hlen p n h3]; omega, ?_⟩
        have hpt : (chOf a b p n).1.toNat = p := Int.toNat_natCast p
        rw [hpt]
        omega
end Go.Proofs.YtopblhmbjdfebaaGreat
/-! What has changed between two lists of bytes, run by run, as plain lists. (Part of the proofs over package diff.) -/
namespace Go.Proofs.YtopblhmbjdfebaaGreat
open Go.RowKit
set_option linter.unusedVariables false

theorem dfK_same {a b : List Int} {i : Nat} : ∀ {k : Nat}, i ≤ k → (∀ j, i ≤ j → j < k → a.getD j 0 = b.getD j 0) → dfK a b k = dfK a b i
  | 0, h, _ => by rw [Nat.le_zero.1 h]
  | k + 1, h, hs => by
    by_cases e : i = k + 1
    · rw [e]
    · show (if a.getD k 0 = b.getD k 0 then dfK a b k else _) = _
      rw [if_pos (hs k (by omega) (by omega))]
      exact dfK_same (by omega) (fun j h1 h2 => hs j h1 (by omega))
/-- A run that begins where none ends. -/
theorem dfK_run {a b : List Int} (hl : a.length = b.length) {p : Nat} (hp : p = 0 ∨ a.getD (p - 1) 0 = b.getD (p - 1) 0) : ∀ n, 1 ≤ n → p + n ≤ a.length → (∀ j, p ≤ j → j < p + n → a.getD j 0 ≠ b.getD j 0) →
    dfK a b (p + n) = dfK a b p ++ [chOf a b p n]
  | 0, h, _, _ => by omega
  | 1, _, hle, hd => by
    show (if a.getD p 0 = b.getD p 0 then _ else chPut (dfK a b p) p (a.getD p 0) (b.getD p 0)) = _
    rw [if_neg (hd p (Nat.le_refl _) (by omega))]
    have h := df_dfK hl p (by omega)
    have hone : (((p : Int), [a.getD p 0], [b.getD p 0]) : (Int × List Int × List Int)) = chOf a b p 1 := by
      unfold chOf
      have e1 := take_more (a := a) (p := p) (n := 0) (by omega)
      have e2 := take_more (a := b) (p := p) (n := 0) (by omega)
      rw [List.take_zero, List.nil_append, Nat.add_zero] at e1 e2
      rw [← e1, ← e2]
    rw [hone.symm]
    generalize dfK a b p = l at h
    unfold chPut
    cases hlast : l.getLast? with
    | none => rw [List.getLast?_eq_none_iff.1 hlast]; rfl
    | some c =>
      dsimp only
      rw [if_neg]
      intro e
      have hc : c ∈ l := List.mem_of_getLast? hlast
      obtain ⟨q, m, rfl, hm, hqm, hdf⟩ := h.all c hc
      rw [chOf_end (by omega)] at e
      have := hdf (p - 1) (by omega) (by omega)
      rcases hp with hp | hp
      · omega
      · exact this hp
  | n + 2, _, hle, hd => by
    have ih := dfK_run hl hp (n + 1) (by omega) (by omega) (fun j h1 h2 => hd j h1 (by omega))
    show (if a.getD (p + (n + 1)) 0 = b.getD (p + (n + 1)) 0 then _ else chPut (dfK a b (p + (n + 1))) (p + (n + 1)) _ _) = _
    rw [if_neg (hd _ (by omega) (by omega)), ih]
    unfold chPut
    rw [List.getLast?_concat]
    dsimp only
    rw [if_pos (chOf_end (by omega)), List.dropLast_concat]
    congr 2
    unfold chOf
    dsimp only
    have e1 := take_more (a := a) (p := p) (n := n + 1) (by omega)
    have e2 := take_more (a := b) (p := p) (n := n + 1) (by omega)
    show ((p : Int), (a.drop p).take (n + 1) ++ [a.getD (p + (n + 1)) 0], (b.drop p).take (n + 1) ++ [b.getD (p + (n + 1)) 0]) = _
    rw [e1, e2]
/-- How many changes there may be: each takes a byte and leaves one between. -/
theorem df_few {a b : List Int} (hl : a.length = b.length) : ∀ i, i ≤ a.length → (dfK a b i).length ≤ i
  | 0, _ => Nat.le_refl _
  | i + 1, h => by
    have ih := df_few hl i (by omega)
    show (if a.getD i 0 = b.getD i 0 then dfK a b i else chPut (dfK a b i) i (a.getD i 0) (b.getD i 0)).length ≤ _
    by_cases e : a.getD i 0 = b.getD i 0
    · rw [if_pos e]; omega
    · rw [if_neg e]
      generalize dfK a b i = l at ih
      unfold chPut
      cases hlast : l.getLast? with
      | none => simp
      | some c =>
        dsimp only
        by_cases e2 : chEnd c = i
        · rw [if_pos e2, List.length_append, List.length_dropLast]
          simp only [List.length_cons, List.length_nil]
          omega
        · rw [if_neg e2, List.length_append]
          simp only [List.length_cons, List.length_nil]
          omega
end Go.Proofs.YtopblhmbjdfebaaGreat
/-! Rows of changes in memory: each an int and two slices of bytes. (Part of the proofs over package diff.) -/
namespace Go.Proofs.YtopblhmbjdfebaaGreat
open Go.RowKit
set_option linter.unusedVariables false

/-! A change as it stands in memory: where; what was there, and what comes there, each with the address and the capacity of its slice. -/
def slV (s : Option Addr × Nat × List Int) : Value := .slice s.1 s.2.2.length s.2.1
def rwC (r : (Int × (Option Addr × Nat × List Int) × (Option Addr × Nat × List Int))) : List Value := [.int .i64 r.1, slV r.2.1, slV r.2.2]
def rwP (r : (Int × (Option Addr × Nat × List Int) × (Option Addr × Nat × List Int))) : (Int × List Int × List Int) := (r.1, r.2.1.2.2, r.2.2.2.2)
theorem rwC_len (r : (Int × (Option Addr × Nat × List Int) × (Option Addr × Nat × List Int))) : (rwC r).length = 3 := rfl
theorem rwC_one (r : (Int × (Option Addr × Nat × List Int) × (Option Addr × Nat × List Int))) : ∀ u ∈ rwC r, u.oneCell' = true := by
  intro u hu
  unfold rwC slV at hu
  rcases List.mem_cons.1 hu with rfl | hu
  · rfl
  rcases List.mem_cons.1 hu with rfl | hu
  · rfl
  rw [List.mem_singleton.1 hu]
  rfl
theorem info_chg : (Tryz.prog.info? 50).map (fun i => (i.zero, i.size, i.bytes)) = some (some (.agg #[.int .i64 0, .slice none 0 0, .slice none 0 0]), 3, 56) := by kernel_rfl
/-- Its two slices read as it says. -/
def RdC (w : World) (r : (Int × (Option Addr × Nat × List Int) × (Option Addr × Nat × List Int))) : Prop := Bs w r.2.1.1 r.2.1.2.1 r.2.1.2.2 ∧ Bs w r.2.2.1 r.2.2.2.1 r.2.2.2.2
theorem RdC.below {w w' : World} {r : (Int × (Option Addr × Nat × List Int) × (Option Addr × Nat × List Int))} (h : RdC w r) (hb : Below w.heap.size w w') : RdC w' r := ⟨h.1.below hb, h.2.below hb⟩
/-- The slice '.slice a l.length cap' reads in w as the changes l. -/
def Chs (w : World) (a : Option Addr) (cap : Nat) (l : List (Int × List Int × List Int)) : Prop := ∃ rs : List (Int × (Option Addr × Nat × List Int) × (Option Addr × Nat × List Int)), rs.map rwP = l ∧ Sls rwC 3 w a cap rs ∧ ∀ r ∈ rs, RdC w r
theorem Chs.below {w w' : World} {a : Option Addr} {cap : Nat} {l : List (Int × List Int × List Int)} (h : Chs w a cap l) (hb : Below w.heap.size w w') : Chs w' a cap l := by
  obtain ⟨rs, h1, h2, h3⟩ := h
  exact ⟨rs, h1, h2.below hb, fun r hr => (h3 r hr).below hb⟩
theorem Chs.len {w : World} {a : Option Addr} {cap : Nat} {l : List (Int × List Int × List Int)} (h : Chs w a cap l) : l.length ≤ 8796093021952 ∧ l.length ≤ cap := by
  obtain ⟨rs, rfl, h2, h3⟩ := h
  rw [List.length_map]
  exact ⟨h2.2.2.1, h2.1⟩
/-- One change of it: its three cells, and what its slices read as. -/
theorem Chs.at {w : World} {a : Option Addr} {cap : Nat} {l : List (Int × List Int × List Int)} (h : Chs w a cap l) {i : Nat} (hi : i < l.length) :
    ∃ b off a1 c1 a2 c2, a = some ⟨b, off, none⟩ ∧ w.cell? ⟨b, off + i * 3, none⟩ = some (.int .i64 (l.getD i (0, [], [])).1) ∧ w.cell? ⟨b, off + i * 3 + 1, none⟩ = some (.slice a1 (l.getD i (0, [], [])).2.1.length c1) ∧ w.cell? ⟨b, off + i * 3 + 2, none⟩ = some (.slice a2 (l.getD i (0, [], [])).2.2.length c2) ∧ Bs w a1 c1 (l.getD i (0, [], [])).2.1 ∧ Bs w a2 c2 (l.getD i (0, [], [])).2.2 := by
  obtain ⟨rs, rfl, h2, h3⟩ := h
  rw [List.length_map] at hi
  have hne : rs ≠ [] := by intro e; rw [e] at hi; simp at hi
  obtain ⟨b, off, rfl, hc⟩ := h2.2.2.2 hne
  have hx : rs[i]? = some rs[i] := List.getElem?_eq_getElem hi
  have hg : (rs.map rwP).getD i (0, [], []) = rwP rs[i] := by simp [List.getD, hi]
  rw [hg]
  obtain ⟨hr1, hr2⟩ := h3 rs[i] (List.getElem_mem hi)
  exact ⟨b, off, rs[i].2.1.1, rs[i].2.1.2.1, rs[i].2.2.1, rs[i].2.2.2.1, rfl, hc i _ hx 0 _ rfl, hc i _ hx 1 _ rfl, hc i _ hx 2 _ rfl, hr1, hr2⟩

/-! ### rows that a call makes -/
/-- Its two slices are rows of their own. -/
def RdO (w : World) (B : Nat) (r : (Int × (Option Addr × Nat × List Int) × (Option Addr × Nat × List Int))) : Prop := (Byt r.2.1.2.2 ∧ r.2.1.2.2.length ≤ 140737488351232 ∧ OwnV w B (slV r.2.1) r.2.1.2.2) ∧ Byt r.2.2.2.2 ∧ r.2.2.2.2.length ≤ 140737488351232 ∧ OwnV w B (slV r.2.2) r.2.2.2.2
theorem OwnV.bs' {w : World} {B : Nat} {s : Option Addr × Nat × List Int} (h : OwnV w B (slV s) s.2.2) (hb : Byt s.2.2) (hl : s.2.2.length ≤ 140737488351232) : Bs w s.1 s.2.1 s.2.2 := by
  obtain ⟨a, c, e, hbs⟩ := h.bs hb hl
  unfold slV at e
  simp only [Value.slice.injEq, true_and] at e
  rw [e.1, e.2]
  exact hbs
theorem RdO.rd {w : World} {B : Nat} {r : (Int × (Option Addr × Nat × List Int) × (Option Addr × Nat × List Int))} (h : RdO w B r) : RdC w r := ⟨h.1.2.2.bs' h.1.1 h.1.2.1, h.2.2.2.bs' h.2.1 h.2.2.1⟩
theorem RdO.below {w w' : World} {B : Nat} {r : (Int × (Option Addr × Nat × List Int) × (Option Addr × Nat × List Int))} (h : RdO w B r) (hb : Below w.heap.size w w') : RdO w' B r := ⟨⟨h.1.1, h.1.2.1, h.1.2.2.below hb⟩, h.2.1, h.2.2.1, h.2.2.2.below hb⟩
/-- A row of bytes stands while a row of another element type turns. -/
theorem OwnV.keep {α : Type} {enc : α → List Value} {k T : Nat} {w w' : World} {B B' : Nat} {v v' : Value} {l : List α} {L : List Int} (h : Lst enc k T w B v l) (h' : OwnV w B' v' L) (hne : T ≠ 5)
    (hk : ∀ j, j < w.heap.size → v.ownBlock ≠ some j → w'.heap[j]? = w.heap[j]?) : OwnV w' B' v' L := by
  refine ⟨h'.1, ?_⟩
  rcases h'.2 with h0 | ⟨g, cap, cur, rfl, hB, hc, h3⟩
  · exact .inl h0
  · refine .inr ⟨g, cap, cur, rfl, hB, (hk g (Array.getElem?_eq_some_iff.1 hc).1 (fun e => ?_)).trans hc, h3⟩
    rcases h.2 with ⟨rfl, _⟩ | ⟨g1, cap1, cur1, rfl, hB1, hc1, _⟩
    · cases e
    · simp [Value.ownBlock] at e
      subst e
      rw [hc1] at hc
      simp at hc
      exact hne hc.2
theorem RdO.keep {α : Type} {enc : α → List Value} {k T : Nat} {w w' : World} {B B' : Nat} {v : Value} {l : List α} {r : (Int × (Option Addr × Nat × List Int) × (Option Addr × Nat × List Int))} (h : Lst enc k T w B v l) (h' : RdO w B' r) (hne : T ≠ 5)
    (hk : ∀ j, j < w.heap.size → v.ownBlock ≠ some j → w'.heap[j]? = w.heap[j]?) : RdO w' B' r := ⟨⟨h'.1.1, h'.1.2.1, h'.1.2.2.keep h hne hk⟩, h'.2.1, h'.2.2.1, h'.2.2.2.keep h hne hk⟩
/-- A value that owns a row of changes, each with two rows of bytes of its own. -/
def ChO (w : World) (B : Nat) (v : Value) (l : List (Int × List Int × List Int)) : Prop := ∃ rs : List (Int × (Option Addr × Nat × List Int) × (Option Addr × Nat × List Int)), rs.map rwP = l ∧ Lst rwC 3 50 w B v rs ∧ ∀ r ∈ rs, RdO w B r
theorem ChO.nil (w : World) (B : Nat) : ChO w B (.slice none 0 0) [] := ⟨[], rfl, Lst.nil w B, fun r hr => by cases hr⟩
theorem ChO.below {w w' : World} {B : Nat} {v : Value} {l : List (Int × List Int × List Int)} (h : ChO w B v l) (hb : Below w.heap.size w w') : ChO w' B v l := by
  obtain ⟨rs, h1, h2, h3⟩ := h
  exact ⟨rs, h1, h2.below hb, fun r hr => (h3 r hr).below hb⟩
theorem ChO.chs {w : World} {B : Nat} {v : Value} {l : List (Int × List Int × List Int)} (h : ChO w B v l) (hl : l.length ≤ 8796093021952) : ∃ a c, v = .slice a l.length c ∧ Chs w a c l := by
  obtain ⟨rs, rfl, h2, h3⟩ := h
  rw [List.length_map] at hl ⊢
  obtain ⟨a, c, e, hs⟩ := h2.sls rwC_len hl
  exact ⟨a, c, e, rs, rfl, hs, fun r hr => (h3 r hr).rd⟩
theorem ChO.shape {w : World} {B : Nat} {v : Value} {l : List (Int × List Int × List Int)} (h : ChO w B v l) : ∃ a m c, v = .slice a m c := by
  obtain ⟨rs, _, h2, _⟩ := h
  exact h2.shape
/-- One change more at the end of such a row. -/
theorem ChO.grow {w w' : World} {B g cap n : Nat} {v : Value} {rs : List (Int × (Option Addr × Nat × List Int) × (Option Addr × Nat × List Int))} {r : (Int × (Option Addr × Nat × List Int) × (Option Addr × Nat × List Int))} (hL : Lst rwC 3 50 w B v rs) (h3 : ∀ x ∈ rs, RdO w B x) (hr : RdO w B r) (hB : B ≤ w.heap.size)
    (hown : w'.ownsRow B 50 3 (.slice (some ⟨g, 0, none⟩) n cap) (rs.length + 1) (rs.flatMap rwC ++ rwC r)) (hg : w.grownBy w' v.ownBlock) :
    ChO w' B (.slice (some ⟨g, 0, none⟩) n cap) (rs.map rwP ++ [rwP r]) ∧ Below B w w' := by
  refine ⟨⟨rs ++ [r], by simp, ?_, ?_⟩, (Below.refl _ _).grown hg hB (fun k hk => hL.block k hk)⟩
  · unfold Lst
    rw [List.length_append, List.flatMap_append]
    simpa using hown
  · have hk : ∀ j, j < w.heap.size → v.ownBlock ≠ some j → w'.heap[j]? = w.heap[j]? := fun j hj hne => hg.block j hj (fun e => hne e.symm)
    intro x hx
    rcases List.mem_append.1 hx with hx | hx
    · exact (h3 x hx).keep hL (by decide) hk
    · rw [List.mem_singleton.1 hx]
      exact hr.keep hL (by decide) hk
theorem step_append_chg {w : World} {ops : Array Oper} {o : Oper} {a : Act} {K : Act → World → Prop} {Q : Exit → Act → World → Prop} {E : Prop} (hgd : o.guard = none) (s x : Operand)
    (ho : o.op = .call { callee := .builtin .append, args := #[s, x], argTypes := #[46, 46] }) (B : Nat) (v : Value) (l : List (Int × List Int × List Int)) (hs : a.eval s = v) (hown : ChO w B v l) (g : Nat) (r : (Int × (Option Addr × Nat × List Int) × (Option Addr × Nat × List Int)))
    (hx : a.eval x = .slice (some ⟨g, 0, none⟩) 1 1) (hy : w.heap[g]? = some (.cells (rwC r).toArray 50 (0, 0))) (hr : RdO w B r) (hn : l.length ≤ 100000) (hB : B ≤ w.heap.size)
    (h : ∀ g' cap w', ChO w' B (.slice (some ⟨g', 0, none⟩) (l.length + 1) cap) (l ++ [rwP r]) → Below B w w' → (∀ j, j < w.heap.size → v.ownBlock ≠ some j → w'.heap[j]? = w.heap[j]?) → K (a.put o.dst (.slice (some ⟨g', 0, none⟩) (l.length + 1) cap)) w') :
    if Region.wanted o (yielded ops a.tmps) = true then Oper.wp Tryz.prog o a w K Q else E := by
  obtain ⟨i0, hi0, hz0, hz1, hz2⟩ := info_parts info_chg
  obtain ⟨rs, rfl, hL, h3⟩ := hown
  rw [List.length_map] at hn h
  refine step_append_lies w hgd s x 46 ho B 50 i0 _ 3 56 Tryz.underlying46 hi0 hz0 hz1 hz2 rfl (by decide) v rs.length (rs.flatMap rwC) hs hL ⟨g, 0, none⟩ 1 1 (rwC r) hx rfl (World.news_of_block hy) (rwC_one r) (by decide) (by unfold maxLen; omega) (by omega) hB w.heap.size rfl ?_
  intro g' cap w' ho' hg' _ _
  obtain ⟨h5, h6⟩ := ChO.grow hL h3 hr hB ho' hg'
  exact h g' cap w' h5 h6 (fun j hj hne => hg'.block j hj (fun e => hne e.symm))
theorem wp_append_chg {w : World} {o : Oper} {a : Act} {K : Act → World → Prop} {Q : Exit → Act → World → Prop} (s x : Operand)
    (ho : o.op = .call { callee := .builtin .append, args := #[s, x], argTypes := #[46, 46] }) (B : Nat) (v : Value) (l : List (Int × List Int × List Int)) (hs : a.eval s = v) (hown : ChO w B v l) (g : Nat) (r : (Int × (Option Addr × Nat × List Int) × (Option Addr × Nat × List Int)))
    (hx : a.eval x = .slice (some ⟨g, 0, none⟩) 1 1) (hy : w.heap[g]? = some (.cells (rwC r).toArray 50 (0, 0))) (hr : RdO w B r) (hn : l.length ≤ 100000) (hB : B ≤ w.heap.size)
    (h : ∀ g' cap w', ChO w' B (.slice (some ⟨g', 0, none⟩) (l.length + 1) cap) (l ++ [rwP r]) → Below B w w' → (∀ j, j < w.heap.size → v.ownBlock ≠ some j → w'.heap[j]? = w.heap[j]?) → K (a.put o.dst (.slice (some ⟨g', 0, none⟩) (l.length + 1) cap)) w') :
    Oper.wp Tryz.prog o a w K Q := by
  obtain ⟨i0, hi0, hz0, hz1, hz2⟩ := info_parts info_chg
  obtain ⟨rs, rfl, hL, h3⟩ := hown
  rw [List.length_map] at hn h
  refine wp_append_lies w s x 46 ho B 50 i0 _ 3 56 Tryz.underlying46 hi0 hz0 hz1 hz2 rfl (by decide) v rs.length (rs.flatMap rwC) hs hL ⟨g, 0, none⟩ 1 1 (rwC r) hx rfl (World.news_of_block hy) (rwC_one r) (by decide) (by unfold maxLen; omega) (by omega) hB w.heap.size rfl ?_
  intro g' cap w' ho' hg' _ _
  obtain ⟨h5, h6⟩ := ChO.grow hL h3 hr hB ho' hg'
  exact h g' cap w' h5 h6 (fun j hj hne => hg'.block j hj (fun e => hne e.symm))
end Go.Proofs.YtopblhmbjdfebaaGreat
/-! The contract of num.Same. (Part of the proofs of NumLow, NumTells.) -/
namespace Go.Proofs.YtopblhmbjdfebaaGreat
open Go.RowKit
set_option linter.unusedVariables false

set_option maxHeartbeats 400000 in
theorem nSame_any (a a' : Option Addr) (cap cap' : Nat) (l m : List Int) (w : World) (hbs : Bs w a cap l) (hbs' : Bs w a' cap' m) :
    Calls Tryz.prog 81 #[.slice a l.length cap, .slice a' m.length cap'] w fun e w' => ∃ i : Nat, e = .returned (.int .i64 i) ∧ First (fun j => (l.getD j 0 != m.getD j 0)) (min l.length m.length) i ∧ Below w.heap.size w w' := by
  by_cases hlt : m.length < l.length
  · rw [Nat.min_eq_right (Nat.le_of_lt hlt)]
    go_enter Tryz.func81, Tryz.ntmps81
    go_wp2_with fail
    refine (ahead_same _ _ a a' cap cap' m.length l m _ (hbs.below (((Below.refl _ _).alloc (Nat.le_refl _) _).alloc (by simp) _)) (hbs'.below (((Below.refl _ _).alloc (Nat.le_refl _) _).alloc (by simp) _)) (by omega) (by omega) (by simp) (by simp)).mono ?_
    rintro e w1 ⟨i, rfl, hf, n, rfl⟩
    have HF := hide hf
    clear hf
    go_wp2
    go_ret
    exact ⟨i, rfl, unhide HF, below_drewN (((Below.refl _ _).alloc (Nat.le_refl _) _).alloc (by simp) _) _⟩
  · rw [Nat.min_eq_left (by omega)]
    go_enter Tryz.func81, Tryz.ntmps81
    go_wp2_with fail
    refine (ahead_same _ _ a a' cap cap' l.length l m _ (hbs.below (((Below.refl _ _).alloc (Nat.le_refl _) _).alloc (by simp) _)) (hbs'.below (((Below.refl _ _).alloc (Nat.le_refl _) _).alloc (by simp) _)) (by omega) (by omega) (by simp) (by simp)).mono ?_
    rintro e w1 ⟨i, rfl, hf, n, rfl⟩
    have HF := hide hf
    clear hf
    go_wp2
    go_ret
    exact ⟨i, rfl, unhide HF, below_drewN (((Below.refl _ _).alloc (Nat.le_refl _) _).alloc (by simp) _) _⟩
end Go.Proofs.YtopblhmbjdfebaaGreat
/-! Contracts of package diff: a copy of bytes; at how many places two lists differ. (Part of the proofs over package diff.) -/
namespace Go.Proofs.YtopblhmbjdfebaaGreat
open Go.RowKit
set_option linter.unusedVariables false

set_option maxHeartbeats 1000000 in
theorem differ_any (a a' : Option Addr) (cap cap' : Nat) (l m : List Int) (w : World) (hbs : Bs w a cap l) (hbs' : Bs w a' cap' m) (hlm : l.length = m.length) :
    Calls Tryz.prog 82 #[.slice a l.length cap, .slice a' m.length cap'] w fun e w' => ∃ i : Nat, e = .returned (.int .i64 i) ∧ First (fun j => (l.getD j 0 == m.getD j 0)) l.length i ∧ ∃ n, w' = w.drewN n := by
  have hl := hbs.2.2.1
  rw [← hlm]
  have HB := hide hbs
  have HB' := hide hbs'
  have HLM := hide hlm
  clear hbs hbs' hlm
  go_enter Tryz.func82, Tryz.ntmps82
  go_wp2
  go_loopw [5] (fun i wr => ∃ k n : Nat, k ≤ l.length ∧ i = .int .i64 k ∧ wr = w.drewN n ∧ ∀ j, j < k → (l.getD j 0 == m.getD j 0) = false) (fun i _ => l.length - (intOf i).toNat)
  case atStart => exact ⟨0, 0, by omega, rfl, rfl, fun j hj => absurd hj (Nat.not_lt_zero j)⟩
  case round =>
    obtain ⟨k, n, hk, rfl, rfl, hall⟩ := hrel
    have HA := hide hall
    clear hall
    by_cases hlt : k < l.length
    · obtain ⟨b, off, rfl, c0⟩ := (unhide HB).at k hlt
      obtain ⟨b', off', rfl, c1⟩ := (unhide HB').at k (by have := unhide HLM; omega)
      have hd : decide ((k : Int) < (l.length : Int)) = true := decide_eq_true (by omega)
      cases hx : (l.getD k 0 == m.getD k 0)
      · have HX := hide hx
        have hne : ¬ l.getD k 0 = m.getD k 0 := by simpa using hx
        clear hx
        generalize l.getD k 0 = x at c0 hne
        generalize m.getD k 0 = y at c1 hne
        go_wp2_with fail
        go_quiet (fail)
        go_wp2
        go_roundw
        case rel => exact ⟨k + 1, n + nq, by omega, by go_num, rfl, First.step (unhide HA) (unhide HX)⟩
        case measure => simp [intOf]; omega
      · have HX := hide hx
        have he : l.getD k 0 = m.getD k 0 := by simpa using hx
        clear hx
        rw [he] at c0
        clear he
        generalize m.getD k 0 = y at c0 c1
        go_wp2_with fail
        go_quiet (fail)
        go_wp2
        go_ret
        exact ⟨k, rfl, ⟨by omega, unhide HA, fun _ => unhide HX⟩, n + nq, by rw [World.drewN_drewN]⟩
    · obtain rfl : k = l.length := by omega
      have hd : decide ((l.length : Int) < (l.length : Int)) = false := by simp
      go_wp2_with fail
      go_quiet (fail)
      go_wp2
      go_ret
      exact ⟨_, rfl, ⟨Nat.le_refl _, unhide HA, fun h => absurd h (Nat.lt_irrefl _)⟩, n + nq, by rw [World.drewN_drewN]⟩
end Go.Proofs.YtopblhmbjdfebaaGreat
/-! The contract of diff.Diff. (Part of the proofs over package diff.) -/
namespace Go.Proofs.YtopblhmbjdfebaaGreat
open Go.RowKit
set_option linter.unusedVariables false

def dfE (l m : List Int) : Int := if l.length ≠ m.length then 3 else if 6400 < l.length then 4 else 0
def dfO (l m : List Int) : List (Int × List Int × List Int) := if dfE l m = 0 then dfK l m l.length else []

theorem OwnV.low {w : World} {B B' : Nat} {v : Value} {L : List Int} (h : OwnV w B' v L) (hB : B ≤ B') : OwnV w B v L := by
  refine ⟨h.1, ?_⟩
  rcases h.2 with h0 | ⟨g, cap, cur, rfl, hb, h3⟩
  · exact .inl h0
  · exact .inr ⟨g, cap, cur, rfl, Nat.le_trans hB hb, h3⟩

theorem rdo_mk {w : World} {B n k : Nat} {z : Int} {sA sB : Option Addr} {cA cB : Nat} {X Y : List Int} (hX : X.length = n) (hY : Y.length = k) (hn : n ≤ 140737488351232 ∧ k ≤ 140737488351232) (h1 : Byt X) (h2 : Byt Y) (hA : OwnV w B (.slice sA n cA) X) (hB : OwnV w B (.slice sB k cB) Y) : RdO w B (z, (sA, cA, X), (sB, cB, Y)) := by
  subst hX hY
  exact ⟨⟨h1, hn.1, hA⟩, h2, hn.2, hB⟩

set_option maxRecDepth 100000 in
set_option maxHeartbeats 1000000 in
theorem diff_yes (a a' : Option Addr) (cap cap' : Nat) (l m : List Int) (w : World) (hb : Bs w a cap l) (hb' : Bs w a' cap' m) (hlm : l.length = m.length) (h64 : l.length ≤ 6400) :
    Calls Tryz.prog 48 #[.slice a l.length cap, .slice a' l.length cap'] w fun e w' => ∃ v, e = .returned (.tuple #[v, errV 0]) ∧ ChO w' w.heap.size v (dfK l m l.length) ∧ Below w.heap.size w w' := by
  have HS := hide (nSame_any a a' cap cap' l m w hb hb')
  rw [← hlm, Nat.min_self] at HS
  have HB := hide hb
  have HB' := hide hb'
  have HLM := hide hlm
  clear hb hb' hlm
  obtain ⟨N, hN⟩ : ∃ N, l.length = N := ⟨_, rfl⟩
  rw [hN] at h64 HS ⊢
  have HN := hide hN
  clear hN
  go_enter Tryz.func48, Tryz.ntmps48
  go_wp2_with fail
  refine (unhide HS).mono ?_
  rintro e w1 ⟨p0, rfl, hf, hb1⟩
  have HF := hide hf
  have HB1 := hide hb1
  have hp0 := hf.1
  clear hf hb1 HS
  go_wp2_with fail
  go_loopw [6, 7] (fun v at' wr => ∃ p : Nat, p ≤ N ∧ at' = .int .i64 p ∧ ChO wr w.heap.size v (dfK l m p) ∧ Below w.heap.size w wr ∧ (p < N → l.getD p 0 ≠ m.getD p 0 ∧ (p = 0 ∨ l.getD (p - 1) 0 = m.getD (p - 1) 0))) (fun _ at' _ => N - (intOf at').toNat)
  case atStart =>
    have hsm : dfK l m p0 = [] := by
      rw [dfK_same (i := 0) (Nat.zero_le _) (fun j _ hj => by simpa using (unhide HF).2.1 j hj)]
      rfl
    refine ⟨p0, (unhide HF).1, rfl, by rw [hsm]; exact ChO.nil _ _, unhide HB1, fun h => ⟨by simpa using (unhide HF).2.2 h, ?_⟩⟩
    by_cases h0 : p0 = 0
    · exact .inl h0
    · exact .inr (by simpa using (unhide HF).2.1 (p0 - 1) (by omega))
  case round =>
    obtain ⟨p, hp, rfl, hch, hbel, hpp⟩ := hrel
    by_cases hlt : p < N
    · obtain ⟨hdp, hpz⟩ := hpp hlt
      have hNl := unhide HN
      have hNm := (unhide HLM).symm.trans hNl
      have hXl : (l.drop p).length = N - p := by rw [List.length_drop, hNl]
      have hYl : (m.drop p).length = N - p := by rw [List.length_drop, hNm]
      have HD : Hid (∃ a1 a2, (∀ w', (Instr.slice 22 (.slice a N cap) (some (.int .i64 p)) none none).run Tryz.prog w' = .ok (.slice a1 (N - p) (cap - p)) w') ∧ (∀ w', (Instr.slice 22 (.slice a' N cap') (some (.int .i64 p)) none none).run Tryz.prog w' = .ok (.slice a2 (N - p) (cap' - p)) w') ∧
          Calls Tryz.prog 82 #[.slice a1 (N - p) (cap - p), .slice a2 (N - p) (cap' - p)] wr.drew fun e w' => ∃ d : Nat, e = .returned (.int .i64 d) ∧ 1 ≤ d ∧ p + d ≤ N ∧ (∀ j, p ≤ j → j < p + d → l.getD j 0 ≠ m.getD j 0) ∧ (p + d < N → l.getD (p + d) 0 = m.getD (p + d) 0) ∧ Below wr.heap.size wr w') := hide (by
        have hbw := (unhide HB).below hbel
        have hbw' := (unhide HB').below hbel
        obtain ⟨a1, hs1, hx1⟩ := slice_lo Tryz.underlying22 size_u8 hbw p (by omega)
        obtain ⟨a2, hs2, hx2⟩ := slice_lo Tryz.underlying22 size_u8 hbw' p (by omega)
        have hc := differ_any a1 a2 _ _ (l.drop p) (m.drop p) wr.drew hx1 hx2 (by rw [hXl, hYl])
        rw [hNl] at hs1
        rw [hNm] at hs2
        rw [hXl, hYl] at hc
        refine ⟨a1, a2, hs1, hs2, hc.mono ?_⟩
        rintro e w' ⟨d, rfl, hf, n, rfl⟩
        have hgd : ∀ (z : List Int) j, (z.drop p).getD j 0 = z.getD (p + j) 0 := fun z j => by simp [List.getD]
        simp only [hgd] at hf
        have h1 : 1 ≤ d := by
          rcases Nat.eq_zero_or_pos d with h0 | h0
          · subst h0
            have := hf.2.2 (by omega)
            simp only [Nat.add_zero, beq_iff_eq] at this
            exact absurd this hdp
          · exact h0
        refine ⟨d, rfl, h1, by have := hf.1; omega, fun j h2 h3 => ?_, fun h2 => ?_, below_drewN ((Below.refl _ wr).drew) n⟩
        · have := hf.2.1 (j - p) (by omega)
          dsimp only at this
          rw [show p + (j - p) = j by omega] at this
          simpa using this
        · have := hf.2.2 (by omega)
          simpa using this)
      obtain ⟨a1, a2, hs1, hs2, hcd⟩ := unhide HD
      have HCD := hide hcd
      have HCH := hide hch
      have HBEL := hide hbel
      have hp0 : (0 : Int) ≤ (p : Int) := by omega
      have hp1 : (p : Int) ≤ (N : Int) := by omega
      clear HD hcd hch hbel hpp hdp
      go_wp2_with fail
      go_region_with (go_at_call 82; refine (unhide HCD).mono ?_; rintro e w2 ⟨d, rfl, hd1, hd2, hd3, hd4, hb2⟩)
      have hwp : IntKind.i64.wrap ((p : Int) + (d : Int)) = ((p + d : Nat) : Int) := by rw [IntKind.wrap_i64]; omega
      rw [hwp]
      have hBB := (unhide HBEL).trans (hb2.mono (unhide HBEL).size)
      have hch2 := (unhide HCH).below hb2
      have hXd : ((l.drop p).take d).length = d := by rw [List.length_take, hXl]; omega
      have hYd : ((m.drop p).take d).length = d := by rw [List.length_take, hYl]; omega
      obtain ⟨a3, hs3, hx3⟩ := slice_lohi Tryz.underlying22 size_u8 ((unhide HB).below hBB) p (p + d) (by omega) (by omega)
      obtain ⟨a4, hs4, hx4⟩ := slice_lohi Tryz.underlying22 size_u8 ((unhide HB').below hBB) p (p + d) (by omega) (by omega)
      rw [Nat.add_sub_cancel_left, hNl] at hs3
      rw [Nat.add_sub_cancel_left, hNm] at hs4
      rw [Nat.add_sub_cancel_left] at hx3 hx4
      have HRUN := hide (dfK_run (unhide HLM) hpz d hd1 (by omega) hd3)
      generalize hX : (l.drop p).take d = X at *
      generalize hY : (m.drop p).take d = Y at *
      have hch0 : chOf l m p d = ((p : Int), X, Y) := by unfold chOf; rw [hX, hY]
      rw [hch0] at HRUN
      have HC1 := hide (fun w' (hb : Below w2.heap.size w2 w') => (bclone_any a3 (cap - p) X w' (hx3.below hb)).mono (R' := fun e w'' => ∃ a' c', e = .returned (.slice a' d c') ∧ OwnV w'' w.heap.size (.slice a' d c') X ∧ Below w2.heap.size w2 w'' ∧ Below w'.heap.size w' w'') (fun e w'' ⟨a', c', he, ho, hb3⟩ => ⟨a', c', by rw [he, hXd], by rw [← hXd]; exact ho.low (Nat.le_trans hBB.size hb.size), hb.trans (hb3.mono hb.size), hb3⟩))
      have HC2 := hide (fun w' (hb : Below w2.heap.size w2 w') => (bclone_any a4 (cap' - p) Y w' (hx4.below hb)).mono (R' := fun e w'' => ∃ a' c', e = .returned (.slice a' d c') ∧ OwnV w'' w.heap.size (.slice a' d c') Y ∧ Below w2.heap.size w2 w'' ∧ Below w'.heap.size w' w'') (fun e w'' ⟨a', c', he, ho, hb3⟩ => ⟨a', c', by rw [he, hYd], by rw [← hYd]; exact ho.low (Nat.le_trans hBB.size hb.size), hb.trans (hb3.mono hb.size), hb3⟩))
      rw [hXd] at HC1
      rw [hYd] at HC2
      generalize hE : p + d = e at *
      obtain ⟨va, vc, rfl, _⟩ := hch2.chs (by have := df_few (unhide HLM) p (by omega); omega)
      have hln : (dfK l m p).length ≤ 100000 := by have := df_few (unhide HLM) p (by omega); omega
      have HCH2 := hide hch2
      have HBB := hide hBB
      have hB2 := hBB.size
      generalize hLL : dfK l m p = LL at *
      have hrw : ∀ s1 c1 s2 c2, rwC ((p : Int), (s1, c1, X), (s2, c2, Y)) = [.int .i64 p, .slice s1 d c1, .slice s2 d c2] := fun s1 c1 s2 c2 => by unfold rwC slV; rw [hXd, hYd]
      have HRW := hide hrw
      have HBY1 := hide hx3.1
      have HBY2 := hide hx4.1
      have he1 : (p : Int) ≤ (e : Int) := by omega
      have he2 : (e : Int) ≤ (N : Int) := by omega
      clear hx3 hx4 hch2 hBB HCH HCD hs1 hs2 hrw hwp hX hY hch0
      go_wp2_with fail
      go_region_law (first
        | (refine step_append_chg (by rfl) (.tmp 35) (.tmp 48) (by rfl) w.heap.size _ LL (by rfl) ((unhide HCH2).below (hbT.alloc hbT.size _)) wT.heap.size ((p : Int), (sA, cA, X), (sB, cB, Y)) (by rfl) (by rw [unhide HRW]; exact heap_alloc_new _ _) (hrd _) (by omega) (by have := hbT.size; simp; omega) ?_; intro g9 c9 w9 hch9 hb9 hk9)
        | (go_simp; with_reducible refine (unhide HC1 _ ?_).mono ?_; (exact (Below.refl _ w2).drew); rintro e3 w3 ⟨sA, cA, rfl, hoA, hbA, hbA3⟩; dsimp only)
        | (go_simp; with_reducible refine (unhide HC2 _ ?_).mono ?_; (exact hbA); rintro e4 wT ⟨sB, cB, rfl, hoB, hbT, hbB3⟩; dsimp only; have hrd : ∀ o, RdO (wT.alloc o) w.heap.size ((p : Int), (sA, cA, X), (sB, cB, Y)) := (fun o => (rdo_mk hXd hYd ⟨by omega, by omega⟩ (unhide HBY1) (unhide HBY2) (hoA.below hbB3) hoB).below ((Below.refl _ wT).alloc (Nat.le_refl _) o))))
      all_goals
        have hL9 : LL ++ [((p : Int), X, Y)] = dfK l m e := (unhide HRUN).symm
        have hch9' : ChO w9 w.heap.size (.slice (some ⟨g9, 0, none⟩) (LL.length + 1) c9) (dfK l m e) := by rw [← hL9]; exact hch9
        have hb9' := (unhide HBB).trans ((hbT.mono hB2).trans (((Below.refl _ wT).alloc (Nat.le_refl _) _).mono (Nat.le_trans hB2 hbT.size) |>.trans hb9))
        have HS : Hid (∃ a5 a6, (∀ w', (Instr.slice 22 (.slice a N cap) (some (.int .i64 e)) none none).run Tryz.prog w' = .ok (.slice a5 (N - e) (cap - e)) w') ∧ (∀ w', (Instr.slice 22 (.slice a' N cap') (some (.int .i64 e)) none none).run Tryz.prog w' = .ok (.slice a6 (N - e) (cap' - e)) w') ∧
            Calls Tryz.prog 81 #[.slice a5 (N - e) (cap - e), .slice a6 (N - e) (cap' - e)] w9.drew fun r w' => ∃ i : Nat, r = .returned (.int .i64 i) ∧ First (fun j => (l.getD (e + j) 0 != m.getD (e + j) 0)) (N - e) i ∧ Below w9.heap.size w9 w') := hide (by
          obtain ⟨a5, hs5, hx5⟩ := slice_lo Tryz.underlying22 size_u8 ((unhide HB).below hb9') e (by omega)
          obtain ⟨a6, hs6, hx6⟩ := slice_lo Tryz.underlying22 size_u8 ((unhide HB').below hb9') e (by omega)
          have hc := nSame_any a5 a6 _ _ (l.drop e) (m.drop e) w9.drew hx5 hx6
          rw [hNl] at hs5
          rw [hNm] at hs6
          rw [List.length_drop, List.length_drop, hNl, hNm, Nat.min_self] at hc
          have hgd : ∀ (z : List Int) j, (z.drop e).getD j 0 = z.getD (e + j) 0 := fun z j => by simp [List.getD]
          simp only [hgd] at hc
          exact ⟨a5, a6, hs5, hs6, hc.mono fun r w' ⟨i, h1, h2, h3⟩ => ⟨i, h1, h2, (Below.refl _ w9).drew.trans h3⟩⟩)
        obtain ⟨a5, a6, hs5, hs6, hcs⟩ := unhide HS
        have HCS := hide hcs
        have HCH9 := hide hch9'
        have HB9 := hide hb9'
        clear hcs hch9' hb9' hch9 hb9 hk9 hrd hoA hoB hbA hbA3 hbT hbB3 HC1 HC2 HCH2 HBB hL9 HRUN HS hs3 hs4
        have he0 : (0 : Int) ≤ (e : Int) := by omega
        go_wp2_with fail
        go_region_with (go_at_call 81; refine (unhide HCS).mono ?_; rintro r w10 ⟨q, rfl, hq, hb10⟩)
        have hwq : IntKind.i64.wrap ((e : Int) + (q : Int)) = ((e + q : Nat) : Int) := by rw [IntKind.wrap_i64]; have := hq.1; omega
        rw [hwq]
        have HQ := hide hq
        have HB10 := hide hb10
        have hq1 := hq.1
        clear hwq hq hb10
        obtain ⟨e2, he2q⟩ : ∃ e2, e + q = e2 := ⟨_, rfl⟩
        rw [he2q]
        have HEQ := hide he2q
        have hle2 : e2 ≤ N := by omega
        have hlt2 : p < e2 := by omega
        clear he2q
        go_simp
        go_wp2
        go_roundw
        case rel =>
          have he2q := unhide HEQ
          subst he2q
          refine ⟨e + q, by omega, rfl, ?_, (unhide HB9).trans ((unhide HB10).mono (unhide HB9).size), fun h => ⟨?_, .inr ?_⟩⟩
          · rw [dfK_same (i := e) (by omega) (fun j h1 h2 => by
              have := (unhide HQ).2.1 (j - e) (by omega)
              dsimp only at this
              rw [show e + (j - e) = j by omega] at this
              simpa using this)]
            exact (unhide HCH9).below (unhide HB10)
          · simpa using (unhide HQ).2.2 (by omega)
          · have h0 : q ≠ 0 := by
              intro h0
              subst h0
              have h1 := (unhide HQ).2.2 (by omega)
              have h2 := hd4 (by omega)
              simp only [Nat.add_zero] at h1
              rw [h2] at h1
              simp at h1
            have := (unhide HQ).2.1 (q - 1) (by omega)
            dsimp only at this
            rw [show e + (q - 1) = e + q - 1 by omega] at this
            simpa using this
        case measure => simp [intOf]; omega
    · obtain rfl : p = N := by omega
      obtain ⟨va, vc, rfl, _⟩ := hch.chs (by have := df_few (unhide HLM) l.length (Nat.le_refl _); rw [unhide HN] at this; omega)
      have HC := hide hch
      have HBL := hide hbel
      clear hch hbel hpp
      go_wp2
      go_ret2
      exact ⟨_, rfl, unhide HC, unhide HBL⟩
theorem diff_shape (a a' : Option Addr) (cap cap' : Nat) (l m : List Int) (w : World) (hb : Bs w a cap l) (hb' : Bs w a' cap' m) (hlm : l.length ≠ m.length) :
    Calls Tryz.prog 48 #[.slice a l.length cap, .slice a' m.length cap'] w fun e w' => e = .returned (.tuple #[.slice none 0 0, errV 3]) ∧ w = w' := by
  have h1 := hb.2.2.1
  have h2 := hb'.2.2.1
  clear hb hb'
  generalize l.length = n at *
  generalize m.length = k at *
  have h3 : ¬ ((n : Int) = (k : Int)) := by omega
  go_enter Tryz.func48, Tryz.ntmps48
  go_wp2
  go_ret2
  exact ⟨rfl, rfl⟩
theorem diff_full (a a' : Option Addr) (cap cap' n : Nat) (w : World) (h1 : n ≤ 140737488351232) (h : 6400 < n) :
    Calls Tryz.prog 48 #[.slice a n cap, .slice a' n cap'] w fun e w' => e = .returned (.tuple #[.slice none 0 0, errV 4]) ∧ w = w' := by
  go_enter Tryz.func48, Tryz.ntmps48
  go_wp2
  go_ret2
  exact ⟨rfl, rfl⟩
/-- What Diff says of any two lists. -/
theorem diff_any (a a' : Option Addr) (cap cap' : Nat) (l m : List Int) (w : World) (hb : Bs w a cap l) (hb' : Bs w a' cap' m) :
    Calls Tryz.prog 48 #[.slice a l.length cap, .slice a' m.length cap'] w fun e w' => ∃ v, e = .returned (.tuple #[v, errV (dfE l m)]) ∧ ChO w' w.heap.size v (dfO l m) ∧ Below w.heap.size w w' := by
  unfold dfO
  by_cases h1 : l.length = m.length
  · by_cases h2 : 6400 < l.length
    · have he : dfE l m = 4 := by unfold dfE; rw [if_neg (fun h => h h1), if_pos h2]
      rw [he, if_neg (by decide), ← h1]
      refine (diff_full a a' cap cap' l.length w hb.2.2.1 h2).mono ?_
      rintro e w' ⟨rfl, rfl⟩
      exact ⟨_, rfl, ChO.nil _ _, Below.refl _ _⟩
    · have he : dfE l m = 0 := by unfold dfE; rw [if_neg (fun h => h h1), if_neg h2]
      rw [he, if_pos rfl, ← h1]
      exact diff_yes a a' cap cap' l m w hb hb' h1 (by omega)
  · have he : dfE l m = 3 := by unfold dfE; rw [if_pos h1]
    rw [he, if_neg (by decide)]
    refine (diff_shape a a' cap cap' l m w hb hb' h1).mono ?_
    rintro e w' ⟨rfl, rfl⟩
    exact ⟨_, rfl, ChO.nil _ _, Below.refl _ _⟩
end Go.Proofs.YtopblhmbjdfebaaGreat
/-! As many bytes are told as differ; as plain lists. (Part of the proof of UndoBack.) -/
namespace Go.Proofs.YtopblhmbjdfebaaGreat
open Go.RowKit
set_option linter.unusedVariables false

/-- How many bytes changes tell. -/
def tldN (l : List (Int × List Int × List Int)) : Nat := (l.map fun c => c.2.2.length).sum
/-- How many of the first bytes differ. -/
def difN (a b : List Int) : Nat → Nat
  | 0 => 0
  | i + 1 => difN a b i + if a.getD i 0 = b.getD i 0 then 0 else 1
theorem tldN_append (l m : List (Int × List Int × List Int)) : tldN (l ++ m) = tldN l + tldN m := by unfold tldN; rw [List.map_append, List.sum_append]
theorem tldN_put (l : List (Int × List Int × List Int)) (i : Nat) (x y : Int) : tldN (chPut l i x y) = tldN l + 1 := by
  unfold chPut
  cases h : l.getLast? with
  | none =>
    have : l = [] := List.getLast?_eq_none_iff.1 h
    subst this
    rfl
  | some c =>
    dsimp only
    obtain ⟨ys, rfl⟩ := List.getLast?_eq_some_iff.1 h
    by_cases e : chEnd c = i
    · rw [if_pos e, List.dropLast_concat, tldN_append, tldN_append]
      simp [tldN]
      omega
    · rw [if_neg e, tldN_append]
      rfl
theorem dfK_told (a b : List Int) : ∀ i, tldN (dfK a b i) = difN a b i
  | 0 => rfl
  | i + 1 => by
    show tldN (if a.getD i 0 = b.getD i 0 then dfK a b i else chPut (dfK a b i) i (a.getD i 0) (b.getD i 0)) = difN a b i + if a.getD i 0 = b.getD i 0 then 0 else 1
    by_cases h : a.getD i 0 = b.getD i 0
    · rw [if_pos h, if_pos h, dfK_told a b i]; rfl
    · rw [if_neg h, if_neg h, tldN_put, dfK_told a b i]
/-- What each change tells is what is there, and what was. -/
theorem dfK_parts {a b : List Int} (hl : a.length = b.length) {c : (Int × List Int × List Int)} (hc : c ∈ dfK a b a.length) : ∃ p n : Nat, c.1 = (p : Int) ∧ 1 ≤ n ∧ p + n ≤ a.length ∧ c.2.1 = (a.drop p).take n ∧ c.2.2 = (b.drop p).take n ∧ c.2.1.length = n ∧ c.2.2.length = n := by
  obtain ⟨p, n, rfl, h1, h2, _⟩ := (df_dfK hl a.length (Nat.le_refl _)).all c hc
  refine ⟨p, n, rfl, h1, h2, rfl, rfl, ?_, ?_⟩
  · show ((a.drop p).take n).length = n
    rw [List.length_take, List.length_drop]; omega
  · show ((b.drop p).take n).length = n
    rw [List.length_take, List.length_drop]; omega
theorem tldN_take {l : List (Int × List Int × List Int)} {k : Nat} {c : (Int × List Int × List Int)} (h : l[k]? = some c) : tldN (l.take (k + 1)) = tldN (l.take k) + c.2.2.length := by
  rw [List.take_add_one, h, tldN_append]
  simp [tldN]
theorem difN_le (a b : List Int) : ∀ i, difN a b i ≤ i
  | 0 => Nat.le_refl _
  | i + 1 => by
    have := difN_le a b i
    show difN a b i + _ ≤ i + 1
    split <;> omega
end Go.Proofs.YtopblhmbjdfebaaGreat
