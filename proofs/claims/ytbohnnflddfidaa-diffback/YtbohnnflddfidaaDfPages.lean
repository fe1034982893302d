/-
  The pages in which something changes, as plain lists. (Part of the proofs over package diff.)
-/
import Derived.Test.YtbohnnflddfidaaDfPlain
namespace Go.Proofs.Ytbohnnflddfidaa
open Go.RowKit
set_option linter.unusedVariables false

/-- What is wrong with changes of which the pages are asked. -/
def pgE : List (Int × List Int × List Int) → Int
  | [] => 0
  | c :: l => if c.1 < 0 ∨ 6400 ≤ c.1 ∨ 6400 - c.1 < c.2.2.length then 1 else pgE l
/-- Does something change in a page? -/
def touch (l : List (Int × List Int × List Int)) (j : Nat) : Bool := l.any (fun c => (List.range c.2.2.length).any (fun k => (c.1.toNat + k) / 32 == j))
def pgL (l : List (Int × List Int × List Int)) : List Nat := (List.range 200).filter (touch l)
theorem touch_iff {l : List (Int × List Int × List Int)} {j : Nat} : touch l j = true ↔ ∃ c ∈ l, ∃ k : Nat, k < c.2.2.length ∧ (c.1.toNat + k) / 32 = j := by
  unfold touch
  rw [List.any_eq_true]
  constructor
  · rintro ⟨c, hc, h⟩
    obtain ⟨k, hk, h⟩ := List.any_eq_true.1 h
    exact ⟨c, hc, k, List.mem_range.1 hk, by simpa using h⟩
  · rintro ⟨c, hc, k, hk, h⟩
    exact ⟨c, hc, List.any_eq_true.2 ⟨k, List.mem_range.2 hk, by simpa using h⟩⟩
theorem pgE_ok : ∀ {l : List (Int × List Int × List Int)}, (∀ c ∈ l, 0 ≤ c.1 ∧ c.1 < 6400 ∧ c.1 + c.2.2.length ≤ 6400) → pgE l = 0
  | [], _ => rfl
  | c :: l, h => by
    have h1 := h c (by simp)
    unfold pgE
    rw [if_neg (by omega)]
    exact pgE_ok (fun d hd => h d (by simp [hd]))
theorem df_pages {a b : List Int} (hl : a.length = b.length) (h64 : a.length ≤ 6400) : pgE (dfK a b a.length) = 0 ∧ ∀ j : Nat, 32 * j < a.length → (touch (dfK a b a.length) j = true ↔ (a.drop (32 * j)).take 32 ≠ (b.drop (32 * j)).take 32) := by
  have h := df_dfK hl a.length (Nat.le_refl _)
  have hlen : ∀ p n : Nat, p + n ≤ a.length → (chOf a b p n).2.2.length = n := fun p n hpn => by
    show ((b.drop p).take n).length = n
    rw [List.length_take, List.length_drop]; omega
  refine ⟨pgE_ok (fun c hc => ?_), fun j hj => ?_⟩
  · obtain ⟨p, n, rfl, h2, h3, h4⟩ := h.all c hc
    rw [hlen p n h3]
    show 0 ≤ (p : Int) ∧ (p : Int) < 6400 ∧ (p : Int) + n ≤ 6400
    omega
  · rw [touch_iff]
    constructor
    · rintro ⟨c, hc, k, hk, he⟩
      obtain ⟨p, n, rfl, h2, h3, h4⟩ := h.all c hc
      rw [hlen p n h3] at hk
      have hpt : (chOf a b p n).1.toNat = p := Int.toNat_natCast p
      rw [hpt] at he
      intro e
      have hne := h4 (p + k) (by omega) (by omega)
      obtain ⟨i, hi⟩ : ∃ i, p + k = 32 * j + i := ⟨p + k - 32 * j, by omega⟩
      have hi32 : i < 32 := by omega
      have e2 := congrArg (fun l => l.getD i 0) e
      simp only [List.getD, List.getElem?_take, if_pos hi32, List.getElem?_drop] at e2
      rw [hi] at hne
      exact hne e2
    · intro hne
      refine Classical.byContradiction fun hno => hne ?_
      apply ext_getD
      · rw [List.length_take, List.length_take, List.length_drop, List.length_drop, hl]
      · intro i hi
        rw [List.length_take, List.length_drop] at hi
        have hi32 : i < 32 := by omega
        have hiN : 32 * j + i < a.length := by omega
        simp only [List.getD, List.getElem?_take, if_pos hi32, List.getElem?_drop]
        refine Classical.byContradiction fun hd => hno ?_
        obtain ⟨c, hc, h5, h6⟩ := h.cov (32 * j + i) hiN hd
        obtain ⟨p, n, rfl, h2, h3, h4⟩ := h.all c hc
        have e1 : (chOf a b p n).1 = (p : Int) := rfl
        rw [chOf_end h3] at h6
        rw [e1] at h5
        refine ⟨chOf a b p n, hc, 32 * j + i - p, by rw [hlen p n h3]; omega, ?_⟩
        have hpt : (chOf a b p n).1.toNat = p := Int.toNat_natCast p
        rw [hpt]
        omega
end Go.Proofs.Ytbohnnflddfidaa
