/-
  Plain facts on numbers as bytes. (Part of the proofs over package num.)
-/
import Derived.Test.YtllpeknpplpgeaaGreatDoorNumA
import Derived.Test.YtllpeknpplpgeaaGreatDoorBase
namespace Go.Proofs.YtllpeknpplpgeaaGreatDoor
open Go.RowKit
set_option linter.unusedVariables false

theorem putK_in (l : List Int) (p : Nat) (n : Int) : ∀ k j, j < k → p + k ≤ l.length → (putK l p n k).getD (p + j) 0 = n / 2 ^ (8 * j) % 256 := by
  intro k
  induction k with
  | zero => intro j hj; omega
  | succ k ih =>
    intro j hj hk
    have hlen := length_putK l p n k
    by_cases h : j = k
    · subst h
      simp only [putK, List.getD]
      rw [List.getElem?_set_self (by omega)]
      rfl
    · have h1 := ih j (by omega) (by omega)
      rw [← h1]
      simp [putK, List.getD]
      rw [List.getElem?_set_ne (by omega)]

theorem putK_out (l : List Int) (p : Nat) (n : Int) : ∀ k j, (j < p ∨ p + k ≤ j) → (putK l p n k).getD j 0 = l.getD j 0 := by
  intro k
  induction k with
  | zero => intro j _; rfl
  | succ k ih =>
    intro j hj
    rw [← ih j (by omega)]
    simp [putK, List.getD]
    rw [List.getElem?_set_ne (by omega)]

theorem mod_step (n : Int) (h : 0 ≤ n) (k : Nat) : n % 256 ^ (k + 1) = n % 256 ^ k + n / 2 ^ (8 * k) % 256 * 256 ^ k := by
  obtain ⟨N, rfl⟩ := Int.eq_ofNat_of_zero_le h
  have h256 : (2 : Nat) ^ (8 * k) = 256 ^ k := by rw [Nat.pow_mul]
  have h1 := Nat.mod_mul (x := N) (a := 256 ^ k) (b := 256)
  have h2 : N % 256 ^ (k + 1) = N % 256 ^ k + N / 2 ^ (8 * k) % 256 * 256 ^ k := by
    rw [Nat.pow_succ, h1, h256, Nat.mul_comm (256 ^ k)]
  have h3 : ((N % 256 ^ (k + 1) : Nat) : Int) = ((N % 256 ^ k + N / 2 ^ (8 * k) % 256 * 256 ^ k : Nat) : Int) := congrArg Nat.cast h2
  rw [Int.natCast_emod, Int.natCast_pow, Int.natCast_add, Int.natCast_mul, Int.natCast_emod, Int.natCast_emod, Int.natCast_ediv, Int.natCast_pow, Int.natCast_pow] at h3
  exact h3

theorem getV_putK (l : List Int) (p : Nat) (n : Int) (s : Nat) (hn : 0 ≤ n) (h : p + s ≤ l.length) : ∀ k, k ≤ s → getV (putK l p n s) p k = n % 256 ^ k := by
  intro k
  induction k with
  | zero => intro _; simp [getV, numOf]
  | succ k ih =>
    intro hk
    rw [getV_succ _ p k (by rw [length_putK]; omega), ih (by omega), putK_in l p n s k (by omega) h, mod_step n hn k]

theorem most_lt (s : Nat) (n : Int) (h1 : 1 ≤ s) (h2 : s ≤ 4) (h : n ≤ most s) : n < 256 ^ s := by
  rcases (show s = 1 ∨ s = 2 ∨ s = 3 ∨ s = 4 from by omega) with rfl | rfl | rfl | rfl <;> simp [most] at h ⊢ <;> omega

theorem getV_putK_self (l : List Int) (p : Nat) (n : Int) (s : Nat) (h1 : 1 ≤ s) (h2 : s ≤ 4) (hn : 0 ≤ n) (hm : n ≤ most s) (h : p + s ≤ l.length) : getV (putK l p n s) p s = n := by
  rw [getV_putK l p n s hn h s (Nat.le_refl _)]
  exact Int.emod_eq_of_lt hn (most_lt s n h1 h2 hm)

theorem ext_getD {l m : List Int} (h : l.length = m.length) (h2 : ∀ i, i < l.length → l.getD i 0 = m.getD i 0) : l = m := by
  apply List.ext_getElem h
  intro i hi hm
  have := h2 i hi
  simpa [List.getD, hi, hm] using this

theorem putK_take (l : List Int) (p : Nat) (n : Int) (k : Nat) : (putK l p n k).take p = l.take p := by
  apply ext_getD (by simp [length_putK])
  intro i hi
  have hi' : i < p := by simp at hi; omega
  have := putK_out l p n k i (Or.inl hi')
  simpa [List.getD, hi'] using this

theorem putK_drop (l : List Int) (p : Nat) (n : Int) (k : Nat) : (putK l p n k).drop (p + k) = l.drop (p + k) := by
  apply ext_getD (by simp [length_putK])
  intro i hi
  have := putK_out l p n k (p + k + i) (Or.inr (by omega))
  simpa [List.getD] using this
end Go.Proofs.YtllpeknpplpgeaaGreatDoor
