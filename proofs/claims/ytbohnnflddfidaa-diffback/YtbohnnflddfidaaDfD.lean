/-
  The contract of diff.Apply. (Part of the proofs over package diff.)
-/
import Derived.Test.YtbohnnflddfidaaDfC
namespace Go.Proofs.Ytbohnnflddfidaa
open Go.RowKit
set_option linter.unusedVariables false

/-- One change, made in a row of one's own, or refused. -/
theorem change_any (a a1 a2 : Option Addr) (cap c1 c2 : Nat) (L O N : List Int) (x : Int) (B : Nat) (w : World) (ho : OwnV w B (.slice a L.length cap) L) (hby : Byt L) (hLl : L.length ≤ 140737488351232) (h1 : Bs w a1 c1 O) (h2 : Bs w a2 c2 N) (hB : B ≤ w.heap.size) :
    Calls Try.prog 16 #[.slice a L.length cap, chV x a1 O.length c1 a2 N.length c2] w fun e w' => e = .returned (errV (stepE L (x, O, N))) ∧ (stepE L (x, O, N) = 0 → OwnV w' B (.slice a L.length cap) (stepL L (x, O, N))) ∧ Below B w w' := by
  have hb : Bs w a cap L := by
    obtain ⟨a', c', e, hbs⟩ := ho.bs hby hLl
    simp only [Value.slice.injEq, true_and] at e
    rw [e.1, e.2]
    exact hbs
  have bad : ∀ k : Int, k ≠ 0 → stepE L (x, O, N) = k → (Calls Try.prog 16 #[.slice a L.length cap, chV x a1 O.length c1 a2 N.length c2] w fun e w' => e = .returned (errV k) ∧ Below w.heap.size w w') → Calls Try.prog 16 #[.slice a L.length cap, chV x a1 O.length c1 a2 N.length c2] w fun e w' => e = .returned (errV (stepE L (x, O, N))) ∧ (stepE L (x, O, N) = 0 → OwnV w' B (.slice a L.length cap) (stepL L (x, O, N))) ∧ Below B w w' := fun k hk he h => h.mono fun e w' ⟨h3, h4⟩ => ⟨by rw [he]; exact h3, fun h0 => absurd (he.symm.trans h0) hk, h4.mono hB⟩
  by_cases hx : x < 0
  · exact bad 1 (by decide) (by unfold stepE; dsimp only; rw [if_pos (.inl hx)]) (change_neg a a1 a2 cap L.length c1 O.length c2 N.length x w hx)
  · obtain ⟨X, rfl⟩ := Int.eq_ofNat_of_zero_le (by omega : 0 ≤ x)
    by_cases hO : L.length - X < O.length
    · refine bad 1 (by decide) (by unfold stepE; dsimp only; rw [Int.toNat_natCast, if_pos (.inr hO)]) ?_
      rcases Nat.lt_or_ge L.length X with h | h
      · exact change_short_hi a a1 a2 cap c1 c2 L O N X w hb h1 h2 h hO
      · exact change_short_lo a a1 a2 cap c1 c2 L O N X w hb h1 h2 h hO
    · by_cases hN : O.length = N.length
      · by_cases hS : (L.drop X).take O.length = O
        · have he : stepE L ((X : Int), O, N) = 0 := by
            unfold stepE
            dsimp only
            rw [Int.toNat_natCast, if_neg (by omega), if_neg (fun h => h hN), if_neg (fun h => h hS)]
          rw [he, errV_zero]
          have hst : stepL L ((X : Int), O, N) = splice L X N := by unfold stepL; dsimp only; rw [Int.toNat_natCast]
          rw [hst]
          by_cases hne : N = []
          · rw [hne, splice_none, ← hne]
            have hfin : (Calls Try.prog 16 #[.slice a L.length cap, chV X a1 O.length c1 a2 N.length c2] w fun e w' => e = .returned .nilIface ∧ Below w.heap.size w w') → Calls Try.prog 16 #[.slice a L.length cap, chV X a1 O.length c1 a2 N.length c2] w fun e w' => e = .returned .nilIface ∧ ((0 : Int) = 0 → OwnV w' B (.slice a L.length cap) L) ∧ Below B w w' := fun h => h.mono fun e w' ⟨h3, h4⟩ => ⟨h3, fun _ => ho.below h4, h4.mono hB⟩
            refine hfin ?_
            rcases Nat.lt_or_ge L.length X with h | h
            · exact change_none_hi a a1 a2 cap c1 c2 L O N X w hb h1 h2 h hO hne hN hS
            · exact change_none_lo a a1 a2 cap c1 c2 L O N X w hb h1 h2 h hO hne hN hS
          · exact (change_some a a1 a2 cap c1 c2 L O N X B w ho hby hLl h1 h2 hB hO hne hN hS).mono fun e w' ⟨h3, h4, h5⟩ => ⟨h3, fun _ => h4, h5⟩
        · refine bad 6 (by decide) (by unfold stepE; dsimp only; rw [Int.toNat_natCast, if_neg (by omega), if_neg (fun h => h hN), if_pos hS]) ?_
          rcases Nat.lt_or_ge L.length X with h | h
          · refine absurd ?_ hS
            have h0 : O = [] := List.eq_nil_of_length_eq_zero (by omega)
            rw [h0]
            simp
          · exact change_state_lo a a1 a2 cap c1 c2 L O N X w hb h1 h2 h hO hN hS
      · refine bad 3 (by decide) (by unfold stepE; dsimp only; rw [Int.toNat_natCast, if_neg (by omega), if_pos hN]) ?_
        rcases Nat.lt_or_ge L.length X with h | h
        · exact change_unlike_hi a a1 a2 cap c1 c2 L O N X w hb h1 h2 h hO hN
        · exact change_unlike_lo a a1 a2 cap c1 c2 L O N X w hb h1 h2 h hO hN
/-! ### how a list of changes is made, one behind the other -/
theorem stepL_len {L : List Int} {c : (Int × List Int × List Int)} (h : stepE L c = 0) : (stepL L c).length = L.length := by
  unfold stepE at h
  by_cases h1 : c.1 < 0 ∨ L.length - c.1.toNat < c.2.1.length
  · rw [if_pos h1] at h; cases h
  · rw [if_neg h1] at h
    by_cases h2 : c.2.1.length ≠ c.2.2.length
    · rw [if_pos h2] at h; cases h
    · have h2' : c.2.1.length = c.2.2.length := Classical.byContradiction h2
      unfold stepL
      by_cases h3 : c.2.2 = []
      · rw [h3, splice_none]
      · exact length_splice (by
          have : 0 < c.2.2.length := by
            cases hc : c.2.2 with
            | nil => exact absurd hc h3
            | cons _ _ => simp
          omega)
/-- The fault of the first k changes, and what they come to. -/
def apEK (L : List Int) (l : List (Int × List Int × List Int)) (k : Nat) : Int := apE L (l.take k)
def apLK (L : List Int) (l : List (Int × List Int × List Int)) (k : Nat) : List Int := apL L (l.take k)
theorem take_snoc {l : List (Int × List Int × List Int)} {k : Nat} (h : k < l.length) : l.take (k + 1) = l.take k ++ [l.getD k (0, [], [])] := by
  rw [List.take_succ_eq_append_getElem h]
  congr 2
  simp [List.getD, h]
theorem apEK_step {L : List Int} {l : List (Int × List Int × List Int)} {k : Nat} (h : k < l.length) (h0 : apEK L l k = 0) : apEK L l (k + 1) = stepE (apLK L l k) (l.getD k (0, [], [])) := by
  unfold apEK apLK at *
  rw [take_snoc h, apE_append h0]
  unfold apE
  by_cases h1 : stepE (apL L (l.take k)) (l.getD k (0, [], [])) = 0
  · rw [if_pos h1, h1]; rfl
  · rw [if_neg h1]
theorem apLK_step {L : List Int} {l : List (Int × List Int × List Int)} {k : Nat} (h : k < l.length) : apLK L l (k + 1) = stepL (apLK L l k) (l.getD k (0, [], [])) := by
  unfold apLK
  rw [take_snoc h, apL_append]
  rfl
theorem apE_late {L : List Int} : ∀ {l m : List (Int × List Int × List Int)}, apE L l ≠ 0 → apE L (l ++ m) = apE L l := by
  intro l
  induction l generalizing L with
  | nil => intro m h; exact absurd rfl h
  | cons c l ih =>
    intro m h
    unfold apE at h
    show (if stepE L c = 0 then apE (stepL L c) (l ++ m) else stepE L c) = (if stepE L c = 0 then apE (stepL L c) l else stepE L c)
    by_cases h1 : stepE L c = 0
    · rw [if_pos h1] at h
      rw [if_pos h1, if_pos h1]
      exact ih h
    · rw [if_neg h1, if_neg h1]
theorem apEK_late {L : List Int} {l : List (Int × List Int × List Int)} {k : Nat} (h : apEK L l k ≠ 0) : apE L l = apEK L l k := by
  unfold apEK at *
  have := apE_late (m := l.drop k) h
  rw [List.take_append_drop] at this
  exact this
theorem apLK_len {L : List Int} {l : List (Int × List Int × List Int)} : ∀ {k : Nat}, k ≤ l.length → apEK L l k = 0 → (apLK L l k).length = L.length
  | 0, _, _ => rfl
  | k + 1, hk, h0 => by
    have h1 : apEK L l k = 0 := Classical.byContradiction fun hne => by
      have hl := apE_late (L := L) (l := l.take k) (m := [l.getD k (0, [], [])]) hne
      unfold apEK at h0
      rw [take_snoc (by omega)] at h0
      exact hne (hl.symm.trans h0)
    rw [apLK_step (by omega), stepL_len (by rw [← apEK_step (by omega) h1]; exact h0)]
    exact apLK_len (by omega) h1
end Go.Proofs.Ytbohnnflddfidaa
