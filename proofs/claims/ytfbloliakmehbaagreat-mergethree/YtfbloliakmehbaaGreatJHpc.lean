/-
  What Read and Write answer, as plain lists. (Part of the proofs over package heap.)
-/
import Derived.Test.YtfbloliakmehbaaGreatJChp
namespace Go.Proofs.YtfbloliakmehbaaGreat
open Go.RowKit
set_option linter.unusedVariables false

/-- Why n bytes of an object, from x on, are not there. -/
def pcE (L : List Int) (h x n : Int) : Int := if chkE L h ≠ 0 then chkE L h else if x < 0 ∨ n < 0 ∨ (entOf L h).2.2.1 < x + n then 3 else 0
theorem pcE_zero {L : List Int} {h x n : Int} : pcE L h x n = 0 ↔ chkE L h = 0 ∧ 0 ≤ x ∧ 0 ≤ n ∧ x + n ≤ (entOf L h).2.2.1 := by
  unfold pcE
  by_cases h0 : chkE L h = 0
  · rw [if_neg (fun h => h h0)]
    by_cases h1 : x < 0 ∨ n < 0 ∨ (entOf L h).2.2.1 < x + n
    · rw [if_pos h1]
      exact ⟨fun h => absurd h (by decide), fun h => by omega⟩
    · rw [if_neg h1]
      exact ⟨fun _ => ⟨h0, by omega⟩, fun _ => rfl⟩
  · rw [if_pos h0]
    exact ⟨fun h => absurd h h0, fun h => absurd h.1 h0⟩
/-- The bytes that Read gives. -/
def rdL (L : List Int) (h x n : Int) : List Int := if pcE L h x n = 0 then (L.drop ((entOf L h).2.1.toNat + x.toNat)).take n.toNat else []
theorem rdL_byt {L : List Int} (hb : Byt L) (h x n : Int) : Byt (rdL L h x n) := by
  unfold rdL
  by_cases h0 : pcE L h x n = 0
  · rw [if_pos h0]; exact hb.sub _ _
  · rw [if_neg h0]; exact fun z hz => absurd hz List.not_mem_nil
/-- The image behind a Write. -/
def wrB (L : List Int) (h x : Int) (l : List Int) : List Int := if pcE L h x l.length = 0 then splice L ((entOf L h).2.1.toNat + x.toNat) l else L
end Go.Proofs.YtfbloliakmehbaaGreat
