/-
  Whether two images are the same of which one byte behind the head differs; as plain lists. (Part of the proof of CheckSame.)
-/
import Derived.Test.YtifmemombecoaaaGreatDoorJChp
namespace Go.Proofs.YtifmemombecoaaaGreatDoor
open Go.RowKit
set_option linter.unusedVariables false
section
variable {b : List Int}
theorem sameE_fine {c : List Int} (hf : Fine b) (hc : Fine c) : sameE b c = 0 := by
 unfold sameE
 rw [if_neg (by rw [hf.len0]; simp), if_neg (by rw [hc.len0]; simp), if_pos ⟨hf.ok, hc.ok⟩]
theorem sameR_self (hf : Fine b) : sameR (rootsK b 8) (rootsK b 8) = true := (sameR_iff (apart_roots hf.ok) (apart_roots hf.ok)).2 ⟨rfl, fun r hr => hr⟩
theorem same_self (hf : Fine b) : sameB b b = true := by
 unfold sameB
 rw [sameE_fine hf hf, sameO_iff.2 (fun _ _ => rfl), sameR_self hf]
 rfl
def hadB (b : List Int) (x : Int) : Bool := (entsK b 40).any (fun e => decide (e.2.1 <= x) && decide (x < e.2.1 + e.2.2.1))
theorem hadB_iff {x : Int} : hadB b x = true ↔ ∃ h : Int, 1 <= h /\ h <= 40 /\ tagAt b h ≠ 0 /\ (entOf b h).2.1 <= x /\ x < (entOf b h).2.1 + (entOf b h).2.2.1 := by
 unfold hadB
 rw [List.any_eq_true]
 constructor
 ·rintro ⟨e, he, hx⟩
  obtain ⟨j, h1, h2, rfl⟩ := mem_entsP.1 he
  rw [Bool.and_eq_true, decide_eq_true_iff, decide_eq_true_iff] at hx
  exact ⟨(j : Int) + 1, by omega, by omega, h2, hx.1, hx.2⟩
 ·rintro ⟨h, h1, h2, ht, hx1, hx2⟩
  refine ⟨entOf b h, mem_entsP.2 ⟨(h - 1).toNat, by omega, ?_⟩, ?_⟩
  ·rw [show (((h - 1).toNat : Nat) : Int) + 1 = h by omega]
   exact ⟨ht, rfl⟩
  ·rw [Bool.and_eq_true, decide_eq_true_iff, decide_eq_true_iff]
   exact ⟨hx1, hx2⟩
theorem same_byte (hf : Fine b) {x : Nat} {v : Int} (hx : 288 <= x) (hx2 : x < b.length) (hv : b.getD x 0 ≠ v) : Fine (b.set x v) /\ sameE b (b.set x v) = 0 /\ sameB b (b.set x v) = !hadB b x := by
 have hb := hf.len
 have hlen : (b.set x v).length = b.length := List.length_set
 have hne : ∀ j, j ≠ x -> (b.set x v).getD j 0 = b.getD j 0 := fun j hj => by
  rw [List.getD, List.getD, List.getElem?_set, if_neg (fun e => hj e.symm)]
 have heq : (b.set x v).getD x 0 = v := by simp [List.getD, hx2]
 have hs : ∀ j, j < 288 -> (b.set x v).getD j 0 = b.getD j 0 := fun j hj => hne j (by omega)
 have hc : Fine (b.set x v) := ⟨by rw [hlen]; exact hb, head_fine hlen hb.1 hs hf.ok⟩
 have he := head_ents hlen hb.1 hs
 have hE := sameE_fine hf hc
 refine ⟨hc, hE, ?_⟩
 unfold sameB
 rw [hE, head_rootsK hlen hb.1 hs, sameR_self hf, Bool.and_true]
 show sameO b (b.set x v) 40 = !hadB b x
 cases hh : hadB b x with
 | true =>
  obtain ⟨h, h1, h2, ht, q1, q2⟩ := hadB_iff.1 hh
  have hen := hf.ent h1 h2 ht
  cases ho : sameO b (b.set x v) 40 with
  | false => rfl
  | true =>
   have hob := sameO_iff.1 ho (h - 1).toNat (by omega)
   rw [show (((h - 1).toNat : Nat) : Int) + 1 = h by omega] at hob
   obtain ⟨e1, e2⟩ := he h h1 h2
   unfold objOf at hob
   rw [e1, if_neg ht, if_neg ht] at hob
   unfold objE at hob
   rw [e2] at hob
   have hp := congrArg (fun y : Int × List Int => y.2.getD (x - (entOf b h).2.1.toNat) 0) hob
   unfold partL at hp
   dsimp only at hp
   have hj2 : x - (entOf b h).2.1.toNat < (entOf b h).2.2.1.toNat := by omega
   simp only [List.getD, List.getElem?_take, if_pos hj2, List.getElem?_drop] at hp
   rw [show (entOf b h).2.1.toNat + (x - (entOf b h).2.1.toNat) = x by omega] at hp
   exact absurd (hp.trans heq) hv
 | false =>
  refine sameO_iff.2 (fun j hj => ?_)
  obtain ⟨e1, e2⟩ := he ((j : Int) + 1) (by omega) (by omega)
  refine (obj_same hlen e1 e2 (fun hkt i hi1 hi2 => hne i (fun e => ?_))).symm
  subst e
  have hen := hf.ent (by omega) (by omega) hkt
  have : hadB b i = true := hadB_iff.2 ⟨(j : Int) + 1, by omega, by omega, hkt, by omega, by omega⟩
  rw [hh] at this
  cases this
theorem mend_fine (h1 : 288 <= b.length) (h2 : b.length <= 6400) : Fine (mendL b) := ⟨by rw [mendL_len h1]; exact ⟨h1, h2⟩, mend_faults h1⟩
end
end Go.Proofs.YtifmemombecoaaaGreatDoor
