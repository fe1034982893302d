/-
  Parts of the proofs, joined by program.
-/
import Derived.Test.YtecodmiendedfaaGreatDoorJMvp
import Derived.Test.YtecodmiendedfaaGreatDoorJWy
import Derived.Test.YtecodmiendedfaaGreatDoorJRtp
import Derived.Test.YtecodmiendedfaaGreatDoorJHal
import Derived.Test.YtecodmiendedfaaGreatDoorJPgp
namespace Go.Proofs.YtecodmiendedfaaGreatDoor
open Go.RowKit
set_option linter.unusedVariables false
abbrev OpP := Int × Int × Int × Int × ByteArray × List Int
section
variable {L : List Int}
theorem wrB_fine (hf : Fine L) (h x : Int) (l : List Int) : Fine (wrB L h x l) /\ (wrB L h x l).length = L.length := by
 unfold wrB
 by_cases h0 : pcE L h x l.length = 0
 ·rw [if_pos h0]
  obtain ⟨c0, x0, _, x2⟩ := pcE_zero.1 h0
  have hh := hndB_iff.1 (chkE_zero.1 c0).2.1
  obtain ⟨X, rfl⟩ := Int.eq_ofNat_of_zero_le x0
  rw [Int.toNat_natCast]
  obtain ⟨q1, q2, _⟩ := write_keep hf hh.1 hh.2 (chkE_zero.1 c0).2.2 (p := X) (r := l) x2
  exact ⟨q1, q2⟩
 ·rw [if_neg h0]; exact ⟨hf, rfl⟩
theorem dropL_len (hf : Fine L) {h : Int} (hc : chkE L h = 0) : (dropL L h).length = L.length := by
 have hh := hndB_iff.1 (chkE_zero.1 hc).2.1
 have hp := plc_le hh.1 hh.2
 have hl := hf.len
 unfold dropL
 rw [if_pos hc, length_splice (by rw [length_zerosB]; omega)]
theorem frB_fine (hf : Fine L) (h : Int) : Fine (frB L h) /\ (frB L h).length = L.length := by
 unfold frB
 by_cases h0 : frE L h = 0
 ·rw [if_pos h0]; exact ⟨drop_ok hf h0, dropL_len hf (frE_zero.1 h0).1⟩
 ·rw [if_neg h0]; exact ⟨hf, rfl⟩
theorem al_len (hf : Fine L) (n t : Int) : (alB L n t).length = L.length := by
 by_cases h0 : alE L n t = 0
 ·obtain ⟨x, N, hk⟩ := al_ok hf h0
  exact (hk.keep hf h0).2.1
 ·unfold alB; rw [if_neg h0]
theorem seF_fine (hf : Fine L) (s : ByteArray) (x : Int) : Fine (seF L s x) /\ (seF L s x).length = L.length := by
 unfold seF
 by_cases h0 : seE L s x = 0
 ·rw [if_pos h0]; exact ⟨(se_fine hf h0).1, (se_row hf h0).len⟩
 ·rw [if_neg h0]; exact ⟨hf, rfl⟩
theorem unF_fine (hf : Fine L) (s : ByteArray) : Fine (unF L s) /\ (unF L s).length = L.length := by
 unfold unF
 by_cases h0 : unE L s = 0
 ·rw [if_pos h0]; exact ⟨un_fine hf h0, (un_row hf h0).len⟩
 ·rw [if_neg h0]; exact ⟨hf, rfl⟩
def mvT (L : List Int) : List Int := (mvS L).getD L
theorem mvT_fine (hf : Fine L) : Fine (mvT L) /\ (mvT L).length = L.length := by
 unfold mvT
 cases h : mvS L with
 | none => exact ⟨hf, rfl⟩
 | some c =>
  have := (step_as hf h).1
  exact ⟨this.fine, this.len⟩
def swT (L : List Int) : List Int := swL L (ddK L 40)
theorem swT_fine (hf : Fine L) : Fine (swT L) /\ (swT L).length = L.length := ⟨(sweep_swept hf).fine, (sweep_swept hf).len⟩
def doB (L : List Int) (o : OpP) : List Int :=
 if o.1 = 1 then alB L o.2.2.2.1 o.2.2.1
 else if o.1 = 2 then frB L o.2.1
 else if o.1 = 3 then wrB L o.2.1 o.2.2.1 o.2.2.2.2.2
 else if o.1 = 4 then seF L o.2.2.2.2.1 o.2.1
 else if o.1 = 5 then unF L o.2.2.2.2.1
 else if o.1 = 8 then mvT L
 else if o.1 = 9 then swT L
 else L
theorem doB_fine (hf : Fine L) (o : OpP) : Fine (doB L o) /\ (doB L o).length = L.length := by
 unfold doB
 split
 ·exact ⟨alB_fine hf _ _, al_len hf _ _⟩
 ·split
  ·exact frB_fine hf _
  ·split
   ·exact wrB_fine hf _ _ _
   ·split
    ·exact seF_fine hf _ _
    ·split
     ·exact unF_fine hf _
     ·split
      ·exact mvT_fine hf
      ·split
       ·exact swT_fine hf
       ·exact ⟨hf, rfl⟩
end
section
variable {L : List Int} {N n : Nat} {t : Int}
end
structure Ps where
 D : DS
 s : Int
 L : List Int
 K : List Int
def opE (L : List Int) (o : OpP) : Int :=
 if o.1 = 1 then alE L o.2.2.2.1 o.2.2.1
 else if o.1 = 2 then frE L o.2.1
 else if o.1 = 3 then pcE L o.2.1 o.2.2.1 o.2.2.2.2.2.length
 else if o.1 = 4 then seE L o.2.2.2.2.1 o.2.1
 else if o.1 = 5 then unE L o.2.2.2.2.1
 else if o.1 = 8 then 0
 else if o.1 = 9 then 0
 else 1
section
variable {m n : Nat} {p : Ps} {N : List Int}
end
section
variable {m n : Nat} {p : Ps} {N : List Int} {o : OpP}
end
section
variable {m n : Nat}
end
section
variable {m n : Nat}
end
end Go.Proofs.YtecodmiendedfaaGreatDoor
