/-
  What an op of a script does with an image, as plain lists. (Part of the proofs over scripts.)
-/
import Derived.Test.YtfbloliakmehbaaGreatDoorJMvp
import Derived.Test.YtfbloliakmehbaaGreatDoorJWy
import Derived.Test.YtfbloliakmehbaaGreatDoorJRtp
import Derived.Test.YtfbloliakmehbaaGreatDoorJHal
namespace Go.Proofs.YtfbloliakmehbaaGreatDoor
open Go.RowKit
set_option linter.unusedVariables false
abbrev OpP := Int × Int × Int × Int × ByteArray × List Int
section
variable {L : List Int}
theorem Row1.len_eq {b c r : List Int} {i : Nat} (t : Row1 b c i r) : c.length = b.length := t.len
theorem wrB_fine (hf : Fine L) (h x : Int) (l : List Int) : Fine (wrB L h x l) /\ (wrB L h x l).length = L.length := by
 unfold wrB
 by_cases h0 : pcE L h x l.length = 0
 ·rw [if_pos h0]
  obtain ⟨c0, x0, _, x2⟩ := pcE_zero.1 h0
  have hh := hndB_iff.1 (chkE_zero.1 c0).2.1
  obtain ⟨X, rfl⟩ := Int.eq_ofNat_of_zero_le x0
  rw [Int.toNat_natCast]
  obtain ⟨q1, q2, _⟩ := write_keep hf hh.1 hh.2 (chkE_zero.1 c0).2.2 (p := X) (r := l) x2
  exact ⟨q1, q2⟩
 ·rw [if_neg h0]; exact ⟨hf, rfl⟩
theorem wrB_byt (hb : Byt L) (h x : Int) {l : List Int} (hl : Byt l) : Byt (wrB L h x l) := by
 unfold wrB
 by_cases h0 : pcE L h x l.length = 0
 ·rw [if_pos h0]; exact byt_splice hb hl
 ·rw [if_neg h0]; exact hb
theorem dropL_len (hf : Fine L) {h : Int} (hc : chkE L h = 0) : (dropL L h).length = L.length := by
 have hh := hndB_iff.1 (chkE_zero.1 hc).2.1
 have hp := plc_le hh.1 hh.2
 have hl := hf.len
 unfold dropL
 rw [if_pos hc, length_splice (by rw [length_zerosB]; omega)]
theorem frB_fine (hf : Fine L) (h : Int) : Fine (frB L h) /\ (frB L h).length = L.length := by
 unfold frB
 by_cases h0 : frE L h = 0
 ·rw [if_pos h0]; exact ⟨drop_ok hf h0, dropL_len hf (frE_zero.1 h0).1⟩
 ·rw [if_neg h0]; exact ⟨hf, rfl⟩
theorem frB_byt (hb : Byt L) (h : Int) : Byt (frB L h) := by
 unfold frB
 by_cases h0 : frE L h = 0
 ·rw [if_pos h0]; exact byt_drop hb h
 ·rw [if_neg h0]; exact hb
theorem al_len (hf : Fine L) (n t : Int) : (alB L n t).length = L.length := by
 by_cases h0 : alE L n t = 0
 ·obtain ⟨x, N, hk⟩ := al_ok hf h0
  exact (hk.keep hf h0).2.1
 ·unfold alB; rw [if_neg h0]
theorem seF_fine (hf : Fine L) (s : ByteArray) (x : Int) : Fine (seF L s x) /\ (seF L s x).length = L.length := by
 unfold seF
 by_cases h0 : seE L s x = 0
 ·rw [if_pos h0]; exact ⟨(se_fine hf h0).1, (se_row hf h0).len⟩
 ·rw [if_neg h0]; exact ⟨hf, rfl⟩
theorem seF_byt (hb : Byt L) (s : ByteArray) (x : Int) : Byt (seF L s x) := by
 unfold seF
 by_cases h0 : seE L s x = 0
 ·rw [if_pos h0]; exact se_byt hb s x
 ·rw [if_neg h0]; exact hb
theorem unF_fine (hf : Fine L) (s : ByteArray) : Fine (unF L s) /\ (unF L s).length = L.length := by
 unfold unF
 by_cases h0 : unE L s = 0
 ·rw [if_pos h0]; exact ⟨un_fine hf h0, (un_row hf h0).len⟩
 ·rw [if_neg h0]; exact ⟨hf, rfl⟩
theorem unF_byt (hb : Byt L) (s : ByteArray) : Byt (unF L s) := by
 unfold unF
 by_cases h0 : unE L s = 0
 ·rw [if_pos h0]; exact un_byt hb s
 ·rw [if_neg h0]; exact hb
def mvT (L : List Int) : List Int := (mvS L).getD L
theorem mvT_fine (hf : Fine L) : Fine (mvT L) /\ (mvT L).length = L.length := by
 unfold mvT
 cases h : mvS L with
 | none => exact ⟨hf, rfl⟩
 | some c =>
  have := (step_as hf h).1
  exact ⟨this.fine, this.len⟩
theorem mvT_byt (hb : Byt L) : Byt (mvT L) := by
 unfold mvT mvS
 cases h : mvOn 288 (srtE L) with
 | none => exact hb
 | some x => exact mv_byt hb _ _
def swT (L : List Int) : List Int := swL L (ddK L 40)
theorem swL_byt : ∀ (D : List Int) {b : List Int}, Byt b -> Byt (swL b D)
 | [], b, hb => hb
 | h :: D, b, hb => swL_byt D (byt_drop hb h)
theorem swT_fine (hf : Fine L) : Fine (swT L) /\ (swT L).length = L.length := ⟨(sweep_swept hf).fine, (sweep_swept hf).len⟩
def doB (L : List Int) (o : OpP) : List Int :=
 if o.1 = 1 then alB L o.2.2.2.1 o.2.2.1
 else if o.1 = 2 then frB L o.2.1
 else if o.1 = 3 then wrB L o.2.1 o.2.2.1 o.2.2.2.2.2
 else if o.1 = 4 then seF L o.2.2.2.2.1 o.2.1
 else if o.1 = 5 then unF L o.2.2.2.2.1
 else if o.1 = 8 then mvT L
 else if o.1 = 9 then swT L
 else L
theorem doB_fine (hf : Fine L) (o : OpP) : Fine (doB L o) /\ (doB L o).length = L.length := by
 unfold doB
 split
 ·exact ⟨alB_fine hf _ _, al_len hf _ _⟩
 ·split
  ·exact frB_fine hf _
  ·split
   ·exact wrB_fine hf _ _ _
   ·split
    ·exact seF_fine hf _ _
    ·split
     ·exact unF_fine hf _
     ·split
      ·exact mvT_fine hf
      ·split
       ·exact swT_fine hf
       ·exact ⟨hf, rfl⟩
theorem doB_byt (hb : Byt L) (o : OpP) (ho : Byt o.2.2.2.2.2) : Byt (doB L o) := by
 unfold doB
 split
 ·exact alB_byt hb _ _
 ·split
  ·exact frB_byt hb _
  ·split
   ·exact wrB_byt hb _ _ ho
   ·split
    ·exact seF_byt hb _ _
    ·split
     ·exact unF_byt hb _
     ·split
      ·exact mvT_byt hb
      ·split
       ·exact swL_byt _ hb
       ·exact hb
end
end Go.Proofs.YtfbloliakmehbaaGreatDoor
