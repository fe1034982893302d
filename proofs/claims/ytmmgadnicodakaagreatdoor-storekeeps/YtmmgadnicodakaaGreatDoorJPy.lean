/-
  Parts of the proofs, joined by program.
-/
import Derived.Test.YtmmgadnicodakaaGreatDoorJMvp
import Derived.Test.YtmmgadnicodakaaGreatDoorJWy
import Derived.Test.YtmmgadnicodakaaGreatDoorJRtp
import Derived.Test.YtmmgadnicodakaaGreatDoorJHal
import Derived.Test.YtmmgadnicodakaaGreatDoorJHpc
import Derived.Test.YtmmgadnicodakaaGreatDoorJPgp
namespace Go.Proofs.YtmmgadnicodakaaGreatDoor
open Go.RowKit
set_option linter.unusedVariables false
abbrev OpP := Int × Int × Int × Int × ByteArray × List Int
section
variable {L : List Int}
theorem wrB_fine (hf : Fine L) (h x : Int) (l : List Int) : Fine (wrB L h x l) ∧ (wrB L h x l).length = L.length := by
 unfold wrB
 by_cases h0 : pcE L h x l.length = 0
 ·rw [if_pos h0]
  obtain ⟨c0, x0, _, x2⟩ := pcE_zero.1 h0
  have hh := hndB_iff.1 (chkE_zero.1 c0).2.1
  obtain ⟨X, rfl⟩ := Int.eq_ofNat_of_zero_le x0
  rw [Int.toNat_natCast]
  obtain ⟨q1, q2, _⟩ := write_keep hf hh.1 hh.2 (chkE_zero.1 c0).2.2 (p := X) (r := l) x2
  exact ⟨q1, q2⟩
 ·rw [if_neg h0]; exact ⟨hf, rfl⟩
theorem wrB_byt (hb : Byt L) (h x : Int) {l : List Int} (hl : Byt l) : Byt (wrB L h x l) := by
 unfold wrB
 by_cases h0 : pcE L h x l.length = 0
 ·rw [if_pos h0]; exact byt_splice hb hl
 ·rw [if_neg h0]; exact hb
theorem dropL_len (hf : Fine L) {h : Int} (hc : chkE L h = 0) : (dropL L h).length = L.length := by
 have hh := hndB_iff.1 (chkE_zero.1 hc).2.1
 have hp := plc_le hh.1 hh.2
 have hl := hf.len
 unfold dropL
 rw [if_pos hc, length_splice (by rw [length_zerosB]; omega)]
theorem frB_fine (hf : Fine L) (h : Int) : Fine (frB L h) ∧ (frB L h).length = L.length := by
 unfold frB
 by_cases h0 : frE L h = 0
 ·rw [if_pos h0]; exact ⟨drop_ok hf h0, dropL_len hf (frE_zero.1 h0).1⟩
 ·rw [if_neg h0]; exact ⟨hf, rfl⟩
theorem frB_byt (hb : Byt L) (h : Int) : Byt (frB L h) := by
 unfold frB
 by_cases h0 : frE L h = 0
 ·rw [if_pos h0]; exact byt_drop hb h
 ·rw [if_neg h0]; exact hb
theorem al_len (hf : Fine L) (n t : Int) : (alB L n t).length = L.length := by
 by_cases h0 : alE L n t = 0
 ·obtain ⟨x, N, hk⟩ := al_ok hf h0
  exact (hk.keep hf h0).2.1
 ·unfold alB; rw [if_neg h0]
theorem seF_fine (hf : Fine L) (s : ByteArray) (x : Int) : Fine (seF L s x) ∧ (seF L s x).length = L.length := by
 unfold seF
 by_cases h0 : seE L s x = 0
 ·rw [if_pos h0]; exact ⟨(se_fine hf h0).1, (se_row hf h0).len⟩
 ·rw [if_neg h0]; exact ⟨hf, rfl⟩
theorem seF_byt (hb : Byt L) (s : ByteArray) (x : Int) : Byt (seF L s x) := by
 unfold seF
 by_cases h0 : seE L s x = 0
 ·rw [if_pos h0]; exact se_byt hb s x
 ·rw [if_neg h0]; exact hb
theorem unF_fine (hf : Fine L) (s : ByteArray) : Fine (unF L s) ∧ (unF L s).length = L.length := by
 unfold unF
 by_cases h0 : unE L s = 0
 ·rw [if_pos h0]; exact ⟨un_fine hf h0, (un_row hf h0).len⟩
 ·rw [if_neg h0]; exact ⟨hf, rfl⟩
theorem unF_byt (hb : Byt L) (s : ByteArray) : Byt (unF L s) := by
 unfold unF
 by_cases h0 : unE L s = 0
 ·rw [if_pos h0]; exact un_byt hb s
 ·rw [if_neg h0]; exact hb
def mvT (L : List Int) : List Int := (mvS L).getD L
theorem mvT_fine (hf : Fine L) : Fine (mvT L) ∧ (mvT L).length = L.length := by
 unfold mvT
 cases h : mvS L with
 | none => exact ⟨hf, rfl⟩
 | some c =>
  have := (step_as hf h).1
  exact ⟨this.fine, this.len⟩
theorem mvT_byt (hb : Byt L) : Byt (mvT L) := by
 unfold mvT mvS
 cases h : mvOn 288 (srtE L) with
 | none => exact hb
 | some x => exact mv_byt hb _ _
def swT (L : List Int) : List Int := swL L (ddK L 40)
theorem swL_byt : ∀ (D : List Int) {b : List Int}, Byt b → Byt (swL b D)
 | [], b, hb => hb
 | h :: D, b, hb => swL_byt D (byt_drop hb h)
theorem swT_fine (hf : Fine L) : Fine (swT L) ∧ (swT L).length = L.length := ⟨(sweep_swept hf).fine, (sweep_swept hf).len⟩
def doB (L : List Int) (o : OpP) : List Int :=
 if o.1 = 1 then alB L o.2.2.2.1 o.2.2.1
 else if o.1 = 2 then frB L o.2.1
 else if o.1 = 3 then wrB L o.2.1 o.2.2.1 o.2.2.2.2.2
 else if o.1 = 4 then seF L o.2.2.2.2.1 o.2.1
 else if o.1 = 5 then unF L o.2.2.2.2.1
 else if o.1 = 8 then mvT L
 else if o.1 = 9 then swT L
 else L
theorem doB_fine (hf : Fine L) (o : OpP) : Fine (doB L o) ∧ (doB L o).length = L.length := by
 unfold doB
 split
 ·exact ⟨alB_fine hf _ _, al_len hf _ _⟩
 ·split
  ·exact frB_fine hf _
  ·split
   ·exact wrB_fine hf _ _ _
   ·split
    ·exact seF_fine hf _ _
    ·split
     ·exact unF_fine hf _
     ·split
      ·exact mvT_fine hf
      ·split
       ·exact swT_fine hf
       ·exact ⟨hf, rfl⟩
theorem doB_byt (hb : Byt L) (o : OpP) (ho : Byt o.2.2.2.2.2) : Byt (doB L o) := by
 unfold doB
 split
 ·exact alB_byt hb _ _
 ·split
  ·exact frB_byt hb _
  ·split
   ·exact wrB_byt hb _ _ ho
   ·split
    ·exact seF_byt hb _ _
    ·split
     ·exact unF_byt hb _
     ·split
      ·exact mvT_byt hb
      ·split
       ·exact swL_byt _ hb
       ·exact hb
end
end Go.Proofs.YtmmgadnicodakaaGreatDoor
namespace Go.Proofs.YtmmgadnicodakaaGreatDoor
open Go.RowKit
set_option linter.unusedVariables false
section
variable {L : List Int} {N n : Nat} {t : Int}
theorem first_made (h1 : 288 + n ≤ N) (h2 : N ≤ 6400) (n1 : 1 ≤ n) (n2 : n ≤ 1000) (t1 : 0 ≤ t) (t2 : t ≤ 15) :
  alE (zerosB N) n t = 0 ∧ alH (zerosB N) n t = 1 ∧ Fine (alB (zerosB N) n t) ∧ (alB (zerosB N) n t).length = N ∧ chkE (alB (zerosB N) n t) 1 = 0 ∧ objOf (alB (zerosB N) n t) 1 = (t, zerosB n) ∧ (entOf (alB (zerosB N) n t) 1).2.2.1 = n ∧
  (∀ h : Int, 1 ≤ h → h ≤ 40 → h ≠ 1 → tagAt (alB (zerosB N) n t) h = 0) ∧ ∀ j, j < 8 → isRoot (rowAt (alB (zerosB N) n t) j) = false := by
 obtain ⟨z1, z2, z3⟩ := zeros_fine (n := N) (by omega) h2
 have hzl := length_zerosB N
 have hlow : lowH (zerosB N) = 0 := (lowH_first _).unique ⟨Nat.zero_le _, fun j hj => absurd hj (Nat.not_lt_zero j), fun _ => decide_eq_true (z2 _)⟩
 have h0 : alE (zerosB N) n t = 0 := al_room (p := 0) z1 (by omega) (by omega) (by omega) t1 t2 (by decide) (by rw [hzl]; omega) (fun e he => by
  obtain ⟨h, _, _, ht, _⟩ := mem_takeL.1 he
  exact absurd (z2 h) ht)
 obtain ⟨x, M, hk⟩ := al_ok z1 h0
 obtain ⟨k1, k2, k3, k4, k5, k6⟩ := hk.keep z1 h0
 have hM : M = n := by have := hk.eqn; omega
 subst hM
 rw [hlow] at k3 k4 k5 k6
 have k5' : tagAt (alB (zerosB N) M t) 1 ≠ 0 := k5
 have k4' : entOf (alB (zerosB N) M t) 1 = (1, (x : Int), (M : Int), t) := k4
 refine ⟨h0, by unfold alH; rw [if_pos h0, hlow]; rfl, k1, k2.trans hzl, chkE_zero.2 ⟨k1.len0, by decide, k5'⟩, k3, by rw [k4'], fun h a b c => ?_, fun j hj => ?_⟩
 ·rw [(k6 h a b (by simpa using c)).2.1]; exact z2 h
 ·rw [al_rows z1 h0 hj]; exact z3 j hj
end
end Go.Proofs.YtmmgadnicodakaaGreatDoor
namespace Go.Proofs.YtmmgadnicodakaaGreatDoor
open Go.RowKit
set_option linter.unusedVariables false
structure Ps where
 D : DS
 s : Int
 L : List Int
 K : List Int
def psCo (m : Nat) (p : Ps) : Ps × Int :=
 (⟨(commitOut p.D p.s m (dfP p.K p.L m)).1, (commitOut p.D p.s m (dfP p.K p.L m)).2.1, p.L, if (commitOut p.D p.s m (dfP p.K p.L m)).2.2 = 0 then p.L else p.K⟩, (commitOut p.D p.s m (dfP p.K p.L m)).2.2)
def opE (L : List Int) (o : OpP) : Int :=
 if o.1 = 1 then alE L o.2.2.2.1 o.2.2.1
 else if o.1 = 2 then frE L o.2.1
 else if o.1 = 3 then pcE L o.2.1 o.2.2.1 o.2.2.2.2.2.length
 else if o.1 = 4 then seE L o.2.2.2.2.1 o.2.1
 else if o.1 = 5 then unE L o.2.2.2.2.1
 else if o.1 = 8 then 0
 else if o.1 = 9 then 0
 else 1
def psDo (m : Nat) (p : Ps) (o : OpP) : Ps × Int :=
 if o.1 = 6 then psCo m p else if o.1 = 7 then ({ p with L := p.K }, 0) else ({ p with L := doB p.L o }, opE p.L o)
structure Pu (m n : Nat) (p : Ps) : Prop where
 nt : ∃ a nl, Nt p.D m p.s (prt p.K) a nl
 fl : Fine p.L
 fk : Fine p.K
 bl : Byt p.L
 bk : Byt p.K
 ll : p.L.length = 32 * m
 lk : p.K.length = 32 * m
 sn : p.D.secs.length = n
structure Pd (m n : Nat) (p : Ps) (N : List Int) : Prop where
 ok : p.D.Ok
 down : p.D.down = true
 crash : ∀ keep torn c, c ≤ 32 → Rdy (p.D.crash keep torn c) m p.s (prt p.K) ∨ Rdy (p.D.crash keep torn c) m (p.s + 1) (prt N)
 fl : Fine p.L
 fk : Fine p.K
 fn : Fine N
 bl : Byt p.L
 bk : Byt p.K
 bn : Byt N
 ll : p.L.length = 32 * m
 lk : p.K.length = 32 * m
 ln : N.length = 32 * m
 sn : p.D.secs.length = n
section
variable {m n : Nat} {p : Ps} {N : List Int}
theorem drt_zero {K L : List Int} (hK : K.length = 32 * m) (hL : L.length = 32 * m) : (drtN K L m).length = 0 ↔ K = L := by
 rw [← dfP_len, ← dfP_nil hK hL]
 exact ⟨List.eq_nil_of_length_eq_zero, fun h => by rw [h]; rfl⟩
theorem Pu.step (h : Pu m n p) (hs : p.s ≤ 999) (o : OpP) (ho : Byt o.2.2.2.2.2) :
  (Pu m n (psDo m p o).1 ∧ p.s ≤ (psDo m p o).1.s ∧ (psDo m p o).1.s ≤ p.s + 1 ∧ (o.1 = 6 → (psDo m p o).2 = if 23 < (drtN p.K p.L m).length then 4 else 0) ∧ (o.1 = 6 → (psDo m p o).2 = 0 → (psDo m p o).1.K = p.L) ∧ (o.1 ≠ 6 → (psDo m p o).1.K = p.K ∧ (psDo m p o).1.D = p.D ∧ (psDo m p o).1.s = p.s)) ∨
  (o.1 = 6 ∧ (psDo m p o).2 = 9 ∧ Pd m n (psDo m p o).1 p.L ∧ (psDo m p o).1.K = p.K ∧ (psDo m p o).1.s = p.s ∧ (psDo m p o).1.L = p.L ∧ p.K ≠ p.L) := by
 obtain ⟨a, nl, hn⟩ := h.nt
 by_cases h6 : o.1 = 6
 ·have e : psDo m p o = psCo m p := by unfold psDo; rw [if_pos h6]
  rw [e]
  rcases nt_commit hn hs h.lk h.ll h.bl with ⟨k1, k2⟩ | ⟨k1, k2⟩ | ⟨k1, k2, k3, k4, _, _⟩ | ⟨k1, k2, k3, k4, k5, k6, _, k8⟩
  ·left
   unfold psCo
   rw [k2]
   refine ⟨⟨⟨a, nl, hn⟩, h.fl, h.fk, h.bl, h.bk, h.ll, h.lk, h.sn⟩, Int.le_refl _, by show p.s ≤ p.s + 1; omega, fun _ => by rw [if_pos k1], fun _ h0 => ?_, fun hne => absurd h6 hne⟩
   cases h0
  ·left
   unfold psCo
   rw [k2]
   have hz := (drt_zero h.lk h.ll).2 k1
   refine ⟨⟨⟨a, nl, ?_⟩, h.fl, h.fl, h.bl, h.bl, h.ll, h.ll, h.sn⟩, Int.le_refl _, by show p.s ≤ p.s + 1; omega, fun _ => by rw [hz]; rfl, fun _ _ => rfl, fun hne => absurd h6 hne⟩
   show Nt p.D m p.s (prt p.L) a nl
   rw [← k1]; exact hn
  ·left
   have hlen : (commitOut p.D p.s m (dfP p.K p.L m)).1.secs.length = n := by
    exact (commitOut_seclen p.D p.s m (dfP p.K p.L m)).trans h.sn
   have e1 : (commitOut p.D p.s m (dfP p.K p.L m)).2.1 = p.s + 1 := by rw [k3]
   have e2 : (commitOut p.D p.s m (dfP p.K p.L m)).2.2 = 0 := by rw [k3]
   unfold psCo
   rw [e1, e2]
   exact ⟨⟨k4, h.fl, h.fl, h.bl, h.bl, h.ll, h.ll, hlen⟩, by show p.s ≤ p.s + 1; omega, by show p.s + 1 ≤ p.s + 1; omega, fun _ => by rw [if_neg (by omega)], fun _ _ => rfl, fun hne => absurd h6 hne⟩
  ·right
   have e1 : (commitOut p.D p.s m (dfP p.K p.L m)).2.1 = p.s := by rw [k3]
   have e2 : (commitOut p.D p.s m (dfP p.K p.L m)).2.2 = 9 := by rw [k3]
   unfold psCo
   rw [e1, e2]
   exact ⟨h6, rfl, ⟨k4, k6, k8, h.fl, h.fk, h.fl, h.bl, h.bk, h.bl, h.ll, h.lk, h.ll, k5.trans h.sn⟩, rfl, rfl, rfl, k1⟩
 ·left
  by_cases h7 : o.1 = 7
  ·have e : psDo m p o = ({ p with L := p.K }, 0) := by unfold psDo; rw [if_neg h6, if_pos h7]
   rw [e]
   exact ⟨⟨h.nt, h.fk, h.fk, h.bk, h.bk, h.lk, h.lk, h.sn⟩, Int.le_refl _, by show p.s ≤ p.s + 1; omega, fun h => absurd h h6, fun h => absurd h h6, fun _ => ⟨rfl, rfl, rfl⟩⟩
  ·have e : psDo m p o = ({ p with L := doB p.L o }, opE p.L o) := by unfold psDo; rw [if_neg h6, if_neg h7]
   rw [e]
   obtain ⟨d1, d2⟩ := doB_fine h.fl o
   exact ⟨⟨h.nt, d1, h.fk, doB_byt h.bl o ho, h.bk, d2.trans h.ll, h.lk, h.sn⟩, Int.le_refl _, by show p.s ≤ p.s + 1; omega, fun h => absurd h h6, fun h => absurd h h6, fun _ => ⟨rfl, rfl, rfl⟩⟩
end
end Go.Proofs.YtmmgadnicodakaaGreatDoor
namespace Go.Proofs.YtmmgadnicodakaaGreatDoor
open Go.RowKit
set_option linter.unusedVariables false
section
variable {m n : Nat} {p : Ps} {N : List Int} {o : OpP}
theorem Pu.ever (h : Pu m n p) (hs : p.s ≤ 999) (hl : p.D.left < 0) (o : OpP) (ho : Byt o.2.2.2.2.2) :
  Pu m n (psDo m p o).1 ∧ (psDo m p o).1.D.left < 0 ∧ p.s ≤ (psDo m p o).1.s ∧ (psDo m p o).1.s ≤ p.s + 1 ∧ (o.1 = 6 → (psDo m p o).2 = if 23 < (drtN p.K p.L m).length then 4 else 0) ∧ (o.1 = 6 → (psDo m p o).2 = 0 → (psDo m p o).1.K = p.L) ∧ (o.1 ≠ 6 → (psDo m p o).1.K = p.K ∧ (psDo m p o).1.D = p.D ∧ (psDo m p o).1.s = p.s) := by
 have hleft : (psDo m p o).1.D.left < 0 ∧ (o.1 = 6 → (psDo m p o).2 ≠ 9) := by
  by_cases h6 : o.1 = 6
  ·have e : psDo m p o = psCo m p := by unfold psDo; rw [if_pos h6]
   rw [e]
   obtain ⟨a, nl, hn⟩ := h.nt
   have hev := Ever.commit (s := p.s) (l := dfP p.K p.L m) hl hn.down
   rcases nt_commit hn hs h.lk h.ll h.bl with ⟨k1, k2⟩ | ⟨k1, k2⟩ | ⟨k1, k2, k3, k4, k5, k6⟩ | ⟨_, _, _, _, _, _, k7, _⟩
   ·unfold psCo; rw [k2]; exact ⟨hl, fun _ => by show (4 : Int) ≠ 9; decide⟩
   ·unfold psCo; rw [k2]; exact ⟨hl, fun _ => by show (0 : Int) ≠ 9; decide⟩
   ·unfold psCo; rw [k5]; exact ⟨hev.2, fun _ => by show (0 : Int) ≠ 9; decide⟩
   ·exact absurd k7 hev.1
  ·refine ⟨?_, fun h => absurd h h6⟩
   by_cases h7 : o.1 = 7
   ·have e : psDo m p o = ({ p with L := p.K }, 0) := by unfold psDo; rw [if_neg h6, if_pos h7]
    rw [e]; exact hl
   ·have e : psDo m p o = ({ p with L := doB p.L o }, opE p.L o) := by unfold psDo; rw [if_neg h6, if_neg h7]
    rw [e]; exact hl
 rcases h.step hs o ho with ⟨h1, h2, h3, h4⟩ | ⟨h6, h9, _⟩
 ·exact ⟨h1, hleft.1, h2, h3, h4⟩
 ·exact absurd h9 (hleft.2 h6)
end
end Go.Proofs.YtmmgadnicodakaaGreatDoor
namespace Go.Proofs.YtmmgadnicodakaaGreatDoor
open Go.RowKit
set_option linter.unusedVariables false
section
variable {m n : Nat}
theorem co_same {p : Ps} {o : OpP} (h6 : o.1 = 6) : (psDo m p o).1.L = p.L ∧ ((psDo m p o).2 = 0 → (psDo m p o).1.K = p.L) ∧ ((psDo m p o).2 ≠ 0 → (psDo m p o).1.K = p.K) := by
 have e : psDo m p o = psCo m p := by unfold psDo; rw [if_pos h6]
 rw [e]
 refine ⟨rfl, fun h0 => ?_, fun h0 => ?_⟩
 ·show (if (psCo m p).2 = 0 then p.L else p.K) = p.L
  rw [if_pos h0]
 ·show (if (psCo m p).2 = 0 then p.L else p.K) = p.K
  rw [if_neg h0]
theorem do_kept {p : Ps} {o : OpP} (h6 : o.1 ≠ 6) : (psDo m p o).1.K = p.K := by
 unfold psDo
 rw [if_neg h6]
 split <;> rfl
end
end Go.Proofs.YtmmgadnicodakaaGreatDoor
namespace Go.Proofs.YtmmgadnicodakaaGreatDoor
open Go.RowKit
set_option linter.unusedVariables false
section
variable {m n : Nat}
theorem first_page (h1 : 288 + n ≤ 32 * m) (h2 : m ≤ 200) (n1 : 1 ≤ n) (n2 : n ≤ 1000) {t : Int} (t1 : 0 ≤ t) (t2 : t ≤ 15) : (drtN (zerosB (32 * m)) (alB (zerosB (32 * m)) n t) m).length = 1 := by
 obtain ⟨e1, e2, f1, l1, c1, _⟩ := first_made (N := 32 * m) (n := n) (t := t) h1 (by omega) n1 n2 t1 t2
 have z1 := (zeros_fine (n := 32 * m) (by omega) (by omega)).1
 have hzl := length_zerosB (32 * m)
 obtain ⟨x, N, hk⟩ := al_ok z1 e1
 have hlow : (lowH (zerosB (32 * m)) : Int) + 1 = 1 := by rw [← (hk.img e1).2, e2]
 have hz0 : ∀ j, (zerosB (32 * m)).getD j 0 = 0 := fun j => by
  unfold zerosB
  rw [List.getD_eq_getElem?_getD]
  by_cases hj : j < 32 * m
  ·rw [List.getElem?_replicate, if_pos hj]; rfl
  ·rw [List.getElem?_eq_none (by simp; omega)]; rfl
 have htag : (alB (zerosB (32 * m)) n t).getD 0 0 ≠ 0 := (chkE_zero.1 c1).2.2
 have hout : ∀ j, 5 ≤ j → (alB (zerosB (32 * m)) n t).getD j 0 = (zerosB (32 * m)).getD j 0 := fun j hj => by
  have hz := length_zerosB N
  have hsl : (splice (zerosB (32 * m)) x (zerosB N)).length = 32 * m := (length_splice (by rw [hz]; exact hk.x2)).trans hzl
  have hlen1 := l1
  rw [(hk.img e1).1] at hlen1 ⊢
  unfold alL putL at hlen1 ⊢
  by_cases hp : putE (splice (zerosB (32 * m)) x (zerosB N)) ((lowH (zerosB (32 * m)) : Int) + 1, (x : Int), (N : Int), t) = 0
  ·rw [if_pos hp]
   have hr5 : (rowE ((lowH (zerosB (32 * m)) : Int) + 1, (x : Int), (N : Int), t)).length = 5 := rfl
   have hpl : plc ((lowH (zerosB (32 * m)) : Int) + 1, (x : Int), (N : Int), t).1 = 0 := by
    show plc ((lowH (zerosB (32 * m)) : Int) + 1) = 0
    rw [hlow]; rfl
   rw [hpl, splice_out (by rw [hr5, hsl]; omega) (.inr (by rw [hr5]; omega))]
   by_cases hin : x ≤ j ∧ j < x + N
   ·obtain ⟨i, rfl⟩ : ∃ i, j = x + i := ⟨j - x, by omega⟩
    rw [splice_in (by rw [hz]; exact hk.x2) (by rw [hz]; omega), hz0]
    unfold zerosB
    rw [List.getD_eq_getElem?_getD, List.getElem?_replicate, if_pos (by omega)]
    rfl
   ·exact splice_out (by rw [hz]; exact hk.x2) (by rw [hz]; omega)
  ·rw [if_neg hp] at hlen1
   simp at hlen1
   omega
 have hd : ∀ i, i < m → (prt (zerosB (32 * m)) i ≠ prt (alB (zerosB (32 * m)) n t) i ↔ i = 0) := fun i hi => by
  constructor
  ·intro hne
   refine Classical.byContradiction fun h0 => hne ?_
   apply ext_getD
   ·rw [prt_len hzl hi, prt_len l1 hi]
   ·intro j hj
    rw [prt_len hzl hi] at hj
    rw [prt_getD hj, prt_getD hj]
    exact (hout _ (by omega)).symm
  ·rintro rfl he
   have := congrArg (fun l : List Int => l.getD 0 0) he
   rw [prt_getD (by decide), prt_getD (by decide), hz0] at this
   exact htag this.symm
 have : drtN (zerosB (32 * m)) (alB (zerosB (32 * m)) n t) m = [0] := by
  unfold drtN
  obtain ⟨k, hk2⟩ : ∃ k, m = 1 + k := ⟨m - 1, by omega⟩
  have e : (List.range m).filter (fun i => decide (prt (zerosB (32 * m)) i ≠ prt (alB (zerosB (32 * m)) n t) i)) = (List.range m).filter (fun i => decide (i = 0)) := List.filter_congr (fun i hi => by
   rw [Bool.eq_iff_iff, decide_eq_true_iff, decide_eq_true_iff]
   exact hd i (List.mem_range.1 hi))
  rw [e, hk2]
  have key : ∀ k, (List.range (1 + k)).filter (fun i => decide (i = 0)) = [0] := by
   intro k
   induction k with
   | zero => rfl
   | succ k ih => rw [show 1 + (k + 1) = 1 + k + 1 by omega, List.range_succ, List.filter_append, ih]; simp
  exact key k
 rw [this]
 rfl
end
end Go.Proofs.YtmmgadnicodakaaGreatDoor
