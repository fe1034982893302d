/-
  Joined by program: OpPlain; OnPlain; PyPlain; PyRun; PyCut; PySteps. (Parts of the proofs over the packages of the program.)
-/
import Derived.Test.YtknjdhnldfebjaaGreatDoorJMvp
import Derived.Test.YtknjdhnldfebjaaGreatDoorJWy
import Derived.Test.YtknjdhnldfebjaaGreatDoorJRtp
import Derived.Test.YtknjdhnldfebjaaGreatDoorJHal
import Derived.Test.YtknjdhnldfebjaaGreatDoorJHpc
import Derived.Test.YtknjdhnldfebjaaGreatDoorJPgp
namespace Go.Proofs.YtknjdhnldfebjaaGreatDoor
open Go.RowKit
set_option linter.unusedVariables false
abbrev OpP := Int × Int × Int × Int × ByteArray × List Int
section
variable {L : List Int}
theorem wrB_fine (hf : Fine L) (h x : Int) (l : List Int) : Fine (wrB L h x l) ∧ (wrB L h x l).length = L.length := by
 unfold wrB
 by_cases h0 : pcE L h x l.length = 0
 ·rw [if_pos h0]
  obtain ⟨c0, x0, _, x2⟩ := pcE_zero.1 h0
  have hh := hndB_iff.1 (chkE_zero.1 c0).2.1
  obtain ⟨X, rfl⟩ := Int.eq_ofNat_of_zero_le x0
  rw [Int.toNat_natCast]
  obtain ⟨q1, q2, _⟩ := write_keep hf hh.1 hh.2 (chkE_zero.1 c0).2.2 (p := X) (r := l) x2
  exact ⟨q1, q2⟩
 ·rw [if_neg h0]; exact ⟨hf, rfl⟩
theorem wrB_byt (hb : Byt L) (h x : Int) {l : List Int} (hl : Byt l) : Byt (wrB L h x l) := by
 unfold wrB
 by_cases h0 : pcE L h x l.length = 0
 ·rw [if_pos h0]; exact byt_splice hb hl
 ·rw [if_neg h0]; exact hb
theorem dropL_len (hf : Fine L) {h : Int} (hc : chkE L h = 0) : (dropL L h).length = L.length := by
 have hh := hndB_iff.1 (chkE_zero.1 hc).2.1
 have hp := plc_le hh.1 hh.2
 have hl := hf.len
 unfold dropL
 rw [if_pos hc, length_splice (by rw [length_zerosB]; omega)]
theorem frB_fine (hf : Fine L) (h : Int) : Fine (frB L h) ∧ (frB L h).length = L.length := by
 unfold frB
 by_cases h0 : frE L h = 0
 ·rw [if_pos h0]; exact ⟨drop_ok hf h0, dropL_len hf (frE_zero.1 h0).1⟩
 ·rw [if_neg h0]; exact ⟨hf, rfl⟩
theorem frB_byt (hb : Byt L) (h : Int) : Byt (frB L h) := by
 unfold frB
 by_cases h0 : frE L h = 0
 ·rw [if_pos h0]; exact byt_drop hb h
 ·rw [if_neg h0]; exact hb
theorem al_len (hf : Fine L) (n t : Int) : (alB L n t).length = L.length := by
 by_cases h0 : alE L n t = 0
 ·obtain ⟨x, N, hk⟩ := al_ok hf h0
  exact (hk.keep hf h0).2.1
 ·unfold alB; rw [if_neg h0]
theorem seF_fine (hf : Fine L) (s : ByteArray) (x : Int) : Fine (seF L s x) ∧ (seF L s x).length = L.length := by
 unfold seF
 by_cases h0 : seE L s x = 0
 ·rw [if_pos h0]; exact ⟨(se_fine hf h0).1, (se_row hf h0).len⟩
 ·rw [if_neg h0]; exact ⟨hf, rfl⟩
theorem seF_byt (hb : Byt L) (s : ByteArray) (x : Int) : Byt (seF L s x) := by
 unfold seF
 by_cases h0 : seE L s x = 0
 ·rw [if_pos h0]; exact se_byt hb s x
 ·rw [if_neg h0]; exact hb
theorem unF_fine (hf : Fine L) (s : ByteArray) : Fine (unF L s) ∧ (unF L s).length = L.length := by
 unfold unF
 by_cases h0 : unE L s = 0
 ·rw [if_pos h0]; exact ⟨un_fine hf h0, (un_row hf h0).len⟩
 ·rw [if_neg h0]; exact ⟨hf, rfl⟩
theorem unF_byt (hb : Byt L) (s : ByteArray) : Byt (unF L s) := by
 unfold unF
 by_cases h0 : unE L s = 0
 ·rw [if_pos h0]; exact un_byt hb s
 ·rw [if_neg h0]; exact hb
def mvT (L : List Int) : List Int := (mvS L).getD L
theorem mvT_fine (hf : Fine L) : Fine (mvT L) ∧ (mvT L).length = L.length := by
 unfold mvT
 cases h : mvS L with
 | none => exact ⟨hf, rfl⟩
 | some c =>
  have := (step_as hf h).1
  exact ⟨this.fine, this.len⟩
theorem mvT_byt (hb : Byt L) : Byt (mvT L) := by
 unfold mvT mvS
 cases h : mvOn 288 (srtE L) with
 | none => exact hb
 | some x => exact mv_byt hb _ _
def swT (L : List Int) : List Int := swL L (ddK L 40)
theorem swL_byt : ∀ (D : List Int) {b : List Int}, Byt b → Byt (swL b D)
 | [], b, hb => hb
 | h :: D, b, hb => swL_byt D (byt_drop hb h)
theorem swT_fine (hf : Fine L) : Fine (swT L) ∧ (swT L).length = L.length := ⟨(sweep_swept hf).fine, (sweep_swept hf).len⟩
def doB (L : List Int) (o : OpP) : List Int :=
 if o.1 = 1 then alB L o.2.2.2.1 o.2.2.1
 else if o.1 = 2 then frB L o.2.1
 else if o.1 = 3 then wrB L o.2.1 o.2.2.1 o.2.2.2.2.2
 else if o.1 = 4 then seF L o.2.2.2.2.1 o.2.1
 else if o.1 = 5 then unF L o.2.2.2.2.1
 else if o.1 = 8 then mvT L
 else if o.1 = 9 then swT L
 else L
theorem doB_fine (hf : Fine L) (o : OpP) : Fine (doB L o) ∧ (doB L o).length = L.length := by
 unfold doB
 split
 ·exact ⟨alB_fine hf _ _, al_len hf _ _⟩
 ·split
  ·exact frB_fine hf _
  ·split
   ·exact wrB_fine hf _ _ _
   ·split
    ·exact seF_fine hf _ _
    ·split
     ·exact unF_fine hf _
     ·split
      ·exact mvT_fine hf
      ·split
       ·exact swT_fine hf
       ·exact ⟨hf, rfl⟩
theorem doB_byt (hb : Byt L) (o : OpP) (ho : Byt o.2.2.2.2.2) : Byt (doB L o) := by
 unfold doB
 split
 ·exact alB_byt hb _ _
 ·split
  ·exact frB_byt hb _
  ·split
   ·exact wrB_byt hb _ _ ho
   ·split
    ·exact seF_byt hb _ _
    ·split
     ·exact unF_byt hb _
     ·split
      ·exact mvT_byt hb
      ·split
       ·exact swL_byt _ hb
       ·exact hb
end
end Go.Proofs.YtknjdhnldfebjaaGreatDoor
namespace Go.Proofs.YtknjdhnldfebjaaGreatDoor
open Go.RowKit
set_option linter.unusedVariables false
section
variable {L : List Int} {N n : Nat} {t : Int}
theorem first_made (h1 : 288 + n ≤ N) (h2 : N ≤ 6400) (n1 : 1 ≤ n) (n2 : n ≤ 1000) (t1 : 0 ≤ t) (t2 : t ≤ 15) :
  alE (zerosB N) n t = 0 ∧ alH (zerosB N) n t = 1 ∧ Fine (alB (zerosB N) n t) ∧ (alB (zerosB N) n t).length = N ∧ chkE (alB (zerosB N) n t) 1 = 0 ∧ objOf (alB (zerosB N) n t) 1 = (t, zerosB n) ∧ (entOf (alB (zerosB N) n t) 1).2.2.1 = n ∧
  (∀ h : Int, 1 ≤ h → h ≤ 40 → h ≠ 1 → tagAt (alB (zerosB N) n t) h = 0) ∧ ∀ j, j < 8 → isRoot (rowAt (alB (zerosB N) n t) j) = false := by
 obtain ⟨z1, z2, z3⟩ := zeros_fine (n := N) (by omega) h2
 have hzl := length_zerosB N
 have hlow : lowH (zerosB N) = 0 := (lowH_first _).unique ⟨Nat.zero_le _, fun j hj => absurd hj (Nat.not_lt_zero j), fun _ => decide_eq_true (z2 _)⟩
 have h0 : alE (zerosB N) n t = 0 := al_room (p := 0) z1 (by omega) (by omega) (by omega) t1 t2 (by decide) (by rw [hzl]; omega) (fun e he => by
  obtain ⟨h, _, _, ht, _⟩ := mem_takeL.1 he
  exact absurd (z2 h) ht)
 obtain ⟨x, M, hk⟩ := al_ok z1 h0
 obtain ⟨k1, k2, k3, k4, k5, k6⟩ := hk.keep z1 h0
 have hM : M = n := by have := hk.eqn; omega
 subst hM
 rw [hlow] at k3 k4 k5 k6
 have k5' : tagAt (alB (zerosB N) M t) 1 ≠ 0 := k5
 have k4' : entOf (alB (zerosB N) M t) 1 = (1, (x : Int), (M : Int), t) := k4
 refine ⟨h0, by unfold alH; rw [if_pos h0, hlow]; rfl, k1, k2.trans hzl, chkE_zero.2 ⟨k1.len0, by decide, k5'⟩, k3, by rw [k4'], fun h a b c => ?_, fun j hj => ?_⟩
 ·rw [(k6 h a b (by simpa using c)).2.1]; exact z2 h
 ·rw [al_rows z1 h0 hj]; exact z3 j hj
theorem all_written (hf : Fine L) {h : Int} (hc : chkE L h = 0) {r : List Int} (hr : (r.length : Int) = (entOf L h).2.2.1) :
  pcE L h 0 r.length = 0 ∧ Fine (wrB L h 0 r) ∧ (wrB L h 0 r).length = L.length ∧ objOf (wrB L h 0 r) h = ((objOf L h).1, r) ∧ chkE (wrB L h 0 r) h = 0 ∧ (entOf (wrB L h 0 r) h) = entOf L h ∧ rdL (wrB L h 0 r) h 0 r.length = r ∧
  (∀ k, 1 ≤ k → k ≤ 40 → k ≠ h → objOf (wrB L h 0 r) k = objOf L k) := by
 obtain ⟨q1, q2, q3⟩ := chkE_zero.1 hc
 have hh := hndB_iff.1 q2
 have h0 : pcE L h 0 r.length = 0 := pcE_zero.2 ⟨hc, Int.le_refl _, by omega, by omega⟩
 have hw : wrB L h 0 r = splice L ((entOf L h).2.1.toNat + 0) r := by unfold wrB; rw [if_pos h0]; rfl
 obtain ⟨w1, w2, w3, w4, w5⟩ := write_keep hf hh.1 hh.2 q3 (p := 0) (r := r) (by omega)
 rw [← hw] at w1 w2 w3 w4 w5
 obtain ⟨e1, e2⟩ := w4 h hh.1 hh.2
 have hc2 : chkE (wrB L h 0 r) h = 0 := chkE_zero.2 ⟨w1.len0, q2, by rw [e1]; exact q3⟩
 have hp : partL (wrB L h 0 r) (entOf L h).2.1 (entOf L h).2.2.1 = r := by
  rw [show (entOf L h).2.1 + ((0 : Nat) : Int) = (entOf L h).2.1 by omega] at w5
  rw [← hr]
  exact w5
 have h0' : pcE (wrB L h 0 r) h 0 r.length = 0 := pcE_zero.2 ⟨hc2, Int.le_refl _, by omega, by rw [e2]; omega⟩
 refine ⟨h0, w1, w2, ?_, hc2, e2, ?_, w3⟩
 ·unfold objOf
  rw [e1, if_neg q3, if_neg q3, e2]
  unfold objE
  rw [hp]
 ·unfold rdL
  rw [if_pos h0', e2]
  unfold partL at hp
  rw [show (0 : Int).toNat = 0 from rfl, Nat.add_zero, Int.toNat_natCast]
  rw [← hr, Int.toNat_natCast] at hp
  exact hp
end
end Go.Proofs.YtknjdhnldfebjaaGreatDoor
namespace Go.Proofs.YtknjdhnldfebjaaGreatDoor
open Go.RowKit
set_option linter.unusedVariables false
structure Ps where
 D : DS
 s : Int
 L : List Int
 K : List Int
def psCo (m : Nat) (p : Ps) : Ps × Int :=
 (⟨(commitOut p.D p.s m (dfP p.K p.L m)).1, (commitOut p.D p.s m (dfP p.K p.L m)).2.1, p.L, if (commitOut p.D p.s m (dfP p.K p.L m)).2.2 = 0 then p.L else p.K⟩, (commitOut p.D p.s m (dfP p.K p.L m)).2.2)
def opE (L : List Int) (o : OpP) : Int :=
 if o.1 = 1 then alE L o.2.2.2.1 o.2.2.1
 else if o.1 = 2 then frE L o.2.1
 else if o.1 = 3 then pcE L o.2.1 o.2.2.1 o.2.2.2.2.2.length
 else if o.1 = 4 then seE L o.2.2.2.2.1 o.2.1
 else if o.1 = 5 then unE L o.2.2.2.2.1
 else if o.1 = 8 then 0
 else if o.1 = 9 then 0
 else 1
def psDo (m : Nat) (p : Ps) (o : OpP) : Ps × Int :=
 if o.1 = 6 then psCo m p else if o.1 = 7 then ({ p with L := p.K }, 0) else ({ p with L := doB p.L o }, opE p.L o)
def psRun (m : Nat) (p : Ps) : List OpP → Ps
 | [] => p
 | o :: l => psRun m (psDo m p o).1 l
theorem psRun_append (m : Nat) : ∀ (l r : List OpP) (p : Ps), psRun m p (l ++ r) = psRun m (psRun m p l) r
 | [], r, p => rfl
 | o :: l, r, p => psRun_append m l r (psDo m p o).1
structure Pu (m n : Nat) (p : Ps) : Prop where
 nt : ∃ a nl, Nt p.D m p.s (prt p.K) a nl
 fl : Fine p.L
 fk : Fine p.K
 bl : Byt p.L
 bk : Byt p.K
 ll : p.L.length = 32 * m
 lk : p.K.length = 32 * m
 sn : p.D.secs.length = n
structure Pd (m n : Nat) (p : Ps) (N : List Int) : Prop where
 ok : p.D.Ok
 down : p.D.down = true
 crash : ∀ keep torn c, c ≤ 32 → Rdy (p.D.crash keep torn c) m p.s (prt p.K) ∨ Rdy (p.D.crash keep torn c) m (p.s + 1) (prt N)
 fl : Fine p.L
 fk : Fine p.K
 fn : Fine N
 bl : Byt p.L
 bk : Byt p.K
 bn : Byt N
 ll : p.L.length = 32 * m
 lk : p.K.length = 32 * m
 ln : N.length = 32 * m
 sn : p.D.secs.length = n
section
variable {m n : Nat} {p : Ps} {N : List Int}
theorem drt_zero {K L : List Int} (hK : K.length = 32 * m) (hL : L.length = 32 * m) : (drtN K L m).length = 0 ↔ K = L := by
 rw [← dfP_len, ← dfP_nil hK hL]
 exact ⟨List.eq_nil_of_length_eq_zero, fun h => by rw [h]; rfl⟩
theorem Pu.step (h : Pu m n p) (hs : p.s ≤ 999) (o : OpP) (ho : Byt o.2.2.2.2.2) :
  (Pu m n (psDo m p o).1 ∧ p.s ≤ (psDo m p o).1.s ∧ (psDo m p o).1.s ≤ p.s + 1 ∧ (o.1 = 6 → (psDo m p o).2 = if 23 < (drtN p.K p.L m).length then 4 else 0) ∧ (o.1 = 6 → (psDo m p o).2 = 0 → (psDo m p o).1.K = p.L) ∧ (o.1 ≠ 6 → (psDo m p o).1.K = p.K ∧ (psDo m p o).1.D = p.D ∧ (psDo m p o).1.s = p.s)) ∨
  (o.1 = 6 ∧ (psDo m p o).2 = 9 ∧ Pd m n (psDo m p o).1 p.L ∧ (psDo m p o).1.K = p.K ∧ (psDo m p o).1.s = p.s ∧ (psDo m p o).1.L = p.L ∧ p.K ≠ p.L) := by
 obtain ⟨a, nl, hn⟩ := h.nt
 by_cases h6 : o.1 = 6
 ·have e : psDo m p o = psCo m p := by unfold psDo; rw [if_pos h6]
  rw [e]
  rcases nt_commit hn hs h.lk h.ll h.bl with ⟨k1, k2⟩ | ⟨k1, k2⟩ | ⟨k1, k2, k3, k4, _, _⟩ | ⟨k1, k2, k3, k4, k5, k6, _, k8⟩
  ·left
   unfold psCo
   rw [k2]
   refine ⟨⟨⟨a, nl, hn⟩, h.fl, h.fk, h.bl, h.bk, h.ll, h.lk, h.sn⟩, Int.le_refl _, by show p.s ≤ p.s + 1; omega, fun _ => by rw [if_pos k1], fun _ h0 => ?_, fun hne => absurd h6 hne⟩
   cases h0
  ·left
   unfold psCo
   rw [k2]
   have hz := (drt_zero h.lk h.ll).2 k1
   refine ⟨⟨⟨a, nl, ?_⟩, h.fl, h.fl, h.bl, h.bl, h.ll, h.ll, h.sn⟩, Int.le_refl _, by show p.s ≤ p.s + 1; omega, fun _ => by rw [hz]; rfl, fun _ _ => rfl, fun hne => absurd h6 hne⟩
   show Nt p.D m p.s (prt p.L) a nl
   rw [← k1]; exact hn
  ·left
   have hlen : (commitOut p.D p.s m (dfP p.K p.L m)).1.secs.length = n := by
    exact (commitOut_seclen p.D p.s m (dfP p.K p.L m)).trans h.sn
   have e1 : (commitOut p.D p.s m (dfP p.K p.L m)).2.1 = p.s + 1 := by rw [k3]
   have e2 : (commitOut p.D p.s m (dfP p.K p.L m)).2.2 = 0 := by rw [k3]
   unfold psCo
   rw [e1, e2]
   exact ⟨⟨k4, h.fl, h.fl, h.bl, h.bl, h.ll, h.ll, hlen⟩, by show p.s ≤ p.s + 1; omega, by show p.s + 1 ≤ p.s + 1; omega, fun _ => by rw [if_neg (by omega)], fun _ _ => rfl, fun hne => absurd h6 hne⟩
  ·right
   have e1 : (commitOut p.D p.s m (dfP p.K p.L m)).2.1 = p.s := by rw [k3]
   have e2 : (commitOut p.D p.s m (dfP p.K p.L m)).2.2 = 9 := by rw [k3]
   unfold psCo
   rw [e1, e2]
   exact ⟨h6, rfl, ⟨k4, k6, k8, h.fl, h.fk, h.fl, h.bl, h.bk, h.bl, h.ll, h.lk, h.ll, k5.trans h.sn⟩, rfl, rfl, rfl, k1⟩
 ·left
  by_cases h7 : o.1 = 7
  ·have e : psDo m p o = ({ p with L := p.K }, 0) := by unfold psDo; rw [if_neg h6, if_pos h7]
   rw [e]
   exact ⟨⟨h.nt, h.fk, h.fk, h.bk, h.bk, h.lk, h.lk, h.sn⟩, Int.le_refl _, by show p.s ≤ p.s + 1; omega, fun h => absurd h h6, fun h => absurd h h6, fun _ => ⟨rfl, rfl, rfl⟩⟩
  ·have e : psDo m p o = ({ p with L := doB p.L o }, opE p.L o) := by unfold psDo; rw [if_neg h6, if_neg h7]
   rw [e]
   obtain ⟨d1, d2⟩ := doB_fine h.fl o
   exact ⟨⟨h.nt, d1, h.fk, doB_byt h.bl o ho, h.bk, d2.trans h.ll, h.lk, h.sn⟩, Int.le_refl _, by show p.s ≤ p.s + 1; omega, fun h => absurd h h6, fun h => absurd h h6, fun _ => ⟨rfl, rfl, rfl⟩⟩
end
end Go.Proofs.YtknjdhnldfebjaaGreatDoor
namespace Go.Proofs.YtknjdhnldfebjaaGreatDoor
open Go.RowKit
set_option linter.unusedVariables false
section
variable {m n : Nat} {p : Ps} {N : List Int} {o : OpP}
theorem Pd.step (h : Pd m n p N) (o : OpP) (ho : Byt o.2.2.2.2.2) : Pd m n (psDo m p o).1 N ∧ (psDo m p o).1.K = p.K ∧ (psDo m p o).1.s = p.s ∧ (psDo m p o).1.D = p.D ∧ (o.1 = 6 → (psDo m p o).2 = if 23 < (drtN p.K p.L m).length then 4 else 9) := by
 by_cases h6 : o.1 = 6
 ·have e : psDo m p o = psCo m p := by unfold psDo; rw [if_pos h6]
  have hco := commitOut_down h.down p.s m (dfP p.K p.L m)
  have hce := dfP_commit (K := p.K) h.ll
  have he : (if commitE m (dfP p.K p.L m) ≠ 0 then commitE m (dfP p.K p.L m) else 9) = if 23 < (drtN p.K p.L m).length then 4 else 9 := by
   rw [hce]
   by_cases h23 : 23 < (drtN p.K p.L m).length
   ·rw [if_pos h23, if_pos h23]; rfl
   ·rw [if_neg h23, if_neg h23]; rfl
  rw [he] at hco
  rw [e]
  unfold psCo
  rw [hco]
  have hne : ¬ (if 23 < (drtN p.K p.L m).length then (4 : Int) else 9) = 0 := by split <;> decide
  dsimp only
  rw [if_neg hne]
  exact ⟨⟨h.ok, h.down, h.crash, h.fl, h.fk, h.fn, h.bl, h.bk, h.bn, h.ll, h.lk, h.ln, h.sn⟩, rfl, rfl, rfl, fun _ => rfl⟩
 ·by_cases h7 : o.1 = 7
  ·have e : psDo m p o = ({ p with L := p.K }, 0) := by unfold psDo; rw [if_neg h6, if_pos h7]
   rw [e]
   exact ⟨⟨h.ok, h.down, h.crash, h.fk, h.fk, h.fn, h.bk, h.bk, h.bn, h.lk, h.lk, h.ln, h.sn⟩, rfl, rfl, rfl, fun h => absurd h h6⟩
  ·have e : psDo m p o = ({ p with L := doB p.L o }, opE p.L o) := by unfold psDo; rw [if_neg h6, if_neg h7]
   rw [e]
   obtain ⟨d1, d2⟩ := doB_fine h.fl o
   exact ⟨⟨h.ok, h.down, h.crash, d1, h.fk, h.fn, doB_byt h.bl o ho, h.bk, h.bn, d2.trans h.ll, h.lk, h.ln, h.sn⟩, rfl, rfl, rfl, fun h => absurd h h6⟩
theorem Pu.ever (h : Pu m n p) (hs : p.s ≤ 999) (hl : p.D.left < 0) (o : OpP) (ho : Byt o.2.2.2.2.2) :
  Pu m n (psDo m p o).1 ∧ (psDo m p o).1.D.left < 0 ∧ p.s ≤ (psDo m p o).1.s ∧ (psDo m p o).1.s ≤ p.s + 1 ∧ (o.1 = 6 → (psDo m p o).2 = if 23 < (drtN p.K p.L m).length then 4 else 0) ∧ (o.1 = 6 → (psDo m p o).2 = 0 → (psDo m p o).1.K = p.L) ∧ (o.1 ≠ 6 → (psDo m p o).1.K = p.K ∧ (psDo m p o).1.D = p.D ∧ (psDo m p o).1.s = p.s) := by
 have hleft : (psDo m p o).1.D.left < 0 ∧ (o.1 = 6 → (psDo m p o).2 ≠ 9) := by
  by_cases h6 : o.1 = 6
  ·have e : psDo m p o = psCo m p := by unfold psDo; rw [if_pos h6]
   rw [e]
   obtain ⟨a, nl, hn⟩ := h.nt
   have hev := Ever.commit (s := p.s) (l := dfP p.K p.L m) hl hn.down
   rcases nt_commit hn hs h.lk h.ll h.bl with ⟨k1, k2⟩ | ⟨k1, k2⟩ | ⟨k1, k2, k3, k4, k5, k6⟩ | ⟨_, _, _, _, _, _, k7, _⟩
   ·unfold psCo; rw [k2]; exact ⟨hl, fun _ => by show (4 : Int) ≠ 9; decide⟩
   ·unfold psCo; rw [k2]; exact ⟨hl, fun _ => by show (0 : Int) ≠ 9; decide⟩
   ·unfold psCo; rw [k5]; exact ⟨hev.2, fun _ => by show (0 : Int) ≠ 9; decide⟩
   ·exact absurd k7 hev.1
  ·refine ⟨?_, fun h => absurd h h6⟩
   by_cases h7 : o.1 = 7
   ·have e : psDo m p o = ({ p with L := p.K }, 0) := by unfold psDo; rw [if_neg h6, if_pos h7]
    rw [e]; exact hl
   ·have e : psDo m p o = ({ p with L := doB p.L o }, opE p.L o) := by unfold psDo; rw [if_neg h6, if_neg h7]
    rw [e]; exact hl
 rcases h.step hs o ho with ⟨h1, h2, h3, h4⟩ | ⟨h6, h9, _⟩
 ·exact ⟨h1, hleft.1, h2, h3, h4⟩
 ·exact absurd h9 (hleft.2 h6)
theorem pu_run : ∀ (l : List OpP) {p : Ps}, Pu m n p → p.D.left < 0 → p.s + l.length ≤ 1000 → (∀ o ∈ l, Byt o.2.2.2.2.2) → Pu m n (psRun m p l) ∧ (psRun m p l).D.left < 0 ∧ p.s ≤ (psRun m p l).s ∧ (psRun m p l).s ≤ p.s + l.length
 | [], p, h, hl, _, _ => ⟨h, hl, Int.le_refl _, by show p.s ≤ p.s + ((0 : Nat) : Int); omega⟩
 | o :: l, p, h, hl, hs, hb => by
  rw [List.length_cons] at hs
  obtain ⟨h1, h2, h3, h4, _⟩ := h.ever (by omega) hl o (hb o (by simp))
  obtain ⟨i1, i2, i3, i4⟩ := pu_run l h1 h2 (by omega) (fun x hx => hb x (by simp [hx]))
  refine ⟨i1, i2, by show p.s ≤ (psRun m (psDo m p o).1 l).s; omega, ?_⟩
  show (psRun m (psDo m p o).1 l).s ≤ p.s + ((l.length + 1 : Nat) : Int)
  omega
end
end Go.Proofs.YtknjdhnldfebjaaGreatDoor
namespace Go.Proofs.YtknjdhnldfebjaaGreatDoor
open Go.RowKit
set_option linter.unusedVariables false
section
variable {m n : Nat}
end
end Go.Proofs.YtknjdhnldfebjaaGreatDoor
namespace Go.Proofs.YtknjdhnldfebjaaGreatDoor
open Go.RowKit
set_option linter.unusedVariables false
section
variable {m n : Nat}
end
end Go.Proofs.YtknjdhnldfebjaaGreatDoor
