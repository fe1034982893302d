/-
  Joined by program: OpPlain; OnPlain; PyPlain; PyRun; PyCut; PySteps. (Parts of the proofs over the packages of the program.)
-/
import Derived.Test.YtmmgadnicodakaaGreatDoorJMvp
import Derived.Test.YtmmgadnicodakaaGreatDoorJWy
import Derived.Test.YtmmgadnicodakaaGreatDoorJRtp
import Derived.Test.YtmmgadnicodakaaGreatDoorJHal
import Derived.Test.YtmmgadnicodakaaGreatDoorJHpc
import Derived.Test.YtmmgadnicodakaaGreatDoorJPgp
namespace Go.Proofs.YtmmgadnicodakaaGreatDoor
open Go.RowKit
set_option linter.unusedVariables false
abbrev OpP := Int × Int × Int × Int × ByteArray × List Int
section
variable {L : List Int}
theorem wrB_fine (hf : Fine L) (h x : Int) (l : List Int) : Fine (wrB L h x l) ∧ (wrB L h x l).length = L.length := by
 unfold wrB
 by_cases h0 : pcE L h x l.length = 0
 ·rw [if_pos h0]
  obtain ⟨c0, x0, _, x2⟩ := pcE_zero.1 h0
  have hh := hndB_iff.1 (chkE_zero.1 c0).2.1
  obtain ⟨X, rfl⟩ := Int.eq_ofNat_of_zero_le x0
  rw [Int.toNat_natCast]
  obtain ⟨q1, q2, _⟩ := write_keep hf hh.1 hh.2 (chkE_zero.1 c0).2.2 (p := X) (r := l) x2
  exact ⟨q1, q2⟩
 ·rw [if_neg h0]; exact ⟨hf, rfl⟩
theorem wrB_byt (hb : Byt L) (h x : Int) {l : List Int} (hl : Byt l) : Byt (wrB L h x l) := by
 unfold wrB
 by_cases h0 : pcE L h x l.length = 0
 ·rw [if_pos h0]; exact byt_splice hb hl
 ·rw [if_neg h0]; exact hb
theorem dropL_len (hf : Fine L) {h : Int} (hc : chkE L h = 0) : (dropL L h).length = L.length := by
 have hh := hndB_iff.1 (chkE_zero.1 hc).2.1
 have hp := plc_le hh.1 hh.2
 have hl := hf.len
 unfold dropL
 rw [if_pos hc, length_splice (by rw [length_zerosB]; omega)]
theorem frB_fine (hf : Fine L) (h : Int) : Fine (frB L h) ∧ (frB L h).length = L.length := by
 unfold frB
 by_cases h0 : frE L h = 0
 ·rw [if_pos h0]; exact ⟨drop_ok hf h0, dropL_len hf (frE_zero.1 h0).1⟩
 ·rw [if_neg h0]; exact ⟨hf, rfl⟩
theorem frB_byt (hb : Byt L) (h : Int) : Byt (frB L h) := by
 unfold frB
 by_cases h0 : frE L h = 0
 ·rw [if_pos h0]; exact byt_drop hb h
 ·rw [if_neg h0]; exact hb
theorem al_len (hf : Fine L) (n t : Int) : (alB L n t).length = L.length := by
 by_cases h0 : alE L n t = 0
 ·obtain ⟨x, N, hk⟩ := al_ok hf h0
  exact (hk.keep hf h0).2.1
 ·unfold alB; rw [if_neg h0]
theorem seF_fine (hf : Fine L) (s : ByteArray) (x : Int) : Fine (seF L s x) ∧ (seF L s x).length = L.length := by
 unfold seF
 by_cases h0 : seE L s x = 0
 ·rw [if_pos h0]; exact ⟨(se_fine hf h0).1, (se_row hf h0).len⟩
 ·rw [if_neg h0]; exact ⟨hf, rfl⟩
theorem seF_byt (hb : Byt L) (s : ByteArray) (x : Int) : Byt (seF L s x) := by
 unfold seF
 by_cases h0 : seE L s x = 0
 ·rw [if_pos h0]; exact se_byt hb s x
 ·rw [if_neg h0]; exact hb
theorem unF_fine (hf : Fine L) (s : ByteArray) : Fine (unF L s) ∧ (unF L s).length = L.length := by
 unfold unF
 by_cases h0 : unE L s = 0
 ·rw [if_pos h0]; exact ⟨un_fine hf h0, (un_row hf h0).len⟩
 ·rw [if_neg h0]; exact ⟨hf, rfl⟩
theorem unF_byt (hb : Byt L) (s : ByteArray) : Byt (unF L s) := by
 unfold unF
 by_cases h0 : unE L s = 0
 ·rw [if_pos h0]; exact un_byt hb s
 ·rw [if_neg h0]; exact hb
def mvT (L : List Int) : List Int := (mvS L).getD L
theorem mvT_fine (hf : Fine L) : Fine (mvT L) ∧ (mvT L).length = L.length := by
 unfold mvT
 cases h : mvS L with
 | none => exact ⟨hf, rfl⟩
 | some c =>
  have := (step_as hf h).1
  exact ⟨this.fine, this.len⟩
theorem mvT_byt (hb : Byt L) : Byt (mvT L) := by
 unfold mvT mvS
 cases h : mvOn 288 (srtE L) with
 | none => exact hb
 | some x => exact mv_byt hb _ _
def swT (L : List Int) : List Int := swL L (ddK L 40)
theorem swL_byt : ∀ (D : List Int) {b : List Int}, Byt b → Byt (swL b D)
 | [], b, hb => hb
 | h :: D, b, hb => swL_byt D (byt_drop hb h)
theorem swT_fine (hf : Fine L) : Fine (swT L) ∧ (swT L).length = L.length := ⟨(sweep_swept hf).fine, (sweep_swept hf).len⟩
def doB (L : List Int) (o : OpP) : List Int :=
 if o.1 = 1 then alB L o.2.2.2.1 o.2.2.1
 else if o.1 = 2 then frB L o.2.1
 else if o.1 = 3 then wrB L o.2.1 o.2.2.1 o.2.2.2.2.2
 else if o.1 = 4 then seF L o.2.2.2.2.1 o.2.1
 else if o.1 = 5 then unF L o.2.2.2.2.1
 else if o.1 = 8 then mvT L
 else if o.1 = 9 then swT L
 else L
theorem doB_fine (hf : Fine L) (o : OpP) : Fine (doB L o) ∧ (doB L o).length = L.length := by
 unfold doB
 split
 ·exact ⟨alB_fine hf _ _, al_len hf _ _⟩
 ·split
  ·exact frB_fine hf _
  ·split
   ·exact wrB_fine hf _ _ _
   ·split
    ·exact seF_fine hf _ _
    ·split
     ·exact unF_fine hf _
     ·split
      ·exact mvT_fine hf
      ·split
       ·exact swT_fine hf
       ·exact ⟨hf, rfl⟩
theorem doB_byt (hb : Byt L) (o : OpP) (ho : Byt o.2.2.2.2.2) : Byt (doB L o) := by
 unfold doB
 split
 ·exact alB_byt hb _ _
 ·split
  ·exact frB_byt hb _
  ·split
   ·exact wrB_byt hb _ _ ho
   ·split
    ·exact seF_byt hb _ _
    ·split
     ·exact unF_byt hb _
     ·split
      ·exact mvT_byt hb
      ·split
       ·exact swL_byt _ hb
       ·exact hb
end
end Go.Proofs.YtmmgadnicodakaaGreatDoor
namespace Go.Proofs.YtmmgadnicodakaaGreatDoor
open Go.RowKit
set_option linter.unusedVariables false
section
variable {L : List Int} {N n : Nat} {t : Int}
theorem first_made (h1 : 288 + n ≤ N) (h2 : N ≤ 6400) (n1 : 1 ≤ n) (n2 : n ≤ 1000) (t1 : 0 ≤ t) (t2 : t ≤ 15) :
  alE (zerosB N) n t = 0 ∧ alH (zerosB N) n t = 1 ∧ Fine (alB (zerosB N) n t) ∧ (alB (zerosB N) n t).length = N ∧ chkE (alB (zerosB N) n t) 1 = 0 ∧ objOf (alB (zerosB N) n t) 1 = (t, zerosB n) ∧ (entOf (alB (zerosB N) n t) 1).2.2.1 = n ∧
  (∀ h : Int, 1 ≤ h → h ≤ 40 → h ≠ 1 → tagAt (alB (zerosB N) n t) h = 0) ∧ ∀ j, j < 8 → isRoot (rowAt (alB (zerosB N) n t) j) = false := by
 obtain ⟨z1, z2, z3⟩ := zeros_fine (n := N) (by omega) h2
 have hzl := length_zerosB N
 have hlow : lowH (zerosB N) = 0 := (lowH_first _).unique ⟨Nat.zero_le _, fun j hj => absurd hj (Nat.not_lt_zero j), fun _ => decide_eq_true (z2 _)⟩
 have h0 : alE (zerosB N) n t = 0 := al_room (p := 0) z1 (by omega) (by omega) (by omega) t1 t2 (by decide) (by rw [hzl]; omega) (fun e he => by
  obtain ⟨h, _, _, ht, _⟩ := mem_takeL.1 he
  exact absurd (z2 h) ht)
 obtain ⟨x, M, hk⟩ := al_ok z1 h0
 obtain ⟨k1, k2, k3, k4, k5, k6⟩ := hk.keep z1 h0
 have hM : M = n := by have := hk.eqn; omega
 subst hM
 rw [hlow] at k3 k4 k5 k6
 have k5' : tagAt (alB (zerosB N) M t) 1 ≠ 0 := k5
 have k4' : entOf (alB (zerosB N) M t) 1 = (1, (x : Int), (M : Int), t) := k4
 refine ⟨h0, by unfold alH; rw [if_pos h0, hlow]; rfl, k1, k2.trans hzl, chkE_zero.2 ⟨k1.len0, by decide, k5'⟩, k3, by rw [k4'], fun h a b c => ?_, fun j hj => ?_⟩
 ·rw [(k6 h a b (by simpa using c)).2.1]; exact z2 h
 ·rw [al_rows z1 h0 hj]; exact z3 j hj
end
end Go.Proofs.YtmmgadnicodakaaGreatDoor
namespace Go.Proofs.YtmmgadnicodakaaGreatDoor
open Go.RowKit
set_option linter.unusedVariables false
structure Ps where
 D : DS
 s : Int
 L : List Int
 K : List Int
def psCo (m : Nat) (p : Ps) : Ps × Int :=
 (⟨(commitOut p.D p.s m (dfP p.K p.L m)).1, (commitOut p.D p.s m (dfP p.K p.L m)).2.1, p.L, if (commitOut p.D p.s m (dfP p.K p.L m)).2.2 = 0 then p.L else p.K⟩, (commitOut p.D p.s m (dfP p.K p.L m)).2.2)
def opE (L : List Int) (o : OpP) : Int :=
 if o.1 = 1 then alE L o.2.2.2.1 o.2.2.1
 else if o.1 = 2 then frE L o.2.1
 else if o.1 = 3 then pcE L o.2.1 o.2.2.1 o.2.2.2.2.2.length
 else if o.1 = 4 then seE L o.2.2.2.2.1 o.2.1
 else if o.1 = 5 then unE L o.2.2.2.2.1
 else if o.1 = 8 then 0
 else if o.1 = 9 then 0
 else 1
def psDo (m : Nat) (p : Ps) (o : OpP) : Ps × Int :=
 if o.1 = 6 then psCo m p else if o.1 = 7 then ({ p with L := p.K }, 0) else ({ p with L := doB p.L o }, opE p.L o)
def psRun (m : Nat) (p : Ps) : List OpP → Ps
 | [] => p
 | o :: l => psRun m (psDo m p o).1 l
def stN (m : Nat) (p : Ps) (o : OpP) : Nat := if o.1 = 6 ∧ 0 < (drtN p.K p.L m).length ∧ (drtN p.K p.L m).length ≤ 23 then 2 * (drtN p.K p.L m).length + 4 else 0
def stSum (m : Nat) (p : Ps) : List OpP → Nat
 | [] => 0
 | o :: l => stN m p o + stSum m (psDo m p o).1 l
theorem psRun_append (m : Nat) : ∀ (l r : List OpP) (p : Ps), psRun m p (l ++ r) = psRun m (psRun m p l) r
 | [], r, p => rfl
 | o :: l, r, p => psRun_append m l r (psDo m p o).1
structure Pu (m n : Nat) (p : Ps) : Prop where
 nt : ∃ a nl, Nt p.D m p.s (prt p.K) a nl
 fl : Fine p.L
 fk : Fine p.K
 bl : Byt p.L
 bk : Byt p.K
 ll : p.L.length = 32 * m
 lk : p.K.length = 32 * m
 sn : p.D.secs.length = n
structure Pd (m n : Nat) (p : Ps) (N : List Int) : Prop where
 ok : p.D.Ok
 down : p.D.down = true
 crash : ∀ keep torn c, c ≤ 32 → Rdy (p.D.crash keep torn c) m p.s (prt p.K) ∨ Rdy (p.D.crash keep torn c) m (p.s + 1) (prt N)
 fl : Fine p.L
 fk : Fine p.K
 fn : Fine N
 bl : Byt p.L
 bk : Byt p.K
 bn : Byt N
 ll : p.L.length = 32 * m
 lk : p.K.length = 32 * m
 ln : N.length = 32 * m
 sn : p.D.secs.length = n
section
variable {m n : Nat} {p : Ps} {N : List Int}
theorem drt_zero {K L : List Int} (hK : K.length = 32 * m) (hL : L.length = 32 * m) : (drtN K L m).length = 0 ↔ K = L := by
 rw [← dfP_len, ← dfP_nil hK hL]
 exact ⟨List.eq_nil_of_length_eq_zero, fun h => by rw [h]; rfl⟩
theorem Pu.step (h : Pu m n p) (hs : p.s ≤ 999) (o : OpP) (ho : Byt o.2.2.2.2.2) :
  (Pu m n (psDo m p o).1 ∧ p.s ≤ (psDo m p o).1.s ∧ (psDo m p o).1.s ≤ p.s + 1 ∧ (o.1 = 6 → (psDo m p o).2 = if 23 < (drtN p.K p.L m).length then 4 else 0) ∧ (o.1 = 6 → (psDo m p o).2 = 0 → (psDo m p o).1.K = p.L) ∧ (o.1 ≠ 6 → (psDo m p o).1.K = p.K ∧ (psDo m p o).1.D = p.D ∧ (psDo m p o).1.s = p.s)) ∨
  (o.1 = 6 ∧ (psDo m p o).2 = 9 ∧ Pd m n (psDo m p o).1 p.L ∧ (psDo m p o).1.K = p.K ∧ (psDo m p o).1.s = p.s ∧ (psDo m p o).1.L = p.L ∧ p.K ≠ p.L) := by
 obtain ⟨a, nl, hn⟩ := h.nt
 by_cases h6 : o.1 = 6
 ·have e : psDo m p o = psCo m p := by unfold psDo; rw [if_pos h6]
  rw [e]
  rcases nt_commit hn hs h.lk h.ll h.bl with ⟨k1, k2⟩ | ⟨k1, k2⟩ | ⟨k1, k2, k3, k4, _, _⟩ | ⟨k1, k2, k3, k4, k5, k6, _, k8⟩
  ·left
   unfold psCo
   rw [k2]
   refine ⟨⟨⟨a, nl, hn⟩, h.fl, h.fk, h.bl, h.bk, h.ll, h.lk, h.sn⟩, Int.le_refl _, by show p.s ≤ p.s + 1; omega, fun _ => by rw [if_pos k1], fun _ h0 => ?_, fun hne => absurd h6 hne⟩
   cases h0
  ·left
   unfold psCo
   rw [k2]
   have hz := (drt_zero h.lk h.ll).2 k1
   refine ⟨⟨⟨a, nl, ?_⟩, h.fl, h.fl, h.bl, h.bl, h.ll, h.ll, h.sn⟩, Int.le_refl _, by show p.s ≤ p.s + 1; omega, fun _ => by rw [hz]; rfl, fun _ _ => rfl, fun hne => absurd h6 hne⟩
   show Nt p.D m p.s (prt p.L) a nl
   rw [← k1]; exact hn
  ·left
   have hlen : (commitOut p.D p.s m (dfP p.K p.L m)).1.secs.length = n := by
    exact (commitOut_seclen p.D p.s m (dfP p.K p.L m)).trans h.sn
   have e1 : (commitOut p.D p.s m (dfP p.K p.L m)).2.1 = p.s + 1 := by rw [k3]
   have e2 : (commitOut p.D p.s m (dfP p.K p.L m)).2.2 = 0 := by rw [k3]
   unfold psCo
   rw [e1, e2]
   exact ⟨⟨k4, h.fl, h.fl, h.bl, h.bl, h.ll, h.ll, hlen⟩, by show p.s ≤ p.s + 1; omega, by show p.s + 1 ≤ p.s + 1; omega, fun _ => by rw [if_neg (by omega)], fun _ _ => rfl, fun hne => absurd h6 hne⟩
  ·right
   have e1 : (commitOut p.D p.s m (dfP p.K p.L m)).2.1 = p.s := by rw [k3]
   have e2 : (commitOut p.D p.s m (dfP p.K p.L m)).2.2 = 9 := by rw [k3]
   unfold psCo
   rw [e1, e2]
   exact ⟨h6, rfl, ⟨k4, k6, k8, h.fl, h.fk, h.fl, h.bl, h.bk, h.bl, h.ll, h.lk, h.ll, k5.trans h.sn⟩, rfl, rfl, rfl, k1⟩
 ·left
  by_cases h7 : o.1 = 7
  ·have e : psDo m p o = ({ p with L := p.K }, 0) := by unfold psDo; rw [if_neg h6, if_pos h7]
   rw [e]
   exact ⟨⟨h.nt, h.fk, h.fk, h.bk, h.bk, h.lk, h.lk, h.sn⟩, Int.le_refl _, by show p.s ≤ p.s + 1; omega, fun h => absurd h h6, fun h => absurd h h6, fun _ => ⟨rfl, rfl, rfl⟩⟩
  ·have e : psDo m p o = ({ p with L := doB p.L o }, opE p.L o) := by unfold psDo; rw [if_neg h6, if_neg h7]
   rw [e]
   obtain ⟨d1, d2⟩ := doB_fine h.fl o
   exact ⟨⟨h.nt, d1, h.fk, doB_byt h.bl o ho, h.bk, d2.trans h.ll, h.lk, h.sn⟩, Int.le_refl _, by show p.s ≤ p.s + 1; omega, fun h => absurd h h6, fun h => absurd h h6, fun _ => ⟨rfl, rfl, rfl⟩⟩
end
end Go.Proofs.YtmmgadnicodakaaGreatDoor
namespace Go.Proofs.YtmmgadnicodakaaGreatDoor
open Go.RowKit
set_option linter.unusedVariables false
theorem left_w {x : DS × Int} {i : Int} {b : List Int} (h : 0 ≤ x.1.left) (h0 : (andW x i b).2 = 0) : x.2 = 0 ∧ (andW x i b).1.left = x.1.left - 1 ∧ 1 ≤ x.1.left := by
 obtain ⟨a1, a2, a3⟩ := andW_zero h0
 have h5 := (writeE_zero a2).2.2.2.2
 refine ⟨a1, ?_, by omega⟩
 rw [a3, write_eq a2]
 unfold DS.step
 have : (x.1.put i.toNat b).left = x.1.left := rfl
 rw [this, if_neg h5, if_pos (by omega)]
theorem left_f {x : DS × Int} (h : 0 ≤ x.1.left) (h0 : (andF x).2 = 0) : x.2 = 0 ∧ (andF x).1.left = x.1.left - 1 ∧ 1 ≤ x.1.left := by
 obtain ⟨a1, a2, a3⟩ := andF_zero h0
 have h5 : ¬ x.1.left = 0 := by
  intro e
  unfold DS.flushE at a2
  by_cases c : x.1.down = true
  ·rw [if_pos c] at a2; cases a2
  ·rw [if_neg c, if_pos e] at a2; cases a2
 refine ⟨a1, ?_, by omega⟩
 rw [a3, (flush_eq a2).1]
 show x.1.step.left = _
 unfold DS.step
 rw [if_neg h5, if_pos (by omega)]
theorem left_ws {x : DS × Int} {f : Nat → Int × List Int} (h : 0 ≤ x.1.left) : ∀ k : Nat, (wsF x f k).2 = 0 → x.2 = 0 ∧ (wsF x f k).1.left = x.1.left - k ∧ (k : Int) ≤ x.1.left
 | 0, h0 => ⟨h0, by show x.1.left = x.1.left - ((0 : Nat) : Int); omega, by omega⟩
 | k + 1, h0 => by
  have h0' : (andW (wsF x f k) (f k).1 (f k).2).2 = 0 := h0
  obtain ⟨i1, i2, i3⟩ := left_ws h k (andW_zero h0').1
  obtain ⟨j1, j2, j3⟩ := left_w (by omega) h0'
  refine ⟨i1, ?_, by omega⟩
  show (andW (wsF x f k) (f k).1 (f k).2).1.left = _
  rw [j2, i2]
  omega
theorem left_commit {D : DS} {s : Int} {l : List (Int × List Int)} (h : 0 ≤ D.left) (h0 : (commitRun D s l).2 = 0) : 2 * (l.length : Int) + 4 ≤ D.left := by
 unfold commitRun commitC at h0
 have c1 := (andF_zero h0).1
 have b0 := wsF_prev _ c1
 have b0' := b0
 unfold commitB at b0
 have b1 := (andF_zero b0).1
 have a0 : (commitA D ((s + 1) % 2) l).2 = 0 := by
  by_cases h : (commitA D ((s + 1) % 2) l).2 = 0
  ·exact h
  ·rw [if_neg h] at b1; exact b1
 have mk : (makeOut (s + 1) (markB l)).2 = 0 := by
  by_cases h : (makeOut (s + 1) (markB l)).2 = 0
  ·exact h
  ·rw [if_pos a0, if_neg h] at b1; exact b1
 have eB : commitB (commitA D ((s + 1) % 2) l) ((s + 1) % 2) (s + 1) l = andF (andW (commitA D ((s + 1) % 2) l) ((s + 1) % 2) (makeOut (s + 1) (markB l)).1) := by
  unfold commitB
  rw [if_pos a0, if_pos mk]
 have a0' := a0
 unfold commitA at a0'
 have a1 := (andF_zero a0').1
 obtain ⟨_, p2, p3⟩ := left_ws (x := (D, 0)) h _ a1
 obtain ⟨_, q2, q3⟩ := left_f (by rw [p2]; show 0 ≤ D.left - _; have : (l.length : Int) ≤ D.left := p3; omega) a0'
 have qA : (commitA D ((s + 1) % 2) l).1.left = D.left - l.length - 1 := by
  unfold commitA
  rw [q2, p2]
 have q3' : 1 ≤ D.left - (l.length : Int) := by rw [p2] at q3; exact q3
 rw [eB] at b0' c1 h0
 have w0 := (andF_zero b0').1
 obtain ⟨_, r2, r3⟩ := left_w (by rw [qA]; omega) w0
 obtain ⟨_, s2, s3⟩ := left_f (by rw [r2, qA]; rw [qA] at r3; omega) b0'
 rw [r2, qA] at s2 s3
 obtain ⟨_, t2, t3⟩ := left_ws (by rw [s2]; omega) _ c1
 obtain ⟨_, u2, u3⟩ := left_f (by rw [t2]; omega) h0
 rw [t2, s2] at u3
 omega
def wlP (p : Ps) (q : Int) : Ps := { p with D := wl p.D q }
section
variable {m n : Nat} {p : Ps} {N : List Int} {o : OpP}
theorem Pd.step (h : Pd m n p N) (o : OpP) (ho : Byt o.2.2.2.2.2) : Pd m n (psDo m p o).1 N ∧ (psDo m p o).1.K = p.K ∧ (psDo m p o).1.s = p.s ∧ (psDo m p o).1.D = p.D ∧ (o.1 = 6 → (psDo m p o).2 = if 23 < (drtN p.K p.L m).length then 4 else 9) := by
 by_cases h6 : o.1 = 6
 ·have e : psDo m p o = psCo m p := by unfold psDo; rw [if_pos h6]
  have hco := commitOut_down h.down p.s m (dfP p.K p.L m)
  have hce := dfP_commit (K := p.K) h.ll
  have he : (if commitE m (dfP p.K p.L m) ≠ 0 then commitE m (dfP p.K p.L m) else 9) = if 23 < (drtN p.K p.L m).length then 4 else 9 := by
   rw [hce]
   by_cases h23 : 23 < (drtN p.K p.L m).length
   ·rw [if_pos h23, if_pos h23]; rfl
   ·rw [if_neg h23, if_neg h23]; rfl
  rw [he] at hco
  rw [e]
  unfold psCo
  rw [hco]
  have hne : ¬ (if 23 < (drtN p.K p.L m).length then (4 : Int) else 9) = 0 := by split <;> decide
  dsimp only
  rw [if_neg hne]
  exact ⟨⟨h.ok, h.down, h.crash, h.fl, h.fk, h.fn, h.bl, h.bk, h.bn, h.ll, h.lk, h.ln, h.sn⟩, rfl, rfl, rfl, fun _ => rfl⟩
 ·by_cases h7 : o.1 = 7
  ·have e : psDo m p o = ({ p with L := p.K }, 0) := by unfold psDo; rw [if_neg h6, if_pos h7]
   rw [e]
   exact ⟨⟨h.ok, h.down, h.crash, h.fk, h.fk, h.fn, h.bk, h.bk, h.bn, h.lk, h.lk, h.ln, h.sn⟩, rfl, rfl, rfl, fun h => absurd h h6⟩
  ·have e : psDo m p o = ({ p with L := doB p.L o }, opE p.L o) := by unfold psDo; rw [if_neg h6, if_neg h7]
   rw [e]
   obtain ⟨d1, d2⟩ := doB_fine h.fl o
   exact ⟨⟨h.ok, h.down, h.crash, d1, h.fk, h.fn, doB_byt h.bl o ho, h.bk, h.bn, d2.trans h.ll, h.lk, h.ln, h.sn⟩, rfl, rfl, rfl, fun h => absurd h h6⟩
theorem pd_run : ∀ (l : List OpP) {p : Ps}, Pd m n p N → (∀ o ∈ l, Byt o.2.2.2.2.2) → Pd m n (psRun m p l) N ∧ (psRun m p l).K = p.K ∧ (psRun m p l).s = p.s ∧ (psRun m p l).D = p.D
 | [], p, h, _ => ⟨h, rfl, rfl, rfl⟩
 | o :: l, p, h, hb => by
  obtain ⟨h1, h2, h3, h4, _⟩ := h.step o (hb o (by simp))
  obtain ⟨i1, i2, i3, i4⟩ := pd_run l h1 (fun x hx => hb x (by simp [hx]))
  exact ⟨i1, i2.trans h2, i3.trans h3, i4.trans h4⟩
theorem Pu.ever (h : Pu m n p) (hs : p.s ≤ 999) (hl : p.D.left < 0) (o : OpP) (ho : Byt o.2.2.2.2.2) :
  Pu m n (psDo m p o).1 ∧ (psDo m p o).1.D.left < 0 ∧ p.s ≤ (psDo m p o).1.s ∧ (psDo m p o).1.s ≤ p.s + 1 ∧ (o.1 = 6 → (psDo m p o).2 = if 23 < (drtN p.K p.L m).length then 4 else 0) ∧ (o.1 = 6 → (psDo m p o).2 = 0 → (psDo m p o).1.K = p.L) ∧ (o.1 ≠ 6 → (psDo m p o).1.K = p.K ∧ (psDo m p o).1.D = p.D ∧ (psDo m p o).1.s = p.s) := by
 have hleft : (psDo m p o).1.D.left < 0 ∧ (o.1 = 6 → (psDo m p o).2 ≠ 9) := by
  by_cases h6 : o.1 = 6
  ·have e : psDo m p o = psCo m p := by unfold psDo; rw [if_pos h6]
   rw [e]
   obtain ⟨a, nl, hn⟩ := h.nt
   have hev := Ever.commit (s := p.s) (l := dfP p.K p.L m) hl hn.down
   rcases nt_commit hn hs h.lk h.ll h.bl with ⟨k1, k2⟩ | ⟨k1, k2⟩ | ⟨k1, k2, k3, k4, k5, k6⟩ | ⟨_, _, _, _, _, _, k7, _⟩
   ·unfold psCo; rw [k2]; exact ⟨hl, fun _ => by show (4 : Int) ≠ 9; decide⟩
   ·unfold psCo; rw [k2]; exact ⟨hl, fun _ => by show (0 : Int) ≠ 9; decide⟩
   ·unfold psCo; rw [k5]; exact ⟨hev.2, fun _ => by show (0 : Int) ≠ 9; decide⟩
   ·exact absurd k7 hev.1
  ·refine ⟨?_, fun h => absurd h h6⟩
   by_cases h7 : o.1 = 7
   ·have e : psDo m p o = ({ p with L := p.K }, 0) := by unfold psDo; rw [if_neg h6, if_pos h7]
    rw [e]; exact hl
   ·have e : psDo m p o = ({ p with L := doB p.L o }, opE p.L o) := by unfold psDo; rw [if_neg h6, if_neg h7]
    rw [e]; exact hl
 rcases h.step hs o ho with ⟨h1, h2, h3, h4⟩ | ⟨h6, h9, _⟩
 ·exact ⟨h1, hleft.1, h2, h3, h4⟩
 ·exact absurd h9 (hleft.2 h6)
theorem pu_run : ∀ (l : List OpP) {p : Ps}, Pu m n p → p.D.left < 0 → p.s + l.length ≤ 1000 → (∀ o ∈ l, Byt o.2.2.2.2.2) → Pu m n (psRun m p l) ∧ (psRun m p l).D.left < 0 ∧ p.s ≤ (psRun m p l).s ∧ (psRun m p l).s ≤ p.s + l.length
 | [], p, h, hl, _, _ => ⟨h, hl, Int.le_refl _, by show p.s ≤ p.s + ((0 : Nat) : Int); omega⟩
 | o :: l, p, h, hl, hs, hb => by
  rw [List.length_cons] at hs
  obtain ⟨h1, h2, h3, h4, _⟩ := h.ever (by omega) hl o (hb o (by simp))
  obtain ⟨i1, i2, i3, i4⟩ := pu_run l h1 h2 (by omega) (fun x hx => hb x (by simp [hx]))
  refine ⟨i1, i2, by show p.s ≤ (psRun m (psDo m p o).1 l).s; omega, ?_⟩
  show (psRun m (psDo m p o).1 l).s ≤ p.s + ((l.length + 1 : Nat) : Int)
  omega
theorem Pu.lefts (h : Pu m n p) {q : Int} (hq : -9223372036854775808 ≤ q ∧ q ≤ 9223372036854775807) : Pu m n (wlP p q) := by
 obtain ⟨a, nl, hn⟩ := h.nt
 exact ⟨⟨a, nl, hn.fail hq⟩, h.fl, h.fk, h.bl, h.bk, h.ll, h.lk, h.sn⟩
theorem Pu.sim (h : Pu m n p) (hs : p.s ≤ 999) (hl : p.D.left < 0) (o : OpP) (ho : Byt o.2.2.2.2.2) {q : Int} (h0 : 0 ≤ q) (hq : q ≤ 9223372036854775807) :
  ((stN m p o : Int) ≤ q ∧ psDo m (wlP p q) o = (wlP (psDo m p o).1 (q - stN m p o), (psDo m p o).2)) ∨
  (q < stN m p o ∧ o.1 = 6 ∧ (psDo m p o).2 = 0 ∧ (psDo m p o).1.K = p.L ∧ Pd m n (psDo m (wlP p q) o).1 p.L ∧ (psDo m (wlP p q) o).1.K = p.K ∧ (psDo m (wlP p q) o).1.s = p.s ∧ (psDo m (wlP p q) o).2 = 9) := by
 by_cases h6 : o.1 = 6
 ·have e : ∀ p', psDo m p' o = psCo m p' := fun p' => by unfold psDo; rw [if_pos h6]
  rw [e, e]
  obtain ⟨a, nl, hn⟩ := h.nt
  have hn2 : Nt (wl p.D q) m p.s (prt p.K) a nl := hn.fail ⟨by omega, hq⟩
  have hev := Ever.commit (s := p.s) (l := dfP p.K p.L m) hl hn.down
  have hz := drt_zero h.lk h.ll
  rcases nt_commit hn hs h.lk h.ll h.bl with ⟨k1, k2⟩ | ⟨k1, k2⟩ | ⟨k1, k2, k3, k4, k5, k6⟩ | ⟨_, _, _, _, _, _, k7, _⟩
  ·left
   have hst : stN m p o = 0 := by unfold stN; rw [if_neg (by omega)]
   rw [hst]
   rcases nt_commit hn2 hs h.lk h.ll h.bl with ⟨j1, j2⟩ | ⟨j1, _⟩ | ⟨_, j2, _⟩ | ⟨_, j2, _⟩
   ·refine ⟨h0, ?_⟩
    unfold psCo wlP
    dsimp only
    rw [j2, k2, show q - ((0 : Nat) : Int) = q by omega]
   ·have := hz.2 j1; omega
   ·omega
   ·omega
  ·left
   have hz0 := hz.2 k1
   have hst : stN m p o = 0 := by unfold stN; rw [if_neg (by omega)]
   rw [hst]
   rcases nt_commit hn2 hs h.lk h.ll h.bl with ⟨j1, _⟩ | ⟨j1, j2⟩ | ⟨j1, _⟩ | ⟨j1, _⟩
   ·omega
   ·refine ⟨h0, ?_⟩
    unfold psCo wlP
    dsimp only
    rw [j2, k2, show q - ((0 : Nat) : Int) = q by omega]
   ·exact absurd k1 j1
   ·exact absurd k1 j1
  ·have hpos : 0 < (drtN p.K p.L m).length := by
    rcases Nat.eq_zero_or_pos (drtN p.K p.L m).length with hz1 | hz1
    ·exact absurd (hz.1 hz1) k1
    ·exact hz1
   have hst : stN m p o = 2 * (drtN p.K p.L m).length + 4 := by unfold stN; rw [if_pos ⟨h6, hpos, k2⟩]
   have hdl := dfP_len p.K p.L m
   by_cases hle : (stN m p o : Int) ≤ q
   ·left
    refine ⟨hle, ?_⟩
    have hcl := commit_left (q := q) hl k6 (by rw [hdl]; omega)
    have hne : dfP p.K p.L m ≠ [] := fun e => k1 ((dfP_nil h.lk h.ll).1 e)
    have hco : commitOut (wl p.D q) p.s m (dfP p.K p.L m) = (wl (commitRun p.D p.s (dfP p.K p.L m)).1 (q - (2 * ((dfP p.K p.L m).length : Int) + 4)), p.s + 1, 0) := by
     have hce : commitE m (dfP p.K p.L m) = 0 := by rw [dfP_commit h.ll, if_neg (by omega)]
     unfold commitOut
     rw [hce, if_neg (by decide), if_neg (by rw [hn2.down]; exact Bool.false_ne_true), if_neg hne, hcl]
     rfl
    unfold psCo wlP
    dsimp only
    rw [hco, k5, hst, hdl]
    dsimp only
    rw [show q - ((2 * (drtN p.K p.L m).length + 4 : Nat) : Int) = q - (2 * ((drtN p.K p.L m).length : Int) + 4) by omega]
   ·right
    have e2 : (psCo m p).2 = 0 := by
     show (commitOut p.D p.s m (dfP p.K p.L m)).2.2 = 0
     rw [k3]
    have eK : (psCo m p).1.K = p.L := by
     show (if (psCo m p).2 = 0 then p.L else p.K) = p.L
     rw [if_pos e2]
    rcases nt_commit hn2 hs h.lk h.ll h.bl with ⟨j1, _⟩ | ⟨j1, _⟩ | ⟨_, _, _, _, _, j6⟩ | ⟨j1, j2, j3, j4, j5, j6, j7, j8⟩
    ·omega
    ·exact absurd j1 k1
    ·have := left_commit (D := wl p.D q) h0 j6
     have hw : (wl p.D q).left = q := rfl
     rw [hw, hdl] at this
     omega
    ·have f1 : (commitOut (wlP p q).D (wlP p q).s m (dfP (wlP p q).K (wlP p q).L m)).2.1 = p.s := by
      show (commitOut (wl p.D q) p.s m (dfP p.K p.L m)).2.1 = p.s
      rw [j3]
     have f2 : (commitOut (wlP p q).D (wlP p q).s m (dfP (wlP p q).K (wlP p q).L m)).2.2 = 9 := by
      show (commitOut (wl p.D q) p.s m (dfP p.K p.L m)).2.2 = 9
      rw [j3]
     unfold psCo at e2 eK ⊢
     rw [f1, f2]
     exact ⟨by omega, h6, e2, eK, ⟨j4, j6, j8, h.fl, h.fk, h.fl, h.bl, h.bk, h.bl, h.ll, h.lk, h.ll, j5.trans h.sn⟩, rfl, rfl, rfl⟩
  ·exact absurd k7 hev.1
 ·left
  have hst : stN m p o = 0 := by unfold stN; rw [if_neg (fun h => h6 h.1)]
  rw [hst]
  refine ⟨h0, ?_⟩
  rw [show q - ((0 : Nat) : Int) = q by omega]
  unfold psDo
  rw [if_neg h6, if_neg h6]
  by_cases h7 : o.1 = 7
  ·rw [if_pos h7, if_pos h7]; rfl
  ·rw [if_neg h7, if_neg h7]; rfl
end
end Go.Proofs.YtmmgadnicodakaaGreatDoor
namespace Go.Proofs.YtmmgadnicodakaaGreatDoor
open Go.RowKit
set_option linter.unusedVariables false
section
variable {m n : Nat}
theorem run_sim : ∀ (ops : List OpP) {p : Ps} {q : Int}, Pu m n p → p.D.left < 0 → p.s + ops.length ≤ 1000 → (∀ o ∈ ops, Byt o.2.2.2.2.2) → 0 ≤ q → q ≤ 9223372036854775807 →
  ((stSum m p ops : Int) ≤ q ∧ psRun m (wlP p q) ops = wlP (psRun m p ops) (q - stSum m p ops)) ∨
  (q < stSum m p ops ∧ ∃ l o r, ops = l ++ o :: r ∧ o.1 = 6 ∧ (psDo m (psRun m p l) o).2 = 0 ∧ (psDo m (psRun m p l) o).1.K = (psRun m p l).L ∧ Pd m n (psRun m (wlP p q) ops) (psRun m p l).L ∧ (psRun m (wlP p q) ops).K = (psRun m p l).K ∧ (psRun m (wlP p q) ops).s = (psRun m p l).s ∧
   (stSum m p l : Int) ≤ q ∧ (psRun m (wlP p q) ops).D = (psDo m (wlP (psRun m p l) (q - stSum m p l)) o).1.D)
 | [], p, q, _, _, _, _, h0, _ => .inl ⟨h0, by show wlP p q = wlP p (q - ((0 : Nat) : Int)); rw [show q - ((0 : Nat) : Int) = q by omega]⟩
 | o :: ops, p, q, h, hl, hs, hb, h0, hq => by
  rw [List.length_cons] at hs
  have ho := hb o (by simp)
  have hb' : ∀ x ∈ ops, Byt x.2.2.2.2.2 := fun x hx => hb x (by simp [hx])
  obtain ⟨u1, u2, u3, u4, _⟩ := h.ever (by omega) hl o ho
  have hsum : stSum m p (o :: ops) = stN m p o + stSum m (psDo m p o).1 ops := rfl
  rcases h.sim (by omega) hl o ho h0 hq with ⟨s1, s2⟩ | ⟨s1, s2, s3, s4, s5, s6, s7, s8⟩
  ·have e : psRun m (wlP p q) (o :: ops) = psRun m (wlP (psDo m p o).1 (q - stN m p o)) ops := by
    show psRun m (psDo m (wlP p q) o).1 ops = _
    rw [s2]
   rcases run_sim ops (p := (psDo m p o).1) (q := q - stN m p o) u1 u2 (by omega) hb' (by omega) (by omega) with ⟨i1, i2⟩ | ⟨i1, l, o2, r, i2, i3, i4, i5, i6, i7, i8, i9, i10⟩
   ·left
    refine ⟨by rw [hsum]; omega, ?_⟩
    rw [e, i2, hsum]
    show wlP (psRun m (psDo m p o).1 ops) _ = wlP (psRun m (psDo m p o).1 ops) _
    congr 1
    omega
   ·right
    refine ⟨by rw [hsum]; omega, o :: l, o2, r, by rw [i2]; rfl, i3, i4, i5, by rw [e]; exact i6, by rw [e]; exact i7, by rw [e]; exact i8, ?_, ?_⟩
    ·show ((stN m p o + stSum m (psDo m p o).1 l : Nat) : Int) ≤ q
     omega
    ·rw [e, i10]
     show _ = (psDo m (wlP (psRun m (psDo m p o).1 l) (q - ((stN m p o + stSum m (psDo m p o).1 l : Nat) : Int))) o2).1.D
     rw [show q - ((stN m p o + stSum m (psDo m p o).1 l : Nat) : Int) = q - (stN m p o : Int) - (stSum m (psDo m p o).1 l : Int) by omega]
  ·right
   obtain ⟨d1, d2, d3, d4⟩ := pd_run ops s5 hb'
   refine ⟨by rw [hsum]; omega, [], o, ops, rfl, s2, s3, s4, d1, d2.trans s6, d3.trans s7, h0, ?_⟩
   show (psRun m (psDo m (wlP p q) o).1 ops).D = (psDo m (wlP p (q - ((0 : Nat) : Int))) o).1.D
   rw [d4, show q - ((0 : Nat) : Int) = q by omega]
theorem gone_once {p : Ps} {o : OpP} (h : Pu m n p) (hs : p.s ≤ 999) (h6 : o.1 = 6) (h0 : 0 < stN m p o) (c : Nat) : Rdy ((psDo m (wlP p 0) o).1.D.crash [] (-1) c) m p.s (prt p.K) := by
 obtain ⟨a, nl, hn⟩ := h.nt
 have hn2 : Nt (wl p.D 0) m p.s (prt p.K) a nl := hn.fail ⟨by decide, by decide⟩
 have hd : 0 < (drtN p.K p.L m).length ∧ (drtN p.K p.L m).length ≤ 23 := by
  unfold stN at h0
  by_cases hc : o.1 = 6 ∧ 0 < (drtN p.K p.L m).length ∧ (drtN p.K p.L m).length ≤ 23
  ·exact hc.2
  ·rw [if_neg hc] at h0; omega
 have hne : dfP p.K p.L m ≠ [] := fun e => by
  have := dfP_len p.K p.L m
  rw [e] at this
  simp at this
  omega
 have hlen := hn.len
 have hb32 : ((dfP p.K p.L m).getD 0 (0, [])).2.length = 32 := by
  obtain ⟨i, hi, _, e⟩ := dfP_at (K := p.K) (L := p.L) (m := m) (k := 0) (by rw [dfP_len]; exact hd.1)
  rw [e]
  exact prt_len h.ll (mem_drtN.1 hi).1
 obtain ⟨c1, c2, c3⟩ := commit_once (D := p.D) (s := p.s) hne (by have := hn.s1; omega) hb32 hn.down
 have e : (psDo m (wlP p 0) o).1.D = (commitRun (wl p.D 0) p.s (dfP p.K p.L m)).1 := by
  have hce : commitE m (dfP p.K p.L m) = 0 := by rw [dfP_commit h.ll, if_neg (by omega)]
  unfold psDo
  rw [if_pos h6]
  show (commitOut (wl p.D 0) p.s m (dfP p.K p.L m)).1 = _
  unfold commitOut
  rw [hce, if_neg (by decide), if_neg (by rw [hn2.down]; exact Bool.false_ne_true), if_neg hne]
 have hok : (psDo m (wlP p 0) o).1.D.Ok ∧ (psDo m (wlP p 0) o).1.D.secs.length = p.D.secs.length := by
  have hv := valid_of (show commitE m (dfP p.K p.L m) = 0 by rw [dfP_commit h.ll, if_neg (by omega)])
  rcases commit_allB hn2 hs hv (dfP_byt h.bl) with ⟨r1, _⟩ | ⟨_, r2, r3, _⟩
  ·rw [c1] at r1; cases r1
  ·rw [e]; exact ⟨r2, r3⟩
 refine rdy_crash hok.1 (by rw [hok.2]; exact hlen) hn.lt hn.s2 _ _ _ ?_
 have hi : img ((psDo m (wlP p 0) o).1.D.crash [] (-1) c) = img p.D := by
  funext k
  show ((psDo m (wlP p 0) o).1.D.crash [] (-1) c).secs.getD k [] = p.D.secs.getD k []
  rw [crash_none hok.1, e, c2]
 rw [hi]
 exact hn.rdy.rb
theorem co_same {p : Ps} {o : OpP} (h6 : o.1 = 6) : (psDo m p o).1.L = p.L ∧ ((psDo m p o).2 = 0 → (psDo m p o).1.K = p.L) ∧ ((psDo m p o).2 ≠ 0 → (psDo m p o).1.K = p.K) := by
 have e : psDo m p o = psCo m p := by unfold psDo; rw [if_pos h6]
 rw [e]
 refine ⟨rfl, fun h0 => ?_, fun h0 => ?_⟩
 ·show (if (psCo m p).2 = 0 then p.L else p.K) = p.L
  rw [if_pos h0]
 ·show (if (psCo m p).2 = 0 then p.L else p.K) = p.K
  rw [if_neg h0]
theorem do_kept {p : Ps} {o : OpP} (h6 : o.1 ≠ 6) : (psDo m p o).1.K = p.K := by
 unfold psDo
 rw [if_neg h6]
 split <;> rfl
end
end Go.Proofs.YtmmgadnicodakaaGreatDoor
namespace Go.Proofs.YtmmgadnicodakaaGreatDoor
open Go.RowKit
set_option linter.unusedVariables false
section
variable {m n : Nat}
theorem stN_most (p : Ps) (o : OpP) : stN m p o ≤ if o.1 = 6 then 50 else 0 := by
 unfold stN
 by_cases h6 : o.1 = 6
 ·rw [if_pos h6]
  split <;> omega
 ·rw [if_neg h6, if_neg (fun h => h6 h.1)]
  exact Nat.le_refl _
def coN : List OpP → Nat
 | [] => 0
 | o :: l => (if o.1 = 6 then 1 else 0) + coN l
theorem stSum_most : ∀ (l : List OpP) (p : Ps), stSum m p l ≤ 50 * coN l
 | [], p => Nat.le_refl _
 | o :: l, p => by
  show stN m p o + stSum m (psDo m p o).1 l ≤ 50 * ((if o.1 = 6 then 1 else 0) + coN l)
  have h1 := stN_most (m := m) p o
  have h2 := stSum_most l (psDo m p o).1
  by_cases h6 : o.1 = 6
  ·rw [if_pos h6] at h1 ⊢; omega
  ·rw [if_neg h6] at h1 ⊢; omega
theorem first_page (h1 : 288 + n ≤ 32 * m) (h2 : m ≤ 200) (n1 : 1 ≤ n) (n2 : n ≤ 1000) {t : Int} (t1 : 0 ≤ t) (t2 : t ≤ 15) : (drtN (zerosB (32 * m)) (alB (zerosB (32 * m)) n t) m).length = 1 := by
 obtain ⟨e1, e2, f1, l1, c1, _⟩ := first_made (N := 32 * m) (n := n) (t := t) h1 (by omega) n1 n2 t1 t2
 have z1 := (zeros_fine (n := 32 * m) (by omega) (by omega)).1
 have hzl := length_zerosB (32 * m)
 obtain ⟨x, N, hk⟩ := al_ok z1 e1
 have hlow : (lowH (zerosB (32 * m)) : Int) + 1 = 1 := by rw [← (hk.img e1).2, e2]
 have hz0 : ∀ j, (zerosB (32 * m)).getD j 0 = 0 := fun j => by
  unfold zerosB
  rw [List.getD_eq_getElem?_getD]
  by_cases hj : j < 32 * m
  ·rw [List.getElem?_replicate, if_pos hj]; rfl
  ·rw [List.getElem?_eq_none (by simp; omega)]; rfl
 have htag : (alB (zerosB (32 * m)) n t).getD 0 0 ≠ 0 := (chkE_zero.1 c1).2.2
 have hout : ∀ j, 5 ≤ j → (alB (zerosB (32 * m)) n t).getD j 0 = (zerosB (32 * m)).getD j 0 := fun j hj => by
  have hz := length_zerosB N
  have hsl : (splice (zerosB (32 * m)) x (zerosB N)).length = 32 * m := (length_splice (by rw [hz]; exact hk.x2)).trans hzl
  have hlen1 := l1
  rw [(hk.img e1).1] at hlen1 ⊢
  unfold alL putL at hlen1 ⊢
  by_cases hp : putE (splice (zerosB (32 * m)) x (zerosB N)) ((lowH (zerosB (32 * m)) : Int) + 1, (x : Int), (N : Int), t) = 0
  ·rw [if_pos hp]
   have hr5 : (rowE ((lowH (zerosB (32 * m)) : Int) + 1, (x : Int), (N : Int), t)).length = 5 := rfl
   have hpl : plc ((lowH (zerosB (32 * m)) : Int) + 1, (x : Int), (N : Int), t).1 = 0 := by
    show plc ((lowH (zerosB (32 * m)) : Int) + 1) = 0
    rw [hlow]; rfl
   rw [hpl, splice_out (by rw [hr5, hsl]; omega) (.inr (by rw [hr5]; omega))]
   by_cases hin : x ≤ j ∧ j < x + N
   ·obtain ⟨i, rfl⟩ : ∃ i, j = x + i := ⟨j - x, by omega⟩
    rw [splice_in (by rw [hz]; exact hk.x2) (by rw [hz]; omega), hz0]
    unfold zerosB
    rw [List.getD_eq_getElem?_getD, List.getElem?_replicate, if_pos (by omega)]
    rfl
   ·exact splice_out (by rw [hz]; exact hk.x2) (by rw [hz]; omega)
  ·rw [if_neg hp] at hlen1
   simp at hlen1
   omega
 have hd : ∀ i, i < m → (prt (zerosB (32 * m)) i ≠ prt (alB (zerosB (32 * m)) n t) i ↔ i = 0) := fun i hi => by
  constructor
  ·intro hne
   refine Classical.byContradiction fun h0 => hne ?_
   apply ext_getD
   ·rw [prt_len hzl hi, prt_len l1 hi]
   ·intro j hj
    rw [prt_len hzl hi] at hj
    rw [prt_getD hj, prt_getD hj]
    exact (hout _ (by omega)).symm
  ·rintro rfl he
   have := congrArg (fun l : List Int => l.getD 0 0) he
   rw [prt_getD (by decide), prt_getD (by decide), hz0] at this
   exact htag this.symm
 have : drtN (zerosB (32 * m)) (alB (zerosB (32 * m)) n t) m = [0] := by
  unfold drtN
  obtain ⟨k, hk2⟩ : ∃ k, m = 1 + k := ⟨m - 1, by omega⟩
  have e : (List.range m).filter (fun i => decide (prt (zerosB (32 * m)) i ≠ prt (alB (zerosB (32 * m)) n t) i)) = (List.range m).filter (fun i => decide (i = 0)) := List.filter_congr (fun i hi => by
   rw [Bool.eq_iff_iff, decide_eq_true_iff, decide_eq_true_iff]
   exact hd i (List.mem_range.1 hi))
  rw [e, hk2]
  have key : ∀ k, (List.range (1 + k)).filter (fun i => decide (i = 0)) = [0] := by
   intro k
   induction k with
   | zero => rfl
   | succ k ih => rw [show 1 + (k + 1) = 1 + k + 1 by omega, List.range_succ, List.filter_append, ih]; simp
  exact key k
 rw [this]
 rfl
end
end Go.Proofs.YtmmgadnicodakaaGreatDoor
