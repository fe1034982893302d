/-
  Parts of the proofs, joined by program.
-/
import Derived.Test.YtifmemombecoaaaGreatDoorJMvp
import Derived.Test.YtifmemombecoaaaGreatDoorJChp
import Derived.Test.YtifmemombecoaaaGreatDoorJMga
import Derived.Test.YtifmemombecoaaaGreatDoorJRtp
import Derived.Test.YtifmemombecoaaaGreatDoorJWy
import Derived.Test.YtifmemombecoaaaGreatDoorJHal
import Derived.Test.YtifmemombecoaaaGreatDoorJHs
namespace Go.Proofs.YtifmemombecoaaaGreatDoor
open Go.RowKit
set_option linter.unusedVariables false
structure Pk (N : Nat) (out : List Int) (a : Nat) : Prop where
 fine : Fine out
 len : out.length = N
 byt : Byt out
 lo : 288 <= a /\ a <= N
 ends : ∀ k, 1 <= k -> k <= 40 -> tagAt out k ≠ 0 -> (entOf out k).2.1 + (entOf out k).2.2.1 <= a
 none_ : ∀ i, i < 8 -> isRoot (rowAt out i) = false
theorem Pk.start {N : Nat} (h1 : 288 <= N) (h2 : N <= 6400) : Pk N (zerosB N) 288 := by
 obtain ⟨z1, z2, z3⟩ := zeros_fine (n := N) h1 h2
 exact ⟨z1, length_zerosB _, byt_zerosB _, by omega, fun k k1 k2 ht => absurd (z2 k) ht, fun i hi => z3 i hi⟩
def pk1 (out : List Int) (a : Nat) (h t : Int) (bs : List Int) : List Int := splice (putL out (h, (a : Int), (bs.length : Int), t)) a bs
theorem Pk.next {N a : Nat} {out : List Int} (o : Pk N out a) {h t : Int} {bs : List Int} (hb : Byt bs) (h1 : 1 <= h) (h2 : h <= 40) (h3 : tagAt out h = 0) (h4 : 0 <= t) (h5 : t <= 15) (h6 : 1 <= bs.length) (h7 : bs.length <= 1000) (h9 : a + bs.length <= N) :
  Pk N (pk1 out a h t bs) (a + bs.length) /\ objOf (pk1 out a h t bs) h = (t, bs) /\ (∀ k, 1 <= k -> k <= 40 -> k ≠ h -> objOf (pk1 out a h t bs) k = objOf out k /\ tagAt (pk1 out a h t bs) k = tagAt out k) /\ tagAt (pk1 out a h t bs) h ≠ 0 := by
 have hlo := o.lo
 have hlen := o.len
 have he : putE out (h, (a : Int), (bs.length : Int), t) = 0 := putE_zero.2 ⟨o.fine.len0, hndB_iff.2 ⟨h1, h2⟩, h4, h5, by dsimp only; omega, by dsimp only; omega, by dsimp only; omega, by dsimp only; omega⟩
 have hno : ∀ k, 1 <= k -> k <= 40 -> tagAt out k ≠ 0 -> lapB (h, (a : Int), (bs.length : Int), t) (entOf out k) = false := fun k k1 k2 hk => lapB_no.2 (.inl (o.ends k k1 k2 hk))
 obtain ⟨pf, po, pt, pe, pl, ptl⟩ := put_fine o.fine he h3 hno
 obtain ⟨qo, qs⟩ := put_objs o.fine he h3 hno
 dsimp only at po pt pe qo qs
 have hfit : a + bs.length <= (putL out (h, (a : Int), (bs.length : Int), t)).length := by rw [pl]; omega
 obtain ⟨lf, ll, le, lo⟩ := lay_objs pf hlo.1 hfit
 have hent : entOf (pk1 out a h t bs) h = (h, (a : Int), (bs.length : Int), t) := (le _ h1 h2).2.trans pe
 have htag : tagAt (pk1 out a h t bs) h ≠ 0 := by unfold pk1; rw [(le _ h1 h2).1]; exact pt
 have hoth : ∀ k, 1 <= k -> k <= 40 -> k ≠ h -> tagAt (pk1 out a h t bs) k = tagAt out k /\ entOf (pk1 out a h t bs) k = entOf out k := fun k k1 k2 hk => ⟨(le k k1 k2).1.trans (po k k1 k2 hk).1, (le k k1 k2).2.trans (po k k1 k2 hk).2⟩
 have hlen2 : (pk1 out a h t bs).length = N := ll.trans (pl.trans hlen)
 have hN := o.fine.len
 refine ⟨⟨lf, hlen2, ?_, by omega, fun k k1 k2 hk => ?_, fun i hi => ?_⟩, ?_, fun k k1 k2 hk => ⟨?_, (hoth k k1 k2 hk).1⟩, htag⟩
 ·unfold pk1
  refine byt_splice ?_ hb
  unfold putL
  rw [if_pos he]
  exact byt_splice o.byt (byt_rowE _)
 ·by_cases hk2 : k = h
  ·subst hk2
   rw [hent]
   dsimp only
   omega
  ·obtain ⟨t1, t2⟩ := hoth k k1 k2 hk2
   rw [t1] at hk
   rw [t2]
   have := o.ends k k1 k2 hk
   omega
 ·have : rowAt (pk1 out a h t bs) i = rowAt out i := by
   apply ext_getD
   ·rw [rowAt_len (by omega), rowAt_len (by omega)]
   ·intro j hj
    rw [rowAt_len (by omega)] at hj
    rw [rowAt_getD hj, rowAt_getD hj]
    unfold pk1
    rw [splice_out hfit (.inl (by omega))]
    exact ptl _ (by omega)
  rw [this]
  exact o.none_ i hi
 ·unfold objOf objE
  rw [if_neg htag, hent]
  dsimp only
  congr 1
  unfold partL pk1
  rw [Int.toNat_natCast, Int.toNat_natCast]
  apply ext_getD
  ·rw [List.length_take, List.length_drop, length_splice hfit, pl]
   omega
  ·intro j hj
   rw [List.length_take, List.length_drop, length_splice hfit, pl] at hj
   have e5 := splice_in hfit (show j < bs.length by omega)
   have e6 : ((splice (putL out (h, (a : Int), (bs.length : Int), t)) a bs).drop a |>.take bs.length).getD j 0 = (splice (putL out (h, (a : Int), (bs.length : Int), t)) a bs).getD (a + j) 0 := by
    simp [List.getD, List.getElem?_drop, show j < bs.length by omega]
   rw [e6, e5]
 ·have e1 := lo k k1 k2 (fun hkt => by
   rw [(po k k1 k2 hk).1] at hkt
   rw [(po k k1 k2 hk).2]
   left
   exact o.ends k k1 k2 hkt)
  exact e1.trans (qo k k1 k2 hk)
def pkLen (O : Int -> Int × List Int) : Nat -> Nat
 | 0 => 0
 | k + 1 => pkLen O k + if (O ((k : Int) + 1)).1 < 0 then 0 else (O ((k : Int) + 1)).2.length
def pkS (N : Nat) (O : Int -> Int × List Int) : Nat -> Int × Nat × List Int
 | 0 => (0, 288, zerosB N)
 | k + 1 => if (pkS N O k).1 ≠ 0 then pkS N O k else if (O ((k : Int) + 1)).1 < 0 then pkS N O k
  else if N < (pkS N O k).2.1 + (O ((k : Int) + 1)).2.length then (4, 0, [])
  else (0, (pkS N O k).2.1 + (O ((k : Int) + 1)).2.length, pk1 (pkS N O k).2.2 (pkS N O k).2.1 ((k : Int) + 1) (O ((k : Int) + 1)).1 (O ((k : Int) + 1)).2)
def ObjsOk (O : Int -> Int × List Int) : Prop := ∀ h, 1 <= h -> h <= 40 -> O h = (-1, []) \/ (0 <= (O h).1 /\ (O h).1 <= 15 /\ 1 <= (O h).2.length /\ (O h).2.length <= 1000 /\ Byt (O h).2)
theorem pkS_ok {N : Nat} (h1 : 288 <= N) (h2 : N <= 6400) {O : Int -> Int × List Int} (hO : ObjsOk O) : ∀ k : Nat, k <= 40 ->
  ((pkS N O k).1 = 0 ↔ 288 + pkLen O k <= N) /\ ((pkS N O k).1 ≠ 0 -> pkS N O k = (4, 0, [])) /\ ((pkS N O k).1 = 0 -> Pk N (pkS N O k).2.2 (pkS N O k).2.1 /\ (pkS N O k).2.1 = 288 + pkLen O k /\ (∀ h : Int, 1 <= h -> h <= (k : Int) -> objOf (pkS N O k).2.2 h = O h) /\ ∀ h : Int, (k : Int) < h -> h <= 40 -> tagAt (pkS N O k).2.2 h = 0)
 | 0, _ => by
  obtain ⟨z1, z2, z3⟩ := zeros_fine (n := N) h1 h2
  refine ⟨⟨fun _ => by show 288 + 0 <= N; omega, fun _ => rfl⟩, fun h => absurd rfl h, fun _ => ⟨Pk.start h1 h2, rfl, fun h a b => by omega, fun h _ _ => z2 h⟩⟩
 | k + 1, hk => by
  obtain ⟨i1, i2, i3⟩ := pkS_ok h1 h2 hO k (by omega)
  have hok := hO ((k : Int) + 1) (by omega) (by omega)
  have eS : pkS N O (k + 1) = if (pkS N O k).1 ≠ 0 then pkS N O k else if (O ((k : Int) + 1)).1 < 0 then pkS N O k
   else if N < (pkS N O k).2.1 + (O ((k : Int) + 1)).2.length then (4, 0, [])
   else (0, (pkS N O k).2.1 + (O ((k : Int) + 1)).2.length, pk1 (pkS N O k).2.2 (pkS N O k).2.1 ((k : Int) + 1) (O ((k : Int) + 1)).1 (O ((k : Int) + 1)).2) := rfl
  have eL : pkLen O (k + 1) = pkLen O k + if (O ((k : Int) + 1)).1 < 0 then 0 else (O ((k : Int) + 1)).2.length := rfl
  rw [eS, eL]
  by_cases h0 : (pkS N O k).1 = 0
  ·rw [if_neg (fun h => h h0)]
   obtain ⟨p1, p2, p3, p4⟩ := i3 h0
   have hle := i1.1 h0
   by_cases hn : (O ((k : Int) + 1)).1 < 0
   ·rw [if_pos hn, if_pos hn, Nat.add_zero]
    have hnone : O ((k : Int) + 1) = (-1, []) := by
     rcases hok with h | h
     ·exact h
     ·omega
    refine ⟨i1, i2, fun _ => ⟨p1, p2, fun h a b => ?_, fun h a b => p4 h (by omega) b⟩⟩
    by_cases e : h = (k : Int) + 1
    ·subst e
     rw [hnone, objOf_none (p4 _ (by omega) (by omega))]
    ·exact p3 h a (by omega)
   ·rw [if_neg hn, if_neg hn, p2]
    rcases hok with hz | ⟨g1, g2, g3, g4, g5⟩
    ·rw [hz] at hn; exact absurd (by decide) hn
    by_cases hf : N < 288 + pkLen O k + (O ((k : Int) + 1)).2.length
    ·rw [if_pos hf]
     exact ⟨⟨fun h => absurd h (by decide), fun h => by omega⟩, fun _ => rfl, fun h => absurd h (by decide)⟩
    ·rw [if_neg hf]
     rw [p2] at p1
     obtain ⟨q1, q2, q3, q4⟩ := p1.next g5 (h := (k : Int) + 1) (t := (O ((k : Int) + 1)).1) (by omega) (by omega) (p4 _ (by omega) (by omega)) g1 g2 g3 g4 (by omega)
     refine ⟨⟨fun _ => by omega, fun _ => rfl⟩, fun h => absurd rfl h, fun _ => ⟨q1, by dsimp only; omega, fun h a b => ?_, fun h a b => ?_⟩⟩
     ·by_cases e : h = (k : Int) + 1
      ·subst e; exact q2
      ·dsimp only
       rw [(q3 h a (by omega) e).1]
       exact p3 h a (by omega)
     ·dsimp only
      rw [(q3 h (by omega) b (by omega)).2]
      exact p4 h (by omega) b
  ·rw [if_pos h0]
   refine ⟨⟨fun h => absurd h h0, fun h => absurd (i1.2 (by omega)) h0⟩, i2, fun h => absurd h h0⟩
theorem objs_ok {L : List Int} (hf : Fine L) (hb : Byt L) : ObjsOk (objOf L) := fun h h1 h2 => by
 by_cases ht : tagAt L h = 0
 ·exact .inl (objOf_none ht)
 ·obtain ⟨e1, e2, e3, e4, e5, e6⟩ := hf.ent h1 h2 ht
  have hob : objOf L h = ((entOf L h).2.2.2, partL L (entOf L h).2.1 (entOf L h).2.2.1) := by unfold objOf objE; rw [if_neg ht]
  have hl : (partL L (entOf L h).2.1 (entOf L h).2.2.1).length = (entOf L h).2.2.1.toNat := by
   unfold partL
   rw [List.length_take, List.length_drop]
   omega
  rw [hob]
  refine .inr ⟨e5, e6, by rw [hl]; omega, by rw [hl]; omega, fun z hz => hb z (List.mem_of_mem_drop (List.mem_of_mem_take hz))⟩
theorem pkLen_ents {L : List Int} (hf : Fine L) : ∀ k : Nat, k <= 40 -> (pkLen (objOf L) k : Int) = sumE (entsK L k)
 | 0, _ => rfl
 | k + 1, hk => by
  have ih := pkLen_ents hf k (by omega)
  have e1 : entsK L (k + 1) = entsK L k ++ if tagAt L ((k : Int) + 1) = 0 then [] else [entOf L ((k : Int) + 1)] := rfl
  have eL : pkLen (objOf L) (k + 1) = pkLen (objOf L) k + if (objOf L ((k : Int) + 1)).1 < 0 then 0 else (objOf L ((k : Int) + 1)).2.length := rfl
  rw [e1, eL, sumE_append]
  by_cases ht : tagAt L ((k : Int) + 1) = 0
  ·rw [objOf_none ht, if_pos ht, if_pos (by decide)]
   show ((pkLen (objOf L) k + 0 : Nat) : Int) = sumE (entsK L k) + 0
   omega
  ·obtain ⟨g1, g2, g3, g4, g5, g6⟩ := hf.ent (h := (k : Int) + 1) (by omega) (by omega) ht
   have hob : objOf L ((k : Int) + 1) = ((entOf L ((k : Int) + 1)).2.2.2, partL L (entOf L ((k : Int) + 1)).2.1 (entOf L ((k : Int) + 1)).2.2.1) := by unfold objOf objE; rw [if_neg ht]
   have hl : (partL L (entOf L ((k : Int) + 1)).2.1 (entOf L ((k : Int) + 1)).2.2.1).length = (entOf L ((k : Int) + 1)).2.2.1.toNat := by
    unfold partL
    rw [List.length_take, List.length_drop]
    omega
   rw [if_neg ht, hob]
   dsimp only
   rw [if_neg (by omega), hl]
   show ((pkLen (objOf L) k + (entOf L ((k : Int) + 1)).2.2.1.toNat : Nat) : Int) = sumE (entsK L k) + ((entOf L ((k : Int) + 1)).2.2.1 + 0)
   omega
theorem pkLen_room {L : List Int} (hf : Fine L) : 288 + pkLen (objOf L) 40 <= L.length := by
 have h0 := pkLen_ents hf 40 (Nat.le_refl _)
 have h2 := used_sum hf
 have hg := take_good hf
 have hl := hf.len
 have h3 := hg.srtL.sum hg (by omega)
 have h4 := (lenSum_ge (fun r hr => (hg.srtL.freeIn hg (by omega) r hr).2.1)).1
 have h5 : sumE (srtE L) = sumE (entsK L 40) := by
  rw [<- lenSum_sh, <- lenSum_sh]
  exact lenSum_perm ((srtE_perm (L := L)).map shE)
 omega
def thO (m a b : List Int) (h : Int) : Int × List Int := if objOf m h = objOf a h then objOf b h else objOf a h
def thT (m a b : List Int) (h : Int) : Bool := decide (objOf m h ≠ objOf a h) && (decide (objOf m h ≠ objOf b h) && decide (objOf a h ≠ objOf b h))
theorem thO_left {m a : List Int} (h : Int) : thO m a m h = objOf a h /\ thT m a m h = false := by
 unfold thO thT
 refine ⟨?_, by simp⟩
 split
 ·rename_i e; exact e
 ·rfl
theorem thO_right {m a : List Int} (h : Int) : thO m m a h = objOf a h /\ thT m m a h = false := by
 unfold thO thT
 exact ⟨if_pos rfl, by simp⟩
theorem thO_both {m a b : List Int} {h : Int} : (thT m a b h = false -> thO m a b h = thO m b a h) /\ (thT m a b h = true -> thO m a b h = objOf a h) /\ thT m a b h = thT m b a h := by
 unfold thT thO
 refine ⟨fun hf => ?_, fun ht => ?_, ?_⟩
 ·by_cases h1 : objOf m h = objOf a h
  ·rw [if_pos h1]
   by_cases h2 : objOf m h = objOf b h
   ·rw [if_pos h2, <- h1, <- h2]
   ·rw [if_neg h2]
  ·rw [if_neg h1]
   by_cases h2 : objOf m h = objOf b h
   ·rw [if_pos h2]
   ·rw [if_neg h2]
    simp [h1, h2] at hf
    exact hf
 ·rw [Bool.and_eq_true, decide_eq_true_iff] at ht
  rw [if_neg ht.1]
 ·by_cases h1 : objOf m h = objOf a h <;> by_cases h2 : objOf m h = objOf b h <;> by_cases h3 : objOf a h = objOf b h <;> simp [h1, h2, h3, eq_comm]
theorem thO_ok {m a b : List Int} (ha : Fine a) (hba : Byt a) (hb : Fine b) (hbb : Byt b) : ObjsOk (thO m a b) := fun h h1 h2 => by
 unfold thO
 split
 ·exact objs_ok hb hbb h h1 h2
 ·exact objs_ok ha hba h h1 h2
def rtP (out : List Int) : List (ByteArray × Int) -> Nat -> List Int
 | [], _ => out
 | r :: R, i => rtP (prL out i r) R (i + 1)
structure RsN (b out : List Int) (R : List (ByteArray × Int)) : Prop where
 fine : Fine out
 len : out.length = b.length
 byt : Byt out
 roots : rootsK out 8 = R
 none_ : ∀ j, R.length <= j -> j < 8 -> isRoot (rowAt out j) = false
 objs : ∀ k, 1 <= k -> k <= 40 -> objOf out k = objOf b k /\ chkE out k = chkE b k
theorem RsN.next {b out : List Int} {R : List (ByteArray × Int)} (o : RsN b out R) {s : ByteArray} {h : Int} (hi : R.length < 8) (hn : nameB s = true) (hc : chkE b h = 0) (hno : s ∉ R.map (·.1)) : RsN b (prL out R.length (s, h)) (R ++ [(s, h)]) := by
 obtain ⟨q1, q2, q3⟩ := chkE_zero.1 hc
 have hh := hndB_iff.1 q2
 have hco : chkE out h = 0 := by rw [(o.objs h hh.1 hh.2).2]; exact hc
 have hnr : ¬ noRoot (s, h) = true := fun hx => by have := (noRoot_iff.1 hx).2; dsimp only at this; omega
 have hre : rowRE (s, h) = 0 := by unfold rowRE; rw [if_neg hnr, if_neg (by rw [q2]; simp), if_pos hn]
 have hpe : prE out R.length (s, h) = 0 := prE_zero.2 ⟨o.fine.len0, by omega, by omega, hre⟩
 have hpl : prL out R.length (s, h) = splice out (200 + 11 * R.length) (rowR (s, h)) := by unfold prL; rw [if_pos hpe, Int.toNat_natCast]
 have hrow : Row1 out (prL out R.length (s, h)) R.length (rowR (s, h)) := by rw [hpl]; exact row1_splice o.fine.len.1 hi (rowR_len hre)
 have hnames : ∀ j, j < 8 -> isRoot (rowAt out j) = true -> nameAt out j ≠ s := fun j hj hr e => by
  have hm : rootOf (rowAt out j) ∈ rootsK out 8 := mem_rootsK_iff.2 ⟨j, hj, hr, rfl⟩
  rw [o.roots] at hm
  exact hno (List.mem_map.2 ⟨_, hm, e⟩)
 obtain ⟨g1, g2, g3, g4⟩ := hrow.fine_root o.fine hn hco (fun j hj _ hr => hnames j hj hr)
 obtain ⟨p1, p2⟩ := roots_put hpe o.none_
 have hlq : lenB (prL out R.length (s, h)).length = true := g1.len0
 refine ⟨g1, hrow.len.trans o.len, ?_, ?_, fun j hj hj8 => p2 j (by rw [List.length_append, List.length_singleton] at hj; omega) hj8, fun k k1 k2 => ?_⟩
 ·rw [hpl]; exact byt_splice o.byt (byt_rowR _)
 ·unfold Go.Proofs.YtifmemombecoaaaGreatDoor.roots at p1
  rw [if_pos hlq, if_pos o.fine.len0, if_neg hnr, o.roots] at p1
  exact p1
 ·obtain ⟨a1, a2, _⟩ := hrow.objs o.fine k k1 k2
  rw [a1, a2]
  exact o.objs k k1 k2
theorem RsN.all {b : List Int} : ∀ (R : List (ByteArray × Int)) {out : List Int} {Q : List (ByteArray × Int)}, RsN b out Q -> (Q ++ R).length <= 8 -> (∀ r ∈ R, nameB r.1 = true /\ chkE b r.2 = 0) -> ((Q ++ R).map (·.1)).Nodup -> RsN b (rtP out R Q.length) (Q ++ R)
 | [], out, Q, o, _, _, _ => by rw [List.append_nil]; exact o
 | (s, h) :: R, out, Q, o, hl, hok, hnd => by
  obtain ⟨h1, h2⟩ := hok (s, h) (by simp)
  have hno : s ∉ Q.map (·.1) := fun hm => by
   rw [List.map_append, List.nodup_append] at hnd
   exact hnd.2.2 s hm s (by simp) rfl
  have hlt : Q.length < 8 := by rw [List.length_append, List.length_cons] at hl; omega
  have o2 := o.next hlt h1 h2 hno
  have := RsN.all R o2 (by rw [List.append_assoc]; exact hl) (fun r hr => hok r (by simp [hr])) (by rw [List.append_assoc]; exact hnd)
  rw [List.append_assoc, List.length_append] at this
  exact this
def mgH (m a b : List Int) (s : ByteArray) : Int := if leadOf (rootsK a 8) s = leadOf (rootsK m 8) s then leadOf (rootsK b 8) s else leadOf (rootsK a 8) s
def mgN (m a b : List Int) : List ByteArray := insL ((rootsK m 8 ++ rootsK a 8 ++ rootsK b 8).map (·.1))
def mgR (m a b out : List Int) : List (ByteArray × Int) := (mgN m a b).filterMap fun s => if chkE out (mgH m a b s) = 0 then some (s, mgH m a b s) else none
section
variable {m a b out : List Int}
theorem chk_zero_no (out : List Int) : chkE out 0 ≠ 0 := fun h => by
 have := hndB_iff.1 (chkE_zero.1 h).2.1
 omega
theorem lead_in {R : List (ByteArray × Int)} {s : ByteArray} (h : leadOf R s ≠ 0) : s ∈ R.map (·.1) := by
 unfold leadOf at h
 cases hq : R.find? (fun r => r.1 == s) with
 | none => rw [hq] at h; exact absurd rfl h
 | some r => exact List.mem_map.2 ⟨r, List.mem_of_find?_eq_some hq, ba_beq.1 (List.find?_some (p := fun (r : (ByteArray × Int)) => r.1 == s) hq)⟩
theorem mgH_in {s : ByteArray} (h : mgH m a b s ≠ 0) : s ∈ mgN m a b := by
 refine mem_insL.2 ?_
 rw [List.map_append, List.map_append, List.mem_append, List.mem_append]
 unfold mgH at h
 by_cases e : leadOf (rootsK a 8) s = leadOf (rootsK m 8) s
 ·rw [if_pos e] at h; exact .inr (lead_in h)
 ·rw [if_neg e] at h; exact .inl (.inr (lead_in h))
theorem mem_mgR {r : (ByteArray × Int)} : r ∈ mgR m a b out ↔ r.2 = mgH m a b r.1 /\ chkE out r.2 = 0 := by
 unfold mgR
 rw [List.mem_filterMap]
 constructor
 ·rintro ⟨s, hs, e⟩
  by_cases hc : chkE out (mgH m a b s) = 0
  ·rw [if_pos hc] at e
   obtain rfl := Option.some.inj e
   exact ⟨rfl, hc⟩
  ·rw [if_neg hc] at e; cases e
 ·rintro ⟨h1, h2⟩
  obtain ⟨s, h⟩ := r
  dsimp only at h1 h2
  subst h1
  refine ⟨s, mgH_in (fun e => chk_zero_no out (by rw [e] at h2; exact h2)), ?_⟩
  rw [if_pos h2]
theorem mgR_names : ((mgR m a b out).map (·.1)).Nodup := by
 have hr := insL_ris ((rootsK m 8 ++ rootsK a 8 ++ rootsK b 8).map (·.1))
 have : (mgR m a b out).map (·.1) = (mgN m a b).filter fun s => decide (chkE out (mgH m a b s) = 0) := by
  unfold mgR
  generalize mgN m a b = l
  induction l with
  | nil => rfl
  | cons s l ih =>
   rw [List.filterMap_cons, List.filter_cons]
   by_cases hc : chkE out (mgH m a b s) = 0
   ·rw [if_pos hc, if_pos (decide_eq_true hc), List.map_cons, ih]
   ·rw [if_neg hc, if_neg (by simpa using hc), ih]
 rw [this]
 exact (List.Pairwise.filter _ hr.nodup)
theorem lead_mgR (s : ByteArray) : leadOf (mgR m a b out) s = if chkE out (mgH m a b s) = 0 then mgH m a b s else 0 := by
 unfold leadOf
 cases hq : (mgR m a b out).find? (fun r => r.1 == s) with
 | none =>
  by_cases hc : chkE out (mgH m a b s) = 0
  ·have := List.find?_eq_none.1 hq (s, mgH m a b s) (mem_mgR.2 ⟨rfl, hc⟩)
   exact absurd (ba_beq.2 rfl) this
  ·rw [if_neg hc]; rfl
 | some r =>
  have h1 := mem_mgR.1 (List.mem_of_find?_eq_some hq)
  have h2 : r.1 = s := ba_beq.1 (List.find?_some (p := fun (r : (ByteArray × Int)) => r.1 == s) hq)
  obtain ⟨t, h⟩ := r
  dsimp only at h1 h2
  subst h2
  rw [<- h1.1, if_pos h1.2]
  rfl
theorem mgH_left (s : ByteArray) : mgH m a m s = leadOf (rootsK a 8) s := by
 unfold mgH
 split
 ·rename_i e; exact e.symm
 ·rfl
theorem mgH_right (s : ByteArray) : mgH m m a s = leadOf (rootsK a 8) s := by
 unfold mgH
 rw [if_pos rfl]
theorem mgN_ok (hm : Fine m) (ha : Fine a) (hb : Fine b) (bm : Byt m) (ba : Byt a) (bb : Byt b) {s : ByteArray} (hs : s ∈ mgN m a b) : nameB s = true := by
 have hs' := mem_insL.1 hs
 have key : ∀ {L : List Int}, Fine L -> Byt L -> s ∈ (rootsK L 8).map (·.1) -> nameB s = true := fun {L} hf hby hx => by
  obtain ⟨r, hr, rfl⟩ := List.mem_map.1 hx
  obtain ⟨i, hi, hq, e⟩ := mem_rootsK_iff.1 hr
  have hbad := badR_no.1 ((rFault_iff.1 (faults_iff.1 hf.ok).2).1 i hi hq)
  have hn : r.1 = (readOut ((rowAt L i).take 8)).1 := by rw [<- e]; rfl
  rw [hn]
  refine nameB_iff.2 (readOut_ok (fun x hx => hby x ?_) hbad.1).2.1
  have h1 := List.mem_of_mem_take hx
  unfold rowAt at h1
  exact List.mem_of_mem_drop (List.mem_of_mem_take h1)
 rw [List.map_append, List.map_append, List.mem_append, List.mem_append] at hs'
 rcases hs' with (h | h) | h
 ·exact key hm bm h
 ·exact key ha ba h
 ·exact key hb bb h
theorem mg_right (hm : Fine m) (ha : Fine a) (hb : Fine b) (bm : Byt m) (ba : Byt a) (bb : Byt b) (ho : Fine out) (bo : Byt out) (hr : ∀ i, i < 8 -> isRoot (rowAt out i) = false) (h8 : (mgR m a b out).length <= 8) :
  RsN out (rtP out (mgR m a b out) 0) (mgR m a b out) := by
 have h0 : rootsK out 8 = [] := by
  rw [rootsK_none (b := out) (k := 0) 8 (Nat.zero_le _) (fun j _ hj => hr j hj)]
  rfl
 have st : RsN out out [] := ⟨ho, rfl, bo, h0, fun j _ hj => hr j hj, fun _ _ _ => ⟨rfl, rfl⟩⟩
 have := RsN.all (mgR m a b out) st (by rw [List.nil_append]; exact h8) (fun r hr => by
  have h := mem_mgR.1 hr
  refine ⟨mgN_ok hm ha hb bm ba bb (mgH_in (fun e => ?_)), h.2⟩
  have h2 := h.2
  rw [h.1, e] at h2
  exact chk_zero_no out h2) (by rw [List.nil_append]; exact mgR_names)
 rw [List.nil_append] at this
 exact this
end
theorem nodup_len {α : Type} [BEq α] [LawfulBEq α] : ∀ {l m : List α}, l.Nodup -> (∀ x ∈ l, x ∈ m) -> l.length <= m.length
 | [], m, _, _ => Nat.zero_le _
 | x :: l, m, hn, hs => by
  obtain ⟨h1, h2⟩ := List.nodup_cons.1 hn
  have hx := hs x (by simp)
  have := nodup_len (l := l) (m := m.erase x) h2 (fun y hy => (List.mem_erase_of_ne (show y ≠ x from fun e => h1 (e ▸ hy))).2 (hs y (by simp [hy])))
  rw [List.length_erase_of_mem hx] at this
  have hpos : 0 < m.length := List.length_pos_of_mem hx
  rw [List.length_cons]
  omega
section
variable {L c : List Int}
theorem mem_rtH (hf : Fine L) {h : Int} : h ∈ rtH L ↔ h ≠ 0 /\ ∃ s, leadOf (rootsK L 8) s = h := by
 unfold rtH
 rw [List.mem_map]
 constructor
 ·rintro ⟨r, hr, rfl⟩
  obtain ⟨i, hi, hq, e⟩ := mem_rootsK_iff.1 hr
  have hr2 : r.2 = (rowAt L i).getD 10 0 := by rw [<- e]; rfl
  rw [hr2]
  have := (lead_obj hf hi hq).1
  exact ⟨by omega, nameAt L i, lead_row hf hi hq rfl⟩
 ·rintro ⟨h0, s, hs⟩
  rw [lead_pl hf] at hs
  by_cases hp : plR L s < 8
  ·rw [if_pos hp] at hs
   obtain ⟨q1, q2⟩ := (isAtR_iff hf hp).1 ((plR_first L s).2.2 hp)
   exact ⟨rootOf (rowAt L (plR L s)), mem_rootsK_iff.2 ⟨_, hp, q1, rfl⟩, hs⟩
  ·rw [if_neg hp] at hs
   exact absurd hs.symm h0
theorem refs_none {h : Int} (h0 : (objOf L h).1 <= 0) : refsL L h = [] := by
 unfold refsL refK
 have : (objOf L h).1.toNat = 0 := by omega
 rw [this]
 rfl
theorem ways_none (hf : Fine L) (h0 : ∀ h, 1 <= h -> h <= 40 -> (objOf L h).1 <= 0) (h : Int) : wyL L h = if h ∈ rtH L then [h] else [] := by
 have s : Still (rtH L) (refsL L) (fun h => if h ∈ rtH L then [h] else []) := by
  refine ⟨fun r hr => ?_, fun h hn x hx => ?_, fun h hn => ?_⟩
  ·rw [if_pos hr]; exact ⟨by simp, Nat.le_refl _⟩
  ·by_cases hm : h ∈ rtH L
   ·have hd := rtH_dg hf h hm
    rw [refs_none (h0 h hd.1 hd.2)] at hx; cases hx
   ·rw [if_neg hm] at hn; exact absurd rfl hn
  ·by_cases hm : h ∈ rtH L
   ·rw [if_pos hm]; exact Way.root hm
   ·rw [if_neg hm] at hn; exact absurd rfl hn
 exact (s.eq (rtH_dg hf) (refsL_dg L) h).symm
theorem swept_left (hf : Fine L) (h0 : ∀ h, 1 <= h -> h <= 40 -> (objOf L h).1 <= 0) : Fine (swL L (ddK L 40)) /\ (swL L (ddK L 40)).length = L.length /\ rootsK (swL L (ddK L 40)) 8 = rootsK L 8 /\
  (∀ h, 1 <= h -> h <= 40 -> h ∈ rtH L -> objOf (swL L (ddK L 40)) h = objOf L h /\ tagAt (swL L (ddK L 40)) h = tagAt L h /\ entOf (swL L (ddK L 40)) h = entOf L h) /\
  (∀ h, 1 <= h -> h <= 40 -> h ∉ rtH L -> tagAt (swL L (ddK L 40)) h = 0) /\ ∀ j, 200 <= j -> (swL L (ddK L 40)).getD j 0 = L.getD j 0 := by
 have s := sweep_swept hf
 have hd : ∀ h, 1 <= h -> h <= 40 -> (h ∈ ddK L 40 ↔ tagAt L h ≠ 0 /\ h ∉ rtH L) := fun h h1 h2 => by
  rw [mem_ddK, ways_none hf h0]
  constructor
  ·rintro ⟨_, a, b⟩
   refine ⟨a, fun hm => ?_⟩
   rw [if_pos hm] at b
   cases b
  ·rintro ⟨a, b⟩
   exact ⟨⟨h1, h2⟩, a, if_neg b⟩
 refine ⟨s.fine, s.len, rootsK_same 8 (fun j hj => s.rows j hj), fun h h1 h2 hm => ?_, fun h h1 h2 hm => ?_, s.tail⟩
 ·have hn : h ∉ ddK L 40 := fun hx => ((hd h h1 h2).1 hx).2 hm
  exact ⟨(sweep_objs hf s h1 h2).2 hn, (s.keep h h1 h2 hn).1, (s.keep h h1 h2 hn).2⟩
 ·by_cases ht : tagAt L h = 0
  ·have hn : h ∉ ddK L 40 := fun hx => ((hd h h1 h2).1 hx).1 ht
   rw [(s.keep h h1 h2 hn).1]
   exact ht
  ·exact s.gone h ((hd h h1 h2).2 ⟨ht, hm⟩) h1 h2
def Low (L : List Int) (E : Nat) : Prop := ∀ h, 1 <= h -> h <= 40 -> tagAt L h ≠ 0 -> (entOf L h).2.1 + (entOf L h).2.2.1 <= E
theorem objOf_len (hf : Fine L) {h : Int} (h1 : 1 <= h) (h2 : h <= 40) (ht : tagAt L h ≠ 0) : ((objOf L h).2.length : Int) = (entOf L h).2.2.1 := by
 have he := hf.ent h1 h2 ht
 unfold objOf objE partL
 rw [if_neg ht]
 dsimp only
 rw [List.length_take, List.length_drop]
 omega
theorem step_low (hf : Fine L) {E : Nat} (hE : 288 <= E) (hl : Low L E) (h : mvS L = some c) : Low c E /\ ∀ j, E <= j -> c.getD j 0 = L.getD j 0 := by
 unfold mvS at h
 cases hq : mvOn 288 (srtE L) with
 | none => rw [hq] at h; cases h
 | some x =>
  obtain ⟨e, p⟩ := x
  rw [hq] at h
  obtain rfl : mvB L e.1 p.toNat = c := by simpa using h
  obtain ⟨m, p1, p2, he⟩ := step_moved hf hq
  obtain ⟨ee, e1, e2, et, _⟩ := ent_in hf he
  have hel := hl e.1 e1 e2 et
  have ea : (entOf L e.1).2.1 = e.2.1 := by rw [<- ee]
  have hen := hf.ent e1 e2 et
  have hlen := hf.len
  refine ⟨fun k k1 k2 kt => ?_, fun j hj => ?_⟩
  ·by_cases hk : k = e.1
   ·subst hk
    rw [m.ent]
    show ((p.toNat : Nat) : Int) + (entOf L e.1).2.2.1 <= E
    omega
   ·obtain ⟨a1, a2⟩ := m.other k k1 k2 hk
    rw [a2]
    exact hl k k1 k2 (by rw [<- a1]; exact kt)
  ·have hol := objOf_len hf e1 e2 et
   have hput : putE L (e.1, ((p.toNat : Nat) : Int), (entOf L e.1).2.2.1, (entOf L e.1).2.2.2) = 0 := putE_zero.2 ⟨hf.len0, hndB_iff.2 ⟨e1, e2⟩, hen.2.2.2.2.1, hen.2.2.2.2.2, hen.2.1, hen.2.2.1, by dsimp only; omega, by dsimp only; omega⟩
   have hpl := putL_len hput
   have hplc := plc_le e1 e2
   unfold mvB
   rw [splice_out (by rw [hpl]; omega) (.inr (by omega))]
   unfold putL
   rw [if_pos hput]
   exact splice_out (by show plc e.1 + 5 <= L.length; omega) (.inr (by show plc e.1 + 5 <= j; omega))
theorem mvF_low {E : Nat} (hE : 288 <= E) : ∀ (n : Nat) {L : List Int}, Fine L -> Low L E -> Low (mvF n L) E /\ ∀ j, E <= j -> (mvF n L).getD j 0 = L.getD j 0
 | 0, L, _, hl => ⟨hl, fun _ _ => rfl⟩
 | n + 1, L, hf, hl => by
  cases h : mvS L with
  | none => rw [mvF_none h]; exact ⟨hl, fun _ _ => rfl⟩
  | some d =>
   rw [mvF_some h]
   obtain ⟨a1, a2⟩ := step_low hf hE hl h
   obtain ⟨b1, b2⟩ := mvF_low hE n (step_as hf h).1.fine a1
   exact ⟨b1, fun j hj => (b2 j hj).trans (a2 j hj)⟩
end
def mgT (m a b : List Int) (X : Int × Nat × List Int) : Int × List Int :=
 if X.1 ≠ 0 then (X.1, []) else if 8 < (mgR m a b X.2.2).length then (4, []) else (0, rtP X.2.2 (mgR m a b X.2.2) 0)
def mgS (m a b : List Int) : Int × List Int := mgT m a b (pkS m.length (thO m a b) 40)
theorem pkLen_same {O Q : Int -> Int × List Int} : ∀ k : Nat, (∀ h : Int, 1 <= h -> h <= k -> O h = Q h) -> pkLen O k = pkLen Q k
 | 0, _ => rfl
 | k + 1, h => by
  show pkLen O k + _ = pkLen Q k + _
  rw [pkLen_same k (fun x h1 h2 => h x h1 (by omega)), h ((k : Int) + 1) (by omega) (by omega)]
section
variable {m a b : List Int}
theorem mgS_right (hm : Fine m) (ha : Fine a) (hb : Fine b) (bm : Byt m) (ba : Byt a) (bb : Byt b) (h0 : (mgS m a b).1 = 0) :
  ∃ out, Fine out /\ (∀ h : Int, 1 <= h -> h <= 40 -> objOf out h = thO m a b h) /\ (mgR m a b out).length <= 8 /\ RsN out (mgS m a b).2 (mgR m a b out) /\ (mgS m a b).2.length = m.length := by
 have hl := hm.len
 obtain ⟨i1, i2, i3⟩ := pkS_ok hl.1 hl.2 (thO_ok (m := m) ha ba hb bb) 40 (Nat.le_refl _)
 unfold mgS at h0 ⊢
 generalize pkS m.length (thO m a b) 40 = X at *
 unfold mgT at h0 ⊢
 by_cases e1 : X.1 ≠ 0
 ·rw [if_pos e1] at h0; exact absurd h0 e1
 ·rw [if_neg e1] at h0 ⊢
  obtain ⟨pk, _, po, _⟩ := i3 (by omega)
  by_cases e2 : 8 < (mgR m a b X.2.2).length
  ·rw [if_pos e2] at h0; exact absurd h0 (by decide)
  ·rw [if_neg e2]
   dsimp only
   have r := mg_right hm ha hb bm ba bb pk.fine pk.byt pk.none_ (by omega)
   refine ⟨X.2.2, pk.fine, fun h h1 h2 => ?_, Nat.le_of_not_lt e2, r, r.len.trans pk.len⟩
   exact po h h1 (by omega)
theorem mgT_same (hm : Fine m) (ha : Fine a) (hb : Fine b) (bm : Byt m) (ba : Byt a) (bb : Byt b) {c : List Int} (hc : Fine c) {X : Int × Nat × List Int} {N x : Nat} (e1 : X.1 = 0) (pk : Pk N X.2.2 x) (po : ∀ h : Int, 1 <= h -> h <= 40 -> objOf X.2.2 h = thO m a b h)
  (hO : ∀ h : Int, 1 <= h -> h <= 40 -> thO m a b h = objOf c h) (hH : ∀ s, mgH m a b s = leadOf (rootsK c 8) s) :
  (mgT m a b X).1 = 0 /\ Fine (mgT m a b X).2 /\ (mgT m a b X).2.length = N /\ sameO (mgT m a b X).2 c 40 = true /\ sameR (rootsK (mgT m a b X).2 8) (rootsK c 8) = true := by
 haveI := ba_lawful
 have hapc := apart_roots hc.ok
 -- the roots are those of c
 have hmem : ∀ r : (ByteArray × Int), r ∈ mgR m a b X.2.2 ↔ r ∈ rootsK c 8 := fun r => by
  rw [mem_mgR, hH]
  have hchk : ∀ h : Int, 1 <= h -> h <= 40 -> (chkE X.2.2 h = 0 ↔ tagAt c h ≠ 0) := fun h h1 h2 => by
   have ho := (po h h1 h2).trans (hO h h1 h2)
   constructor
   ·intro hx ht
    have h3 := (chkE_zero.1 hx).2.2
    unfold objOf at ho
    rw [if_neg h3, if_pos ht] at ho
    have := congrArg Prod.fst ho
    have h4 := (pk.fine.ent h1 h2 h3).2.2.2.2.1
    unfold objE at this
    dsimp only at this
    omega
   ·intro ht
    refine chkE_zero.2 ⟨pk.fine.len0, hndB_iff.2 ⟨h1, h2⟩, fun h3 => ?_⟩
    unfold objOf at ho
    rw [if_pos h3, if_neg ht] at ho
    have := congrArg Prod.fst ho
    have h4 := (hc.ent h1 h2 ht).2.2.2.2.1
    unfold objE at this
    dsimp only at this
    omega
  constructor
  ·rintro ⟨h1, h2⟩
   have h0 : leadOf (rootsK c 8) r.1 ≠ 0 := fun e => chk_zero_no _ (by rw [h1, e] at h2; exact h2)
   obtain ⟨s, h⟩ := r
   dsimp only at h1 h2 h0
   subst h1
   rcases lead_range hc s with e | ⟨b1, _, _⟩
   ·exact absurd e h0
   ·exact (lead_mem hapc b1).1 rfl
  ·intro hr
   obtain ⟨p1, p2⟩ := hapc.pos r hr
   obtain ⟨s, h⟩ := r
   dsimp only at p1 p2
   have hld : leadOf (rootsK c 8) s = h := (lead_mem hapc p1).2 hr
   refine ⟨hld.symm, ?_⟩
   refine (hchk h p1 p2).2 ?_
   rcases lead_range hc s with e | ⟨_, _, b3⟩
   ·rw [hld] at e; omega
   ·rw [hld] at b3
    exact (chkE_zero.1 b3).2.2
 have hnd1 : (mgR m a b X.2.2).Nodup := by
  refine List.Pairwise.imp ?_ (List.pairwise_map.1 mgR_names)
  intro x y hxy e
  exact hxy (by rw [e])
 have hnd2 : (rootsK c 8).Nodup := by
  refine List.Pairwise.imp ?_ (List.pairwise_map.1 hapc.nodup)
  intro x y hxy e
  exact hxy (by rw [e])
 have hlr : (mgR m a b X.2.2).length = (rootsK c 8).length :=
  Nat.le_antisymm (nodup_len hnd1 (fun x hx => (hmem x).1 hx)) (nodup_len hnd2 (fun x hx => (hmem x).2 hx))
 have h8 : ¬ 8 < (mgR m a b X.2.2).length := by rw [hlr]; have := rootsK_len c 8; omega
 have hS : mgT m a b X = (0, rtP X.2.2 (mgR m a b X.2.2) 0) := by
  unfold mgT
  rw [if_neg (fun h => h e1), if_neg h8]
 have r := mg_right hm ha hb bm ba bb pk.fine pk.byt pk.none_ (by omega)
 rw [hS]
 dsimp only
 generalize rtP X.2.2 (mgR m a b X.2.2) 0 = Y at *
 refine ⟨rfl, r.fine, r.len.trans pk.len, sameO_iff.2 (fun j hj => ?_), ?_⟩
 ·rw [(r.objs ((j : Int) + 1) (by omega) (by omega)).1, po _ (by omega) (by omega)]
  exact hO _ (by omega) (by omega)
 ·rw [r.roots]
  have hap : Apart (mgR m a b X.2.2) := ⟨mgR_names, fun x hx => hapc.pos x ((hmem x).1 hx)⟩
  exact (sameR_iff hap hapc).2 ⟨hlr, fun x hx => (hmem x).1 hx⟩
theorem mgS_same (hm : Fine m) (ha : Fine a) (hb : Fine b) (bm : Byt m) (ba : Byt a) (bb : Byt b) {c : List Int} (hc : Fine c) (hlen : c.length = m.length) (hO : ∀ h : Int, 1 <= h -> h <= 40 -> thO m a b h = objOf c h) (hH : ∀ s, mgH m a b s = leadOf (rootsK c 8) s) :
  (mgS m a b).1 = 0 /\ Fine (mgS m a b).2 /\ (mgS m a b).2.length = m.length /\ sameO (mgS m a b).2 c 40 = true /\ sameR (rootsK (mgS m a b).2 8) (rootsK c 8) = true := by
 have hl := hm.len
 obtain ⟨i1, i2, i3⟩ := pkS_ok hl.1 hl.2 (thO_ok (m := m) ha ba hb bb) 40 (Nat.le_refl _)
 have hroom : 288 + pkLen (thO m a b) 40 <= m.length := by
  have e := pkLen_same (O := thO m a b) (Q := objOf c) 40 (fun h h1 h2 => hO h h1 (by omega))
  rw [e, <- hlen]
  exact pkLen_room hc
 have e1 := i1.2 hroom
 obtain ⟨pk, _, po, _⟩ := i3 e1
 unfold mgS
 exact mgT_same hm ha hb bm ba bb hc e1 pk (fun h h1 h2 => po h h1 (by omega)) hO hH
end
end Go.Proofs.YtifmemombecoaaaGreatDoor
