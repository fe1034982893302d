/-
  Parts of the proofs, joined by program.
-/
import Derived.Test.YtifmemombecoaaaGreatDoorJRtp
import Derived.Test.YtifmemombecoaaaGreatDoorJExf
namespace Go.Proofs.YtifmemombecoaaaGreatDoor
open Go.RowKit
set_option linter.unusedVariables false
section
variable {b : List Int}
theorem put_over (hf : Fine b) {e : (Int × Int × Int × Int)} (he : putE b e = 0) (hno : ∀ k, 1 <= k -> k <= 40 -> k ≠ e.1 -> tagAt b k ≠ 0 -> lapB e (entOf b k) = false) :
  Fine (putL b e) /\ (∀ k, 1 <= k -> k <= 40 -> k ≠ e.1 -> tagAt (putL b e) k = tagAt b k /\ entOf (putL b e) k = entOf b k) /\ tagAt (putL b e) e.1 ≠ 0 /\ entOf (putL b e) e.1 = e /\ (putL b e).length = b.length /\ (∀ j, 200 <= j -> (putL b e).getD j 0 = b.getD j 0) := by
 have hb := hf.len
 have hlen := putL_len he
 obtain ⟨_, hh, _⟩ := putE_zero.1 he
 have hh' := hndB_iff.1 hh
 have hp := plc_le hh'.1 hh'.2
 have hr5 : (rowE e).length = 5 := rfl
 have hL : putL b e = splice b (plc e.1) (rowE e) := by unfold putL; rw [if_pos he]
 obtain ⟨hg1, hg2⟩ := putL_get he
 have hself : tagAt (putL b e) e.1 ≠ 0 := (chkE_zero.1 hg1).2.2
 have hother : ∀ k, 1 <= k -> k <= 40 -> k ≠ e.1 -> tagAt (putL b e) k = tagAt b k /\ entOf (putL b e) k = entOf b k := fun k k1 k2 hk => by
  rw [hL]
  exact splice_tag hr5 hb.1 hh'.1 hh'.2 k1 k2 hk
 have htail : ∀ j, 200 <= j -> (putL b e).getD j 0 = b.getD j 0 := fun j hj => by
  rw [hL, splice_out (by rw [hr5]; omega) (by rw [hr5]; omega)]
 have hrow : ∀ i, i < 8 -> rowAt (putL b e) i = rowAt b i := fun i hi => by
  apply ext_getD
  ·rw [rowAt_len (by omega), rowAt_len (by omega)]
  ·intro j hj
   rw [rowAt_len (by omega)] at hj
   rw [rowAt_getD hj, rowAt_getD hj]
   exact htail _ (by omega)
 refine ⟨fine_of (by rw [hlen]; exact hf.len0) (fun h h1 h2 ht => ?_) (fun h k h1 h2 k1 hlt ht kt => ?_) (fun h h1 h2 ht => ?_) (fun hw => ?_), hother, hself, hg2, hlen, htail⟩
 ·by_cases hq : h = e.1
  ·subst hq
   rw [hg2, putE_same hlen]
   exact he
  ·obtain ⟨e1, e2⟩ := hother h h1 h2 hq
   rw [e1] at ht
   rw [e2, putE_same hlen]
   exact (hf.hand h1 h2 ht).2
 ·by_cases hq : h = e.1
  ·subst hq
   obtain ⟨e1, e2⟩ := hother k k1 (by omega) (by omega)
   rw [e1] at kt
   rw [hg2, e2]
   exact hno k k1 (by omega) (by omega) kt
  ·obtain ⟨e1, e2⟩ := hother h h1 h2 hq
   rw [e1] at ht
   by_cases hq2 : k = e.1
   ·subst hq2
    rw [e2, hg2, lapB_comm]
    exact hno h h1 h2 hq ht
   ·obtain ⟨e3, e4⟩ := hother k k1 (by omega) hq2
    rw [e3] at kt
    rw [e2, e4]
    exact hf.apart h1 h2 k1 (by omega) (by omega) ht kt
 ·by_cases hq : h = e.1
  ·subst hq; exact absurd ht hself
  ·obtain ⟨e1, e2⟩ := hother h h1 h2 hq
   rw [e1] at ht
   rw [e2]
   rcases hFault_nil.1 ((faults_iff.1 hf.ok).1 h h1 h2) with hw | hw
   ·exact absurd ht (wh_one.1 hw).1
   ·exact hw.2
 ·refine (roots_keep hrow (fun i hi hq _ hw1 => ?_) (faults_iff.1 hf.ok).2 8 (by omega)).2
  have hx := hndB_iff.1 hq
  have ht := (wh_one.1 hw1).1
  refine hw _ hx.1 hx.2 ?_
  by_cases hq2 : (rowAt b i).getD 10 0 = e.1
  ·rw [hq2]; exact hself
  ·rw [(hother _ hx.1 hx.2 hq2).1]
   exact ht
def mvB (b : List Int) (h : Int) (at' : Nat) : List Int := splice (putL b (h, (at' : Int), (entOf b h).2.2.1, (entOf b h).2.2.2)) at' (objOf b h).2
structure Mvd (b c : List Int) (h : Int) (at' : Nat) : Prop where
 fine : Fine c
 len : c.length = b.length
 ent : entOf c h = (h, (at' : Int), (entOf b h).2.2.1, (entOf b h).2.2.2)
 tag : tagAt c h ≠ 0
 other : ∀ k, 1 <= k -> k <= 40 -> k ≠ h -> tagAt c k = tagAt b k /\ entOf c k = entOf b k
 objs : ∀ k, 1 <= k -> k <= 40 -> objOf c k = objOf b k
 roots : rootsK c 8 = rootsK b 8
theorem ent_handle {h : Int} : (entOf b h).1 = h := rfl
theorem moved (hf : Fine b) {h : Int} (h1 : 1 <= h) (h2 : h <= 40) (ht : tagAt b h ≠ 0) {at' : Nat} (ha : 288 <= at') (hle : (at' : Int) <= (entOf b h).2.1)
  (hno : ∀ k, 1 <= k -> k <= 40 -> k ≠ h -> tagAt b k ≠ 0 -> (entOf b k).2.1 + (entOf b k).2.2.1 <= at' \/ (at' : Int) + (entOf b h).2.2.1 <= (entOf b k).2.1) : Mvd b (mvB b h at') h at' := by
 have hen := hf.ent h1 h2 ht
 have he : putE b (h, (at' : Int), (entOf b h).2.2.1, (entOf b h).2.2.2) = 0 := putE_zero.2 ⟨hf.len0, hndB_iff.2 ⟨h1, h2⟩, hen.2.2.2.2.1, hen.2.2.2.2.2, hen.2.1, hen.2.2.1, by dsimp only; omega, by dsimp only; omega⟩
 obtain ⟨pf, po, pt, pe, pl, ptl⟩ := put_over hf he (fun k k1 k2 hk hkt => by
  rw [lapB_no]
  exact hno k k1 k2 hk hkt)
 dsimp only at po pt pe
 have hob : (objOf b h).2 = partL b (entOf b h).2.1 (entOf b h).2.2.1 := by
  unfold objOf objE
  rw [if_neg ht]
 have hol : (objOf b h).2.length = (entOf b h).2.2.1.toNat := by
  rw [hob]
  unfold partL
  rw [List.length_take, List.length_drop]
  omega
 have hfit : at' + (objOf b h).2.length <= (putL b (h, (at' : Int), (entOf b h).2.2.1, (entOf b h).2.2.2)).length := by rw [pl, hol]; omega
 obtain ⟨lf, ll, le, lo⟩ := lay_objs pf ha hfit
 have hrows : ∀ i, i < 8 -> rowAt (mvB b h at') i = rowAt b i := fun i hi => by
  have hl := hf.len
  have hl2 : (mvB b h at').length = b.length := ll.trans pl
  apply ext_getD
  ·rw [rowAt_len (by omega), rowAt_len (by omega)]
  ·intro j hj
   rw [rowAt_len (by omega)] at hj
   rw [rowAt_getD hj, rowAt_getD hj]
   unfold mvB
   rw [splice_out hfit (.inl (by omega))]
   exact ptl _ (by omega)
 refine ⟨lf, ll.trans pl, (le h h1 h2).2.trans pe, by unfold mvB; rw [(le h h1 h2).1]; exact pt, fun k k1 k2 hk => ?_, fun k k1 k2 => ?_, rootsK_same 8 hrows⟩
 ·exact ⟨(le k k1 k2).1.trans (po k k1 k2 hk).1, (le k k1 k2).2.trans (po k k1 k2 hk).2⟩
 ·by_cases hk : k = h
  ·subst hk
   have e1 : tagAt (mvB b k at') k ≠ 0 := by unfold mvB; rw [(le k h1 h2).1]; exact pt
   have e2 : entOf (mvB b k at') k = (k, (at' : Int), (entOf b k).2.2.1, (entOf b k).2.2.2) := (le k h1 h2).2.trans pe
   have e3 : objOf (mvB b k at') k = ((entOf b k).2.2.2, partL (mvB b k at') (at' : Int) (entOf b k).2.2.1) := by
    unfold objOf objE
    rw [if_neg e1, e2]
   have e4 : objOf b k = ((entOf b k).2.2.2, (objOf b k).2) := by
    unfold objOf objE
    rw [if_neg ht]
   rw [e3, e4]
   congr 1
   unfold partL mvB
   apply ext_getD
   ·rw [List.length_take, List.length_drop, length_splice hfit, pl, hol]
    omega
   ·intro j hj
    rw [List.length_take, List.length_drop, length_splice hfit, pl] at hj
    rw [Int.toNat_natCast]
    have hjl : j < (objOf b k).2.length := by omega
    have e5 := splice_in hfit hjl
    simp only [List.getD, List.getElem?_take, if_pos (show j < (entOf b k).2.2.1.toNat by omega), List.getElem?_drop] at e5 ⊢
    exact e5
  ·have e1 := lo k k1 k2 (fun hkt => by
    rw [(po k k1 k2 hk).1] at hkt
    rw [(po k k1 k2 hk).2, hol]
    have := hno k k1 k2 hk hkt
    have hl1 := hen.2.1
    omega)
   rw [show objOf (mvB b h at') k = objOf (putL b (h, (at' : Int), (entOf b h).2.2.1, (entOf b h).2.2.2)) k from e1]
   refine obj_same pl (po k k1 k2 hk).1 (po k k1 k2 hk).2 (fun hkt j hj _ => ptl j ?_)
   have := (hf.ent k1 k2 hkt).1
   omega
theorem mv_byt (hb : Byt b) (h : Int) (at' : Nat) : Byt (mvB b h at') := by
 unfold mvB
 refine byt_splice ?_ ?_
 ·unfold putL
  split
  ·exact byt_splice hb (byt_rowE _)
  ·exact fun z hz => (by cases hz)
 ·unfold objOf objE partL
  split
  ·exact fun z hz => (by cases hz)
  ·exact fun z hz => hb z (List.mem_of_mem_drop (List.mem_of_mem_take hz))
end
def byAt (x y : (Int × Int × Int × Int)) : Bool := decide (x.2.1 <= y.2.1)
def srtE (L : List Int) : List (Int × Int × Int × Int) := (entsK L 40).mergeSort byAt
def Ahead (x y : (Int × Int × Int × Int)) : Prop := x.2.1 + x.2.2.1 <= y.2.1
theorem byAt_trans : ∀ a b c : (Int × Int × Int × Int), byAt a b = true -> byAt b c = true -> byAt a c = true := fun a b c h1 h2 => by
 unfold byAt at *
 rw [decide_eq_true_iff] at *
 omega
theorem byAt_total : ∀ a b : (Int × Int × Int × Int), (byAt a b || byAt b a) = true := fun a b => by
 unfold byAt
 rw [Bool.or_eq_true, decide_eq_true_iff, decide_eq_true_iff]
 omega
section
variable {L : List Int}
theorem ents_nodup : ∀ k : Nat, ((entsK L k).map (·.1)).Pairwise (· < ·) /\ ∀ x ∈ entsK L k, 1 <= x.1 /\ x.1 <= k
 | 0 => ⟨List.Pairwise.nil, fun x hx => by cases hx⟩
 | k + 1 => by
  obtain ⟨h1, h2⟩ := ents_nodup k
  show ((entsK L k ++ _).map (·.1)).Pairwise (· < ·) /\ ∀ x ∈ entsK L k ++ _, _
  by_cases ht : tagAt L ((k : Int) + 1) = 0
  ·rw [if_pos ht, List.append_nil]
   exact ⟨h1, fun x hx => by have := h2 x hx; omega⟩
  ·rw [if_neg ht]
   refine ⟨?_, fun x hx => ?_⟩
   ·rw [List.map_append]
    refine List.pairwise_append.2 ⟨h1, by simp, fun a ha b hb => ?_⟩
    obtain ⟨x, hx, rfl⟩ := List.mem_map.1 ha
    have := h2 x hx
    have hb' : b = (k : Int) + 1 := by simpa [ent_handle] using hb
    omega
   ·rcases List.mem_append.1 hx with hx | hx
    ·have := h2 x hx; omega
    ·rw [List.mem_singleton.1 hx]
     show 1 <= (k : Int) + 1 /\ (k : Int) + 1 <= ((k + 1 : Nat) : Int)
     omega
theorem ent_in (hf : Fine L) {x : (Int × Int × Int × Int)} (hx : x ∈ entsK L 40) : x = entOf L x.1 /\ 1 <= x.1 /\ x.1 <= 40 /\ tagAt L x.1 ≠ 0 /\ 288 <= x.2.1 /\ 1 <= x.2.2.1 /\ x.2.2.1 <= 1000 /\ x.2.1 + x.2.2.1 <= L.length := by
 obtain ⟨j, hj, ht, rfl⟩ := mem_entsP.1 hx
 have e := hf.ent (h := (j : Int) + 1) (by omega) (by omega) ht
 have hh : (entOf L ((j : Int) + 1)).1 = (j : Int) + 1 := rfl
 rw [hh]
 exact ⟨rfl, by omega, by omega, ht, e.1, e.2.1, e.2.2.1, e.2.2.2.1⟩
theorem ent_mem {h : Int} (h1 : 1 <= h) (h2 : h <= 40) (ht : tagAt L h ≠ 0) : entOf L h ∈ entsK L 40 := by
 refine mem_entsP.2 ⟨(h - 1).toNat, by omega, ?_, ?_⟩
 ·rw [show (((h - 1).toNat : Nat) : Int) + 1 = h by omega]; exact ht
 ·rw [show (((h - 1).toNat : Nat) : Int) + 1 = h by omega]
theorem srtE_perm : (srtE L).Perm (entsK L 40) := List.mergeSort_perm _ _
theorem srtE_mem {x : (Int × Int × Int × Int)} : x ∈ srtE L ↔ x ∈ entsK L 40 := srtE_perm.mem_iff
theorem ents_apart (hf : Fine L) {x y : (Int × Int × Int × Int)} (hx : x ∈ entsK L 40) (hy : y ∈ entsK L 40) (hne : x.1 ≠ y.1) : Ahead x y \/ Ahead y x := by
 obtain ⟨ex, x1, x2, xt, _⟩ := ent_in hf hx
 obtain ⟨ey, y1, y2, yt, _⟩ := ent_in hf hy
 have := lapB_no.1 (hf.apart x1 x2 y1 y2 hne xt yt)
 rw [<- ex, <- ey] at this
 unfold Ahead
 omega
theorem ents_one {x y : (Int × Int × Int × Int)} (hx : x ∈ entsK L 40) (hy : y ∈ entsK L 40) (h : x.1 = y.1) : x = y := by
 obtain ⟨i, _, _, rfl⟩ := mem_entsP.1 hx
 obtain ⟨j, _, _, rfl⟩ := mem_entsP.1 hy
 have h' : (i : Int) + 1 = (j : Int) + 1 := h
 rw [h']
theorem srtE_nodup : ((srtE L).map (·.1)).Nodup := by
 have h1 := (ents_nodup (L := L) 40).1
 have h2 := (srtE_perm (L := L)).map (fun x => x.1)
 generalize entsK L 40 = l at h1 h2
 exact h2.nodup_iff.2 (h1.imp (fun h e => by omega))
theorem srtE_ahead (hf : Fine L) : (srtE L).Pairwise Ahead := by
 have h1 : (srtE L).Pairwise (fun x y => byAt x y = true) := List.pairwise_mergeSort byAt_trans byAt_total _
 have h2 : (srtE L).Pairwise (fun x y => x.1 ≠ y.1) := List.pairwise_map.1 srtE_nodup
 refine (h1.and h2).imp_of_mem (fun {x y} hx hy h => ?_)
 have hx' := srtE_mem.1 hx
 have hy' := srtE_mem.1 hy
 rcases ents_apart hf hx' hy' h.2 with ha | ha
 ·exact ha
 ·have h3 := h.1
  unfold byAt at h3
  rw [decide_eq_true_iff] at h3
  have := (ent_in hf hy').2.2.2.2.2.1
  unfold Ahead at ha ⊢
  omega
end
def mvOn (a : Int) : List (Int × Int × Int × Int) -> Option ((Int × Int × Int × Int) × Int)
 | [] => none
 | e :: r => if a < e.2.1 then some (e, a) else mvOn (a + e.2.2.1) r
def sumE : List (Int × Int × Int × Int) -> Int
 | [] => 0
 | e :: r => e.2.2.1 + sumE r
def Packed (a : Int) : List (Int × Int × Int × Int) -> Prop
 | [] => True
 | e :: r => e.2.1 = a /\ Packed (a + e.2.2.1) r
def mvN (a : Int) : List (Int × Int × Int × Int) -> Nat
 | [] => 0
 | e :: r => (if a < e.2.1 then 1 else 0) + mvN (a + e.2.2.1) r
theorem mvOn_none : ∀ {l : List (Int × Int × Int × Int)} {a : Int}, l.Pairwise Ahead -> (∀ x ∈ l, a <= x.2.1) -> mvOn a l = none -> Packed a l /\ mvN a l = 0
 | [], a, _, _, _ => ⟨trivial, rfl⟩
 | e :: r, a, hp, ha, h => by
  unfold mvOn at h
  by_cases hlt : a < e.2.1
  ·rw [if_pos hlt] at h; cases h
  ·rw [if_neg hlt] at h
   have he := ha e (by simp)
   rw [List.pairwise_cons] at hp
   obtain ⟨h1, h2⟩ := mvOn_none hp.2 (fun x hx => by have := hp.1 x hx; unfold Ahead at this; omega) h
   refine ⟨⟨by omega, h1⟩, ?_⟩
   unfold mvN
   rw [if_neg hlt, h2]
theorem mvOn_some : ∀ {l : List (Int × Int × Int × Int)} {a : Int} {e : (Int × Int × Int × Int)} {p : Int}, l.Pairwise Ahead -> (∀ x ∈ l, a <= x.2.1) -> (∀ x ∈ l, 1 <= x.2.2.1) -> mvOn a l = some (e, p) ->
  ∃ l1 l2, l = l1 ++ e :: l2 /\ a <= p /\ p < e.2.1 /\ (∀ x ∈ l1, x.2.1 + x.2.2.1 <= p) /\ mvN a l = mvN a (l1 ++ (e.1, p, e.2.2.1, e.2.2.2) :: l2) + 1
 | [], a, e, p, _, _, _, h => by cases h
 | x :: r, a, e, p, hp, ha, hl, h => by
  unfold mvOn at h
  by_cases hlt : a < x.2.1
  ·rw [if_pos hlt] at h
   obtain ⟨rfl, rfl⟩ : x = e /\ a = p := by simpa using h
   refine ⟨[], r, rfl, Int.le_refl _, hlt, fun y hy => (by cases hy), ?_⟩
   simp only [List.nil_append, mvN]
   rw [if_pos hlt, if_neg (by omega)]
   omega
  ·rw [if_neg hlt] at h
   have hx := ha x (by simp)
   have hlx := hl x (by simp)
   rw [List.pairwise_cons] at hp
   obtain ⟨l1, l2, rfl, q1, q2, q3, q4⟩ := mvOn_some hp.2 (fun y hy => by have := hp.1 y hy; unfold Ahead at this; omega) (fun y hy => hl y (by simp [hy])) h
   refine ⟨x :: l1, l2, rfl, by omega, q2, fun y hy => ?_, ?_⟩
   ·rcases List.mem_cons.1 hy with rfl | hy
    ·omega
    ·exact q3 y hy
   ·simp only [List.cons_append, mvN]
    rw [if_neg hlt, q4]
    omega
def mvS (L : List Int) : Option (List Int) := (mvOn 288 (srtE L)).map fun x => mvB L x.1.1 x.2.toNat
section
variable {L : List Int}
theorem srtE_from (hf : Fine L) : (∀ x ∈ srtE L, 288 <= x.2.1) /\ ∀ x ∈ srtE L, 1 <= x.2.2.1 :=
 ⟨fun x hx => (ent_in hf (srtE_mem.1 hx)).2.2.2.2.1, fun x hx => (ent_in hf (srtE_mem.1 hx)).2.2.2.2.2.1⟩
theorem step_moved (hf : Fine L) {e : (Int × Int × Int × Int)} {p : Int} (h : mvOn 288 (srtE L) = some (e, p)) : Mvd L (mvB L e.1 p.toNat) e.1 p.toNat /\ 288 <= p /\ p < e.2.1 /\ e ∈ entsK L 40 := by
 obtain ⟨f1, f2⟩ := srtE_from hf
 obtain ⟨l1, l2, hl, q1, q2, q3, _⟩ := mvOn_some (srtE_ahead hf) f1 f2 h
 have he : e ∈ entsK L 40 := srtE_mem.1 (by rw [hl]; simp)
 obtain ⟨ee, e1, e2, et, _⟩ := ent_in hf he
 have ea : (entOf L e.1).2.1 = e.2.1 := by rw [<- ee]
 have el : (entOf L e.1).2.2.1 = e.2.2.1 := by rw [<- ee]
 refine ⟨moved hf e1 e2 et (by omega) (by rw [ea]; omega) (fun k k1 k2 hk hkt => ?_), q1, q2, he⟩
 rw [el]
 have hk' := ent_mem k1 k2 hkt
 have hkm : entOf L k ∈ l1 ++ e :: l2 := by rw [<- hl]; exact srtE_mem.2 hk'
 have hsa := srtE_ahead hf
 rw [hl, List.pairwise_append, List.pairwise_cons] at hsa
 rcases List.mem_append.1 hkm with hm | hm
 ·have := q3 _ hm
  left
  omega
 ·rcases List.mem_cons.1 hm with hm | hm
  ·exact absurd (congrArg Prod.fst hm) hk
  ·have := hsa.2.1.1 _ hm
   unfold Ahead at this
   right
   omega
theorem Mvd.ents {c : List Int} {h : Int} {p : Nat} (m : Mvd L c h p) (ht : tagAt L h ≠ 0) : ∀ k : Nat, k <= 40 -> entsK c k = (entsK L k).map fun x => if x.1 = h then (h, (p : Int), (entOf L h).2.2.1, (entOf L h).2.2.2) else x
 | 0, _ => rfl
 | k + 1, hk => by
  show entsK c k ++ _ = (entsK L k ++ _).map _
  rw [List.map_append, m.ents ht k (by omega)]
  congr 1
  by_cases e : (k : Int) + 1 = h
  ·have ht2 := m.tag
   rw [e, if_neg m.tag, if_neg ht, m.ent]
   simp [ent_handle]
  ·obtain ⟨o1, o2⟩ := m.other ((k : Int) + 1) (by omega) (by omega) e
   rw [o1, o2]
   split
   ·rfl
   ·simp [ent_handle, e]
theorem map_one {l1 l2 : List (Int × Int × Int × Int)} {e e' : (Int × Int × Int × Int)} (hnd : ((l1 ++ e :: l2).map (·.1)).Nodup) : (l1 ++ e :: l2).map (fun x => if x.1 = e.1 then e' else x) = l1 ++ e' :: l2 := by
 rw [List.map_append, List.map_cons, List.nodup_append, List.nodup_cons] at hnd
 rw [List.map_append, List.map_cons, if_pos rfl]
 have h1 : l1.map (fun x => if x.1 = e.1 then e' else x) = l1 := by
  refine (List.map_congr_left (g := id) (fun x hx => ?_)).trans (List.map_id _)
  exact if_neg (fun h => hnd.2.2 x.1 (List.mem_map.2 ⟨x, hx, rfl⟩) e.1 (by simp) h)
 have h2 : l2.map (fun x => if x.1 = e.1 then e' else x) = l2 := by
  refine (List.map_congr_left (g := id) (fun x hx => ?_)).trans (List.map_id _)
  exact if_neg (fun h => hnd.2.1.1 (by rw [<- h]; exact List.mem_map.2 ⟨x, hx, rfl⟩))
 rw [h1, h2]
theorem step_sorted (hf : Fine L) {e : (Int × Int × Int × Int)} {p : Int} (h : mvOn 288 (srtE L) = some (e, p)) : ∃ l1 l2, srtE L = l1 ++ e :: l2 /\ srtE (mvB L e.1 p.toNat) = l1 ++ (e.1, p, e.2.2.1, e.2.2.2) :: l2 /\ mvN 288 (srtE L) = mvN 288 (srtE (mvB L e.1 p.toNat)) + 1 := by
 obtain ⟨m, hp, hlt, he⟩ := step_moved hf h
 obtain ⟨f1, f2⟩ := srtE_from hf
 obtain ⟨l1, l2, hl, q1, q2, q3, q4⟩ := mvOn_some (srtE_ahead hf) f1 f2 h
 obtain ⟨ee, e1, e2, et, _⟩ := ent_in hf he
 have hent := m.ents et 40 (Nat.le_refl _)
 have hE : (e.1, ((p.toNat : Nat) : Int), (entOf L e.1).2.2.1, (entOf L e.1).2.2.2) = (e.1, p, e.2.2.1, e.2.2.2) := by
  rw [<- ee, show ((p.toNat : Nat) : Int) = p by omega]
 rw [hE] at hent
 have hmap : (srtE L).map (fun x => if x.1 = e.1 then (e.1, p, e.2.2.1, e.2.2.2) else x) = l1 ++ (e.1, p, e.2.2.1, e.2.2.2) :: l2 := by
  have hnd := srtE_nodup (L := L)
  rw [hl] at hnd ⊢
  exact map_one hnd
 have hperm : (l1 ++ (e.1, p, e.2.2.1, e.2.2.2) :: l2).Perm (srtE (mvB L e.1 p.toNat)) := by
  rw [<- hmap]
  refine ((srtE_perm (L := L)).map _).trans ?_
  rw [<- hent]
  exact srtE_perm.symm
 have hsa := srtE_ahead hf
 rw [hl, List.pairwise_append, List.pairwise_cons] at hsa
 have hnew : (l1 ++ (e.1, p, e.2.2.1, e.2.2.2) :: l2).Pairwise (fun x y => byAt x y = true) := by
  have f2' : ∀ x ∈ l1 ++ e :: l2, 1 <= x.2.2.1 := fun x hx => f2 x (by rw [hl]; exact hx)
  refine List.pairwise_append.2 ⟨hsa.1.imp_of_mem (fun {x y} hx hy ha => ?_), List.pairwise_cons.2 ⟨fun y hy => ?_, hsa.2.1.2.imp_of_mem (fun {x y} hx hy ha => ?_)⟩, fun x hx y hy => ?_⟩
  ·have := f2' x (by simp [hx])
   unfold Ahead at ha
   unfold byAt
   rw [decide_eq_true_iff]; omega
  ·have h1 := hsa.2.1.1 y hy
   have := f2' e (by simp)
   unfold Ahead at h1
   unfold byAt
   rw [decide_eq_true_iff]
   dsimp only
   omega
  ·have := f2' x (by simp [hx])
   unfold Ahead at ha
   unfold byAt
   rw [decide_eq_true_iff]; omega
  ·have hx2 := f2' x (by simp [hx])
   unfold byAt
   rw [decide_eq_true_iff]
   rcases List.mem_cons.1 hy with rfl | hy
   ·have := q3 x hx
    dsimp only
    omega
   ·have := hsa.2.2 x hx y (by simp [hy])
    unfold Ahead at this
    omega
 have hold : (srtE (mvB L e.1 p.toNat)).Pairwise (fun x y => byAt x y = true) := List.pairwise_mergeSort byAt_trans byAt_total _
 have heq : l1 ++ (e.1, p, e.2.2.1, e.2.2.2) :: l2 = srtE (mvB L e.1 p.toNat) := by
  refine List.Perm.eq_of_pairwise (le := fun x y => byAt x y = true) (fun x y hx hy h1 h2 => ?_) hnew hold hperm
  have hx' := srtE_mem.1 (hperm.mem_iff.1 hx)
  have hy' := srtE_mem.1 hy
  by_cases hxy : x.1 = y.1
  ·exact ents_one hx' hy' hxy
  ·unfold byAt at h1 h2
   rw [decide_eq_true_iff] at h1 h2
   have lx := (ent_in m.fine hx').2.2.2.2.2.1
   have ly := (ent_in m.fine hy').2.2.2.2.2.1
   rcases ents_apart m.fine hx' hy' hxy with ha | ha
   ·unfold Ahead at ha; omega
   ·unfold Ahead at ha; omega
 exact ⟨l1, l2, hl, heq.symm, by rw [q4, <- heq]⟩
theorem mvN_le : ∀ (l : List (Int × Int × Int × Int)) (a : Int), mvN a l <= l.length
 | [], a => Nat.le_refl _
 | e :: r, a => by
  unfold mvN
  have := mvN_le r (a + e.2.2.1)
  rw [List.length_cons]
  split <;> omega
theorem mvN_forty : mvN 288 (srtE L) <= 40 := by
 refine Nat.le_trans (mvN_le _ _) ?_
 rw [srtE_perm.length_eq]
 exact entsK_len L 40
end
section
variable {L : List Int}
structure AsWas (L c : List Int) : Prop where
 fine : Fine c
 len : c.length = L.length
 objs : ∀ k, 1 <= k -> k <= 40 -> objOf c k = objOf L k
 tags : ∀ k, 1 <= k -> k <= 40 -> (tagAt c k = 0 ↔ tagAt L k = 0)
 roots : rootsK c 8 = rootsK L 8
 sum : sumE (srtE c) = sumE (srtE L)
 many : (entsK c 40).length = (entsK L 40).length
theorem AsWas.refl (hf : Fine L) : AsWas L L := ⟨hf, rfl, fun _ _ _ => rfl, fun _ _ _ => Iff.rfl, rfl, rfl, rfl⟩
theorem AsWas.trans {a b c : List Int} (p : AsWas a b) (q : AsWas b c) : AsWas a c :=
 ⟨q.fine, q.len.trans p.len, fun k h1 h2 => (q.objs k h1 h2).trans (p.objs k h1 h2), fun k h1 h2 => (q.tags k h1 h2).trans (p.tags k h1 h2), q.roots.trans p.roots, q.sum.trans p.sum, q.many.trans p.many⟩
theorem sumE_append : ∀ (l m : List (Int × Int × Int × Int)), sumE (l ++ m) = sumE l + sumE m
 | [], m => by simp [sumE]
 | e :: l, m => by
  show e.2.2.1 + sumE (l ++ m) = e.2.2.1 + sumE l + sumE m
  rw [sumE_append l m]
  omega
theorem step_as (hf : Fine L) {c : List Int} (h : mvS L = some c) : AsWas L c /\ mvN 288 (srtE L) = mvN 288 (srtE c) + 1 := by
 unfold mvS at h
 cases hq : mvOn 288 (srtE L) with
 | none => rw [hq] at h; cases h
 | some x =>
  obtain ⟨e, p⟩ := x
  rw [hq] at h
  obtain rfl : mvB L e.1 p.toNat = c := by simpa using h
  obtain ⟨m, _, _, he⟩ := step_moved hf hq
  obtain ⟨l1, l2, s1, s2, s3⟩ := step_sorted hf hq
  obtain ⟨_, e1, e2, et, _⟩ := ent_in hf he
  refine ⟨⟨m.fine, m.len, m.objs, fun k k1 k2 => ?_, m.roots, ?_, ?_⟩, s3⟩
  ·by_cases hk : k = e.1
   ·subst hk; exact ⟨fun h => absurd h m.tag, fun h => absurd h et⟩
   ·rw [(m.other k k1 k2 hk).1]
  ·rw [s1, s2, sumE_append, sumE_append]
   rfl
  ·rw [m.ents et 40 (Nat.le_refl _), List.length_map]
def mvF : Nat -> List Int -> List Int
 | 0, L => L
 | n + 1, L => match mvS L with
  | none => L
  | some c => mvF n c
theorem mvF_zero (L : List Int) : mvF 0 L = L := rfl
theorem mvF_none {n : Nat} {L : List Int} (h : mvS L = none) : mvF (n + 1) L = L := by simp only [mvF, h]
theorem mvF_some {n : Nat} {L c : List Int} (h : mvS L = some c) : mvF (n + 1) L = mvF n c := by simp only [mvF, h]
theorem mvF_as (n : Nat) : ∀ {L : List Int}, Fine L -> mvN 288 (srtE L) <= n -> AsWas L (mvF n L) /\ mvS (mvF n L) = none := by
 induction n with
 | zero =>
  intro L hf h
  rw [mvF_zero]
  refine ⟨AsWas.refl hf, ?_⟩
  cases hq : mvS L with
  | none => rfl
  | some c =>
   have h2 := (step_as hf hq).2
   rw [h2] at h
   exact absurd h (Nat.not_succ_le_zero _)
 | succ n ih =>
  intro L hf h
  cases hq : mvS L with
  | none =>
   rw [mvF_none hq]
   exact ⟨AsWas.refl hf, hq⟩
  | some c =>
   obtain ⟨a, hn⟩ := step_as hf hq
   rw [hn] at h
   obtain ⟨b, hb⟩ := ih a.fine (Nat.le_of_succ_le_succ h)
   rw [mvF_some hq]
   exact ⟨a.trans b, hb⟩
def mvA (L : List Int) : List Int := mvF 40 L
theorem mvA_as (hf : Fine L) : AsWas L (mvA L) /\ mvS (mvA L) = none := mvF_as 40 hf mvN_forty
theorem mvS_none (hf : Fine L) (h : mvS L = none) : Packed 288 (srtE L) /\ mvN 288 (srtE L) = 0 := by
 unfold mvS at h
 cases hq : mvOn 288 (srtE L) with
 | none => exact mvOn_none (srtE_ahead hf) (srtE_from hf).1 hq
 | some x => rw [hq] at h; cases h
theorem srt_take (hf : Fine L) : srtL (takeL L) = (srtE L).map shE := by
 refine ((take_good hf).srt_eq ((srtE_perm (L := L)).map shE) (List.pairwise_map.2 ((srtE_ahead hf).imp_of_mem (fun {x y} hx hy h => ?_)))).symm
 have := (ent_in hf (srtE_mem.1 hx)).2.2.2.2.2.1
 unfold Ahead at h
 unfold shE
 dsimp only
 omega
theorem lenSum_sh : ∀ l : List (Int × Int × Int × Int), lenSum (l.map shE) = sumE l
 | [] => rfl
 | e :: r => by
  rw [List.map_cons, lenSum_cons, lenSum_sh r]
  rfl
theorem used_sum (hf : Fine L) : lenSum (takeL L) = sumE (srtE L) := by
 rw [<- lenSum_sh, <- srt_take hf]
 exact lenSum_perm (take_good hf).srtL.1.symm
theorem packed_runs : ∀ (l : List (Int × Int × Int × Int)) (a n : Int), Packed a l -> (∀ x ∈ l, 1 <= x.2.2.1) -> runsOf (a - 288) (l.map shE ++ [(n, 0)]) = if a - 288 + sumE l < n then [(a - 288 + sumE l, n - (a - 288 + sumE l))] else []
 | [], a, n, _, _ => by
  show runsOf (a - 288) [(n, 0)] = if a - 288 + 0 < n then [(a - 288 + 0, n - (a - 288 + 0))] else []
  rw [Int.add_zero]
  unfold runsOf
  dsimp only
  split <;> rfl
 | e :: r, a, n, hp, hl => by
  have h1 := hl e (by simp)
  obtain ⟨he, hr⟩ := hp
  have ih := packed_runs r (a + e.2.2.1) n hr (fun x hx => hl x (by simp [hx]))
  have e1 : a + e.2.2.1 - 288 = (shE e).1 + (shE e).2 := by unfold shE; dsimp only; omega
  rw [List.map_cons, List.cons_append]
  unfold runsOf
  rw [if_neg (by unfold shE; dsimp only; omega)]
  rw [e1] at ih
  rw [ih]
  have e2 : (shE e).1 + (shE e).2 + sumE r = a - 288 + sumE (e :: r) := by
   unfold shE
   show e.2.1 - 288 + e.2.2.1 + sumE r = a - 288 + (e.2.2.1 + sumE r)
   omega
  rw [e2]
  rfl
theorem free_one (hf : Fine L) (h : mvS L = none) : freeL ((L.length : Int) - 288) (takeL L) = if sumE (srtE L) < (L.length : Int) - 288 then [(sumE (srtE L), (L.length : Int) - 288 - sumE (srtE L))] else [] := by
 have hc : chk ((L.length : Int) - 288) (takeL L) = 0 := by
  have hl := hf.len
  exact chk_zero.2 ⟨by omega, by omega, by have := takeL_len L; omega, take_good hf⟩
 unfold freeL freeOf
 rw [if_pos hc, srt_take hf]
 have := packed_runs (srtE L) 288 ((L.length : Int) - 288) (mvS_none hf h).1 (srtE_from hf).2
 rw [show (288 : Int) - 288 = 0 by decide, Int.zero_add] at this
 exact this
theorem all_free (hf : Fine L) : lenSum (freeL ((L.length : Int) - 288) (takeL L)) = (L.length : Int) - 288 - sumE (srtE L) := by
 have hl := hf.len
 have hg := take_good hf
 have hc : chk ((L.length : Int) - 288) (takeL L) = 0 := chk_zero.2 ⟨by omega, by omega, by have := takeL_len L; omega, hg⟩
 unfold freeL
 rw [if_pos hc]
 have := hg.srtL.sum hg (by omega)
 rw [used_sum hf] at this
 omega
end
end Go.Proofs.YtifmemombecoaaaGreatDoor
