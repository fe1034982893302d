/-
  Images as plain lists of bytes: entries, roots, what is put and dropped. (Part of the proofs over package image.)
-/
import Derived.Test.YtifmemombecoaaaGreatDoorJRef
namespace Go.Proofs.YtifmemombecoaaaGreatDoor
open Go.RowKit
set_option linter.unusedVariables false
theorem length_splice {z l : List Int} {off : Nat} (h : off + l.length <= z.length) : (splice z off l).length = z.length := by
 simp [splice]; omega
theorem splice_in {z l : List Int} {off j : Nat} (h : off + l.length <= z.length) (hj : j < l.length) : (splice z off l).getD (off + j) 0 = l.getD j 0 := by
 have h1 : (z.take off).length = off := by simp; omega
 unfold splice
 rw [List.getD, List.getElem?_append_right (by omega), h1, Nat.add_sub_cancel_left, List.getElem?_append_left hj]
 rfl
theorem splice_out {z l : List Int} {off j : Nat} (h : off + l.length <= z.length) (hj : j < off \/ off + l.length <= j) : (splice z off l).getD j 0 = z.getD j 0 := by
 have h1 : (z.take off).length = off := by simp; omega
 unfold splice
 rcases hj with hj | hj
 ·rw [List.getD, List.getElem?_append_left (by omega), List.getElem?_take, if_pos hj]
  rfl
 ·rw [List.getD, List.getElem?_append_right (by omega), h1, List.getElem?_append_right (by omega), List.getElem?_drop]
  rw [show off + l.length + (j - off - l.length) = j by omega]
  rfl
theorem getV_two (l : List Int) (p : Nat) (h : p + 2 <= l.length) : getV l p 2 = l.getD p 0 + 256 * l.getD (p + 1) 0 := by
 rw [getV_succ l p 1 (by omega), getV_succ l p 0 (by omega)]
 have : getV l p 0 = 0 := by simp [getV, numOf]
 rw [this]
 simp
 omega
def lenB (n : Int) : Bool := decide (288 <= n) && decide (n <= 6400)
def hndB (h : Int) : Bool := decide (1 <= h) && decide (h <= 40)
theorem lenB_iff {n : Int} : lenB n = true ↔ 288 <= n /\ n <= 6400 := by unfold lenB; rw [Bool.and_eq_true, decide_eq_true_iff, decide_eq_true_iff]
theorem hndB_iff {n : Int} : hndB n = true ↔ 1 <= n /\ n <= 40 := by unfold hndB; rw [Bool.and_eq_true, decide_eq_true_iff, decide_eq_true_iff]
def plc (h : Int) : Nat := (5 * (h - 1)).toNat
def tagAt (b : List Int) (h : Int) : Int := b.getD (plc h) 0
def chkE (b : List Int) (h : Int) : Int := if lenB b.length = false then 3 else if hndB h = false then 1 else if tagAt b h = 0 then 5 else 0
def entOf (b : List Int) (h : Int) : (Int × Int × Int × Int) := (h, getV b (plc h + 1) 2, getV b (plc h + 3) 2, tagAt b h - 1)
def ent0 : (Int × Int × Int × Int) := (0, 0, 0, 0)
def getE (b : List Int) (h : Int) : (Int × Int × Int × Int) := if chkE b h = 0 then entOf b h else ent0
def entsK (b : List Int) : Nat -> List (Int × Int × Int × Int)
 | 0 => []
 | k + 1 => entsK b k ++ if tagAt b ((k : Int) + 1) = 0 then [] else [entOf b ((k : Int) + 1)]
def ents (b : List Int) : List (Int × Int × Int × Int) := if lenB b.length = true then entsK b 40 else []
theorem entsK_len (b : List Int) (k : Nat) : (entsK b k).length <= k := by
 induction k with
 | zero => exact Nat.le_refl _
 | succ k ih => unfold entsK; rw [List.length_append]; split <;> simp <;> omega
def putE (b : List Int) (e : (Int × Int × Int × Int)) : Int :=
 if lenB b.length = false then 3
 else if hndB e.1 = false \/ e.2.2.2 < 0 \/ 15 < e.2.2.2 \/ e.2.2.1 < 1 \/ 1000 < e.2.2.1 then 1
 else if e.2.1 < 288 \/ b.length - e.2.1 < e.2.2.1 then 3 else 0
def rowE (e : (Int × Int × Int × Int)) : List Int := [(e.2.2.2 + 1) % 256, e.2.1 % 256, e.2.1 / 256 % 256, e.2.2.1 % 256, e.2.2.1 / 256 % 256]
def putL (b : List Int) (e : (Int × Int × Int × Int)) : List Int := if putE b e = 0 then splice b (plc e.1) (rowE e) else []
def dropL (b : List Int) (h : Int) : List Int := if chkE b h = 0 then splice b (plc h) (zerosB 5) else []
theorem byt_rowE (e : (Int × Int × Int × Int)) : Byt (rowE e) := by
 intro z hz
 unfold rowE at hz
 rcases List.mem_cons.1 hz with rfl | hz
 ·omega
 rcases List.mem_cons.1 hz with rfl | hz
 ·omega
 rcases List.mem_cons.1 hz with rfl | hz
 ·omega
 rcases List.mem_cons.1 hz with rfl | hz
 ·omega
 rw [List.mem_singleton.1 hz]
 omega
theorem plc_le {h : Int} (h1 : 1 <= h) (h2 : h <= 40) : plc h + 5 <= 200 := by unfold plc; omega
theorem plc_ne {h k : Int} (h1 : 1 <= h) (k1 : 1 <= k) (hk : h ≠ k) : plc h + 5 <= plc k \/ plc k + 5 <= plc h := by unfold plc; omega
theorem chkE_zero {b : List Int} {h : Int} : chkE b h = 0 ↔ lenB b.length = true /\ hndB h = true /\ tagAt b h ≠ 0 := by
 unfold chkE
 by_cases h1 : lenB b.length = false
 ·rw [if_pos h1]; simp [h1]
 ·rw [if_neg h1]
  have h1' : lenB b.length = true := by simpa using h1
  by_cases h2 : hndB h = false
  ·rw [if_pos h2]; simp [h2]
  ·rw [if_neg h2]
   have h2' : hndB h = true := by simpa using h2
   by_cases h3 : tagAt b h = 0
   ·rw [if_pos h3]; simp [h3]
   ·rw [if_neg h3]; simp [h1', h2', h3]
theorem putE_zero {b : List Int} {e : (Int × Int × Int × Int)} : putE b e = 0 ↔ lenB b.length = true /\ hndB e.1 = true /\ 0 <= e.2.2.2 /\ e.2.2.2 <= 15 /\ 1 <= e.2.2.1 /\ e.2.2.1 <= 1000 /\ 288 <= e.2.1 /\ e.2.1 + e.2.2.1 <= b.length := by
 unfold putE
 by_cases h1 : lenB b.length = false
 ·rw [if_pos h1]; simp [h1]
 ·rw [if_neg h1]
  have h1' : lenB b.length = true := by simpa using h1
  by_cases h2 : hndB e.1 = false
  ·rw [if_pos (.inl h2)]; simp [h2]
  ·have h2' : hndB e.1 = true := by simpa using h2
   by_cases h3 : hndB e.1 = false \/ e.2.2.2 < 0 \/ 15 < e.2.2.2 \/ e.2.2.1 < 1 \/ 1000 < e.2.2.1
   ·rw [if_pos h3]
    constructor
    ·intro h; cases h
    ·rintro ⟨_, _, h⟩
     rcases h3 with h3 | h3
     ·exact absurd h3 h2
     ·omega
   ·rw [if_neg h3]
    have h3' : ¬ (e.2.2.2 < 0 \/ 15 < e.2.2.2 \/ e.2.2.1 < 1 \/ 1000 < e.2.2.1) := fun h => h3 (.inr h)
    by_cases h4 : e.2.1 < 288 \/ b.length - e.2.1 < e.2.2.1
    ·rw [if_pos h4]
     constructor
     ·intro h; cases h
     ·rintro ⟨_, _, h⟩; omega
    ·rw [if_neg h4]
     refine ⟨fun _ => ⟨h1', h2', by omega⟩, fun _ => rfl⟩
theorem putL_len {b : List Int} {e : (Int × Int × Int × Int)} (h : putE b e = 0) : (putL b e).length = b.length := by
 obtain ⟨h1, h2, _⟩ := putE_zero.1 h
 have h1' := lenB_iff.1 h1
 have h2' := hndB_iff.1 h2
 have := plc_le h2'.1 h2'.2
 unfold putL
 rw [if_pos h]
 exact length_splice (by show plc e.1 + 5 <= _; omega)
theorem putL_get {b : List Int} {e : (Int × Int × Int × Int)} (h : putE b e = 0) : chkE (putL b e) e.1 = 0 /\ entOf (putL b e) e.1 = e := by
 obtain ⟨h1, h2, h3⟩ := putE_zero.1 h
 have h1' := lenB_iff.1 h1
 have h2' := hndB_iff.1 h2
 have hp := plc_le h2'.1 h2'.2
 have hlen := putL_len h
 have hin : ∀ j, j < 5 -> (putL b e).getD (plc e.1 + j) 0 = (rowE e).getD j 0 := fun j hj => by
  unfold putL
  rw [if_pos h]
  exact splice_in (by show plc e.1 + 5 <= _; omega) hj
 have t0 := hin 0 (by omega)
 have t1 := hin 1 (by omega)
 have t2 := hin 2 (by omega)
 have t3 := hin 3 (by omega)
 have t4 := hin 4 (by omega)
 obtain ⟨x, a, l, t⟩ := e
 dsimp only at *
 have e0 : (rowE (x, a, l, t)).getD 0 0 = (t + 1) % 256 := rfl
 have e1 : (rowE (x, a, l, t)).getD 1 0 = a % 256 := rfl
 have e2 : (rowE (x, a, l, t)).getD 2 0 = a / 256 % 256 := rfl
 have e3 : (rowE (x, a, l, t)).getD 3 0 = l % 256 := rfl
 have e4 : (rowE (x, a, l, t)).getD 4 0 = l / 256 % 256 := rfl
 rw [e0, Nat.add_zero] at t0
 rw [e1] at t1
 rw [e2] at t2
 rw [e3] at t3
 rw [e4] at t4
 refine ⟨chkE_zero.2 ⟨by rw [hlen]; exact h1, h2, ?_⟩, ?_⟩
 ·unfold tagAt
  rw [t0]; omega
 ·unfold entOf tagAt
  rw [getV_two _ _ (by rw [hlen]; omega), getV_two _ _ (by rw [hlen]; omega), t0, t1, t2, t3, t4]
  simp only [Prod.mk.injEq, true_and]
  omega
theorem splice_tag {b r : List Int} {h k : Int} (hr : r.length = 5) (hb : 288 <= b.length) (h1 : 1 <= h) (h2 : h <= 40) (k1 : 1 <= k) (k2 : k <= 40) (hk : k ≠ h) : tagAt (splice b (plc h) r) k = tagAt b k /\ entOf (splice b (plc h) r) k = entOf b k := by
 have hp := plc_le h1 h2
 have hq := plc_le k1 k2
 have hne := plc_ne h1 k1 (fun e => hk e.symm)
 have hlen : (splice b (plc h) r).length = b.length := length_splice (by omega)
 have hout : ∀ j, j < 5 -> (splice b (plc h) r).getD (plc k + j) 0 = b.getD (plc k + j) 0 := fun j hj => splice_out (by omega) (by omega)
 have e0 := hout 0 (by omega)
 rw [Nat.add_zero] at e0
 have ht : tagAt (splice b (plc h) r) k = tagAt b k := e0
 refine ⟨ht, ?_⟩
 unfold entOf
 rw [ht, getV_two _ _ (by omega), getV_two _ _ (by omega), getV_two b _ (by omega), getV_two b _ (by omega)]
 have e1 := hout 1 (by omega)
 have e2 := hout 2 (by omega)
 have e3 := hout 3 (by omega)
 have e4 := hout 4 (by omega)
 rw [e1, show plc k + 1 + 1 = plc k + 2 by omega, e2, e3, show plc k + 3 + 1 = plc k + 4 by omega, e4]
theorem splice_chk {b r : List Int} {h k : Int} (hr : r.length = 5) (hb : 288 <= b.length) (h1 : 1 <= h) (h2 : h <= 40) (hk : k ≠ h) : chkE (splice b (plc h) r) k = chkE b k /\ getE (splice b (plc h) r) k = getE b k := by
 have hp := plc_le h1 h2
 have hlen : (splice b (plc h) r).length = b.length := length_splice (by omega)
 have hc : chkE (splice b (plc h) r) k = chkE b k := by
  unfold chkE
  rw [hlen]
  by_cases hn : hndB k = true
  ·obtain ⟨k1, k2⟩ := hndB_iff.1 hn
   rw [(splice_tag hr hb h1 h2 k1 k2 hk).1]
  ·have hn' : hndB k = false := by simpa using hn
   simp [hn']
 refine ⟨hc, ?_⟩
 unfold getE
 rw [hc]
 by_cases h0 : chkE b k = 0
 ·rw [if_pos h0, if_pos h0]
  obtain ⟨_, hn, _⟩ := chkE_zero.1 h0
  obtain ⟨k1, k2⟩ := hndB_iff.1 hn
  exact (splice_tag hr hb h1 h2 k1 k2 hk).2
 ·rw [if_neg h0, if_neg h0]
theorem put_got {b : List Int} {e : (Int × Int × Int × Int)} (h : putE b e = 0) : chkE (putL b e) e.1 = 0 /\ getE (putL b e) e.1 = e := by
 obtain ⟨h1, h2⟩ := putL_get h
 exact ⟨h1, by unfold getE; rw [if_pos h1]; exact h2⟩
theorem put_other {b : List Int} {e : (Int × Int × Int × Int)} (h : putE b e = 0) {k : Int} (hk : k ≠ e.1) : chkE (putL b e) k = chkE b k /\ getE (putL b e) k = getE b k := by
 obtain ⟨h1, h2, _⟩ := putE_zero.1 h
 have h2' := hndB_iff.1 h2
 have h1' := lenB_iff.1 h1
 unfold putL
 rw [if_pos h]
 exact splice_chk rfl (by omega) h2'.1 h2'.2 hk
theorem drop_none {b : List Int} {h : Int} (h0 : chkE b h = 0) : chkE (dropL b h) h = 5 := by
 obtain ⟨h1, h2, _⟩ := chkE_zero.1 h0
 have h1' := lenB_iff.1 h1
 have h2' := hndB_iff.1 h2
 have hp := plc_le h2'.1 h2'.2
 have hl : (zerosB 5).length = 5 := length_zerosB 5
 have hlen : (dropL b h).length = b.length := by unfold dropL; rw [if_pos h0]; exact length_splice (by omega)
 have ht : tagAt (dropL b h) h = 0 := by
  unfold dropL tagAt
  rw [if_pos h0]
  have := splice_in (z := b) (l := zerosB 5) (off := plc h) (j := 0) (by omega) (by omega)
  rw [Nat.add_zero] at this
  rw [this]
  rfl
 unfold chkE
 rw [hlen, if_neg (by simp [h1]), if_neg (by simp [h2]), if_pos ht]
def rowAt (b : List Int) (i : Nat) : List Int := (b.drop (200 + 11 * i)).take 11
def isRoot (r : List Int) : Bool := r.any (fun c => c != 0)
def rootOf (r : List Int) : ByteArray × Int := ((readOut (r.take 8)).1, r.getD 10 0)
def rootsK (b : List Int) : Nat -> List (ByteArray × Int)
 | 0 => []
 | k + 1 => rootsK b k ++ if isRoot (rowAt b k) = true then [rootOf (rowAt b k)] else []
def roots (b : List Int) : List (ByteArray × Int) := if lenB b.length = true then rootsK b 8 else []
theorem rootsK_len (b : List Int) (k : Nat) : (rootsK b k).length <= k := by
 induction k with
 | zero => exact Nat.le_refl _
 | succ k ih => unfold rootsK; rw [List.length_append]; split <;> simp <;> omega
def noRoot (r : ByteArray × Int) : Bool := decide (r.1.size = 0) && decide (r.2 = 0)
theorem noRoot_iff {r : ByteArray × Int} : noRoot r = true ↔ r.1.size = 0 /\ r.2 = 0 := by unfold noRoot; rw [Bool.and_eq_true, decide_eq_true_iff, decide_eq_true_iff]
def nameB (s : ByteArray) : Bool := decide (1 <= s.size) && (decide (s.size <= 8) && decide (fstN (fun j => (!ltr ((strL s).getD j 0))) s.size = s.size))
theorem nameB_iff {s : ByteArray} : nameB s = true ↔ NameOk s := by
 unfold nameB
 rw [Bool.and_eq_true, Bool.and_eq_true, decide_eq_true_iff, decide_eq_true_iff, decide_eq_true_iff]
 have hf := first_fstN (fun j => (!ltr ((strL s).getD j 0))) s.size
 constructor
 ·rintro ⟨h1, h2, h3⟩
  rw [h3] at hf
  exact ⟨h1, h2, hf⟩
 ·rintro ⟨h1, h2, h3⟩
  exact ⟨h1, h2, hf.unique h3⟩
def rowRE (r : ByteArray × Int) : Int := if noRoot r = true then 0 else if hndB r.2 = false then 1 else if nameB r.1 = true then 0 else 2
def rowR (r : ByteArray × Int) : List Int := if noRoot r = true then zerosB 11 else nameL r.1 ++ [0, 0, r.2 % 256]
def prE (b : List Int) (i : Int) (r : ByteArray × Int) : Int := if lenB b.length = false then 3 else if i < 0 \/ 7 < i then 1 else rowRE r
def prL (b : List Int) (i : Int) (r : ByteArray × Int) : List Int := if prE b i r = 0 then splice b (200 + 11 * i.toNat) (rowR r) else []
theorem rowR_len {r : ByteArray × Int} (h : rowRE r = 0) : (rowR r).length = 11 := by
 unfold rowR
 unfold rowRE at h
 by_cases h0 : noRoot r = true
 ·rw [if_pos h0]; exact length_zerosB 11
 ·rw [if_neg h0] at h ⊢
  by_cases h1 : hndB r.2 = false
  ·rw [if_pos h1] at h; cases h
  ·rw [if_neg h1] at h
   by_cases h2 : nameB r.1 = true
   ·rw [List.length_append, length_nameL _ (nameB_iff.1 h2).2.1]; rfl
   ·rw [if_neg h2] at h; cases h
theorem byt_rowR (r : ByteArray × Int) : Byt (rowR r) := by
 unfold rowR
 by_cases h0 : noRoot r = true
 ·rw [if_pos h0]; exact byt_zerosB 11
 ·rw [if_neg h0]
  intro z hz
  rcases List.mem_append.1 hz with hz | hz
  ·exact byt_nameL _ z hz
  rcases List.mem_cons.1 hz with rfl | hz
  ·omega
  rcases List.mem_cons.1 hz with rfl | hz
  ·omega
  rw [List.mem_singleton.1 hz]
  omega
theorem prE_zero {b : List Int} {i : Int} {r : ByteArray × Int} : prE b i r = 0 ↔ lenB b.length = true /\ 0 <= i /\ i <= 7 /\ rowRE r = 0 := by
 unfold prE
 by_cases h1 : lenB b.length = false
 ·rw [if_pos h1]; simp [h1]
 ·rw [if_neg h1]
  have h1' : lenB b.length = true := by simpa using h1
  by_cases h2 : i < 0 \/ 7 < i
  ·rw [if_pos h2]
   constructor
   ·intro h; cases h
   ·rintro ⟨_, _, _, _⟩; omega
  ·rw [if_neg h2]
   exact ⟨fun h => ⟨h1', by omega, by omega, h⟩, fun h => h.2.2.2⟩
theorem prL_len {b : List Int} {i : Int} {r : ByteArray × Int} (h : prE b i r = 0) : (prL b i r).length = b.length := by
 obtain ⟨h1, h2, h3, h4⟩ := prE_zero.1 h
 have h1' := lenB_iff.1 h1
 unfold prL
 rw [if_pos h]
 exact length_splice (by rw [rowR_len h4]; omega)
theorem rowAt_getD {b : List Int} {i j : Nat} (hj : j < 11) : (rowAt b i).getD j 0 = b.getD (200 + 11 * i + j) 0 := by
 unfold rowAt
 simp [List.getD, hj]
theorem rowAt_len {b : List Int} {i : Nat} (h : 200 + 11 * i + 11 <= b.length) : (rowAt b i).length = 11 := by
 unfold rowAt; simp; omega
theorem rowAt_out {b l : List Int} {off i : Nat} (h : off + l.length <= b.length) (hi : 200 + 11 * i + 11 <= b.length) (ho : off + l.length <= 200 + 11 * i \/ 200 + 11 * i + 11 <= off) : rowAt (splice b off l) i = rowAt b i := by
 have hl := length_splice h
 apply ext_getD
 ·rw [rowAt_len (by omega), rowAt_len hi]
 ·intro j hj
  rw [rowAt_len (by omega)] at hj
  rw [rowAt_getD hj, rowAt_getD hj]
  exact splice_out h (by omega)
theorem rowAt_in {b l : List Int} {i : Nat} (hl : l.length = 11) (hi : 200 + 11 * i + 11 <= b.length) : rowAt (splice b (200 + 11 * i) l) i = l := by
 have h : 200 + 11 * i + l.length <= b.length := by omega
 have hs := length_splice h
 apply ext_getD
 ·rw [rowAt_len (by omega), hl]
 ·intro j hj
  rw [rowAt_len (by omega)] at hj
  rw [rowAt_getD hj]
  exact splice_in h (by omega)
theorem isRoot_zeros : isRoot (zerosB 11) = false := by
 unfold isRoot
 rw [List.any_eq_false]
 intro z hz
 have := (List.mem_replicate.1 hz).2
 simp [this]
theorem rootOf_rowR {r : ByteArray × Int} (h : rowRE r = 0) (hn : ¬ noRoot r = true) : isRoot (rowR r) = true /\ rootOf (rowR r) = r := by
 unfold rowRE at h
 unfold rowR
 rw [if_neg hn] at h ⊢
 by_cases h1 : hndB r.2 = false
 ·rw [if_pos h1] at h; cases h
 rw [if_neg h1] at h
 have h1' := hndB_iff.1 (show hndB r.2 = true by simpa using h1)
 by_cases h2' : nameB r.1 = true
 ·have h2 := nameB_iff.1 h2'
  have hl := length_nameL r.1 h2.2.1
  have hm : r.2 % 256 = r.2 := by omega
  refine ⟨?_, ?_⟩
  ·unfold isRoot
   refine List.any_eq_true.2 ⟨r.2 % 256, by simp, ?_⟩
   rw [hm]
   exact bne_iff_ne.2 (by omega)
  ·unfold rootOf
   have ht : (nameL r.1 ++ [0, 0, r.2 % 256]).take 8 = nameL r.1 := by rw [List.take_append_of_le_length (by omega), List.take_of_length_le (by omega)]
   have hg : (nameL r.1 ++ [0, 0, r.2 % 256]).getD 10 0 = r.2 % 256 := by
    rw [List.getD, List.getElem?_append_right (by omega), hl]; rfl
   rw [ht, hg, hm]
   have hf := nameL_first r.1 h2
   have hz := nameL_zeros r.1 h2.2.1
   have e1 : lettersN (nameL r.1) = r.1.size := (first_fstN _ _).unique hf
   have e2 : zerosN (nameL r.1) r.1.size = 8 - r.1.size := (first_fstN _ _).unique hz
   have hr : (readOut (nameL r.1)).1 = r.1 := by
    unfold readOut
    rw [if_neg (fun h => h hl), e1, e2, hl, if_neg (by have := h2.1; omega)]
    exact nameL_take r.1
   rw [hr]
 ·rw [if_neg h2'] at h; cases h
theorem rootsK_none {b : List Int} {k : Nat} : ∀ m, k <= m -> (∀ j, k <= j -> j < m -> isRoot (rowAt b j) = false) -> rootsK b m = rootsK b k := by
 intro m
 induction m with
 | zero => intro h _; rw [show k = 0 by omega]
 | succ m ih =>
  intro h hn
  by_cases he : k = m + 1
  ·rw [he]
  ·show rootsK b m ++ _ = rootsK b k
   rw [if_neg (by rw [hn m (by omega) (by omega)]; simp), List.append_nil]
   exact ih (by omega) (fun j h1 h2 => hn j h1 (by omega))
theorem rootsK_same {b c : List Int} : ∀ m, (∀ j, j < m -> rowAt c j = rowAt b j) -> rootsK c m = rootsK b m := by
 intro m
 induction m with
 | zero => intro _; rfl
 | succ m ih =>
  intro h
  unfold rootsK
  rw [h m (by omega), ih (fun j hj => h j (by omega))]
theorem roots_put {b : List Int} {i : Nat} {r : ByteArray × Int} (h : prE b i r = 0) (hn : ∀ j, i <= j -> j < 8 -> isRoot (rowAt b j) = false) :
  roots (prL b i r) = roots b ++ (if noRoot r = true then [] else [r]) /\ ∀ j, i + 1 <= j -> j < 8 -> isRoot (rowAt (prL b i r) j) = false := by
 obtain ⟨h1, h2, h3, h4⟩ := prE_zero.1 h
 have h1' := lenB_iff.1 h1
 have hlen := prL_len h
 have hrl := rowR_len h4
 have e : prL b i r = splice b (200 + 11 * i) (rowR r) := by unfold prL; rw [if_pos h, Int.toNat_natCast]
 have hfit : 200 + 11 * i + (rowR r).length <= b.length := by omega
 have hout : ∀ j, j < 8 -> j ≠ i -> rowAt (prL b i r) j = rowAt b j := fun j hj hne => by
  rw [e]; exact rowAt_out hfit (by omega) (by omega)
 have hin : rowAt (prL b i r) i = rowR r := by rw [e]; exact rowAt_in hrl (by omega)
 have hnone : ∀ j, i + 1 <= j -> j < 8 -> isRoot (rowAt (prL b i r) j) = false := fun j hj hj8 => by
  rw [hout j hj8 (by omega)]; exact hn j (by omega) hj8
 refine ⟨?_, hnone⟩
 unfold roots
 rw [hlen, if_pos h1, if_pos h1, rootsK_none 8 (by omega) hnone, rootsK_none (b := b) (k := i) 8 (by omega) hn]
 show rootsK (prL b i r) i ++ _ = _
 rw [rootsK_same i (fun j hj => hout j (by omega) (by omega)), hin]
 congr 1
 by_cases h0 : noRoot r = true
 ·rw [if_pos h0]
  have : rowR r = zerosB 11 := by unfold rowR; rw [if_pos h0]
  rw [this, isRoot_zeros]
  rfl
 ·obtain ⟨k1, k2⟩ := rootOf_rowR h4 h0
  rw [k1, k2, if_pos rfl, if_neg h0]
end Go.Proofs.YtifmemombecoaaaGreatDoor
