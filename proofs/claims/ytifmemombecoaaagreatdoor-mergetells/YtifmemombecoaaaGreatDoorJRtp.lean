/-
  Parts of the proofs, joined by program.
-/
import Derived.Test.YtifmemombecoaaaGreatDoorJChp
import Derived.Test.YtifmemombecoaaaGreatDoorJImp
import Derived.Test.YtifmemombecoaaaGreatDoorJHal
namespace Go.Proofs.YtifmemombecoaaaGreatDoor
open Go.RowKit
set_option linter.unusedVariables false
def isAtR (b : List Int) (s : ByteArray) (i : Nat) : Bool := decide ((readOut ((rowAt b i).take 8)).2 = 0) && decide ((readOut ((rowAt b i).take 8)).1 = s)
def plR (b : List Int) (s : ByteArray) : Nat := fstN (isAtR b s) 8
def frR (b : List Int) : Nat := fstN (fun i => !isRoot (rowAt b i)) 8
def seI (b : List Int) (s : ByteArray) : Nat := if plR b s < 8 then plR b s else frR b
def seE (b : List Int) (s : ByteArray) (h : Int) : Int := if nameB s = false then 2 else if chkE b h ≠ 0 then chkE b h else if seI b s = 8 then 4 else 0
def seB (b : List Int) (s : ByteArray) (h : Int) : List Int := prL b (seI b s) (s, h)
def seN (b : List Int) (s : ByteArray) : Bool := decide (plR b s = 8)
def unE (b : List Int) (s : ByteArray) : Int := if nameB s = false then 2 else if plR b s = 8 then 5 else 0
def unB (b : List Int) (s : ByteArray) : List Int := splice b (200 + 11 * plR b s) (zerosB 11)
theorem plR_first (b : List Int) (s : ByteArray) : First (isAtR b s) 8 (plR b s) := first_fstN _ _
theorem frR_first (b : List Int) : First (fun i => !isRoot (rowAt b i)) 8 (frR b) := first_fstN _ _
theorem plR_le (b : List Int) (s : ByteArray) : plR b s <= 8 := (plR_first b s).1
theorem frR_le (b : List Int) : frR b <= 8 := (frR_first b).1
theorem seI_le (b : List Int) (s : ByteArray) : seI b s <= 8 := by
 unfold seI
 split
 ·exact plR_le b s
 ·exact frR_le b
theorem se_put {b : List Int} (hf : Fine b) {s : ByteArray} {h : Int} (h0 : seE b s h = 0) : prE b (seI b s) (s, h) = 0 /\ seI b s < 8 /\ nameB s = true /\ chkE b h = 0 := by
 unfold seE at h0
 cases hn : nameB s with
 | false => rw [hn, if_pos rfl] at h0; exact absurd h0 (by decide)
 | true =>
  rw [hn, if_neg (by simp)] at h0
  by_cases hc : chkE b h = 0
  ·rw [if_neg (fun h => h hc)] at h0
   by_cases hi : seI b s = 8
   ·rw [if_pos hi] at h0; exact absurd h0 (by decide)
   ·have hle := seI_le b s
    obtain ⟨q1, q2, q3⟩ := chkE_zero.1 hc
    have hh := hndB_iff.1 q2
    refine ⟨prE_zero.2 ⟨hf.len0, by omega, by omega, ?_⟩, by omega, rfl, hc⟩
    unfold rowRE
    have hnr : ¬ noRoot (s, h) = true := fun hx => by have := (noRoot_iff.1 hx).2; dsimp only at this; omega
    rw [if_neg hnr, if_neg (by rw [q2]; simp), if_pos hn]
  ·rw [if_pos hc] at h0; exact absurd h0 hc
def frE (L : List Int) (h : Int) : Int := if chkE L h ≠ 0 then chkE L h else if (rootsK L 8).any (fun r => r.2 == h) = true then 7 else 0
def frB (L : List Int) (h : Int) : List Int := if frE L h = 0 then dropL L h else L
theorem frE_zero {L : List Int} {h : Int} : frE L h = 0 ↔ chkE L h = 0 /\ (rootsK L 8).any (fun r => r.2 == h) = false := by
 unfold frE
 by_cases h0 : chkE L h = 0
 ·rw [if_neg (fun h => h h0)]
  cases h1 : (rootsK L 8).any (fun r => r.2 == h) with
  | true => rw [if_pos rfl]; exact ⟨fun h => absurd h (by decide), fun h => by cases h.2⟩
  | false => rw [if_neg (by simp)]; exact ⟨fun _ => ⟨h0, rfl⟩, fun _ => rfl⟩
 ·rw [if_pos h0]
  exact ⟨fun h => absurd h h0, fun h => absurd h.1 h0⟩
theorem mem_rootsK8 {b : List Int} : ∀ {k i : Nat}, i < k -> isRoot (rowAt b i) = true -> rootOf (rowAt b i) ∈ rootsK b k
 | 0, i, h, _ => absurd h (Nat.not_lt_zero i)
 | k + 1, i, h, hr => by
  unfold rootsK
  by_cases e : i = k
  ·subst e
   rw [if_pos hr]
   simp
  ·exact List.mem_append.2 (.inl (mem_rootsK8 (by omega) hr))
theorem drop_ok {L : List Int} (hf : Fine L) {h : Int} (h0 : frE L h = 0) : Fine (dropL L h) := by
 obtain ⟨h1, h2⟩ := frE_zero.1 h0
 refine (drop_fine hf h1 (fun i hi hr e => ?_)).1
 have hm := mem_rootsK8 hi hr
 have := List.any_eq_false.1 h2 _ hm
 apply this
 rw [beq_iff_eq]
 exact e
theorem byt_drop {L : List Int} (hb : Byt L) (h : Int) : Byt (dropL L h) := by
 unfold dropL
 split
 ·exact byt_splice hb (byt_zerosB 5)
 ·exact fun z hz => (by cases hz)
section
variable {b c : List Int}
theorem nmsK_mem {x : ByteArray} : ∀ {k : Nat}, x ∈ nmsK b k -> ∃ i, i < k /\ isRoot (rowAt b i) = true /\ nameAt b i = x
 | 0, h => by cases h
 | k + 1, h => by
  have h' : x ∈ nmsK b k ++ if fineR b k (nmsK b k) = true then [nameAt b k] else [] := h
  rcases List.mem_append.1 h' with h1 | h1
  ·obtain ⟨i, hi, hr⟩ := nmsK_mem h1
   exact ⟨i, by omega, hr⟩
  ·by_cases hf : fineR b k (nmsK b k) = true
   ·rw [if_pos hf] at h1
    have hf' := hf
    unfold fineR at hf'
    rw [Bool.and_eq_true] at hf'
    exact ⟨k, by omega, hf'.1, (List.mem_singleton.1 h1).symm⟩
   ·rw [if_neg hf] at h1; cases h1
theorem nmsK_all (hf : ∀ i, i < 8 -> rFault b i = []) {i k : Nat} (hi : i < k) (hk : k <= 8) (hr : isRoot (rowAt b i) = true) : nameAt b i ∈ nmsK b k := by
 induction k with
 | zero => omega
 | succ k ih =>
  show nameAt b i ∈ nmsK b k ++ if fineR b k (nmsK b k) = true then [nameAt b k] else []
  by_cases e : i = k
  ·subst e
   rcases rFault_nil.1 (hf i (by omega)) with h0 | h0
   ·rw [h0] at hr; cases hr
   ·rw [if_pos h0]; simp
  ·exact List.mem_append.2 (.inl (ih (by omega) (by omega)))
theorem rFault_iff : (∀ i, i < 8 -> rFault b i = []) ↔ (∀ i, i < 8 -> isRoot (rowAt b i) = true -> badR b i = false) /\ ∀ i j, i < j -> j < 8 -> isRoot (rowAt b i) = true -> isRoot (rowAt b j) = true -> nameAt b i ≠ nameAt b j := by
 haveI := ba_lawful
 constructor
 ·intro hf
  have hfine : ∀ i, i < 8 -> isRoot (rowAt b i) = true -> badR b i = false /\ (nmsK b i).contains (nameAt b i) = false := fun i hi hr => by
   rcases rFault_nil.1 (hf i hi) with h0 | h0
   ·rw [h0] at hr; cases hr
   ·unfold fineR at h0
    rw [Bool.and_eq_true, Bool.and_eq_true, Bool.not_eq_true', Bool.not_eq_true'] at h0
    exact h0.2
  refine ⟨fun i hi hr => (hfine i hi hr).1, fun i j hij hj hi hr e => ?_⟩
  have h1 := (hfine j hj hr).2
  rw [<- e, List.contains_iff_mem.2 (nmsK_all hf hij (by omega) hi)] at h1
  cases h1
 ·rintro ⟨h1, h2⟩ i hi
  refine rFault_nil.2 ?_
  cases hr : isRoot (rowAt b i) with
  | false => exact .inl rfl
  | true =>
   refine .inr ?_
   unfold fineR
   rw [hr, h1 i hi hr]
   cases hc : (nmsK b i).contains (nameAt b i) with
   | false => rfl
   | true =>
    obtain ⟨j, hj, hjr, e⟩ := nmsK_mem (List.contains_iff_mem.1 hc)
    exact absurd e (h2 j i hj hi hjr hr)
theorem mem_rootsK_iff {r : (ByteArray × Int)} : ∀ {k : Nat}, r ∈ rootsK b k ↔ ∃ i, i < k /\ isRoot (rowAt b i) = true /\ rootOf (rowAt b i) = r
 | 0 => by simp [rootsK]
 | k + 1 => by
  constructor
  ·intro h
   have h' : r ∈ rootsK b k ++ if isRoot (rowAt b k) = true then [rootOf (rowAt b k)] else [] := h
   rcases List.mem_append.1 h' with h1 | h1
   ·obtain ⟨i, hi, hr⟩ := mem_rootsK_iff.1 h1
    exact ⟨i, by omega, hr⟩
   ·by_cases hr : isRoot (rowAt b k) = true
    ·rw [if_pos hr] at h1
     exact ⟨k, by omega, hr, (List.mem_singleton.1 h1).symm⟩
    ·rw [if_neg hr] at h1; cases h1
  ·rintro ⟨i, hi, hr, rfl⟩
   exact mem_rootsK8 hi hr
theorem row_zeros {l : List Int} (h : isRoot l = false) (hl : l.length = 11) : l = zerosB 11 := by
 apply List.ext_getElem
 ·rw [hl, length_zerosB]
 ·intro i h1 h2
  have := List.any_eq_false.1 h l[i] (List.getElem_mem h1)
  have e : l[i] = 0 := by simpa using this
  rw [e]
  exact (List.getElem_replicate ..).symm
theorem readOut_zeros : (readOut ((zerosB 11).take 8)).2 = 2 := by decide
theorem isAtR_iff (hf : Fine b) {s : ByteArray} {i : Nat} (hi : i < 8) : isAtR b s i = true ↔ isRoot (rowAt b i) = true /\ nameAt b i = s := by
 have hl := hf.len
 unfold isAtR
 rw [Bool.and_eq_true, decide_eq_true_iff, decide_eq_true_iff]
 constructor
 ·rintro ⟨h1, h2⟩
  cases hr : isRoot (rowAt b i) with
  | true => exact ⟨rfl, h2⟩
  | false =>
   rw [row_zeros hr (rowAt_len (by omega)), readOut_zeros] at h1
   cases h1
 ·rintro ⟨h1, h2⟩
  have := (rFault_iff.1 (faults_iff.1 hf.ok).2).1 i hi h1
  exact ⟨(badR_no.1 this).1, h2⟩
theorem lead_row (hf : Fine b) {s : ByteArray} {i : Nat} (hi : i < 8) (hr : isRoot (rowAt b i) = true) (hn : nameAt b i = s) : leadOf (rootsK b 8) s = (rowAt b i).getD 10 0 := by
 have hap := apart_roots hf.ok
 have hm : (s, (rowAt b i).getD 10 0) ∈ rootsK b 8 := mem_rootsK_iff.2 ⟨i, hi, hr, by unfold rootOf; rw [<- hn]; rfl⟩
 exact (lead_mem hap (hap.pos _ hm).1).2 hm
theorem lead_none {s : ByteArray} (hn : ∀ i, i < 8 -> isRoot (rowAt b i) = true -> nameAt b i ≠ s) : leadOf (rootsK b 8) s = 0 := by
 unfold leadOf
 have : (rootsK b 8).find? (fun r => r.1 == s) = none := List.find?_eq_none.2 (fun r hr => by
  obtain ⟨i, hi, hq, rfl⟩ := mem_rootsK_iff.1 hr
  intro h
  exact hn i hi hq (ba_beq.1 h))
 rw [this]
 rfl
theorem lead_pl (hf : Fine b) (s : ByteArray) : leadOf (rootsK b 8) s = if plR b s < 8 then (rowAt b (plR b s)).getD 10 0 else 0 := by
 have hp := plR_first b s
 by_cases h : plR b s < 8
 ·rw [if_pos h]
  obtain ⟨h1, h2⟩ := (isAtR_iff hf h).1 (hp.2.2 h)
  exact lead_row hf h h1 h2
 ·rw [if_neg h]
  refine lead_none (fun i hi hr e => ?_)
  have := hp.2.1 i (by omega)
  rw [(isAtR_iff hf hi).2 ⟨hr, e⟩] at this
  cases this
theorem lead_obj (hf : Fine b) {i : Nat} (hi : i < 8) (hr : isRoot (rowAt b i) = true) : 1 <= (rowAt b i).getD 10 0 /\ (rowAt b i).getD 10 0 <= 40 /\ tagAt b ((rowAt b i).getD 10 0) ≠ 0 := by
 obtain ⟨_, _, _, h4, h5⟩ := badR_no.1 ((rFault_iff.1 (faults_iff.1 hf.ok).2).1 i hi hr)
 have := hndB_iff.1 h4
 exact ⟨this.1, this.2, (wh_one.1 h5).1⟩
theorem lead_zero (hf : Fine b) (s : ByteArray) : leadOf (rootsK b 8) s = 0 ↔ plR b s = 8 := by
 have hp := plR_first b s
 have hle := plR_le b s
 rw [lead_pl hf]
 constructor
 ·intro h
  by_cases h8 : plR b s < 8
  ·rw [if_pos h8] at h
   have := lead_obj hf h8 ((isAtR_iff hf h8).1 (hp.2.2 h8)).1
   omega
  ·omega
 ·intro h
  rw [if_neg (by omega)]
def cntR (b : List Int) : Nat -> Nat
 | 0 => 0
 | k + 1 => cntR b k + if isRoot (rowAt b k) = true then 1 else 0
theorem rootsK_count : ∀ k, (rootsK b k).length = cntR b k
 | 0 => rfl
 | k + 1 => by
  show (rootsK b k ++ _).length = cntR b k + _
  rw [List.length_append, rootsK_count k]
  split <;> rfl
theorem cntR_same : ∀ k, (∀ j, j < k -> isRoot (rowAt c j) = isRoot (rowAt b j)) -> cntR c k = cntR b k
 | 0, _ => rfl
 | k + 1, h => by
  unfold cntR
  rw [cntR_same k (fun j hj => h j (by omega)), h k (by omega)]
theorem cntR_one {i : Nat} : ∀ k, i < k -> (∀ j, j < k -> j ≠ i -> isRoot (rowAt c j) = isRoot (rowAt b j)) -> isRoot (rowAt c i) = true -> isRoot (rowAt b i) = false -> cntR c k = cntR b k + 1
 | 0, h, _, _, _ => absurd h (Nat.not_lt_zero _)
 | k + 1, h, hs, h1, h2 => by
  unfold cntR
  by_cases e : i = k
  ·subst e
   rw [cntR_same i (fun j hj => hs j (by omega) (by omega)), h1, h2]
   simp
  ·rw [cntR_one k (by omega) (fun j hj hne => hs j (by omega) hne) h1 h2, hs k (by omega) (fun h => e h.symm)]
   omega
structure Row1 (b c : List Int) (i : Nat) (r : List Int) : Prop where
 lt : i < 8
 len : c.length = b.length
 here : rowAt c i = r
 else_ : ∀ j, j < 8 -> j ≠ i -> rowAt c j = rowAt b j
 ents : ∀ h, 1 <= h -> h <= 40 -> tagAt c h = tagAt b h /\ entOf c h = entOf b h
 tail : ∀ j, 288 <= j -> c.getD j 0 = b.getD j 0
theorem row1_splice (hl : 288 <= b.length) {i : Nat} (hi : i < 8) {r : List Int} (hr : r.length = 11) : Row1 b (splice b (200 + 11 * i) r) i r := by
 have hfit : 200 + 11 * i + r.length <= b.length := by omega
 have hlen := length_splice hfit
 refine ⟨hi, hlen, rowAt_in hr (by omega), fun j hj hne => rowAt_out hfit (by omega) (by omega), fun h h1 h2 => ?_, fun j hj => splice_out hfit (by omega)⟩
 have hp := plc_le h1 h2
 exact entOf_same hlen hl h1 h2 (fun j hj => splice_out hfit (by omega))
theorem Row1.hands {i : Nat} {r : List Int} (t : Row1 b c i r) (hf : Fine b) : (∀ h, 1 <= h -> h <= 40 -> hFault c h = []) /\ ∀ h, 1 <= h -> h <= 40 -> whE c h = whE b h := by
 have hw := wh_same t.len t.ents
 refine ⟨fun h h1 h2 => ?_, hw⟩
 obtain ⟨e1, e2⟩ := t.ents h h1 h2
 have := hFault_nil.1 ((faults_iff.1 hf.ok).1 h h1 h2)
 exact hFault_nil.2 (by rw [hw h h1 h2, e1, e2]; exact this)
theorem Row1.fine_none {i : Nat} (t : Row1 b c i (zerosB 11)) (hf : Fine b) : Fine c := by
 obtain ⟨h1, hw⟩ := t.hands hf
 obtain ⟨r1, r2⟩ := rFault_iff.1 (faults_iff.1 hf.ok).2
 have hroot : ∀ j, j < 8 -> isRoot (rowAt c j) = true -> j ≠ i /\ isRoot (rowAt b j) = true := fun j hj hr => by
  by_cases e : j = i
  ·subst e; rw [t.here, isRoot_zeros] at hr; cases hr
  ·rw [t.else_ j hj e] at hr; exact ⟨e, hr⟩
 refine ⟨by rw [t.len]; exact hf.len, faults_iff.2 ⟨h1, rFault_iff.2 ⟨fun j hj hr => ?_, fun j k hjk hk hj hr => ?_⟩⟩⟩
 ·obtain ⟨hne, hb⟩ := hroot j hj hr
  obtain ⟨q1, q2, q3, q4, q5⟩ := badR_no.1 (r1 j hj hb)
  have hx := hndB_iff.1 q4
  refine badR_no.2 ?_
  rw [t.else_ j hj hne]
  exact ⟨q1, q2, q3, q4, by rw [hw _ hx.1 hx.2]; exact q5⟩
 ·obtain ⟨n1, b1⟩ := hroot j (by omega) hj
  obtain ⟨n2, b2⟩ := hroot k hk hr
  have := r2 j k hjk hk b1 b2
  unfold nameAt at this ⊢
  rw [t.else_ j (by omega) n1, t.else_ k hk n2]
  exact this
theorem Row1.fine_root {i : Nat} {s : ByteArray} {h : Int} (t : Row1 b c i (rowR (s, h))) (hf : Fine b) (hn : nameB s = true) (hc : chkE b h = 0) (hno : ∀ j, j < 8 -> j ≠ i -> isRoot (rowAt b j) = true -> nameAt b j ≠ s) :
  Fine c /\ isRoot (rowAt c i) = true /\ nameAt c i = s /\ (rowAt c i).getD 10 0 = h := by
 obtain ⟨h1, hw⟩ := t.hands hf
 obtain ⟨r1, r2⟩ := rFault_iff.1 (faults_iff.1 hf.ok).2
 obtain ⟨q1, q2, q3⟩ := chkE_zero.1 hc
 have hh := hndB_iff.1 q2
 have hnr : ¬ noRoot (s, h) = true := fun hx => by have := (noRoot_iff.1 hx).2; dsimp only at this; omega
 have hre : rowRE (s, h) = 0 := by unfold rowRE; rw [if_neg hnr, if_neg (by rw [q2]; simp), if_pos hn]
 obtain ⟨g1, g2⟩ := rootOf_rowR hre hnr
 have hi := t.here
 have e1 : nameAt c i = s := by unfold nameAt; rw [hi]; exact congrArg Prod.fst g2
 have e2 : (rowAt c i).getD 10 0 = h := by rw [hi]; exact congrArg Prod.snd g2
 have hok := nameB_iff.1 hn
 have hrow : rowR (s, h) = nameL s ++ [0, 0, h % 256] := by unfold rowR; rw [if_neg hnr]
 have hl8 := length_nameL s hok.2.1
 have hread : (readOut ((rowR (s, h)).take 8)).2 = 0 := by
  rw [hrow, List.take_append_of_le_length (by omega), List.take_of_length_le (by omega)]
  have f1 : lettersN (nameL s) = s.size := (first_fstN _ _).unique (nameL_first s hok)
  have f2 : zerosN (nameL s) s.size = 8 - s.size := (first_fstN _ _).unique (nameL_zeros s hok.2.1)
  unfold readOut
  rw [if_neg (fun h => h hl8), f1, f2, hl8, if_neg (by have := hok.1; omega)]
 have hbad : badR c i = false := by
  refine badR_no.2 ?_
  rw [e2, hi]
  refine ⟨hread, ?_, ?_, q2, ?_⟩
  ·rw [hrow, List.getD, List.getElem?_append_right (by omega), hl8]; rfl
  ·rw [hrow, List.getD, List.getElem?_append_right (by omega), hl8]; rfl
  ·rw [hw h hh.1 hh.2]
   exact (hf.hand hh.1 hh.2 q3).1
 refine ⟨⟨by rw [t.len]; exact hf.len, faults_iff.2 ⟨h1, rFault_iff.2 ⟨fun j hj hr => ?_, fun j k hjk hk hj hr => ?_⟩⟩⟩, by rw [hi]; exact g1, e1, e2⟩
 ·by_cases e : j = i
  ·subst e; exact hbad
  ·have hb : isRoot (rowAt b j) = true := by rw [<- t.else_ j hj e]; exact hr
   obtain ⟨p1, p2, p3, p4, p5⟩ := badR_no.1 (r1 j hj hb)
   have hx := hndB_iff.1 p4
   refine badR_no.2 ?_
   rw [t.else_ j hj e]
   exact ⟨p1, p2, p3, p4, by rw [hw _ hx.1 hx.2]; exact p5⟩
 ·have key : ∀ j, j < 8 -> j ≠ i -> isRoot (rowAt c j) = true -> isRoot (rowAt b j) = true /\ nameAt c j = nameAt b j := fun j hj e hr => by
   have he := t.else_ j hj e
   exact ⟨by rw [<- he]; exact hr, by unfold nameAt; rw [he]⟩
  by_cases ej : j = i
  ·subst ej
   obtain ⟨k1, k2⟩ := key k hk (by omega) hr
   rw [e1, k2]
   exact fun e => hno k hk (by omega) k1 e.symm
  ·obtain ⟨j1, j2⟩ := key j (by omega) ej hj
   by_cases ek : k = i
   ·subst ek
    rw [e1, j2]
    exact hno j (by omega) ej j1
   ·obtain ⟨k1, k2⟩ := key k hk ek hr
    rw [j2, k2]
    exact r2 j k hjk hk j1 k1
theorem Row1.objs {i : Nat} {r : List Int} (t : Row1 b c i r) (hf : Fine b) (h : Int) (h1 : 1 <= h) (h2 : h <= 40) : objOf c h = objOf b h /\ chkE c h = chkE b h /\ getE c h = getE b h := by
 obtain ⟨e1, e2⟩ := t.ents h h1 h2
 refine ⟨obj_same t.len e1 e2 (fun ht j hj _ => t.tail j ?_), ?_, ?_⟩
 ·have := (hf.ent h1 h2 ht).1
  omega
 ·unfold chkE; rw [t.len, e1]
 ·unfold getE chkE; rw [t.len, e1, e2]
end
section
variable {b c : List Int} {s : ByteArray} {h : Int}
theorem pl_only (hf : Fine b) {i : Nat} (hi : i < 8) (hr : isRoot (rowAt b i) = true) (hn : nameAt b i = s) : plR b s = i := by
 have hp := plR_first b s
 have h1 := (isAtR_iff hf hi).2 ⟨hr, hn⟩
 have hle : plR b s <= i := Nat.le_of_not_lt fun hlt => by
  have := hp.2.1 i hlt
  rw [h1] at this
  cases this
 refine Classical.byContradiction fun hne => ?_
 obtain ⟨g1, g2⟩ := (isAtR_iff hf (show plR b s < 8 by omega)).1 (hp.2.2 (by omega))
 exact (rFault_iff.1 (faults_iff.1 hf.ok).2).2 _ i (by omega) hi g1 hr (by rw [g2, hn])
theorem pl_none (hf : Fine b) (hn : ∀ i, i < 8 -> isRoot (rowAt b i) = true -> nameAt b i ≠ s) : plR b s = 8 := by
 have hp := plR_first b s
 have hle := plR_le b s
 refine Classical.byContradiction fun hne => ?_
 obtain ⟨g1, g2⟩ := (isAtR_iff hf (show plR b s < 8 by omega)).1 (hp.2.2 (by omega))
 exact hn _ (by omega) g1 g2
theorem pl_no (hf : Fine b) (h8 : plR b s = 8) : ∀ i, i < 8 -> isRoot (rowAt b i) = true -> nameAt b i ≠ s := fun i hi hr e => by
 have := pl_only hf hi hr e
 omega
theorem se_row (hf : Fine b) (h0 : seE b s h = 0) : Row1 b (seB b s h) (seI b s) (rowR (s, h)) := by
 obtain ⟨h1, h2, h3, h4⟩ := se_put hf h0
 obtain ⟨_, _, _, q4⟩ := prE_zero.1 h1
 have e : seB b s h = splice b (200 + 11 * seI b s) (rowR (s, h)) := by unfold seB prL; rw [if_pos h1, Int.toNat_natCast]
 rw [e]
 exact row1_splice hf.len.1 h2 (rowR_len q4)
theorem se_no (hf : Fine b) (h0 : seE b s h = 0) : ∀ j, j < 8 -> j ≠ seI b s -> isRoot (rowAt b j) = true -> nameAt b j ≠ s := fun j hj hne hr e => by
 have hp := pl_only hf hj hr e
 apply hne
 unfold seI
 rw [hp, if_pos hj]
theorem se_fine (hf : Fine b) (h0 : seE b s h = 0) : Fine (seB b s h) /\ isRoot (rowAt (seB b s h) (seI b s)) = true /\ nameAt (seB b s h) (seI b s) = s /\ (rowAt (seB b s h) (seI b s)).getD 10 0 = h := by
 obtain ⟨_, _, h3, h4⟩ := se_put hf h0
 exact (se_row hf h0).fine_root hf h3 h4 (se_no hf h0)
theorem se_lead (hf : Fine b) (h0 : seE b s h = 0) : leadOf (rootsK (seB b s h) 8) s = h := by
 obtain ⟨f, r, n, g⟩ := se_fine hf h0
 rw [lead_row f (se_put hf h0).2.1 r n, g]
theorem seI_cases (b : List Int) (s : ByteArray) : (plR b s < 8 /\ seI b s = plR b s /\ seN b s = false) \/ (plR b s = 8 /\ seI b s = frR b /\ seN b s = true) := by
 have := plR_le b s
 unfold seI seN
 by_cases h : plR b s < 8
 ·exact .inl ⟨h, if_pos h, decide_eq_false (by omega)⟩
 ·exact .inr ⟨by omega, if_neg h, decide_eq_true (by omega)⟩
theorem se_was (hf : Fine b) (h0 : seE b s h = 0) : (seN b s = false /\ isRoot (rowAt b (seI b s)) = true /\ nameAt b (seI b s) = s) \/ (seN b s = true /\ isRoot (rowAt b (seI b s)) = false) := by
 have hlt := (se_put hf h0).2.1
 rcases seI_cases b s with ⟨h1, h2, h3⟩ | ⟨h1, h2, h3⟩
 ·have := (isAtR_iff hf h1).1 ((plR_first b s).2.2 h1)
  rw [h2]
  exact .inl ⟨h3, this⟩
 ·have := (frR_first b).2.2 (by omega)
  rw [h2]
  exact .inr ⟨h3, by simpa using this⟩
theorem se_other (hf : Fine b) (h0 : seE b s h = 0) {t : ByteArray} (ht : t ≠ s) : leadOf (rootsK (seB b s h) 8) t = leadOf (rootsK b 8) t := by
 obtain ⟨f, r, n, g⟩ := se_fine hf h0
 have hrow := se_row hf h0
 have hwas := se_was hf h0
 by_cases hx : ∃ j, j < 8 /\ isRoot (rowAt b j) = true /\ nameAt b j = t
 ·obtain ⟨j, hj, hjr, hjn⟩ := hx
  have hne : j ≠ seI b s := fun e => by
   subst e
   rcases hwas with ⟨_, _, h2⟩ | ⟨_, h2⟩
   ·exact ht (by rw [<- hjn, h2])
   ·rw [hjr] at h2; cases h2
  have he := hrow.else_ j hj hne
  rw [lead_row hf hj hjr hjn, lead_row f hj (by rw [he]; exact hjr) (by unfold nameAt; rw [he]; exact hjn), he]
 ·rw [lead_none (b := b) (fun j hj hr e => hx ⟨j, hj, hr, e⟩), lead_none (fun j hj hr e => ?_)]
  by_cases e2 : j = seI b s
  ·subst e2; exact ht (by rw [<- e, n])
  ·have he := hrow.else_ j hj e2
   exact hx ⟨j, hj, by rw [<- he]; exact hr, by unfold nameAt at e ⊢; rw [<- he]; exact e⟩
theorem se_count (hf : Fine b) (h0 : seE b s h = 0) : (rootsK (seB b s h) 8).length = (rootsK b 8).length + if seN b s = true then 1 else 0 := by
 obtain ⟨f, r, n, g⟩ := se_fine hf h0
 have hrow := se_row hf h0
 rw [rootsK_count, rootsK_count]
 have hoth : ∀ j, j < 8 -> j ≠ seI b s -> isRoot (rowAt (seB b s h) j) = isRoot (rowAt b j) := fun j hj hne => by rw [hrow.else_ j hj hne]
 rcases se_was hf h0 with ⟨h1, h2, _⟩ | ⟨h1, h2⟩
 ·rw [h1, if_neg (by simp), Nat.add_zero]
  refine cntR_same 8 (fun j hj => ?_)
  by_cases e : j = seI b s
  ·subst e; rw [r, h2]
  ·exact hoth j hj e
 ·rw [h1, if_pos rfl]
  exact cntR_one 8 hrow.lt hoth r h2
theorem se_byt (hb : Byt b) (s : ByteArray) (h : Int) : Byt (seB b s h) := by
 unfold seB prL
 split
 ·exact byt_splice hb (byt_rowR _)
 ·exact fun z hz => (by cases hz)
theorem se_held (hf : Fine b) (h0 : seE b s h = 0) : frE (seB b s h) h = 7 := by
 obtain ⟨f, r, n, g⟩ := se_fine hf h0
 have hrow := se_row hf h0
 obtain ⟨_, hlt, _, hc⟩ := se_put hf h0
 have hh := hndB_iff.1 (chkE_zero.1 hc).2.1
 have hc2 : chkE (seB b s h) h = 0 := by rw [(hrow.objs hf h hh.1 hh.2).2.1]; exact hc
 unfold frE
 rw [if_neg (fun h => h hc2), if_pos]
 refine List.any_eq_true.2 ⟨rootOf (rowAt (seB b s h) (seI b s)), mem_rootsK8 hlt r, ?_⟩
 rw [beq_iff_eq]
 exact g
theorem un_zero (h0 : unE b s = 0) : nameB s = true /\ plR b s < 8 := by
 unfold unE at h0
 have := plR_le b s
 cases hn : nameB s with
 | false => rw [hn, if_pos rfl] at h0; exact absurd h0 (by decide)
 | true =>
  rw [hn, if_neg (by simp)] at h0
  by_cases h8 : plR b s = 8
  ·rw [if_pos h8] at h0; exact absurd h0 (by decide)
  ·exact ⟨rfl, by omega⟩
theorem un_row (hf : Fine b) (h0 : unE b s = 0) : Row1 b (unB b s) (plR b s) (zerosB 11) := row1_splice hf.len.1 (un_zero h0).2 (length_zerosB 11)
theorem un_fine (hf : Fine b) (h0 : unE b s = 0) : Fine (unB b s) := (un_row hf h0).fine_none hf
theorem un_gone (hf : Fine b) (h0 : unE b s = 0) : plR (unB b s) s = 8 /\ leadOf (rootsK (unB b s) 8) s = 0 /\ unE (unB b s) s = 5 := by
 have hrow := un_row hf h0
 have f := un_fine hf h0
 obtain ⟨hn, hlt⟩ := un_zero h0
 have hp : plR (unB b s) s = 8 := pl_none f (fun j hj hr e => by
  by_cases e2 : j = plR b s
  ·subst e2; rw [hrow.here, isRoot_zeros] at hr; cases hr
  ·have he := hrow.else_ j hj e2
   have := pl_only hf hj (by rw [<- he]; exact hr) (show nameAt b j = s by unfold nameAt at e ⊢; rw [<- he]; exact e)
   exact e2 this.symm)
 refine ⟨hp, (lead_zero f s).2 hp, ?_⟩
 unfold unE
 rw [hn, if_neg (by simp), if_pos hp]
theorem un_other (hf : Fine b) (h0 : unE b s = 0) {t : ByteArray} (ht : t ≠ s) : leadOf (rootsK (unB b s) 8) t = leadOf (rootsK b 8) t := by
 have hrow := un_row hf h0
 have f := un_fine hf h0
 have hpl := (isAtR_iff hf (un_zero h0).2).1 ((plR_first b s).2.2 (un_zero h0).2)
 by_cases hx : ∃ j, j < 8 /\ isRoot (rowAt b j) = true /\ nameAt b j = t
 ·obtain ⟨j, hj, hjr, hjn⟩ := hx
  have hne : j ≠ plR b s := fun e => by subst e; exact ht (by rw [<- hjn, hpl.2])
  have he := hrow.else_ j hj hne
  rw [lead_row hf hj hjr hjn, lead_row f hj (by rw [he]; exact hjr) (by unfold nameAt; rw [he]; exact hjn), he]
 ·rw [lead_none (b := b) (fun j hj hr e => hx ⟨j, hj, hr, e⟩), lead_none (fun j hj hr e => ?_)]
  by_cases e2 : j = plR b s
  ·subst e2; rw [hrow.here, isRoot_zeros] at hr; cases hr
  ·have he := hrow.else_ j hj e2
   exact hx ⟨j, hj, by rw [<- he]; exact hr, by unfold nameAt at e ⊢; rw [<- he]; exact e⟩
theorem un_count (hf : Fine b) (h0 : unE b s = 0) : (rootsK (unB b s) 8).length + 1 = (rootsK b 8).length := by
 have hrow := un_row hf h0
 have hpl := (isAtR_iff hf (un_zero h0).2).1 ((plR_first b s).2.2 (un_zero h0).2)
 rw [rootsK_count, rootsK_count]
 exact (cntR_one (b := unB b s) (c := b) 8 hrow.lt (fun j hj hne => by rw [hrow.else_ j hj hne]) hpl.1 (by rw [hrow.here]; exact isRoot_zeros)).symm
theorem un_byt (hb : Byt b) (s : ByteArray) : Byt (unB b s) := byt_splice hb (byt_zerosB 11)
structure RFs (b : List Int) (f : Nat -> ByteArray) (a : Int) (i : Nat) : Prop where
 fine : Fine b
 here : ∀ j, j < i -> isRoot (rowAt b j) = true /\ nameAt b j = f j /\ (rowAt b j).getD 10 0 = a
 none_ : ∀ j, i <= j -> j < 8 -> isRoot (rowAt b j) = false
theorem RFs.start {f : Nat -> ByteArray} {a : Int} (hf : Fine b) (hr : rootsK b 8 = []) : RFs b f a 0 :=
 ⟨hf, fun j hj => absurd hj (Nat.not_lt_zero j), fun j _ hj => by
  cases hq : isRoot (rowAt b j) with
  | false => rfl
  | true => have := mem_rootsK8 hj hq; rw [hr] at this; cases this⟩
theorem RFs.next {f : Nat -> ByteArray} {a : Int} {i : Nat} (r : RFs b f a i) (hi : i < 8) (hn : nameB (f i) = true) (hc : chkE b a = 0) (hinj : ∀ j, j < i -> f j ≠ f i) :
  seE b (f i) a = 0 /\ seN b (f i) = true /\ RFs (seB b (f i) a) f a (i + 1) /\ ∀ h, 1 <= h -> h <= 40 -> chkE (seB b (f i) a) h = chkE b h /\ getE (seB b (f i) a) h = getE b h := by
 have hpl : plR b (f i) = 8 := pl_none r.fine (fun j hj hr e => by
  by_cases hji : j < i
  ·exact hinj j hji (by rw [<- (r.here j hji).2.1, e])
  ·rw [r.none_ j (by omega) hj] at hr; cases hr)
 have hfr : frR b = i := (frR_first b).unique ⟨by omega, fun j hj => by simp [(r.here j hj).1], fun _ => by simp [r.none_ i (Nat.le_refl _) hi]⟩
 have hI : seI b (f i) = i := by unfold seI; rw [hpl, if_neg (by omega), hfr]
 have h0 : seE b (f i) a = 0 := by
  unfold seE
  rw [hn, if_neg (by simp), if_neg (fun h => h hc), hI, if_neg (by omega)]
 obtain ⟨g1, g2, g3, g4⟩ := se_fine r.fine h0
 have hrow := se_row r.fine h0
 rw [hI] at g2 g3 g4 hrow
 refine ⟨h0, by unfold seN; rw [hpl]; rfl, ⟨g1, fun j hj => ?_, fun j hj hj8 => ?_⟩, fun h h1 h2 => (hrow.objs r.fine h h1 h2).2⟩
 ·by_cases e : j = i
  ·subst e; exact ⟨g2, g3, g4⟩
  ·have he := hrow.else_ j (by omega) e
   unfold nameAt
   rw [he]
   exact r.here j (by omega)
 ·rw [hrow.else_ j hj8 (by omega)]
  exact r.none_ j (by omega) hj8
theorem RFs.full {f : Nat -> ByteArray} {a : Int} (r : RFs b f a 8) {s : ByteArray} {h : Int} (hn : nameB s = true) (hc : chkE b h = 0) (hs : ∀ j, j < 8 -> f j ≠ s) : seE b s h = 4 := by
 have hpl : plR b s = 8 := pl_none r.fine (fun j hj hr e => hs j hj (by rw [<- (r.here j hj).2.1, e]))
 have hfr : frR b = 8 := (frR_first b).unique ⟨Nat.le_refl _, fun j hj => by simp [(r.here j hj).1], fun h => absurd h (Nat.lt_irrefl _)⟩
 have hI : seI b s = 8 := by unfold seI; rw [hpl, if_neg (by omega), hfr]
 unfold seE
 rw [hn, if_neg (by simp), if_neg (fun h => h hc), if_pos hI]
theorem rootsK_full : ∀ {k : Nat}, (∀ j, j < k -> isRoot (rowAt b j) = true) -> rootsK b k = (List.range k).map fun j => rootOf (rowAt b j)
 | 0, _ => rfl
 | k + 1, h => by
  show rootsK b k ++ _ = _
  rw [h k (by omega), if_pos rfl, rootsK_full (fun j hj => h j (by omega)), List.range_succ, List.map_append]
  rfl
theorem RFs.count {f : Nat -> ByteArray} {a : Int} (r : RFs b f a 8) : (rootsK b 8).length = 8 := by
 rw [rootsK_full (fun j hj => (r.here j hj).1)]
 simp
theorem RFs.again {f : Nat -> ByteArray} {a : Int} (r : RFs b f a 8) {k : Nat} (hk : k < 8) {h : Int} (hn : nameB (f k) = true) (hc : chkE b h = 0) :
  seE b (f k) h = 0 /\ seN b (f k) = false /\ leadOf (rootsK (seB b (f k) h) 8) (f k) = h /\ (rootsK (seB b (f k) h) 8).length = 8 /\ (rootsK (seB b (f k) h) 8)[k]? = some (f k, h) := by
 have hpl : plR b (f k) = k := pl_only r.fine hk (r.here k hk).1 (r.here k hk).2.1
 have hI : seI b (f k) = k := by unfold seI; rw [hpl, if_pos hk]
 have h0 : seE b (f k) h = 0 := by
  unfold seE
  rw [hn, if_neg (by simp), if_neg (fun h => h hc), hI, if_neg (by omega)]
 obtain ⟨g1, g2, g3, g4⟩ := se_fine r.fine h0
 have hrow := se_row r.fine h0
 rw [hI] at g2 g3 g4 hrow
 have hall : ∀ j, j < 8 -> isRoot (rowAt (seB b (f k) h) j) = true := fun j hj => by
  by_cases e : j = k
  ·subst e; exact g2
  ·rw [hrow.else_ j hj e]; exact (r.here j hj).1
 have hN : seN b (f k) = false := by unfold seN; rw [hpl]; exact decide_eq_false (by omega)
 refine ⟨h0, hN, se_lead r.fine h0, ?_, ?_⟩
 ·rw [rootsK_full hall]; simp
 ·rw [rootsK_full hall]
  have hro : rootOf (rowAt (seB b (f k) h) k) = (f k, h) := Prod.ext g3 g4
  rw [List.getElem?_map, List.getElem?_range hk, Option.map_some, hro]
end
theorem readOut_name {s : ByteArray} (h : NameOk s) : readOut (nameL s) = (s, 0) := by
 have hl := length_nameL s h.2.1
 have f1 : lettersN (nameL s) = s.size := (first_fstN _ _).unique (nameL_first s h)
 have f2 : zerosN (nameL s) s.size = 8 - s.size := (first_fstN _ _).unique (nameL_zeros s h.2.1)
 unfold readOut
 rw [if_neg (fun h => h hl), f1, f2, hl, if_neg (by have := h.1; omega), nameL_take]
theorem readOut_ok {l : List Int} (hb : Byt l) (h0 : (readOut l).2 = 0) : l.length = 8 /\ NameOk (readOut l).1 /\ nameL (readOut l).1 = l := by
 unfold readOut at h0 ⊢
 by_cases hl : l.length = 8
 ·rw [if_neg (fun h => h hl)] at h0 ⊢
  by_cases hc : lettersN l = 0 \/ zerosN l (lettersN l) < l.length - lettersN l
  ·rw [if_pos hc] at h0; exact absurd h0 (by decide)
  ·rw [if_neg hc]
   have hf : First (fun j => (!ltr (l.getD j 0))) l.length (lettersN l) := first_fstN _ _
   have hz : First (fun j => ((l.drop (lettersN l)).getD j 0 != 0)) (l.drop (lettersN l)).length (zerosN l (lettersN l)) := first_fstN _ _
   generalize lettersN l = n at *
   generalize zerosN l n = z at *
   have hn8 : n <= 8 := by have := hf.1; omega
   have hbt : Byt (l.take n) := fun x hx => hb x (List.mem_of_mem_take hx)
   have hsl : strL (strOf (l.take n)) = l.take n := strL_strOf _ hbt
   have hsz : (strOf (l.take n)).size = n := by rw [<- length_strL, hsl, List.length_take]; omega
   refine ⟨hl, ⟨by rw [hsz]; omega, by rw [hsz]; exact hn8, ?_⟩, ?_⟩
   ·rw [hsz]
    refine ⟨Nat.le_refl _, fun j hj => ?_, fun h => absurd h (Nat.lt_irrefl _)⟩
    have := hf.2.1 j hj
    dsimp only at this ⊢
    rw [hsl]
    rw [show (l.take n).getD j 0 = l.getD j 0 by simp [List.getD, hj]]
    exact this
   ·have hdl : (l.drop n).length = 8 - n := by rw [List.length_drop]; omega
    have hz8 : z = 8 - n := by have := hz.1; omega
    apply ext_getD
    ·rw [length_nameL _ (by rw [hsz]; exact hn8), hl]
    ·intro j hj
     by_cases hjn : j < n
     ·rw [nameL_lo _ j (by rw [hsz]; exact hjn), hsl]
      simp [List.getD, hjn]
     ·rw [nameL_hi _ j (by rw [hsz]; omega)]
      rw [length_nameL _ (by rw [hsz]; exact hn8)] at hj
      have := hz.2.1 (j - n) (by omega)
      simp [List.getD] at this
      rw [show n + (j - n) = j by omega] at this
      simpa [List.getD] using this.symm
 ·rw [if_pos hl] at h0; exact absurd h0 (by decide)
def isL (b l : List Int) (i : Nat) : Bool := decide ((rowAt b i).take 8 = l)
def plL (b l : List Int) : Nat := fstN (isL b l) 8
theorem plL_first (b l : List Int) : First (isL b l) 8 (plL b l) := first_fstN _ _
theorem plL_le (b l : List Int) : plL b l <= 8 := (plL_first b l).1
theorem isL_name {b : List Int} {s : ByteArray} (hb : Byt b) (hn : nameB s = true) (i : Nat) : isL b (nameL s) i = isAtR b s i := by
 have hbt : Byt ((rowAt b i).take 8) := fun x hx => hb x (by
  have h1 := List.mem_of_mem_take hx
  unfold rowAt at h1
  exact List.mem_of_mem_drop (List.mem_of_mem_take h1))
 rw [Bool.eq_iff_iff]
 unfold isL isAtR
 rw [decide_eq_true_iff, Bool.and_eq_true, decide_eq_true_iff, decide_eq_true_iff]
 constructor
 ·intro h
  rw [h, readOut_name (nameB_iff.1 hn)]
  exact ⟨rfl, rfl⟩
 ·rintro ⟨h1, h2⟩
  have := (readOut_ok hbt h1).2.2
  rw [h2] at this
  exact this.symm
theorem plL_name {b : List Int} {s : ByteArray} (hb : Byt b) (hn : nameB s = true) : plL b (nameL s) = plR b s := by
 unfold plL plR
 rw [show isL b (nameL s) = isAtR b s from funext (isL_name hb hn)]
theorem isL_zero {b : List Int} (hf : Fine b) {i : Nat} (hi : i < 8) : isL b (zerosB 8) i = !isRoot (rowAt b i) := by
 have hl := hf.len
 unfold isL
 cases hr : isRoot (rowAt b i) with
 | false =>
  rw [row_zeros hr (rowAt_len (by omega))]
  decide
 | true =>
  have := (badR_no.1 ((rFault_iff.1 (faults_iff.1 hf.ok).2).1 i hi hr)).1
  rw [decide_eq_false_iff_not.2 (fun e => by rw [e] at this; exact absurd this (by decide))]
  rfl
theorem plL_zero {b : List Int} (hf : Fine b) : plL b (zerosB 8) = frR b := by
 have h := frR_first b
 refine (plL_first b _).unique ⟨h.1, fun j hj => ?_, fun hj => ?_⟩
 ·rw [isL_zero hf (by have := h.1; omega)]
  exact h.2.1 j hj
 ·rw [isL_zero hf hj]
  exact h.2.2 hj
theorem lead_step {R : List (ByteArray × Int)} {k : Nat} {r : (ByteArray × Int)} {s : ByteArray} (h : R[k]? = some r) : leadOf (R.drop k) s = if r.1 = s then r.2 else leadOf (R.drop (k + 1)) s := by
 obtain ⟨hk, rfl⟩ := List.getElem?_eq_some_iff.1 h
 rw [List.drop_eq_getElem_cons hk]
 unfold leadOf
 by_cases e : R[k].1 = s
 ·rw [if_pos e, List.find?_cons_of_pos (p := fun (r : (ByteArray × Int)) => r.1 == s) (ba_beq.2 e)]
  rfl
 ·rw [if_neg e, List.find?_cons_of_neg (p := fun (r : (ByteArray × Int)) => r.1 == s) (fun h => e (ba_beq.1 h))]
def gtE (b : List Int) (s : ByteArray) (t : Int) : Int :=
 if nameB s = false then 2 else if t < -1 \/ 15 < t then 1 else if leadOf (rootsK b 8) s = 0 then 5 else if t ≠ -1 /\ t ≠ (getE b (leadOf (rootsK b 8) s)).2.2.2 then 8 else 0
def gtH (b : List Int) (s : ByteArray) (t : Int) : Int := if gtE b s t = 0 then leadOf (rootsK b 8) s else 0
def seO (b : List Int) (s : ByteArray) (h : Int) : Bool := decide (seE b s h = 0) && seN b s
def seF (b : List Int) (s : ByteArray) (h : Int) : List Int := if seE b s h = 0 then seB b s h else b
def unF (b : List Int) (s : ByteArray) : List Int := if unE b s = 0 then unB b s else b
theorem lead_range {b : List Int} (hf : Fine b) (s : ByteArray) : leadOf (rootsK b 8) s = 0 \/ (1 <= leadOf (rootsK b 8) s /\ leadOf (rootsK b 8) s <= 40 /\ chkE b (leadOf (rootsK b 8) s) = 0) := by
 have hp := plR_first b s
 rw [lead_pl hf]
 by_cases h : plR b s < 8
 ·rw [if_pos h]
  obtain ⟨h1, h2, h3⟩ := lead_obj hf h ((isAtR_iff hf h).1 (hp.2.2 h)).1
  exact .inr ⟨h1, h2, chkE_zero.2 ⟨hf.len0, hndB_iff.2 ⟨h1, h2⟩, h3⟩⟩
 ·exact .inl (if_neg h)
theorem un_put {b : List Int} (hf : Fine b) {i : Nat} (hi : i < 8) : prE b i (({ data := #[] } : ByteArray), 0) = 0 /\ prL b i (({ data := #[] } : ByteArray), 0) = splice b (200 + 11 * i) (zerosB 11) := by
 have hr : rowRE (({ data := #[] } : ByteArray), 0) = 0 := by decide
 have hp : prE b i (({ data := #[] } : ByteArray), 0) = 0 := prE_zero.2 ⟨hf.len0, by omega, by omega, hr⟩
 refine ⟨hp, ?_⟩
 unfold prL
 rw [if_pos hp, Int.toNat_natCast]
 rfl
theorem se_img {b : List Int} (hf : Fine b) {s : ByteArray} {h : Int} (h0 : seE b s h = 0) : prL b (seI b s) (s, h) = seB b s h /\ Fine (prL b (seI b s) (s, h)) := ⟨rfl, (se_fine hf h0).1⟩
section
variable {L : List Int} {n t : Int}
theorem al_room (hf : Fine L) {p : Int} (hlow : lowH L < 40) (n1 : 1 <= n) (n2 : n <= 1000) (t1 : 0 <= t) (t2 : t <= 15) (p1 : 0 <= p) (p2 : p + n <= (L.length : Int) - 288) (hno : ∀ e ∈ takeL L, e.1 + e.2 <= p \/ p + n <= e.1) : alE L n t = 0 := by
 have hl := hf.len
 unfold alE
 rw [if_neg (by omega), if_neg (by omega), fitE_fine hf n1 (by omega), if_neg (fit_there (take_srt hf) (take_good hf) (by omega) p1 n1 p2 hno)]
theorem al_rows (hf : Fine L) (h0 : alE L n t = 0) {j : Nat} (hj : j < 8) : rowAt (alB L n t) j = rowAt L j := by
 obtain ⟨x, N, hk⟩ := al_ok hf h0
 have hl := hf.len
 have hlow := hk.low
 obtain ⟨_, k2, _⟩ := hk.keep hf h0
 have hz := length_zerosB N
 have hsl : (splice L x (zerosB N)).length = L.length := length_splice (by rw [hz]; exact hk.x2)
 have hp : putE (splice L x (zerosB N)) ((lowH L : Int) + 1, (x : Int), (N : Int), t) = 0 :=
  putE_zero.2 ⟨by rw [hsl]; exact hf.len0, hndB_iff.2 ⟨by show 1 <= (lowH L : Int) + 1; omega, by show (lowH L : Int) + 1 <= 40; omega⟩, hk.t1, hk.t2, by have := hk.n1; show 1 <= (N : Int); omega, by have := hk.n2; show (N : Int) <= 1000; omega, by have := hk.x1; show 288 <= (x : Int); omega, by rw [hsl]; have := hk.x2; show (x : Int) + N <= _; omega⟩
 apply ext_getD
 ·rw [rowAt_len (by omega), rowAt_len (by omega)]
 ·intro q hq
  rw [rowAt_len (by omega)] at hq
  rw [rowAt_getD hq, rowAt_getD hq, (hk.img h0).1]
  exact alL_tail hf hp (by omega) (by omega) hk.x1 hk.x2 _ (by omega) (by omega)
structure One (L : List Int) (N : Nat) (t : Int) (x : Nat) : Prop where
 fine : Fine L
 len : L.length = N
 tag : tagAt L 1 ≠ 0
 ent : entOf L 1 = (1, (x : Int), 1, t)
 x1 : 288 <= x
 x2 : x + 1 <= N
 no : ∀ h : Int, 1 <= h -> h <= 40 -> h ≠ 1 -> tagAt L h = 0
 rows : ∀ j, j < 8 -> isRoot (rowAt L j) = false
theorem one_made {N : Nat} (h1 : 289 <= N) (h2 : N <= 6400) (t1 : 0 <= t) (t2 : t <= 15) : alE (zerosB N) 1 t = 0 /\ alH (zerosB N) 1 t = 1 /\ ∃ x, One (alB (zerosB N) 1 t) N t x := by
 obtain ⟨z1, z2, z3⟩ := zeros_fine (n := N) (by omega) h2
 have hzl := length_zerosB N
 have hlow : lowH (zerosB N) = 0 := (lowH_first _).unique ⟨Nat.zero_le _, fun j hj => absurd hj (Nat.not_lt_zero j), fun _ => decide_eq_true (z2 _)⟩
 have h0 : alE (zerosB N) 1 t = 0 := al_room (p := 0) z1 (by omega) (by decide) (by decide) t1 t2 (by decide) (by rw [hzl]; omega) (fun e he => by
  obtain ⟨h, _, _, ht, _⟩ := mem_takeL.1 he
  exact absurd (z2 h) ht)
 obtain ⟨x, M, hk⟩ := al_ok z1 h0
 obtain ⟨k1, k2, k3, k4, k5, k6⟩ := hk.keep z1 h0
 have hM : M = 1 := by have := hk.eqn; omega
 subst hM
 rw [hlow] at k3 k4 k5 k6
 have hx2 := hk.x2
 rw [hzl] at hx2
 refine ⟨h0, ?_, x, k1, k2.trans hzl, k5, k4, hk.x1, hx2, fun h a b c => ?_, fun j hj => ?_⟩
 ·unfold alH; rw [if_pos h0, hlow]; rfl
 ·rw [(k6 h a b (by simpa using c)).2.1]; exact z2 h
 ·rw [al_rows z1 h0 hj]; exact z3 j hj
theorem One.chk {N x : Nat} (o : One L N t x) : chkE L 1 = 0 /\ (getE L 1).2.2.2 = t := by
 have hc : chkE L 1 = 0 := chkE_zero.2 ⟨o.fine.len0, by decide, o.tag⟩
 refine ⟨hc, ?_⟩
 unfold getE
 rw [if_pos hc, o.ent]
structure Two (L : List Int) : Prop where
 fine : Fine L
 c1 : chkE L 1 = 0
 c2 : chkE L 2 = 0
 t2 : (getE L 2).2.2.2 = 0
 rows : ∀ j, j < 8 -> isRoot (rowAt L j) = false
theorem two_made {N x : Nat} (o : One L N 0 x) (hN : 290 <= N) : alE L 1 0 = 0 /\ alH L 1 0 = 2 /\ Two (alB L 1 0) := by
 have hlow : lowH L = 1 := (lowH_first _).unique ⟨by decide, fun j hj => by
  obtain rfl : j = 0 := by omega
  exact decide_eq_false o.tag, fun _ => decide_eq_true (o.no _ (by decide) (by decide) (by decide))⟩
 have htk : ∀ e ∈ takeL L, e = ((x : Int) - 288, (1 : Int)) := fun e he => by
  obtain ⟨h, a, b, ht, rfl⟩ := mem_takeL.1 he
  have h1 : h = 1 := Classical.byContradiction fun hne => ht (o.no h a b hne)
  subst h1
  rw [o.ent]
  rfl
 have hx := o.x1
 have h0 : alE L 1 0 = 0 := by
  by_cases e : x = 288
  ·refine al_room (p := 1) o.fine (by omega) (by decide) (by decide) (by decide) (by decide) (by decide) (by rw [o.len]; omega) (fun y hy => ?_)
   rw [htk y hy]
   left
   show (x : Int) - 288 + 1 <= 1
   omega
  ·refine al_room (p := 0) o.fine (by omega) (by decide) (by decide) (by decide) (by decide) (by decide) (by rw [o.len]; omega) (fun y hy => ?_)
   rw [htk y hy]
   right
   show (0 : Int) + 1 <= (x : Int) - 288
   omega
 obtain ⟨y, M, hk⟩ := al_ok o.fine h0
 obtain ⟨k1, k2, k3, k4, k5, k6⟩ := hk.keep o.fine h0
 rw [hlow] at k3 k4 k5 k6
 have k5' : tagAt (alB L 1 0) 2 ≠ 0 := k5
 have k4' : entOf (alB L 1 0) 2 = (2, (y : Int), (M : Int), 0) := k4
 have c1 : chkE (alB L 1 0) 1 = 0 := chkE_zero.2 ⟨k1.len0, by decide, by rw [(k6 1 (by decide) (by decide) (by decide)).2.1]; exact o.tag⟩
 have c2 : chkE (alB L 1 0) 2 = 0 := chkE_zero.2 ⟨k1.len0, by decide, k5'⟩
 refine ⟨h0, ?_, k1, c1, c2, ?_, fun j hj => ?_⟩
 ·unfold alH; rw [if_pos h0, hlow]; rfl
 ·unfold getE; rw [if_pos c2, k4']
 ·rw [al_rows o.fine h0 hj]; exact o.rows j hj
theorem se_got {b : List Int} (hf : Fine b) {s : ByteArray} {x : Int} (h0 : seE b s x = 0) {T : Int} (ht1 : -1 <= T) (ht2 : T <= 15) :
  gtE (seB b s x) s T = (if T ≠ -1 /\ T ≠ (getE b x).2.2.2 then 8 else 0) /\ gtH (seB b s x) s T = (if T ≠ -1 /\ T ≠ (getE b x).2.2.2 then 0 else x) := by
 obtain ⟨_, _, hn, hc⟩ := se_put hf h0
 have hx := hndB_iff.1 (chkE_zero.1 hc).2.1
 have hl := se_lead hf h0
 have hge := ((se_row hf h0).objs hf x hx.1 hx.2).2.2
 have e1 : gtE (seB b s x) s T = (if T ≠ -1 /\ T ≠ (getE b x).2.2.2 then 8 else 0) := by
  unfold gtE
  rw [if_neg (by rw [hn]; simp), if_neg (by omega), hl, if_neg (by omega), hge]
 refine ⟨e1, ?_⟩
 unfold gtH
 rw [e1, hl]
 by_cases h : T ≠ -1 /\ T ≠ (getE b x).2.2.2
 ·rw [if_pos h, if_pos h, if_neg (by decide)]
 ·rw [if_neg h, if_neg h, if_pos rfl]
theorem gt_same {b c : List Int} {s : ByteArray} (h : leadOf (rootsK c 8) s = leadOf (rootsK b 8) s) : gtE c s (-1) = gtE b s (-1) /\ gtH c s (-1) = gtH b s (-1) := by
 have e : ∀ d : List Int, gtE d s (-1) = if nameB s = false then 2 else if leadOf (rootsK d 8) s = 0 then 5 else 0 := fun d => by
  unfold gtE
  by_cases hn : nameB s = false
  ·rw [if_pos hn, if_pos hn]
  ·rw [if_neg hn, if_neg hn, if_neg (by omega)]
   by_cases h0 : leadOf (rootsK d 8) s = 0
   ·rw [if_pos h0, if_pos h0]
   ·rw [if_neg h0, if_neg h0, if_neg (fun h => h.1 rfl)]
 have e1 : gtE c s (-1) = gtE b s (-1) := by rw [e, e, h]
 refine ⟨e1, ?_⟩
 unfold gtH
 rw [e1, h]
end
end Go.Proofs.YtifmemombecoaaaGreatDoor
