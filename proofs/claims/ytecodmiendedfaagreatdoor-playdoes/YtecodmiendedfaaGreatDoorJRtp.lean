/-
  Parts of the proofs, joined by program.
-/
import Derived.Test.YtecodmiendedfaaGreatDoorJChp
import Derived.Test.YtecodmiendedfaaGreatDoorJImp
import Derived.Test.YtecodmiendedfaaGreatDoorJHal
namespace Go.Proofs.YtecodmiendedfaaGreatDoor
open Go.RowKit
set_option linter.unusedVariables false
def isAtR (b : List Int) (s : ByteArray) (i : Nat) : Bool := decide ((readOut ((rowAt b i).take 8)).2 = 0) && decide ((readOut ((rowAt b i).take 8)).1 = s)
def plR (b : List Int) (s : ByteArray) : Nat := fstN (isAtR b s) 8
def frR (b : List Int) : Nat := fstN (fun i => !isRoot (rowAt b i)) 8
def seI (b : List Int) (s : ByteArray) : Nat := if plR b s < 8 then plR b s else frR b
def seE (b : List Int) (s : ByteArray) (h : Int) : Int := if nameB s = false then 2 else if chkE b h ≠ 0 then chkE b h else if seI b s = 8 then 4 else 0
def seB (b : List Int) (s : ByteArray) (h : Int) : List Int := prL b (seI b s) (s, h)
def seN (b : List Int) (s : ByteArray) : Bool := decide (plR b s = 8)
def unE (b : List Int) (s : ByteArray) : Int := if nameB s = false then 2 else if plR b s = 8 then 5 else 0
def unB (b : List Int) (s : ByteArray) : List Int := splice b (200 + 11 * plR b s) (zerosB 11)
theorem plR_first (b : List Int) (s : ByteArray) : First (isAtR b s) 8 (plR b s) := first_fstN _ _
theorem frR_first (b : List Int) : First (fun i => !isRoot (rowAt b i)) 8 (frR b) := first_fstN _ _
theorem plR_le (b : List Int) (s : ByteArray) : plR b s <= 8 := (plR_first b s).1
theorem frR_le (b : List Int) : frR b <= 8 := (frR_first b).1
theorem seI_le (b : List Int) (s : ByteArray) : seI b s <= 8 := by
 unfold seI
 split
 ·exact plR_le b s
 ·exact frR_le b
theorem se_put {b : List Int} (hf : Fine b) {s : ByteArray} {h : Int} (h0 : seE b s h = 0) : prE b (seI b s) (s, h) = 0 /\ seI b s < 8 /\ nameB s = true /\ chkE b h = 0 := by
 unfold seE at h0
 cases hn : nameB s with
 | false => rw [hn, if_pos rfl] at h0; exact absurd h0 (by decide)
 | true =>
  rw [hn, if_neg (by simp)] at h0
  by_cases hc : chkE b h = 0
  ·rw [if_neg (fun h => h hc)] at h0
   by_cases hi : seI b s = 8
   ·rw [if_pos hi] at h0; exact absurd h0 (by decide)
   ·have hle := seI_le b s
    obtain ⟨q1, q2, q3⟩ := chkE_zero.1 hc
    have hh := hndB_iff.1 q2
    refine ⟨prE_zero.2 ⟨hf.len0, by omega, by omega, ?_⟩, by omega, rfl, hc⟩
    unfold rowRE
    have hnr : ¬ noRoot (s, h) = true := fun hx => by have := (noRoot_iff.1 hx).2; dsimp only at this; omega
    rw [if_neg hnr, if_neg (by rw [q2]; simp), if_pos hn]
  ·rw [if_pos hc] at h0; exact absurd h0 hc
def frE (L : List Int) (h : Int) : Int := if chkE L h ≠ 0 then chkE L h else if (rootsK L 8).any (fun r => r.2 == h) = true then 7 else 0
def frB (L : List Int) (h : Int) : List Int := if frE L h = 0 then dropL L h else L
theorem frE_zero {L : List Int} {h : Int} : frE L h = 0 ↔ chkE L h = 0 /\ (rootsK L 8).any (fun r => r.2 == h) = false := by
 unfold frE
 by_cases h0 : chkE L h = 0
 ·rw [if_neg (fun h => h h0)]
  cases h1 : (rootsK L 8).any (fun r => r.2 == h) with
  | true => rw [if_pos rfl]; exact ⟨fun h => absurd h (by decide), fun h => by cases h.2⟩
  | false => rw [if_neg (by simp)]; exact ⟨fun _ => ⟨h0, rfl⟩, fun _ => rfl⟩
 ·rw [if_pos h0]
  exact ⟨fun h => absurd h h0, fun h => absurd h.1 h0⟩
theorem mem_rootsK8 {b : List Int} : ∀ {k i : Nat}, i < k -> isRoot (rowAt b i) = true -> rootOf (rowAt b i) ∈ rootsK b k
 | 0, i, h, _ => absurd h (Nat.not_lt_zero i)
 | k + 1, i, h, hr => by
  unfold rootsK
  by_cases e : i = k
  ·subst e
   rw [if_pos hr]
   simp
  ·exact List.mem_append.2 (.inl (mem_rootsK8 (by omega) hr))
theorem drop_ok {L : List Int} (hf : Fine L) {h : Int} (h0 : frE L h = 0) : Fine (dropL L h) := by
 obtain ⟨h1, h2⟩ := frE_zero.1 h0
 refine (drop_fine hf h1 (fun i hi hr e => ?_)).1
 have hm := mem_rootsK8 hi hr
 have := List.any_eq_false.1 h2 _ hm
 apply this
 rw [beq_iff_eq]
 exact e
theorem byt_drop {L : List Int} (hb : Byt L) (h : Int) : Byt (dropL L h) := by
 unfold dropL
 split
 ·exact byt_splice hb (byt_zerosB 5)
 ·exact fun z hz => (by cases hz)
section
variable {b c : List Int}
theorem nmsK_mem {x : ByteArray} : ∀ {k : Nat}, x ∈ nmsK b k -> ∃ i, i < k /\ isRoot (rowAt b i) = true /\ nameAt b i = x
 | 0, h => by cases h
 | k + 1, h => by
  have h' : x ∈ nmsK b k ++ if fineR b k (nmsK b k) = true then [nameAt b k] else [] := h
  rcases List.mem_append.1 h' with h1 | h1
  ·obtain ⟨i, hi, hr⟩ := nmsK_mem h1
   exact ⟨i, by omega, hr⟩
  ·by_cases hf : fineR b k (nmsK b k) = true
   ·rw [if_pos hf] at h1
    have hf' := hf
    unfold fineR at hf'
    rw [Bool.and_eq_true] at hf'
    exact ⟨k, by omega, hf'.1, (List.mem_singleton.1 h1).symm⟩
   ·rw [if_neg hf] at h1; cases h1
theorem nmsK_all (hf : ∀ i, i < 8 -> rFault b i = []) {i k : Nat} (hi : i < k) (hk : k <= 8) (hr : isRoot (rowAt b i) = true) : nameAt b i ∈ nmsK b k := by
 induction k with
 | zero => omega
 | succ k ih =>
  show nameAt b i ∈ nmsK b k ++ if fineR b k (nmsK b k) = true then [nameAt b k] else []
  by_cases e : i = k
  ·subst e
   rcases rFault_nil.1 (hf i (by omega)) with h0 | h0
   ·rw [h0] at hr; cases hr
   ·rw [if_pos h0]; simp
  ·exact List.mem_append.2 (.inl (ih (by omega) (by omega)))
theorem rFault_iff : (∀ i, i < 8 -> rFault b i = []) ↔ (∀ i, i < 8 -> isRoot (rowAt b i) = true -> badR b i = false) /\ ∀ i j, i < j -> j < 8 -> isRoot (rowAt b i) = true -> isRoot (rowAt b j) = true -> nameAt b i ≠ nameAt b j := by
 haveI := ba_lawful
 constructor
 ·intro hf
  have hfine : ∀ i, i < 8 -> isRoot (rowAt b i) = true -> badR b i = false /\ (nmsK b i).contains (nameAt b i) = false := fun i hi hr => by
   rcases rFault_nil.1 (hf i hi) with h0 | h0
   ·rw [h0] at hr; cases hr
   ·unfold fineR at h0
    rw [Bool.and_eq_true, Bool.and_eq_true, Bool.not_eq_true', Bool.not_eq_true'] at h0
    exact h0.2
  refine ⟨fun i hi hr => (hfine i hi hr).1, fun i j hij hj hi hr e => ?_⟩
  have h1 := (hfine j hj hr).2
  rw [<- e, List.contains_iff_mem.2 (nmsK_all hf hij (by omega) hi)] at h1
  cases h1
 ·rintro ⟨h1, h2⟩ i hi
  refine rFault_nil.2 ?_
  cases hr : isRoot (rowAt b i) with
  | false => exact .inl rfl
  | true =>
   refine .inr ?_
   unfold fineR
   rw [hr, h1 i hi hr]
   cases hc : (nmsK b i).contains (nameAt b i) with
   | false => rfl
   | true =>
    obtain ⟨j, hj, hjr, e⟩ := nmsK_mem (List.contains_iff_mem.1 hc)
    exact absurd e (h2 j i hj hi hjr hr)
theorem mem_rootsK_iff {r : (ByteArray × Int)} : ∀ {k : Nat}, r ∈ rootsK b k ↔ ∃ i, i < k /\ isRoot (rowAt b i) = true /\ rootOf (rowAt b i) = r
 | 0 => by simp [rootsK]
 | k + 1 => by
  constructor
  ·intro h
   have h' : r ∈ rootsK b k ++ if isRoot (rowAt b k) = true then [rootOf (rowAt b k)] else [] := h
   rcases List.mem_append.1 h' with h1 | h1
   ·obtain ⟨i, hi, hr⟩ := mem_rootsK_iff.1 h1
    exact ⟨i, by omega, hr⟩
   ·by_cases hr : isRoot (rowAt b k) = true
    ·rw [if_pos hr] at h1
     exact ⟨k, by omega, hr, (List.mem_singleton.1 h1).symm⟩
    ·rw [if_neg hr] at h1; cases h1
  ·rintro ⟨i, hi, hr, rfl⟩
   exact mem_rootsK8 hi hr
theorem row_zeros {l : List Int} (h : isRoot l = false) (hl : l.length = 11) : l = zerosB 11 := by
 apply List.ext_getElem
 ·rw [hl, length_zerosB]
 ·intro i h1 h2
  have := List.any_eq_false.1 h l[i] (List.getElem_mem h1)
  have e : l[i] = 0 := by simpa using this
  rw [e]
  exact (List.getElem_replicate ..).symm
theorem readOut_zeros : (readOut ((zerosB 11).take 8)).2 = 2 := by decide
theorem isAtR_iff (hf : Fine b) {s : ByteArray} {i : Nat} (hi : i < 8) : isAtR b s i = true ↔ isRoot (rowAt b i) = true /\ nameAt b i = s := by
 have hl := hf.len
 unfold isAtR
 rw [Bool.and_eq_true, decide_eq_true_iff, decide_eq_true_iff]
 constructor
 ·rintro ⟨h1, h2⟩
  cases hr : isRoot (rowAt b i) with
  | true => exact ⟨rfl, h2⟩
  | false =>
   rw [row_zeros hr (rowAt_len (by omega)), readOut_zeros] at h1
   cases h1
 ·rintro ⟨h1, h2⟩
  have := (rFault_iff.1 (faults_iff.1 hf.ok).2).1 i hi h1
  exact ⟨(badR_no.1 this).1, h2⟩
theorem lead_obj (hf : Fine b) {i : Nat} (hi : i < 8) (hr : isRoot (rowAt b i) = true) : 1 <= (rowAt b i).getD 10 0 /\ (rowAt b i).getD 10 0 <= 40 /\ tagAt b ((rowAt b i).getD 10 0) ≠ 0 := by
 obtain ⟨_, _, _, h4, h5⟩ := badR_no.1 ((rFault_iff.1 (faults_iff.1 hf.ok).2).1 i hi hr)
 have := hndB_iff.1 h4
 exact ⟨this.1, this.2, (wh_one.1 h5).1⟩
structure Row1 (b c : List Int) (i : Nat) (r : List Int) : Prop where
 lt : i < 8
 len : c.length = b.length
 here : rowAt c i = r
 else_ : ∀ j, j < 8 -> j ≠ i -> rowAt c j = rowAt b j
 ents : ∀ h, 1 <= h -> h <= 40 -> tagAt c h = tagAt b h /\ entOf c h = entOf b h
 tail : ∀ j, 288 <= j -> c.getD j 0 = b.getD j 0
theorem row1_splice (hl : 288 <= b.length) {i : Nat} (hi : i < 8) {r : List Int} (hr : r.length = 11) : Row1 b (splice b (200 + 11 * i) r) i r := by
 have hfit : 200 + 11 * i + r.length <= b.length := by omega
 have hlen := length_splice hfit
 refine ⟨hi, hlen, rowAt_in hr (by omega), fun j hj hne => rowAt_out hfit (by omega) (by omega), fun h h1 h2 => ?_, fun j hj => splice_out hfit (by omega)⟩
 have hp := plc_le h1 h2
 exact entOf_same hlen hl h1 h2 (fun j hj => splice_out hfit (by omega))
theorem Row1.hands {i : Nat} {r : List Int} (t : Row1 b c i r) (hf : Fine b) : (∀ h, 1 <= h -> h <= 40 -> hFault c h = []) /\ ∀ h, 1 <= h -> h <= 40 -> whE c h = whE b h := by
 have hw := wh_same t.len t.ents
 refine ⟨fun h h1 h2 => ?_, hw⟩
 obtain ⟨e1, e2⟩ := t.ents h h1 h2
 have := hFault_nil.1 ((faults_iff.1 hf.ok).1 h h1 h2)
 exact hFault_nil.2 (by rw [hw h h1 h2, e1, e2]; exact this)
theorem Row1.fine_none {i : Nat} (t : Row1 b c i (zerosB 11)) (hf : Fine b) : Fine c := by
 obtain ⟨h1, hw⟩ := t.hands hf
 obtain ⟨r1, r2⟩ := rFault_iff.1 (faults_iff.1 hf.ok).2
 have hroot : ∀ j, j < 8 -> isRoot (rowAt c j) = true -> j ≠ i /\ isRoot (rowAt b j) = true := fun j hj hr => by
  by_cases e : j = i
  ·subst e; rw [t.here, isRoot_zeros] at hr; cases hr
  ·rw [t.else_ j hj e] at hr; exact ⟨e, hr⟩
 refine ⟨by rw [t.len]; exact hf.len, faults_iff.2 ⟨h1, rFault_iff.2 ⟨fun j hj hr => ?_, fun j k hjk hk hj hr => ?_⟩⟩⟩
 ·obtain ⟨hne, hb⟩ := hroot j hj hr
  obtain ⟨q1, q2, q3, q4, q5⟩ := badR_no.1 (r1 j hj hb)
  have hx := hndB_iff.1 q4
  refine badR_no.2 ?_
  rw [t.else_ j hj hne]
  exact ⟨q1, q2, q3, q4, by rw [hw _ hx.1 hx.2]; exact q5⟩
 ·obtain ⟨n1, b1⟩ := hroot j (by omega) hj
  obtain ⟨n2, b2⟩ := hroot k hk hr
  have := r2 j k hjk hk b1 b2
  unfold nameAt at this ⊢
  rw [t.else_ j (by omega) n1, t.else_ k hk n2]
  exact this
theorem Row1.fine_root {i : Nat} {s : ByteArray} {h : Int} (t : Row1 b c i (rowR (s, h))) (hf : Fine b) (hn : nameB s = true) (hc : chkE b h = 0) (hno : ∀ j, j < 8 -> j ≠ i -> isRoot (rowAt b j) = true -> nameAt b j ≠ s) :
  Fine c /\ isRoot (rowAt c i) = true /\ nameAt c i = s /\ (rowAt c i).getD 10 0 = h := by
 obtain ⟨h1, hw⟩ := t.hands hf
 obtain ⟨r1, r2⟩ := rFault_iff.1 (faults_iff.1 hf.ok).2
 obtain ⟨q1, q2, q3⟩ := chkE_zero.1 hc
 have hh := hndB_iff.1 q2
 have hnr : ¬ noRoot (s, h) = true := fun hx => by have := (noRoot_iff.1 hx).2; dsimp only at this; omega
 have hre : rowRE (s, h) = 0 := by unfold rowRE; rw [if_neg hnr, if_neg (by rw [q2]; simp), if_pos hn]
 obtain ⟨g1, g2⟩ := rootOf_rowR hre hnr
 have hi := t.here
 have e1 : nameAt c i = s := by unfold nameAt; rw [hi]; exact congrArg Prod.fst g2
 have e2 : (rowAt c i).getD 10 0 = h := by rw [hi]; exact congrArg Prod.snd g2
 have hok := nameB_iff.1 hn
 have hrow : rowR (s, h) = nameL s ++ [0, 0, h % 256] := by unfold rowR; rw [if_neg hnr]
 have hl8 := length_nameL s hok.2.1
 have hread : (readOut ((rowR (s, h)).take 8)).2 = 0 := by
  rw [hrow, List.take_append_of_le_length (by omega), List.take_of_length_le (by omega)]
  have f1 : lettersN (nameL s) = s.size := (first_fstN _ _).unique (nameL_first s hok)
  have f2 : zerosN (nameL s) s.size = 8 - s.size := (first_fstN _ _).unique (nameL_zeros s hok.2.1)
  unfold readOut
  rw [if_neg (fun h => h hl8), f1, f2, hl8, if_neg (by have := hok.1; omega)]
 have hbad : badR c i = false := by
  refine badR_no.2 ?_
  rw [e2, hi]
  refine ⟨hread, ?_, ?_, q2, ?_⟩
  ·rw [hrow, List.getD, List.getElem?_append_right (by omega), hl8]; rfl
  ·rw [hrow, List.getD, List.getElem?_append_right (by omega), hl8]; rfl
  ·rw [hw h hh.1 hh.2]
   exact (hf.hand hh.1 hh.2 q3).1
 refine ⟨⟨by rw [t.len]; exact hf.len, faults_iff.2 ⟨h1, rFault_iff.2 ⟨fun j hj hr => ?_, fun j k hjk hk hj hr => ?_⟩⟩⟩, by rw [hi]; exact g1, e1, e2⟩
 ·by_cases e : j = i
  ·subst e; exact hbad
  ·have hb : isRoot (rowAt b j) = true := by rw [<- t.else_ j hj e]; exact hr
   obtain ⟨p1, p2, p3, p4, p5⟩ := badR_no.1 (r1 j hj hb)
   have hx := hndB_iff.1 p4
   refine badR_no.2 ?_
   rw [t.else_ j hj e]
   exact ⟨p1, p2, p3, p4, by rw [hw _ hx.1 hx.2]; exact p5⟩
 ·have key : ∀ j, j < 8 -> j ≠ i -> isRoot (rowAt c j) = true -> isRoot (rowAt b j) = true /\ nameAt c j = nameAt b j := fun j hj e hr => by
   have he := t.else_ j hj e
   exact ⟨by rw [<- he]; exact hr, by unfold nameAt; rw [he]⟩
  by_cases ej : j = i
  ·subst ej
   obtain ⟨k1, k2⟩ := key k hk (by omega) hr
   rw [e1, k2]
   exact fun e => hno k hk (by omega) k1 e.symm
  ·obtain ⟨j1, j2⟩ := key j (by omega) ej hj
   by_cases ek : k = i
   ·subst ek
    rw [e1, j2]
    exact hno j (by omega) ej j1
   ·obtain ⟨k1, k2⟩ := key k hk ek hr
    rw [j2, k2]
    exact r2 j k hjk hk j1 k1
end
section
variable {b c : List Int} {s : ByteArray} {h : Int}
theorem pl_only (hf : Fine b) {i : Nat} (hi : i < 8) (hr : isRoot (rowAt b i) = true) (hn : nameAt b i = s) : plR b s = i := by
 have hp := plR_first b s
 have h1 := (isAtR_iff hf hi).2 ⟨hr, hn⟩
 have hle : plR b s <= i := Nat.le_of_not_lt fun hlt => by
  have := hp.2.1 i hlt
  rw [h1] at this
  cases this
 refine Classical.byContradiction fun hne => ?_
 obtain ⟨g1, g2⟩ := (isAtR_iff hf (show plR b s < 8 by omega)).1 (hp.2.2 (by omega))
 exact (rFault_iff.1 (faults_iff.1 hf.ok).2).2 _ i (by omega) hi g1 hr (by rw [g2, hn])
theorem se_row (hf : Fine b) (h0 : seE b s h = 0) : Row1 b (seB b s h) (seI b s) (rowR (s, h)) := by
 obtain ⟨h1, h2, h3, h4⟩ := se_put hf h0
 obtain ⟨_, _, _, q4⟩ := prE_zero.1 h1
 have e : seB b s h = splice b (200 + 11 * seI b s) (rowR (s, h)) := by unfold seB prL; rw [if_pos h1, Int.toNat_natCast]
 rw [e]
 exact row1_splice hf.len.1 h2 (rowR_len q4)
theorem se_no (hf : Fine b) (h0 : seE b s h = 0) : ∀ j, j < 8 -> j ≠ seI b s -> isRoot (rowAt b j) = true -> nameAt b j ≠ s := fun j hj hne hr e => by
 have hp := pl_only hf hj hr e
 apply hne
 unfold seI
 rw [hp, if_pos hj]
theorem se_fine (hf : Fine b) (h0 : seE b s h = 0) : Fine (seB b s h) /\ isRoot (rowAt (seB b s h) (seI b s)) = true /\ nameAt (seB b s h) (seI b s) = s /\ (rowAt (seB b s h) (seI b s)).getD 10 0 = h := by
 obtain ⟨_, _, h3, h4⟩ := se_put hf h0
 exact (se_row hf h0).fine_root hf h3 h4 (se_no hf h0)
theorem un_zero (h0 : unE b s = 0) : nameB s = true /\ plR b s < 8 := by
 unfold unE at h0
 have := plR_le b s
 cases hn : nameB s with
 | false => rw [hn, if_pos rfl] at h0; exact absurd h0 (by decide)
 | true =>
  rw [hn, if_neg (by simp)] at h0
  by_cases h8 : plR b s = 8
  ·rw [if_pos h8] at h0; exact absurd h0 (by decide)
  ·exact ⟨rfl, by omega⟩
theorem un_row (hf : Fine b) (h0 : unE b s = 0) : Row1 b (unB b s) (plR b s) (zerosB 11) := row1_splice hf.len.1 (un_zero h0).2 (length_zerosB 11)
theorem un_fine (hf : Fine b) (h0 : unE b s = 0) : Fine (unB b s) := (un_row hf h0).fine_none hf
end
theorem readOut_name {s : ByteArray} (h : NameOk s) : readOut (nameL s) = (s, 0) := by
 have hl := length_nameL s h.2.1
 have f1 : lettersN (nameL s) = s.size := (first_fstN _ _).unique (nameL_first s h)
 have f2 : zerosN (nameL s) s.size = 8 - s.size := (first_fstN _ _).unique (nameL_zeros s h.2.1)
 unfold readOut
 rw [if_neg (fun h => h hl), f1, f2, hl, if_neg (by have := h.1; omega), nameL_take]
theorem readOut_ok {l : List Int} (hb : Byt l) (h0 : (readOut l).2 = 0) : l.length = 8 /\ NameOk (readOut l).1 /\ nameL (readOut l).1 = l := by
 unfold readOut at h0 ⊢
 by_cases hl : l.length = 8
 ·rw [if_neg (fun h => h hl)] at h0 ⊢
  by_cases hc : lettersN l = 0 \/ zerosN l (lettersN l) < l.length - lettersN l
  ·rw [if_pos hc] at h0; exact absurd h0 (by decide)
  ·rw [if_neg hc]
   have hf : First (fun j => (!ltr (l.getD j 0))) l.length (lettersN l) := first_fstN _ _
   have hz : First (fun j => ((l.drop (lettersN l)).getD j 0 != 0)) (l.drop (lettersN l)).length (zerosN l (lettersN l)) := first_fstN _ _
   generalize lettersN l = n at *
   generalize zerosN l n = z at *
   have hn8 : n <= 8 := by have := hf.1; omega
   have hbt : Byt (l.take n) := fun x hx => hb x (List.mem_of_mem_take hx)
   have hsl : strL (strOf (l.take n)) = l.take n := strL_strOf _ hbt
   have hsz : (strOf (l.take n)).size = n := by rw [<- length_strL, hsl, List.length_take]; omega
   refine ⟨hl, ⟨by rw [hsz]; omega, by rw [hsz]; exact hn8, ?_⟩, ?_⟩
   ·rw [hsz]
    refine ⟨Nat.le_refl _, fun j hj => ?_, fun h => absurd h (Nat.lt_irrefl _)⟩
    have := hf.2.1 j hj
    dsimp only at this ⊢
    rw [hsl]
    rw [show (l.take n).getD j 0 = l.getD j 0 by simp [List.getD, hj]]
    exact this
   ·have hdl : (l.drop n).length = 8 - n := by rw [List.length_drop]; omega
    have hz8 : z = 8 - n := by have := hz.1; omega
    apply ext_getD
    ·rw [length_nameL _ (by rw [hsz]; exact hn8), hl]
    ·intro j hj
     by_cases hjn : j < n
     ·rw [nameL_lo _ j (by rw [hsz]; exact hjn), hsl]
      simp [List.getD, hjn]
     ·rw [nameL_hi _ j (by rw [hsz]; omega)]
      rw [length_nameL _ (by rw [hsz]; exact hn8)] at hj
      have := hz.2.1 (j - n) (by omega)
      simp [List.getD] at this
      rw [show n + (j - n) = j by omega] at this
      simpa [List.getD] using this.symm
 ·rw [if_pos hl] at h0; exact absurd h0 (by decide)
def isL (b l : List Int) (i : Nat) : Bool := decide ((rowAt b i).take 8 = l)
def plL (b l : List Int) : Nat := fstN (isL b l) 8
theorem plL_first (b l : List Int) : First (isL b l) 8 (plL b l) := first_fstN _ _
theorem isL_name {b : List Int} {s : ByteArray} (hb : Byt b) (hn : nameB s = true) (i : Nat) : isL b (nameL s) i = isAtR b s i := by
 have hbt : Byt ((rowAt b i).take 8) := fun x hx => hb x (by
  have h1 := List.mem_of_mem_take hx
  unfold rowAt at h1
  exact List.mem_of_mem_drop (List.mem_of_mem_take h1))
 rw [Bool.eq_iff_iff]
 unfold isL isAtR
 rw [decide_eq_true_iff, Bool.and_eq_true, decide_eq_true_iff, decide_eq_true_iff]
 constructor
 ·intro h
  rw [h, readOut_name (nameB_iff.1 hn)]
  exact ⟨rfl, rfl⟩
 ·rintro ⟨h1, h2⟩
  have := (readOut_ok hbt h1).2.2
  rw [h2] at this
  exact this.symm
theorem plL_name {b : List Int} {s : ByteArray} (hb : Byt b) (hn : nameB s = true) : plL b (nameL s) = plR b s := by
 unfold plL plR
 rw [show isL b (nameL s) = isAtR b s from funext (isL_name hb hn)]
theorem isL_zero {b : List Int} (hf : Fine b) {i : Nat} (hi : i < 8) : isL b (zerosB 8) i = !isRoot (rowAt b i) := by
 have hl := hf.len
 unfold isL
 cases hr : isRoot (rowAt b i) with
 | false =>
  rw [row_zeros hr (rowAt_len (by omega))]
  decide
 | true =>
  have := (badR_no.1 ((rFault_iff.1 (faults_iff.1 hf.ok).2).1 i hi hr)).1
  rw [decide_eq_false_iff_not.2 (fun e => by rw [e] at this; exact absurd this (by decide))]
  rfl
theorem plL_zero {b : List Int} (hf : Fine b) : plL b (zerosB 8) = frR b := by
 have h := frR_first b
 refine (plL_first b _).unique ⟨h.1, fun j hj => ?_, fun hj => ?_⟩
 ·rw [isL_zero hf (by have := h.1; omega)]
  exact h.2.1 j hj
 ·rw [isL_zero hf hj]
  exact h.2.2 hj
def seO (b : List Int) (s : ByteArray) (h : Int) : Bool := decide (seE b s h = 0) && seN b s
def seF (b : List Int) (s : ByteArray) (h : Int) : List Int := if seE b s h = 0 then seB b s h else b
def unF (b : List Int) (s : ByteArray) : List Int := if unE b s = 0 then unB b s else b
theorem un_put {b : List Int} (hf : Fine b) {i : Nat} (hi : i < 8) : prE b i (({ data := #[] } : ByteArray), 0) = 0 /\ prL b i (({ data := #[] } : ByteArray), 0) = splice b (200 + 11 * i) (zerosB 11) := by
 have hr : rowRE (({ data := #[] } : ByteArray), 0) = 0 := by decide
 have hp : prE b i (({ data := #[] } : ByteArray), 0) = 0 := prE_zero.2 ⟨hf.len0, by omega, by omega, hr⟩
 refine ⟨hp, ?_⟩
 unfold prL
 rw [if_pos hp, Int.toNat_natCast]
 rfl
theorem se_img {b : List Int} (hf : Fine b) {s : ByteArray} {h : Int} (h0 : seE b s h = 0) : prL b (seI b s) (s, h) = seB b s h /\ Fine (prL b (seI b s) (s, h)) := ⟨rfl, (se_fine hf h0).1⟩
section
variable {L : List Int} {n t : Int}
end
end Go.Proofs.YtecodmiendedfaaGreatDoor
