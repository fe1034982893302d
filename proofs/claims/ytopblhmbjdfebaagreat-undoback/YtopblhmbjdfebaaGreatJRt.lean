/-
  Joined by program: RtPlain; RtRows; RtLead; NmPlain; RtCode; MvPlain; MvSort; MvEnd; MvCode; WyPlain; WyPass; Bf0; RePlain; WyOne; SwPlain; OpPlain; OpRow; InC. (Parts of the proofs over the packages of the program.)
-/
import Derived.Test.YtopblhmbjdfebaaGreatJHp
import Derived.Test.YtopblhmbjdfebaaGreatImPlain
import Derived.Test.YtopblhmbjdfebaaGreatBase
import Derived.Test.YtopblhmbjdfebaaGreatOpenOps
import Derived.Test.YtopblhmbjdfebaaGreatImRow
/-! What Set, Unset of roots answer, as plain lists. (Part of the proofs over roots.) -/
namespace Go.Proofs.YtopblhmbjdfebaaGreat
open Go.RowKit
set_option linter.unusedVariables false

/-- Is a name at a place? -/
def isAtR (b : List Int) (s : ByteArray) (i : Nat) : Bool := decide ((readOut ((rowAt b i).take 8)).2 = 0) && decide ((readOut ((rowAt b i).take 8)).1 = s)
/-- The place of a name; 8: it is nowhere. -/
def plR (b : List Int) (s : ByteArray) : Nat := fstN (isAtR b s) 8
/-- The first place that has none; 8: there is none. -/
def frR (b : List Int) : Nat := fstN (fun i => !isRoot (rowAt b i)) 8
/-- Where a root of that name is set. -/
def seI (b : List Int) (s : ByteArray) : Nat := if plR b s < 8 then plR b s else frR b
/-- Why it cannot be set. -/
def seE (b : List Int) (s : ByteArray) (h : Int) : Int := if nameB s = false then 2 else if chkE b h ≠ 0 then chkE b h else if seI b s = 8 then 4 else 0
/-- The image behind it. -/
def seB (b : List Int) (s : ByteArray) (h : Int) : List Int := prL b (seI b s) (s, h)
/-- Is it new? -/
def seN (b : List Int) (s : ByteArray) : Bool := decide (plR b s = 8)
def unE (b : List Int) (s : ByteArray) : Int := if nameB s = false then 2 else if plR b s = 8 then 5 else 0
def unB (b : List Int) (s : ByteArray) : List Int := splice b (200 + 11 * plR b s) (zerosB 11)
theorem plR_first (b : List Int) (s : ByteArray) : First (isAtR b s) 8 (plR b s) := first_fstN _ _
theorem frR_first (b : List Int) : First (fun i => !isRoot (rowAt b i)) 8 (frR b) := first_fstN _ _
theorem plR_le (b : List Int) (s : ByteArray) : plR b s ≤ 8 := (plR_first b s).1
theorem frR_le (b : List Int) : frR b ≤ 8 := (frR_first b).1
theorem seI_le (b : List Int) (s : ByteArray) : seI b s ≤ 8 := by
  unfold seI
  split
  · exact plR_le b s
  · exact frR_le b
/-- The root that is set is one that may be put. -/
theorem se_put {b : List Int} (hf : Fine b) {s : ByteArray} {h : Int} (h0 : seE b s h = 0) : prE b (seI b s) (s, h) = 0 ∧ seI b s < 8 ∧ nameB s = true ∧ chkE b h = 0 := by
  unfold seE at h0
  cases hn : nameB s with
  | false => rw [hn, if_pos rfl] at h0; exact absurd h0 (by decide)
  | true =>
    rw [hn, if_neg (by simp)] at h0
    by_cases hc : chkE b h = 0
    · rw [if_neg (fun h => h hc)] at h0
      by_cases hi : seI b s = 8
      · rw [if_pos hi] at h0; exact absurd h0 (by decide)
      · have hle := seI_le b s
        obtain ⟨q1, q2, q3⟩ := chkE_zero.1 hc
        have hh := hndB_iff.1 q2
        refine ⟨prE_zero.2 ⟨hf.len0, by omega, by omega, ?_⟩, by omega, rfl, hc⟩
        unfold rowRE
        have hnr : ¬ noRoot (s, h) = true := fun hx => by have := (noRoot_iff.1 hx).2; dsimp only at this; omega
        rw [if_neg hnr, if_neg (by rw [q2]; simp), if_pos hn]
    · rw [if_pos hc] at h0; exact absurd h0 hc
end Go.Proofs.YtopblhmbjdfebaaGreat
/-! Roots row by row: what an image that is right says of them; one row turned; as plain lists. (Part of the proofs over roots.) -/
namespace Go.Proofs.YtopblhmbjdfebaaGreat
open Go.RowKit
set_option linter.unusedVariables false

section
variable {b c : List Int}
theorem nmsK_mem {x : ByteArray} : ∀ {k : Nat}, x ∈ nmsK b k → ∃ i, i < k ∧ isRoot (rowAt b i) = true ∧ nameAt b i = x
  | 0, h => by cases h
  | k + 1, h => by
    have h' : x ∈ nmsK b k ++ if fineR b k (nmsK b k) = true then [nameAt b k] else [] := h
    rcases List.mem_append.1 h' with h1 | h1
    · obtain ⟨i, hi, hr⟩ := nmsK_mem h1
      exact ⟨i, by omega, hr⟩
    · by_cases hf : fineR b k (nmsK b k) = true
      · rw [if_pos hf] at h1
        have hf' := hf
        unfold fineR at hf'
        rw [Bool.and_eq_true] at hf'
        exact ⟨k, by omega, hf'.1, (List.mem_singleton.1 h1).symm⟩
      · rw [if_neg hf] at h1; cases h1
theorem nmsK_all (hf : ∀ i, i < 8 → rFault b i = []) {i k : Nat} (hi : i < k) (hk : k ≤ 8) (hr : isRoot (rowAt b i) = true) : nameAt b i ∈ nmsK b k := by
  induction k with
  | zero => omega
  | succ k ih =>
    show nameAt b i ∈ nmsK b k ++ if fineR b k (nmsK b k) = true then [nameAt b k] else []
    by_cases e : i = k
    · subst e
      rcases rFault_nil.1 (hf i (by omega)) with h0 | h0
      · rw [h0] at hr; cases hr
      · rw [if_pos h0]; simp
    · exact List.mem_append.2 (.inl (ih (by omega) (by omega)))
/-- The roots have no fault: each row that is one is right, and no two have one name. -/
theorem rFault_iff : (∀ i, i < 8 → rFault b i = []) ↔ (∀ i, i < 8 → isRoot (rowAt b i) = true → badR b i = false) ∧ ∀ i j, i < j → j < 8 → isRoot (rowAt b i) = true → isRoot (rowAt b j) = true → nameAt b i ≠ nameAt b j := by
  haveI := ba_lawful
  constructor
  · intro hf
    have hfine : ∀ i, i < 8 → isRoot (rowAt b i) = true → badR b i = false ∧ (nmsK b i).contains (nameAt b i) = false := fun i hi hr => by
      rcases rFault_nil.1 (hf i hi) with h0 | h0
      · rw [h0] at hr; cases hr
      · unfold fineR at h0
        rw [Bool.and_eq_true, Bool.and_eq_true, Bool.not_eq_true', Bool.not_eq_true'] at h0
        exact h0.2
    refine ⟨fun i hi hr => (hfine i hi hr).1, fun i j hij hj hi hr e => ?_⟩
    have h1 := (hfine j hj hr).2
    rw [← e, List.contains_iff_mem.2 (nmsK_all hf hij (by omega) hi)] at h1
    cases h1
  · rintro ⟨h1, h2⟩ i hi
    refine rFault_nil.2 ?_
    cases hr : isRoot (rowAt b i) with
    | false => exact .inl rfl
    | true =>
      refine .inr ?_
      unfold fineR
      rw [hr, h1 i hi hr]
      cases hc : (nmsK b i).contains (nameAt b i) with
      | false => rfl
      | true =>
        obtain ⟨j, hj, hjr, e⟩ := nmsK_mem (List.contains_iff_mem.1 hc)
        exact absurd e (h2 j i hj hi hjr hr)
theorem mem_rootsK_iff {r : (ByteArray × Int)} : ∀ {k : Nat}, r ∈ rootsK b k ↔ ∃ i, i < k ∧ isRoot (rowAt b i) = true ∧ rootOf (rowAt b i) = r
  | 0 => by simp [rootsK]
  | k + 1 => by
    constructor
    · intro h
      have h' : r ∈ rootsK b k ++ if isRoot (rowAt b k) = true then [rootOf (rowAt b k)] else [] := h
      rcases List.mem_append.1 h' with h1 | h1
      · obtain ⟨i, hi, hr⟩ := mem_rootsK_iff.1 h1
        exact ⟨i, by omega, hr⟩
      · by_cases hr : isRoot (rowAt b k) = true
        · rw [if_pos hr] at h1
          exact ⟨k, by omega, hr, (List.mem_singleton.1 h1).symm⟩
        · rw [if_neg hr] at h1; cases h1
    · rintro ⟨i, hi, hr, rfl⟩
      exact mem_rootsK8 hi hr
theorem row_zeros {l : List Int} (h : isRoot l = false) (hl : l.length = 11) : l = zerosB 11 := by
  apply List.ext_getElem
  · rw [hl, length_zerosB]
  · intro i h1 h2
    have := List.any_eq_false.1 h l[i] (List.getElem_mem h1)
    have e : l[i] = 0 := by simpa using this
    rw [e]
    exact (List.getElem_replicate ..).symm
theorem readOut_zeros : (readOut ((zerosB 11).take 8)).2 = 2 := by decide
/-- A name is at a place just where there is a root of that name. -/
theorem isAtR_iff (hf : Fine b) {s : ByteArray} {i : Nat} (hi : i < 8) : isAtR b s i = true ↔ isRoot (rowAt b i) = true ∧ nameAt b i = s := by
  have hl := hf.len
  unfold isAtR
  rw [Bool.and_eq_true, decide_eq_true_iff, decide_eq_true_iff]
  constructor
  · rintro ⟨h1, h2⟩
    cases hr : isRoot (rowAt b i) with
    | true => exact ⟨rfl, h2⟩
    | false =>
      rw [row_zeros hr (rowAt_len (by omega)), readOut_zeros] at h1
      cases h1
  · rintro ⟨h1, h2⟩
    have := (rFault_iff.1 (faults_iff.1 hf.ok).2).1 i hi h1
    exact ⟨(badR_no.1 this).1, h2⟩
/-- Where a name leads: the handle of its row. -/
theorem lead_row (hf : Fine b) {s : ByteArray} {i : Nat} (hi : i < 8) (hr : isRoot (rowAt b i) = true) (hn : nameAt b i = s) : leadOf (rootsK b 8) s = (rowAt b i).getD 10 0 := by
  have hap := apart_roots hf.ok
  have hm : (s, (rowAt b i).getD 10 0) ∈ rootsK b 8 := mem_rootsK_iff.2 ⟨i, hi, hr, by unfold rootOf; rw [← hn]; rfl⟩
  exact (lead_mem hap (hap.pos _ hm).1).2 hm
theorem lead_none {s : ByteArray} (hn : ∀ i, i < 8 → isRoot (rowAt b i) = true → nameAt b i ≠ s) : leadOf (rootsK b 8) s = 0 := by
  unfold leadOf
  have : (rootsK b 8).find? (fun r => r.1 == s) = none := List.find?_eq_none.2 (fun r hr => by
    obtain ⟨i, hi, hq, rfl⟩ := mem_rootsK_iff.1 hr
    intro h
    exact hn i hi hq (ba_beq.1 h))
  rw [this]
  rfl
theorem lead_pl (hf : Fine b) (s : ByteArray) : leadOf (rootsK b 8) s = if plR b s < 8 then (rowAt b (plR b s)).getD 10 0 else 0 := by
  have hp := plR_first b s
  by_cases h : plR b s < 8
  · rw [if_pos h]
    obtain ⟨h1, h2⟩ := (isAtR_iff hf h).1 (hp.2.2 h)
    exact lead_row hf h h1 h2
  · rw [if_neg h]
    refine lead_none (fun i hi hr e => ?_)
    have := hp.2.1 i (by omega)
    rw [(isAtR_iff hf hi).2 ⟨hr, e⟩] at this
    cases this
/-- A root leads to an object. -/
theorem lead_obj (hf : Fine b) {i : Nat} (hi : i < 8) (hr : isRoot (rowAt b i) = true) : 1 ≤ (rowAt b i).getD 10 0 ∧ (rowAt b i).getD 10 0 ≤ 40 ∧ tagAt b ((rowAt b i).getD 10 0) ≠ 0 := by
  obtain ⟨_, _, _, h4, h5⟩ := badR_no.1 ((rFault_iff.1 (faults_iff.1 hf.ok).2).1 i hi hr)
  have := hndB_iff.1 h4
  exact ⟨this.1, this.2, (wh_one.1 h5).1⟩
theorem lead_zero (hf : Fine b) (s : ByteArray) : leadOf (rootsK b 8) s = 0 ↔ plR b s = 8 := by
  have hp := plR_first b s
  have hle := plR_le b s
  rw [lead_pl hf]
  constructor
  · intro h
    by_cases h8 : plR b s < 8
    · rw [if_pos h8] at h
      have := lead_obj hf h8 ((isAtR_iff hf h8).1 (hp.2.2 h8)).1
      omega
    · omega
  · intro h
    rw [if_neg (by omega)]
/-- How many roots there are. -/
def cntR (b : List Int) : Nat → Nat
  | 0 => 0
  | k + 1 => cntR b k + if isRoot (rowAt b k) = true then 1 else 0
theorem rootsK_count : ∀ k, (rootsK b k).length = cntR b k
  | 0 => rfl
  | k + 1 => by
    show (rootsK b k ++ _).length = cntR b k + _
    rw [List.length_append, rootsK_count k]
    split <;> rfl
theorem cntR_same : ∀ k, (∀ j, j < k → isRoot (rowAt c j) = isRoot (rowAt b j)) → cntR c k = cntR b k
  | 0, _ => rfl
  | k + 1, h => by
    unfold cntR
    rw [cntR_same k (fun j hj => h j (by omega)), h k (by omega)]
theorem cntR_one {i : Nat} : ∀ k, i < k → (∀ j, j < k → j ≠ i → isRoot (rowAt c j) = isRoot (rowAt b j)) → isRoot (rowAt c i) = true → isRoot (rowAt b i) = false → cntR c k = cntR b k + 1
  | 0, h, _, _, _ => absurd h (Nat.not_lt_zero _)
  | k + 1, h, hs, h1, h2 => by
    unfold cntR
    by_cases e : i = k
    · subst e
      rw [cntR_same i (fun j hj => hs j (by omega) (by omega)), h1, h2]
      simp
    · rw [cntR_one k (by omega) (fun j hj hne => hs j (by omega) hne) h1 h2, hs k (by omega) (fun h => e h.symm)]
      omega

/-! ### one row turned -/
/-- All but the row of one root is as it was. -/
structure Row1 (b c : List Int) (i : Nat) (r : List Int) : Prop where
  lt : i < 8
  len : c.length = b.length
  here : rowAt c i = r
  else_ : ∀ j, j < 8 → j ≠ i → rowAt c j = rowAt b j
  ents : ∀ h, 1 ≤ h → h ≤ 40 → tagAt c h = tagAt b h ∧ entOf c h = entOf b h
  tail : ∀ j, 288 ≤ j → c.getD j 0 = b.getD j 0
theorem row1_splice (hl : 288 ≤ b.length) {i : Nat} (hi : i < 8) {r : List Int} (hr : r.length = 11) : Row1 b (splice b (200 + 11 * i) r) i r := by
  have hfit : 200 + 11 * i + r.length ≤ b.length := by omega
  have hlen := length_splice hfit
  refine ⟨hi, hlen, rowAt_in hr (by omega), fun j hj hne => rowAt_out hfit (by omega) (by omega), fun h h1 h2 => ?_, fun j hj => splice_out hfit (by omega)⟩
  have hp := plc_le h1 h2
  exact entOf_same hlen hl h1 h2 (fun j hj => splice_out hfit (by omega))
theorem Row1.hands {i : Nat} {r : List Int} (t : Row1 b c i r) (hf : Fine b) : (∀ h, 1 ≤ h → h ≤ 40 → hFault c h = []) ∧ ∀ h, 1 ≤ h → h ≤ 40 → whE c h = whE b h := by
  have hw := wh_same t.len t.ents
  refine ⟨fun h h1 h2 => ?_, hw⟩
  obtain ⟨e1, e2⟩ := t.ents h h1 h2
  have := hFault_nil.1 ((faults_iff.1 hf.ok).1 h h1 h2)
  exact hFault_nil.2 (by rw [hw h h1 h2, e1, e2]; exact this)
/-- The row of no root in place of what was there: nothing is wrong. -/
theorem Row1.fine_none {i : Nat} (t : Row1 b c i (zerosB 11)) (hf : Fine b) : Fine c := by
  obtain ⟨h1, hw⟩ := t.hands hf
  obtain ⟨r1, r2⟩ := rFault_iff.1 (faults_iff.1 hf.ok).2
  have hroot : ∀ j, j < 8 → isRoot (rowAt c j) = true → j ≠ i ∧ isRoot (rowAt b j) = true := fun j hj hr => by
    by_cases e : j = i
    · subst e; rw [t.here, isRoot_zeros] at hr; cases hr
    · rw [t.else_ j hj e] at hr; exact ⟨e, hr⟩
  refine ⟨by rw [t.len]; exact hf.len, faults_iff.2 ⟨h1, rFault_iff.2 ⟨fun j hj hr => ?_, fun j k hjk hk hj hr => ?_⟩⟩⟩
  · obtain ⟨hne, hb⟩ := hroot j hj hr
    obtain ⟨q1, q2, q3, q4, q5⟩ := badR_no.1 (r1 j hj hb)
    have hx := hndB_iff.1 q4
    refine badR_no.2 ?_
    rw [t.else_ j hj hne]
    exact ⟨q1, q2, q3, q4, by rw [hw _ hx.1 hx.2]; exact q5⟩
  · obtain ⟨n1, b1⟩ := hroot j (by omega) hj
    obtain ⟨n2, b2⟩ := hroot k hk hr
    have := r2 j k hjk hk b1 b2
    unfold nameAt at this ⊢
    rw [t.else_ j (by omega) n1, t.else_ k hk n2]
    exact this
/-- The row of a right root, whose name no other has. -/
theorem Row1.fine_root {i : Nat} {s : ByteArray} {h : Int} (t : Row1 b c i (rowR (s, h))) (hf : Fine b) (hn : nameB s = true) (hc : chkE b h = 0) (hno : ∀ j, j < 8 → j ≠ i → isRoot (rowAt b j) = true → nameAt b j ≠ s) :
    Fine c ∧ isRoot (rowAt c i) = true ∧ nameAt c i = s ∧ (rowAt c i).getD 10 0 = h := by
  obtain ⟨h1, hw⟩ := t.hands hf
  obtain ⟨r1, r2⟩ := rFault_iff.1 (faults_iff.1 hf.ok).2
  obtain ⟨q1, q2, q3⟩ := chkE_zero.1 hc
  have hh := hndB_iff.1 q2
  have hnr : ¬ noRoot (s, h) = true := fun hx => by have := (noRoot_iff.1 hx).2; dsimp only at this; omega
  have hre : rowRE (s, h) = 0 := by unfold rowRE; rw [if_neg hnr, if_neg (by rw [q2]; simp), if_pos hn]
  obtain ⟨g1, g2⟩ := rootOf_rowR hre hnr
  have hi := t.here
  have e1 : nameAt c i = s := by unfold nameAt; rw [hi]; exact congrArg Prod.fst g2
  have e2 : (rowAt c i).getD 10 0 = h := by rw [hi]; exact congrArg Prod.snd g2
  have hok := nameB_iff.1 hn
  have hrow : rowR (s, h) = nameL s ++ [0, 0, h % 256] := by unfold rowR; rw [if_neg hnr]
  have hl8 := length_nameL s hok.2.1
  have hread : (readOut ((rowR (s, h)).take 8)).2 = 0 := by
    rw [hrow, List.take_append_of_le_length (by omega), List.take_of_length_le (by omega)]
    have f1 : lettersN (nameL s) = s.size := (first_fstN _ _).unique (nameL_first s hok)
    have f2 : zerosN (nameL s) s.size = 8 - s.size := (first_fstN _ _).unique (nameL_zeros s hok.2.1)
    unfold readOut
    rw [if_neg (fun h => h hl8), f1, f2, hl8, if_neg (by have := hok.1; omega)]
  have hbad : badR c i = false := by
    refine badR_no.2 ?_
    rw [e2, hi]
    refine ⟨hread, ?_, ?_, q2, ?_⟩
    · rw [hrow, List.getD, List.getElem?_append_right (by omega), hl8]; rfl
    · rw [hrow, List.getD, List.getElem?_append_right (by omega), hl8]; rfl
    · rw [hw h hh.1 hh.2]
      exact (hf.hand hh.1 hh.2 q3).1
  refine ⟨⟨by rw [t.len]; exact hf.len, faults_iff.2 ⟨h1, rFault_iff.2 ⟨fun j hj hr => ?_, fun j k hjk hk hj hr => ?_⟩⟩⟩, by rw [hi]; exact g1, e1, e2⟩
  · by_cases e : j = i
    · subst e; exact hbad
    · have hb : isRoot (rowAt b j) = true := by rw [← t.else_ j hj e]; exact hr
      obtain ⟨p1, p2, p3, p4, p5⟩ := badR_no.1 (r1 j hj hb)
      have hx := hndB_iff.1 p4
      refine badR_no.2 ?_
      rw [t.else_ j hj e]
      exact ⟨p1, p2, p3, p4, by rw [hw _ hx.1 hx.2]; exact p5⟩
  · have key : ∀ j, j < 8 → j ≠ i → isRoot (rowAt c j) = true → isRoot (rowAt b j) = true ∧ nameAt c j = nameAt b j := fun j hj e hr => by
      have he := t.else_ j hj e
      exact ⟨by rw [← he]; exact hr, by unfold nameAt; rw [he]⟩
    by_cases ej : j = i
    · subst ej
      obtain ⟨k1, k2⟩ := key k hk (by omega) hr
      rw [e1, k2]
      exact fun e => hno k hk (by omega) k1 e.symm
    · obtain ⟨j1, j2⟩ := key j (by omega) ej hj
      by_cases ek : k = i
      · subst ek
        rw [e1, j2]
        exact hno j (by omega) ej j1
      · obtain ⟨k1, k2⟩ := key k hk ek hr
        rw [j2, k2]
        exact r2 j k hjk hk j1 k1
/-- Objects are as they were. -/
theorem Row1.objs {i : Nat} {r : List Int} (t : Row1 b c i r) (hf : Fine b) (h : Int) (h1 : 1 ≤ h) (h2 : h ≤ 40) : objOf c h = objOf b h ∧ chkE c h = chkE b h ∧ getE c h = getE b h := by
  obtain ⟨e1, e2⟩ := t.ents h h1 h2
  refine ⟨obj_same t.len e1 e2 (fun ht j hj _ => t.tail j ?_), ?_, ?_⟩
  · have := (hf.ent h1 h2 ht).1
    omega
  · unfold chkE; rw [t.len, e1]
  · unfold getE chkE; rw [t.len, e1, e2]
end
end Go.Proofs.YtopblhmbjdfebaaGreat
/-! What Set and Unset of roots make of an image that is right: where names lead, how many roots there are; as plain lists. (Part of the proofs over roots.) -/
namespace Go.Proofs.YtopblhmbjdfebaaGreat
open Go.RowKit
set_option linter.unusedVariables false

section
variable {b c : List Int} {s : ByteArray} {h : Int}
/-- The name of a root that is there, at its place alone. -/
theorem pl_only (hf : Fine b) {i : Nat} (hi : i < 8) (hr : isRoot (rowAt b i) = true) (hn : nameAt b i = s) : plR b s = i := by
  have hp := plR_first b s
  have h1 := (isAtR_iff hf hi).2 ⟨hr, hn⟩
  have hle : plR b s ≤ i := Nat.le_of_not_lt fun hlt => by
    have := hp.2.1 i hlt
    rw [h1] at this
    cases this
  refine Classical.byContradiction fun hne => ?_
  obtain ⟨g1, g2⟩ := (isAtR_iff hf (show plR b s < 8 by omega)).1 (hp.2.2 (by omega))
  exact (rFault_iff.1 (faults_iff.1 hf.ok).2).2 _ i (by omega) hi g1 hr (by rw [g2, hn])
theorem pl_none (hf : Fine b) (hn : ∀ i, i < 8 → isRoot (rowAt b i) = true → nameAt b i ≠ s) : plR b s = 8 := by
  have hp := plR_first b s
  have hle := plR_le b s
  refine Classical.byContradiction fun hne => ?_
  obtain ⟨g1, g2⟩ := (isAtR_iff hf (show plR b s < 8 by omega)).1 (hp.2.2 (by omega))
  exact hn _ (by omega) g1 g2
theorem pl_no (hf : Fine b) (h8 : plR b s = 8) : ∀ i, i < 8 → isRoot (rowAt b i) = true → nameAt b i ≠ s := fun i hi hr e => by
  have := pl_only hf hi hr e
  omega
theorem se_row (hf : Fine b) (h0 : seE b s h = 0) : Row1 b (seB b s h) (seI b s) (rowR (s, h)) := by
  obtain ⟨h1, h2, h3, h4⟩ := se_put hf h0
  obtain ⟨_, _, _, q4⟩ := prE_zero.1 h1
  have e : seB b s h = splice b (200 + 11 * seI b s) (rowR (s, h)) := by unfold seB prL; rw [if_pos h1, Int.toNat_natCast]
  rw [e]
  exact row1_splice hf.len.1 h2 (rowR_len q4)
/-- No other root has the name that is set. -/
theorem se_no (hf : Fine b) (h0 : seE b s h = 0) : ∀ j, j < 8 → j ≠ seI b s → isRoot (rowAt b j) = true → nameAt b j ≠ s := fun j hj hne hr e => by
  have hp := pl_only hf hj hr e
  apply hne
  unfold seI
  rw [hp, if_pos hj]
theorem se_fine (hf : Fine b) (h0 : seE b s h = 0) : Fine (seB b s h) ∧ isRoot (rowAt (seB b s h) (seI b s)) = true ∧ nameAt (seB b s h) (seI b s) = s ∧ (rowAt (seB b s h) (seI b s)).getD 10 0 = h := by
  obtain ⟨_, _, h3, h4⟩ := se_put hf h0
  exact (se_row hf h0).fine_root hf h3 h4 (se_no hf h0)
theorem se_lead (hf : Fine b) (h0 : seE b s h = 0) : leadOf (rootsK (seB b s h) 8) s = h := by
  obtain ⟨f, r, n, g⟩ := se_fine hf h0
  rw [lead_row f (se_put hf h0).2.1 r n, g]
theorem seI_cases (b : List Int) (s : ByteArray) : (plR b s < 8 ∧ seI b s = plR b s ∧ seN b s = false) ∨ (plR b s = 8 ∧ seI b s = frR b ∧ seN b s = true) := by
  have := plR_le b s
  unfold seI seN
  by_cases h : plR b s < 8
  · exact .inl ⟨h, if_pos h, decide_eq_false (by omega)⟩
  · exact .inr ⟨by omega, if_neg h, decide_eq_true (by omega)⟩
/-- The row that is turned had a root of that name, or none. -/
theorem se_was (hf : Fine b) (h0 : seE b s h = 0) : (seN b s = false ∧ isRoot (rowAt b (seI b s)) = true ∧ nameAt b (seI b s) = s) ∨ (seN b s = true ∧ isRoot (rowAt b (seI b s)) = false) := by
  have hlt := (se_put hf h0).2.1
  rcases seI_cases b s with ⟨h1, h2, h3⟩ | ⟨h1, h2, h3⟩
  · have := (isAtR_iff hf h1).1 ((plR_first b s).2.2 h1)
    rw [h2]
    exact .inl ⟨h3, this⟩
  · have := (frR_first b).2.2 (by omega)
    rw [h2]
    exact .inr ⟨h3, by simpa using this⟩
theorem se_other (hf : Fine b) (h0 : seE b s h = 0) {t : ByteArray} (ht : t ≠ s) : leadOf (rootsK (seB b s h) 8) t = leadOf (rootsK b 8) t := by
  obtain ⟨f, r, n, g⟩ := se_fine hf h0
  have hrow := se_row hf h0
  have hwas := se_was hf h0
  by_cases hx : ∃ j, j < 8 ∧ isRoot (rowAt b j) = true ∧ nameAt b j = t
  · obtain ⟨j, hj, hjr, hjn⟩ := hx
    have hne : j ≠ seI b s := fun e => by
      subst e
      rcases hwas with ⟨_, _, h2⟩ | ⟨_, h2⟩
      · exact ht (by rw [← hjn, h2])
      · rw [hjr] at h2; cases h2
    have he := hrow.else_ j hj hne
    rw [lead_row hf hj hjr hjn, lead_row f hj (by rw [he]; exact hjr) (by unfold nameAt; rw [he]; exact hjn), he]
  · rw [lead_none (b := b) (fun j hj hr e => hx ⟨j, hj, hr, e⟩), lead_none (fun j hj hr e => ?_)]
    by_cases e2 : j = seI b s
    · subst e2; exact ht (by rw [← e, n])
    · have he := hrow.else_ j hj e2
      exact hx ⟨j, hj, by rw [← he]; exact hr, by unfold nameAt at e ⊢; rw [← he]; exact e⟩
theorem se_count (hf : Fine b) (h0 : seE b s h = 0) : (rootsK (seB b s h) 8).length = (rootsK b 8).length + if seN b s = true then 1 else 0 := by
  obtain ⟨f, r, n, g⟩ := se_fine hf h0
  have hrow := se_row hf h0
  rw [rootsK_count, rootsK_count]
  have hoth : ∀ j, j < 8 → j ≠ seI b s → isRoot (rowAt (seB b s h) j) = isRoot (rowAt b j) := fun j hj hne => by rw [hrow.else_ j hj hne]
  rcases se_was hf h0 with ⟨h1, h2, _⟩ | ⟨h1, h2⟩
  · rw [h1, if_neg (by simp), Nat.add_zero]
    refine cntR_same 8 (fun j hj => ?_)
    by_cases e : j = seI b s
    · subst e; rw [r, h2]
    · exact hoth j hj e
  · rw [h1, if_pos rfl]
    exact cntR_one 8 hrow.lt hoth r h2
theorem se_byt (hb : Byt b) (s : ByteArray) (h : Int) : Byt (seB b s h) := by
  unfold seB prL
  split
  · exact byt_splice hb (byt_rowR _)
  · exact fun z hz => (by cases hz)
/-- To what a root leads is not freed. -/
theorem se_held (hf : Fine b) (h0 : seE b s h = 0) : frE (seB b s h) h = 7 := by
  obtain ⟨f, r, n, g⟩ := se_fine hf h0
  have hrow := se_row hf h0
  obtain ⟨_, hlt, _, hc⟩ := se_put hf h0
  have hh := hndB_iff.1 (chkE_zero.1 hc).2.1
  have hc2 : chkE (seB b s h) h = 0 := by rw [(hrow.objs hf h hh.1 hh.2).2.1]; exact hc
  unfold frE
  rw [if_neg (fun h => h hc2), if_pos]
  refine List.any_eq_true.2 ⟨rootOf (rowAt (seB b s h) (seI b s)), mem_rootsK8 hlt r, ?_⟩
  rw [beq_iff_eq]
  exact g

/-! ### Unset -/
theorem un_zero (h0 : unE b s = 0) : nameB s = true ∧ plR b s < 8 := by
  unfold unE at h0
  have := plR_le b s
  cases hn : nameB s with
  | false => rw [hn, if_pos rfl] at h0; exact absurd h0 (by decide)
  | true =>
    rw [hn, if_neg (by simp)] at h0
    by_cases h8 : plR b s = 8
    · rw [if_pos h8] at h0; exact absurd h0 (by decide)
    · exact ⟨rfl, by omega⟩
theorem un_row (hf : Fine b) (h0 : unE b s = 0) : Row1 b (unB b s) (plR b s) (zerosB 11) := row1_splice hf.len.1 (un_zero h0).2 (length_zerosB 11)
theorem un_fine (hf : Fine b) (h0 : unE b s = 0) : Fine (unB b s) := (un_row hf h0).fine_none hf
theorem un_gone (hf : Fine b) (h0 : unE b s = 0) : plR (unB b s) s = 8 ∧ leadOf (rootsK (unB b s) 8) s = 0 ∧ unE (unB b s) s = 5 := by
  have hrow := un_row hf h0
  have f := un_fine hf h0
  obtain ⟨hn, hlt⟩ := un_zero h0
  have hp : plR (unB b s) s = 8 := pl_none f (fun j hj hr e => by
    by_cases e2 : j = plR b s
    · subst e2; rw [hrow.here, isRoot_zeros] at hr; cases hr
    · have he := hrow.else_ j hj e2
      have := pl_only hf hj (by rw [← he]; exact hr) (show nameAt b j = s by unfold nameAt at e ⊢; rw [← he]; exact e)
      exact e2 this.symm)
  refine ⟨hp, (lead_zero f s).2 hp, ?_⟩
  unfold unE
  rw [hn, if_neg (by simp), if_pos hp]
theorem un_other (hf : Fine b) (h0 : unE b s = 0) {t : ByteArray} (ht : t ≠ s) : leadOf (rootsK (unB b s) 8) t = leadOf (rootsK b 8) t := by
  have hrow := un_row hf h0
  have f := un_fine hf h0
  have hpl := (isAtR_iff hf (un_zero h0).2).1 ((plR_first b s).2.2 (un_zero h0).2)
  by_cases hx : ∃ j, j < 8 ∧ isRoot (rowAt b j) = true ∧ nameAt b j = t
  · obtain ⟨j, hj, hjr, hjn⟩ := hx
    have hne : j ≠ plR b s := fun e => by subst e; exact ht (by rw [← hjn, hpl.2])
    have he := hrow.else_ j hj hne
    rw [lead_row hf hj hjr hjn, lead_row f hj (by rw [he]; exact hjr) (by unfold nameAt; rw [he]; exact hjn), he]
  · rw [lead_none (b := b) (fun j hj hr e => hx ⟨j, hj, hr, e⟩), lead_none (fun j hj hr e => ?_)]
    by_cases e2 : j = plR b s
    · subst e2; rw [hrow.here, isRoot_zeros] at hr; cases hr
    · have he := hrow.else_ j hj e2
      exact hx ⟨j, hj, by rw [← he]; exact hr, by unfold nameAt at e ⊢; rw [← he]; exact e⟩
theorem un_count (hf : Fine b) (h0 : unE b s = 0) : (rootsK (unB b s) 8).length + 1 = (rootsK b 8).length := by
  have hrow := un_row hf h0
  have hpl := (isAtR_iff hf (un_zero h0).2).1 ((plR_first b s).2.2 (un_zero h0).2)
  rw [rootsK_count, rootsK_count]
  exact (cntR_one (b := unB b s) (c := b) 8 hrow.lt (fun j hj hne => by rw [hrow.else_ j hj hne]) hpl.1 (by rw [hrow.here]; exact isRoot_zeros)).symm
theorem un_byt (hb : Byt b) (s : ByteArray) : Byt (unB b s) := byt_splice hb (byt_zerosB 11)

/-! ### place by place, till it is full -/
/-- The first i places have roots of the names f, that lead to a; the others none. -/
structure RFs (b : List Int) (f : Nat → ByteArray) (a : Int) (i : Nat) : Prop where
  fine : Fine b
  here : ∀ j, j < i → isRoot (rowAt b j) = true ∧ nameAt b j = f j ∧ (rowAt b j).getD 10 0 = a
  none_ : ∀ j, i ≤ j → j < 8 → isRoot (rowAt b j) = false
theorem RFs.start {f : Nat → ByteArray} {a : Int} (hf : Fine b) (hr : rootsK b 8 = []) : RFs b f a 0 :=
  ⟨hf, fun j hj => absurd hj (Nat.not_lt_zero j), fun j _ hj => by
    cases hq : isRoot (rowAt b j) with
    | false => rfl
    | true => have := mem_rootsK8 hj hq; rw [hr] at this; cases this⟩
theorem RFs.next {f : Nat → ByteArray} {a : Int} {i : Nat} (r : RFs b f a i) (hi : i < 8) (hn : nameB (f i) = true) (hc : chkE b a = 0) (hinj : ∀ j, j < i → f j ≠ f i) :
    seE b (f i) a = 0 ∧ seN b (f i) = true ∧ RFs (seB b (f i) a) f a (i + 1) ∧ ∀ h, 1 ≤ h → h ≤ 40 → chkE (seB b (f i) a) h = chkE b h ∧ getE (seB b (f i) a) h = getE b h := by
  have hpl : plR b (f i) = 8 := pl_none r.fine (fun j hj hr e => by
    by_cases hji : j < i
    · exact hinj j hji (by rw [← (r.here j hji).2.1, e])
    · rw [r.none_ j (by omega) hj] at hr; cases hr)
  have hfr : frR b = i := (frR_first b).unique ⟨by omega, fun j hj => by simp [(r.here j hj).1], fun _ => by simp [r.none_ i (Nat.le_refl _) hi]⟩
  have hI : seI b (f i) = i := by unfold seI; rw [hpl, if_neg (by omega), hfr]
  have h0 : seE b (f i) a = 0 := by
    unfold seE
    rw [hn, if_neg (by simp), if_neg (fun h => h hc), hI, if_neg (by omega)]
  obtain ⟨g1, g2, g3, g4⟩ := se_fine r.fine h0
  have hrow := se_row r.fine h0
  rw [hI] at g2 g3 g4 hrow
  refine ⟨h0, by unfold seN; rw [hpl]; rfl, ⟨g1, fun j hj => ?_, fun j hj hj8 => ?_⟩, fun h h1 h2 => (hrow.objs r.fine h h1 h2).2⟩
  · by_cases e : j = i
    · subst e; exact ⟨g2, g3, g4⟩
    · have he := hrow.else_ j (by omega) e
      unfold nameAt
      rw [he]
      exact r.here j (by omega)
  · rw [hrow.else_ j hj8 (by omega)]
    exact r.none_ j (by omega) hj8
theorem RFs.full {f : Nat → ByteArray} {a : Int} (r : RFs b f a 8) {s : ByteArray} {h : Int} (hn : nameB s = true) (hc : chkE b h = 0) (hs : ∀ j, j < 8 → f j ≠ s) : seE b s h = 4 := by
  have hpl : plR b s = 8 := pl_none r.fine (fun j hj hr e => hs j hj (by rw [← (r.here j hj).2.1, e]))
  have hfr : frR b = 8 := (frR_first b).unique ⟨Nat.le_refl _, fun j hj => by simp [(r.here j hj).1], fun h => absurd h (Nat.lt_irrefl _)⟩
  have hI : seI b s = 8 := by unfold seI; rw [hpl, if_neg (by omega), hfr]
  unfold seE
  rw [hn, if_neg (by simp), if_neg (fun h => h hc), if_pos hI]
theorem rootsK_full : ∀ {k : Nat}, (∀ j, j < k → isRoot (rowAt b j) = true) → rootsK b k = (List.range k).map fun j => rootOf (rowAt b j)
  | 0, _ => rfl
  | k + 1, h => by
    show rootsK b k ++ _ = _
    rw [h k (by omega), if_pos rfl, rootsK_full (fun j hj => h j (by omega)), List.range_succ, List.map_append]
    rfl
theorem RFs.count {f : Nat → ByteArray} {a : Int} (r : RFs b f a 8) : (rootsK b 8).length = 8 := by
  rw [rootsK_full (fun j hj => (r.here j hj).1)]
  simp
/-- One that is there already may lead elsewhere. -/
theorem RFs.again {f : Nat → ByteArray} {a : Int} (r : RFs b f a 8) {k : Nat} (hk : k < 8) {h : Int} (hn : nameB (f k) = true) (hc : chkE b h = 0) :
    seE b (f k) h = 0 ∧ seN b (f k) = false ∧ leadOf (rootsK (seB b (f k) h) 8) (f k) = h ∧ (rootsK (seB b (f k) h) 8).length = 8 ∧ (rootsK (seB b (f k) h) 8)[k]? = some (f k, h) := by
  have hpl : plR b (f k) = k := pl_only r.fine hk (r.here k hk).1 (r.here k hk).2.1
  have hI : seI b (f k) = k := by unfold seI; rw [hpl, if_pos hk]
  have h0 : seE b (f k) h = 0 := by
    unfold seE
    rw [hn, if_neg (by simp), if_neg (fun h => h hc), hI, if_neg (by omega)]
  obtain ⟨g1, g2, g3, g4⟩ := se_fine r.fine h0
  have hrow := se_row r.fine h0
  rw [hI] at g2 g3 g4 hrow
  have hall : ∀ j, j < 8 → isRoot (rowAt (seB b (f k) h) j) = true := fun j hj => by
    by_cases e : j = k
    · subst e; exact g2
    · rw [hrow.else_ j hj e]; exact (r.here j hj).1
  have hN : seN b (f k) = false := by unfold seN; rw [hpl]; exact decide_eq_false (by omega)
  refine ⟨h0, hN, se_lead r.fine h0, ?_, ?_⟩
  · rw [rootsK_full hall]; simp
  · rw [rootsK_full hall]
    have hro : rootOf (rowAt (seB b (f k) h) k) = (f k, h) := Prod.ext g3 g4
    rw [List.getElem?_map, List.getElem?_range hk, Option.map_some, hro]
end
end Go.Proofs.YtopblhmbjdfebaaGreat
/-! Names as eight bytes, there and back; as plain lists. (Part of the proofs over images of old, and over roots.) -/
namespace Go.Proofs.YtopblhmbjdfebaaGreat
open Go.RowKit
set_option linter.unusedVariables false

theorem readOut_name {s : ByteArray} (h : NameOk s) : readOut (nameL s) = (s, 0) := by
  have hl := length_nameL s h.2.1
  have f1 : lettersN (nameL s) = s.size := (first_fstN _ _).unique (nameL_first s h)
  have f2 : zerosN (nameL s) s.size = 8 - s.size := (first_fstN _ _).unique (nameL_zeros s h.2.1)
  unfold readOut
  rw [if_neg (fun h => h hl), f1, f2, hl, if_neg (by have := h.1; omega), nameL_take]
theorem readOut_ok {l : List Int} (hb : Byt l) (h0 : (readOut l).2 = 0) : l.length = 8 ∧ NameOk (readOut l).1 ∧ nameL (readOut l).1 = l := by
  unfold readOut at h0 ⊢
  by_cases hl : l.length = 8
  · rw [if_neg (fun h => h hl)] at h0 ⊢
    by_cases hc : lettersN l = 0 ∨ zerosN l (lettersN l) < l.length - lettersN l
    · rw [if_pos hc] at h0; exact absurd h0 (by decide)
    · rw [if_neg hc]
      have hf : First (fun j => (!ltr (l.getD j 0))) l.length (lettersN l) := first_fstN _ _
      have hz : First (fun j => ((l.drop (lettersN l)).getD j 0 != 0)) (l.drop (lettersN l)).length (zerosN l (lettersN l)) := first_fstN _ _
      generalize lettersN l = n at *
      generalize zerosN l n = z at *
      have hn8 : n ≤ 8 := by have := hf.1; omega
      have hbt : Byt (l.take n) := fun x hx => hb x (List.mem_of_mem_take hx)
      have hsl : strL (strOf (l.take n)) = l.take n := strL_strOf _ hbt
      have hsz : (strOf (l.take n)).size = n := by rw [← length_strL, hsl, List.length_take]; omega
      refine ⟨hl, ⟨by rw [hsz]; omega, by rw [hsz]; exact hn8, ?_⟩, ?_⟩
      · rw [hsz]
        refine ⟨Nat.le_refl _, fun j hj => ?_, fun h => absurd h (Nat.lt_irrefl _)⟩
        have := hf.2.1 j hj
        dsimp only at this ⊢
        rw [hsl]
        rw [show (l.take n).getD j 0 = l.getD j 0 by simp [List.getD, hj]]
        exact this
      · have hdl : (l.drop n).length = 8 - n := by rw [List.length_drop]; omega
        have hz8 : z = 8 - n := by have := hz.1; omega
        apply ext_getD
        · rw [length_nameL _ (by rw [hsz]; exact hn8), hl]
        · intro j hj
          by_cases hjn : j < n
          · rw [nameL_lo _ j (by rw [hsz]; exact hjn), hsl]
            simp [List.getD, hjn]
          · rw [nameL_hi _ j (by rw [hsz]; omega)]
            rw [length_nameL _ (by rw [hsz]; exact hn8)] at hj
            have := hz.2.1 (j - n) (by omega)
            simp [List.getD] at this
            rw [show n + (j - n) = j by omega] at this
            simpa [List.getD] using this.symm
  · rw [if_pos hl] at h0; exact absurd h0 (by decide)
end Go.Proofs.YtopblhmbjdfebaaGreat
/-! What package root's own functions answer, as plain lists. (Part of the proofs over roots.) -/
namespace Go.Proofs.YtopblhmbjdfebaaGreat
open Go.RowKit
set_option linter.unusedVariables false

/-- Are the first eight bytes of a root's row these? -/
def isL (b l : List Int) (i : Nat) : Bool := decide ((rowAt b i).take 8 = l)
/-- The first place that has these; 8: there is none. -/
def plL (b l : List Int) : Nat := fstN (isL b l) 8
theorem plL_first (b l : List Int) : First (isL b l) 8 (plL b l) := first_fstN _ _
theorem plL_le (b l : List Int) : plL b l ≤ 8 := (plL_first b l).1
theorem isL_name {b : List Int} {s : ByteArray} (hb : Byt b) (hn : nameB s = true) (i : Nat) : isL b (nameL s) i = isAtR b s i := by
  have hbt : Byt ((rowAt b i).take 8) := fun x hx => hb x (by
    have h1 := List.mem_of_mem_take hx
    unfold rowAt at h1
    exact List.mem_of_mem_drop (List.mem_of_mem_take h1))
  rw [Bool.eq_iff_iff]
  unfold isL isAtR
  rw [decide_eq_true_iff, Bool.and_eq_true, decide_eq_true_iff, decide_eq_true_iff]
  constructor
  · intro h
    rw [h, readOut_name (nameB_iff.1 hn)]
    exact ⟨rfl, rfl⟩
  · rintro ⟨h1, h2⟩
    have := (readOut_ok hbt h1).2.2
    rw [h2] at this
    exact this.symm
theorem plL_name {b : List Int} {s : ByteArray} (hb : Byt b) (hn : nameB s = true) : plL b (nameL s) = plR b s := by
  unfold plL plR
  rw [show isL b (nameL s) = isAtR b s from funext (isL_name hb hn)]
theorem isL_zero {b : List Int} (hf : Fine b) {i : Nat} (hi : i < 8) : isL b (zerosB 8) i = !isRoot (rowAt b i) := by
  have hl := hf.len
  unfold isL
  cases hr : isRoot (rowAt b i) with
  | false =>
    rw [row_zeros hr (rowAt_len (by omega))]
    decide
  | true =>
    have := (badR_no.1 ((rFault_iff.1 (faults_iff.1 hf.ok).2).1 i hi hr)).1
    rw [decide_eq_false_iff_not.2 (fun e => by rw [e] at this; exact absurd this (by decide))]
    rfl
theorem plL_zero {b : List Int} (hf : Fine b) : plL b (zerosB 8) = frR b := by
  have h := frR_first b
  refine (plL_first b _).unique ⟨h.1, fun j hj => ?_, fun hj => ?_⟩
  · rw [isL_zero hf (by have := h.1; omega)]
    exact h.2.1 j hj
  · rw [isL_zero hf hj]
    exact h.2.2 hj

/-! ### Get -/
theorem lead_step {R : List (ByteArray × Int)} {k : Nat} {r : (ByteArray × Int)} {s : ByteArray} (h : R[k]? = some r) : leadOf (R.drop k) s = if r.1 = s then r.2 else leadOf (R.drop (k + 1)) s := by
  obtain ⟨hk, rfl⟩ := List.getElem?_eq_some_iff.1 h
  rw [List.drop_eq_getElem_cons hk]
  unfold leadOf
  by_cases e : R[k].1 = s
  · rw [if_pos e, List.find?_cons_of_pos (p := fun (r : (ByteArray × Int)) => r.1 == s) (ba_beq.2 e)]
    rfl
  · rw [if_neg e, List.find?_cons_of_neg (p := fun (r : (ByteArray × Int)) => r.1 == s) (fun h => e (ba_beq.1 h))]
/-- Why Get gives none. -/
def gtE (b : List Int) (s : ByteArray) (t : Int) : Int :=
  if nameB s = false then 2 else if t < -1 ∨ 15 < t then 1 else if leadOf (rootsK b 8) s = 0 then 5 else if t ≠ -1 ∧ t ≠ (getE b (leadOf (rootsK b 8) s)).2.2.2 then 8 else 0
/-- The handle that it gives. -/
def gtH (b : List Int) (s : ByteArray) (t : Int) : Int := if gtE b s t = 0 then leadOf (rootsK b 8) s else 0
/-- Is what Set gives true? -/
def seO (b : List Int) (s : ByteArray) (h : Int) : Bool := decide (seE b s h = 0) && seN b s
/-- The image behind Set. -/
def seF (b : List Int) (s : ByteArray) (h : Int) : List Int := if seE b s h = 0 then seB b s h else b
/-- The image behind Unset. -/
def unF (b : List Int) (s : ByteArray) : List Int := if unE b s = 0 then unB b s else b
theorem lead_range {b : List Int} (hf : Fine b) (s : ByteArray) : leadOf (rootsK b 8) s = 0 ∨ (1 ≤ leadOf (rootsK b 8) s ∧ leadOf (rootsK b 8) s ≤ 40 ∧ chkE b (leadOf (rootsK b 8) s) = 0) := by
  have hp := plR_first b s
  rw [lead_pl hf]
  by_cases h : plR b s < 8
  · rw [if_pos h]
    obtain ⟨h1, h2, h3⟩ := lead_obj hf h ((isAtR_iff hf h).1 (hp.2.2 h)).1
    exact .inr ⟨h1, h2, chkE_zero.2 ⟨hf.len0, hndB_iff.2 ⟨h1, h2⟩, h3⟩⟩
  · exact .inl (if_neg h)
/-- The row of no root may be put anywhere. -/
theorem un_put {b : List Int} (hf : Fine b) {i : Nat} (hi : i < 8) : prE b i (({ data := #[] } : ByteArray), 0) = 0 ∧ prL b i (({ data := #[] } : ByteArray), 0) = splice b (200 + 11 * i) (zerosB 11) := by
  have hr : rowRE (({ data := #[] } : ByteArray), 0) = 0 := by decide
  have hp : prE b i (({ data := #[] } : ByteArray), 0) = 0 := prE_zero.2 ⟨hf.len0, by omega, by omega, hr⟩
  refine ⟨hp, ?_⟩
  unfold prL
  rw [if_pos hp, Int.toNat_natCast]
  rfl
theorem se_img {b : List Int} (hf : Fine b) {s : ByteArray} {h : Int} (h0 : seE b s h = 0) : prL b (seI b s) (s, h) = seB b s h ∧ Fine (prL b (seI b s) (s, h)) := ⟨rfl, (se_fine hf h0).1⟩
end Go.Proofs.YtopblhmbjdfebaaGreat
/-! An object that is moved to where nothing of others is: all objects and roots are as they were; as plain lists. (Part of the proofs over moving.) -/
namespace Go.Proofs.YtopblhmbjdfebaaGreat
open Go.RowKit
set_option linter.unusedVariables false

section
variable {b : List Int}
/-- An entry in place of one that is there, over no other one. -/
theorem put_over (hf : Fine b) {e : (Int × Int × Int × Int)} (he : putE b e = 0) (hno : ∀ k, 1 ≤ k → k ≤ 40 → k ≠ e.1 → tagAt b k ≠ 0 → lapB e (entOf b k) = false) :
    Fine (putL b e) ∧ (∀ k, 1 ≤ k → k ≤ 40 → k ≠ e.1 → tagAt (putL b e) k = tagAt b k ∧ entOf (putL b e) k = entOf b k) ∧ tagAt (putL b e) e.1 ≠ 0 ∧ entOf (putL b e) e.1 = e ∧ (putL b e).length = b.length ∧ (∀ j, 200 ≤ j → (putL b e).getD j 0 = b.getD j 0) := by
  have hb := hf.len
  have hlen := putL_len he
  obtain ⟨_, hh, _⟩ := putE_zero.1 he
  have hh' := hndB_iff.1 hh
  have hp := plc_le hh'.1 hh'.2
  have hr5 : (rowE e).length = 5 := rfl
  have hL : putL b e = splice b (plc e.1) (rowE e) := by unfold putL; rw [if_pos he]
  obtain ⟨hg1, hg2⟩ := putL_get he
  have hself : tagAt (putL b e) e.1 ≠ 0 := (chkE_zero.1 hg1).2.2
  have hother : ∀ k, 1 ≤ k → k ≤ 40 → k ≠ e.1 → tagAt (putL b e) k = tagAt b k ∧ entOf (putL b e) k = entOf b k := fun k k1 k2 hk => by
    rw [hL]
    exact splice_tag hr5 hb.1 hh'.1 hh'.2 k1 k2 hk
  have htail : ∀ j, 200 ≤ j → (putL b e).getD j 0 = b.getD j 0 := fun j hj => by
    rw [hL, splice_out (by rw [hr5]; omega) (by rw [hr5]; omega)]
  have hrow : ∀ i, i < 8 → rowAt (putL b e) i = rowAt b i := fun i hi => by
    apply ext_getD
    · rw [rowAt_len (by omega), rowAt_len (by omega)]
    · intro j hj
      rw [rowAt_len (by omega)] at hj
      rw [rowAt_getD hj, rowAt_getD hj]
      exact htail _ (by omega)
  refine ⟨fine_of (by rw [hlen]; exact hf.len0) (fun h h1 h2 ht => ?_) (fun h k h1 h2 k1 hlt ht kt => ?_) (fun h h1 h2 ht => ?_) (fun hw => ?_), hother, hself, hg2, hlen, htail⟩
  · by_cases hq : h = e.1
    · subst hq
      rw [hg2, putE_same hlen]
      exact he
    · obtain ⟨e1, e2⟩ := hother h h1 h2 hq
      rw [e1] at ht
      rw [e2, putE_same hlen]
      exact (hf.hand h1 h2 ht).2
  · by_cases hq : h = e.1
    · subst hq
      obtain ⟨e1, e2⟩ := hother k k1 (by omega) (by omega)
      rw [e1] at kt
      rw [hg2, e2]
      exact hno k k1 (by omega) (by omega) kt
    · obtain ⟨e1, e2⟩ := hother h h1 h2 hq
      rw [e1] at ht
      by_cases hq2 : k = e.1
      · subst hq2
        rw [e2, hg2, lapB_comm]
        exact hno h h1 h2 hq ht
      · obtain ⟨e3, e4⟩ := hother k k1 (by omega) hq2
        rw [e3] at kt
        rw [e2, e4]
        exact hf.apart h1 h2 k1 (by omega) (by omega) ht kt
  · by_cases hq : h = e.1
    · subst hq; exact absurd ht hself
    · obtain ⟨e1, e2⟩ := hother h h1 h2 hq
      rw [e1] at ht
      rw [e2]
      rcases hFault_nil.1 ((faults_iff.1 hf.ok).1 h h1 h2) with hw | hw
      · exact absurd ht (wh_one.1 hw).1
      · exact hw.2
  · refine (roots_keep hrow (fun i hi hq _ hw1 => ?_) (faults_iff.1 hf.ok).2 8 (by omega)).2
    have hx := hndB_iff.1 hq
    have ht := (wh_one.1 hw1).1
    refine hw _ hx.1 hx.2 ?_
    by_cases hq2 : (rowAt b i).getD 10 0 = e.1
    · rw [hq2]; exact hself
    · rw [(hother _ hx.1 hx.2 hq2).1]
      exact ht
/-- The image behind the moving of an object to a place. -/
def mvB (b : List Int) (h : Int) (at' : Nat) : List Int := splice (putL b (h, (at' : Int), (entOf b h).2.2.1, (entOf b h).2.2.2)) at' (objOf b h).2
structure Mvd (b c : List Int) (h : Int) (at' : Nat) : Prop where
  fine : Fine c
  len : c.length = b.length
  ent : entOf c h = (h, (at' : Int), (entOf b h).2.2.1, (entOf b h).2.2.2)
  tag : tagAt c h ≠ 0
  other : ∀ k, 1 ≤ k → k ≤ 40 → k ≠ h → tagAt c k = tagAt b k ∧ entOf c k = entOf b k
  objs : ∀ k, 1 ≤ k → k ≤ 40 → objOf c k = objOf b k
  roots : rootsK c 8 = rootsK b 8
theorem ent_handle {h : Int} : (entOf b h).1 = h := rfl
theorem moved (hf : Fine b) {h : Int} (h1 : 1 ≤ h) (h2 : h ≤ 40) (ht : tagAt b h ≠ 0) {at' : Nat} (ha : 288 ≤ at') (hle : (at' : Int) ≤ (entOf b h).2.1)
    (hno : ∀ k, 1 ≤ k → k ≤ 40 → k ≠ h → tagAt b k ≠ 0 → (entOf b k).2.1 + (entOf b k).2.2.1 ≤ at' ∨ (at' : Int) + (entOf b h).2.2.1 ≤ (entOf b k).2.1) : Mvd b (mvB b h at') h at' := by
  have hen := hf.ent h1 h2 ht
  have he : putE b (h, (at' : Int), (entOf b h).2.2.1, (entOf b h).2.2.2) = 0 := putE_zero.2 ⟨hf.len0, hndB_iff.2 ⟨h1, h2⟩, hen.2.2.2.2.1, hen.2.2.2.2.2, hen.2.1, hen.2.2.1, by dsimp only; omega, by dsimp only; omega⟩
  obtain ⟨pf, po, pt, pe, pl, ptl⟩ := put_over hf he (fun k k1 k2 hk hkt => by
    rw [lapB_no]
    exact hno k k1 k2 hk hkt)
  dsimp only at po pt pe
  have hob : (objOf b h).2 = partL b (entOf b h).2.1 (entOf b h).2.2.1 := by
    unfold objOf objE
    rw [if_neg ht]
  have hol : (objOf b h).2.length = (entOf b h).2.2.1.toNat := by
    rw [hob]
    unfold partL
    rw [List.length_take, List.length_drop]
    omega
  have hfit : at' + (objOf b h).2.length ≤ (putL b (h, (at' : Int), (entOf b h).2.2.1, (entOf b h).2.2.2)).length := by rw [pl, hol]; omega
  obtain ⟨lf, ll, le, lo⟩ := lay_objs pf ha hfit
  have hrows : ∀ i, i < 8 → rowAt (mvB b h at') i = rowAt b i := fun i hi => by
    have hl := hf.len
    have hl2 : (mvB b h at').length = b.length := ll.trans pl
    apply ext_getD
    · rw [rowAt_len (by omega), rowAt_len (by omega)]
    · intro j hj
      rw [rowAt_len (by omega)] at hj
      rw [rowAt_getD hj, rowAt_getD hj]
      unfold mvB
      rw [splice_out hfit (.inl (by omega))]
      exact ptl _ (by omega)
  refine ⟨lf, ll.trans pl, (le h h1 h2).2.trans pe, by unfold mvB; rw [(le h h1 h2).1]; exact pt, fun k k1 k2 hk => ?_, fun k k1 k2 => ?_, rootsK_same 8 hrows⟩
  · exact ⟨(le k k1 k2).1.trans (po k k1 k2 hk).1, (le k k1 k2).2.trans (po k k1 k2 hk).2⟩
  · by_cases hk : k = h
    · subst hk
      have e1 : tagAt (mvB b k at') k ≠ 0 := by unfold mvB; rw [(le k h1 h2).1]; exact pt
      have e2 : entOf (mvB b k at') k = (k, (at' : Int), (entOf b k).2.2.1, (entOf b k).2.2.2) := (le k h1 h2).2.trans pe
      have e3 : objOf (mvB b k at') k = ((entOf b k).2.2.2, partL (mvB b k at') (at' : Int) (entOf b k).2.2.1) := by
        unfold objOf objE
        rw [if_neg e1, e2]
      have e4 : objOf b k = ((entOf b k).2.2.2, (objOf b k).2) := by
        unfold objOf objE
        rw [if_neg ht]
      rw [e3, e4]
      congr 1
      unfold partL mvB
      apply ext_getD
      · rw [List.length_take, List.length_drop, length_splice hfit, pl, hol]
        omega
      · intro j hj
        rw [List.length_take, List.length_drop, length_splice hfit, pl] at hj
        rw [Int.toNat_natCast]
        have hjl : j < (objOf b k).2.length := by omega
        have e5 := splice_in hfit hjl
        simp only [List.getD, List.getElem?_take, if_pos (show j < (entOf b k).2.2.1.toNat by omega), List.getElem?_drop] at e5 ⊢
        exact e5
    · have e1 := lo k k1 k2 (fun hkt => by
        rw [(po k k1 k2 hk).1] at hkt
        rw [(po k k1 k2 hk).2, hol]
        have := hno k k1 k2 hk hkt
        have hl1 := hen.2.1
        omega)
      rw [show objOf (mvB b h at') k = objOf (putL b (h, (at' : Int), (entOf b h).2.2.1, (entOf b h).2.2.2)) k from e1]
      refine obj_same pl (po k k1 k2 hk).1 (po k k1 k2 hk).2 (fun hkt j hj _ => ptl j ?_)
      have := (hf.ent k1 k2 hkt).1
      omega
theorem mv_byt (hb : Byt b) (h : Int) (at' : Nat) : Byt (mvB b h at') := by
  unfold mvB
  refine byt_splice ?_ ?_
  · unfold putL
    split
    · exact byt_splice hb (byt_rowE _)
    · exact fun z hz => (by cases hz)
  · unfold objOf objE partL
    split
    · exact fun z hz => (by cases hz)
    · exact fun z hz => hb z (List.mem_of_mem_drop (List.mem_of_mem_take hz))
end
end Go.Proofs.YtopblhmbjdfebaaGreat
/-! Objects by where they stand; the first that moves, step by step, till all stand together; as plain lists. (Part of the proofs over moving.) -/
namespace Go.Proofs.YtopblhmbjdfebaaGreat
open Go.RowKit
set_option linter.unusedVariables false

def byAt (x y : (Int × Int × Int × Int)) : Bool := decide (x.2.1 ≤ y.2.1)
/-- The entries, by where they stand. -/
def srtE (L : List Int) : List (Int × Int × Int × Int) := (entsK L 40).mergeSort byAt
/-- One stands wholly ahead of another. -/
def Ahead (x y : (Int × Int × Int × Int)) : Prop := x.2.1 + x.2.2.1 ≤ y.2.1
theorem byAt_trans : ∀ a b c : (Int × Int × Int × Int), byAt a b = true → byAt b c = true → byAt a c = true := fun a b c h1 h2 => by
  unfold byAt at *
  rw [decide_eq_true_iff] at *
  omega
theorem byAt_total : ∀ a b : (Int × Int × Int × Int), (byAt a b || byAt b a) = true := fun a b => by
  unfold byAt
  rw [Bool.or_eq_true, decide_eq_true_iff, decide_eq_true_iff]
  omega
section
variable {L : List Int}
theorem ents_nodup : ∀ k : Nat, ((entsK L k).map (·.1)).Pairwise (· < ·) ∧ ∀ x ∈ entsK L k, 1 ≤ x.1 ∧ x.1 ≤ k
  | 0 => ⟨List.Pairwise.nil, fun x hx => by cases hx⟩
  | k + 1 => by
    obtain ⟨h1, h2⟩ := ents_nodup k
    show ((entsK L k ++ _).map (·.1)).Pairwise (· < ·) ∧ ∀ x ∈ entsK L k ++ _, _
    by_cases ht : tagAt L ((k : Int) + 1) = 0
    · rw [if_pos ht, List.append_nil]
      exact ⟨h1, fun x hx => by have := h2 x hx; omega⟩
    · rw [if_neg ht]
      refine ⟨?_, fun x hx => ?_⟩
      · rw [List.map_append]
        refine List.pairwise_append.2 ⟨h1, by simp, fun a ha b hb => ?_⟩
        obtain ⟨x, hx, rfl⟩ := List.mem_map.1 ha
        have := h2 x hx
        have hb' : b = (k : Int) + 1 := by simpa [ent_handle] using hb
        omega
      · rcases List.mem_append.1 hx with hx | hx
        · have := h2 x hx; omega
        · rw [List.mem_singleton.1 hx]
          show 1 ≤ (k : Int) + 1 ∧ (k : Int) + 1 ≤ ((k + 1 : Nat) : Int)
          omega
theorem ent_in (hf : Fine L) {x : (Int × Int × Int × Int)} (hx : x ∈ entsK L 40) : x = entOf L x.1 ∧ 1 ≤ x.1 ∧ x.1 ≤ 40 ∧ tagAt L x.1 ≠ 0 ∧ 288 ≤ x.2.1 ∧ 1 ≤ x.2.2.1 ∧ x.2.2.1 ≤ 1000 ∧ x.2.1 + x.2.2.1 ≤ L.length := by
  obtain ⟨j, hj, ht, rfl⟩ := mem_entsP.1 hx
  have e := hf.ent (h := (j : Int) + 1) (by omega) (by omega) ht
  have hh : (entOf L ((j : Int) + 1)).1 = (j : Int) + 1 := rfl
  rw [hh]
  exact ⟨rfl, by omega, by omega, ht, e.1, e.2.1, e.2.2.1, e.2.2.2.1⟩
theorem ent_mem {h : Int} (h1 : 1 ≤ h) (h2 : h ≤ 40) (ht : tagAt L h ≠ 0) : entOf L h ∈ entsK L 40 := by
  refine mem_entsP.2 ⟨(h - 1).toNat, by omega, ?_, ?_⟩
  · rw [show (((h - 1).toNat : Nat) : Int) + 1 = h by omega]; exact ht
  · rw [show (((h - 1).toNat : Nat) : Int) + 1 = h by omega]
theorem srtE_perm : (srtE L).Perm (entsK L 40) := List.mergeSort_perm _ _
theorem srtE_mem {x : (Int × Int × Int × Int)} : x ∈ srtE L ↔ x ∈ entsK L 40 := srtE_perm.mem_iff
theorem ents_apart (hf : Fine L) {x y : (Int × Int × Int × Int)} (hx : x ∈ entsK L 40) (hy : y ∈ entsK L 40) (hne : x.1 ≠ y.1) : Ahead x y ∨ Ahead y x := by
  obtain ⟨ex, x1, x2, xt, _⟩ := ent_in hf hx
  obtain ⟨ey, y1, y2, yt, _⟩ := ent_in hf hy
  have := lapB_no.1 (hf.apart x1 x2 y1 y2 hne xt yt)
  rw [← ex, ← ey] at this
  unfold Ahead
  omega
theorem ents_one {x y : (Int × Int × Int × Int)} (hx : x ∈ entsK L 40) (hy : y ∈ entsK L 40) (h : x.1 = y.1) : x = y := by
  obtain ⟨i, _, _, rfl⟩ := mem_entsP.1 hx
  obtain ⟨j, _, _, rfl⟩ := mem_entsP.1 hy
  have h' : (i : Int) + 1 = (j : Int) + 1 := h
  rw [h']
theorem srtE_nodup : ((srtE L).map (·.1)).Nodup := by
  have h1 := (ents_nodup (L := L) 40).1
  have h2 := (srtE_perm (L := L)).map (fun x => x.1)
  generalize entsK L 40 = l at h1 h2
  exact h2.nodup_iff.2 (h1.imp (fun h e => by omega))
/-- No two over each other, in this order. -/
theorem srtE_ahead (hf : Fine L) : (srtE L).Pairwise Ahead := by
  have h1 : (srtE L).Pairwise (fun x y => byAt x y = true) := List.pairwise_mergeSort byAt_trans byAt_total _
  have h2 : (srtE L).Pairwise (fun x y => x.1 ≠ y.1) := List.pairwise_map.1 srtE_nodup
  refine (h1.and h2).imp_of_mem (fun {x y} hx hy h => ?_)
  have hx' := srtE_mem.1 hx
  have hy' := srtE_mem.1 hy
  rcases ents_apart hf hx' hy' h.2 with ha | ha
  · exact ha
  · have h3 := h.1
    unfold byAt at h3
    rw [decide_eq_true_iff] at h3
    have := (ent_in hf hy').2.2.2.2.2.1
    unfold Ahead at ha ⊢
    omega
end
/-! ### the first that moves -/
/-- The first of a list ahead of which a byte is free, and where it moves. -/
def mvOn (a : Int) : List (Int × Int × Int × Int) → Option ((Int × Int × Int × Int) × Int)
  | [] => none
  | e :: r => if a < e.2.1 then some (e, a) else mvOn (a + e.2.2.1) r
def sumE : List (Int × Int × Int × Int) → Int
  | [] => 0
  | e :: r => e.2.2.1 + sumE r
/-- All stand together, from a place on. -/
def Packed (a : Int) : List (Int × Int × Int × Int) → Prop
  | [] => True
  | e :: r => e.2.1 = a ∧ Packed (a + e.2.2.1) r
/-- How many move. -/
def mvN (a : Int) : List (Int × Int × Int × Int) → Nat
  | [] => 0
  | e :: r => (if a < e.2.1 then 1 else 0) + mvN (a + e.2.2.1) r
theorem mvOn_none : ∀ {l : List (Int × Int × Int × Int)} {a : Int}, l.Pairwise Ahead → (∀ x ∈ l, a ≤ x.2.1) → mvOn a l = none → Packed a l ∧ mvN a l = 0
  | [], a, _, _, _ => ⟨trivial, rfl⟩
  | e :: r, a, hp, ha, h => by
    unfold mvOn at h
    by_cases hlt : a < e.2.1
    · rw [if_pos hlt] at h; cases h
    · rw [if_neg hlt] at h
      have he := ha e (by simp)
      rw [List.pairwise_cons] at hp
      obtain ⟨h1, h2⟩ := mvOn_none hp.2 (fun x hx => by have := hp.1 x hx; unfold Ahead at this; omega) h
      refine ⟨⟨by omega, h1⟩, ?_⟩
      unfold mvN
      rw [if_neg hlt, h2]
theorem mvOn_some : ∀ {l : List (Int × Int × Int × Int)} {a : Int} {e : (Int × Int × Int × Int)} {p : Int}, l.Pairwise Ahead → (∀ x ∈ l, a ≤ x.2.1) → (∀ x ∈ l, 1 ≤ x.2.2.1) → mvOn a l = some (e, p) →
    ∃ l1 l2, l = l1 ++ e :: l2 ∧ a ≤ p ∧ p < e.2.1 ∧ (∀ x ∈ l1, x.2.1 + x.2.2.1 ≤ p) ∧ mvN a l = mvN a (l1 ++ (e.1, p, e.2.2.1, e.2.2.2) :: l2) + 1
  | [], a, e, p, _, _, _, h => by cases h
  | x :: r, a, e, p, hp, ha, hl, h => by
    unfold mvOn at h
    by_cases hlt : a < x.2.1
    · rw [if_pos hlt] at h
      obtain ⟨rfl, rfl⟩ : x = e ∧ a = p := by simpa using h
      refine ⟨[], r, rfl, Int.le_refl _, hlt, fun y hy => (by cases hy), ?_⟩
      simp only [List.nil_append, mvN]
      rw [if_pos hlt, if_neg (by omega)]
      omega
    · rw [if_neg hlt] at h
      have hx := ha x (by simp)
      have hlx := hl x (by simp)
      rw [List.pairwise_cons] at hp
      obtain ⟨l1, l2, rfl, q1, q2, q3, q4⟩ := mvOn_some hp.2 (fun y hy => by have := hp.1 y hy; unfold Ahead at this; omega) (fun y hy => hl y (by simp [hy])) h
      refine ⟨x :: l1, l2, rfl, by omega, q2, fun y hy => ?_, ?_⟩
      · rcases List.mem_cons.1 hy with rfl | hy
        · omega
        · exact q3 y hy
      · simp only [List.cons_append, mvN]
        rw [if_neg hlt, q4]
        omega
/-! ### one step -/
/-- The image behind one step; none: there is none such. -/
def mvS (L : List Int) : Option (List Int) := (mvOn 288 (srtE L)).map fun x => mvB L x.1.1 x.2.toNat
section
variable {L : List Int}
theorem srtE_from (hf : Fine L) : (∀ x ∈ srtE L, 288 ≤ x.2.1) ∧ ∀ x ∈ srtE L, 1 ≤ x.2.2.1 :=
  ⟨fun x hx => (ent_in hf (srtE_mem.1 hx)).2.2.2.2.1, fun x hx => (ent_in hf (srtE_mem.1 hx)).2.2.2.2.2.1⟩
theorem step_moved (hf : Fine L) {e : (Int × Int × Int × Int)} {p : Int} (h : mvOn 288 (srtE L) = some (e, p)) : Mvd L (mvB L e.1 p.toNat) e.1 p.toNat ∧ 288 ≤ p ∧ p < e.2.1 ∧ e ∈ entsK L 40 := by
  obtain ⟨f1, f2⟩ := srtE_from hf
  obtain ⟨l1, l2, hl, q1, q2, q3, _⟩ := mvOn_some (srtE_ahead hf) f1 f2 h
  have he : e ∈ entsK L 40 := srtE_mem.1 (by rw [hl]; simp)
  obtain ⟨ee, e1, e2, et, _⟩ := ent_in hf he
  have ea : (entOf L e.1).2.1 = e.2.1 := by rw [← ee]
  have el : (entOf L e.1).2.2.1 = e.2.2.1 := by rw [← ee]
  refine ⟨moved hf e1 e2 et (by omega) (by rw [ea]; omega) (fun k k1 k2 hk hkt => ?_), q1, q2, he⟩
  rw [el]
  have hk' := ent_mem k1 k2 hkt
  have hkm : entOf L k ∈ l1 ++ e :: l2 := by rw [← hl]; exact srtE_mem.2 hk'
  have hsa := srtE_ahead hf
  rw [hl, List.pairwise_append, List.pairwise_cons] at hsa
  rcases List.mem_append.1 hkm with hm | hm
  · have := q3 _ hm
    left
    omega
  · rcases List.mem_cons.1 hm with hm | hm
    · exact absurd (congrArg Prod.fst hm) hk
    · have := hsa.2.1.1 _ hm
      unfold Ahead at this
      right
      omega
/-- The entries behind a move: one of them is turned. -/
theorem Mvd.ents {c : List Int} {h : Int} {p : Nat} (m : Mvd L c h p) (ht : tagAt L h ≠ 0) : ∀ k : Nat, k ≤ 40 → entsK c k = (entsK L k).map fun x => if x.1 = h then (h, (p : Int), (entOf L h).2.2.1, (entOf L h).2.2.2) else x
  | 0, _ => rfl
  | k + 1, hk => by
    show entsK c k ++ _ = (entsK L k ++ _).map _
    rw [List.map_append, m.ents ht k (by omega)]
    congr 1
    by_cases e : (k : Int) + 1 = h
    · have ht2 := m.tag
      rw [e, if_neg m.tag, if_neg ht, m.ent]
      simp [ent_handle]
    · obtain ⟨o1, o2⟩ := m.other ((k : Int) + 1) (by omega) (by omega) e
      rw [o1, o2]
      split
      · rfl
      · simp [ent_handle, e]
theorem map_one {l1 l2 : List (Int × Int × Int × Int)} {e e' : (Int × Int × Int × Int)} (hnd : ((l1 ++ e :: l2).map (·.1)).Nodup) : (l1 ++ e :: l2).map (fun x => if x.1 = e.1 then e' else x) = l1 ++ e' :: l2 := by
  rw [List.map_append, List.map_cons, List.nodup_append, List.nodup_cons] at hnd
  rw [List.map_append, List.map_cons, if_pos rfl]
  have h1 : l1.map (fun x => if x.1 = e.1 then e' else x) = l1 := by
    refine (List.map_congr_left (g := id) (fun x hx => ?_)).trans (List.map_id _)
    exact if_neg (fun h => hnd.2.2 x.1 (List.mem_map.2 ⟨x, hx, rfl⟩) e.1 (by simp) h)
  have h2 : l2.map (fun x => if x.1 = e.1 then e' else x) = l2 := by
    refine (List.map_congr_left (g := id) (fun x hx => ?_)).trans (List.map_id _)
    exact if_neg (fun h => hnd.2.1.1 (by rw [← h]; exact List.mem_map.2 ⟨x, hx, rfl⟩))
  rw [h1, h2]
theorem step_sorted (hf : Fine L) {e : (Int × Int × Int × Int)} {p : Int} (h : mvOn 288 (srtE L) = some (e, p)) : ∃ l1 l2, srtE L = l1 ++ e :: l2 ∧ srtE (mvB L e.1 p.toNat) = l1 ++ (e.1, p, e.2.2.1, e.2.2.2) :: l2 ∧ mvN 288 (srtE L) = mvN 288 (srtE (mvB L e.1 p.toNat)) + 1 := by
  obtain ⟨m, hp, hlt, he⟩ := step_moved hf h
  obtain ⟨f1, f2⟩ := srtE_from hf
  obtain ⟨l1, l2, hl, q1, q2, q3, q4⟩ := mvOn_some (srtE_ahead hf) f1 f2 h
  obtain ⟨ee, e1, e2, et, _⟩ := ent_in hf he
  have hent := m.ents et 40 (Nat.le_refl _)
  have hE : (e.1, ((p.toNat : Nat) : Int), (entOf L e.1).2.2.1, (entOf L e.1).2.2.2) = (e.1, p, e.2.2.1, e.2.2.2) := by
    rw [← ee, show ((p.toNat : Nat) : Int) = p by omega]
  rw [hE] at hent
  have hmap : (srtE L).map (fun x => if x.1 = e.1 then (e.1, p, e.2.2.1, e.2.2.2) else x) = l1 ++ (e.1, p, e.2.2.1, e.2.2.2) :: l2 := by
    have hnd := srtE_nodup (L := L)
    rw [hl] at hnd ⊢
    exact map_one hnd
  have hperm : (l1 ++ (e.1, p, e.2.2.1, e.2.2.2) :: l2).Perm (srtE (mvB L e.1 p.toNat)) := by
    rw [← hmap]
    refine ((srtE_perm (L := L)).map _).trans ?_
    rw [← hent]
    exact srtE_perm.symm
  have hsa := srtE_ahead hf
  rw [hl, List.pairwise_append, List.pairwise_cons] at hsa
  have hnew : (l1 ++ (e.1, p, e.2.2.1, e.2.2.2) :: l2).Pairwise (fun x y => byAt x y = true) := by
    have f2' : ∀ x ∈ l1 ++ e :: l2, 1 ≤ x.2.2.1 := fun x hx => f2 x (by rw [hl]; exact hx)
    refine List.pairwise_append.2 ⟨hsa.1.imp_of_mem (fun {x y} hx hy ha => ?_), List.pairwise_cons.2 ⟨fun y hy => ?_, hsa.2.1.2.imp_of_mem (fun {x y} hx hy ha => ?_)⟩, fun x hx y hy => ?_⟩
    · have := f2' x (by simp [hx])
      unfold Ahead at ha
      unfold byAt
      rw [decide_eq_true_iff]; omega
    · have h1 := hsa.2.1.1 y hy
      have := f2' e (by simp)
      unfold Ahead at h1
      unfold byAt
      rw [decide_eq_true_iff]
      dsimp only
      omega
    · have := f2' x (by simp [hx])
      unfold Ahead at ha
      unfold byAt
      rw [decide_eq_true_iff]; omega
    · have hx2 := f2' x (by simp [hx])
      unfold byAt
      rw [decide_eq_true_iff]
      rcases List.mem_cons.1 hy with rfl | hy
      · have := q3 x hx
        dsimp only
        omega
      · have := hsa.2.2 x hx y (by simp [hy])
        unfold Ahead at this
        omega
  have hold : (srtE (mvB L e.1 p.toNat)).Pairwise (fun x y => byAt x y = true) := List.pairwise_mergeSort byAt_trans byAt_total _
  have heq : l1 ++ (e.1, p, e.2.2.1, e.2.2.2) :: l2 = srtE (mvB L e.1 p.toNat) := by
    refine List.Perm.eq_of_pairwise (le := fun x y => byAt x y = true) (fun x y hx hy h1 h2 => ?_) hnew hold hperm
    have hx' := srtE_mem.1 (hperm.mem_iff.1 hx)
    have hy' := srtE_mem.1 hy
    by_cases hxy : x.1 = y.1
    · exact ents_one hx' hy' hxy
    · unfold byAt at h1 h2
      rw [decide_eq_true_iff] at h1 h2
      have lx := (ent_in m.fine hx').2.2.2.2.2.1
      have ly := (ent_in m.fine hy').2.2.2.2.2.1
      rcases ents_apart m.fine hx' hy' hxy with ha | ha
      · unfold Ahead at ha; omega
      · unfold Ahead at ha; omega
  exact ⟨l1, l2, hl, heq.symm, by rw [q4, ← heq]⟩
theorem mvN_le : ∀ (l : List (Int × Int × Int × Int)) (a : Int), mvN a l ≤ l.length
  | [], a => Nat.le_refl _
  | e :: r, a => by
    unfold mvN
    have := mvN_le r (a + e.2.2.1)
    rw [List.length_cons]
    split <;> omega
theorem mvN_forty : mvN 288 (srtE L) ≤ 40 := by
  refine Nat.le_trans (mvN_le _ _) ?_
  rw [srtE_perm.length_eq]
  exact entsK_len L 40
end
end Go.Proofs.YtopblhmbjdfebaaGreat
/-! Moved step by step till nothing moves: all objects and roots are as they were, and all that is free is one run; as plain lists. (Part of the proofs over moving.) -/
namespace Go.Proofs.YtopblhmbjdfebaaGreat
open Go.RowKit
set_option linter.unusedVariables false

section
variable {L : List Int}
/-- What is the same of two images, wherever things stand. -/
structure AsWas (L c : List Int) : Prop where
  fine : Fine c
  len : c.length = L.length
  objs : ∀ k, 1 ≤ k → k ≤ 40 → objOf c k = objOf L k
  tags : ∀ k, 1 ≤ k → k ≤ 40 → (tagAt c k = 0 ↔ tagAt L k = 0)
  roots : rootsK c 8 = rootsK L 8
  sum : sumE (srtE c) = sumE (srtE L)
  many : (entsK c 40).length = (entsK L 40).length
theorem AsWas.refl (hf : Fine L) : AsWas L L := ⟨hf, rfl, fun _ _ _ => rfl, fun _ _ _ => Iff.rfl, rfl, rfl, rfl⟩
theorem AsWas.trans {a b c : List Int} (p : AsWas a b) (q : AsWas b c) : AsWas a c :=
  ⟨q.fine, q.len.trans p.len, fun k h1 h2 => (q.objs k h1 h2).trans (p.objs k h1 h2), fun k h1 h2 => (q.tags k h1 h2).trans (p.tags k h1 h2), q.roots.trans p.roots, q.sum.trans p.sum, q.many.trans p.many⟩
theorem sumE_append : ∀ (l m : List (Int × Int × Int × Int)), sumE (l ++ m) = sumE l + sumE m
  | [], m => by simp [sumE]
  | e :: l, m => by
    show e.2.2.1 + sumE (l ++ m) = e.2.2.1 + sumE l + sumE m
    rw [sumE_append l m]
    omega
theorem step_as (hf : Fine L) {c : List Int} (h : mvS L = some c) : AsWas L c ∧ mvN 288 (srtE L) = mvN 288 (srtE c) + 1 := by
  unfold mvS at h
  cases hq : mvOn 288 (srtE L) with
  | none => rw [hq] at h; cases h
  | some x =>
    obtain ⟨e, p⟩ := x
    rw [hq] at h
    obtain rfl : mvB L e.1 p.toNat = c := by simpa using h
    obtain ⟨m, _, _, he⟩ := step_moved hf hq
    obtain ⟨l1, l2, s1, s2, s3⟩ := step_sorted hf hq
    obtain ⟨_, e1, e2, et, _⟩ := ent_in hf he
    refine ⟨⟨m.fine, m.len, m.objs, fun k k1 k2 => ?_, m.roots, ?_, ?_⟩, s3⟩
    · by_cases hk : k = e.1
      · subst hk; exact ⟨fun h => absurd h m.tag, fun h => absurd h et⟩
      · rw [(m.other k k1 k2 hk).1]
    · rw [s1, s2, sumE_append, sumE_append]
      rfl
    · rw [m.ents et 40 (Nat.le_refl _), List.length_map]
/-- So many steps, or till there is none. -/
def mvF : Nat → List Int → List Int
  | 0, L => L
  | n + 1, L => match mvS L with
    | none => L
    | some c => mvF n c
theorem mvF_zero (L : List Int) : mvF 0 L = L := rfl
theorem mvF_none {n : Nat} {L : List Int} (h : mvS L = none) : mvF (n + 1) L = L := by simp only [mvF, h]
theorem mvF_some {n : Nat} {L c : List Int} (h : mvS L = some c) : mvF (n + 1) L = mvF n c := by simp only [mvF, h]
theorem mvF_as (n : Nat) : ∀ {L : List Int}, Fine L → mvN 288 (srtE L) ≤ n → AsWas L (mvF n L) ∧ mvS (mvF n L) = none := by
  induction n with
  | zero =>
    intro L hf h
    rw [mvF_zero]
    refine ⟨AsWas.refl hf, ?_⟩
    cases hq : mvS L with
    | none => rfl
    | some c =>
      have h2 := (step_as hf hq).2
      rw [h2] at h
      exact absurd h (Nat.not_succ_le_zero _)
  | succ n ih =>
    intro L hf h
    cases hq : mvS L with
    | none =>
      rw [mvF_none hq]
      exact ⟨AsWas.refl hf, hq⟩
    | some c =>
      obtain ⟨a, hn⟩ := step_as hf hq
      rw [hn] at h
      obtain ⟨b, hb⟩ := ih a.fine (Nat.le_of_succ_le_succ h)
      rw [mvF_some hq]
      exact ⟨a.trans b, hb⟩
/-- The image behind all steps. -/
def mvA (L : List Int) : List Int := mvF 40 L
theorem mvA_as (hf : Fine L) : AsWas L (mvA L) ∧ mvS (mvA L) = none := mvF_as 40 hf mvN_forty
theorem mvS_none (hf : Fine L) (h : mvS L = none) : Packed 288 (srtE L) ∧ mvN 288 (srtE L) = 0 := by
  unfold mvS at h
  cases hq : mvOn 288 (srtE L) with
  | none => exact mvOn_none (srtE_ahead hf) (srtE_from hf).1 hq
  | some x => rw [hq] at h; cases h
/-! ### what is free -/
theorem srt_take (hf : Fine L) : srtL (takeL L) = (srtE L).map shE := by
  refine ((take_good hf).srt_eq ((srtE_perm (L := L)).map shE) (List.pairwise_map.2 ((srtE_ahead hf).imp_of_mem (fun {x y} hx hy h => ?_)))).symm
  have := (ent_in hf (srtE_mem.1 hx)).2.2.2.2.2.1
  unfold Ahead at h
  unfold shE
  dsimp only
  omega
theorem lenSum_sh : ∀ l : List (Int × Int × Int × Int), lenSum (l.map shE) = sumE l
  | [] => rfl
  | e :: r => by
    rw [List.map_cons, lenSum_cons, lenSum_sh r]
    rfl
/-- What is used is the objects' bytes. -/
theorem used_sum (hf : Fine L) : lenSum (takeL L) = sumE (srtE L) := by
  rw [← lenSum_sh, ← srt_take hf]
  exact lenSum_perm (take_good hf).srtL.1.symm
theorem packed_runs : ∀ (l : List (Int × Int × Int × Int)) (a n : Int), Packed a l → (∀ x ∈ l, 1 ≤ x.2.2.1) → runsOf (a - 288) (l.map shE ++ [(n, 0)]) = if a - 288 + sumE l < n then [(a - 288 + sumE l, n - (a - 288 + sumE l))] else []
  | [], a, n, _, _ => by
    show runsOf (a - 288) [(n, 0)] = if a - 288 + 0 < n then [(a - 288 + 0, n - (a - 288 + 0))] else []
    rw [Int.add_zero]
    unfold runsOf
    dsimp only
    split <;> rfl
  | e :: r, a, n, hp, hl => by
    have h1 := hl e (by simp)
    obtain ⟨he, hr⟩ := hp
    have ih := packed_runs r (a + e.2.2.1) n hr (fun x hx => hl x (by simp [hx]))
    have e1 : a + e.2.2.1 - 288 = (shE e).1 + (shE e).2 := by unfold shE; dsimp only; omega
    rw [List.map_cons, List.cons_append]
    unfold runsOf
    rw [if_neg (by unfold shE; dsimp only; omega)]
    rw [e1] at ih
    rw [ih]
    have e2 : (shE e).1 + (shE e).2 + sumE r = a - 288 + sumE (e :: r) := by
      unfold shE
      show e.2.1 - 288 + e.2.2.1 + sumE r = a - 288 + (e.2.2.1 + sumE r)
      omega
    rw [e2]
    rfl
/-- Where nothing moves all that is free is one run, at the end. -/
theorem free_one (hf : Fine L) (h : mvS L = none) : freeL ((L.length : Int) - 288) (takeL L) = if sumE (srtE L) < (L.length : Int) - 288 then [(sumE (srtE L), (L.length : Int) - 288 - sumE (srtE L))] else [] := by
  have hc : chk ((L.length : Int) - 288) (takeL L) = 0 := by
    have hl := hf.len
    exact chk_zero.2 ⟨by omega, by omega, by have := takeL_len L; omega, take_good hf⟩
  unfold freeL freeOf
  rw [if_pos hc, srt_take hf]
  have := packed_runs (srtE L) 288 ((L.length : Int) - 288) (mvS_none hf h).1 (srtE_from hf).2
  rw [show (288 : Int) - 288 = 0 by decide, Int.zero_add] at this
  exact this
/-- Behind all steps there is as much free as ahead, in one run. -/
theorem all_free (hf : Fine L) : lenSum (freeL ((L.length : Int) - 288) (takeL L)) = (L.length : Int) - 288 - sumE (srtE L) := by
  have hl := hf.len
  have hg := take_good hf
  have hc : chk ((L.length : Int) - 288) (takeL L) = 0 := chk_zero.2 ⟨by omega, by omega, by have := takeL_len L; omega, hg⟩
  unfold freeL
  rw [if_pos hc]
  have := hg.srtL.sum hg (by omega)
  rw [used_sum hf] at this
  omega
end
end Go.Proofs.YtopblhmbjdfebaaGreat
/-! How the code finds who moves: the first run of free bytes, and who stands right behind it; and what is gained; as plain lists. (Part of the proofs over moving.) -/
namespace Go.Proofs.YtopblhmbjdfebaaGreat
open Go.RowKit
set_option linter.unusedVariables false

/-- An entry's extent, from the first byte on. -/
def exE (e : (Int × Int × Int × Int)) : Int × Int := (e.2.1, e.2.2.1)
/-- What is not free: the head, and what objects have. -/
def tknL (L : List Int) : List (Int × Int) := (0, 288) :: (entsK L 40).map exE
section
variable {L : List Int}
theorem tknL_len (L : List Int) : (tknL L).length ≤ 41 := by
  unfold tknL
  have := entsK_len L 40
  rw [List.length_cons, List.length_map]
  omega
theorem tk_srt (hf : Fine L) : Good (L.length : Int) (tknL L) ∧ srtL (tknL L) = (0, 288) :: (srtE L).map exE := by
  have hl := hf.len
  have hg : Good (L.length : Int) (tknL L) := by
    unfold tknL
    refine ⟨fun e he => ?_, List.pairwise_cons.2 ⟨fun x hx => ?_, List.pairwise_map.2 ?_⟩⟩
    · rcases List.mem_cons.1 he with rfl | he
      · dsimp only; omega
      · obtain ⟨x, hx, rfl⟩ := List.mem_map.1 he
        have := ent_in hf hx
        unfold exE
        dsimp only
        omega
    · obtain ⟨y, hy, rfl⟩ := List.mem_map.1 hx
      have := ent_in hf hy
      rw [over_no]
      unfold exE
      dsimp only
      omega
    · have h1 : (entsK L 40).Pairwise (fun x y => x.1 < y.1) := List.pairwise_map.1 (ents_nodup (L := L) 40).1
      refine h1.imp_of_mem (fun {x y} hx hy h => ?_)
      rw [over_no]
      have := ents_apart hf hx hy (by omega)
      unfold Ahead at this
      unfold exE
      dsimp only
      omega
  refine ⟨hg, (hg.srt_eq (List.Perm.cons _ ((srtE_perm (L := L)).map exE)) (List.pairwise_cons.2 ⟨fun x hx => ?_, List.pairwise_map.2 ((srtE_ahead hf).imp_of_mem (fun {x y} hx hy h => ?_))⟩)).symm⟩
  · obtain ⟨y, hy, rfl⟩ := List.mem_map.1 hx
    have := ent_in hf (srtE_mem.1 hy)
    unfold exE
    dsimp only
    omega
  · have := ent_in hf (srtE_mem.1 hx)
    unfold Ahead at h
    unfold exE
    dsimp only
    omega
theorem tk_chk (hf : Fine L) : chk (L.length : Int) (tknL L) = 0 := by
  have hl := hf.len
  exact chk_zero.2 ⟨by omega, by omega, by have := tknL_len L; omega, (tk_srt hf).1⟩
theorem tk_free (hf : Fine L) : freeL (L.length : Int) (tknL L) = runsOf 288 ((srtE L).map exE ++ [((L.length : Int), 0)]) := by
  unfold freeL freeOf
  rw [if_pos (tk_chk hf), (tk_srt hf).2]
  show (if (0 : Int) < 0 then _ else []) ++ runsOf (0 + 288) _ = _
  rw [if_neg (by omega), List.nil_append, Int.zero_add]
  rfl
/-- Who moves, as the runs tell it. -/
theorem runs_mv : ∀ (l : List (Int × Int × Int × Int)) (a n : Int), l.Pairwise Ahead → (∀ x ∈ l, a ≤ x.2.1) → (∀ x ∈ l, 1 ≤ x.2.2.1) →
    (∀ e p, mvOn a l = some (e, p) → ∃ r, runsOf a (l.map exE ++ [(n, 0)]) = (p, e.2.1 - p) :: r) ∧ (mvOn a l = none → runsOf a (l.map exE ++ [(n, 0)]) = if a + sumE l < n then [(a + sumE l, n - (a + sumE l))] else [])
  | [], a, n, _, _, _ => by
    refine ⟨fun e p h => (by cases h), fun _ => ?_⟩
    show (if a < n then [(a, n - a)] else []) ++ [] = if a + 0 < n then [(a + 0, n - (a + 0))] else []
    rw [Int.add_zero, List.append_nil]
  | e :: r, a, n, hp, ha, hl => by
    rw [List.pairwise_cons] at hp
    have he := ha e (by simp)
    obtain ⟨i1, i2⟩ := runs_mv r (a + e.2.2.1) n hp.2 (fun x hx => by have := hp.1 x hx; unfold Ahead at this; omega) (fun x hx => hl x (by simp [hx]))
    rw [List.map_cons, List.cons_append]
    unfold runsOf
    by_cases hlt : a < e.2.1
    · refine ⟨fun x p h => ?_, fun h => ?_⟩
      · unfold mvOn at h
        rw [if_pos hlt] at h
        obtain ⟨rfl, rfl⟩ : e = x ∧ a = p := by simpa using h
        rw [if_pos (show a < (exE e).1 from hlt)]
        exact ⟨_, rfl⟩
      · unfold mvOn at h
        rw [if_pos hlt] at h
        cases h
    · have e1 : (exE e).1 + (exE e).2 = a + e.2.2.1 := by unfold exE; dsimp only; omega
      rw [if_neg (show ¬ a < (exE e).1 from hlt), e1, List.nil_append]
      refine ⟨fun x p h => ?_, fun h => ?_⟩
      · unfold mvOn at h
        rw [if_neg hlt] at h
        exact i1 x p h
      · unfold mvOn at h
        rw [if_neg hlt] at h
        rw [i2 h]
        have e2 : a + e.2.2.1 + sumE r = a + sumE (e :: r) := by show a + e.2.2.1 + sumE r = a + (e.2.2.1 + sumE r); omega
        rw [e2]
/-- Nobody moves: nothing is free, or what is is the last. -/
theorem mv_none (hf : Fine L) (h : mvS L = none) : freeL (L.length : Int) (tknL L) = [] ∨ ∃ x, freeL (L.length : Int) (tknL L) = [x] ∧ ∀ e ∈ entsK L 40, e.2.1 ≠ x.1 + x.2 := by
  unfold mvS at h
  cases hq : mvOn 288 (srtE L) with
  | some x => rw [hq] at h; cases h
  | none =>
    have := (runs_mv (srtE L) 288 (L.length : Int) (srtE_ahead hf) (srtE_from hf).1 (srtE_from hf).2).2 hq
    rw [tk_free hf, this]
    by_cases hs : 288 + sumE (srtE L) < (L.length : Int)
    · rw [if_pos hs]
      refine .inr ⟨_, rfl, fun e he => ?_⟩
      have := ent_in hf he
      dsimp only
      omega
    · rw [if_neg hs]
      exact .inl rfl
/-- Who moves stands right behind the first run. -/
theorem mv_some (hf : Fine L) {c : List Int} (h : mvS L = some c) : ∃ (x : Int × Int) (r : List (Int × Int)) (i : Nat) (e : (Int × Int × Int × Int)), freeL (L.length : Int) (tknL L) = x :: r ∧ (entsK L 40)[i]? = some e ∧ e.2.1 = x.1 + x.2 ∧ (∀ j y, j < i → (entsK L 40)[j]? = some y → y.2.1 ≠ x.1 + x.2) ∧ c = mvB L e.1 x.1.toNat ∧ 288 ≤ x.1 ∧ 1 ≤ x.2 := by
  unfold mvS at h
  cases hq : mvOn 288 (srtE L) with
  | none => rw [hq] at h; cases h
  | some y =>
    obtain ⟨e, p⟩ := y
    rw [hq] at h
    obtain rfl : mvB L e.1 p.toNat = c := by simpa using h
    obtain ⟨_, hp, hlt, he⟩ := step_moved hf hq
    obtain ⟨r, hr⟩ := (runs_mv (srtE L) 288 (L.length : Int) (srtE_ahead hf) (srtE_from hf).1 (srtE_from hf).2).1 e p hq
    obtain ⟨i, hi, hie⟩ := List.getElem_of_mem he
    refine ⟨(p, e.2.1 - p), r, i, e, by rw [tk_free hf, hr], by rw [List.getElem?_eq_getElem hi, hie], by dsimp only; omega, fun j y hj hy hat => ?_, rfl, hp, by dsimp only; omega⟩
    have hy' := List.mem_of_getElem? hy
    have e0 : y.2.1 = e.2.1 := by rw [hat]; dsimp only; omega
    have hye : y = e := by
      by_cases hne : y.1 = e.1
      · exact ents_one hy' he hne
      · have h1 := ents_apart hf hy' he hne
        have h2 := ent_in hf hy'
        have h3 := ent_in hf he
        unfold Ahead at h1
        omega
    have hnd := List.pairwise_iff_getElem.1 (List.pairwise_map.1 (ents_nodup (L := L) 40).1) j i (by omega) hi hj
    obtain ⟨hj2, hj3⟩ := List.getElem?_eq_some_iff.1 hy
    rw [hj3, hye, hie] at hnd
    omega
/-! ### what is gained -/
theorem runs_sh : ∀ (l : List (Int × Int × Int × Int)) (a n : Int), runsOf (a + 288) (l.map exE ++ [(n + 288, 0)]) = (runsOf a (l.map shE ++ [(n, 0)])).map (fun x => (x.1 + 288, x.2))
  | [], a, n => by
    show (if a + 288 < n + 288 then _ else []) ++ [] = List.map _ ((if a < n then _ else []) ++ [])
    by_cases h : a < n
    · rw [if_pos h, if_pos (by omega)]
      simp only [List.append_nil, List.map_cons, List.map_nil]
      congr 2
      omega
    · rw [if_neg h, if_neg (by omega)]
      rfl
  | e :: r, a, n => by
    rw [List.map_cons, List.map_cons, List.cons_append, List.cons_append]
    unfold runsOf
    have ih := runs_sh r ((shE e).1 + (shE e).2) n
    rw [show (shE e).1 + (shE e).2 + 288 = (exE e).1 + (exE e).2 by unfold shE exE; dsimp only; omega] at ih
    rw [List.map_append, ih]
    congr 1
    by_cases h : a < (shE e).1
    · rw [if_pos h, if_pos (by unfold shE at h; unfold exE; dsimp only at h ⊢; omega)]
      simp only [List.map_cons, List.map_nil]
      congr 2
      unfold shE exE
      dsimp only
      omega
    · rw [if_neg h, if_neg (by unfold shE at h; unfold exE; dsimp only at h ⊢; omega)]
      rfl
theorem lenSum_up : ∀ l : List (Int × Int), lenSum (l.map (fun x => (x.1 + 288, x.2))) = lenSum l
  | [] => rfl
  | e :: r => by rw [List.map_cons, lenSum_cons, lenSum_cons, lenSum_up r]
theorem most_up : ∀ (l : List (Int × Int)) (m : Int), mostOf m (l.map (fun x => (x.1 + 288, x.2))) = mostOf m l
  | [], m => rfl
  | e :: r, m => by
    unfold mostOf
    rw [List.map_cons, List.foldl_cons, List.foldl_cons]
    exact most_up r _
theorem tk_free_up (hf : Fine L) : freeL (L.length : Int) (tknL L) = (freeL ((L.length : Int) - 288) (takeL L)).map (fun x => (x.1 + 288, x.2)) := by
  have hl := hf.len
  have hc : chk ((L.length : Int) - 288) (takeL L) = 0 := chk_zero.2 ⟨by omega, by omega, by have := takeL_len L; omega, take_good hf⟩
  rw [tk_free hf]
  unfold freeL freeOf
  rw [if_pos hc, srt_take hf]
  have := runs_sh (srtE L) 0 ((L.length : Int) - 288)
  rw [Int.zero_add, show (L.length : Int) - 288 + 288 = L.length by omega] at this
  exact this
/-- What is gained is what is free less the longest run. -/
def gnL (L : List Int) : Int := lenSum (freeL ((L.length : Int) - 288) (takeL L)) - mostOf 0 (freeL ((L.length : Int) - 288) (takeL L))
theorem gn_code (hf : Fine L) : lenSum (freeL (L.length : Int) (tknL L)) - mostOf 0 (freeL (L.length : Int) (tknL L)) = gnL L := by
  rw [tk_free_up hf, lenSum_up, most_up]
  rfl
/-! ### the reference's way: the least that stands from a place on -/
/-- The first of those from a place on that stand least. -/
def bsE (a : Int) (b : Option (Int × Int × Int × Int)) (e : (Int × Int × Int × Int)) : Option (Int × Int × Int × Int) := if a ≤ e.2.1 ∧ (∀ x, b = some x → e.2.1 < x.2.1) then some e else b
def bsL (a : Int) (l : List (Int × Int × Int × Int)) : Option (Int × Int × Int × Int) := l.foldl (bsE a) none
theorem bsL_spec (a : Int) : ∀ (l : List (Int × Int × Int × Int)) (b : Option (Int × Int × Int × Int)) , (∀ x, b = some x → a ≤ x.2.1) →
    match l.foldl (bsE a) b with
    | none => b = none ∧ ∀ x ∈ l, x.2.1 < a
    | some y => (b = some y ∨ y ∈ l) ∧ a ≤ y.2.1 ∧ (∀ x, b = some x → y.2.1 ≤ x.2.1) ∧ ∀ x ∈ l, a ≤ x.2.1 → y.2.1 ≤ x.2.1
  | [], b, hb => by
    rw [List.foldl_nil]
    cases b with
    | none => exact ⟨rfl, fun x hx => by cases hx⟩
    | some y => exact ⟨.inl rfl, hb y rfl, fun x hx => (by cases hx; exact Int.le_refl _), fun x hx => by cases hx⟩
  | e :: r, b, hb => by
    rw [List.foldl_cons]
    by_cases hc : a ≤ e.2.1 ∧ (∀ x, b = some x → e.2.1 < x.2.1)
    · have e1 : bsE a b e = some e := by unfold bsE; rw [if_pos hc]
      rw [e1]
      have ih := bsL_spec a r (some e) (fun x hx => by cases hx; exact hc.1)
      cases hq : r.foldl (bsE a) (some e) with
      | none => rw [hq] at ih; exact absurd ih.1 (by simp)
      | some y =>
        rw [hq] at ih
        obtain ⟨i1, i2, i3, i4⟩ := ih
        have i5 := i3 e rfl
        refine ⟨?_, i2, fun x hx => ?_, fun x hx hax => ?_⟩
        · rcases i1 with i1 | i1
          · exact .inr (by cases i1; simp)
          · exact .inr (by simp [i1])
        · have := hc.2 x hx; omega
        · rcases List.mem_cons.1 hx with rfl | hx
          · exact i5
          · exact i4 x hx hax
    · have e1 : bsE a b e = b := by unfold bsE; rw [if_neg hc]
      rw [e1]
      have ih := bsL_spec a r b hb
      cases hq : r.foldl (bsE a) b with
      | none =>
        rw [hq] at ih
        obtain ⟨rfl, i2⟩ := ih
        refine ⟨rfl, fun x hx => ?_⟩
        rcases List.mem_cons.1 hx with rfl | hx
        · by_cases h : a ≤ x.2.1
          · exact absurd ⟨h, fun y hy => by cases hy⟩ hc
          · omega
        · exact i2 x hx
      | some y =>
        rw [hq] at ih
        obtain ⟨i1, i2, i3, i4⟩ := ih
        refine ⟨?_, i2, i3, fun x hx hax => ?_⟩
        · rcases i1 with i1 | i1
          · exact .inl i1
          · exact .inr (by simp [i1])
        · rcases List.mem_cons.1 hx with rfl | hx
          · by_cases h : ∀ z, b = some z → x.2.1 < z.2.1
            · exact absurd ⟨hax, h⟩ hc
            · cases b with
              | none => exact absurd (fun z hz => by cases hz) h
              | some z =>
                have h1 := i3 z rfl
                by_cases h2 : x.2.1 < z.2.1
                · exact absurd (fun z' hz => by cases hz; exact h2) h
                · omega
          · exact i4 x hx hax
/-- Those that stand from a place on, where those ahead of it stand ahead of it. -/
theorem bs_gen {T E l1 l2 : List (Int × Int × Int × Int)} {a : Int} (hsa : T.Pairwise Ahead) (hmm : ∀ x, x ∈ T ↔ x ∈ E) (hin : ∀ e ∈ E, 1 ≤ e.2.2.1) (hs : T = l1 ++ l2) (h1 : ∀ x ∈ l1, x.2.1 < a) (h2 : ∀ x ∈ l2, a ≤ x.2.1) : bsL a E = l2.head? := by
  have hsp := bsL_spec a E none (fun x hx => by cases hx)
  unfold bsL
  cases hq : E.foldl (bsE a) none with
  | none =>
    rw [hq] at hsp
    cases l2 with
    | nil => rfl
    | cons e r =>
      have hm : e ∈ E := (hmm e).1 (by rw [hs]; simp)
      have := hsp.2 e hm
      have := h2 e (by simp)
      omega
  | some y =>
    rw [hq] at hsp
    obtain ⟨q1, q2, _, q4⟩ := hsp
    have hy : y ∈ E := by
      rcases q1 with q1 | q1
      · cases q1
      · exact q1
    have hy2 : y ∈ l1 ++ l2 := by rw [← hs]; exact (hmm y).2 hy
    rcases List.mem_append.1 hy2 with hm | hm
    · have := h1 y hm
      omega
    · cases l2 with
      | nil => cases hm
      | cons e r =>
        have hem : e ∈ E := (hmm e).1 (by rw [hs]; simp)
        have h3 := q4 e hem (h2 e (by simp))
        rcases List.mem_cons.1 hm with rfl | hm
        · rfl
        · rw [hs, List.pairwise_append, List.pairwise_cons] at hsa
          have h4 := hsa.2.1.1 y hm
          have h5 := hin e hem
          unfold Ahead at h4
          omega
theorem bs_sorted (hf : Fine L) {l1 l2 : List (Int × Int × Int × Int)} {a : Int} (hs : srtE L = l1 ++ l2) (h1 : ∀ x ∈ l1, x.2.1 < a) (h2 : ∀ x ∈ l2, a ≤ x.2.1) : bsL a (entsK L 40) = l2.head? :=
  bs_gen (srtE_ahead hf) (fun x => srtE_mem) (fun e he => (ent_in hf he).2.2.2.2.2.1) hs h1 h2
/-! ### all steps -/
theorem mvF_more (n : Nat) : ∀ {L : List Int}, Fine L → mvN 288 (srtE L) ≤ n → mvF (n + 1) L = mvF n L := by
  induction n with
  | zero =>
    intro L hf h
    cases hq : mvS L with
    | none => rw [mvF_none hq]; rfl
    | some c =>
      have h2 := (step_as hf hq).2
      rw [h2] at h
      exact absurd h (Nat.not_succ_le_zero _)
  | succ n ih =>
    intro L hf h
    cases hq : mvS L with
    | none => rw [mvF_none hq, mvF_none hq]
    | some c =>
      obtain ⟨a, hn⟩ := step_as hf hq
      rw [hn] at h
      rw [mvF_some hq, mvF_some hq, ih a.fine (Nat.le_of_succ_le_succ h)]
theorem mvA_none (h : mvS L = none) : mvA L = L := mvF_none h
theorem mvA_some (hf : Fine L) {c : List Int} (h : mvS L = some c) : mvA L = mvA c := by
  obtain ⟨a, hn⟩ := step_as hf h
  have h40 := mvN_forty (L := L)
  rw [hn] at h40
  have e1 : mvA L = mvF 39 c := mvF_some h
  have e2 : mvA c = mvF 39 c := mvF_more 39 a.fine (Nat.le_of_succ_le_succ h40)
  rw [e1, e2]
theorem mvA_byt (hb : Byt L) : Byt (mvA L) := by
  have : ∀ (n : Nat) (L : List Int), Byt L → Byt (mvF n L) := by
    intro n
    induction n with
    | zero => intro L hb; exact hb
    | succ n ih =>
      intro L hb
      cases hq : mvS L with
      | none => rw [mvF_none hq]; exact hb
      | some c =>
        rw [mvF_some hq]
        refine ih c ?_
        unfold mvS at hq
        cases h2 : mvOn 288 (srtE L) with
        | none => rw [h2] at hq; cases hq
        | some x =>
          rw [h2] at hq
          obtain rfl : mvB L x.1.1 x.2.toNat = c := by simpa using hq
          exact mv_byt hb _ _
  exact this 40 L hb
/-- How far the reference has looked: those ahead of a place stand together. -/
structure StpAt (L : List Int) (a : Int) (l1 l2 : List (Int × Int × Int × Int)) : Prop where
  eq : srtE L = l1 ++ l2
  lo : ∀ x ∈ l1, x.2.1 < a
  hi : ∀ x ∈ l2, a ≤ x.2.1
  on : mvOn 288 (srtE L) = mvOn a l2
  b1 : 288 ≤ a
  b2 : a ≤ L.length
theorem StpAt.start (hf : Fine L) : StpAt L 288 [] (srtE L) := by
  have hl := hf.len
  exact ⟨rfl, (fun x hx => by cases hx), (srtE_from hf).1, rfl, Int.le_refl _, by omega⟩
theorem StpAt.best (hf : Fine L) {a : Int} {l1 l2 : List (Int × Int × Int × Int)} (s : StpAt L a l1 l2) : bsL a (entsK L 40) = l2.head? := bs_sorted hf s.eq s.lo s.hi
theorem StpAt.next (hf : Fine L) {a : Int} {l1 r : List (Int × Int × Int × Int)} {e : (Int × Int × Int × Int)} (s : StpAt L a l1 (e :: r)) (he : ¬ a < e.2.1) : StpAt L (a + e.2.2.1) (l1 ++ [e]) r ∧ e.2.1 = a ∧ 1 ≤ e.2.2.1 := by
  have h1 := s.hi e (by simp)
  have hem : e ∈ entsK L 40 := srtE_mem.1 (by rw [s.eq]; simp)
  have hi := ent_in hf hem
  have hsa := srtE_ahead hf
  rw [s.eq, List.pairwise_append, List.pairwise_cons] at hsa
  refine ⟨⟨by rw [s.eq]; simp, fun x hx => ?_, fun x hx => ?_, ?_, by have := s.b1; omega, by omega⟩, by omega, hi.2.2.2.2.2.1⟩
  · rcases List.mem_append.1 hx with hx | hx
    · have := s.lo x hx; omega
    · rw [List.mem_singleton.1 hx]; omega
  · have := hsa.2.1.1 x hx
    unfold Ahead at this
    omega
  · rw [s.on]
    show (if a < e.2.1 then some (e, a) else mvOn (a + e.2.2.1) r) = _
    rw [if_neg he]
theorem StpAt.move (hf : Fine L) {a : Int} {l1 r : List (Int × Int × Int × Int)} {e : (Int × Int × Int × Int)} (s : StpAt L a l1 (e :: r)) (he : a < e.2.1) : mvS L = some (mvB L e.1 a.toNat) ∧ e ∈ entsK L 40 := by
  have hem : e ∈ entsK L 40 := srtE_mem.1 (by rw [s.eq]; simp)
  refine ⟨?_, hem⟩
  unfold mvS
  rw [s.on]
  show Option.map _ (if a < e.2.1 then some (e, a) else _) = _
  rw [if_pos he]
  rfl
theorem StpAt.stop {a : Int} {l1 : List (Int × Int × Int × Int)} (s : StpAt L a l1 []) : mvS L = none := by
  unfold mvS
  rw [s.on]
  rfl
end
end Go.Proofs.YtopblhmbjdfebaaGreat
/-! Ways from roots: the shortest, the first of those; as plain lists. (Part of the proofs over who is led to.) -/
namespace Go.Proofs.YtopblhmbjdfebaaGreat
set_option linter.unusedVariables false

/-- A way as a number: one that is shorter, or as short and first, is the less. -/
def rk (a : List Int) : Nat := a.foldl (fun n x => n * 41 + x.toNat) 0
/-- Handles alone. -/
def Dg (a : List Int) : Prop := ∀ x ∈ a, 1 ≤ x ∧ x ≤ 40
theorem rk_fold (a : List Int) : ∀ n : Nat, a.foldl (fun n x => n * 41 + x.toNat) n = n * 41 ^ a.length + rk a := by
  unfold rk
  induction a with
  | nil => intro n; simp
  | cons x r ih =>
    intro n
    simp only [List.foldl_cons, List.length_cons]
    rw [ih (n * 41 + x.toNat), ih (0 * 41 + x.toNat), Nat.pow_succ, Nat.add_mul, Nat.zero_mul, Nat.zero_add]
    rw [show n * 41 * 41 ^ r.length = n * (41 ^ r.length * 41) by rw [Nat.mul_assoc, Nat.mul_comm 41]]
    omega
theorem rk_cons (x : Int) (a : List Int) : rk (x :: a) = x.toNat * 41 ^ a.length + rk a := by
  have := rk_fold a (0 * 41 + x.toNat)
  rw [Nat.zero_mul, Nat.zero_add] at this
  show a.foldl (fun n x => n * 41 + x.toNat) (0 * 41 + x.toNat) = _
  rw [Nat.zero_mul, Nat.zero_add]
  exact this
theorem rk_snoc (a : List Int) (x : Int) : rk (a ++ [x]) = rk a * 41 + x.toNat := by
  unfold rk
  rw [List.foldl_append]
  rfl
theorem Dg.tail {x : Int} {a : List Int} (h : Dg (x :: a)) : Dg a := fun y hy => h y (by simp [hy])
theorem Dg.snoc {x : Int} {a : List Int} (h : Dg a) (h1 : 1 ≤ x) (h2 : x ≤ 40) : Dg (a ++ [x]) := fun y hy => by
  rcases List.mem_append.1 hy with hy | hy
  · exact h y hy
  · rw [List.mem_singleton.1 hy]; exact ⟨h1, h2⟩
theorem rk_lt {a : List Int} (h : Dg a) : rk a < 41 ^ a.length := by
  induction a with
  | nil => simp [rk]
  | cons x r ih =>
    have h1 := h x (by simp)
    have h2 := ih h.tail
    rw [rk_cons, List.length_cons, Nat.pow_succ]
    have h3 : x.toNat * 41 ^ r.length ≤ 40 * 41 ^ r.length := Nat.mul_le_mul_right _ (by omega)
    omega
theorem rk_ge {a : List Int} (h : Dg a) (hn : a ≠ []) : 41 ^ (a.length - 1) ≤ rk a := by
  cases a with
  | nil => exact absurd rfl hn
  | cons x r =>
    have h1 := h x (by simp)
    rw [rk_cons, List.length_cons, Nat.add_sub_cancel]
    have h3 : 1 * 41 ^ r.length ≤ x.toNat * 41 ^ r.length := Nat.mul_le_mul_right _ (by omega)
    omega
theorem rk_short {a b : List Int} (ha : Dg a) (hb : Dg b) (h : a.length < b.length) : rk a < rk b := by
  have h1 := rk_lt ha
  have h2 := rk_ge hb (by intro e; rw [e] at h; simp at h)
  have h3 : 41 ^ a.length ≤ 41 ^ (b.length - 1) := Nat.pow_le_pow_right (by decide) (by omega)
  omega
theorem rk_inj : ∀ {a b : List Int}, Dg a → Dg b → rk a = rk b → a = b := by
  intro a
  induction a with
  | nil =>
    intro b _ hb h
    cases b with
    | nil => rfl
    | cons y s =>
      have := rk_short (a := []) (b := y :: s) (fun x hx => by cases hx) hb (by simp)
      omega
  | cons x r ih =>
    intro b ha hb h
    cases b with
    | nil =>
      have := rk_short (a := []) (b := x :: r) (fun x hx => by cases hx) ha (by simp)
      omega
    | cons y s =>
      have hl : r.length = s.length := by
        rcases Nat.lt_trichotomy r.length s.length with hl | hl | hl
        · have := rk_short ha hb (by simpa using hl); omega
        · exact hl
        · have := rk_short hb ha (by simpa using hl); omega
      rw [rk_cons, rk_cons, hl] at h
      have h1 := rk_lt ha.tail
      have h2 := rk_lt hb.tail
      rw [hl] at h1
      have hx := ha x (by simp)
      have hy := hb y (by simp)
      have hxy : x.toNat = y.toNat := by
        rcases Nat.lt_trichotomy x.toNat y.toNat with hq | hq | hq
        · have h3 : (x.toNat + 1) * 41 ^ s.length ≤ y.toNat * 41 ^ s.length := Nat.mul_le_mul_right _ (by omega)
          rw [Nat.add_mul, Nat.one_mul] at h3
          omega
        · exact hq
        · have h3 : (y.toNat + 1) * 41 ^ s.length ≤ x.toNat * 41 ^ s.length := Nat.mul_le_mul_right _ (by omega)
          rw [Nat.add_mul, Nat.one_mul] at h3
          omega
      rw [hxy] at h
      have hrs : rk r = rk s := by omega
      rw [show x = y by omega, ih ha.tail hb.tail hrs]
/-! ### which is the less -/
/-- Is the first number that differs the less? -/
def lexL : List Int → List Int → Bool
  | x :: a, y :: b => if x = y then lexL a b else decide (x < y)
  | _, _ => false
/-- Is a way shorter, or as short, and first? -/
def wLess (a b : List Int) : Bool := if a.length = b.length then lexL a b else decide (a.length < b.length)
theorem lexL_at {a b : List Int} {k : Nat} {x y : Int} (hx : a[k]? = some x) (hy : b[k]? = some y) : lexL (a.drop k) (b.drop k) = if x = y then lexL (a.drop (k + 1)) (b.drop (k + 1)) else decide (x < y) := by
  obtain ⟨h1, rfl⟩ := List.getElem?_eq_some_iff.1 hx
  obtain ⟨h2, rfl⟩ := List.getElem?_eq_some_iff.1 hy
  rw [List.drop_eq_getElem_cons h1, List.drop_eq_getElem_cons h2]
  rfl
theorem lexL_rk : ∀ {a b : List Int}, Dg a → Dg b → a.length = b.length → lexL a b = decide (rk a < rk b)
  | [], [], _, _, _ => by simp [lexL]
  | [], y :: b, _, _, h => by simp at h
  | x :: a, [], _, _, h => by simp at h
  | x :: a, y :: b, ha, hb, h => by
    have hl : a.length = b.length := by simpa using h
    have h1 := rk_lt ha.tail
    have h2 := rk_lt hb.tail
    have hx := ha x (by simp)
    have hy := hb y (by simp)
    unfold lexL
    rw [rk_cons, rk_cons, hl]
    rw [hl] at h1
    by_cases e : x = y
    · subst e
      rw [if_pos rfl, lexL_rk ha.tail hb.tail hl, decide_eq_decide]
      omega
    · rw [if_neg e, decide_eq_decide]
      constructor
      · intro hlt
        have h3 : (x.toNat + 1) * 41 ^ b.length ≤ y.toNat * 41 ^ b.length := Nat.mul_le_mul_right _ (by omega)
        rw [Nat.add_mul, Nat.one_mul] at h3
        omega
      · intro hlt
        refine Classical.byContradiction fun hc => ?_
        have h3 : (y.toNat + 1) * 41 ^ b.length ≤ x.toNat * 41 ^ b.length := Nat.mul_le_mul_right _ (by omega)
        rw [Nat.add_mul, Nat.one_mul] at h3
        omega
theorem wLess_rk {a b : List Int} (ha : Dg a) (hb : Dg b) : wLess a b = decide (rk a < rk b) := by
  unfold wLess
  by_cases h : a.length = b.length
  · rw [if_pos h, lexL_rk ha hb h]
  · rw [if_neg h, decide_eq_decide]
    constructor
    · exact rk_short ha hb
    · intro hlt
      refine Classical.byContradiction fun hc => ?_
      have := rk_short hb ha (by omega)
      omega
/-! ### ways -/
/-- A way from a root to a handle: each names the next. -/
def Way (roots : List Int) (refs : Int → List Int) (p : List Int) (h : Int) : Prop :=
  ∀ Q : List Int → Int → Prop, (∀ r, r ∈ roots → Q [r] r) → (∀ q g x, Q q g → x ∈ refs g → Q (q ++ [x]) x) → Q p h
theorem Way.root {roots : List Int} {refs : Int → List Int} {r : Int} (h : r ∈ roots) : Way roots refs [r] r := fun Q h1 h2 => h1 r h
theorem Way.step {roots : List Int} {refs : Int → List Int} {q : List Int} {g x : Int} (w : Way roots refs q g) (h : x ∈ refs g) : Way roots refs (q ++ [x]) x := fun Q h1 h2 => h2 q g x (w Q h1 h2) h
/-- What holds of each root's way, and of each way by one step more, holds of every way. -/
theorem Way.ind {roots : List Int} {refs : Int → List Int} (P : List Int → Int → Prop) (hr : ∀ r, r ∈ roots → P [r] r) (hs : ∀ q g x, Way roots refs q g → x ∈ refs g → P q g → P (q ++ [x]) x) {p : List Int} {h : Int} (w : Way roots refs p h) : P p h :=
  (w (fun p h => Way roots refs p h ∧ P p h) (fun r hm => ⟨.root hm, hr r hm⟩) (fun q g x hq hx => ⟨hq.1.step hx, hs q g x hq.1 hx hq.2⟩)).2
theorem Way.parts {roots : List Int} {refs : Int → List Int} {p : List Int} {h : Int} (w : Way roots refs p h) : h ∈ roots ∨ ∃ q g, Way roots refs q g ∧ h ∈ refs g :=
  w.ind (fun p h => h ∈ roots ∨ ∃ q g, Way roots refs q g ∧ h ∈ refs g) (fun r hr => .inl hr) (fun q g x wq hx _ => .inr ⟨q, g, wq, hx⟩)
section
variable {roots : List Int} {refs : Int → List Int}
theorem Way.dg (hr : Dg roots) (hf : ∀ g, Dg (refs g)) {p : List Int} {h : Int} (w : Way roots refs p h) : Dg p ∧ 1 ≤ h ∧ h ≤ 40 ∧ p ≠ [] := by
  refine w.ind (fun p h => Dg p ∧ 1 ≤ h ∧ h ≤ 40 ∧ p ≠ []) (fun r hm => ?_) (fun q g x _ hm ih => ?_)
  · have := hr _ hm
    exact ⟨fun y hy => by rw [List.mem_singleton.1 hy]; exact this, this.1, this.2, by simp⟩
  · have := hf _ _ hm
    exact ⟨ih.1.snoc this.1 this.2, this.1, this.2, by simp⟩
/-- Nothing more to shorten: each has the least way there is. -/
structure Still (roots : List Int) (refs : Int → List Int) (W : Int → List Int) : Prop where
  base : ∀ r ∈ roots, W r ≠ [] ∧ rk (W r) ≤ rk [r]
  next : ∀ h, W h ≠ [] → ∀ x ∈ refs h, W x ≠ [] ∧ rk (W x) ≤ rk (W h ++ [x])
  way : ∀ h, W h ≠ [] → Way roots refs (W h) h
theorem Still.least {W : Int → List Int} (s : Still roots refs W) {p : List Int} {h : Int} (w : Way roots refs p h) : W h ≠ [] ∧ rk (W h) ≤ rk p := by
  refine w.ind (fun p h => W h ≠ [] ∧ rk (W h) ≤ rk p) (fun r hm => s.base _ hm) (fun q g x _ hm ih => ?_)
  obtain ⟨h1, h2⟩ := s.next _ ih.1 _ hm
  refine ⟨h1, Nat.le_trans h2 ?_⟩
  rw [rk_snoc, rk_snoc]
  have := ih.2
  omega
/-- There is but one such. -/
theorem Still.one (hr : Dg roots) (hf : ∀ g, Dg (refs g)) {V W : Int → List Int} (s : Still roots refs V) (t : Still roots refs W) (h : Int) : V h = W h := by
  by_cases h1 : V h = []
  · by_cases h2 : W h = []
    · rw [h1, h2]
    · exact absurd h1 (s.least (t.way h h2)).1
  · by_cases h2 : W h = []
    · exact absurd h2 (t.least (s.way h h1)).1
    · have a := s.least (t.way h h2)
      have b := t.least (s.way h h1)
      exact rk_inj ((s.way h h1).dg hr hf).1 ((t.way h h2).dg hr hf).1 (by omega)
end
end Go.Proofs.YtopblhmbjdfebaaGreat
/-! Pass by pass over all handles, till nothing can be shortened; as plain lists. (Part of the proofs over who is led to.) -/
namespace Go.Proofs.YtopblhmbjdfebaaGreat
set_option linter.unusedVariables false

/-- The way that is written for a handle. -/
def gW (W : List (List Int)) (h : Int) : List Int := W.getD h.toNat []
theorem sum_set (f : List Int → Nat) : ∀ (W : List (List Int)) (i : Nat) (n : List Int), i < W.length → ((W.set i n).map f).sum + f (W.getD i []) = (W.map f).sum + f n
  | [], i, n, h => absurd h (Nat.not_lt_zero i)
  | p :: r, 0, n, h => by simp [List.getD]; omega
  | p :: r, i + 1, n, h => by
    have := sum_set f r i n (by simpa using h)
    simp only [List.set_cons_succ, List.map_cons, List.sum_cons, List.getD_cons_succ] at *
    omega
theorem gW_set {W : List (List Int)} {x y : Int} {n : List Int} (hx : 0 ≤ x) (hl : x.toNat < W.length) (hy : 0 ≤ y) : gW (W.set x.toNat n) y = if y = x then n else gW W y := by
  unfold gW
  by_cases e : y = x
  · subst e
    rw [if_pos rfl]
    simp [List.getD, hl]
  · rw [if_neg e]
    have : x.toNat ≠ y.toNat := by omega
    simp [List.getD, this]
/-- May a way be written, or shortened? -/
def shB (W : List (List Int)) (h x : Int) : Bool := decide (gW W x = []) || decide (rk (gW W h ++ [x]) < rk (gW W x))
theorem shB_no {W : List (List Int)} {h x : Int} : shB W h x = false ↔ gW W x ≠ [] ∧ rk (gW W x) ≤ rk (gW W h ++ [x]) := by
  unfold shB
  rw [Bool.or_eq_false_iff, decide_eq_false_iff_not, decide_eq_false_iff_not]
  constructor
  · rintro ⟨h1, h2⟩; exact ⟨h1, by omega⟩
  · rintro ⟨h1, h2⟩; exact ⟨h1, by omega⟩
def st1 (s : List (List Int) × Bool) (h x : Int) : List (List Int) × Bool := if shB s.1 h x = true then (s.1.set x.toNat (gW s.1 h ++ [x]), true) else s
def stR (s : List (List Int) × Bool) (h : Int) (rs : List Int) : List (List Int) × Bool := rs.foldl (fun s x => st1 s h x) s
def stH (refs : Int → List Int) (s : List (List Int) × Bool) (h : Int) : List (List Int) × Bool := if gW s.1 h = [] then s else stR s h (refs h)
/-- The first k handles, one after the other. -/
def stP (refs : Int → List Int) (W : List (List Int)) : Nat → List (List Int) × Bool
  | 0 => (W, false)
  | k + 1 => stH refs (stP refs W k) ((k : Int) + 1)
def big : Nat := 41 ^ 43
def fMu (p : List Int) : Nat := if p = [] then big else rk p
def fCn (p : List Int) : Nat := if p = [] then 0 else 1
/-- What each change lessens. -/
def muW (W : List (List Int)) : Nat := (W.map fMu).sum
def cnW (W : List (List Int)) : Nat := (W.map fCn).sum
theorem cnW_le (W : List (List Int)) : cnW W ≤ W.length := by
  unfold cnW
  induction W with
  | nil => simp
  | cons p r ih =>
    simp only [List.map_cons, List.sum_cons, List.length_cons]
    have : fCn p ≤ 1 := by unfold fCn; split <;> omega
    omega
structure WInv (roots : List Int) (refs : Int → List Int) (W : List (List Int)) : Prop where
  len : W.length = 41
  way : ∀ h, 0 ≤ h → gW W h ≠ [] → Way roots refs (gW W h) h
  short : ∀ h, 0 ≤ h → (gW W h).length ≤ cnW W
  base : ∀ r ∈ roots, gW W r ≠ [] ∧ rk (gW W r) ≤ rk [r]
section
variable {roots : List Int} {refs : Int → List Int}
/-- One change: all that is known stays, and there is less left. -/
theorem WInv.set (hr : Dg roots) (hf : ∀ g, Dg (refs g)) {W : List (List Int)} (I : WInv roots refs W) {h x : Int} (hh : 0 ≤ h) (hw : gW W h ≠ []) (hx : x ∈ refs h) (hs : shB W h x = true) :
    WInv roots refs (W.set x.toNat (gW W h ++ [x])) ∧ muW (W.set x.toNat (gW W h ++ [x])) < muW W := by
  have hxb := hf h x hx
  have hl : x.toNat < W.length := by rw [I.len]; omega
  have hwy := Way.step (I.way h hh hw) hx
  have hdg := hwy.dg hr hf
  have hcn := cnW_le W
  have hsh := I.short h hh
  have hlen := I.len
  have e1 := sum_set fMu W x.toNat (gW W h ++ [x]) hl
  have e2 := sum_set fCn W x.toNat (gW W h ++ [x]) hl
  have hn : gW W h ++ [x] ≠ [] := by simp
  have f1 : fMu (gW W h ++ [x]) = rk (gW W h ++ [x]) := by unfold fMu; rw [if_neg hn]
  have f2 : fCn (gW W h ++ [x]) = 1 := by unfold fCn; rw [if_neg hn]
  have hrk := rk_lt hdg.1
  have hbig : rk (gW W h ++ [x]) < big := by
    refine Nat.lt_of_lt_of_le hrk ?_
    unfold big
    refine Nat.pow_le_pow_right (by decide) ?_
    rw [List.length_append]
    simp
    omega
  have hg : W.getD x.toNat [] = gW W x := rfl
  rw [hg] at e1 e2
  have hmu : muW (W.set x.toNat (gW W h ++ [x])) < muW W ∧ rk (gW W h ++ [x]) < fMu (gW W x) := by
    have : rk (gW W h ++ [x]) < fMu (gW W x) := by
      unfold fMu
      by_cases h0 : gW W x = []
      · rw [if_pos h0]; exact hbig
      · rw [if_neg h0]
        refine Classical.byContradiction fun hc => ?_
        rw [shB_no.2 ⟨h0, by omega⟩] at hs
        cases hs
    refine ⟨?_, this⟩
    unfold muW
    rw [f1] at e1
    omega
  have hcn2 : cnW (W.set x.toNat (gW W h ++ [x])) + fCn (gW W x) = cnW W + 1 := by unfold cnW; rw [f2] at e2; exact e2
  have hfc : fCn (gW W x) ≤ 1 := by unfold fCn; split <;> omega
  refine ⟨⟨by rw [List.length_set]; exact hlen, fun y hy hne => ?_, fun y hy => ?_, fun r hm => ?_⟩, hmu.1⟩
  · rw [gW_set (by omega) hl hy] at hne ⊢
    by_cases e : y = x
    · subst e; rw [if_pos rfl]; exact hwy
    · rw [if_neg e] at hne ⊢; exact I.way y hy hne
  · rw [gW_set (by omega) hl hy]
    by_cases e : y = x
    · subst e
      rw [if_pos rfl]
      by_cases h0 : gW W y = []
      · have : fCn (gW W y) = 0 := by unfold fCn; rw [if_pos h0]
        rw [List.length_append]
        simp
        omega
      · have h1 : fCn (gW W y) = 1 := by unfold fCn; rw [if_neg h0]
        have h2 : rk (gW W h ++ [y]) < rk (gW W y) := by have := hmu.2; unfold fMu at this; rw [if_neg h0] at this; exact this
        have h3 := I.short y hy
        have h4 : (gW W h ++ [y]).length ≤ (gW W y).length := Classical.byContradiction fun hc => by
          have := rk_short ((I.way y hy h0).dg hr hf).1 hdg.1 (by omega)
          omega
        omega
    · rw [if_neg e]
      have := I.short y hy
      omega
  · have hrb := hr r hm
    rw [gW_set (by omega) hl (by omega)]
    by_cases e : r = x
    · subst e
      rw [if_pos rfl]
      refine ⟨hn, ?_⟩
      have hb := I.base r hm
      have := hmu.2
      unfold fMu at this
      rw [if_neg hb.1] at this
      omega
    · rw [if_neg e]; exact I.base r hm
end
/-- Some changes, or none. -/
structure Prog (roots : List Int) (refs : Int → List Int) (s s' : List (List Int) × Bool) : Prop where
  inv : WInv roots refs s'.1
  flag : s'.2 = false → s' = s
  mu : muW s'.1 ≤ muW s.1
  less : s.2 = false → s'.2 = true → muW s'.1 < muW s.1
  keep : ∀ y, 0 ≤ y → gW s.1 y ≠ [] → gW s'.1 y ≠ []
theorem Prog.refl {roots : List Int} {refs : Int → List Int} {s : List (List Int) × Bool} (I : WInv roots refs s.1) : Prog roots refs s s :=
  ⟨I, fun _ => rfl, Nat.le_refl _, fun h1 h2 => (by rw [h1] at h2; cases h2), fun _ _ h => h⟩
theorem Prog.trans {roots : List Int} {refs : Int → List Int} {a b c : List (List Int) × Bool} (p : Prog roots refs a b) (q : Prog roots refs b c) : Prog roots refs a c := by
  refine ⟨q.inv, fun h => ?_, Nat.le_trans q.mu p.mu, fun h1 h2 => ?_, fun y hy h => q.keep y hy (p.keep y hy h)⟩
  · have e := q.flag h
    rw [e] at h ⊢
    exact p.flag h
  · have hp := p.mu
    have hq := q.mu
    cases hb : b.2 with
    | true => have := p.less h1 hb; omega
    | false => have := q.less hb h2; omega
section
variable {roots : List Int} {refs : Int → List Int}
theorem st1_prog (hr : Dg roots) (hf : ∀ g, Dg (refs g)) {s : List (List Int) × Bool} (I : WInv roots refs s.1) {h x : Int} (hh : 0 ≤ h) (hw : gW s.1 h ≠ []) (hx : x ∈ refs h) : Prog roots refs s (st1 s h x) ∧ ((st1 s h x).2 = false → shB s.1 h x = false) := by
  unfold st1
  cases hs : shB s.1 h x with
  | true =>
    rw [if_pos rfl]
    obtain ⟨a, b⟩ := I.set hr hf hh hw hx hs
    have hxb := hf h x hx
    refine ⟨⟨a, fun h => (by cases h), Nat.le_of_lt b, fun _ _ => b, fun y hy hne => ?_⟩, fun h => (by cases h)⟩
    dsimp only
    rw [gW_set (by omega) (by rw [I.len]; omega) hy]
    split
    · simp
    · exact hne
  | false =>
    rw [if_neg (by simp)]
    exact ⟨Prog.refl I, fun _ => rfl⟩
theorem stR_prog (hr : Dg roots) (hf : ∀ g, Dg (refs g)) {h : Int} (hh : 0 ≤ h) : ∀ (rs : List Int) (s : List (List Int) × Bool), WInv roots refs s.1 → gW s.1 h ≠ [] → (∀ x ∈ rs, x ∈ refs h) → Prog roots refs s (stR s h rs) ∧ ((stR s h rs).2 = false → ∀ x ∈ rs, shB s.1 h x = false)
  | [], s, I, hw, hm => ⟨Prog.refl I, fun _ x hx => (by cases hx)⟩
  | x :: rs, s, I, hw, hm => by
    obtain ⟨p, q⟩ := st1_prog hr hf I hh hw (hm x (by simp))
    obtain ⟨p2, q2⟩ := stR_prog hr hf hh rs (st1 s h x) p.inv (p.keep h hh hw) (fun y hy => hm y (by simp [hy]))
    have e : stR s h (x :: rs) = stR (st1 s h x) h rs := rfl
    rw [e]
    refine ⟨p.trans p2, fun h0 y hy => ?_⟩
    have e1 := p2.flag h0
    have h1 : (st1 s h x).2 = false := by rw [← e1]; exact h0
    have e2 := p.flag h1
    rcases List.mem_cons.1 hy with rfl | hy
    · exact q h1
    · have := q2 h0 y hy
      rw [e2] at this
      exact this
theorem stP_prog (hr : Dg roots) (hf : ∀ g, Dg (refs g)) {W : List (List Int)} (I : WInv roots refs W) : ∀ k : Nat, k ≤ 40 → Prog roots refs (W, false) (stP refs W k) ∧ ((stP refs W k).2 = false → ∀ j : Nat, j < k → gW W ((j : Int) + 1) ≠ [] → ∀ x ∈ refs ((j : Int) + 1), shB W ((j : Int) + 1) x = false)
  | 0, _ => ⟨Prog.refl I, fun _ j hj => absurd hj (Nat.not_lt_zero j)⟩
  | k + 1, hk => by
    obtain ⟨p, q⟩ := stP_prog hr hf I k (by omega)
    have e : stP refs W (k + 1) = stH refs (stP refs W k) ((k : Int) + 1) := rfl
    rw [e]
    unfold stH
    by_cases h0 : gW (stP refs W k).1 ((k : Int) + 1) = []
    · rw [if_pos h0]
      refine ⟨p, fun hz j hj hne x hx => ?_⟩
      by_cases ej : j = k
      · subst ej
        exact absurd h0 (p.keep _ (by omega) hne)
      · exact q hz j (by omega) hne x hx
    · rw [if_neg h0]
      obtain ⟨p2, q2⟩ := stR_prog hr hf (h := (k : Int) + 1) (by omega) (refs ((k : Int) + 1)) (stP refs W k) p.inv h0 (fun x hx => hx)
      refine ⟨p.trans p2, fun hz j hj hne x hx => ?_⟩
      have e1 := p2.flag hz
      have h1 : (stP refs W k).2 = false := by rw [← e1]; exact hz
      have e2 := p.flag h1
      by_cases ej : j = k
      · subst ej
        have := q2 hz x hx
        rw [e2] at this
        exact this
      · exact q h1 j (by omega) hne x hx
theorem WInv.range (hr : Dg roots) (hf : ∀ g, Dg (refs g)) {W : List (List Int)} (I : WInv roots refs W) {h : Int} (hn : gW W h ≠ []) : 1 ≤ h ∧ h ≤ 40 := by
  by_cases h0 : 0 ≤ h
  · have := (I.way h h0 hn).dg hr hf
    exact ⟨this.2.1, this.2.2.1⟩
  · have e : gW W h = gW W 0 := by unfold gW; rw [show h.toNat = (0 : Int).toNat by omega]
    rw [e] at hn
    have := (I.way 0 (Int.le_refl _) hn).dg hr hf
    omega
/-- A pass that changes nothing: the least ways stand. -/
theorem still_of (hr : Dg roots) (hf : ∀ g, Dg (refs g)) {W : List (List Int)} (I : WInv roots refs W) (hz : (stP refs W 40).2 = false) : Still roots refs (gW W) := by
  obtain ⟨_, q⟩ := stP_prog hr hf I 40 (Nat.le_refl _)
  refine ⟨I.base, fun h hn x hx => ?_, fun h hn => I.way h (by have := I.range hr hf hn; omega) hn⟩
  have hb := I.range hr hf hn
  have := q hz (h - 1).toNat (by omega)
  rw [show (((h - 1).toNat : Nat) : Int) + 1 = h by omega] at this
  exact shB_no.1 (this hn x hx)
end
/-! ### the beginning -/
/-- Each root's own way. -/
def wi (rs : List Int) : List (List Int) := rs.foldl (fun W r => W.set r.toNat [r]) (List.replicate 41 [])
theorem wi_snoc (rs : List Int) (r : Int) : wi (rs ++ [r]) = (wi rs).set r.toNat [r] := by
  unfold wi
  rw [List.foldl_append]
  rfl
theorem wi_len (rs : List Int) : (wi rs).length = 41 := by
  unfold wi
  have : ∀ (rs : List Int) (W : List (List Int)), (rs.foldl (fun W r => W.set r.toNat [r]) W).length = W.length := by
    intro rs
    induction rs with
    | nil => intro W; rfl
    | cons r t ih => intro W; rw [List.foldl_cons, ih, List.length_set]
  rw [this, List.length_replicate]
theorem wi_get {rs : List Int} (hr : Dg rs) {h : Int} (hh : 0 ≤ h) : gW (wi rs) h = if h ∈ rs then [h] else [] := by
  have : ∀ (rs : List Int) (W : List (List Int)), Dg rs → W.length = 41 → gW (rs.foldl (fun W r => W.set r.toNat [r]) W) h = if h ∈ rs then [h] else gW W h := by
    intro rs
    induction rs with
    | nil => intro W _ _; simp
    | cons r t ih =>
      intro W hd hl
      have hrb := hd r (by simp)
      rw [List.foldl_cons, ih _ hd.tail (by rw [List.length_set]; exact hl), gW_set (by omega) (by omega) hh]
      by_cases h1 : h ∈ t
      · rw [if_pos h1, if_pos (by simp [h1])]
      · rw [if_neg h1]
        by_cases h2 : h = r
        · subst h2
          rw [if_pos rfl, if_pos (by simp)]
        · rw [if_neg h2, if_neg (by simp [h1, h2])]
  have e := this rs (List.replicate 41 []) hr (by simp)
  have e0 : gW (List.replicate 41 []) h = [] := by
    unfold gW
    rw [List.getD, List.getElem?_replicate]
    split <;> rfl
  rw [e0] at e
  exact e
theorem cnW_pos : ∀ {W : List (List Int)} {i : Nat}, W.getD i [] ≠ [] → 1 ≤ cnW W
  | [], i, h => by simp [List.getD] at h
  | p :: r, 0, h => by
    have hp : p ≠ [] := by simpa [List.getD] using h
    unfold cnW
    simp only [List.map_cons, List.sum_cons]
    have : fCn p = 1 := by unfold fCn; rw [if_neg hp]
    omega
  | p :: r, i + 1, h => by
    have := cnW_pos (W := r) (i := i) (by simpa [List.getD] using h)
    unfold cnW at *
    simp only [List.map_cons, List.sum_cons]
    omega
theorem wi_inv {roots : List Int} {refs : Int → List Int} (hr : Dg roots) : WInv roots refs (wi roots) := by
  refine ⟨wi_len roots, fun h hh hn => ?_, fun h hh => ?_, fun r hm => ?_⟩
  · rw [wi_get hr hh] at hn ⊢
    by_cases hm : h ∈ roots
    · rw [if_pos hm]; exact Way.root hm
    · rw [if_neg hm] at hn; exact absurd rfl hn
  · by_cases hn : gW (wi roots) h = []
    · rw [hn]; simp
    · have h1 := cnW_pos (W := wi roots) (i := h.toNat) hn
      rw [wi_get hr hh]
      split
      · simpa using h1
      · simp
  · have hb := hr r hm
    rw [wi_get hr (by omega), if_pos hm]
    exact ⟨by simp, Nat.le_refl _⟩
end Go.Proofs.YtopblhmbjdfebaaGreat
/-! Met in the order of their ways, round by round; as plain lists. (Part of the proofs over who is led to.) -/
namespace Go.Proofs.YtopblhmbjdfebaaGreat
set_option linter.unusedVariables false

/-- Where a way ends, and who is the last ahead of it (0: nobody). -/
def hd (p : List Int) : Int := p.getLastD 0
def ld (p : List Int) : Int := hd p.dropLast
theorem hd_snoc (q : List Int) (x : Int) : hd (q ++ [x]) = x := by unfold hd; simp
theorem ld_snoc (q : List Int) (x : Int) : ld (q ++ [x]) = hd q := by unfold ld; simp
/-- Is one met? -/
def metB (P : List (List Int)) (x : Int) : Bool := P.any (fun p => hd p == x)
theorem metB_iff {P : List (List Int)} {x : Int} : metB P x = true ↔ ∃ p ∈ P, hd p = x := by
  unfold metB
  rw [List.any_eq_true]
  constructor
  · rintro ⟨p, hp, e⟩; exact ⟨p, hp, beq_iff_eq.1 e⟩
  · rintro ⟨p, hp, e⟩; exact ⟨p, hp, beq_iff_eq.2 e⟩
theorem metB_no {P : List (List Int)} {x : Int} (h : metB P x = false) : ∀ p ∈ P, hd p ≠ x := fun p hp e => by
  rw [metB_iff.2 ⟨p, hp, e⟩] at h
  cases h
theorem metB_snoc (P : List (List Int)) (q : List Int) (x : Int) : metB (P ++ [q]) x = (metB P x || (hd q == x)) := by
  unfold metB
  rw [List.any_append]
  simp
/-- One more handle, to whom the last of q leads: whoever is not met yet is met. -/
def mtS (q : List Int) (P : List (List Int)) (x : Int) : List (List Int) := if metB P x = true then P else P ++ [q ++ [x]]
def mtL (q : List Int) (P : List (List Int)) (l : List Int) : List (List Int) := l.foldl (mtS q) P
theorem mtL_snoc (q : List Int) (P : List (List Int)) (l : List Int) (x : Int) : mtL q P (l ++ [x]) = mtS q (mtL q P l) x := by
  unfold mtL
  rw [List.foldl_append]
  rfl
theorem mtS_app (q : List Int) (P : List (List Int)) (x : Int) : ∃ A, mtS q P x = P ++ A := by
  unfold mtS
  split
  · exact ⟨[], by simp⟩
  · exact ⟨_, rfl⟩
theorem mtL_app (q : List Int) : ∀ (l : List Int) (P : List (List Int)), ∃ A, mtL q P l = P ++ A
  | [], P => ⟨[], by simp [mtL]⟩
  | x :: l, P => by
    obtain ⟨A, hA⟩ := mtS_app q P x
    obtain ⟨B, hB⟩ := mtL_app q l (mtS q P x)
    refine ⟨A ++ B, ?_⟩
    show mtL q (mtS q P x) l = _
    rw [hB, hA, List.append_assoc]
/-- Who is new. -/
def nwH (q : List Int) (P : List (List Int)) (l : List Int) : List Int := ((mtL q P l).drop P.length).map hd
theorem nwH_met (q : List Int) (P : List (List Int)) (l : List Int) : P.map hd ++ nwH q P l = (mtL q P l).map hd := by
  unfold nwH
  obtain ⟨A, hA⟩ := mtL_app q l P
  rw [hA, List.drop_left, List.map_append]
theorem nwH_snoc (q : List Int) (P : List (List Int)) (l : List Int) (x : Int) : nwH q P (l ++ [x]) = if metB (mtL q P l) x = true then nwH q P l else nwH q P l ++ [x] := by
  unfold nwH
  rw [mtL_snoc]
  unfold mtS
  obtain ⟨A, hA⟩ := mtL_app q l P
  split
  · rfl
  · rw [hA, List.append_assoc, List.drop_left, List.drop_left, List.map_append]
    simp [hd_snoc]
theorem nwH_len (q : List Int) (P : List (List Int)) (l : List Int) : (nwH q P l).length + P.length = (mtL q P l).length := by
  have := congrArg List.length (nwH_met q P l)
  rw [List.length_append, List.length_map, List.length_map] at this
  omega
def srt (l : List Int) : List Int := l.mergeSort (fun x y => decide (x ≤ y))
theorem mem_srt {l : List Int} {x : Int} : x ∈ srt l ↔ x ∈ l := by unfold srt; exact List.mem_mergeSort
theorem srt_len (l : List Int) : (srt l).length = l.length := by unfold srt; rw [List.length_mergeSort]
theorem srt_rise (l : List Int) : (srt l).Pairwise (· ≤ ·) := by
  have := List.pairwise_mergeSort (le := fun x y : Int => decide (x ≤ y)) (fun a b c h1 h2 => by simp at *; omega) (fun a b => by simp; omega) l
  unfold srt
  exact this.imp (fun h => by simpa using h)
/-- Behind so many rounds: whom they met, each by a way. -/
def bfP (roots : List Int) (refs : Int → List Int) : Nat → List (List Int)
  | 0 => mtL [] [] (srt roots)
  | i + 1 => match (bfP roots refs i)[i]? with
    | some q => mtL q (bfP roots refs i) (srt (refs (hd q)))
    | none => bfP roots refs i
theorem bfP_some {roots : List Int} {refs : Int → List Int} {i : Nat} {q : List Int} (h : (bfP roots refs i)[i]? = some q) : bfP roots refs (i + 1) = mtL q (bfP roots refs i) (srt (refs (hd q))) := by
  show (match (bfP roots refs i)[i]? with | some q => _ | none => _) = _
  rw [h]
theorem bfP_none {roots : List Int} {refs : Int → List Int} {i : Nat} (h : (bfP roots refs i).length ≤ i) : bfP roots refs (i + 1) = bfP roots refs i := by
  show (match (bfP roots refs i)[i]? with | some q => _ | none => _) = _
  rw [List.getElem?_eq_none h]
theorem bfP_late {roots : List Int} {refs : Int → List Int} {i : Nat} (h : (bfP roots refs i).length ≤ i) : ∀ j, i ≤ j → bfP roots refs j = bfP roots refs i
  | 0, hj => by rw [show i = 0 by omega]
  | j + 1, hj => by
    by_cases e : i = j + 1
    · rw [e]
    · have := bfP_late h j (by omega)
      rw [bfP_none (by rw [this]; omega), this]
/-- What is known of whom the first i led to. -/
structure Bf (roots : List Int) (refs : Int → List Int) (P : List (List Int)) (i : Nat) : Prop where
  way : ∀ p ∈ P, Way roots refs p (hd p)
  rise : P.Pairwise (fun a b => rk a < rk b)
  one : (P.map hd).Nodup
  orig : ∀ p ∈ P, p.dropLast = [] ∨ ∃ j, j < i ∧ P[j]? = some p.dropLast
  root : ∀ r ∈ roots, ∃ p ∈ P, hd p = r ∧ rk p ≤ rk [r]
  next : ∀ j, j < i → ∀ q, P[j]? = some q → ∀ x ∈ refs (hd q), ∃ p ∈ P, hd p = x ∧ rk p ≤ rk (q ++ [x])
/-- Handles in their order are met: what is known of it. -/
theorem mtL_spec (q : List Int) : ∀ (l : List Int) (P : List (List Int)), Dg l → l.Pairwise (· ≤ ·) → P.Pairwise (fun a b => rk a < rk b) → (P.map hd).Nodup →
    (∀ p ∈ P, rk p ≤ rk q * 41 ∨ ∃ y, p = q ++ [y] ∧ 1 ≤ y ∧ ∀ x ∈ l, y ≤ x) →
    (mtL q P l).Pairwise (fun a b => rk a < rk b) ∧ ((mtL q P l).map hd).Nodup ∧ (∀ p ∈ mtL q P l, p ∈ P ∨ ∃ x ∈ l, p = q ++ [x]) ∧ (∀ x ∈ l, ∃ p ∈ mtL q P l, hd p = x ∧ rk p ≤ rk (q ++ [x]))
  | [], P, _, _, h1, h2, _ => ⟨h1, h2, fun p hp => .inl hp, fun x hx => by cases hx⟩
  | x :: l, P, hd1, hs, h1, h2, h3 => by
    have hx := hd1 x (by simp)
    have hsx := List.pairwise_cons.1 hs
    have hrx : rk (q ++ [x]) = rk q * 41 + x.toNat := rk_snoc q x
    show (mtL q (mtS q P x) l).Pairwise _ ∧ _
    have hle : ∀ p ∈ P, rk p ≤ rk (q ++ [x]) := fun p hp => by
      rcases h3 p hp with h | ⟨y, rfl, hy1, hy⟩
      · omega
      · have := hy x (by simp)
        rw [rk_snoc, rk_snoc]; omega
    cases hm : metB P x with
    | true =>
      have e : mtS q P x = P := by unfold mtS; rw [if_pos hm]
      have e2 : mtL q P (x :: l) = mtL q P l := by show mtL q (mtS q P x) l = _; rw [e]
      obtain ⟨a, b, c, d⟩ := mtL_spec q l P hd1.tail hsx.2 h1 h2 (fun p hp => by
        rcases h3 p hp with h | ⟨y, e, hy1, hy⟩
        · exact .inl h
        · exact .inr ⟨y, e, hy1, fun z hz => hy z (by simp [hz])⟩)
      rw [e, e2]
      refine ⟨a, b, fun p hp => ?_, fun z hz => ?_⟩
      · rcases c p hp with h | ⟨z, hz, h⟩
        · exact .inl h
        · exact .inr ⟨z, by simp [hz], h⟩
      · rcases List.mem_cons.1 hz with rfl | hz
        · obtain ⟨p, hp, hpe⟩ := metB_iff.1 hm
          obtain ⟨A, hA⟩ := mtL_app q l P
          exact ⟨p, by rw [hA]; exact List.mem_append.2 (.inl hp), hpe, hle p hp⟩
        · exact d z hz
    | false =>
      have e : mtS q P x = P ++ [q ++ [x]] := by unfold mtS; rw [hm]; rfl
      have e2 : mtL q P (x :: l) = mtL q (P ++ [q ++ [x]]) l := by show mtL q (mtS q P x) l = _; rw [e]
      have hno := metB_no hm
      have hlt : ∀ p ∈ P, rk p < rk (q ++ [x]) := fun p hp => by
        rcases h3 p hp with h | ⟨y, rfl, hy1, hy⟩
        · omega
        · have h4 := hy x (by simp)
          have h5 := hno _ hp
          rw [hd_snoc] at h5
          rw [rk_snoc, rk_snoc]; omega
      obtain ⟨a, b, c, d⟩ := mtL_spec q l (P ++ [q ++ [x]]) hd1.tail hsx.2
        (List.pairwise_append.2 ⟨h1, by simp, fun p hp r hr => by rw [List.mem_singleton.1 hr]; exact hlt p hp⟩)
        (by
          rw [List.map_append, List.nodup_append]
          refine ⟨h2, by simp, fun u hu v hv => ?_⟩
          obtain ⟨p, hp, rfl⟩ := List.mem_map.1 hu
          simp [hd_snoc] at hv
          rw [hv]
          exact hno p hp)
        (fun p hp => by
          rcases List.mem_append.1 hp with hp | hp
          · rcases h3 p hp with h | ⟨y, e, hy1, hy⟩
            · exact .inl h
            · exact .inr ⟨y, e, hy1, fun z hz => hy z (by simp [hz])⟩
          · rw [List.mem_singleton.1 hp]
            exact .inr ⟨x, rfl, hx.1, fun z hz => hsx.1 z hz⟩)
      rw [e, e2]
      refine ⟨a, b, fun p hp => ?_, fun z hz => ?_⟩
      · rcases c p hp with h | ⟨z, hz, h⟩
        · rcases List.mem_append.1 h with h | h
          · exact .inl h
          · rw [List.mem_singleton.1 h]; exact .inr ⟨x, by simp, rfl⟩
        · exact .inr ⟨z, by simp [hz], h⟩
      · rcases List.mem_cons.1 hz with rfl | hz
        · obtain ⟨A, hA⟩ := mtL_app q l (P ++ [q ++ [z]])
          exact ⟨q ++ [z], by rw [hA]; simp, hd_snoc q z, Nat.le_refl _⟩
        · exact d z hz
theorem mem_hands {k : Nat} {h : Int} : h ∈ (List.range k).map (fun j : Nat => (j : Int) + 1) ↔ 1 ≤ h ∧ h ≤ k := by
  rw [List.mem_map]
  constructor
  · rintro ⟨j, hj, rfl⟩
    have := List.mem_range.1 hj
    omega
  · rintro ⟨h1, h2⟩
    exact ⟨(h - 1).toNat, List.mem_range.2 (by omega), by omega⟩
section
variable {roots : List Int} {refs : Int → List Int}
theorem bf_start (hr : Dg roots) : Bf roots refs (bfP roots refs 0) 0 := by
  obtain ⟨a, b, c, d⟩ := mtL_spec [] (srt roots) [] (fun x hx => hr x (mem_srt.1 hx)) (srt_rise roots) (by simp) (by simp) (fun p hp => by cases hp)
  refine ⟨fun p hp => ?_, a, b, fun p hp => ?_, fun r hm => ?_, fun j hj => absurd hj (Nat.not_lt_zero j)⟩
  · rcases c p hp with h | ⟨x, hx, rfl⟩
    · cases h
    · rw [hd_snoc]; exact .root (mem_srt.1 hx)
  · rcases c p hp with h | ⟨x, hx, rfl⟩
    · cases h
    · exact .inl rfl
  · exact d r (mem_srt.2 hm)
theorem Bf.step (hr : Dg roots) (hf : ∀ g, Dg (refs g)) {P : List (List Int)} {i : Nat} (h : Bf roots refs P i) {q : List Int} (hq : P[i]? = some q) : Bf roots refs (mtL q P (srt (refs (hd q)))) (i + 1) := by
  have hqm := List.mem_of_getElem? hq
  have hqi := (List.getElem?_eq_some_iff.1 hq).1
  have hqw := h.way q hqm
  have hqd := hqw.dg hr hf
  have hq1 : 1 ≤ rk q := by
    have := rk_ge hqd.1 hqd.2.2.2
    have h2 : 0 < 41 ^ (q.length - 1) := Nat.pow_pos (by decide)
    omega
  have hbig : ∀ p ∈ P, rk p ≤ rk q * 41 := fun p hp => by
    have hpd := (h.way p hp).dg hr hf
    obtain ⟨p0, x, rfl⟩ : ∃ p0 x, p = p0 ++ [x] := ⟨p.dropLast, p.getLast hpd.2.2.2, (List.dropLast_concat_getLast hpd.2.2.2).symm⟩
    have hxb := hpd.1 x (by simp)
    rw [rk_snoc]
    rcases h.orig _ hp with e | ⟨j, hj, e⟩
    · rw [List.dropLast_concat] at e
      subst e
      have : rk ([] : List Int) = 0 := rfl
      omega
    · rw [List.dropLast_concat] at e
      have hlt : rk p0 < rk q := by
        obtain ⟨hj2, e2⟩ := List.getElem?_eq_some_iff.1 e
        obtain ⟨hi2, e3⟩ := List.getElem?_eq_some_iff.1 hq
        have := List.pairwise_iff_getElem.1 h.rise j i hj2 hi2 hj
        rw [e2, e3] at this
        exact this
      omega
  obtain ⟨a, b, c, d⟩ := mtL_spec q (srt (refs (hd q))) P (fun x hx => hf _ x (mem_srt.1 hx)) (srt_rise _) h.rise h.one (fun p hp => .inl (hbig p hp))
  obtain ⟨A, hA⟩ := mtL_app q (srt (refs (hd q))) P
  have hsub : ∀ p ∈ P, p ∈ mtL q P (srt (refs (hd q))) := fun p hp => by rw [hA]; exact List.mem_append.2 (.inl hp)
  have hat : ∀ j, j < P.length → (mtL q P (srt (refs (hd q))))[j]? = P[j]? := fun j hj => by rw [hA, List.getElem?_append_left hj]
  refine ⟨fun p hp => ?_, a, b, fun p hp => ?_, fun r hm => ?_, fun j hj q' hq' x hx => ?_⟩
  · rcases c p hp with hp | ⟨x, hx, rfl⟩
    · exact h.way p hp
    · rw [hd_snoc]; exact .step hqw (mem_srt.1 hx)
  · rcases c p hp with hp | ⟨x, hx, rfl⟩
    · rcases h.orig p hp with e | ⟨j, hj, e⟩
      · exact .inl e
      · exact .inr ⟨j, by omega, (hat j (List.getElem?_eq_some_iff.1 e).1).trans e⟩
    · rw [List.dropLast_concat]
      exact .inr ⟨i, by omega, (hat i hqi).trans hq⟩
  · obtain ⟨p, hp, h1, h2⟩ := h.root r hm
    exact ⟨p, hsub p hp, h1, h2⟩
  · by_cases e : j = i
    · subst e
      rw [hat j hqi, hq] at hq'
      obtain rfl := Option.some.inj hq'
      exact d x (mem_srt.2 hx)
    · rw [hat j (by omega)] at hq'
      obtain ⟨p, hp, h1, h2⟩ := h.next j (by omega) q' hq' x hx
      exact ⟨p, hsub p hp, h1, h2⟩
theorem bf_at (hr : Dg roots) (hf : ∀ g, Dg (refs g)) : ∀ i, i ≤ (bfP roots refs i).length ∨ (bfP roots refs i).length ≤ i → Bf roots refs (bfP roots refs i) i := by
  intro i _
  induction i with
  | zero => exact bf_start hr
  | succ i ih =>
    have hi := ih (by omega)
    by_cases hl : i < (bfP roots refs i).length
    · rw [bfP_some (List.getElem?_eq_getElem hl)]
      exact hi.step hr hf (List.getElem?_eq_getElem hl)
    · rw [bfP_none (by omega)]
      exact ⟨hi.way, hi.rise, hi.one, fun p hp => by
        rcases hi.orig p hp with e | ⟨j, hj, e⟩
        · exact .inl e
        · exact .inr ⟨j, by omega, e⟩, hi.root, fun j hj q hq => by
        have := (List.getElem?_eq_some_iff.1 hq).1
        exact hi.next j (by omega) q hq⟩
theorem Bf.len (hr : Dg roots) (hf : ∀ g, Dg (refs g)) {P : List (List Int)} {i : Nat} (h : Bf roots refs P i) : P.length ≤ 40 := by
  have hsub : ∀ x ∈ P.map hd, x ∈ (List.range 40).map (fun j : Nat => (j : Int) + 1) := fun x hx => by
    obtain ⟨p, hp, rfl⟩ := List.mem_map.1 hx
    have := (h.way p hp).dg hr hf
    exact mem_hands.2 ⟨this.2.1, this.2.2.1⟩
  have key : ∀ (a b : List Int), a.Nodup → (∀ x ∈ a, x ∈ b) → a.length ≤ b.length := by
    intro a
    induction a with
    | nil => intro b _ _; simp
    | cons x a ih =>
      intro b hn hs
      have hx := hs x (by simp)
      have h2 := ih (b.erase x) (List.nodup_cons.1 hn).2 (fun y hy => (List.mem_erase_of_ne (fun e => (List.nodup_cons.1 hn).1 (by rw [← e]; exact hy))).2 (hs y (by simp [hy])))
      rw [List.length_erase_of_mem hx] at h2
      have : 0 < b.length := List.length_pos_of_mem hx
      rw [List.length_cons]
      omega
  have := key _ _ h.one hsub
  rw [List.length_map, List.length_map, List.length_range] at this
  exact this
/-- The way by which one is met (nothing: it is not). -/
def wyF (P : List (List Int)) (x : Int) : List Int := (P.find? (fun p => hd p == x)).getD []
theorem Bf.uniq {P : List (List Int)} {i : Nat} (h : Bf roots refs P i) : ∀ p ∈ P, ∀ p' ∈ P, hd p = hd p' → p = p' := fun p hp p' hp' e => by
  obtain ⟨j, hj, rfl⟩ := List.getElem_of_mem hp
  obtain ⟨k, hk, rfl⟩ := List.getElem_of_mem hp'
  have hn := h.one
  have : j = k := by
    have hp := List.pairwise_iff_getElem.1 hn
    rcases Nat.lt_trichotomy j k with h | h | h
    · exact absurd (by rw [List.getElem_map, List.getElem_map]; exact e) (hp j k (by simpa using hj) (by simpa using hk) h)
    · exact h
    · exact absurd (by rw [List.getElem_map, List.getElem_map]; exact e.symm) (hp k j (by simpa using hk) (by simpa using hj) h)
  subst this
  rfl
/-- All have led: nothing more to shorten. -/
theorem Bf.still (hr : Dg roots) (hf : ∀ g, Dg (refs g)) {P : List (List Int)} {i : Nat} (h : Bf roots refs P i) (hi : P.length ≤ i) : Still roots refs (wyF P) := by
  have huniq := h.uniq
  show Still roots refs (fun x => (P.find? (fun p => hd p == x)).getD [])
  have hget : ∀ p ∈ P, (P.find? (fun r => hd r == hd p)).getD [] = p := fun p hp => by
    cases hc : P.find? (fun r => hd r == hd p) with
    | none => exact absurd (List.find?_eq_none.1 hc p hp) (by simp)
    | some r =>
      have h1 := List.mem_of_find?_eq_some hc
      have h2 := List.find?_some hc
      rw [beq_iff_eq] at h2
      exact huniq r h1 p hp h2
  have hnn : ∀ p ∈ P, p ≠ [] := fun p hp => ((h.way p hp).dg hr hf).2.2.2
  have hfrom : ∀ x, (P.find? (fun p => hd p == x)).getD [] ≠ [] → ∃ p ∈ P, hd p = x ∧ (P.find? (fun p => hd p == x)).getD [] = p := fun x hx => by
    cases hc : P.find? (fun r => hd r == x) with
    | none => rw [hc] at hx; exact absurd rfl hx
    | some r =>
      have h2 := List.find?_some hc
      rw [beq_iff_eq] at h2
      exact ⟨r, List.mem_of_find?_eq_some hc, h2, rfl⟩
  refine ⟨fun r hm => ?_, fun g hg x hx => ?_, fun g hg => ?_⟩
  · obtain ⟨p, hp, rfl, h2⟩ := h.root r hm
    show (P.find? (fun p' => hd p' == hd p)).getD [] ≠ [] ∧ rk ((P.find? (fun p' => hd p' == hd p)).getD []) ≤ _
    rw [hget p hp]
    exact ⟨hnn p hp, h2⟩
  · obtain ⟨p, hp, rfl, e⟩ := hfrom g hg
    rw [e]
    obtain ⟨j, hj, e2⟩ := List.getElem_of_mem hp
    obtain ⟨p', hp', rfl, h2⟩ := h.next j (by omega) p (by rw [← e2]; exact List.getElem?_eq_getElem hj) x hx
    rw [hget p' hp']
    exact ⟨hnn p' hp', h2⟩
  · obtain ⟨p, hp, rfl, e⟩ := hfrom g hg
    rw [e]
    exact h.way p hp
end
end Go.Proofs.YtopblhmbjdfebaaGreat
/-! Which objects an object names, as plain lists. (Part of the proofs over who is led to.) -/
namespace Go.Proofs.YtopblhmbjdfebaaGreat
open Go.RowKit
set_option linter.unusedVariables false

/-- One byte more: an object that is named for the first time is told. -/
def refStep (L : List Int) (acc : List Int) (x : Int) : List Int := if chkE L x ≠ 0 then acc else if acc.any (fun y => y == x) = true then acc else acc ++ [x]
def refK (L l : List Int) (k : Nat) : List Int := (l.take k).foldl (refStep L) []
/-- The objects that an object names. -/
def refsL (L : List Int) (h : Int) : List Int := refK L (objOf L h).2 (objOf L h).1.toNat
theorem refK_succ {L l : List Int} {k : Nat} (hk : k < l.length) : refK L l (k + 1) = refStep L (refK L l k) (l.getD k 0) := by
  unfold refK
  rw [List.take_succ_eq_append_getElem hk, List.foldl_append]
  simp [List.getD, hk]
theorem refStep_len (L acc : List Int) (x : Int) : (refStep L acc x).length ≤ acc.length + 1 := by
  unfold refStep
  split
  · omega
  · split
    · omega
    · simp
theorem refK_len (L l : List Int) : ∀ k, (refK L l k).length ≤ k := by
  intro k
  induction k with
  | zero => simp [refK]
  | succ k ih =>
    by_cases hk : k < l.length
    · rw [refK_succ hk]
      exact Nat.le_trans (refStep_len _ _ _) (by omega)
    · have : refK L l (k + 1) = refK L l k := by unfold refK; rw [List.take_of_length_le (by omega), List.take_of_length_le (by omega)]
      rw [this]
      omega
theorem refK_all {L l : List Int} {k : Nat} (hk : l.length ≤ k) : refK L l k = refK L l l.length := by
  unfold refK
  rw [List.take_of_length_le hk, List.take_length]
end Go.Proofs.YtopblhmbjdfebaaGreat
/-! The least ways of an image: there are such, and but one of each; as plain lists. (Part of the proofs over who is led to.) -/
namespace Go.Proofs.YtopblhmbjdfebaaGreat
open Go.RowKit
set_option linter.unusedVariables false

section
variable {roots : List Int} {refs : Int → List Int}
/-- The least way to a handle; nothing: there is none. -/
def wyO (roots : List Int) (refs : Int → List Int) : Int → List Int := wyF (bfP roots refs 40)
theorem wyO_still (hr : Dg roots) (hf : ∀ g, Dg (refs g)) : Still roots refs (wyO roots refs) := by
  have h := bf_at hr hf 40 (Nat.le_total _ _)
  exact h.still hr hf (h.len hr hf)
theorem Still.eq (hr : Dg roots) (hf : ∀ g, Dg (refs g)) {V : Int → List Int} (s : Still roots refs V) (h : Int) : V h = wyO roots refs h := s.one hr hf (wyO_still hr hf) h
/-- Who has a way is a handle. -/
theorem wyO_dg (hr : Dg roots) (hf : ∀ g, Dg (refs g)) {h : Int} (hn : wyO roots refs h ≠ []) : Dg (wyO roots refs h) ∧ 1 ≤ h ∧ h ≤ 40 := by
  have := ((wyO_still hr hf).way h hn).dg hr hf
  exact ⟨this.1, this.2.1, this.2.2.1⟩
/-- A way begins at a root, ends at its handle, and goes step by step. -/
theorem Way.steps {p : List Int} {h : Int} (w : Way roots refs p h) : p ≠ [] ∧ p.getD 0 0 ∈ roots ∧ p.getD (p.length - 1) 0 = h ∧ ∀ j, 1 ≤ j → j < p.length → p.getD j 0 ∈ refs (p.getD (j - 1) 0) := by
  refine w.ind (fun p h => p ≠ [] ∧ p.getD 0 0 ∈ roots ∧ p.getD (p.length - 1) 0 = h ∧ ∀ j, 1 ≤ j → j < p.length → p.getD j 0 ∈ refs (p.getD (j - 1) 0)) (fun r hm => ⟨by simp, hm, rfl, fun j h1 h2 => by simp at h2; omega⟩) (fun q g x w hx ih => ?_)
  · obtain ⟨i1, i2, i3, i4⟩ := ih
    have hq : 0 < q.length := List.length_pos_iff.2 i1
    have at1 : ∀ j, j < q.length → (q ++ [x]).getD j 0 = q.getD j 0 := fun j hj => by simp [List.getD, List.getElem?_append_left hj]
    have at2 : (q ++ [x]).getD q.length 0 = x := by simp [List.getD]
    refine ⟨by simp, by rw [at1 0 hq]; exact i2, by rw [List.length_append]; exact at2, fun j h1 h2 => ?_⟩
    rw [List.length_append, List.length_singleton] at h2
    by_cases e : j = q.length
    · subst e
      rw [at2, at1 _ (by omega), i3]
      exact hx
    · rw [at1 j (by omega), at1 (j - 1) (by omega)]
      exact i4 j h1 (by omega)
/-- All that stand on a way have ways. -/
theorem Way.all (hr : Dg roots) (hf : ∀ g, Dg (refs g)) {p : List Int} {h : Int} (w : Way roots refs p h) : wyO roots refs h ≠ [] := ((wyO_still hr hf).least w).1
/-- Other refs, the same where it matters: the same ways. -/
theorem wyO_same {refs' : Int → List Int} (hr : Dg roots) (hf : ∀ g, Dg (refs g)) (hf' : ∀ g, Dg (refs' g)) (hs : ∀ g, wyO roots refs g ≠ [] → refs' g = refs g) (h : Int) : wyO roots refs' h = wyO roots refs h := by
  have s := wyO_still hr hf
  refine (Still.eq (V := wyO roots refs) hr hf' ⟨s.base, fun g hg x hx => ?_, fun g hg => ?_⟩ h).symm
  · rw [hs g hg] at hx
    exact s.next g hg x hx
  · have key : ∀ {p : List Int} {k : Int}, Way roots refs p k → Way roots refs' p k := by
      intro p k w
      exact w.ind (fun p k => Way roots refs' p k) (fun r hm => .root hm) (fun q g x w hx ih => .step ih (by rw [hs _ (w.all hr hf)]; exact hx))
    exact key (s.way g hg)
end
/-! ### of an image -/
/-- The handles to which roots lead. -/
def rtH (L : List Int) : List Int := (rootsK L 8).map (·.2)
theorem rtH_dg {L : List Int} (hf : Fine L) : Dg (rtH L) := fun x hx => by
  obtain ⟨r, hr, rfl⟩ := List.mem_map.1 hx
  exact (apart_roots hf.ok).pos r hr
theorem fold_ok {L : List Int} : ∀ (l acc : List Int), (∀ x ∈ acc, chkE L x = 0) → ∀ x ∈ l.foldl (refStep L) acc, chkE L x = 0
  | [], acc, h => h
  | y :: l, acc, h => by
    refine fold_ok l (refStep L acc y) (fun x hx => ?_)
    unfold refStep at hx
    by_cases hc : chkE L y = 0
    · rw [if_neg (fun h => h hc)] at hx
      split at hx
      · exact h x hx
      · rcases List.mem_append.1 hx with hx | hx
        · exact h x hx
        · rw [List.mem_singleton.1 hx]; exact hc
    · rw [if_pos hc] at hx; exact h x hx
theorem refStep_sub {L acc : List Int} {y x : Int} (h : x ∈ acc) : x ∈ refStep L acc y := by
  unfold refStep
  split
  · exact h
  · split
    · exact h
    · exact List.mem_append.2 (.inl h)
theorem fold_sub {L : List Int} {x : Int} : ∀ (l acc : List Int), x ∈ acc → x ∈ l.foldl (refStep L) acc
  | [], acc, h => h
  | y :: l, acc, h => fold_sub l (refStep L acc y) (refStep_sub h)
theorem fold_has {L : List Int} {x : Int} (hc : chkE L x = 0) : ∀ (l acc : List Int), x ∈ l → x ∈ l.foldl (refStep L) acc
  | [], acc, h => by cases h
  | y :: l, acc, h => by
    rcases List.mem_cons.1 h with rfl | h
    · refine fold_sub l (refStep L acc x) ?_
      unfold refStep
      rw [if_neg (fun h => h hc)]
      split
      · rename_i ha
        obtain ⟨z, hz, e⟩ := List.any_eq_true.1 ha
        rw [beq_iff_eq] at e
        rw [← e]; exact hz
      · simp
    · exact fold_has hc l (refStep L acc y) h
theorem fold_cong {L c : List Int} : ∀ (l acc : List Int), (∀ x ∈ l, (chkE c x = 0 ↔ chkE L x = 0)) → l.foldl (refStep c) acc = l.foldl (refStep L) acc
  | [], acc, _ => rfl
  | y :: l, acc, h => by
    have e : refStep c acc y = refStep L acc y := by
      unfold refStep
      have := h y (by simp)
      by_cases hc : chkE L y = 0
      · rw [if_neg (fun hq : ¬ chkE c y = 0 => hq (this.2 hc)), if_neg (fun hq : ¬ chkE L y = 0 => hq hc)]
      · rw [if_pos (fun hq : chkE c y = 0 => hc (this.1 hq)), if_pos hc]
    rw [List.foldl_cons, List.foldl_cons, e]
    exact fold_cong l _ (fun x hx => h x (List.mem_cons_of_mem _ hx))
theorem refsL_ok {L : List Int} {h x : Int} (hx : x ∈ refsL L h) : chkE L x = 0 := fold_ok _ [] (fun x hx => by cases hx) x hx
theorem refsL_dg (L : List Int) (h : Int) : Dg (refsL L h) := fun x hx => hndB_iff.1 (chkE_zero.1 (refsL_ok hx)).2.1
theorem refsL_has {L : List Int} {h x : Int} (hx : x ∈ (objOf L h).2.take (objOf L h).1.toNat) (hc : chkE L x = 0) : x ∈ refsL L h := fold_has hc _ [] hx
/-- The least way to a handle of an image. -/
def wyL (L : List Int) (h : Int) : List Int := wyO (rtH L) (refsL L) h
/-- Is an object led to? -/
def lvB (L : List Int) (h : Int) : Bool := decide (wyL L h ≠ [])
/-- Objects to which roots lead, and the others, of the first k handles. -/
def lvK (L : List Int) (k : Nat) : List Int := ((List.range k).map (fun j : Nat => (j : Int) + 1)).filter fun h => decide (tagAt L h ≠ 0) && lvB L h
def ddK (L : List Int) (k : Nat) : List Int := ((List.range k).map (fun j : Nat => (j : Int) + 1)).filter fun h => decide (tagAt L h ≠ 0) && !lvB L h
theorem wyL_still {L : List Int} (hf : Fine L) : Still (rtH L) (refsL L) (wyL L) := wyO_still (rtH_dg hf) (refsL_dg L)
/-- Who is led to is there. -/
theorem wyL_there {L : List Int} (hf : Fine L) {h : Int} (hn : wyL L h ≠ []) : chkE L h = 0 := by
  have s := wyL_still hf
  have w := s.way h hn
  rcases w.parts with hm | ⟨q, g, _, hx⟩
  · obtain ⟨r, hr, rfl⟩ := List.mem_map.1 hm
    obtain ⟨i, hi, hq, e⟩ := mem_rootsK_iff.1 hr
    obtain ⟨o1, o2, o3⟩ := lead_obj hf hi hq
    have er : r.2 = (rowAt L i).getD 10 0 := by rw [← e]; rfl
    rw [er]
    exact chkE_zero.2 ⟨hf.len0, hndB_iff.2 ⟨o1, o2⟩, o3⟩
  · exact refsL_ok hx
theorem mem_lvK {L : List Int} {k : Nat} {h : Int} : h ∈ lvK L k ↔ (1 ≤ h ∧ h ≤ k) ∧ tagAt L h ≠ 0 ∧ wyL L h ≠ [] := by
  unfold lvK lvB
  rw [List.mem_filter, mem_hands, Bool.and_eq_true, decide_eq_true_iff, decide_eq_true_iff]
theorem mem_ddK {L : List Int} {k : Nat} {h : Int} : h ∈ ddK L k ↔ (1 ≤ h ∧ h ≤ k) ∧ tagAt L h ≠ 0 ∧ wyL L h = [] := by
  unfold ddK lvB
  rw [List.mem_filter, mem_hands, Bool.and_eq_true, decide_eq_true_iff, Bool.not_eq_true', decide_eq_false_iff_not, Decidable.not_not]
end Go.Proofs.YtopblhmbjdfebaaGreat
/-! An image of which the objects that no root leads to are dropped: the live are as they were, and nobody is dead; as plain lists. (Part of the proofs over who is led to.) -/
namespace Go.Proofs.YtopblhmbjdfebaaGreat
open Go.RowKit
set_option linter.unusedVariables false

/-- Objects dropped, one after the other. -/
def swL (L : List Int) (D : List Int) : List Int := D.foldl (fun b h => dropL b h) L
/-- What is known of an image of which some objects are dropped. -/
structure Swept (L c : List Int) (D : List Int) : Prop where
  fine : Fine c
  len : c.length = L.length
  keep : ∀ k, 1 ≤ k → k ≤ 40 → k ∉ D → tagAt c k = tagAt L k ∧ entOf c k = entOf L k
  gone : ∀ k ∈ D, 1 ≤ k → k ≤ 40 → tagAt c k = 0
  tail : ∀ j, 200 ≤ j → c.getD j 0 = L.getD j 0
theorem Swept.rows {L c D : List Int} (s : Swept L c D) : ∀ i, i < 8 → rowAt c i = rowAt L i := fun i hi => by
  have hl := s.fine.len
  have hl2 := s.len
  apply ext_getD
  · rw [rowAt_len (by omega), rowAt_len (by omega)]
  · intro j hj
    rw [rowAt_len (by omega)] at hj
    rw [rowAt_getD hj, rowAt_getD hj]
    exact s.tail _ (by omega)
theorem Swept.refl {L : List Int} (hf : Fine L) : Swept L L [] := ⟨hf, rfl, fun _ _ _ _ => ⟨rfl, rfl⟩, fun k hk => (by cases hk), fun _ _ => rfl⟩
theorem Swept.more {L c D : List Int} (s : Swept L c D) {h : Int} (hc : chkE L h = 0) (hn : h ∉ D) (hr : h ∉ rtH L) : chkE c h = 0 ∧ frE c h = 0 ∧ Swept L (dropL c h) (D ++ [h]) := by
  obtain ⟨q1, q2, q3⟩ := chkE_zero.1 hc
  have hh := hndB_iff.1 q2
  obtain ⟨k1, k2⟩ := s.keep h hh.1 hh.2 hn
  have hc2 : chkE c h = 0 := chkE_zero.2 ⟨s.fine.len0, q2, by rw [k1]; exact q3⟩
  have hno : ∀ i, i < 8 → isRoot (rowAt c i) = true → (rowAt c i).getD 10 0 ≠ h := fun i hi hq e => by
    rw [s.rows i hi] at hq e
    exact hr (List.mem_map.2 ⟨_, mem_rootsK8 hi hq, e⟩)
  obtain ⟨f, fo, fs, fl, ft⟩ := drop_fine s.fine hc2 hno
  refine ⟨hc2, frE_zero.2 ⟨hc2, List.any_eq_false.2 (fun r hrm => ?_)⟩, f, fl.trans s.len, fun k h1 h2 hk => ?_, fun k hk => ?_, fun j hj => (ft j hj).trans (s.tail j hj)⟩
  · obtain ⟨i, hi, hq, rfl⟩ := mem_rootsK_iff.1 hrm
    rw [beq_iff_eq]
    exact hno i hi hq
  · have hk1 : k ∉ D := fun hm => hk (List.mem_append.2 (.inl hm))
    have hk2 : k ≠ h := fun e => hk (List.mem_append.2 (.inr (by rw [e]; simp)))
    obtain ⟨a1, a2⟩ := fo k h1 h2 hk2
    obtain ⟨b1, b2⟩ := s.keep k h1 h2 hk1
    exact ⟨a1.trans b1, a2.trans b2⟩
  · intro k1 k2
    by_cases e : k = h
    · subst e; exact fs
    · rcases List.mem_append.1 hk with hk | hk
      · rw [(fo k k1 k2 e).1]; exact s.gone k hk k1 k2
      · exact absurd (List.mem_singleton.1 hk) e
theorem swept_of {L : List Int} (hf : Fine L) : ∀ (D E : List Int), (E ++ D).Nodup → (∀ h ∈ E ++ D, chkE L h = 0 ∧ h ∉ rtH L) → ∀ c, Swept L c E → Swept L (swL c D) (E ++ D)
  | [], E, _, _, c, s => by rw [List.append_nil]; exact s
  | h :: D, E, hn, hall, c, s => by
    have hh := hall h (by simp)
    have hnE : h ∉ E := fun hm => by
      rw [List.nodup_append] at hn
      exact hn.2.2 h hm h (by simp) rfl
    have s2 := (s.more hh.1 hnE hh.2).2.2
    have e : E ++ h :: D = E ++ [h] ++ D := by simp
    rw [e] at hn hall ⊢
    exact swept_of hf D (E ++ [h]) hn hall (dropL c h) s2
section
variable {L c : List Int}
/-- The dead are dropped. -/
theorem dead_ok (hf : Fine L) : (ddK L 40).Nodup ∧ ∀ h ∈ ddK L 40, chkE L h = 0 ∧ h ∉ rtH L := by
  refine ⟨?_, fun h hh => ?_⟩
  · unfold ddK
    exact List.Pairwise.filter _ (List.pairwise_map.2 (List.nodup_range.imp (fun hne e => hne (by omega))))
  · obtain ⟨⟨h1, h2⟩, ht, hw⟩ := mem_ddK.1 hh
    refine ⟨chkE_zero.2 ⟨hf.len0, hndB_iff.2 ⟨h1, h2⟩, ht⟩, fun hm => ?_⟩
    exact ((wyL_still hf).base h hm).1 hw
theorem sweep_swept (hf : Fine L) : Swept L (swL L (ddK L 40)) (ddK L 40) := by
  obtain ⟨h1, h2⟩ := dead_ok hf
  have := swept_of hf (ddK L 40) [] (by simpa using h1) (by simpa using h2) L (Swept.refl hf)
  simpa using this
theorem Swept.roots {D : List Int} (s : Swept L c D) : rtH c = rtH L := by
  unfold rtH
  rw [rootsK_same 8 s.rows]
theorem live_not (hf : Fine L) {h : Int} (hn : wyL L h ≠ []) : h ∉ ddK L 40 := fun hm => hn (mem_ddK.1 hm).2.2
/-- What is live is as it was. -/
theorem live_obj (hf : Fine L) (s : Swept L c (ddK L 40)) {h : Int} (hn : wyL L h ≠ []) : objOf c h = objOf L h ∧ chkE c h = 0 := by
  have hc := wyL_there hf hn
  obtain ⟨q1, q2, q3⟩ := chkE_zero.1 hc
  have hh := hndB_iff.1 q2
  obtain ⟨e1, e2⟩ := s.keep h hh.1 hh.2 (live_not hf hn)
  refine ⟨obj_same s.len e1 e2 (fun ht j hj _ => s.tail j ?_), chkE_zero.2 ⟨s.fine.len0, q2, by rw [e1]; exact q3⟩⟩
  have := (hf.ent hh.1 hh.2 ht).1
  omega
theorem live_refs (hf : Fine L) (s : Swept L c (ddK L 40)) {h : Int} (hn : wyL L h ≠ []) : refsL c h = refsL L h := by
  unfold refsL
  rw [(live_obj hf s hn).1]
  refine fold_cong _ [] (fun x hx => ⟨fun hc => ?_, fun hc => ?_⟩)
  · obtain ⟨_, q2, q3⟩ := chkE_zero.1 hc
    have hh := hndB_iff.1 q2
    refine chkE_zero.2 ⟨hf.len0, q2, ?_⟩
    by_cases hd : x ∈ ddK L 40
    · exact absurd (s.gone x hd hh.1 hh.2) q3
    · rw [← (s.keep x hh.1 hh.2 hd).1]; exact q3
  · exact (live_obj hf s ((wyL_still hf).next h hn x (refsL_has hx hc)).1).2
/-- The ways are the same. -/
theorem sweep_ways (hf : Fine L) (s : Swept L c (ddK L 40)) (h : Int) : wyL c h = wyL L h := by
  unfold wyL
  rw [s.roots]
  exact wyO_same (rtH_dg hf) (refsL_dg L) (refsL_dg c) (fun g hg => live_refs hf s hg) h
/-- Swept, nobody is dead. -/
theorem sweep_none (hf : Fine L) (s : Swept L c (ddK L 40)) : ddK c 40 = [] := by
  refine List.eq_nil_iff_forall_not_mem.2 (fun h hm => ?_)
  obtain ⟨⟨h1, h2⟩, ht, hw⟩ := mem_ddK.1 hm
  rw [sweep_ways hf s] at hw
  by_cases hd : h ∈ ddK L 40
  · exact ht (s.gone h hd h1 h2)
  · rw [(s.keep h h1 h2 hd).1] at ht
    exact hd (mem_ddK.2 ⟨⟨h1, h2⟩, ht, hw⟩)
/-- And the live are as they were. -/
theorem sweep_live (hf : Fine L) (s : Swept L c (ddK L 40)) : lvK c 40 = lvK L 40 := by
  unfold lvK lvB
  refine List.filter_congr (fun h hh => ?_)
  obtain ⟨h1, h2⟩ := mem_hands.1 hh
  rw [sweep_ways hf s]
  by_cases hw : wyL L h = []
  · simp [hw]
  · rw [(s.keep h h1 h2 (live_not hf hw)).1]
/-- Object by object: the dead are none, all others as they were. -/
theorem sweep_objs (hf : Fine L) (s : Swept L c (ddK L 40)) {h : Int} (h1 : 1 ≤ h) (h2 : h ≤ 40) : (h ∈ ddK L 40 → objOf c h = (-1, [])) ∧ (h ∉ ddK L 40 → objOf c h = objOf L h) := by
  refine ⟨fun hd => objOf_none (s.gone h hd h1 h2), fun hd => ?_⟩
  obtain ⟨e1, e2⟩ := s.keep h h1 h2 hd
  refine obj_same s.len e1 e2 (fun ht j hj _ => s.tail j ?_)
  have := (hf.ent h1 h2 ht).1
  omega
end
end Go.Proofs.YtopblhmbjdfebaaGreat
/-! What an op of a script does with an image, as plain lists. (Part of the proofs over scripts.) -/
namespace Go.Proofs.YtopblhmbjdfebaaGreat
open Go.RowKit
set_option linter.unusedVariables false

/-- An op: what, handle, at, len, name, body. -/
abbrev OpP := Int × Int × Int × Int × ByteArray × List Int
section
variable {L : List Int}
theorem Row1.len_eq {b c r : List Int} {i : Nat} (t : Row1 b c i r) : c.length = b.length := t.len
theorem wrB_fine (hf : Fine L) (h x : Int) (l : List Int) : Fine (wrB L h x l) ∧ (wrB L h x l).length = L.length := by
  unfold wrB
  by_cases h0 : pcE L h x l.length = 0
  · rw [if_pos h0]
    obtain ⟨c0, x0, _, x2⟩ := pcE_zero.1 h0
    have hh := hndB_iff.1 (chkE_zero.1 c0).2.1
    obtain ⟨X, rfl⟩ := Int.eq_ofNat_of_zero_le x0
    rw [Int.toNat_natCast]
    obtain ⟨q1, q2, _⟩ := write_keep hf hh.1 hh.2 (chkE_zero.1 c0).2.2 (p := X) (r := l) x2
    exact ⟨q1, q2⟩
  · rw [if_neg h0]; exact ⟨hf, rfl⟩
theorem wrB_byt (hb : Byt L) (h x : Int) {l : List Int} (hl : Byt l) : Byt (wrB L h x l) := by
  unfold wrB
  by_cases h0 : pcE L h x l.length = 0
  · rw [if_pos h0]; exact byt_splice hb hl
  · rw [if_neg h0]; exact hb
theorem dropL_len (hf : Fine L) {h : Int} (hc : chkE L h = 0) : (dropL L h).length = L.length := by
  have hh := hndB_iff.1 (chkE_zero.1 hc).2.1
  have hp := plc_le hh.1 hh.2
  have hl := hf.len
  unfold dropL
  rw [if_pos hc, length_splice (by rw [length_zerosB]; omega)]
theorem frB_fine (hf : Fine L) (h : Int) : Fine (frB L h) ∧ (frB L h).length = L.length := by
  unfold frB
  by_cases h0 : frE L h = 0
  · rw [if_pos h0]; exact ⟨drop_ok hf h0, dropL_len hf (frE_zero.1 h0).1⟩
  · rw [if_neg h0]; exact ⟨hf, rfl⟩
theorem frB_byt (hb : Byt L) (h : Int) : Byt (frB L h) := by
  unfold frB
  by_cases h0 : frE L h = 0
  · rw [if_pos h0]; exact byt_drop hb h
  · rw [if_neg h0]; exact hb
theorem al_len (hf : Fine L) (n t : Int) : (alB L n t).length = L.length := by
  by_cases h0 : alE L n t = 0
  · obtain ⟨x, N, hk⟩ := al_ok hf h0
    exact (hk.keep hf h0).2.1
  · unfold alB; rw [if_neg h0]
theorem seF_fine (hf : Fine L) (s : ByteArray) (x : Int) : Fine (seF L s x) ∧ (seF L s x).length = L.length := by
  unfold seF
  by_cases h0 : seE L s x = 0
  · rw [if_pos h0]; exact ⟨(se_fine hf h0).1, (se_row hf h0).len⟩
  · rw [if_neg h0]; exact ⟨hf, rfl⟩
theorem seF_byt (hb : Byt L) (s : ByteArray) (x : Int) : Byt (seF L s x) := by
  unfold seF
  by_cases h0 : seE L s x = 0
  · rw [if_pos h0]; exact se_byt hb s x
  · rw [if_neg h0]; exact hb
theorem unF_fine (hf : Fine L) (s : ByteArray) : Fine (unF L s) ∧ (unF L s).length = L.length := by
  unfold unF
  by_cases h0 : unE L s = 0
  · rw [if_pos h0]; exact ⟨un_fine hf h0, (un_row hf h0).len⟩
  · rw [if_neg h0]; exact ⟨hf, rfl⟩
theorem unF_byt (hb : Byt L) (s : ByteArray) : Byt (unF L s) := by
  unfold unF
  by_cases h0 : unE L s = 0
  · rw [if_pos h0]; exact un_byt hb s
  · rw [if_neg h0]; exact hb
/-- One step closer together, if there is one. -/
def mvT (L : List Int) : List Int := (mvS L).getD L
theorem mvT_fine (hf : Fine L) : Fine (mvT L) ∧ (mvT L).length = L.length := by
  unfold mvT
  cases h : mvS L with
  | none => exact ⟨hf, rfl⟩
  | some c =>
    have := (step_as hf h).1
    exact ⟨this.fine, this.len⟩
theorem mvT_byt (hb : Byt L) : Byt (mvT L) := by
  unfold mvT mvS
  cases h : mvOn 288 (srtE L) with
  | none => exact hb
  | some x => exact mv_byt hb _ _
/-- All that are dead are freed. -/
def swT (L : List Int) : List Int := swL L (ddK L 40)
theorem swL_byt : ∀ (D : List Int) {b : List Int}, Byt b → Byt (swL b D)
  | [], b, hb => hb
  | h :: D, b, hb => swL_byt D (byt_drop hb h)
theorem swT_fine (hf : Fine L) : Fine (swT L) ∧ (swT L).length = L.length := ⟨(sweep_swept hf).fine, (sweep_swept hf).len⟩
/-- The image behind an op; those that are none of these leave it. -/
def doB (L : List Int) (o : OpP) : List Int :=
  if o.1 = 1 then alB L o.2.2.2.1 o.2.2.1
  else if o.1 = 2 then frB L o.2.1
  else if o.1 = 3 then wrB L o.2.1 o.2.2.1 o.2.2.2.2.2
  else if o.1 = 4 then seF L o.2.2.2.2.1 o.2.1
  else if o.1 = 5 then unF L o.2.2.2.2.1
  else if o.1 = 8 then mvT L
  else if o.1 = 9 then swT L
  else L
theorem doB_fine (hf : Fine L) (o : OpP) : Fine (doB L o) ∧ (doB L o).length = L.length := by
  unfold doB
  split
  · exact ⟨alB_fine hf _ _, al_len hf _ _⟩
  · split
    · exact frB_fine hf _
    · split
      · exact wrB_fine hf _ _ _
      · split
        · exact seF_fine hf _ _
        · split
          · exact unF_fine hf _
          · split
            · exact mvT_fine hf
            · split
              · exact swT_fine hf
              · exact ⟨hf, rfl⟩
theorem doB_byt (hb : Byt L) (o : OpP) (ho : Byt o.2.2.2.2.2) : Byt (doB L o) := by
  unfold doB
  split
  · exact alB_byt hb _ _
  · split
    · exact frB_byt hb _
    · split
      · exact wrB_byt hb _ _ ho
      · split
        · exact seF_byt hb _ _
        · split
          · exact unF_byt hb _
          · split
            · exact mvT_byt hb
            · split
              · exact swL_byt _ hb
              · exact hb
end
end Go.Proofs.YtopblhmbjdfebaaGreat
/-! An op as a block of its own; what is known of a heap and a slice beside it. (Part of the proofs over laws of ops.) -/
namespace Go.Proofs.YtopblhmbjdfebaaGreat
open Go.RowKit
set_option linter.unusedVariables false

/-- Block g is one op. -/
def OpB (w : World) (g : Nat) (r : OpR) : Prop := w.heap[g]? = some (.cells #[.int .i64 r.1, .int .i64 r.2.1, .int .i64 r.2.2.1, .int .i64 r.2.2.2.1, .string r.2.2.2.2.1, .slice r.2.2.2.2.2.1 r.2.2.2.2.2.2.2.length r.2.2.2.2.2.2.1] 37 (0, 0))
section
variable {w w' : World} {g : Nat} {r : OpR}
theorem OpB.lt (h : OpB w g r) : g < w.heap.size := (Array.getElem?_eq_some_iff.1 h).1
theorem OpB.below (h : OpB w g r) (hb : Below w.heap.size w w') : OpB w' g r := (hb.block g h.lt).trans h
theorem OpB.turn {S S' : Nat → Prop} (h : OpB w g r) (ht : Turn S S' w w') (hn : ¬ S g) : OpB w' g r := (ht.block g h.lt hn).trans h
theorem OpB.cells (h : OpB w g r) : w.cell? ⟨g, 0, none⟩ = some (.int .i64 r.1) ∧ w.cell? ⟨g, 1, none⟩ = some (.int .i64 r.2.1) ∧ w.cell? ⟨g, 2, none⟩ = some (.int .i64 r.2.2.1) ∧ w.cell? ⟨g, 3, none⟩ = some (.int .i64 r.2.2.2.1) ∧ w.cell? ⟨g, 4, none⟩ = some (.string r.2.2.2.2.1) ∧ w.cell? ⟨g, 5, none⟩ = some (.slice r.2.2.2.2.2.1 r.2.2.2.2.2.2.2.length r.2.2.2.2.2.2.1) := by
  simp only [cell_of_row _ _ _ _ _ _ h]
  exact ⟨rfl, rfl, rfl, rfl, rfl, rfl⟩
end
theorem OpB.new (w : World) (r : OpR) : OpB (w.alloc (.cells #[.int .i64 r.1, .int .i64 r.2.1, .int .i64 r.2.2.1, .int .i64 r.2.2.2.1, .string r.2.2.2.2.1, .slice r.2.2.2.2.2.1 r.2.2.2.2.2.2.2.length r.2.2.2.2.2.2.1] 37)) w.heap.size r := heap_alloc_new w _
theorem Hp.footLt {w : World} {B p g c : Nat} {L : List Int} (h : Hp w B p g c L) : ∀ k, foot p g k → k < w.heap.size := fun k hk => by
  rcases hk with rfl | rfl
  · exact h.plt
  · exact h.glt
/-- A slice whose block a call has made since a heap was there. -/
theorem BsO.fresh {w w' : World} {B p g c : Nat} {L : List Int} (hh : Hp w B p g c L) {a : Option Addr} {cap : Nat} {l : List Int} (h : Bs w' a cap l) (hf : Fr w.heap.size a) : BsO w' (foot p g) a cap l :=
  ⟨h, fun _ x hx hs => by have h1 := hf x hx; have h2 := hh.footLt _ hs; omega⟩
end Go.Proofs.YtopblhmbjdfebaaGreat
/-! Rows of numbers. (Part of the proofs over who is led to.) -/
namespace Go.Proofs.YtopblhmbjdfebaaGreat
open Go.RowKit
set_option linter.unusedVariables false

/-- A number as an element of a row. -/
def inC (z : Int) : List Value := [.int .i64 z]
theorem inC_len (z : Int) : (inC z).length = 1 := rfl
theorem inC_one (z : Int) : ∀ u ∈ inC z, u.oneCell' = true := by
  intro u hu
  rw [List.mem_singleton.1 hu]
  rfl
theorem info_inS : (Tryz.prog.info? 3).map (fun i => (i.zero, i.size, i.bytes)) = some (some (.int .i64 0), 1, 8) := by kernel_rfl
theorem Sls.num {w : World} {b off cap : Nat} {l : List Int} (hc : ∀ i x, l[i]? = some x → ∀ j u, (inC x)[j]? = some u → w.cell? ⟨b, off + i * 1 + j, none⟩ = some u) {i : Nat} {e : Int} (h : l[i]? = some e) : w.cell? ⟨b, off + i, none⟩ = some (.int .i64 e) := by
  have := hc i e h 0 _ rfl
  rw [Nat.mul_one, Nat.add_zero] at this
  exact this
end Go.Proofs.YtopblhmbjdfebaaGreat
