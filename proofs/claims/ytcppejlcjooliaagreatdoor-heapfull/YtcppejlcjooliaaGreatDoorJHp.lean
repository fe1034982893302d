/-
  Joined by program: HpHead; HpPut; HpFit; HpLow; HpE; HpRow; Turn; HpA; HpFull; BytesClone; HpB; Cut2; HpC; ClearB; HpF; HpG; HpFullB; WalkHeapFull. (Parts of the proofs over the packages of the program.)
-/
import Derived.Test.YtcppejlcjooliaaGreatDoorChSame
import Derived.Test.YtcppejlcjooliaaGreatDoorExPlain
import Derived.Test.YtcppejlcjooliaaGreatDoorImF
import Derived.Test.YtcppejlcjooliaaGreatDoorExE
import Derived.Test.YtcppejlcjooliaaGreatDoorImE
import Derived.Test.YtcppejlcjooliaaGreatDoorLaws
import Derived.Test.YtcppejlcjooliaaGreatDoorOwnV
import Derived.Test.YtcppejlcjooliaaGreatDoorNumPut
import Derived.Test.YtcppejlcjooliaaGreatDoorProg
import Derived.Test.YtcppejlcjooliaaGreatDoorImC
import Derived.Test.YtcppejlcjooliaaGreatDoorExA
import Derived.Deep.RegionHeld3
import Derived.Test.YtcppejlcjooliaaGreatDoorImI
import Derived.Test.YtcppejlcjooliaaGreatDoorErrSame
/-! Images whose first 288 bytes are the same: the same entries, the same roots, the same faults; as plain lists. (Part of the proofs over package heap.) -/
namespace Go.Proofs.YtcppejlcjooliaaGreatDoor
open Go.RowKit
set_option linter.unusedVariables false

theorem faults_iff {b : List Int} : faults b = [] ↔ (∀ h, 1 ≤ h → h ≤ 40 → hFault b h = []) ∧ ∀ i, i < 8 → rFault b i = [] := by
  constructor
  · intro hf
    refine ⟨fun h h1 h2 => ?_, fun i hi => ?_⟩
    · refine List.eq_nil_iff_forall_not_mem.2 (fun f hm => ?_)
      have := faults_hand h1 h2 hm
      rw [hf] at this
      cases this
    · refine List.eq_nil_iff_forall_not_mem.2 (fun f hm => ?_)
      have := faults_root hi hm
      rw [hf] at this
      cases this
  · rintro ⟨h1, h2⟩
    refine List.eq_nil_iff_forall_not_mem.2 (fun f hf => ?_)
    unfold faults at hf
    rcases List.mem_append.1 hf with hf | hf
    · obtain ⟨j, hj, hf⟩ := mem_hFK.1 hf
      rw [h1 _ (by omega) (by omega)] at hf
      cases hf
    · obtain ⟨j, hj, hf⟩ := mem_rFK.1 hf
      rw [h2 j hj] at hf
      cases hf
section
variable {b c : List Int}
/-- What a handle is is told by the entries of all. -/
theorem wh_same (hlen : c.length = b.length) (hs : ∀ h, 1 ≤ h → h ≤ 40 → tagAt c h = tagAt b h ∧ entOf c h = entOf b h) : ∀ h, 1 ≤ h → h ≤ 40 → whE c h = whE b h := by
  intro h h1 h2
  have hok : ∀ j : Nat, j < 40 → okE c ((j : Int) + 1) = okE b ((j : Int) + 1) := fun j hj => by
    obtain ⟨e1, e2⟩ := hs ((j : Int) + 1) (by omega) (by omega)
    unfold okE
    rw [e1, e2, putE_same hlen]
  have hlap : ∀ k : Nat, k ≤ 40 → lapK c h k = lapK b h k := by
    intro k
    induction k with
    | zero => intro _; rfl
    | succ k ih =>
      intro hk
      unfold lapK
      rw [ih (by omega), hok k (by omega), (hs h h1 h2).2, (hs ((k : Int) + 1) (by omega) (by omega)).2]
  unfold whE
  rw [(hs h h1 h2).1, (hs h h1 h2).2, putE_same hlen, hlap _ (by omega)]
theorem head_ents (hlen : c.length = b.length) (hb : 288 ≤ b.length) (hs : ∀ j, j < 288 → c.getD j 0 = b.getD j 0) : ∀ h, 1 ≤ h → h ≤ 40 → tagAt c h = tagAt b h ∧ entOf c h = entOf b h := fun h h1 h2 =>
  entOf_same hlen hb h1 h2 (fun j hj => hs _ (by have := plc_le h1 h2; omega))
theorem head_rows (hlen : c.length = b.length) (hb : 288 ≤ b.length) (hs : ∀ j, j < 288 → c.getD j 0 = b.getD j 0) : ∀ i, i < 8 → rowAt c i = rowAt b i := fun i hi => by
  apply ext_getD
  · rw [rowAt_len (by omega), rowAt_len (by omega)]
  · intro j hj
    rw [rowAt_len (by omega)] at hj
    rw [rowAt_getD hj, rowAt_getD hj]
    exact hs _ (by omega)
/-- Rows that are the same, and handles of which the right ones stay right: the roots have no faults again. -/
theorem roots_keep (hrow : ∀ i, i < 8 → rowAt c i = rowAt b i) (hw : ∀ i, i < 8 → hndB ((rowAt b i).getD 10 0) = true → isRoot (rowAt b i) = true → whE b ((rowAt b i).getD 10 0) = 1 → whE c ((rowAt b i).getD 10 0) = 1) (hf : ∀ i, i < 8 → rFault b i = []) :
    ∀ k, k ≤ 8 → nmsK c k = nmsK b k ∧ ∀ i, i < k → rFault c i = [] := by
  intro k
  induction k with
  | zero => intro _; exact ⟨by simp only [nmsK], fun i hi => absurd hi (Nat.not_lt_zero i)⟩
  | succ k ih =>
    intro hk
    obtain ⟨ih1, ih2⟩ := ih (by omega)
    have hr := hrow k (by omega)
    have hname : nameAt c k = nameAt b k := by unfold nameAt; rw [hr]
    have key : fineR c k (nmsK b k) = fineR b k (nmsK b k) ∧ rFault c k = [] := by
      rcases rFault_nil.1 (hf k (by omega)) with h0 | h0
      · have h1 : isRoot (rowAt c k) = false := by rw [hr]; exact h0
        have e1 : fineR c k (nmsK b k) = false := by unfold fineR; rw [h1]; rfl
        have e2 : fineR b k (nmsK b k) = false := by unfold fineR; rw [h0]; rfl
        exact ⟨by rw [e1, e2], rFault_nil.2 (.inl h1)⟩
      · have h0' := h0
        unfold fineR at h0'
        rw [Bool.and_eq_true, Bool.and_eq_true, Bool.not_eq_true', Bool.not_eq_true'] at h0'
        have hbad : badR c k = false := by
          obtain ⟨q1, q2, q3, q4, q5⟩ := badR_no.1 h0'.2.1
          refine badR_no.2 ?_
          rw [hr]
          exact ⟨q1, q2, q3, q4, hw k (by omega) q4 h0'.1 q5⟩
        have e1 : fineR c k (nmsK b k) = true := by
          unfold fineR
          rw [hr, hbad, hname, h0'.1, h0'.2.2]; rfl
        exact ⟨by rw [e1, h0], rFault_nil.2 (.inr (by rw [ih1]; exact e1))⟩
    refine ⟨?_, fun i hi => ?_⟩
    · simp only [nmsK]
      rw [ih1, key.1, hname]
    · by_cases e : i = k
      · subst e; exact key.2
      · exact ih2 i (by omega)
/-- What stands behind the head is nobody's fault. -/
theorem head_fine (hlen : c.length = b.length) (hb : 288 ≤ b.length) (hs : ∀ j, j < 288 → c.getD j 0 = b.getD j 0) (hf : faults b = []) : faults c = [] := by
  obtain ⟨f1, f2⟩ := faults_iff.1 hf
  have he := head_ents hlen hb hs
  have hwh := wh_same hlen he
  refine faults_iff.2 ⟨fun h h1 h2 => ?_, fun i hi => ?_⟩
  · rw [hFault_nil, hwh h h1 h2, (he h h1 h2).1, (he h h1 h2).2]
    exact hFault_nil.1 (f1 h h1 h2)
  · refine (roots_keep (head_rows hlen hb hs) (fun j hj hq _ h1 => ?_) f2 8 (by omega)).2 i hi
    have hh := hndB_iff.1 hq
    rw [hwh _ hh.1 hh.2]
    exact h1
theorem head_entsK (hlen : c.length = b.length) (hb : 288 ≤ b.length) (hs : ∀ j, j < 288 → c.getD j 0 = b.getD j 0) : ∀ k, k ≤ 40 → entsK c k = entsK b k := by
  intro k
  induction k with
  | zero => intro _; rfl
  | succ k ih =>
    intro hk
    obtain ⟨e1, e2⟩ := head_ents hlen hb hs ((k : Int) + 1) (by omega) (by omega)
    unfold entsK
    rw [ih (by omega), e1, e2]
theorem head_rootsK (hlen : c.length = b.length) (hb : 288 ≤ b.length) (hs : ∀ j, j < 288 → c.getD j 0 = b.getD j 0) : rootsK c 8 = rootsK b 8 :=
  rootsK_same 8 (fun j hj => head_rows hlen hb hs j hj)
end
end Go.Proofs.YtcppejlcjooliaaGreatDoor
/-! One object more, one less, and bytes written into one, in an image that is right; as plain lists. (Part of the proofs over package heap.) -/
namespace Go.Proofs.YtcppejlcjooliaaGreatDoor
open Go.RowKit
set_option linter.unusedVariables false

section
variable {b : List Int}
/-- An image that has no fault: each handle is none, or right and over no other one. -/
structure Fine (b : List Int) : Prop where
  len : 288 ≤ b.length ∧ b.length ≤ 6400
  ok : faults b = []
theorem Fine.len0 (hf : Fine b) : lenB b.length = true := lenB_iff.2 (by have := hf.len; omega)
theorem Fine.hand (hf : Fine b) {h : Int} (h1 : 1 ≤ h) (h2 : h ≤ 40) (ht : tagAt b h ≠ 0) : whE b h = 1 ∧ putE b (entOf b h) = 0 := by
  rcases hFault_nil.1 ((faults_iff.1 hf.ok).1 h h1 h2) with hw | hw
  · exact ⟨hw, (wh_one.1 hw).2.1⟩
  · exact absurd hw.1 ht
theorem Fine.ent (hf : Fine b) {h : Int} (h1 : 1 ≤ h) (h2 : h ≤ 40) (ht : tagAt b h ≠ 0) : 288 ≤ (entOf b h).2.1 ∧ 1 ≤ (entOf b h).2.2.1 ∧ (entOf b h).2.2.1 ≤ 1000 ∧ (entOf b h).2.1 + (entOf b h).2.2.1 ≤ b.length ∧ 0 ≤ (entOf b h).2.2.2 ∧ (entOf b h).2.2.2 ≤ 15 := by
  have := putE_zero.1 (hf.hand h1 h2 ht).2
  obtain ⟨_, _, q1, q2, q3, q4, q5, q6⟩ := this
  exact ⟨q5, q3, q4, q6, q1, q2⟩
theorem okE_of {h : Int} (hw : whE b h = 1) : okE b h = true := by
  obtain ⟨h1, h2, _⟩ := wh_one.1 hw
  unfold okE
  rw [decide_eq_true h1, decide_eq_true h2]
  rfl
theorem lapB_comm (e f : (Int × Int × Int × Int)) : lapB e f = lapB f e := by unfold lapB; rw [Bool.and_comm]
theorem lapB_no {e f : (Int × Int × Int × Int)} : lapB e f = false ↔ f.2.1 + f.2.2.1 ≤ e.2.1 ∨ e.2.1 + e.2.2.1 ≤ f.2.1 := by
  unfold lapB
  rw [Bool.and_eq_false_iff, decide_eq_false_iff_not, decide_eq_false_iff_not]
  omega
/-- No two are over each other. -/
theorem Fine.apart (hf : Fine b) {h k : Int} (h1 : 1 ≤ h) (h2 : h ≤ 40) (k1 : 1 ≤ k) (k2 : k ≤ 40) (hk : h ≠ k) (ht : tagAt b h ≠ 0) (kt : tagAt b k ≠ 0) : lapB (entOf b h) (entOf b k) = false := by
  have key : ∀ {h k : Int}, 1 ≤ h → h ≤ 40 → 1 ≤ k → k < h → tagAt b h ≠ 0 → tagAt b k ≠ 0 → lapB (entOf b h) (entOf b k) = false := by
    intro h k h1 h2 k1 hlt ht kt
    have hw := (hf.hand h1 h2 ht).1
    have kw := (hf.hand k1 (by omega) kt).1
    cases hl : lapB (entOf b h) (entOf b k) with
    | false => rfl
    | true =>
      have hno := (wh_one.1 hw).2.2
      have : lapK b h (h - 1).toNat = true := lapK_iff.2 ⟨(k - 1).toNat, by omega, by
        rw [show (((k - 1).toNat : Nat) : Int) + 1 = k by omega]
        exact ⟨okE_of kw, hl⟩⟩
      rw [hno] at this
      cases this
  rcases Int.lt_or_gt_of_ne hk with h' | h'
  · rw [lapB_comm]
    exact key k1 k2 h1 h' kt ht
  · exact key h1 h2 k1 h' ht kt
/-- In an image: each handle of 1 to 40 that is one is right, and over no other; the others have nothing; the roots as they were. -/
theorem fine_of {c : List Int} (hl : lenB c.length = true) (hh : ∀ h, 1 ≤ h → h ≤ 40 → tagAt c h ≠ 0 → putE c (entOf c h) = 0) (ha : ∀ h k, 1 ≤ h → h ≤ 40 → 1 ≤ k → k < h → tagAt c h ≠ 0 → tagAt c k ≠ 0 → lapB (entOf c h) (entOf c k) = false)
    (hz : ∀ h, 1 ≤ h → h ≤ 40 → tagAt c h = 0 → (entOf c h).2.1 = 0 ∧ (entOf c h).2.2.1 = 0) (hr : (∀ h, 1 ≤ h → h ≤ 40 → tagAt c h ≠ 0 → whE c h = 1) → ∀ i, i < 8 → rFault c i = []) : Fine c := by
  have hw : ∀ h, 1 ≤ h → h ≤ 40 → tagAt c h ≠ 0 → whE c h = 1 := fun h h1 h2 ht => by
    refine wh_one.2 ⟨ht, hh h h1 h2 ht, ?_⟩
    cases hq : lapK c h (h - 1).toNat with
    | false => rfl
    | true =>
      obtain ⟨j, hj, ho, hlp⟩ := lapK_iff.1 hq
      unfold okE at ho
      rw [Bool.and_eq_true, decide_eq_true_iff] at ho
      rw [ha h ((j : Int) + 1) h1 h2 (by omega) (by omega) ht ho.1] at hlp
      cases hlp
  have hlen := lenB_iff.1 hl
  refine ⟨by omega, faults_iff.2 ⟨fun h h1 h2 => hFault_nil.2 ?_, hr hw⟩⟩
  by_cases ht : tagAt c h = 0
  · exact .inr ⟨ht, hz h h1 h2 ht⟩
  · exact .inl (hw h h1 h2 ht)
/-- One more, where there is none, over no other one. -/
theorem put_fine (hf : Fine b) {e : (Int × Int × Int × Int)} (he : putE b e = 0) (h0 : tagAt b e.1 = 0) (hno : ∀ k, 1 ≤ k → k ≤ 40 → tagAt b k ≠ 0 → lapB e (entOf b k) = false) :
    Fine (putL b e) ∧ (∀ k, 1 ≤ k → k ≤ 40 → k ≠ e.1 → tagAt (putL b e) k = tagAt b k ∧ entOf (putL b e) k = entOf b k) ∧ tagAt (putL b e) e.1 ≠ 0 ∧ entOf (putL b e) e.1 = e ∧ (putL b e).length = b.length ∧ (∀ j, 200 ≤ j → (putL b e).getD j 0 = b.getD j 0) := by
  have hb := hf.len
  have hlen := putL_len he
  obtain ⟨_, hh, _⟩ := putE_zero.1 he
  have hh' := hndB_iff.1 hh
  have hp := plc_le hh'.1 hh'.2
  have hr5 : (rowE e).length = 5 := rfl
  have hL : putL b e = splice b (plc e.1) (rowE e) := by unfold putL; rw [if_pos he]
  obtain ⟨hg1, hg2⟩ := putL_get he
  have hself : tagAt (putL b e) e.1 ≠ 0 := (chkE_zero.1 hg1).2.2
  have hother : ∀ k, 1 ≤ k → k ≤ 40 → k ≠ e.1 → tagAt (putL b e) k = tagAt b k ∧ entOf (putL b e) k = entOf b k := fun k k1 k2 hk => by
    rw [hL]
    exact splice_tag hr5 hb.1 hh'.1 hh'.2 k1 k2 hk
  have htail : ∀ j, 200 ≤ j → (putL b e).getD j 0 = b.getD j 0 := fun j hj => by
    rw [hL, splice_out (by rw [hr5]; omega) (by rw [hr5]; omega)]
  have hrow : ∀ i, i < 8 → rowAt (putL b e) i = rowAt b i := fun i hi => by
    apply ext_getD
    · rw [rowAt_len (by omega), rowAt_len (by omega)]
    · intro j hj
      rw [rowAt_len (by omega)] at hj
      rw [rowAt_getD hj, rowAt_getD hj]
      exact htail _ (by omega)
  refine ⟨fine_of (by rw [hlen]; exact hf.len0) (fun h h1 h2 ht => ?_) (fun h k h1 h2 k1 hlt ht kt => ?_) (fun h h1 h2 ht => ?_) (fun hw => ?_), hother, hself, hg2, hlen, htail⟩
  · by_cases hq : h = e.1
    · subst hq
      rw [hg2, putE_same hlen]
      exact he
    · obtain ⟨e1, e2⟩ := hother h h1 h2 hq
      rw [e1] at ht
      rw [e2, putE_same hlen]
      exact (hf.hand h1 h2 ht).2
  · by_cases hq : h = e.1
    · subst hq
      obtain ⟨e1, e2⟩ := hother k k1 (by omega) (by omega)
      rw [e1] at kt
      rw [hg2, e2]
      exact hno k k1 (by omega) kt
    · obtain ⟨e1, e2⟩ := hother h h1 h2 hq
      rw [e1] at ht
      by_cases hq2 : k = e.1
      · subst hq2
        rw [e2, hg2, lapB_comm]
        exact hno h h1 h2 ht
      · obtain ⟨e3, e4⟩ := hother k k1 (by omega) hq2
        rw [e3] at kt
        rw [e2, e4]
        exact hf.apart h1 h2 k1 (by omega) (by omega) ht kt
  · by_cases hq : h = e.1
    · subst hq; exact absurd ht hself
    · obtain ⟨e1, e2⟩ := hother h h1 h2 hq
      rw [e1] at ht
      rw [e2]
      rcases hFault_nil.1 ((faults_iff.1 hf.ok).1 h h1 h2) with hw | hw
      · exact absurd ht (wh_one.1 hw).1
      · exact hw.2
  · refine (roots_keep hrow (fun i hi hq _ hw1 => ?_) (faults_iff.1 hf.ok).2 8 (by omega)).2
    have hx := hndB_iff.1 hq
    have ht := (wh_one.1 hw1).1
    refine hw _ hx.1 hx.2 ?_
    rw [(hother _ hx.1 hx.2 (fun e' => ht (by rw [e']; exact h0))).1]
    exact ht
/-- One less, to which no root leads. -/
theorem drop_fine (hf : Fine b) {h : Int} (he : chkE b h = 0) (hno : ∀ i, i < 8 → isRoot (rowAt b i) = true → (rowAt b i).getD 10 0 ≠ h) :
    Fine (dropL b h) ∧ (∀ k, 1 ≤ k → k ≤ 40 → k ≠ h → tagAt (dropL b h) k = tagAt b k ∧ entOf (dropL b h) k = entOf b k) ∧ tagAt (dropL b h) h = 0 ∧ (dropL b h).length = b.length ∧ (∀ j, 200 ≤ j → (dropL b h).getD j 0 = b.getD j 0) := by
  have hb := hf.len
  obtain ⟨_, hh, _⟩ := chkE_zero.1 he
  have hh' := hndB_iff.1 hh
  have hp := plc_le hh'.1 hh'.2
  have hr5 := length_zerosB 5
  have hL : dropL b h = splice b (plc h) (zerosB 5) := by unfold dropL; rw [if_pos he]
  have hlen : (dropL b h).length = b.length := by rw [hL, length_splice (by rw [hr5]; omega)]
  have hzero : ∀ j, j < 5 → (dropL b h).getD (plc h + j) 0 = 0 := fun j hj => by
    rw [hL, splice_in (by rw [hr5]; omega) (by rw [hr5]; exact hj)]
    exact zeros_at 5 j
  have hself := ent_zero (c := dropL b h) (by omega) hh'.1 hh'.2 hzero
  have hother : ∀ k, 1 ≤ k → k ≤ 40 → k ≠ h → tagAt (dropL b h) k = tagAt b k ∧ entOf (dropL b h) k = entOf b k := fun k k1 k2 hk => by
    rw [hL]
    exact splice_tag hr5 hb.1 hh'.1 hh'.2 k1 k2 hk
  have htail : ∀ j, 200 ≤ j → (dropL b h).getD j 0 = b.getD j 0 := fun j hj => by
    rw [hL, splice_out (by rw [hr5]; omega) (by rw [hr5]; omega)]
  have hrow : ∀ i, i < 8 → rowAt (dropL b h) i = rowAt b i := fun i hi => by
    apply ext_getD
    · rw [rowAt_len (by omega), rowAt_len (by omega)]
    · intro j hj
      rw [rowAt_len (by omega)] at hj
      rw [rowAt_getD hj, rowAt_getD hj]
      exact htail _ (by omega)
  have hne : ∀ k, tagAt (dropL b h) k ≠ 0 → k ≠ h := fun k hk e => by subst e; exact hk hself.1
  refine ⟨fine_of (by rw [hlen]; exact hf.len0) (fun k k1 k2 ht => ?_) (fun k j k1 k2 j1 hlt ht jt => ?_) (fun k k1 k2 ht => ?_) (fun hw => ?_), hother, hself.1, hlen, htail⟩
  · obtain ⟨e1, e2⟩ := hother k k1 k2 (hne k ht)
    rw [e1] at ht
    rw [e2, putE_same hlen]
    exact (hf.hand k1 k2 ht).2
  · obtain ⟨e1, e2⟩ := hother k k1 k2 (hne k ht)
    obtain ⟨e3, e4⟩ := hother j j1 (by omega) (hne j jt)
    rw [e1] at ht
    rw [e3] at jt
    rw [e2, e4]
    exact hf.apart k1 k2 j1 (by omega) (by omega) ht jt
  · by_cases hq : k = h
    · subst hq; exact hself.2
    · obtain ⟨e1, e2⟩ := hother k k1 k2 hq
      rw [e1] at ht
      rw [e2]
      rcases hFault_nil.1 ((faults_iff.1 hf.ok).1 k k1 k2) with hw | hw
      · exact absurd ht (wh_one.1 hw).1
      · exact hw.2
  · refine (roots_keep hrow (fun i hi hq hr hw1 => ?_) (faults_iff.1 hf.ok).2 8 (by omega)).2
    have hx := hndB_iff.1 hq
    refine hw _ hx.1 hx.2 ?_
    rw [(hother _ hx.1 hx.2 (hno i hi hr)).1]
    exact (wh_one.1 hw1).1
/-! ### objects -/
theorem part_same {c : List Int} {x n : Int} (hlen : c.length = b.length) (h : ∀ j : Nat, x.toNat ≤ j → j < x.toNat + n.toNat → c.getD j 0 = b.getD j 0) : partL c x n = partL b x n := by
  unfold partL
  apply ext_getD
  · rw [List.length_take, List.length_take, List.length_drop, List.length_drop, hlen]
  · intro j hj
    rw [List.length_take, List.length_drop] at hj
    have hj2 : j < n.toNat := by omega
    have := h (x.toNat + j) (by omega) (by omega)
    simp only [List.getD, List.getElem?_take, if_pos hj2, List.getElem?_drop] at this ⊢
    exact this
theorem obj_same {c : List Int} {h : Int} (hlen : c.length = b.length) (h1 : tagAt c h = tagAt b h) (h2 : entOf c h = entOf b h) (hp : tagAt b h ≠ 0 → ∀ j : Nat, (entOf b h).2.1.toNat ≤ j → j < (entOf b h).2.1.toNat + (entOf b h).2.2.1.toNat → c.getD j 0 = b.getD j 0) : objOf c h = objOf b h := by
  unfold objOf
  rw [h1]
  by_cases ht : tagAt b h = 0
  · rw [if_pos ht, if_pos ht]
  · rw [if_neg ht, if_neg ht]
    unfold objE
    rw [h2, part_same hlen (hp ht)]
/-- An object that is put where nothing of others is: all else is as it was. -/
theorem put_objs (hf : Fine b) {e : (Int × Int × Int × Int)} (he : putE b e = 0) (h0 : tagAt b e.1 = 0) (hno : ∀ k, 1 ≤ k → k ≤ 40 → tagAt b k ≠ 0 → lapB e (entOf b k) = false) :
    (∀ k, 1 ≤ k → k ≤ 40 → k ≠ e.1 → objOf (putL b e) k = objOf b k) ∧ objOf (putL b e) e.1 = (e.2.2.2, partL b e.2.1 e.2.2.1) := by
  obtain ⟨_, ho, ht, hE, hlen, htail⟩ := put_fine hf he h0 hno
  refine ⟨fun k k1 k2 hk => ?_, ?_⟩
  · obtain ⟨e1, e2⟩ := ho k k1 k2 hk
    refine obj_same hlen e1 e2 (fun hkt j hj _ => htail j ?_)
    have := (hf.ent k1 k2 hkt).1
    omega
  · unfold objOf
    rw [if_neg ht, hE]
    unfold objE
    rw [part_same hlen (fun j hj _ => htail j (by
      obtain ⟨_, _, _, _, _, _, q, _⟩ := putE_zero.1 he
      omega))]
/-- Bytes that are laid behind the head, where nothing of a handle is: its object is as it was. -/
theorem lay_objs (hf : Fine b) {x : Nat} {r : List Int} (hx : 288 ≤ x) (hx2 : x + r.length ≤ b.length) :
    Fine (splice b x r) ∧ (splice b x r).length = b.length ∧ (∀ k, 1 ≤ k → k ≤ 40 → tagAt (splice b x r) k = tagAt b k ∧ entOf (splice b x r) k = entOf b k) ∧
    ∀ k, 1 ≤ k → k ≤ 40 → (tagAt b k ≠ 0 → (entOf b k).2.1 + (entOf b k).2.2.1 ≤ x ∨ (x : Int) + r.length ≤ (entOf b k).2.1) → objOf (splice b x r) k = objOf b k := by
  have hb := hf.len
  have hlen := length_splice hx2
  have hs : ∀ j, j < 288 → (splice b x r).getD j 0 = b.getD j 0 := fun j hj => splice_out hx2 (.inl (by omega))
  have he := head_ents hlen hb.1 hs
  refine ⟨⟨by rw [hlen]; exact hb, head_fine hlen hb.1 hs hf.ok⟩, hlen, he, fun k k1 k2 hap => ?_⟩
  obtain ⟨e1, e2⟩ := he k k1 k2
  refine obj_same hlen e1 e2 (fun hkt j hj1 hj2 => splice_out hx2 ?_)
  have hen := hf.ent k1 k2 hkt
  have := hap hkt
  omega
end
end Go.Proofs.YtcppejlcjooliaaGreatDoor
/-! Where an object has room, and what it is to have one more; as plain lists. (Part of the proofs over package heap.) -/
namespace Go.Proofs.YtcppejlcjooliaaGreatDoor
open Go.RowKit
set_option linter.unusedVariables false

section
variable {b : List Int}
theorem mem_entsK {x : (Int × Int × Int × Int)} : ∀ {k : Nat}, x ∈ entsK b k ↔ ∃ j : Nat, j < k ∧ tagAt b ((j : Int) + 1) ≠ 0 ∧ x = entOf b ((j : Int) + 1)
  | 0 => by simp [entsK]
  | k + 1 => by
    unfold entsK
    rw [List.mem_append, mem_entsK]
    by_cases ht : tagAt b ((k : Int) + 1) = 0
    · rw [if_pos ht]
      constructor
      · rintro (⟨j, h1, h2⟩ | h2)
        · exact ⟨j, by omega, h2⟩
        · cases h2
      · rintro ⟨j, h1, h2, h3⟩
        by_cases e : j = k
        · subst e; exact absurd ht h2
        · exact .inl ⟨j, by omega, h2, h3⟩
    · rw [if_neg ht]
      constructor
      · rintro (⟨j, h1, h2⟩ | h2)
        · exact ⟨j, by omega, h2⟩
        · exact ⟨k, by omega, ht, List.mem_singleton.1 h2⟩
      · rintro ⟨j, h1, h2, h3⟩
        by_cases e : j = k
        · subst e; exact .inr (List.mem_singleton.2 h3)
        · exact .inl ⟨j, by omega, h2, h3⟩
/-- What objects take of what is behind the head. -/
def shE (e : (Int × Int × Int × Int)) : Int × Int := (e.2.1 - 288, e.2.2.1)
def takeL (b : List Int) : List (Int × Int) := (entsK b 40).map shE
theorem over_sh (e f : (Int × Int × Int × Int)) : over (shE e) (shE f) = lapB e f := by
  unfold over lapB shE
  dsimp only
  rw [Bool.eq_iff_iff]
  simp only [Bool.and_eq_true, decide_eq_true_eq]
  omega
theorem mem_takeL {x : Int × Int} : x ∈ takeL b ↔ ∃ h : Int, 1 ≤ h ∧ h ≤ 40 ∧ tagAt b h ≠ 0 ∧ x = shE (entOf b h) := by
  unfold takeL
  rw [List.mem_map]
  constructor
  · rintro ⟨e, he, rfl⟩
    obtain ⟨j, h1, h2, rfl⟩ := mem_entsK.1 he
    exact ⟨(j : Int) + 1, by omega, by omega, h2, rfl⟩
  · rintro ⟨h, h1, h2, ht, rfl⟩
    refine ⟨entOf b h, mem_entsK.2 ⟨(h - 1).toNat, by omega, ?_⟩, rfl⟩
    rw [show (((h - 1).toNat : Nat) : Int) + 1 = h by omega]
    exact ⟨ht, rfl⟩
theorem takeL_len (b : List Int) : (takeL b).length ≤ 40 := by unfold takeL; rw [List.length_map]; exact entsK_len b 40
theorem take_good (hf : Fine b) : Good ((b.length : Int) - 288) (takeL b) := by
  refine ⟨fun e he => ?_, ?_⟩
  · obtain ⟨h, h1, h2, ht, rfl⟩ := mem_takeL.1 he
    have := hf.ent h1 h2 ht
    show 0 ≤ (entOf b h).2.1 - 288 ∧ 1 ≤ (entOf b h).2.2.1 ∧ (entOf b h).2.1 - 288 + (entOf b h).2.2.1 ≤ _
    omega
  · unfold takeL
    rw [List.pairwise_map]
    have key : ∀ k : Nat, k ≤ 40 → (entsK b k).Pairwise (fun x y => over (shE x) (shE y) = false) := by
      intro k
      induction k with
      | zero => intro _; exact List.Pairwise.nil
      | succ k ih =>
        intro hk
        unfold entsK
        rw [List.pairwise_append]
        refine ⟨ih (by omega), ?_, ?_⟩
        · split
          · exact List.Pairwise.nil
          · exact List.pairwise_singleton _ _
        · intro x hx y hy
          obtain ⟨j, h1, h2, rfl⟩ := mem_entsK.1 hx
          by_cases ht : tagAt b ((k : Int) + 1) = 0
          · rw [if_pos ht] at hy; cases hy
          · rw [if_neg ht] at hy
            rw [List.mem_singleton.1 hy, over_sh]
            exact hf.apart (by omega) (by omega) (by omega) (by omega) (by omega) h2 ht
    exact key 40 (Nat.le_refl _)
/-- Of bytes that no extent takes some run has them all. -/
theorem run_holds : ∀ {s : List (Int × Int)} {f : Int}, Chain f s → ∀ {p z : Int}, f ≤ p → 1 ≤ z → p + z ≤ endOf f s → (∀ e ∈ s, e.1 + e.2 ≤ p ∨ p + z ≤ e.1) → ∃ x ∈ runsOf f s, x.1 ≤ p ∧ p + z ≤ x.1 + x.2 := by
  intro s
  induction s with
  | nil =>
    intro f _ p z h1 h2 h3 _
    simp only [endOf] at h3
    omega
  | cons e r ih =>
    intro f hc p z h1 h2 h3 h4
    obtain ⟨c1, c2, c3⟩ := hc
    rcases h4 e (by simp) with h | h
    · obtain ⟨x, hx, h5⟩ := ih c3 h h2 h3 (fun e' he' => h4 e' (by simp [he']))
      exact ⟨x, by unfold runsOf; exact List.mem_append.2 (.inr hx), h5⟩
    · refine ⟨(f, e.1 - f), ?_, h1, by show p + z ≤ f + (e.1 - f); omega⟩
      unfold runsOf
      rw [if_pos (by omega)]
      simp
theorem free_holds {n : Int} {l s : List (Int × Int)} (hs : Srt l s) (hg : Good n l) (hn : 0 ≤ n) {p z : Int} (h1 : 0 ≤ p) (h2 : 1 ≤ z) (h3 : p + z ≤ n) (h4 : ∀ e ∈ l, e.1 + e.2 ≤ p ∨ p + z ≤ e.1) : ∃ x ∈ freeOf n s, x.1 ≤ p ∧ p + z ≤ x.1 + x.2 := by
  obtain ⟨c1, c2, _⟩ := hs.chain hg hn
  refine run_holds c1 h1 h2 (by rw [c2]; exact h3) (fun e he => ?_)
  rcases List.mem_append.1 he with he | he
  · exact h4 e (hs.1.mem_iff.1 he)
  · rw [List.mem_singleton.1 he]
    exact .inr h3
/-- Where the shortest run begins that will do, there is room; and there is one, if so many bytes are free anywhere. -/
theorem fit_room {n : Int} {l s : List (Int × Int)} (hs : Srt l s) (hg : Good n l) (hn : 0 ≤ n) {z : Int} (hz : 1 ≤ z) (hf : (fitB z (freeOf n s)).2 ≠ 0) :
    0 ≤ (fitB z (freeOf n s)).1 ∧ (fitB z (freeOf n s)).1 + z ≤ n ∧ ∀ e ∈ l, e.1 + e.2 ≤ (fitB z (freeOf n s)).1 ∨ (fitB z (freeOf n s)).1 + z ≤ e.1 := by
  have hin := hs.freeIn hg hn
  rcases fit_spec hz (fun r hr => (hin r hr).2.1) with ⟨h, _⟩ | ⟨_, h1, h2, _⟩
  · exact absurd h hf
  · obtain ⟨q1, q2, q3, q4⟩ := hin _ h1
    refine ⟨q1, by omega, fun e he => ?_⟩
    have := over_no.1 (q4 e he)
    omega
theorem fit_there {n : Int} {l s : List (Int × Int)} (hs : Srt l s) (hg : Good n l) (hn : 0 ≤ n) {p z : Int} (h1 : 0 ≤ p) (h2 : 1 ≤ z) (h3 : p + z ≤ n) (h4 : ∀ e ∈ l, e.1 + e.2 ≤ p ∨ p + z ≤ e.1) : (fitB z (freeOf n s)).2 ≠ 0 := by
  obtain ⟨x, hx, h5, h6⟩ := free_holds hs hg hn h1 h2 h3 h4
  rcases fit_spec h2 (fun r hr => (hs.freeIn hg hn r hr).2.1) with ⟨_, h⟩ | ⟨h, _⟩
  · have := h x hx; omega
  · omega
/-! ### one more -/
/-- The least handle that is none, less one; 40: there is none. -/
def lowH (b : List Int) : Nat := fstN (fun j => decide (tagAt b ((j : Int) + 1) = 0)) 40
theorem lowH_first (b : List Int) : First (fun j => decide (tagAt b ((j : Int) + 1) = 0)) 40 (lowH b) := first_fstN _ _
/-- An image with one object more: its bytes all 0, its entry. -/
def alL (b : List Int) (h : Int) (x n : Nat) (t : Int) : List Int := putL (splice b x (zerosB n)) (h, (x : Int), (n : Int), t)
theorem alloc_keep (hf : Fine b) {h t : Int} {x n : Nat} (h1 : 1 ≤ h) (h2 : h ≤ 40) (ht0 : tagAt b h = 0) (hn : 1 ≤ n) (hn2 : n ≤ 1000) (hx : 288 ≤ x) (hx2 : x + n ≤ b.length) (t1 : 0 ≤ t) (t2 : t ≤ 15)
    (hno : ∀ k, 1 ≤ k → k ≤ 40 → tagAt b k ≠ 0 → (entOf b k).2.1 + (entOf b k).2.2.1 ≤ x ∨ (x : Int) + n ≤ (entOf b k).2.1) :
    Fine (alL b h x n t) ∧ (alL b h x n t).length = b.length ∧ objOf (alL b h x n t) h = (t, zerosB n) ∧ entOf (alL b h x n t) h = (h, (x : Int), (n : Int), t) ∧ tagAt (alL b h x n t) h ≠ 0 ∧
      (∀ k, 1 ≤ k → k ≤ 40 → k ≠ h → objOf (alL b h x n t) k = objOf b k ∧ tagAt (alL b h x n t) k = tagAt b k ∧ entOf (alL b h x n t) k = entOf b k) := by
  have hz := length_zerosB n
  obtain ⟨hf1, hl1, he1, ho1⟩ := lay_objs hf (r := zerosB n) hx (by rw [hz]; exact hx2)
  have hp : putE (splice b x (zerosB n)) (h, (x : Int), (n : Int), t) = 0 := putE_zero.2 ⟨hf1.len0, hndB_iff.2 ⟨h1, h2⟩, t1, t2, by show 1 ≤ (n : Int); omega, by show (n : Int) ≤ 1000; omega, by show 288 ≤ (x : Int); omega, by rw [hl1]; show (x : Int) + n ≤ _; omega⟩
  have h0 : tagAt (splice b x (zerosB n)) h = 0 := by rw [(he1 h h1 h2).1]; exact ht0
  have hno1 : ∀ k, 1 ≤ k → k ≤ 40 → tagAt (splice b x (zerosB n)) k ≠ 0 → lapB (h, (x : Int), (n : Int), t) (entOf (splice b x (zerosB n)) k) = false := fun k k1 k2 kt => by
    obtain ⟨e1, e2⟩ := he1 k k1 k2
    rw [e1] at kt
    rw [e2]
    exact lapB_no.2 (hno k k1 k2 kt)
  obtain ⟨p1, p2, p3, p4, p5, p6⟩ := put_fine hf1 hp h0 hno1
  obtain ⟨o1, o2⟩ := put_objs hf1 hp h0 hno1
  refine ⟨p1, p5.trans hl1, ?_, p4, p3, fun k k1 k2 hk => ⟨?_, ?_, ?_⟩⟩
  · refine o2.trans ?_
    congr 1
    unfold partL
    dsimp only
    rw [Int.toNat_natCast, Int.toNat_natCast]
    apply ext_getD
    · rw [List.length_take, List.length_drop, hl1, hz]; omega
    · intro j hj
      rw [List.length_take, List.length_drop] at hj
      have hj2 : j < n := by omega
      have := splice_in (z := b) (l := zerosB n) (off := x) (j := j) (by rw [hz]; exact hx2) (by rw [hz]; exact hj2)
      simp only [List.getD, List.getElem?_take, if_pos hj2, List.getElem?_drop] at this ⊢
      exact this
  · exact (o1 k k1 k2 hk).trans (ho1 k k1 k2 (fun kt => by rw [hz]; exact hno k k1 k2 kt))
  · exact (p2 k k1 k2 hk).1.trans (he1 k k1 k2).1
  · exact (p2 k k1 k2 hk).2.trans (he1 k k1 k2).2
/-- The least handle, where it fits: all that Alloc needs. -/
theorem alloc_fit (hf : Fine b) {s : List (Int × Int)} (hs : Srt (takeL b) s) {n : Nat} (hn : 1 ≤ n) (hfit : (fitB n (freeOf ((b.length : Int) - 288) s)).2 ≠ 0) :
    ∃ x : Nat, (x : Int) = 288 + (fitB n (freeOf ((b.length : Int) - 288) s)).1 ∧ 288 ≤ x ∧ x + n ≤ b.length ∧ ∀ k, 1 ≤ k → k ≤ 40 → tagAt b k ≠ 0 → (entOf b k).2.1 + (entOf b k).2.2.1 ≤ x ∨ (x : Int) + n ≤ (entOf b k).2.1 := by
  have hl := hf.len
  obtain ⟨r1, r2, r3⟩ := fit_room hs (take_good hf) (by omega) (z := (n : Int)) (by omega) hfit
  generalize (fitB n (freeOf ((b.length : Int) - 288) s)).1 = y at *
  refine ⟨(288 + y).toNat, by omega, by omega, by omega, fun k k1 k2 kt => ?_⟩
  have := r3 (shE (entOf b k)) (mem_takeL.2 ⟨k, k1, k2, kt, rfl⟩)
  unfold shE at this
  dsimp only at this
  omega
/-! ### bytes written into one -/
theorem write_keep (hf : Fine b) {h : Int} (h1 : 1 ≤ h) (h2 : h ≤ 40) (ht : tagAt b h ≠ 0) {p : Nat} {r : List Int} (hr : (p : Int) + r.length ≤ (entOf b h).2.2.1) :
    Fine (splice b ((entOf b h).2.1.toNat + p) r) ∧ (splice b ((entOf b h).2.1.toNat + p) r).length = b.length ∧ (∀ k, 1 ≤ k → k ≤ 40 → k ≠ h → objOf (splice b ((entOf b h).2.1.toNat + p) r) k = objOf b k) ∧
      (∀ k, 1 ≤ k → k ≤ 40 → tagAt (splice b ((entOf b h).2.1.toNat + p) r) k = tagAt b k ∧ entOf (splice b ((entOf b h).2.1.toNat + p) r) k = entOf b k) ∧ partL (splice b ((entOf b h).2.1.toNat + p) r) ((entOf b h).2.1 + p) r.length = r := by
  have he := hf.ent h1 h2 ht
  have hx2 : (entOf b h).2.1.toNat + p + r.length ≤ b.length := by omega
  obtain ⟨q1, q2, q3, q4⟩ := lay_objs hf (x := (entOf b h).2.1.toNat + p) (r := r) (by omega) hx2
  refine ⟨q1, q2, fun k k1 k2 hk => q4 k k1 k2 (fun kt => ?_), q3, ?_⟩
  · have := lapB_no.1 (hf.apart h1 h2 k1 k2 (fun e => hk e.symm) ht kt)
    omega
  · unfold partL
    rw [show ((entOf b h).2.1 + (p : Int)).toNat = (entOf b h).2.1.toNat + p by omega, Int.toNat_natCast]
    apply ext_getD
    · rw [List.length_take, List.length_drop, q2]; omega
    · intro j hj
      rw [List.length_take, List.length_drop] at hj
      have hj2 : j < r.length := by omega
      have := splice_in (z := b) (l := r) (off := (entOf b h).2.1.toNat + p) (j := j) hx2 hj2
      simp only [List.getD, List.getElem?_take, if_pos hj2, List.getElem?_drop] at this ⊢
      exact this
end
end Go.Proofs.YtcppejlcjooliaaGreatDoor
/-! The least handle that is none, as a loop over the entries finds it; an entry that is put and bytes that are laid behind the head do not touch. As plain lists. (Part of the proofs over package heap.) -/
namespace Go.Proofs.YtcppejlcjooliaaGreatDoor
open Go.RowKit
set_option linter.unusedVariables false

/-- Handle by handle: one that is there is passed. -/
def lowF (l : List (Int × Int × Int × Int)) : Int := l.foldl (fun h e => if e.1 = h then h + 1 else h) 1
theorem lowF_snoc (l : List (Int × Int × Int × Int)) (e : (Int × Int × Int × Int)) : lowF (l ++ [e]) = if e.1 = lowF l then lowF l + 1 else lowF l := by
  unfold lowF
  rw [List.foldl_append]
  rfl
theorem lowF_ents (b : List Int) : ∀ k : Nat, lowF (entsK b k) = (fstN (fun j => decide (tagAt b ((j : Int) + 1) = 0)) k : Int) + 1
  | 0 => by
    have h := (first_fstN (fun j => decide (tagAt b ((j : Int) + 1) = 0)) 0).1
    have : fstN (fun j => decide (tagAt b ((j : Int) + 1) = 0)) 0 = 0 := by omega
    rw [this]
    rfl
  | k + 1 => by
    have ih := lowF_ents b k
    have h1 := first_fstN (fun j => decide (tagAt b ((j : Int) + 1) = 0)) k
    have h2 := first_fstN (fun j => decide (tagAt b ((j : Int) + 1) = 0)) (k + 1)
    generalize fstN (fun j => decide (tagAt b ((j : Int) + 1) = 0)) k = p at *
    have hp := h1.1
    unfold entsK
    by_cases ht : tagAt b ((k : Int) + 1) = 0
    · rw [if_pos ht, List.append_nil, ih]
      have h3 : First (fun j => decide (tagAt b ((j : Int) + 1) = 0)) (k + 1) p := ⟨by omega, h1.2.1, fun hlt => by
        by_cases e : p = k
        · rw [e]; exact decide_eq_true ht
        · exact h1.2.2 (by omega)⟩
      rw [First.unique h2 h3]
    · rw [if_neg ht, lowF_snoc, ih]
      by_cases e : p = k
      · subst e
        rw [if_pos (by show (p : Int) + 1 = p + 1; rfl)]
        have h3 : First (fun j => decide (tagAt b ((j : Int) + 1) = 0)) (p + 1) (p + 1) := ⟨Nat.le_refl _, fun j hj => by
          by_cases ej : j = p
          · rw [ej]; exact decide_eq_false ht
          · exact h1.2.1 j (by omega), fun h => absurd h (Nat.lt_irrefl _)⟩
        rw [First.unique h2 h3]
        omega
      · rw [if_neg (by show ¬ (k : Int) + 1 = p + 1; omega)]
        have h3 : First (fun j => decide (tagAt b ((j : Int) + 1) = 0)) (k + 1) p := ⟨by omega, h1.2.1, fun _ => h1.2.2 (by omega)⟩
        rw [First.unique h2 h3]
theorem lowF_low (b : List Int) : lowF (entsK b 40) = (lowH b : Int) + 1 := lowF_ents b 40
theorem lowH_le (b : List Int) : lowH b ≤ 40 := (lowH_first b).1
theorem lowF_take {l : List (Int × Int × Int × Int)} {k : Nat} {e : (Int × Int × Int × Int)} (h : l[k]? = some e) : lowF (l.take (k + 1)) = if e.1 = lowF (l.take k) then lowF (l.take k) + 1 else lowF (l.take k) := by
  rw [List.take_add_one, h]
  exact lowF_snoc _ _
theorem lowF_bd : ∀ (l : List (Int × Int × Int × Int)), 1 ≤ lowF l ∧ lowF l ≤ l.length + 1 := by
  intro l
  have key : ∀ (l : List (Int × Int × Int × Int)) (h : Int), h ≤ l.foldl (fun h e => if e.1 = h then h + 1 else h) h ∧ l.foldl (fun h e => if e.1 = h then h + 1 else h) h ≤ h + l.length := by
    intro l
    induction l with
    | nil => intro h; simp
    | cons e r ih =>
      intro h
      simp only [List.foldl_cons, List.length_cons]
      have := ih (if e.1 = h then h + 1 else h)
      split at this
      · rename_i he; rw [if_pos he]; omega
      · rename_i he; rw [if_neg he]; omega
  have := key l 1
  unfold lowF
  omega
/-- Put first, then laid; or laid first, then put. -/
theorem put_lay {b r : List Int} {e : (Int × Int × Int × Int)} {x : Nat} (he : putE b e = 0) (hx : 288 ≤ x) (hx2 : x + r.length ≤ b.length) : putE (splice b x r) e = 0 ∧ splice (putL b e) x r = putL (splice b x r) e := by
  have hl := length_splice hx2
  obtain ⟨q1, q2, q3⟩ := putE_zero.1 he
  have hh := hndB_iff.1 q2
  have hp := plc_le hh.1 hh.2
  have hr5 : (rowE e).length = 5 := rfl
  have he2 : putE (splice b x r) e = 0 := putE_zero.2 (by rw [hl]; exact ⟨q1, q2, q3⟩)
  refine ⟨he2, ?_⟩
  have hb1 : plc e.1 + (rowE e).length ≤ b.length := by rw [hr5]; omega
  have hb2 : plc e.1 + (rowE e).length ≤ (splice b x r).length := by rw [hl]; exact hb1
  have hl1 := length_splice hb1
  have hb3 : x + r.length ≤ (splice b (plc e.1) (rowE e)).length := by rw [hl1]; exact hx2
  unfold putL
  rw [if_pos he, if_pos he2]
  apply ext_getD
  · rw [length_splice hb3, hl1, length_splice hb2, hl]
  · intro j hj
    by_cases c1 : j < plc e.1
    · rw [splice_out hb3 (.inl (by omega)), splice_out hb1 (.inl c1), splice_out hb2 (.inl c1), splice_out hx2 (.inl (by omega))]
    · by_cases c2 : j < plc e.1 + 5
      · obtain ⟨i, rfl⟩ : ∃ i, j = plc e.1 + i := ⟨j - plc e.1, by omega⟩
        rw [splice_out hb3 (.inl (by omega)), splice_in hb1 (by rw [hr5]; omega), splice_in hb2 (by rw [hr5]; omega)]
      · have c3 : plc e.1 + (rowE e).length ≤ j := by rw [hr5]; omega
        rw [splice_out hb2 (.inr c3)]
        by_cases c4 : j < x
        · rw [splice_out hb3 (.inl c4), splice_out hx2 (.inl c4), splice_out hb1 (.inr c3)]
        · by_cases c5 : j < x + r.length
          · obtain ⟨i, rfl⟩ : ∃ i, j = x + i := ⟨j - x, by omega⟩
            rw [splice_in hb3 (by omega), splice_in hx2 (by omega)]
          · rw [splice_out hb3 (.inr (by omega)), splice_out hx2 (.inr (by omega)), splice_out hb1 (.inr c3)]
end Go.Proofs.YtcppejlcjooliaaGreatDoor
/-! Contracts of package heap: the least handle that is none; where there is room. (Part of the proofs over package heap.) -/
namespace Go.Proofs.YtcppejlcjooliaaGreatDoor
open Go.RowKit
set_option linter.unusedVariables false

set_option maxHeartbeats 1000000 in
theorem least_any (a : Option Addr) (cap : Nat) (l : List (Int × Int × Int × Int)) (w : World) (hs : Sls enC 4 w a cap l) (hl : l.length ≤ 40) :
    Calls Tryz.prog 11 #[.slice a l.length cap] w fun e w' => e = .returned (.tuple #[.int .i64 (if 40 < lowF l then 0 else lowF l), errV (if 40 < lowF l then 4 else 0)]) ∧ Below w.heap.size w w' := by
  have hcap := hs.2.2.1
  have HS := hide hs
  clear hs
  generalize hA : (if 40 < lowF l then (0 : Int) else lowF l) = RA
  generalize hE : errV (if 40 < lowF l then 4 else 0) = RE
  have HA := hide hA
  have HE := hide hE
  clear hA hE
  go_enter Tryz.func11, Tryz.ntmps11
  go_wp2_with fail
  go_loopw [4, 9] (fun hv iv wr => ∃ k : Nat, k ≤ l.length ∧ iv = .int .i64 k ∧ hv = .int .i64 (lowF (l.take k)) ∧ Below w.heap.size w wr) (fun _ iv _ => l.length - (intOf iv).toNat)
  case atStart => exact ⟨0, Nat.zero_le _, rfl, rfl, Below.refl _ _⟩
  case round =>
    obtain ⟨k, hk, rfl, rfl, hbel⟩ := hrel
    have hbd := lowF_bd (l.take k)
    by_cases hlt : k < l.length
    · have hne : l ≠ [] := by intro e; rw [e] at hlt; simp at hlt
      obtain ⟨b1, o1, rfl, hc1⟩ := ((unhide HS).below hbel).2.2.2 hne
      obtain ⟨f, hf⟩ : ∃ f, l[k]? = some f := ⟨l[k], List.getElem?_eq_getElem hlt⟩
      obtain ⟨q0, q1, q2, q3⟩ := Sls.ent (cap := 0) hc1 hf
      have HT := hide (lowF_take hf)
      have HBEL := hide hbel
      have hkl : (l.take k).length ≤ 40 := by simp; omega
      obtain ⟨x, y, z, t⟩ := f
      dsimp only at *
      clear hc1 hf hne hbel
      generalize lowF (l.take k) = H at *
      by_cases he : x = H
      · subst he
        go_wp2
        go_roundw
        case rel => exact ⟨k + 1, by omega, by go_num, by rw [unhide HT, if_pos rfl], (unhide HBEL).alloc (unhide HBEL).size _⟩
        case measure => simp [intOf]; omega
      · have he' : (x == H) = false := by rw [beq_eq_false_iff_ne]; exact he
        go_wp2
        go_roundw
        case rel => exact ⟨k + 1, by omega, by go_num, by rw [unhide HT, if_neg he], (unhide HBEL).alloc (unhide HBEL).size _⟩
        case measure => simp [intOf]; omega
    · obtain rfl : k = l.length := by omega
      rw [List.take_length] at hbd ⊢
      have HBEL := hide hbel
      clear hbel
      generalize lowF l = H at *
      by_cases hH : 40 < H
      · go_wp2
        go_ret2
        have h1 := unhide HA
        have h2 := unhide HE
        rw [if_pos hH] at h1 h2
        exact ⟨by rw [← h1, ← h2]; rfl, unhide HBEL⟩
      · go_wp2
        go_ret2
        have h1 := unhide HA
        have h2 := unhide HE
        rw [if_neg (by omega)] at h1 h2
        exact ⟨by rw [← h1, ← h2]; rfl, unhide HBEL⟩

/-- What entries take behind the head, as a row of extents that a call made. -/
theorem info_ext : (Tryz.prog.info? 45).map (fun i => (i.zero, i.size, i.bytes)) = some (some (.agg #[.int .i64 0, .int .i64 0]), 2, 16) := by kernel_rfl
theorem exC_len (e : Int × Int) : (exC e).length = 2 := rfl
theorem exC_one (e : Int × Int) : ∀ u ∈ exC e, u.oneCell' = true := by
  intro u hu
  unfold exC at hu
  rcases List.mem_cons.1 hu with rfl | hu
  · rfl
  rw [List.mem_singleton.1 hu]
  rfl
theorem sh_take {l : List (Int × Int × Int × Int)} {k : Nat} {e : (Int × Int × Int × Int)} (h : l[k]? = some e) : (l.map shE).take (k + 1) = (l.map shE).take k ++ [(e.2.1 - 288, e.2.2.1)] := by
  rw [List.take_add_one, List.getElem?_map, h]
  rfl
set_option maxHeartbeats 2000000 in
theorem room_any (n : Nat) (a : Option Addr) (cap : Nat) (l : List (Int × Int × Int × Int)) (size : Int) (w : World) (hs : Sls enC 4 w a cap l) (hl : l.length ≤ 40) (hn : 288 ≤ n ∧ n ≤ 6400) (hin : ∀ e ∈ l, 0 ≤ e.2.1 ∧ e.2.1 ≤ 65535 ∧ 0 ≤ e.2.2.1 ∧ e.2.2.1 ≤ 65535) :
    Calls Tryz.prog 12 #[.int .i64 n, .slice a l.length cap, .int .i64 size] w fun e w' => e = .returned (.tuple #[.int .i64 (if fitE ((n : Int) - 288) (l.map shE) size = 0 then 288 + fitAt ((n : Int) - 288) (l.map shE) size else 0), errV (fitE ((n : Int) - 288) (l.map shE) size)]) ∧ Below w.heap.size w w' := by
  obtain ⟨i0, hi0, hz0, hz1, hz2⟩ := info_parts info_ext
  have hcap := hs.2.2.1
  have HS := hide hs
  have HIN := hide hin
  clear hs hin
  generalize hA : (if fitE ((n : Int) - 288) (l.map shE) size = 0 then 288 + fitAt ((n : Int) - 288) (l.map shE) size else 0) = RA
  generalize hE : errV (fitE ((n : Int) - 288) (l.map shE) size) = RE
  have HA := hide hA
  have HE := hide hE
  clear hA hE
  go_enter Tryz.func12, Tryz.ntmps12
  go_wp2_with fail
  go_loopw [8, 15] (fun v iv wr => ∃ k : Nat, k ≤ l.length ∧ iv = .int .i64 k ∧ Lst exC 2 45 wr w.heap.size v ((l.map shE).take k) ∧ Below w.heap.size w wr) (fun _ iv _ => l.length - (intOf iv).toNat)
  case atStart => exact ⟨0, Nat.zero_le _, rfl, Lst.nil _ _, Below.refl _ _⟩
  case round =>
    obtain ⟨k, hk, rfl, hown, hbel⟩ := hrel
    obtain ⟨va, vm, vc, rfl⟩ := hown.shape
    by_cases hlt : k < l.length
    · have hne : l ≠ [] := by intro e; rw [e] at hlt; simp at hlt
      obtain ⟨b1, o1, rfl, hc1⟩ := ((unhide HS).below hbel).2.2.2 hne
      obtain ⟨f, hf⟩ : ∃ f, l[k]? = some f := ⟨l[k], List.getElem?_eq_getElem hlt⟩
      obtain ⟨q0, q1, q2, q3⟩ := Sls.ent (cap := 0) hc1 hf
      have HT := hide (sh_take hf)
      have hfi := unhide HIN f (List.mem_of_getElem? hf)
      have hml : ((l.map shE).take k).length ≤ 40 := by simp; omega
      obtain ⟨x, y, z, t⟩ := f
      dsimp only at *
      have hB1 := hbel.alloc hbel.size (.cells #[.int .i64 x, .int .i64 y, .int .i64 z, .int .i64 t] 48)
      have HB3 := hide (hB1.alloc hB1.size (.cells #[.int .i64 (y - 288), .int .i64 z] 45))
      have HO3 := hide ((hown.below ((Below.refl _ _).alloc (Nat.le_refl _) (.cells #[.int .i64 x, .int .i64 y, .int .i64 z, .int .i64 t] 48))).below ((Below.refl _ _).alloc (Nat.le_refl _) (.cells #[.int .i64 (y - 288), .int .i64 z] 45)))
      have HGN : Hid (((wr.alloc (.cells #[.int .i64 x, .int .i64 y, .int .i64 z, .int .i64 t] 48)).alloc (.cells #[.int .i64 (y - 288), .int .i64 z] 45)).heap[wr.heap.size + 1]? = some (.cells (exC (y - 288, z)).toArray 45 (0, 0))) := hide (by
        have := heap_alloc_new (wr.alloc (.cells #[.int .i64 x, .int .i64 y, .int .i64 z, .int .i64 t] 48)) (.cells #[.int .i64 (y - 288), .int .i64 z] 45)
        rw [sz_alloc] at this
        exact this)
      have hsz := hbel.size
      clear hc1 hf hne hbel hB1 hown
      go_wp2_with (at_builtin; refine wpList_append_lst rfl _ _ 63 rfl w.heap.size i0 (.agg #[.int .i64 0, .int .i64 0]) 16 Tryz.underlying63 hi0 hz0 hz1 hz2 rfl (by decide) (by decide) _ _ rfl (unhide HO3) (wr.heap.size + 1) (y - 288, z) rfl (unhide HGN) rfl (exC_one _) (by omega) (by simp; omega) ?_)
      intro v9 w9 hown9 hbel9
      rw [← unhide HT] at hown9
      have HO9 := hide hown9
      have HB9 := hide ((unhide HB3).trans hbel9)
      obtain ⟨a9, m9, c9, rfl⟩ := hown9.shape
      clear hown9 hbel9 HO3 HB3 HGN q0 q1 q2 q3
      go_wp2
      go_roundw
      case rel => exact ⟨k + 1, by omega, by go_num, unhide HO9, unhide HB9⟩
      case measure => simp [intOf]; omega
    · obtain rfl : k = l.length := by omega
      rw [List.take_of_length_le (by simp)] at hown
      have ho : ExO wr w.heap.size (.slice va vm vc) (l.map shE) := hown
      obtain ⟨a2, c2, e2, hexs⟩ := ho.exs (fun e he => by
        obtain ⟨f, hf, rfl⟩ := List.mem_map.1 he
        have := unhide HIN f hf
        unfold InI shE
        dsimp only
        omega) (by simp; omega)
      simp only [Value.slice.injEq] at e2
      obtain ⟨rfl, rfl, rfl⟩ := e2
      have HF := hide (fit_any ((n : Int) - 288) va vc (l.map shE) size wr hexs)
      have HBEL := hide hbel
      have hml : (l.map shE).length ≤ 40 := by simp; omega
      have hfa : 0 ≤ fitAt ((n : Int) - 288) (l.map shE) size ∧ fitAt ((n : Int) - 288) (l.map shE) size ≤ 6400 := by
        unfold fitAt
        by_cases h0 : fitE ((n : Int) - 288) (l.map shE) size = 0
        · rw [if_pos h0]
          unfold fitE at h0
          by_cases h1 : chk ((n : Int) - 288) (l.map shE) = 0
          · have h2 := freeL_small h1
            rw [if_neg (fun h => h h1)] at h0
            by_cases h3 : size < 1 ∨ 6400 < size
            · rw [if_pos h3] at h0; exact absurd h0 (by decide)
            · rw [if_neg h3] at h0
              by_cases h4 : (fitB size (freeL ((n : Int) - 288) (l.map shE))).2 = 0
              · rw [if_pos h4] at h0; exact absurd h0 (by decide)
              · rcases fit_spec (size := size) (by omega) (fun r hr => (h2.1 r hr).2.1) with ⟨h5, _⟩ | ⟨_, h6, _⟩
                · exact absurd h5 h4
                · have := h2.1 _ h6; omega
          · rw [if_pos h1] at h0; exact absurd h0 h1
        · rw [if_neg h0]; omega
      clear hown ho hexs hbel
      generalize fitAt ((n : Int) - 288) (l.map shE) size = FA at *
      generalize fitE ((n : Int) - 288) (l.map shE) size = FE at *
      generalize (l.map shE).length = M at *
      go_wp2_with fail
      refine (unhide HF).mono ?_
      rintro e w1 ⟨rfl, hb1⟩
      have HB1 := hide ((unhide HBEL).trans (hb1.mono (unhide HBEL).size))
      clear hb1 HF HBEL
      by_cases h0 : FE = 0
      · subst h0
        rw [errV_zero]
        go_wp2
        go_ret2
        have h1 := unhide HA
        have h2 := unhide HE
        rw [if_pos trivial] at h1
        exact ⟨by rw [← h1, ← h2]; rfl, unhide HB1⟩
      · rw [errV_pos _ h0]
        go_wp2
        go_ret2
        have h1 := unhide HA
        have h2 := unhide HE
        rw [if_neg h0] at h1
        rw [errV_pos _ h0] at h2
        exact ⟨by rw [← h1, ← h2]; rfl, unhide HB1⟩
end Go.Proofs.YtcppejlcjooliaaGreatDoor
/-! Contracts of package image once more: what Put and Drop give is a row of its own, that may be written. (Part of the proofs over package heap.) -/
namespace Go.Proofs.YtcppejlcjooliaaGreatDoor
open Go.RowKit
set_option linter.unusedVariables false

section
variable {w w' : World} {B B' g c : Nat} {cur : Array Value} {l : List Int}
theorem Row.lt (h : Row w B g c cur l) : g < w.heap.size := (Array.getElem?_eq_some_iff.1 h.2.1).1
theorem Row.below (h : Row w B g c cur l) (hb : Below w.heap.size w w') : Row w' B g c cur l := ⟨h.1, (hb.block g h.lt).trans h.2.1, h.2.2⟩
theorem Row.low (h : Row w B' g c cur l) (hB : B ≤ B') : Row w B g c cur l := ⟨Nat.le_trans hB h.1, h.2⟩
end
/-- How a call that answers bytes of its own and something ends. -/
def EndsR (w : World) (L : List Int) (x : Value) (e : Ending) (w' : World) : Prop :=
  ∃ g c cur, e = .returned (.tuple #[.slice (some ⟨g, 0, none⟩) L.length c, x]) ∧ Row w' w.heap.size g c cur L ∧ Below w.heap.size w w'
/-- A copy in which bytes are laid. -/
theorem with_row (a : Option Addr) (cap : Nat) (l : List Int) (p : Nat) (ra : Option Addr) (rc : Nat) (r : List Int) (w : World) (hb : Bs w a cap l) (hr : Bs w ra rc r) (h0 : r ≠ []) (hfit : p + r.length ≤ l.length) :
    Calls Tryz.prog 26 #[.slice a l.length cap, .int .i64 p, .slice ra r.length rc] w fun e w' => ∃ g' c' cur', e = .returned (.slice (some ⟨g', 0, none⟩) l.length c') ∧ Row w' w.heap.size g' c' cur' (splice l p r) ∧ Below w.heap.size w w' := by
  have hrl : 0 < r.length := by
    cases r with
    | nil => exact absurd rfl h0
    | cons _ _ => simp
  have HC := hide (clone_u8 a cap l w hb (by intro e; rw [e] at hfit; simp only [List.length_nil] at hfit; omega))
  have HR := hide hr
  have hbl := hb.2.2.1
  clear hb hr
  go_enter Tryz.func26, Tryz.ntmps26
  go_wp2_with fail
  refine (unhide HC).mono ?_
  rintro e w1 ⟨g, c, rfl, hown, hb1⟩
  obtain ⟨cur, hrow⟩ := Row.of_own hown
  have hcut := cut_row (P := Tryz.prog) Tryz.underlying33 size_u8 g c l.length p (by omega) hrow.2.2.1 (by have := hrow.2.2.1; omega)
  have hcopy : Sem.run Tryz.prog (Builtin.copy_ #[33, 33] 3 #[.slice (some ⟨g, p, none⟩) (l.length - p) (c - p), .slice ra r.length rc]) w1 = .ok (.int .i64 r.length) (laidW w1 g cur p r) :=
    run_copy_laid w1 _ _ _ Tryz.underlying33 size_u8 _ g p _ _ c cur ra rc l r (by omega) h0 hfit hrow ((unhide HR).below hb1)
  have HW := hide (laidW_row hrow hfit)
  have HB := hide (laidW_below (cur := cur) (l := r) (off := p) hb1 hrow.1)
  clear hown hrow hb1 HC HR
  go_wp2
  go_ret
  exact ⟨g, c, _, rfl, unhide HW, unhide HB⟩
set_option maxHeartbeats 1000000 in
theorem iPut_row (b : Option Addr) (cap : Nat) (L : List Int) (x a l t : Int) (w : World) (hbs : Bs w b cap L) (h0 : putE L (x, a, l, t) = 0) :
    Calls Tryz.prog 13 #[.slice b L.length cap, .agg #[.int .i64 x, .int .i64 a, .int .i64 l, .int .i64 t]] w (EndsR w (splice L (plc x) (rowE (x, a, l, t))) .nilIface) := by
  obtain ⟨q1, q2, q3⟩ := putE_zero.1 h0
  dsimp only at q2 q3
  have hlen := lenB_iff.1 q1
  have hx := hndB_iff.1 q2
  have hp := plc_le hx.1 hx.2
  have HC := hide (ckEnt_any L (x, a, l, t) (w.alloc (.cells #[.int .i64 x, .int .i64 a, .int .i64 l, .int .i64 t] 48)) hbs.2.2.1 (by dsimp only; omega))
  rw [h0, errV_zero] at HC
  unfold entV at HC
  dsimp only at HC
  have HE := hide (fun W => entryRow_any x a l t W ⟨q3.1, q3.2.1⟩ (by omega) (by omega))
  have HP := hide (fun W => entryAt_any x W hx.1 hx.2)
  have hrl : (rowE (x, a, l, t)).length = 5 := rfl
  have HW := hide (fun (W : World) (g : Nat) (h5 : Bs W b cap L) (h6 : Bs W (some ⟨g, 0, none⟩) 5 (rowE (x, a, l, t))) => with_row b cap L (plc x) (some ⟨g, 0, none⟩) 5 (rowE (x, a, l, t)) W h5 h6 (by intro e; cases e) (by omega))
  rw [hrl] at HW
  have HN := hide (EnB.new w (x, a, l, t))
  have HLEN := hide (length_splice (z := L) (l := rowE (x, a, l, t)) (off := plc x) (by omega))
  have HBS := hide hbs
  have hb3 := hbs.2.2.1
  clear h0 q1 q2 q3 hbs hrl
  generalize rowE (x, a, l, t) = R at *
  go_enter Tryz.func13, Tryz.ntmps13
  go_wp2_with fail
  refine (unhide HC).mono ?_
  rintro e w1 ⟨rfl, hb1⟩
  have hB1 : Below w.heap.size w w1 := ((Below.refl _ w).alloc (Nat.le_refl _) _).trans (hb1.mono (by simp))
  have hen1 := (unhide HN).below hb1 (by simp)
  obtain ⟨c0, c1, c2, c3⟩ := hen1.cells
  have HEN1 := hide hen1
  have HB1 := hide hB1
  clear hb1 hB1 hen1 HC HN
  go_wp2_with fail
  refine (unhide HE _).mono ?_
  rintro e w2 ⟨g, rfl, hbr, hb2⟩
  have hen2 := (unhide HEN1).below hb2 (unhide HEN1).lt
  obtain ⟨d0, d1, d2, d3⟩ := hen2.cells
  have HB2 := hide ((unhide HB1).trans (hb2.mono (unhide HB1).size))
  have HW2 := hide (unhide HW w2 g ((unhide HBS).below (unhide HB2)) hbr)
  clear hb2 hen2 hbr HEN1 HB1 HW HE c0 c1 c2 c3
  go_wp2_with fail
  refine (unhide HP _).mono ?_
  rintro e w3 ⟨rfl, hw3⟩
  subst hw3
  go_wp2_with fail
  refine (unhide HW2).mono ?_
  rintro e w4 ⟨a4, c4, cur4, rfl, hbs4, hb4⟩
  have HB4 := hide ((unhide HB2).trans (hb4.mono (unhide HB2).size))
  have HBS4 := hide hbs4
  have HSZ4 := hide (unhide HB2).size
  clear hbs4 hb4 HB2 HW2 d0 d1 d2 d3
  go_wp2
  go_ret2
  exact ⟨a4, c4, cur4, by rw [unhide HLEN]; rfl, (unhide HBS4).low (unhide HSZ4), unhide HB4⟩

set_option maxRecDepth 100000 in
set_option maxHeartbeats 1000000 in
theorem drop_row (a : Option Addr) (cap : Nat) (l : List Int) (h : Int) (w : World) (hb : Bs w a cap l) (hc : chkE l h = 0) :
    Calls Tryz.prog 16 #[.slice a l.length cap, .int .i64 h] w (EndsR w (dropL l h) .nilIface) := by
  have HC := hide (check_any a cap l h w hb)
  have h3 := hb.2.2.1
  unfold dropL
  obtain ⟨hl0, hh0, ht⟩ := chkE_zero.1 hc
  rw [if_pos hc]
  rw [hc, errV_zero] at HC
  have hl1 := lenB_iff.1 hl0
  have hh1 := hndB_iff.1 hh0
  have hp := plc_le hh1.1 hh1.2
  have hzl := length_zerosB 5
  have hne : zerosB 5 ≠ [] := by intro e; rw [e] at hzl; simp at hzl
  have hd : Below w.heap.size w (mkW w.drew 5) := (show Below w.heap.size w w.drew from ⟨rfl, rfl, rfl, Nat.le_refl _, fun _ _ => rfl⟩).trans (mkW_below w.drew 5)
  have HW : Hid (Calls Tryz.prog 26 #[.slice a l.length cap, .int .i64 (plc h), .slice (some ⟨w.heap.size, 0, none⟩) 5 5] (mkW w.drew 5) fun e w' => ∃ g' c' cur', e = .returned (.slice (some ⟨g', 0, none⟩) l.length c') ∧ Row w' w.heap.size g' c' cur' (splice l (plc h) (zerosB 5)) ∧ Below w.heap.size w w') := hide (by
    have := with_row a cap l (plc h) (some ⟨w.heap.size, 0, none⟩) (zerosB 5).length (zerosB 5) (mkW w.drew 5) (hb.below hd) ((mkW_blk w.drew 5).bs (byt_zerosB 5) (by decide)) hne (by omega)
    rw [hzl] at this
    exact this.mono fun e w' ⟨a', c', cur', he, hbs, hbel⟩ => ⟨a', c', cur', he, hbs.low hd.size, hd.trans (hbel.mono hd.size)⟩)
  have HE := hide (fun w' => entryAt_any h w' hh1.1 hh1.2)
  have HLEN := hide (length_splice (z := l) (l := zerosB 5) (off := plc h) (by omega))
  have hmk : ∀ w', Sem.run Tryz.prog (Instr.makeSlice 33 (.int .i64 5) (.int .i64 5)) w' = .ok (.slice (some ⟨w'.heap.size, 0, none⟩) 5 5) (mkW w' 5) := fun w' => run_make_u8 w' 5 (by decide)
  clear hc ht hl0 hh0 hb hd
  go_enter Tryz.func16, Tryz.ntmps16
  go_wp2_with fail
  refine (unhide HC).mono ?_
  rintro e w1 ⟨rfl, rfl⟩
  go_wp2_with fail
  go_region_with (first | (go_at_call 27; refine (unhide HE _).mono ?_; rintro e w2 ⟨rfl, rfl⟩) | (go_at_call 26; refine (unhide HW).mono ?_; rintro e w3 ⟨a3, c3, cur3, rfl, hbs3, hb3⟩))
  all_goals
    go_wp2
    go_ret2
    exact ⟨a3, c3, cur3, by rw [unhide HLEN]; rfl, hbs3, hb3⟩
end Go.Proofs.YtcppejlcjooliaaGreatDoor
/-! What a call leaves alone: of the old blocks only those in a set have turned. (Part of the proofs over packages device and heap.) -/
namespace Go.Proofs.YtcppejlcjooliaaGreatDoor
open Go.RowKit
set_option linter.unusedVariables false

/-- Of w only the blocks in S have turned; of S' what is old is in S. -/
structure Turn (S S' : Nat → Prop) (w w' : World) : Prop where
  os : w'.os = w.os
  tape : w'.tape = w.tape
  output : w'.output = w.output
  size : w.heap.size ≤ w'.heap.size
  block : ∀ k, k < w.heap.size → ¬ S k → w'.heap[k]? = w.heap[k]?
  foot : ∀ k, k < w.heap.size → S' k → S k

theorem Turn.refl (S : Nat → Prop) (w : World) : Turn S S w w := ⟨rfl, rfl, rfl, Nat.le_refl _, fun _ _ _ => rfl, fun _ _ h => h⟩
theorem Turn.trans {S S' S'' : Nat → Prop} {a b c : World} (h : Turn S S' a b) (k : Turn S' S'' b c) : Turn S S'' a c :=
  ⟨k.os.trans h.os, k.tape.trans h.tape, k.output.trans h.output, Nat.le_trans h.size k.size,
    fun i hi hn => (k.block i (Nat.lt_of_lt_of_le hi h.size) (fun hs => hn (h.foot i hi hs))).trans (h.block i hi hn),
    fun i hi hs => h.foot i hi (k.foot i (Nat.lt_of_lt_of_le hi h.size) hs)⟩
theorem Turn.below {S S' : Nat → Prop} {w w' : World} {B : Nat} (h : Turn S S' w w') (hS : ∀ k, S k → B ≤ k) (hB : B ≤ w.heap.size) : Below B w w' :=
  ⟨h.os, h.tape, h.output, h.size, fun k hk => h.block k (Nat.lt_of_lt_of_le hk hB) (fun hs => by have := hS k hs; omega)⟩
theorem Turn.of_below {S : Nat → Prop} {w w' : World} (h : Below w.heap.size w w') : Turn S S w w' :=
  ⟨h.os, h.tape, h.output, h.size, fun k hk _ => h.block k hk, fun _ _ hs => hs⟩
theorem Turn.setCell {S : Nat → Prop} (w : World) {a : Addr} (v : Value) (h : S a.block) : Turn S S w (w.setCell a v) :=
  ⟨rfl, rfl, rfl, by simp, fun k _ hn => heap_setCell_other w a k v (fun e => hn (e ▸ h)), fun _ _ hs => hs⟩
theorem Turn.row {S : Nat → Prop} (w : World) {g : Nat} (l : List Int) (h : S g) : Turn S S w (rowW w g l) :=
  ⟨rfl, rfl, rfl, by simp [rowW], fun k _ hn => setRow_other w g k _ (fun e => hn (e ▸ h)), fun _ _ hs => hs⟩
theorem Turn.drew (S : Nat → Prop) (w : World) : Turn S S w w.drew := ⟨rfl, rfl, rfl, Nat.le_refl _, fun _ _ _ => rfl, fun _ _ h => h⟩
theorem Turn.alloc (S : Nat → Prop) (w : World) (o : Obj) : Turn S S w (w.alloc o) := Turn.of_below ((Below.refl _ _).alloc (Nat.le_refl _) o)
theorem Turn.grown {S : Nat → Prop} {w w' : World} {row : Option Nat} (g : w.grownBy w' row) (h : ∀ k, row = some k → S k) : Turn S S w w' :=
  ⟨g.os, g.tape, g.output, g.size, fun k hk hn => g.block k hk (fun e => hn (h k e.symm)), fun _ _ hs => hs⟩
theorem Turn.keep {S S' S2 : Nat → Prop} {w w' : World} (h : Turn S S' w w') (k : Nat) (hk : k < w.heap.size) (hn : ¬ S k) : w'.heap[k]? = w.heap[k]? := h.block k hk hn

theorem below_drew {B : Nat} {w W : World} (h : Below B w W) : Below B w W.drew := ⟨h.os, h.tape, h.output, h.size, h.block⟩
/-- What a slice reads as while other blocks turn. -/
theorem Bs.turn {w w' : World} {S S' : Nat → Prop} {a : Option Addr} {cap : Nat} {l : List Int} (h : Bs w a cap l) (ht : Turn S S' w w') (hn : ∀ x, a = some x → ¬ S x.block) : Bs w' a cap l := by
  obtain ⟨h1, h2, h3, h4, h5⟩ := h
  refine ⟨h1, h2, h3, h4, fun hne => ?_⟩
  obtain ⟨b, off, rfl, hc⟩ := h5 hne
  refine ⟨b, off, rfl, fun i hi => ?_⟩
  have h6 := hc i hi
  have hlt := block_lt_of_cell h6
  rw [← h6]
  exact World.cell?_of_block (a := ⟨b, off + i, none⟩) (ht.block b hlt (hn _ rfl))
end Go.Proofs.YtcppejlcjooliaaGreatDoor
/-! How a heap stands in memory, and which blocks are its own. (Part of the proofs over package heap.) -/
namespace Go.Proofs.YtcppejlcjooliaaGreatDoor
open Go.RowKit
set_option linter.unusedVariables false

/-- The blocks of a heap: its own, and its image's. -/
def foot (p g : Nat) (k : Nat) : Prop := k = p ∨ k = g
/-- At p is a heap whose image L stands in row g. -/
structure Hp (w : World) (B p g c : Nat) (L : List Int) : Prop where
  bp : B ≤ p
  ne : g ≠ p
  blk : w.heap[p]? = some (.cells #[.slice (some ⟨g, 0, none⟩) L.length c] 37 (0, 0))
  row : ∃ cur, Row w B g c cur L
  byt : Byt L
  fine : Fine L
section
variable {w w' : World} {B p g c : Nat} {L : List Int}
theorem Hp.plt (h : Hp w B p g c L) : p < w.heap.size := (Array.getElem?_eq_some_iff.1 h.blk).1
theorem Hp.glt (h : Hp w B p g c L) : g < w.heap.size := by obtain ⟨cur, hr⟩ := h.row; exact hr.lt
theorem Hp.bg (h : Hp w B p g c L) : B ≤ g := by obtain ⟨cur, hr⟩ := h.row; exact hr.1
theorem Hp.cell (h : Hp w B p g c L) : w.cell? ⟨p, 0, none⟩ = some (.slice (some ⟨g, 0, none⟩) L.length c) := by rw [cell_of_row _ _ _ _ _ _ h.blk]; rfl
theorem Hp.fr (h : Hp w B p g c L) : w.frozen? ⟨p, 0, none⟩ = false := frozen_of_row w p 0 _ _ h.blk
theorem Hp.len (h : Hp w B p g c L) : 288 ≤ L.length ∧ L.length ≤ 6400 ∧ L.length ≤ c := by
  obtain ⟨cur, hr⟩ := h.row
  exact ⟨h.fine.len.1, h.fine.len.2, hr.2.2.1⟩
theorem Hp.bs (h : Hp w B p g c L) : Bs w (some ⟨g, 0, none⟩) c L := by
  obtain ⟨cur, hr⟩ := h.row
  exact hr.bs h.byt (by have := h.fine.len; omega)
theorem Hp.below (h : Hp w B p g c L) (hb : Below w.heap.size w w') : Hp w' B p g c L := by
  obtain ⟨cur, hr⟩ := h.row
  exact ⟨h.bp, h.ne, (hb.block p h.plt).trans h.blk, ⟨cur, hr.below hb⟩, h.byt, h.fine⟩
theorem Hp.foot_ge (h : Hp w B p g c L) (k : Nat) (hk : foot p g k) : B ≤ k := by
  rcases hk with rfl | rfl
  · exact h.bp
  · exact h.bg
/-- The image is another one. -/
theorem Hp.set (h : Hp w B p g c L) (hb : Below w.heap.size w w') {g' c' : Nat} {cur' : Array Value} {L' : List Int} (hr : Row w' w.heap.size g' c' cur' L') (hby : Byt L') (hf : Fine L') (hB : B ≤ w.heap.size) :
    Hp (w'.setCell ⟨p, 0, none⟩ (.slice (some ⟨g', 0, none⟩) L'.length c')) B p g' c' L' ∧ Turn (foot p g) (foot p g') w (w'.setCell ⟨p, 0, none⟩ (.slice (some ⟨g', 0, none⟩) L'.length c')) := by
  have hp := h.plt
  have hg := hr.1
  have hne : g' ≠ p := by omega
  refine ⟨⟨h.bp, hne, ?_, ⟨cur', ⟨Nat.le_trans hB hg, (heap_setCell_other _ _ _ _ (by show g' ≠ p; exact hne)).trans hr.2.1, hr.2.2⟩⟩, hby, hf⟩, ⟨hb.os, hb.tape, hb.output, by simpa using hb.size, fun k hk hn => ?_, fun k hk hs => ?_⟩⟩
  · have := heap_setCell_same w' p 0 _ _ (.slice (some ⟨g', 0, none⟩) L'.length c') ((hb.block p hp).trans h.blk)
    rw [this]
    rfl
  · exact (heap_setCell_other _ _ _ _ (fun e => hn (.inl e))).trans (hb.block k hk)
  · rcases hs with rfl | rfl
    · exact .inl rfl
    · omega
/-- Bytes are laid over the image. -/
theorem Hp.lay (h : Hp w B p g c L) {cur : Array Value} (hr : Row w B g c cur L) {off : Nat} {r : List Int} (hfit : off + r.length ≤ L.length) (hbr : Byt r) (hf : Fine (splice L off r)) :
    Hp (laidW w g cur off r) B p g c (splice L off r) ∧ Turn (foot p g) (foot p g) w (laidW w g cur off r) := by
  have hl := length_splice hfit
  refine ⟨⟨h.bp, h.ne, ?_, ⟨_, laidW_row hr hfit⟩, byt_splice h.byt hbr, hf⟩, ⟨rfl, rfl, rfl, by simp [laidW], fun k hk hn => setRow_other w g k _ (fun e => hn (.inr e)), fun k _ hs => hs⟩⟩
  rw [hl]
  exact (setRow_other w g p _ (fun e => h.ne e.symm)).trans h.blk
end
/-- A slice of which no block is among S. -/
def BsO (w : World) (S : Nat → Prop) (a : Option Addr) (cap : Nat) (l : List Int) : Prop := Bs w a cap l ∧ (l ≠ [] → ∀ x, a = some x → ¬ S x.block)
theorem BsO.turn {w w' : World} {S S' : Nat → Prop} {a : Option Addr} {cap : Nat} {l : List Int} (h : BsO w S a cap l) (ht : Turn S S' w w') : BsO w' S' a cap l := by
  obtain ⟨hb, hn⟩ := h
  by_cases h0 : l = []
  · obtain ⟨h1, h2, h3, h4, h5⟩ := hb
    exact ⟨⟨h1, h2, h3, h4, fun h => absurd h0 h⟩, fun h => absurd h0 h⟩
  · refine ⟨hb.turn ht (hn h0), fun _ x hx hs => ?_⟩
    obtain ⟨b, off, rfl, hc⟩ := hb.2.2.2.2 h0
    obtain rfl := Option.some.inj hx
    have hlt := block_lt_of_cell (hc 0 (List.length_pos_iff.2 h0))
    exact hn h0 _ rfl (ht.foot _ hlt hs)
theorem BsO.below {w w' : World} {S : Nat → Prop} {a : Option Addr} {cap : Nat} {l : List Int} (h : BsO w S a cap l) (hb : Below w.heap.size w w') : BsO w' S a cap l := h.turn (Turn.of_below hb)
theorem OwnV.lower {w : World} {B B' : Nat} {v : Value} {L : List Int} (h : OwnV w B' v L) (hB : B ≤ B') : OwnV w B v L := by
  refine ⟨h.1, ?_⟩
  rcases h.2 with h0 | ⟨g, cap, cur, hv, hb, h3⟩
  · exact .inl h0
  · exact .inr ⟨g, cap, cur, hv, Nat.le_trans hB hb, h3⟩
/-- What a call made is apart from what was there. -/
theorem OwnV.bsO {w : World} {B : Nat} {S : Nat → Prop} {v : Value} {l : List Int} (h : OwnV w B v l) (hb : Byt l) (hl : l.length ≤ 140737488351232) (hS : ∀ k, S k → k < B) : ∃ a c, v = .slice a l.length c ∧ BsO w S a c l := by
  obtain ⟨a, c, rfl, hbs⟩ := h.bs hb hl
  refine ⟨a, c, rfl, hbs, fun _ x hx hs => ?_⟩
  subst hx
  have h1 := h.block x.block
  rcases h.2 with ⟨e, _⟩ | ⟨g, cap, cur, e, hB, _⟩
  · simp at e
  · simp only [Value.slice.injEq, Option.some.injEq] at e
    obtain ⟨rfl, _⟩ := e
    have := hS _ hs
    dsimp only at this
    omega
end Go.Proofs.YtcppejlcjooliaaGreatDoor
/-! An image that is filled with objects of one size, one behind the other; as plain lists. (Part of the proof of HeapFull.) -/
namespace Go.Proofs.YtcppejlcjooliaaGreatDoor
open Go.RowKit
set_option linter.unusedVariables false

/-- All 0 there is no object, and nothing is wrong. -/
theorem zeros_fine {n : Nat} (h1 : 288 ≤ n) (h2 : n ≤ 6400) : Fine (zerosB n) ∧ (∀ h : Int, tagAt (zerosB n) h = 0) ∧ ∀ i, i < 8 → isRoot (rowAt (zerosB n) i) = false := by
  have hl := length_zerosB n
  have ht : ∀ h : Int, tagAt (zerosB n) h = 0 := fun h => by unfold tagAt; exact zeros_at n _
  have hr : ∀ i, i < 8 → isRoot (rowAt (zerosB n) i) = false := fun i hi => root_zero (by omega) hi (fun j _ => zeros_at n _)
  refine ⟨fine_of (lenB_iff.2 (by rw [hl]; omega)) (fun h _ _ q => absurd (ht h) q) (fun h _ _ _ _ _ q _ => absurd (ht h) q) (fun h a1 a2 _ => (ent_zero (by omega) a1 a2 (fun j _ => zeros_at n _)).2) (fun _ i hi => rFault_nil.2 (.inl (hr i hi))), ht, hr⟩
theorem alL_tail {b : List Int} (hf : Fine b) {h t : Int} {x n : Nat} (he : putE (splice b x (zerosB n)) (h, (x : Int), (n : Int), t) = 0) (h1 : 1 ≤ h) (h2 : h ≤ 40) (hx : 288 ≤ x) (hx2 : x + n ≤ b.length) : ∀ j, 200 ≤ j → j < 288 → (alL b h x n t).getD j 0 = b.getD j 0 := fun j hj hj2 => by
  have hz := length_zerosB n
  have hb := hf.len
  have hp := plc_le h1 h2
  have hr5 : (rowE (h, (x : Int), (n : Int), t)).length = 5 := rfl
  unfold alL putL
  rw [if_pos he]
  dsimp only
  rw [splice_out (by rw [hr5, length_splice (by rw [hz]; exact hx2)]; omega) (by rw [hr5]; exact .inr (by omega)), splice_out (by rw [hz]; exact hx2) (.inl (by omega))]
/-- So many objects of s bytes, one behind the other, from the first handle on; no root. -/
structure HF (b : List Int) (s i : Nat) : Prop where
  fine : Fine b
  len : b.length = 6400
  is : ∀ h : Int, 1 ≤ h → h ≤ i → h ≤ 40 → tagAt b h ≠ 0 ∧ entOf b h = (h, 288 + (h - 1) * s, (s : Int), 0)
  no : ∀ h : Int, (i : Int) < h → h ≤ 40 → tagAt b h = 0
  rows : ∀ j, j < 8 → isRoot (rowAt b j) = false
theorem HF.start (s : Nat) : HF (zerosB 6400) s 0 := by
  obtain ⟨h1, h2, h3⟩ := zeros_fine (n := 6400) (by decide) (by decide)
  exact ⟨h1, length_zerosB 6400, fun h a b c => by omega, fun h _ _ => h2 h, h3⟩
/-- The extents that are taken: one behind the other. -/
def rowX (s i : Nat) : List (Int × Int) := (List.range i).map (fun j : Nat => ((j : Int) * s, (s : Int)))
theorem rowX_succ (s i : Nat) : rowX s (i + 1) = rowX s i ++ [((i : Int) * s, (s : Int))] := by unfold rowX; rw [List.range_succ, List.map_append]; rfl
theorem rowX_runs (s : Nat) : ∀ i, runsOf 0 (rowX s i) = [] ∧ endOf 0 (rowX s i) = (i : Int) * s
  | 0 => ⟨rfl, by simp [rowX, endOf]⟩
  | i + 1 => by
    obtain ⟨h1, h2⟩ := rowX_runs s i
    rw [rowX_succ, runsOf_append, endOf_append, h1, h2]
    refine ⟨?_, ?_⟩
    · simp [runsOf]
    · simp only [endOf]
      rw [show ((i + 1 : Nat) : Int) = (i : Int) + 1 by omega, Int.add_mul, Int.one_mul]
theorem rowX_free (s i : Nat) (n : Int) (h : (i : Int) * s < n) : freeOf n (rowX s i) = [((i : Int) * s, n - (i : Int) * s)] := by
  obtain ⟨h1, h2⟩ := rowX_runs s i
  unfold freeOf
  rw [runsOf_append, h1, h2]
  simp [runsOf, h]
theorem HF.take {b : List Int} {s i : Nat} (h : HF b s i) (hi : i ≤ 40) : takeL b = rowX s i := by
  have key : ∀ k : Nat, k ≤ 40 → (entsK b k).map shE = rowX s (min k i) := by
    intro k
    induction k with
    | zero => intro _; simp [entsK, rowX]
    | succ k ih =>
      intro hk
      unfold entsK
      rw [List.map_append, ih (by omega)]
      by_cases hki : k < i
      · obtain ⟨e1, e2⟩ := h.is ((k : Int) + 1) (by omega) (by omega) (by omega)
        rw [if_neg e1, e2, Nat.min_eq_left (by omega), Nat.min_eq_left (by omega), rowX_succ]
        congr 1
        simp only [List.map_cons, List.map_nil, shE]
        congr 2
        rw [show (k : Int) + 1 - 1 = k by omega]
        omega
      · rw [if_pos (h.no _ (by omega) (by omega)), Nat.min_eq_right (by omega), Nat.min_eq_right (by omega)]
        simp
  have := key 40 (Nat.le_refl _)
  rw [Nat.min_eq_right hi] at this
  exact this
theorem rowX_sorted (s i : Nat) (hs : 1 ≤ s) : (rowX s i).Pairwise (fun a b => a.1 < b.1) := by
  unfold rowX
  rw [List.pairwise_map]
  refine (List.pairwise_lt_range (n := i)).imp (fun {a b} hab => ?_)
  show (a : Int) * s < (b : Int) * s
  exact Int.mul_lt_mul_of_pos_right (by omega) (by omega)
/-- Where the next one goes. -/
theorem HF.fit {b : List Int} {s i : Nat} (h : HF b s i) (hi : i < 40) (hs : 1 ≤ s) (hs2 : s ≤ 150) {t : List (Int × Int)} (ht : Srt (takeL b) t) : fitB s (freeOf ((b.length : Int) - 288) t) = ((i : Int) * s, 6112 - (i : Int) * s) := by
  rw [h.take (by omega)] at ht
  have e : t = rowX s i := srt_unique ht.1 ht.2 (rowX_sorted s i hs)
  have hm : (i : Int) * s ≤ 39 * 150 := by
    have h1 : (i : Int) * s ≤ 39 * (s : Int) := Int.mul_le_mul_of_nonneg_right (by omega) (by omega)
    omega
  rw [e, h.len, show ((6400 : Nat) : Int) - 288 = 6112 by decide, rowX_free s i 6112 (by omega)]
  unfold fitB
  simp only [List.foldl, fitStep]
  rw [if_pos ⟨by omega, .inl trivial⟩]
theorem HF.low {b : List Int} {s i : Nat} (h : HF b s i) (hi : i ≤ 40) : lowH b = i := by
  refine First.unique (lowH_first b) ⟨hi, fun j hj => ?_, fun hlt => ?_⟩
  · exact decide_eq_false (h.is ((j : Int) + 1) (by omega) (by omega) (by omega)).1
  · exact decide_eq_true (h.no ((i : Int) + 1) (by omega) (by omega))
theorem HF.next {b : List Int} {s i : Nat} (h : HF b s i) (hi : i < 40) (hs : 1 ≤ s) (hs2 : s ≤ 150) : HF (alL b ((i : Int) + 1) (288 + i * s) s 0) s (i + 1) := by
  have hm : i * s ≤ 39 * 150 := Nat.le_trans (Nat.mul_le_mul (show i ≤ 39 by omega) hs2) (by decide)
  have hx2 : 288 + i * s + s ≤ b.length := by rw [h.len]; omega
  have h0 := h.no ((i : Int) + 1) (by omega) (by omega)
  have hno : ∀ k, 1 ≤ k → k ≤ 40 → tagAt b k ≠ 0 → (entOf b k).2.1 + (entOf b k).2.2.1 ≤ ((288 + i * s : Nat) : Int) ∨ ((288 + i * s : Nat) : Int) + s ≤ (entOf b k).2.1 := fun k k1 k2 kt => by
    have hki : k ≤ i := Classical.byContradiction fun hc => kt (h.no k (by omega) k2)
    rw [(h.is k k1 hki k2).2]
    left
    show 288 + (k - 1) * (s : Int) + (s : Int) ≤ ((288 + i * s : Nat) : Int)
    have : (k - 1) * (s : Int) + s = k * s := by rw [Int.sub_mul, Int.one_mul]; omega
    have h3 : k * (s : Int) ≤ (i : Int) * s := Int.mul_le_mul_of_nonneg_right hki (by omega)
    have h4 : ((288 + i * s : Nat) : Int) = 288 + (i : Int) * s := by omega
    omega
  obtain ⟨a1, a2, a3, a4, a5, a6⟩ := alloc_keep (t := 0) h.fine (by omega) (by omega) h0 hs (by omega) (by omega) hx2 (by decide) (by decide) hno
  have hz := length_zerosB s
  have hp : putE (splice b (288 + i * s) (zerosB s)) ((i : Int) + 1, ((288 + i * s : Nat) : Int), (s : Int), 0) = 0 := by
    have hl : (splice b (288 + i * s) (zerosB s)).length = b.length := length_splice (by rw [hz]; exact hx2)
    exact putE_zero.2 ⟨by rw [hl]; exact h.fine.len0, hndB_iff.2 ⟨by show 1 ≤ (i : Int) + 1; omega, by show (i : Int) + 1 ≤ 40; omega⟩, Int.le_refl _, (by show (0 : Int) ≤ 15; decide), by show 1 ≤ (s : Int); omega, by show (s : Int) ≤ 1000; omega, by show 288 ≤ ((288 + i * s : Nat) : Int); omega, by rw [hl]; show ((288 + i * s : Nat) : Int) + s ≤ _; omega⟩
  refine ⟨a1, a2.trans h.len, fun k k1 k2 k3 => ?_, fun k k1 k2 => ?_, fun j hj => ?_⟩
  · by_cases e : k = (i : Int) + 1
    · subst e
      refine ⟨a5, a4.trans ?_⟩
      rw [show (i : Int) + 1 - 1 = i by omega, show ((288 + i * s : Nat) : Int) = 288 + (i : Int) * s by omega]
    · obtain ⟨_, b2, b3⟩ := a6 k k1 k3 e
      rw [b2, b3]
      exact h.is k k1 (by omega) k3
  · obtain ⟨_, b2, _⟩ := a6 k (by omega) k2 (by omega)
    rw [b2]
    exact h.no k (by omega) k2
  · have : rowAt (alL b ((i : Int) + 1) (288 + i * s) s 0) j = rowAt b j := by
      apply ext_getD
      · rw [rowAt_len (by rw [a2, h.len]; omega), rowAt_len (by rw [h.len]; omega)]
      · intro q hq
        rw [rowAt_len (by rw [a2, h.len]; omega)] at hq
        rw [rowAt_getD hq, rowAt_getD hq]
        exact alL_tail h.fine hp (by omega) (by omega) (by omega) hx2 _ (by omega) (by omega)
    rw [this]
    exact h.rows j hj
/-- With one less: it is the least that is none, and where it was there is room. -/
theorem HF.freed {b : List Int} {s : Nat} (h : HF b s 40) (hs : 1 ≤ s) (hs2 : s ≤ 150) {f : Nat} (f1 : 1 ≤ f) (f2 : f ≤ 40) :
    chkE b f = 0 ∧ Fine (dropL b f) ∧ lowH (dropL b f) = f - 1 ∧ chkE (dropL b f) f = 5 ∧ (dropL b f).length = 6400 ∧ ∀ t, Srt (takeL (dropL b f)) t → (fitB s (freeOf (((dropL b f).length : Int) - 288) t)).2 ≠ 0 := by
  have hpr := h.is f (by omega) (by omega) (by omega)
  have hck : chkE b f = 0 := chkE_zero.2 ⟨h.fine.len0, hndB_iff.2 ⟨by omega, by omega⟩, hpr.1⟩
  obtain ⟨d1, d2, d3, d4, d5⟩ := drop_fine h.fine hck (fun i hi hr => by rw [h.rows i hi] at hr; cases hr)
  refine ⟨hck, d1, ?_, drop_none hck, d4.trans h.len, fun t ht => ?_⟩
  · refine First.unique (lowH_first _) ⟨by omega, fun j hj => ?_, fun _ => ?_⟩
    · obtain ⟨e1, _⟩ := d2 ((j : Int) + 1) (by omega) (by omega) (by omega)
      refine decide_eq_false ?_
      rw [e1]
      exact (h.is ((j : Int) + 1) (by omega) (by omega) (by omega)).1
    · refine decide_eq_true ?_
      rw [show (((f - 1 : Nat) : Int) + 1) = (f : Int) by omega]
      exact d3
  · have hm : (f : Int) * s ≤ 6000 := by
      have h1 : (f : Int) * s ≤ 40 * (s : Int) := Int.mul_le_mul_of_nonneg_right (by omega) (by omega)
      omega
    have hfs : ((f : Int) - 1) * s + s = (f : Int) * s := by rw [Int.sub_mul, Int.one_mul]; omega
    have h0 : 0 ≤ ((f : Int) - 1) * s := Int.mul_nonneg (by omega) (by omega)
    refine fit_there ht (take_good d1) (by rw [d4, h.len]; decide) (p := ((f : Int) - 1) * s) h0 (by omega) (by rw [d4, h.len]; show _ ≤ ((6400 : Nat) : Int) - 288; omega) (fun e he => ?_)
    obtain ⟨k, k1, k2, kt, rfl⟩ := mem_takeL.1 he
    have hkf : k ≠ f := fun e => kt (by rw [e]; exact d3)
    rw [(d2 k k1 k2 hkf).2, (h.is k k1 (by omega) k2).2]
    unfold shE
    dsimp only
    have hks : (k - 1) * (s : Int) + s = k * s := by rw [Int.sub_mul, Int.one_mul]; omega
    rcases Int.lt_or_gt_of_ne hkf with hlt | hlt
    · left
      have : k * (s : Int) ≤ ((f : Int) - 1) * s := Int.mul_le_mul_of_nonneg_right (by omega) (by omega)
      omega
    · right
      have : (f : Int) * s ≤ (k - 1) * (s : Int) := Int.mul_le_mul_of_nonneg_right (by omega) (by omega)
      omega
end Go.Proofs.YtcppejlcjooliaaGreatDoor
/-! The library's bytes.Clone: a copy of bytes. (Part of the proofs over packages diff and heap.) -/
namespace Go.Proofs.YtcppejlcjooliaaGreatDoor
open Go.RowKit
set_option linter.unusedVariables false

theorem OwnV.shape {w : World} {B : Nat} {v : Value} {L : List Int} (h : OwnV w B v L) : ∃ a c, v = .slice a L.length c := by
  rcases h.2 with ⟨rfl, h0⟩ | ⟨g, cap, cur, rfl, _⟩
  · exact ⟨none, 0, by rw [h0]⟩
  · exact ⟨_, _, rfl⟩
end Go.Proofs.YtcppejlcjooliaaGreatDoor
/-! Contracts of package heap: New, Bytes, Tag. (Part of the proofs over package heap.) -/
namespace Go.Proofs.YtcppejlcjooliaaGreatDoor
open Go.RowKit
set_option linter.unusedVariables false

theorem Blk.row {w : World} {B g : Nat} {l : List Int} (h : Blk w g l) (hB : B ≤ g) : Row w B g l.length (l.map (Value.int .u8)).toArray l := ⟨hB, h, Nat.le_refl _, by simp, by rw [List.take_of_length_le (by simp)]⟩
theorem iNew_row (N : Nat) (w : World) (hq : lenB N = true) : Calls Tryz.prog 9 #[.int .i64 N] w (EndsR w (zerosB N) .nilIface) := by
  have HL := hide (isLength_any N w)
  obtain ⟨i0, hi, hz0, hz1, hz2⟩ := info_parts info_u8
  rw [hq] at HL
  have hn := lenB_iff.1 hq
  clear hq
  go_enter Tryz.func9, Tryz.ntmps9
  go_wp2_with fail
  refine (unhide HL).mono ?_
  rintro e w1 ⟨rfl, rfl⟩
  go_wp2_with (at_make; refine wpList_make_u8 rfl _ _ 33 rfl i0 Tryz.underlying33 hi hz0 hz1 hz2 _ _ _ _ N rfl rfl rfl rfl (by omega) ?_; intro w2 hk2 hs2 hb2)
  go_ret2
  have hlen := length_zerosB N
  have hr := hk2.row (Nat.le_refl _)
  rw [hlen] at hr
  exact ⟨_, N, _, by rw [hlen]; rfl, hr, hb2⟩
/-- A heap that has just been made. -/
theorem Hp.made {w w1 : World} {B g c : Nat} {cur : Array Value} {L : List Int} (hr : Row w1 B g c cur L) (hb : B ≤ w1.heap.size) (hby : Byt L) (hf : Fine L) :
    Hp (w1.alloc (.cells #[.slice (some ⟨g, 0, none⟩) L.length c] 37)) B w1.heap.size g c L :=
  ⟨hb, Nat.ne_of_lt hr.lt, heap_alloc_new w1 _, ⟨cur, hr.below ((Below.refl _ _).alloc (Nat.le_refl _) _)⟩, hby, hf⟩
theorem hNew_yes (N : Nat) (w : World) (hq : lenB N = true) :
    Calls Tryz.prog 4 #[.int .i64 N] w fun e w' => ∃ p g c, e = .returned (.tuple #[.pointer (some ⟨p, 0, none⟩), .nilIface]) ∧ Hp w' w.heap.size p g c (zerosB N) ∧ Below w.heap.size w w' := by
  have HN := hide (iNew_row N w hq)
  have hn := lenB_iff.1 hq
  have HF := hide (zeros_fine (n := N) (by omega) (by omega)).1
  have HB := hide (byt_zerosB N)
  generalize zerosB N = Z at *
  clear hq
  go_enter Tryz.func4, Tryz.ntmps4
  go_wp2_with fail
  refine (unhide HN).mono ?_
  rintro e w1 ⟨g, c, cur, rfl, hrow, hb1⟩
  have HR := hide hrow
  have HB1 := hide hb1
  clear hrow hb1 HN
  go_wp2
  go_ret2
  exact ⟨w1.heap.size, g, c, rfl, Hp.made (w := w) (unhide HR) (unhide HB1).size (unhide HB) (unhide HF), (unhide HB1).alloc (unhide HB1).size _⟩
theorem hTag_any (p g c B : Nat) (L : List Int) (h : Int) (w : World) (hh : Hp w B p g c L) :
    Calls Tryz.prog 8 #[.pointer (some ⟨p, 0, none⟩), .int .i64 h] w fun e w' => e = .returned (.tuple #[.int .i64 (getE L h).2.2.2, errV (chkE L h)]) ∧ Below w.heap.size w w' := by
  have HG := hide (fun W (hW : Below w.heap.size w W) => iGet_any (some ⟨g, 0, none⟩) c L h W (hh.bs.below hW))
  have hc := hh.cell
  have hl := hh.len
  clear hh
  generalize getE L h = E at *
  generalize chkE L h = X at *
  generalize L.length = N at *
  obtain ⟨e1, e2, e3, e4⟩ := E
  unfold entV at HG
  dsimp only at HG ⊢
  go_enter Tryz.func8, Tryz.ntmps8
  go_wp2_with fail
  refine (unhide HG w (Below.refl _ _)).mono ?_
  rintro e w1 ⟨rfl, hb1⟩
  have HB := hide hb1
  clear hb1 HG hc
  go_wp2
  go_ret2
  exact ⟨rfl, (unhide HB).alloc (unhide HB).size _⟩
end Go.Proofs.YtcppejlcjooliaaGreatDoor
/-! 'b[x : x+n]' of a row; what an extent's cells are. (Part of the proofs over packages check and heap.) -/
namespace Go.Proofs.YtcppejlcjooliaaGreatDoor
open Go.RowKit
set_option linter.unusedVariables false

theorem size_ext : (Tryz.prog.info? 45).map (·.size) = some 2 := by kernel_rfl
/-- 'b[x : x+n]' of a row. -/
theorem cut2_row {P : Program} {t : TypeId} (hu : P.underlying t = some (.slice 5)) (hsz : (P.info? 5).map (·.size) = some 1) (g c N x n : Nat) (hp : x + n ≤ N) (hn : N ≤ c) (hlt : x < c) (w' : World) :
    (Instr.slice t (.slice (some ⟨g, 0, none⟩) N c) (some (.int .i64 x)) (some (.int .i64 ((x : Int) + n))) none).run P w' = .ok (.slice (some ⟨g, x, none⟩) n (c - x)) w' := by
  have he := elem_u8 hu
  rw [run_slice_lh (P := P) (w := w') t (some ⟨g, 0, none⟩) N c (by rw [he]; exact hu) .i64 .i64 x (x + n) (by omega) (by omega) (by omega), he, run_size_u8 w' hsz]
  have t1 : (x : Int).toNat = x := Int.toNat_natCast x
  have t2 : ((x : Int) + n).toNat = x + n := by omega
  simp only [Result.andThen, sliced, t1, t2]
  rw [if_neg (by omega)]
  simp [Addr.add]
  exact fun h => h.symm
end Go.Proofs.YtcppejlcjooliaaGreatDoor
/-! Contracts of package heap: n bytes of an object; Read, Write. (Part of the proofs over package heap.) -/
namespace Go.Proofs.YtcppejlcjooliaaGreatDoor
open Go.RowKit Go.Sort
set_option linter.unusedVariables false

theorem hPart_bs (a : Option Addr) (cap : Nat) (l : List Int) (x n : Nat) (w : World) (hbs : Bs w a cap l) (hx : x + n ≤ l.length) :
    Calls Tryz.prog 14 #[.slice a l.length cap, .agg #[.int .i64 x, .int .i64 n]] w fun e w' => ∃ a' c', e = .returned (.slice a' n c') ∧ Bs w' a' c' ((l.drop x).take n) ∧ Below w.heap.size w w' := by
  have hb0 : Below w.heap.size w (w.alloc (.cells #[.int .i64 x, .int .i64 n] 45)) := (Below.refl _ _).alloc (Nat.le_refl _) _
  obtain ⟨a1, hs1, hb1⟩ := slice_lohi (P := Tryz.prog) (t := 33) Tryz.underlying33 size_u8 (hbs.below hb0) x (x + n) (by omega) hx
  have e1 : x + n - x = n := by omega
  rw [e1] at hs1 hb1
  have e2 : ((x + n : Nat) : Int) = (x : Int) + n := by omega
  rw [e2] at hs1
  have HB0 := hide hb0
  have HB1 := hide hb1
  have h3 := hbs.2.2.1
  clear hbs hb0 hb1 e1 e2
  generalize l.length = N at *
  go_enter Tryz.func14, Tryz.ntmps14
  go_wp2
  go_ret
  exact ⟨_, _, rfl, unhide HB1, unhide HB0⟩
theorem hPart_row (g c N x n : Nat) (w : World) (hN : N ≤ 140737488351232) (hp : x + n ≤ N) (hn : N ≤ c) (hlt : x < c) :
    Calls Tryz.prog 14 #[.slice (some ⟨g, 0, none⟩) N c, .agg #[.int .i64 x, .int .i64 n]] w fun e w' => e = .returned (.slice (some ⟨g, x, none⟩) n (c - x)) ∧ Below w.heap.size w w' := by
  have hs1 := fun w' => cut2_row (P := Tryz.prog) (t := 33) Tryz.underlying33 size_u8 g c N x n hp hn hlt w'
  go_enter Tryz.func14, Tryz.ntmps14
  go_wp2
  go_ret
  exact ⟨rfl, (Below.refl _ _).alloc (Nat.le_refl _) _⟩

theorem hPart_any (g c : Nat) (L : List Int) (x n : Nat) (w : World) (hbs : Bs w (some ⟨g, 0, none⟩) c L) (hx : x + n ≤ L.length) :
    Calls Tryz.prog 14 #[.slice (some ⟨g, 0, none⟩) L.length c, .agg #[.int .i64 x, .int .i64 n]] w fun e w' => ∃ q c', e = .returned (.slice q n c') ∧ Bs w' q c' ((L.drop x).take n) ∧ (0 < n → q = some ⟨g, x, none⟩) ∧ Below w.heap.size w w' := by
  rcases Nat.eq_zero_or_pos n with rfl | hn
  · exact (hPart_bs (some ⟨g, 0, none⟩) c L x 0 w hbs hx).mono fun e w' ⟨a', c', he, h1, h2⟩ => ⟨a', c', he, h1, fun h => absurd h (Nat.lt_irrefl _), h2⟩
  · have hc := hbs.2.1
    refine (hPart_row g c L.length x n w hbs.2.2.1 hx hc (by omega)).mono fun e w' ⟨he, h2⟩ => ⟨_, _, he, ?_, fun _ => rfl, h2⟩
    have := (hbs.drop x (by omega)).take n
    rw [if_neg (by omega)] at this
    have h3 := this.below h2
    simpa [addr_add] using h3
/-- The same, as an equation for every world. -/
theorem hPart_run (g c : Nat) (L : List Int) (x n : Nat) (w : World) (hbs : Bs w (some ⟨g, 0, none⟩) c L) (hx : x + n ≤ L.length) :
    ∃ q, (∀ w', (Instr.slice 33 (.slice (some ⟨g, 0, none⟩) L.length c) (some (.int .i64 x)) (some (.int .i64 ((x : Int) + n))) none).run Tryz.prog w' = .ok (.slice q n (c - x)) w') ∧ Bs w q (c - x) ((L.drop x).take n) ∧ (0 < n → q = some ⟨g, x, none⟩) := by
  rcases Nat.eq_zero_or_pos n with rfl | hn
  · obtain ⟨a1, hs1, hb1⟩ := slice_lohi (P := Tryz.prog) (t := 33) Tryz.underlying33 size_u8 hbs x (x + 0) (by omega) hx
    rw [show x + 0 - x = 0 by omega] at hs1 hb1
    exact ⟨a1, fun w' => by have := hs1 w'; rw [show ((x + 0 : Nat) : Int) = (x : Int) + ((0 : Nat) : Int) by omega] at this; exact this, hb1, fun h => absurd h (Nat.lt_irrefl _)⟩
  · have hc := hbs.2.1
    refine ⟨some ⟨g, x, none⟩, fun w' => cut2_row (P := Tryz.prog) (t := 33) Tryz.underlying33 size_u8 g c L.length x n hx hc (by omega) w', ?_, fun _ => rfl⟩
    have := (hbs.drop x (by omega)).take n
    rw [if_neg (by omega)] at this
    simpa [addr_add] using this
theorem hPart_w (a : Option Addr) (cap N : Nat) (x n : Nat) (a1 : Option Addr) (hN : N ≤ 140737488351232) (hx : x + n ≤ N) (hs : ∀ w', (Instr.slice 33 (.slice a N cap) (some (.int .i64 (x : Int))) (some (.int .i64 ((x : Int) + n))) none).run Tryz.prog w' = .ok (.slice a1 n (cap - x)) w') (w : World) :
    Calls Tryz.prog 14 #[.slice a N cap, .agg #[.int .i64 (x : Int), .int .i64 (n : Int)]] w fun e w' => e = .returned (.slice a1 n (cap - x)) ∧ ∃ q os, w' = grow (w.drewN q) os := by
  go_enter Tryz.func14, Tryz.ntmps14
  go_wp2
  go_ret
  exact ⟨rfl, 0, _, by rw [alloc_eq_grow]; rfl⟩
end Go.Proofs.YtcppejlcjooliaaGreatDoor
/-! 'clear' of a part of a row of bytes. (Part of the proofs over packages check and heap.) -/
namespace Go.Proofs.YtcppejlcjooliaaGreatDoor
open Go.RowKit
set_option linter.unusedVariables false

/-- 'clear' of a part of a row of bytes. -/
theorem run_clear_u8 {P : Program} (w : World) (dT ty : TypeId) (hu : P.underlying dT = some (.slice 5)) (hz : ∀ w, (zeroValue 5).run P w = .ok (.int .u8 0) w)
    (B g off n dCap c : Nat) (cur : Array Value) (z : List Int) (h0 : 0 < n) (hfit : off + n ≤ z.length) (hg : Row w B g c cur z) :
    (Builtin.clear_ #[dT] ty #[.slice (some ⟨g, off, none⟩) n dCap]).run P w = .ok (.tuple #[]) (laidW w g cur off (zerosB n)) := by
  obtain ⟨h1, h2, h3, h4, h5⟩ := hg
  have hst := run_storeCells_at P g off 5 ((zerosB n).map (Value.int .u8)) 0 cur w h2 (by simp [length_zerosB]; omega) (oneCell_u8 _)
  have hzc : (Builtin.zeroCells (Value.int .u8 0).cells n).toList = (zerosB n).map (Value.int .u8) := by
    simp [Builtin.zeroCells, Value.cells, zerosB, List.map_replicate]
    rw [List.eq_replicate_iff]
    simp [Nat.mod_one]
  obtain ⟨m, rfl⟩ : ∃ m, n = m + 1 := ⟨n - 1, by omega⟩
  have hst' : (storeCells ⟨g, off, none⟩ ((zerosB (m + 1)).map (Value.int .u8))).run P w = .ok () (laidW w g cur off (zerosB (m + 1))) := by
    rw [laidW]
    simpa [splice] using hst
  simp only [Builtin.clear_, run_underlying hu, hz, hzc, hst', Sem.run_bind, Sem.run_pure, Result.andThen, List.getElem?_toArray, List.getElem?_cons_zero]
theorem zero_u8 (w : World) : (zeroValue 5).run Tryz.prog w = .ok (.int .u8 0) w := by
  have h : (Tryz.prog.info? 5).map (fun i => (i.zero, i.size, i.bytes)) = some (some (.int .u8 0), 1, 1) := by kernel_rfl
  obtain ⟨i0, hi, hz0, hz1, hz2⟩ := info_parts h
  simp [zeroValue, typeInfo, hi, hz0]
end Go.Proofs.YtcppejlcjooliaaGreatDoor
/-! Contracts of package heap: Alloc. (Part of the proofs over package heap.) -/
namespace Go.Proofs.YtcppejlcjooliaaGreatDoor
open Go.RowKit
set_option linter.unusedVariables false

/-- Why an object of n bytes of a tag cannot be had. -/
def alE (L : List Int) (n t : Int) : Int := if n < 1 ∨ 1000 < n ∨ t < 0 ∨ 15 < t then 1 else if lowH L = 40 then 4 else fitE ((L.length : Int) - 288) (takeL L) n
/-- Its handle. -/
def alH (L : List Int) (n t : Int) : Int := if alE L n t = 0 then (lowH L : Int) + 1 else 0
/-- The image behind it. -/
def alB (L : List Int) (n t : Int) : List Int := if alE L n t = 0 then alL L ((lowH L : Int) + 1) (288 + fitAt ((L.length : Int) - 288) (takeL L) n).toNat n.toNat t else L
theorem take_chk {L : List Int} (hf : Fine L) : chk ((L.length : Int) - 288) (takeL L) = 0 := by
  have := hf.len
  exact chk_zero.2 ⟨by omega, by omega, Nat.le_trans (takeL_len L) (by decide), take_good hf⟩
theorem take_srt {L : List Int} (hf : Fine L) : Srt (takeL L) (srtL (takeL L)) := (take_good hf).srtL
theorem fitE_fine {L : List Int} (hf : Fine L) {n : Int} (h1 : 1 ≤ n) (h2 : n ≤ 6400) : fitE ((L.length : Int) - 288) (takeL L) n = if (fitB n (freeOf ((L.length : Int) - 288) (srtL (takeL L)))).2 = 0 then 4 else 0 := by
  unfold fitE freeL
  rw [if_neg (fun h => h (take_chk hf)), if_neg (by omega), if_pos (take_chk hf)]
theorem fitAt_fine {L : List Int} (hf : Fine L) {n : Int} (h1 : 1 ≤ n) (h2 : n ≤ 6400) (h0 : fitE ((L.length : Int) - 288) (takeL L) n = 0) : fitAt ((L.length : Int) - 288) (takeL L) n = (fitB n (freeOf ((L.length : Int) - 288) (srtL (takeL L)))).1 := by
  unfold fitAt
  rw [if_pos h0]
  unfold freeL
  rw [if_pos (take_chk hf)]
/-- All that is known where an object can be had. -/
structure AlOk (L : List Int) (n t : Int) (x N : Nat) : Prop where
  eqn : n = N
  n1 : 1 ≤ N
  n2 : N ≤ 1000
  t1 : 0 ≤ t
  t2 : t ≤ 15
  low : lowH L < 40
  free : tagAt L ((lowH L : Int) + 1) = 0
  fit : fitE ((L.length : Int) - 288) (takeL L) n = 0
  eqx : 288 + fitAt ((L.length : Int) - 288) (takeL L) n = x
  x1 : 288 ≤ x
  x2 : x + N ≤ L.length
  no : ∀ k, 1 ≤ k → k ≤ 40 → tagAt L k ≠ 0 → (entOf L k).2.1 + (entOf L k).2.2.1 ≤ x ∨ (x : Int) + N ≤ (entOf L k).2.1
theorem al_ok {L : List Int} (hf : Fine L) {n t : Int} (h0 : alE L n t = 0) : ∃ x N, AlOk L n t x N := by
  unfold alE at h0
  by_cases h1 : n < 1 ∨ 1000 < n ∨ t < 0 ∨ 15 < t
  · rw [if_pos h1] at h0; exact absurd h0 (by decide)
  · rw [if_neg h1] at h0
    by_cases h2 : lowH L = 40
    · rw [if_pos h2] at h0; exact absurd h0 (by decide)
    · rw [if_neg h2] at h0
      have h3 := lowH_le L
      obtain ⟨N, rfl⟩ := Int.eq_ofNat_of_zero_le (show 0 ≤ n by omega)
      have hfit : (fitB (N : Int) (freeOf ((L.length : Int) - 288) (srtL (takeL L)))).2 ≠ 0 := fun hz => by
        rw [fitE_fine hf (by omega) (by omega), if_pos hz] at h0
        exact absurd h0 (by decide)
      obtain ⟨x, hx, hx1, hx2, hno⟩ := alloc_fit hf (take_srt hf) (n := N) (by omega) hfit
      exact ⟨x, N, rfl, by omega, by omega, by omega, by omega, by omega, of_decide_eq_true ((lowH_first L).2.2 (by omega)), h0, by rw [fitAt_fine hf (by omega) (by omega) h0, hx], hx1, hx2, hno⟩
section
variable {L : List Int} {n t : Int} {x N : Nat}
theorem AlOk.img (h : AlOk L n t x N) (h0 : alE L n t = 0) : alB L n t = alL L ((lowH L : Int) + 1) x N t ∧ alH L n t = (lowH L : Int) + 1 := by
  unfold alB alH
  rw [if_pos h0, if_pos h0, h.eqx, h.eqn, Int.toNat_natCast, Int.toNat_natCast]
  exact ⟨rfl, rfl⟩
theorem AlOk.put (h : AlOk L n t x N) (hf : Fine L) : putE L ((lowH L : Int) + 1, (x : Int), (N : Int), t) = 0 := by
  have h1 := h.low
  have h2 := h.n1
  have h3 := h.n2
  have h4 := h.t1
  have h5 := h.t2
  have h6 := h.x1
  have h7 := h.x2
  exact putE_zero.2 ⟨hf.len0, hndB_iff.2 ⟨by show 1 ≤ (lowH L : Int) + 1; omega, by show (lowH L : Int) + 1 ≤ 40; omega⟩, h4, h5, by show 1 ≤ (N : Int); omega, by show (N : Int) ≤ 1000; omega, by show 288 ≤ (x : Int); omega, by show (x : Int) + N ≤ _; omega⟩
theorem AlOk.keep (h : AlOk L n t x N) (hf : Fine L) (h0 : alE L n t = 0) : Fine (alB L n t) ∧ (alB L n t).length = L.length ∧ objOf (alB L n t) ((lowH L : Int) + 1) = (t, zerosB N) ∧ entOf (alB L n t) ((lowH L : Int) + 1) = ((lowH L : Int) + 1, (x : Int), (N : Int), t) ∧ tagAt (alB L n t) ((lowH L : Int) + 1) ≠ 0 ∧
    (∀ k, 1 ≤ k → k ≤ 40 → k ≠ (lowH L : Int) + 1 → objOf (alB L n t) k = objOf L k ∧ tagAt (alB L n t) k = tagAt L k ∧ entOf (alB L n t) k = entOf L k) := by
  rw [(h.img h0).1]
  exact alloc_keep hf (by omega) (by have := h.low; omega) h.free h.n1 h.n2 h.x1 h.x2 h.t1 h.t2 h.no
/-- Put first, then cleared: what the code does. -/
theorem AlOk.lay (h : AlOk L n t x N) (hf : Fine L) (h0 : alE L n t = 0) : splice (putL L ((lowH L : Int) + 1, (x : Int), (N : Int), t)) x (zerosB N) = alB L n t := by
  rw [(h.img h0).1]
  exact (put_lay (h.put hf) h.x1 (by rw [length_zerosB]; exact h.x2)).2
end
theorem alB_byt {L : List Int} (hb : Byt L) (n t : Int) : Byt (alB L n t) := by
  unfold alB
  split
  · unfold alL putL
    split
    · exact byt_splice (byt_splice hb (byt_zerosB _)) (byt_rowE _)
    · exact fun z hz => (by cases hz)
  · exact hb
theorem alB_fine {L : List Int} (hf : Fine L) (n t : Int) : Fine (alB L n t) := by
  by_cases h0 : alE L n t = 0
  · obtain ⟨x, N, h⟩ := al_ok hf h0
    exact (h.keep hf h0).1
  · unfold alB
    rw [if_neg h0]
    exact hf

theorem alloc_range (p g c B : Nat) (L : List Int) (n t : Int) (w : World) (hh : Hp w B p g c L) (hbad : n < 1 ∨ 1000 < n ∨ t < 0 ∨ 15 < t) :
    Calls Tryz.prog 5 #[.pointer (some ⟨p, 0, none⟩), .int .i64 n, .int .i64 t] w fun e w' => e = .returned (.tuple #[.int .i64 0, errV 1]) ∧ w = w' := by
  clear hh
  rw [errV_pos 1 (by decide)]
  by_cases c1 : n < 1
  · clear hbad
    go_enter Tryz.func5, Tryz.ntmps5
    go_wp2
    go_ret2
    exact ⟨rfl, rfl⟩
  · by_cases c2 : 1000 < n
    · clear hbad
      go_enter Tryz.func5, Tryz.ntmps5
      go_wp2
      go_ret2
      exact ⟨rfl, rfl⟩
    · by_cases c3 : t < 0
      · clear hbad
        go_enter Tryz.func5, Tryz.ntmps5
        go_wp2
        go_ret2
        exact ⟨rfl, rfl⟩
      · have c4 : 15 < t := by omega
        clear hbad
        go_enter Tryz.func5, Tryz.ntmps5
        go_wp2
        go_ret2
        exact ⟨rfl, rfl⟩
theorem ents_in {L : List Int} (hf : Fine L) : ∀ e ∈ entsK L 40, 0 ≤ e.2.1 ∧ e.2.1 ≤ 65535 ∧ 0 ≤ e.2.2.1 ∧ e.2.2.1 ≤ 65535 := fun e he => by
  obtain ⟨j, h1, h2, rfl⟩ := mem_entsK.1 he
  have := hf.ent (h := (j : Int) + 1) (by omega) (by omega) h2
  have := hf.len
  omega
set_option maxHeartbeats 1000000 in
theorem alloc_none (p g c B : Nat) (L : List Int) (n t : Int) (w : World) (hh : Hp w B p g c L) (hr : ¬ (n < 1 ∨ 1000 < n ∨ t < 0 ∨ 15 < t)) (hlow : lowH L = 40) :
    Calls Tryz.prog 5 #[.pointer (some ⟨p, 0, none⟩), .int .i64 n, .int .i64 t] w fun e w' => e = .returned (.tuple #[.int .i64 0, errV 4]) ∧ Below w.heap.size w w' := by
  have HE := hide (iEnts_yes (some ⟨g, 0, none⟩) c L w hh.bs hh.fine.len0)
  have HLW := hide (fun (a : Option Addr) (cap : Nat) (W : World) (hs : Sls enC 4 W a cap (entsK L 40)) => least_any a cap (entsK L 40) W hs (entsK_len L 40))
  rw [lowF_low, hlow, if_pos (by decide), if_pos (by decide)] at HLW
  have hel := entsK_len L 40
  have hcl := hh.cell
  have hl := hh.len
  rw [errV_pos 4 (by decide)] at HLW ⊢
  clear hh hlow
  have r1 : ¬ n < 1 := by omega
  have r2 : ¬ 1000 < n := by omega
  have r3 : ¬ t < 0 := by omega
  have r4 : ¬ 15 < t := by omega
  clear hr
  generalize entsK L 40 = EN at *
  generalize L.length = M at *
  go_enter Tryz.func5, Tryz.ntmps5
  go_wp2_with fail
  refine (unhide HE).mono ?_
  rintro e w1 ⟨v1, rfl, hown1, hb1⟩
  obtain ⟨a1, c1, rfl, hsl1⟩ := hown1.sls enC_len (by omega)
  have HLW1 := hide (unhide HLW a1 c1 w1 hsl1)
  have HB1 := hide hb1
  clear hown1 hsl1 hb1 HE HLW hcl
  go_wp2_with fail
  refine (unhide HLW1).mono ?_
  rintro e w2 ⟨rfl, hb2⟩
  have HB2 := hide ((unhide HB1).trans (hb2.mono (unhide HB1).size))
  clear hb2 HLW1 HB1
  go_wp2
  go_ret2
  exact ⟨rfl, unhide HB2⟩
set_option maxHeartbeats 1000000 in
theorem alloc_full (p g c B : Nat) (L : List Int) (n t : Int) (w : World) (hh : Hp w B p g c L) (hr : ¬ (n < 1 ∨ 1000 < n ∨ t < 0 ∨ 15 < t)) (hlow : lowH L ≠ 40) (hfit : fitE ((L.length : Int) - 288) (takeL L) n ≠ 0) :
    Calls Tryz.prog 5 #[.pointer (some ⟨p, 0, none⟩), .int .i64 n, .int .i64 t] w fun e w' => e = .returned (.tuple #[.int .i64 0, errV (fitE ((L.length : Int) - 288) (takeL L) n)]) ∧ Below w.heap.size w w' := by
  have HE := hide (iEnts_yes (some ⟨g, 0, none⟩) c L w hh.bs hh.fine.len0)
  have HLW := hide (fun (a : Option Addr) (cap : Nat) (W : World) (hs : Sls enC 4 W a cap (entsK L 40)) => least_any a cap (entsK L 40) W hs (entsK_len L 40))
  have h40 := lowH_le L
  rw [lowF_low, if_neg (by omega), if_neg (by omega), errV_zero] at HLW
  have HRM := hide (fun (a : Option Addr) (cap : Nat) (W : World) (hs : Sls enC 4 W a cap (entsK L 40)) => room_any L.length a cap (entsK L 40) n W hs (entsK_len L 40) hh.fine.len (ents_in hh.fine))
  change Hid (∀ (a : Option Addr) (cap : Nat) (W : World), Sls enC 4 W a cap (entsK L 40) → Calls Tryz.prog 12 #[.int .i64 L.length, .slice a (entsK L 40).length cap, .int .i64 n] W fun e w' => e = .returned (.tuple #[.int .i64 (if fitE ((L.length : Int) - 288) (takeL L) n = 0 then 288 + fitAt ((L.length : Int) - 288) (takeL L) n else 0), errV (fitE ((L.length : Int) - 288) (takeL L) n)]) ∧ Below W.heap.size W w') at HRM
  rw [if_neg hfit, errV_pos _ hfit] at HRM
  rw [errV_pos _ hfit]
  have hel := entsK_len L 40
  have HH := hide hh
  have hcl := hh.cell
  have hl := hh.len
  clear hh hlow
  have r1 : ¬ n < 1 := by omega
  have r2 : ¬ 1000 < n := by omega
  have r3 : ¬ t < 0 := by omega
  have r4 : ¬ 15 < t := by omega
  clear hr hfit
  generalize fitE ((L.length : Int) - 288) (takeL L) n = FE at *
  generalize lowH L = LH at *
  generalize entsK L 40 = EN at *
  go_enter Tryz.func5, Tryz.ntmps5
  go_wp2_with fail
  refine (unhide HE).mono ?_
  rintro e w1 ⟨v1, rfl, hown1, hb1⟩
  obtain ⟨a1, c1, rfl, hsl1⟩ := hown1.sls enC_len (by omega)
  have HLW1 := hide (unhide HLW a1 c1 w1 hsl1)
  have HSL := hide hsl1
  have HB1 := hide hb1
  clear hown1 hsl1 hb1 HE HLW hcl
  go_wp2_with fail
  refine (unhide HLW1).mono ?_
  rintro e w2 ⟨rfl, hb2⟩
  have hB2 := (unhide HB1).trans (hb2.mono (unhide HB1).size)
  have hcl := ((unhide HH).below hB2).cell
  have HRM2 := hide (unhide HRM a1 c1 w2 ((unhide HSL).below hb2))
  have HB2 := hide hB2
  clear hb2 hB2 HLW1 HB1 HRM HSL HH
  go_wp2_with fail
  refine (unhide HRM2).mono ?_
  rintro e w3 ⟨rfl, hb3⟩
  have HB3 := hide ((unhide HB2).trans (hb3.mono (unhide HB2).size))
  clear hb3 HRM2 HB2 hcl
  go_wp2
  go_ret2
  exact ⟨rfl, unhide HB3⟩
set_option maxHeartbeats 2000000 in
theorem alloc_yes (p g c B : Nat) (L : List Int) (n t : Int) (w : World) (hh : Hp w B p g c L) (hB : B ≤ w.heap.size) (h0 : alE L n t = 0) :
    Calls Tryz.prog 5 #[.pointer (some ⟨p, 0, none⟩), .int .i64 n, .int .i64 t] w fun e w' => e = .returned (.tuple #[.int .i64 (alH L n t), .nilIface]) ∧ ∃ g' c', Hp w' B p g' c' (alB L n t) ∧ Turn (foot p g) (foot p g') w w' := by
  obtain ⟨x, N, hk⟩ := al_ok hh.fine h0
  have h40 := hk.low
  have hlay := hk.lay hh.fine h0
  have hput := hk.put hh.fine
  have himg := hk.img h0
  have hf1 := alB_fine hh.fine n t
  have hby1 := alB_byt hh.byt n t
  have hlen1 := (hk.keep hh.fine h0).2.1
  have HE := hide (iEnts_yes (some ⟨g, 0, none⟩) c L w hh.bs hh.fine.len0)
  have HLW := hide (fun (a : Option Addr) (cap : Nat) (W : World) (hs : Sls enC 4 W a cap (entsK L 40)) => least_any a cap (entsK L 40) W hs (entsK_len L 40))
  rw [lowF_low, if_neg (by omega), if_neg (by omega), errV_zero] at HLW
  have HRM := hide (fun (a : Option Addr) (cap : Nat) (W : World) (hs : Sls enC 4 W a cap (entsK L 40)) => room_any L.length a cap (entsK L 40) n W hs (entsK_len L 40) hh.fine.len (ents_in hh.fine))
  change Hid (∀ (a : Option Addr) (cap : Nat) (W : World), Sls enC 4 W a cap (entsK L 40) → Calls Tryz.prog 12 #[.int .i64 L.length, .slice a (entsK L 40).length cap, .int .i64 n] W fun e w' => e = .returned (.tuple #[.int .i64 (if fitE ((L.length : Int) - 288) (takeL L) n = 0 then 288 + fitAt ((L.length : Int) - 288) (takeL L) n else 0), errV (fitE ((L.length : Int) - 288) (takeL L) n)]) ∧ Below W.heap.size W w') at HRM
  rw [hk.fit, if_pos rfl, errV_zero, hk.eqx] at HRM
  have hel := entsK_len L 40
  have hPl : (putL L ((lowH L : Int) + 1, (x : Int), (N : Int), t)).length = L.length := putL_len hput
  have HPUT : Hid (∀ W : World, Below w.heap.size w W → Calls Tryz.prog 13 #[.slice (some ⟨g, 0, none⟩) L.length c, .agg #[.int .i64 ((lowH L : Int) + 1), .int .i64 x, .int .i64 N, .int .i64 t]] W fun e w' => ∃ g4 c4 cur4, e = .returned (.tuple #[.slice (some ⟨g4, 0, none⟩) L.length c4, .nilIface]) ∧ Row w' w.heap.size g4 c4 cur4 (putL L ((lowH L : Int) + 1, (x : Int), (N : Int), t)) ∧ Below w.heap.size w w' ∧ Below W.heap.size W w') := hide (fun W hW => by
    refine (iPut_row (some ⟨g, 0, none⟩) c L ((lowH L : Int) + 1) x N t W (hh.bs.below hW) hput).mono fun e w' ⟨g4, c4, cur4, he, hr4, hb4⟩ => ⟨g4, c4, cur4, ?_, ?_, hW.trans (hb4.mono hW.size), hb4⟩
    · rw [he]
      have hq : splice L (plc ((lowH L : Int) + 1)) (rowE ((lowH L : Int) + 1, (x : Int), (N : Int), t)) = putL L ((lowH L : Int) + 1, (x : Int), (N : Int), t) := by unfold putL; rw [if_pos hput]
      rw [hq, hPl]
    · have hq : splice L (plc ((lowH L : Int) + 1)) (rowE ((lowH L : Int) + 1, (x : Int), (N : Int), t)) = putL L ((lowH L : Int) + 1, (x : Int), (N : Int), t) := by unfold putL; rw [if_pos hput]
      rw [hq] at hr4
      exact hr4.low hW.size)
  have hx1 := hk.x1
  have hx2 := hk.x2
  have hn1 := hk.n1
  have hn2 := hk.n2
  have ht1 := hk.t1
  have ht2 := hk.t2
  have hnN := hk.eqn
  subst hnN
  have HH := hide hh
  have hcl := hh.cell
  have hl := hh.len
  have HLAY := hide hlay
  have HF1 := hide hf1
  have HBY1 := hide hby1
  have HLEN1 := hide hlen1
  rw [himg.2]
  clear hh hk hput hlay hf1 hby1 hlen1 himg h0
  have r1 : ¬ (N : Int) < 1 := by omega
  have r2 : ¬ 1000 < (N : Int) := by omega
  have r3 : ¬ t < 0 := by omega
  have r4 : ¬ 15 < t := by omega
  generalize alB L N t = AB at *
  generalize putL L ((lowH L : Int) + 1, (x : Int), (N : Int), t) = P at *
  generalize lowH L = LH at *
  generalize entsK L 40 = EN at *
  generalize hM : L.length = M at *
  go_enter Tryz.func5, Tryz.ntmps5
  go_wp2_with fail
  refine (unhide HE).mono ?_
  rintro e w1 ⟨v1, rfl, hown1, hb1⟩
  obtain ⟨a1, c1, rfl, hsl1⟩ := hown1.sls enC_len (by omega)
  have HLW1 := hide (unhide HLW a1 c1 w1 hsl1)
  have HSL := hide hsl1
  have HB1 := hide hb1
  clear hown1 hsl1 hb1 HE HLW hcl
  go_wp2_with fail
  refine (unhide HLW1).mono ?_
  rintro e w2 ⟨rfl, hb2⟩
  have hB2 := (unhide HB1).trans (hb2.mono (unhide HB1).size)
  have hcl := ((unhide HH).below hB2).cell
  rw [hM] at hcl
  have HRM2 := hide (unhide HRM a1 c1 w2 ((unhide HSL).below hb2))
  have HB2 := hide hB2
  clear hb2 hB2 HLW1 HB1 HRM HSL
  go_wp2_with fail
  refine (unhide HRM2).mono ?_
  rintro e w3 ⟨rfl, hb3⟩
  have hB3 := (unhide HB2).trans (hb3.mono (unhide HB2).size)
  have hB3a : Below w.heap.size w (w3.alloc (.cells #[.int .i64 x, .int .i64 N] 45)) := hB3.alloc hB3.size _
  have hcl3 := ((unhide HH).below hB3a).cell
  rw [hM] at hcl3
  have hex : (w3.alloc (.cells #[.int .i64 x, .int .i64 N] 45)).heap[w3.heap.size]? = some (.cells #[.int .i64 x, .int .i64 N] 45 (0, 0)) := heap_alloc_new w3 _
  have hx0 : (w3.alloc (.cells #[.int .i64 x, .int .i64 N] 45)).cell? ⟨w3.heap.size, 0, none⟩ = some (.int .i64 x) := by rw [cell_of_row _ _ _ _ _ _ hex]; rfl
  have hx1' : (w3.alloc (.cells #[.int .i64 x, .int .i64 N] 45)).cell? ⟨w3.heap.size, 1, none⟩ = some (.int .i64 N) := by rw [cell_of_row _ _ _ _ _ _ hex]; rfl
  have HPUT3 : Hid (Calls Tryz.prog 13 #[.slice (some ⟨g, 0, none⟩) M c, .agg #[.int .i64 ((LH : Int) + 1), .int .i64 x, .int .i64 N, .int .i64 t]] (w3.alloc (.cells #[.int .i64 x, .int .i64 N] 45)).drew fun e w' => ∃ g4 c4 cur4, e = .returned (.tuple #[.slice (some ⟨g4, 0, none⟩) M c4, .nilIface]) ∧ Row w' w.heap.size g4 c4 cur4 P ∧ Below w.heap.size w w' ∧ w'.cell? ⟨p, 0, none⟩ = some (.slice (some ⟨g, 0, none⟩) M c) ∧ w'.cell? ⟨w3.heap.size, 0, none⟩ = some (.int .i64 x) ∧ w'.cell? ⟨w3.heap.size, 1, none⟩ = some (.int .i64 N)) := hide (by
    refine (unhide HPUT _ (below_drew hB3a)).mono fun e w' ⟨g4, c4, cur4, he, hr, hb, hb2⟩ => ⟨g4, c4, cur4, he, hr, hb, ?_, ?_, ?_⟩
    · exact (hb2.cell (p := ⟨p, 0, none⟩) (block_lt_of_cell hcl3)).trans hcl3
    · exact (hb2.cell (p := ⟨w3.heap.size, 0, none⟩) (block_lt_of_cell hx0)).trans hx0
    · exact (hb2.cell (p := ⟨w3.heap.size, 1, none⟩) (block_lt_of_cell hx1')).trans hx1')
  clear hb3 HRM2 HB2 hcl HPUT hex hB3 hB3a
  go_wp2_with fail
  generalize w3.alloc (.cells #[.int .i64 x, .int .i64 N] 45) = wx at *
  go_region_held3 (fun w' => w'.cell? ⟨p, 0, none⟩ = some (.slice (some ⟨g, 0, none⟩) M c) ∧ w'.cell? ⟨w3.heap.size, 0, none⟩ = some (.int .i64 x) ∧ w'.cell? ⟨w3.heap.size, 1, none⟩ = some (.int .i64 N)) (first | go_keep | (go_split_ands; refine ⟨?_, ?_, ?_⟩ <;> go_keep))
    ((go_at_call 13; refine (unhide HPUT3).mono ?_; rintro e w4 ⟨g4, c4, cur4, rfl, hr4, hb4, r0, r1, r2⟩))
  have hc4 := hr4.2.2.1
  rw [hPl] at hc4
  have HPART := hide (fun W => hPart_row g4 c4 M x N W (by omega) hx2 hc4 (by omega))
  have HR4 := hide hr4
  have HB4 := hide hb4
  clear hr4 hb4 HPUT3 hcl3 hx0 hx1'
  go_wp2_with fail
  refine (unhide HPART _).mono ?_
  rintro e w5 ⟨rfl, hb5⟩
  have hr5 := (unhide HR4).below hb5
  have hB5 := (unhide HB4).trans (hb5.mono (unhide HB4).size)
  have hclr : ∀ ty, (Builtin.clear_ #[33] ty #[.slice (some ⟨g4, x, none⟩) N (c4 - x)]).run Tryz.prog w5 = .ok (.tuple #[]) (laidW w5 g4 cur4 x (zerosB N)) := fun ty => run_clear_u8 w5 _ ty Tryz.underlying33 zero_u8 w.heap.size g4 x N _ c4 cur4 P (by omega) (by omega) hr5
  have hr6 := laidW_row hr5 (show x + (zerosB N).length ≤ _ by rw [length_zerosB]; omega)
  rw [unhide HLAY] at hr6
  have hB6 := laidW_below (cur := cur4) (l := zerosB N) (off := x) hB5 hr5.1
  have hp6 : (laidW w5 g4 cur4 x (zerosB N)).heap[p]? = some (.cells #[.slice (some ⟨g, 0, none⟩) L.length c] 37 (0, 0)) := (hB6.block p (unhide HH).plt).trans (unhide HH).blk
  have hcl6 : (laidW w5 g4 cur4 x (zerosB N)).cell? ⟨p, 0, none⟩ = some (.slice (some ⟨g, 0, none⟩) L.length c) := by rw [cell_of_row _ _ _ _ _ _ hp6]; rfl
  have hfr6 : (laidW w5 g4 cur4 x (zerosB N)).frozen? ⟨p, 0, none⟩ = false := frozen_of_row _ _ 0 _ _ hp6
  have HSET := hide ((unhide HH).set hB6 hr6 (unhide HBY1) (unhide HF1) hB)
  rw [unhide HLEN1] at HSET
  clear hr5 hr6 hB5 hB6 hp6 hb5 HR4 HB4 HPART r0 r1 r2
  generalize laidW w5 g4 cur4 x (zerosB N) = w6 at *
  go_wp2
  go_ret2
  exact ⟨rfl, g4, c4, unhide HSET⟩
theorem hAlloc_any (p g c B : Nat) (L : List Int) (n t : Int) (w : World) (hh : Hp w B p g c L) (hB : B ≤ w.heap.size) :
    Calls Tryz.prog 5 #[.pointer (some ⟨p, 0, none⟩), .int .i64 n, .int .i64 t] w fun e w' => e = .returned (.tuple #[.int .i64 (alH L n t), errV (alE L n t)]) ∧ ∃ g' c', Hp w' B p g' c' (alB L n t) ∧ Turn (foot p g) (foot p g') w w' := by
  by_cases h0 : alE L n t = 0
  · rw [h0, errV_zero]
    exact alloc_yes p g c B L n t w hh hB h0
  · have e1 : alH L n t = 0 := by unfold alH; rw [if_neg h0]
    have e2 : alB L n t = L := by unfold alB; rw [if_neg h0]
    rw [e1, e2]
    by_cases h1 : n < 1 ∨ 1000 < n ∨ t < 0 ∨ 15 < t
    · have e3 : alE L n t = 1 := by unfold alE; rw [if_pos h1]
      rw [e3]
      exact (alloc_range p g c B L n t w hh h1).mono fun e w' ⟨he, hw⟩ => ⟨he, g, c, by rw [← hw]; exact hh, by rw [← hw]; exact Turn.refl _ _⟩
    · by_cases h2 : lowH L = 40
      · have e3 : alE L n t = 4 := by unfold alE; rw [if_neg h1, if_pos h2]
        rw [e3]
        exact (alloc_none p g c B L n t w hh h1 h2).mono fun e w' ⟨he, hb⟩ => ⟨he, g, c, hh.below hb, Turn.of_below hb⟩
      · have e3 : alE L n t = fitE ((L.length : Int) - 288) (takeL L) n := by unfold alE; rw [if_neg h1, if_neg h2]
        rw [e3] at h0 ⊢
        exact (alloc_full p g c B L n t w hh h1 h2 h0).mono fun e w' ⟨he, hb⟩ => ⟨he, g, c, hh.below hb, Turn.of_below hb⟩
end Go.Proofs.YtcppejlcjooliaaGreatDoor
/-! Contracts of package heap: Free. (Part of the proofs over package heap.) -/
namespace Go.Proofs.YtcppejlcjooliaaGreatDoor
open Go.RowKit
set_option linter.unusedVariables false

theorem free1_any (q : Nat) (s : ByteArray) (x h : Int) (w : World) (hq : w.cell? ⟨q, 0, none⟩ = some (.int .i64 h)) :
    Calls Tryz.prog 19 #[.agg #[.string s, .int .i64 x], .pointer (some ⟨q, 0, none⟩)] w fun e w' => e = .returned (.bool (x == h)) ∧ Below w.heap.size w w' := by
  have hq2 : (w.alloc (.cells #[.string s, .int .i64 x] 57)).cell? ⟨q, 0, none⟩ = some (.int .i64 h) := (((Below.refl w.heap.size w).alloc (Nat.le_refl _) _).cell (block_lt_of_cell hq)).trans hq
  clear hq
  go_enter Tryz.func19, Tryz.ntmps19
  go_wp2
  go_ret
  exact ⟨rfl, (Below.refl _ _).alloc (Nat.le_refl _) _⟩
set_option maxHeartbeats 1000000 in
theorem rtIndex_any (q : Nat) (h : Int) (a : Option Addr) (cap : Nat) (l : List (ByteArray × Int)) (w : World) (hs : Sls roC 2 w a cap l) (hq : w.cell? ⟨q, 0, none⟩ = some (.int .i64 h)) :
    Calls Tryz.prog 34 #[.slice a l.length cap, .func (.func 19) #[] #[.pointer (some ⟨q, 0, none⟩)]] w fun e w' => ∃ i : Int, e = .returned (.int .i64 i) ∧ decide (0 ≤ i) = l.any (fun r => r.2 == h) ∧ Below w.heap.size w w' := by
  have hl := hs.2.2.1
  have HS := hide hs
  have HQ := hide hq
  clear hs hq
  go_enter Tryz.func34, Tryz.ntmps34
  go_wp2
  go_loopw [5, 8] (fun _ iv wr => ∃ k : Nat, k ≤ l.length ∧ iv = .int .i64 k ∧ (l.take k).any (fun r => r.2 == h) = false ∧ Below w.heap.size w wr) (fun _ iv _ => l.length - (intOf iv).toNat)
  case atStart => exact ⟨0, Nat.zero_le _, rfl, rfl, Below.refl _ _⟩
  case round =>
    obtain ⟨k, hk, rfl, hall, hbel⟩ := hrel
    by_cases hlt : k < l.length
    · have hne : l ≠ [] := by intro e; rw [e] at hlt; simp at hlt
      obtain ⟨b1, o1, rfl, hc1⟩ := ((unhide HS).below hbel).2.2.2 hne
      obtain ⟨f, hf⟩ : ∃ f, l[k]? = some f := ⟨l[k], List.getElem?_eq_getElem hlt⟩
      obtain ⟨q0, q1⟩ := Sls.root (cap := 0) hc1 hf
      have hq := (hbel.cell (block_lt_of_cell (unhide HQ))).trans (unhide HQ)
      obtain ⟨s, x⟩ := f
      have HC := hide (free1_any q s x h wr hq)
      have htk : l.take (k + 1) = l.take k ++ [(s, x)] := by rw [List.take_add_one, hf]; rfl
      have HTK := hide htk
      have HALL := hide hall
      have HMEM := hide (List.mem_of_getElem? hf)
      have HBEL := hide hbel
      dsimp only at *
      clear hc1 hf hne hq hall hbel htk
      cases hx : (x == h)
      · have hnew : (l.take (k + 1)).any (fun r => r.2 == h) = false := by rw [unhide HTK, List.any_append, unhide HALL]; simp [hx]
        have HNEW := hide hnew
        rw [hx] at HC
        clear hnew hx
        go_wp2_with (go_at_call 19; refine (unhide HC).mono ?_; rintro e w1 ⟨rfl, hb1⟩; have HB1 := hide ((unhide HBEL).trans (hb1.mono (unhide HBEL).size)); clear hb1)
        go_roundw
        case rel => exact ⟨k + 1, by omega, by go_num, unhide HNEW, unhide HB1⟩
        case measure => simp [intOf]; omega
      · have hnew : l.any (fun r => r.2 == h) = true := List.any_eq_true.2 ⟨_, unhide HMEM, hx⟩
        have HNEW := hide hnew
        rw [hx] at HC
        clear hnew hx
        go_wp2_with (go_at_call 19; refine (unhide HC).mono ?_; rintro e w1 ⟨rfl, hb1⟩; have HB1 := hide ((unhide HBEL).trans (hb1.mono (unhide HBEL).size)); clear hb1)
        go_ret
        exact ⟨k, rfl, by rw [unhide HNEW]; exact decide_eq_true (by omega), unhide HB1⟩
    · obtain rfl : k = l.length := by omega
      rw [List.take_length] at hall
      have HALL := hide hall
      have HBEL := hide hbel
      clear hall hbel
      go_wp2
      go_ret
      exact ⟨-1, rfl, by rw [unhide HALL]; rfl, unhide HBEL⟩
theorem rtCont_any (q : Nat) (h : Int) (a : Option Addr) (cap : Nat) (l : List (ByteArray × Int)) (w : World) (hs : Sls roC 2 w a cap l) (hq : w.cell? ⟨q, 0, none⟩ = some (.int .i64 h)) :
    Calls Tryz.prog 18 #[.slice a l.length cap, .func (.func 19) #[] #[.pointer (some ⟨q, 0, none⟩)]] w fun e w' => e = .returned (.bool (l.any (fun r => r.2 == h))) ∧ Below w.heap.size w w' := by
  have HI := hide (rtIndex_any q h a cap l w hs hq)
  generalize l.any (fun r => r.2 == h) = R at *
  generalize l.length = N at *
  clear hs hq
  go_enter Tryz.func18, Tryz.ntmps18
  go_wp2_with fail
  refine (unhide HI).mono ?_
  rintro e w1 ⟨i, rfl, hi, hb1⟩
  have HB := hide hb1
  have HR := hide hi
  clear hb1 hi HI
  go_wp2
  go_ret
  exact ⟨by rw [← unhide HR]; rfl, unhide HB⟩
/-! ### Free -/
/-- Why an object is not freed. -/
def frE (L : List Int) (h : Int) : Int := if chkE L h ≠ 0 then chkE L h else if (rootsK L 8).any (fun r => r.2 == h) = true then 7 else 0
/-- The image behind a Free. -/
def frB (L : List Int) (h : Int) : List Int := if frE L h = 0 then dropL L h else L
theorem frE_zero {L : List Int} {h : Int} : frE L h = 0 ↔ chkE L h = 0 ∧ (rootsK L 8).any (fun r => r.2 == h) = false := by
  unfold frE
  by_cases h0 : chkE L h = 0
  · rw [if_neg (fun h => h h0)]
    cases h1 : (rootsK L 8).any (fun r => r.2 == h) with
    | true => rw [if_pos rfl]; exact ⟨fun h => absurd h (by decide), fun h => by cases h.2⟩
    | false => rw [if_neg (by simp)]; exact ⟨fun _ => ⟨h0, rfl⟩, fun _ => rfl⟩
  · rw [if_pos h0]
    exact ⟨fun h => absurd h h0, fun h => absurd h.1 h0⟩
theorem mem_rootsK8 {b : List Int} : ∀ {k i : Nat}, i < k → isRoot (rowAt b i) = true → rootOf (rowAt b i) ∈ rootsK b k
  | 0, i, h, _ => absurd h (Nat.not_lt_zero i)
  | k + 1, i, h, hr => by
    unfold rootsK
    by_cases e : i = k
    · subst e
      rw [if_pos hr]
      simp
    · exact List.mem_append.2 (.inl (mem_rootsK8 (by omega) hr))
theorem drop_ok {L : List Int} (hf : Fine L) {h : Int} (h0 : frE L h = 0) : Fine (dropL L h) := by
  obtain ⟨h1, h2⟩ := frE_zero.1 h0
  refine (drop_fine hf h1 (fun i hi hr e => ?_)).1
  have hm := mem_rootsK8 hi hr
  have := List.any_eq_false.1 h2 _ hm
  apply this
  rw [beq_iff_eq]
  exact e
theorem byt_drop {L : List Int} (hb : Byt L) (h : Int) : Byt (dropL L h) := by
  unfold dropL
  split
  · exact byt_splice hb (byt_zerosB 5)
  · exact fun z hz => (by cases hz)
set_option maxHeartbeats 1000000 in
theorem hFree_no (p g c B : Nat) (L : List Int) (h : Int) (w : World) (hh : Hp w B p g c L) (hc : chkE L h ≠ 0) :
    Calls Tryz.prog 7 #[.pointer (some ⟨p, 0, none⟩), .int .i64 h] w fun e w' => e = .returned (errV (chkE L h)) ∧ Below w.heap.size w w' := by
  have hB0 : Below w.heap.size w (w.alloc (.cells #[.int .i64 h] 3)) := (Below.refl _ _).alloc (Nat.le_refl _) _
  have hcl := (hh.below hB0).cell
  have hnew : (w.alloc (.cells #[.int .i64 h] 3)).cell? ⟨w.heap.size, 0, none⟩ = some (.int .i64 h) := by rw [cell_of_row _ _ _ _ _ _ (heap_alloc_new w _)]; rfl
  have hd := drop_any (some ⟨g, 0, none⟩) c L h (w.alloc (.cells #[.int .i64 h] 3)).drew (hh.bs.below (below_drew hB0))
  rw [errV_pos _ hc] at hd ⊢
  have HD : Hid (Calls Tryz.prog 16 #[.slice (some ⟨g, 0, none⟩) L.length c, .int .i64 h] (w.alloc (.cells #[.int .i64 h] 3)).drew fun e w' => ∃ a' c', e = .returned (.tuple #[.slice a' (dropL L h).length c', .iface 38 (.int .i64 (chkE L h))]) ∧ Below w.heap.size w w' ∧ w'.cell? ⟨p, 0, none⟩ = some (.slice (some ⟨g, 0, none⟩) L.length c) ∧ w'.cell? ⟨w.heap.size, 0, none⟩ = some (.int .i64 h)) := hide (hd.mono fun e w' ⟨a', c', he, hbs, hb⟩ => ⟨a', c', he, (below_drew hB0).trans (hb.mono (below_drew hB0).size), (hb.cell (p := ⟨p, 0, none⟩) (block_lt_of_cell hcl)).trans hcl, (hb.cell (p := ⟨w.heap.size, 0, none⟩) (block_lt_of_cell hnew)).trans hnew⟩)
  have hl := hh.len
  clear hh hc hd
  generalize (dropL L h).length = D at *
  generalize chkE L h = X at *
  generalize L.length = N at *
  go_enter Tryz.func7, Tryz.ntmps7
  go_wp2_with fail
  generalize w.alloc (.cells #[.int .i64 h] 3) = wx at *
  go_region_held3 (fun w' => w'.cell? ⟨p, 0, none⟩ = some (.slice (some ⟨g, 0, none⟩) N c) ∧ w'.cell? ⟨w.heap.size, 0, none⟩ = some (.int .i64 h)) (first | go_keep | (go_split_ands; refine ⟨?_, ?_⟩ <;> go_keep))
    ((go_at_call 16; refine (unhide HD).mono ?_; rintro e w1 ⟨a', c', rfl, hb1, r0, r1⟩))
  have HB := hide hb1
  clear hb1 HD
  go_wp2
  go_ret
  exact ⟨rfl, unhide HB⟩
set_option maxHeartbeats 2000000 in
theorem hFree_go (p g c B : Nat) (L : List Int) (h : Int) (w : World) (hh : Hp w B p g c L) (hB : B ≤ w.heap.size) (hc : chkE L h = 0) (R : Bool) (hR : (rootsK L 8).any (fun r => r.2 == h) = R) :
    Calls Tryz.prog 7 #[.pointer (some ⟨p, 0, none⟩), .int .i64 h] w fun e w' => e = .returned (errV (frE L h)) ∧ ∃ g' c', Hp w' B p g' c' (frB L h) ∧ Turn (foot p g) (foot p g') w w' := by
  have hB0 : Below w.heap.size w (w.alloc (.cells #[.int .i64 h] 3)) := (Below.refl _ _).alloc (Nat.le_refl _) _
  have hcl := (hh.below hB0).cell
  have hnew : (w.alloc (.cells #[.int .i64 h] 3)).cell? ⟨w.heap.size, 0, none⟩ = some (.int .i64 h) := by rw [cell_of_row _ _ _ _ _ _ (heap_alloc_new w _)]; rfl
  have hd := drop_row (some ⟨g, 0, none⟩) c L h (w.alloc (.cells #[.int .i64 h] 3)).drew (hh.bs.below (below_drew hB0)) hc
  obtain ⟨g1, g2, g3⟩ := chkE_zero.1 hc
  have g4 := hndB_iff.1 g2
  have hp5 := plc_le g4.1 g4.2
  have hlen := hh.len
  have hdl : (dropL L h).length = L.length := by
    unfold dropL
    rw [if_pos hc, length_splice (by rw [length_zerosB]; omega)]
  have hby := byt_drop hh.byt h
  have HD : Hid (Calls Tryz.prog 16 #[.slice (some ⟨g, 0, none⟩) L.length c, .int .i64 h] (w.alloc (.cells #[.int .i64 h] 3)).drew fun e w' => ∃ g' c' cur', e = .returned (.tuple #[.slice (some ⟨g', 0, none⟩) L.length c', .nilIface]) ∧ Row w' w.heap.size g' c' cur' (dropL L h) ∧ Below w.heap.size w w' ∧ w'.cell? ⟨p, 0, none⟩ = some (.slice (some ⟨g, 0, none⟩) L.length c) ∧ w'.cell? ⟨w.heap.size, 0, none⟩ = some (.int .i64 h)) := hide (hd.mono fun e w' ⟨g', c', cur', he, hr, hb⟩ => ⟨g', c', cur', by rw [he, hdl], hr.low (below_drew hB0).size, (below_drew hB0).trans (hb.mono (below_drew hB0).size), (hb.cell (p := ⟨p, 0, none⟩) (block_lt_of_cell hcl)).trans hcl, (hb.cell (p := ⟨w.heap.size, 0, none⟩) (block_lt_of_cell hnew)).trans hnew⟩)
  have HRT := hide (fun (W : World) (hW : Below w.heap.size w W) => iRoots_yes (some ⟨g, 0, none⟩) c L W (hh.bs.below hW) hh.fine.len0)
  have hrl := rootsK_len L 8
  have HCT := hide (fun (a : Option Addr) (cap : Nat) (W : World) (hs : Sls roC 2 W a cap (rootsK L 8)) (hq : W.cell? ⟨w.heap.size, 0, none⟩ = some (.int .i64 h)) => rtCont_any w.heap.size h a cap (rootsK L 8) W hs hq)
  rw [hR] at HCT
  have HFE : Hid (R = true → frE L h = 7 ∧ frB L h = L) := hide (fun e => by
    have e1 : frE L h = 7 := by unfold frE; rw [if_neg (fun h => h hc), if_pos (hR.trans e)]
    exact ⟨e1, by unfold frB; rw [e1]; rfl⟩)
  have HFN : Hid (R = false → frE L h = 0 ∧ frB L h = dropL L h ∧ Fine (dropL L h)) := hide (fun e => by
    have e1 : frE L h = 0 := frE_zero.2 ⟨hc, hR.trans e⟩
    exact ⟨e1, by unfold frB; rw [if_pos e1], drop_ok hh.fine e1⟩)
  have HH := hide hh
  have HBY := hide hby
  have HDL := hide hdl
  clear hh hc hd hby hdl hR g1 g2 g3 g4 hp5
  generalize frE L h = FE at *
  generalize frB L h = FB at *
  generalize dropL L h = DL at *
  generalize rootsK L 8 = RT at *
  generalize hN : L.length = N at *
  go_enter Tryz.func7, Tryz.ntmps7
  go_wp2_with fail
  generalize w.alloc (.cells #[.int .i64 h] 3) = wx at *
  go_region_held3 (fun w' => w'.cell? ⟨p, 0, none⟩ = some (.slice (some ⟨g, 0, none⟩) N c) ∧ w'.cell? ⟨w.heap.size, 0, none⟩ = some (.int .i64 h)) (first | go_keep | (go_split_ands; refine ⟨?_, ?_⟩ <;> go_keep))
    ((go_at_call 16; refine (unhide HD).mono ?_; rintro e w1 ⟨g', c', cur', rfl, hr1, hb1, r0, r1⟩))
  have HR1 := hide hr1
  have HRT1 := hide (unhide HRT w1 hb1)
  have HB1 := hide hb1
  have HQ1 := hide r1
  clear hb1 hr1 HD HRT hcl hnew hB0
  go_wp2_with fail
  refine (unhide HRT1).mono ?_
  rintro e w2 ⟨v2, rfl, hown2, hb2⟩
  obtain ⟨a2, c2, rfl, hsl2⟩ := hown2.sls roC_len (by omega)
  have hq2 := (hb2.cell (p := ⟨w.heap.size, 0, none⟩) (block_lt_of_cell (unhide HQ1))).trans (unhide HQ1)
  have HCT2 := hide (unhide HCT a2 c2 w2 hsl2 hq2)
  have HR2 := hide ((unhide HR1).below hb2)
  have HB2 := hide ((unhide HB1).trans (hb2.mono (unhide HB1).size))
  clear hown2 hsl2 hb2 hq2 HRT1 HR1 HB1 HQ1 r0 r1 HCT
  go_wp2_with fail
  refine (unhide HCT2).mono ?_
  rintro e w3 ⟨rfl, hb3⟩
  have hB3 := (unhide HB2).trans (hb3.mono (unhide HB2).size)
  have hr3 := (unhide HR2).below hb3
  cases R with
  | true =>
    have HB3 := hide hB3
    have HE1 := hide (unhide HFE rfl).1
    have HE2 := hide (unhide HFE rfl).2
    clear hb3 hr3 hB3 HCT2 HR2 HB2 HFE HFN
    go_wp2
    go_ret
    refine ⟨by rw [unhide HE1]; rfl, g, c, ?_, Turn.of_below (unhide HB3)⟩
    rw [unhide HE2]
    exact (unhide HH).below (unhide HB3)
  | false =>
    obtain ⟨e1, e2, e3⟩ := unhide HFN rfl
    have HSET := hide ((unhide HH).set hB3 hr3 (unhide HBY) e3 hB)
    rw [unhide HDL] at HSET
    have hcl3 := ((unhide HH).below hB3).cell
    rw [hN] at hcl3
    have hfr3 := ((unhide HH).below hB3).fr
    have HE1 := hide e1
    have HE2 := hide e2
    clear hb3 hr3 hB3 HCT2 HR2 HB2 HH HFE HFN e1 e2 e3
    go_wp2
    go_ret
    refine ⟨by rw [unhide HE1]; rfl, g', c', ?_⟩
    rw [unhide HE2]
    exact unhide HSET
theorem hFree_any (p g c B : Nat) (L : List Int) (h : Int) (w : World) (hh : Hp w B p g c L) (hB : B ≤ w.heap.size) :
    Calls Tryz.prog 7 #[.pointer (some ⟨p, 0, none⟩), .int .i64 h] w fun e w' => e = .returned (errV (frE L h)) ∧ ∃ g' c', Hp w' B p g' c' (frB L h) ∧ Turn (foot p g) (foot p g') w w' := by
  by_cases hc : chkE L h = 0
  · exact hFree_go p g c B L h w hh hB hc _ rfl
  · have e1 : frE L h = chkE L h := by unfold frE; rw [if_pos hc]
    have e2 : frB L h = L := by unfold frB; rw [e1, if_neg hc]
    rw [e1, e2]
    exact (hFree_no p g c B L h w hh hc).mono fun e w' ⟨he, hb⟩ => ⟨he, g, c, hh.below hb, Turn.of_below hb⟩
end Go.Proofs.YtcppejlcjooliaaGreatDoor
/-! What Alloc and Free answer on a heap that is filled with objects of one size; as plain lists. (Part of the proof of HeapFull.) -/
namespace Go.Proofs.YtcppejlcjooliaaGreatDoor
open Go.RowKit
set_option linter.unusedVariables false

theorem HF.alloc {L : List Int} {s i : Nat} (h : HF L s i) (hi : i < 40) (hs : 1 ≤ s) (hs2 : s ≤ 150) : alE L s 0 = 0 ∧ alH L s 0 = (i : Int) + 1 ∧ HF (alB L s 0) s (i + 1) := by
  have hlow := h.low (by omega)
  have hfit := h.fit hi hs hs2 (take_srt h.fine)
  have hm : (i : Int) * s ≤ 39 * 150 := by
    have h1 : (i : Int) * s ≤ 39 * (s : Int) := Int.mul_le_mul_of_nonneg_right (by omega) (by omega)
    omega
  have hE : fitE ((L.length : Int) - 288) (takeL L) s = 0 := by
    rw [fitE_fine h.fine (by omega) (by omega), hfit, if_neg (by show ¬ (6112 - (i : Int) * s = 0); omega)]
  have h0 : alE L s 0 = 0 := by
    unfold alE
    rw [if_neg (by omega), if_neg (by omega), hE]
  have hA : fitAt ((L.length : Int) - 288) (takeL L) s = (i : Int) * s := by
    rw [fitAt_fine h.fine (by omega) (by omega) hE, hfit]
  refine ⟨h0, ?_, ?_⟩
  · unfold alH
    rw [if_pos h0, hlow]
  · unfold alB
    rw [if_pos h0, hlow, hA, Int.toNat_natCast, show (288 + (i : Int) * s).toNat = 288 + i * s by omega]
    exact h.next hi hs hs2
theorem HF.full {L : List Int} {s : Nat} (h : HF L s 40) : alE L 1 0 = 4 ∧ alH L 1 0 = 0 ∧ alB L 1 0 = L := by
  have h0 : alE L 1 0 = 4 := by
    unfold alE
    rw [if_neg (by omega), if_pos (h.low (Nat.le_refl _))]
  refine ⟨h0, ?_, ?_⟩
  · unfold alH; rw [h0]; rfl
  · unfold alB; rw [h0]; rfl
theorem HF.back {L : List Int} {s : Nat} (h : HF L s 40) (hs : 1 ≤ s) (hs2 : s ≤ 150) {f : Nat} (f1 : 1 ≤ f) (f2 : f ≤ 40) :
    frE L f = 0 ∧ frB L f = dropL L f ∧ frE (dropL L f) f = 5 ∧ frB (dropL L f) f = dropL L f ∧ alE (dropL L f) s 3 = 0 ∧ alH (dropL L f) s 3 = f ∧ chkE (alB (dropL L f) s 3) f = 0 ∧ (getE (alB (dropL L f) s 3) f).2.2.2 = 3 := by
  obtain ⟨a1, a2, a3, a4, a5, a6⟩ := h.freed hs hs2 f1 f2
  have hr : rootsK L 8 = [] := rootsK_none (k := 0) 8 (by decide) (fun j _ hj => h.rows j hj)
  have b1 : frE L f = 0 := frE_zero.2 ⟨a1, by rw [hr]; rfl⟩
  have b3 : frE (dropL L f) f = 5 := by
    unfold frE
    rw [if_pos (by rw [a4]; decide), a4]
  have hfit := a6 _ (take_srt a2)
  have hE : fitE (((dropL L f).length : Int) - 288) (takeL (dropL L f)) s = 0 := by
    rw [fitE_fine a2 (by omega) (by omega), if_neg hfit]
  have c0 : alE (dropL L f) s 3 = 0 := by
    unfold alE
    rw [if_neg (by omega), if_neg (by omega), hE]
  obtain ⟨x, N, hk⟩ := al_ok a2 c0
  obtain ⟨k1, k2, k3, k4, k5, k6⟩ := hk.keep a2 c0
  have hlf : (lowH (dropL L f) : Int) + 1 = f := by omega
  rw [hlf] at k4 k5
  have hck : chkE (alB (dropL L f) s 3) f = 0 := chkE_zero.2 ⟨k1.len0, hndB_iff.2 ⟨by omega, by omega⟩, k5⟩
  refine ⟨b1, ?_, b3, ?_, c0, ?_, hck, ?_⟩
  · unfold frB; rw [if_pos b1]
  · unfold frB; rw [b3]; rfl
  · unfold alH; rw [if_pos c0, hlf]
  · unfold getE
    rw [if_pos hck, k4]
end Go.Proofs.YtcppejlcjooliaaGreatDoor
/-! The walk of HeapFull. (Part of the proof of HeapFull.) -/
namespace Go.Proofs.YtcppejlcjooliaaGreatDoor
open Go.RowKit
set_option linter.unusedVariables false

set_option maxRecDepth 100000 in
set_option maxHeartbeats 4000000 in
theorem walkHeapFull (x y : Int) (w : World) (hg : ErrT w) :
    Calls Tryz.prog 3 #[.int .i64 x, .int .i64 y] w fun e w' => e = .returned (.bool true) ∧ Below w.heap.size w w' := by
  have HN := hide (hNew_yes 6400 w (by decide))
  have HG := hide hg
  clear hg
  by_cases hx1 : x < 1
  · go_enter Tryz.func3, Tryz.ntmps3
    go_wp2_with fail
    refine (unhide HN).mono ?_
    rintro e w1 ⟨p, g, c, rfl, hh, hb⟩
    have HB := hide hb
    clear hh hb HN
    go_wp2
    go_ret
    exact ⟨rfl, unhide HB⟩
  by_cases hx2 : 150 < x
  · go_enter Tryz.func3, Tryz.ntmps3
    go_wp2_with fail
    refine (unhide HN).mono ?_
    rintro e w1 ⟨p, g, c, rfl, hh, hb⟩
    have HB := hide hb
    clear hh hb HN
    go_wp2
    go_ret
    exact ⟨rfl, unhide HB⟩
  obtain ⟨S, rfl⟩ := Int.eq_ofNat_of_zero_le (show 0 ≤ x by omega)
  have HS := hide (HF.start S)
  generalize zerosB 6400 = Z at *
  go_enter Tryz.func3, Tryz.ntmps3
  go_wp2_with fail
  refine (unhide HN).mono ?_
  rintro e w1 ⟨p, g, c, rfl, hh, hb⟩
  have HB := hide hb
  have HH := hide hh
  clear hh hb HN
  go_wp2_with fail
  go_loopw [7] (fun iv wr => ∃ (k g c : Nat) (L : List Int), k ≤ 40 ∧ iv = .int .i64 ((k : Int) + 1) ∧ Hp wr w.heap.size p g c L ∧ HF L S k ∧ Below w.heap.size w wr) (fun iv _ => 41 - (intOf iv).toNat)
  case atStart => exact ⟨0, g, c, Z, by omega, rfl, unhide HH, unhide HS, unhide HB⟩
  case round =>
    obtain ⟨k, g1, c1, L, hk, rfl, hh, hf, hbel⟩ := hrel
    by_cases hlt : k < 40
    · obtain ⟨e1, e2, e3⟩ := hf.alloc hlt (by omega) (by omega)
      have HA := hide (hAlloc_any p g1 c1 w.heap.size L S 0 wr hh hbel.size)
      rw [e1, e2, errV_zero] at HA
      have HF3 := hide e3
      have HBEL := hide hbel
      have HGE := hide hh.foot_ge
      clear hh hf hbel e1 e2 e3 HH HS HB
      generalize alB L S 0 = L2 at *
      go_wp2_with fail
      refine (unhide HA).mono ?_
      rintro e w2 ⟨rfl, g2, c2, hh2, ht2⟩
      have HH2 := hide hh2
      have HB2 := hide ((unhide HBEL).trans (ht2.below (unhide HGE) (unhide HBEL).size))
      clear hh2 ht2 HA HBEL HGE
      go_wp2
      go_roundw
      case rel => exact ⟨k + 1, g2, c2, L2, by omega, by go_num, unhide HH2, unhide HF3, unhide HB2⟩
      case measure => simp [intOf]; omega
    · obtain rfl : k = 40 := by omega
      obtain ⟨e1, e2, e3⟩ := hf.full
      have HA := hide (hAlloc_any p g1 c1 w.heap.size L 1 0 wr hh hbel.size)
      rw [e1, e2, e3, errV_pos 4 (by decide)] at HA
      have HE := hide (fun (W : World) (hW : Below w.heap.size w W) => error_same 4 W ((unhide HG).below hW))
      rw [errV_pos 4 (by decide)] at HE
      have HE5 := hide (fun (W : World) (hW : Below w.heap.size w W) => error_same 5 W ((unhide HG).below hW))
      rw [errV_pos 5 (by decide)] at HE5
      have HF3 := hide hf
      have HBEL := hide hbel
      have HGE := hide hh.foot_ge
      clear hh hf hbel e1 e2 e3 HH HS HB
      go_wp2_with fail
      refine (unhide HA).mono ?_
      rintro e w2 ⟨rfl, g2, c2, hh2, ht2⟩
      have hB2 := (unhide HBEL).trans (ht2.below (unhide HGE) (unhide HBEL).size)
      have HE2 := hide (unhide HE w2 hB2)
      have HH2 := hide hh2
      have HB2 := hide hB2
      clear hh2 ht2 HA HBEL HGE hB2 HE
      go_wp2_with fail
      refine (unhide HE2).mono ?_
      rintro e w3 ⟨rfl, hb3⟩
      have hB3 := (unhide HB2).trans (hb3.mono (unhide HB2).size)
      have hh3 := (unhide HH2).below hb3
      clear hb3 HE2 HB2 HH2
      by_cases hy1 : y < 1
      · have HB3 := hide hB3
        clear hB3 hh3
        go_wp2
        go_ret
        exact ⟨rfl, unhide HB3⟩
      by_cases hy2 : 40 < y
      · have HB3 := hide hB3
        clear hB3 hh3
        go_wp2
        go_ret
        exact ⟨rfl, unhide HB3⟩
      obtain ⟨F, rfl⟩ := Int.eq_ofNat_of_zero_le (show 0 ≤ y by omega)
      obtain ⟨a1, a2, a3, a4, a5, a6, a7, a8⟩ := (unhide HF3).back (by omega) (by omega) (f := F) (by omega) (by omega)
      have HF1 := hide (hFree_any p g2 c2 w.heap.size L F w3 hh3 hB3.size)
      rw [a1, a2, errV_zero] at HF1
      have HF2 := hide (fun (g c : Nat) (W : World) (hh : Hp W w.heap.size p g c (dropL L F)) (hW : Below w.heap.size w W) => hFree_any p g c w.heap.size (dropL L F) F W hh hW.size)
      rw [a3, a4, errV_pos 5 (by decide)] at HF2
      have HA2 := hide (fun (g c : Nat) (W : World) (hh : Hp W w.heap.size p g c (dropL L F)) (hW : Below w.heap.size w W) => hAlloc_any p g c w.heap.size (dropL L F) S 3 W hh hW.size)
      rw [a5, a6, errV_zero] at HA2
      have HT := hide (fun (g c : Nat) (W : World) (hh : Hp W w.heap.size p g c (alB (dropL L F) S 3)) => hTag_any p g c w.heap.size (alB (dropL L F) S 3) F W hh)
      rw [a7, a8, errV_zero] at HT
      have HGE := hide hh3.foot_ge
      have HB3 := hide hB3
      clear a1 a2 a3 a4 a5 a6 a7 a8 hh3 hB3 HF3
      generalize alB (dropL L F) S 3 = L4 at *
      generalize dropL L F = L3 at *
      go_wp2_with fail
      refine (unhide HF1).mono ?_
      rintro e w4 ⟨rfl, g4, c4, hh4, ht4⟩
      have hB4 := (unhide HB3).trans (ht4.below (unhide HGE) (unhide HB3).size)
      have HF4 := hide (unhide HF2 g4 c4 w4 hh4 hB4)
      have HGE4 := hide hh4.foot_ge
      have HB4 := hide hB4
      clear hh4 ht4 hB4 HF1 HF2 HB3 HGE
      go_wp2_with fail
      refine (unhide HF4).mono ?_
      rintro e w5 ⟨rfl, g5, c5, hh5, ht5⟩
      have hB5 := (unhide HB4).trans (ht5.below (unhide HGE4) (unhide HB4).size)
      have HE6 := hide (unhide HE5 w5 hB5)
      have HH5 := hide hh5
      have HB5 := hide hB5
      clear hh5 ht5 hB5 HF4 HE5 HB4 HGE4
      go_wp2_with fail
      refine (unhide HE6).mono ?_
      rintro e w6 ⟨rfl, hb6⟩
      have hB6 := (unhide HB5).trans (hb6.mono (unhide HB5).size)
      have hh6 := (unhide HH5).below hb6
      have HA6 := hide (unhide HA2 g5 c5 w6 hh6 hB6)
      have HGE6 := hide hh6.foot_ge
      have HB6 := hide hB6
      clear hh6 hb6 hB6 HE6 HA2 HB5 HH5
      go_wp2_with fail
      refine (unhide HA6).mono ?_
      rintro e w7 ⟨rfl, g7, c7, hh7, ht7⟩
      have hB7 := (unhide HB6).trans (ht7.below (unhide HGE6) (unhide HB6).size)
      have HT7 := hide (unhide HT g7 c7 w7 hh7)
      have HB7 := hide hB7
      clear hh7 ht7 hB7 HA6 HB6 HGE6 HT
      go_wp2_with fail
      refine (unhide HT7).mono ?_
      rintro e w8 ⟨rfl, hb8⟩
      have HB8 := hide ((unhide HB7).trans (hb8.mono (unhide HB7).size))
      clear hb8 HT7 HB7
      go_wp2
      go_ret
      exact ⟨rfl, unhide HB8⟩
end Go.Proofs.YtcppejlcjooliaaGreatDoor
