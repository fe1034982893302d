/-
  What is mended is right, and what was right in it is there as it was; plain lists. (Part of the proofs over package check.)
-/
import Derived.Test.YtcppejlcjooliaaGreatChPlain
namespace Go.Proofs.YtcppejlcjooliaaGreat
open Go.RowKit
set_option linter.unusedVariables false

section
variable {b : List Int}
theorem mendL_len (hb : 288 ≤ b.length) : (mendL b).length = b.length := wipes_len hb (fun f hf => faults_ok hf)
/-- Has a handle no fault? -/
theorem mend_out {j : Nat} (hb : 288 ≤ b.length) (h : ∀ f ∈ faults b, ¬ cov f j) : (mendL b).getD j 0 = b.getD j 0 := wipes_out hb (fun f hf => faults_ok hf) h
theorem mend_in {j : Nat} {f : Int × Int} (hb : 288 ≤ b.length) (hf : f ∈ faults b) (hc : cov f j) : (mendL b).getD j 0 = 0 := wipes_in hb (fun f hf => faults_ok hf) hf hc
theorem mend_zero {j : Nat} (hb : 288 ≤ b.length) (hz : b.getD j 0 = 0) : (mendL b).getD j 0 = 0 := wipes_zero hb (fun f hf => faults_ok hf) hz
/-- From Head on nothing is another. -/
theorem mend_body {j : Nat} (hb : 288 ≤ b.length) (hj : 288 ≤ j) : (mendL b).getD j 0 = b.getD j 0 := by
  refine mend_out hb (fun f hf hc => ?_)
  have := faults_ok hf
  rcases this with ⟨h1, h2, h3⟩ | ⟨h1, h2, h3⟩
  · have := plc_le h2 h3
    rcases hc with ⟨_, c1, c2⟩ | ⟨c0, _, _⟩ <;> omega
  · rcases hc with ⟨c0, _, _⟩ | ⟨_, c1, c2⟩ <;> omega
/-- The faults of a handle, among all. -/
theorem faults_hand {h : Int} {f : Int × Int} (h1 : 1 ≤ h) (h2 : h ≤ 40) (hf : f ∈ hFault b h) : f ∈ faults b := by
  unfold faults
  refine List.mem_append.2 (.inl (mem_hFK.2 ⟨(h - 1).toNat, by omega, ?_⟩))
  rw [show (((h - 1).toNat : Nat) : Int) + 1 = h by omega]
  exact hf
theorem faults_root {i : Nat} {f : Int × Int} (hi : i < 8) (hf : f ∈ rFault b i) : f ∈ faults b := by
  unfold faults
  exact List.mem_append.2 (.inr (mem_rFK.2 ⟨i, hi, hf⟩))
/-- Which faults cover a byte of a handle: those of that handle. -/
theorem cov_hand {h : Int} {f : Int × Int} {j : Nat} (h1 : 1 ≤ h) (h2 : h ≤ 40) (hf : f ∈ faults b) (hc : cov f (plc h + j)) (hj : j < 5) : f ∈ hFault b h := by
  have hp := plc_le h1 h2
  unfold faults at hf
  rcases List.mem_append.1 hf with hf | hf
  · obtain ⟨i, hi, hf⟩ := mem_hFK.1 hf
    have hm := hFault_mem hf
    rcases hc with ⟨_, c1, c2⟩ | ⟨c0, _, _⟩
    · rw [hm.1] at c1 c2
      have : ((i : Int) + 1) = h := by
        unfold plc at c1 c2
        omega
      rw [this] at hf
      exact hf
    · omega
  · obtain ⟨i, hi, hf⟩ := mem_rFK.1 hf
    have hm := rFault_mem hf
    rcases hc with ⟨c0, _, _⟩ | ⟨_, c1, c2⟩ <;> omega
theorem cov_root {i : Nat} {f : Int × Int} {j : Nat} (hi : i < 8) (hf : f ∈ faults b) (hc : cov f (200 + 11 * i + j)) (hj : j < 11) : f ∈ rFault b i := by
  unfold faults at hf
  rcases List.mem_append.1 hf with hf | hf
  · obtain ⟨k, hk, hf⟩ := mem_hFK.1 hf
    have hm := hFault_mem hf
    have hp := plc_le (h := (k : Int) + 1) (by omega) (by omega)
    rcases hc with ⟨_, c1, c2⟩ | ⟨c0, _, _⟩
    · rw [hm.1] at c2; omega
    · omega
  · obtain ⟨k, hk, hf⟩ := mem_rFK.1 hf
    have hm := rFault_mem hf
    rcases hc with ⟨c0, _, _⟩ | ⟨_, c1, c2⟩
    · omega
    · have : k = i := by omega
      subst this
      exact hf
theorem cov_of_hand {h : Int} {f : Int × Int} {j : Nat} (hf : f ∈ hFault b h) (hj : j < 5) : cov f (plc h + j) := by
  have hm := hFault_mem hf
  exact .inl ⟨hm.2.2, by rw [hm.1]; omega, by rw [hm.1]; omega⟩
theorem cov_of_root {i : Nat} {f : Int × Int} {j : Nat} (hf : f ∈ rFault b i) (hj : j < 11) : cov f (200 + 11 * i + j) := by
  have hm := rFault_mem hf
  exact .inr ⟨by omega, by omega, by omega⟩

/-! ### handles -/
theorem entOf_same {c : List Int} {h : Int} (hlen : c.length = b.length) (hb : 288 ≤ b.length) (h1 : 1 ≤ h) (h2 : h ≤ 40) (hs : ∀ j, j < 5 → c.getD (plc h + j) 0 = b.getD (plc h + j) 0) : tagAt c h = tagAt b h ∧ entOf c h = entOf b h := by
  have hp := plc_le h1 h2
  have e0 := hs 0 (by omega)
  rw [Nat.add_zero] at e0
  have ht : tagAt c h = tagAt b h := e0
  refine ⟨ht, ?_⟩
  unfold entOf
  rw [ht, getV_two _ _ (by omega), getV_two _ _ (by omega), getV_two b _ (by omega), getV_two b _ (by omega)]
  have e1 := hs 1 (by omega)
  have e2 := hs 2 (by omega)
  have e3 := hs 3 (by omega)
  have e4 := hs 4 (by omega)
  rw [e1, show plc h + 1 + 1 = plc h + 2 by omega, e2, e3, show plc h + 3 + 1 = plc h + 4 by omega, e4]
theorem mend_same {h : Int} (hb : 288 ≤ b.length) (h1 : 1 ≤ h) (h2 : h ≤ 40) (hn : hFault b h = []) : tagAt (mendL b) h = tagAt b h ∧ entOf (mendL b) h = entOf b h :=
  entOf_same (mendL_len hb) hb h1 h2 (fun j hj => mend_out hb (fun f hf hc => by
    have := cov_hand h1 h2 hf hc hj
    rw [hn] at this
    cases this))
theorem mend_gone {h : Int} (hb : 288 ≤ b.length) (h1 : 1 ≤ h) (h2 : h ≤ 40) (hn : hFault b h ≠ []) : ∀ j, j < 5 → (mendL b).getD (plc h + j) 0 = 0 := fun j hj => by
  obtain ⟨f, hf⟩ := List.exists_mem_of_ne_nil _ hn
  exact mend_in hb (faults_hand h1 h2 hf) (cov_of_hand hf hj)
theorem putE_same {c : List Int} {e : (Int × Int × Int × Int)} (hlen : c.length = b.length) : putE c e = putE b e := by unfold putE; rw [hlen]
/-- A handle that is one, and right, has no fault; and one with no fault that is one is right. -/
theorem wh_cases (b : List Int) (h : Int) : whE b h = 0 ∨ whE b h = 1 ∨ whE b h = 2 ∨ whE b h = 3 := by
  unfold whE
  repeat' split
  all_goals simp
theorem wh_zero {h : Int} : whE b h = 0 ↔ tagAt b h = 0 := by
  unfold whE
  by_cases h0 : tagAt b h = 0
  · rw [if_pos h0]; simp [h0]
  · rw [if_neg h0]
    constructor
    · intro h
      repeat' split at h
      all_goals cases h
    · intro h; exact absurd h h0
theorem hFault_nil {h : Int} : hFault b h = [] ↔ (whE b h = 1 ∨ (tagAt b h = 0 ∧ (entOf b h).2.1 = 0 ∧ (entOf b h).2.2.1 = 0)) := by
  unfold hFault
  rcases wh_cases b h with h0 | h0 | h0 | h0
  · rw [if_pos h0]
    have ht := wh_zero.1 h0
    by_cases h1 : (entOf b h).2.1 = 0 ∧ (entOf b h).2.2.1 = 0
    · rw [if_pos h1]; exact ⟨fun _ => .inr ⟨ht, h1⟩, fun _ => rfl⟩
    · rw [if_neg h1]
      constructor
      · intro h; cases h
      · rintro (h | h)
        · omega
        · exact absurd h.2 h1
  · rw [if_neg (by omega), if_neg (by omega), if_neg (by omega)]
    exact ⟨fun _ => .inl h0, fun _ => rfl⟩
  · rw [if_neg (by omega), if_neg (by omega), if_pos h0]
    have ht : tagAt b h ≠ 0 := fun e => by have := wh_zero.2 e; omega
    constructor
    · intro h; cases h
    · rintro (h | h)
      · omega
      · exact absurd h.1 ht
  · rw [if_neg (by omega), if_pos h0]
    have ht : tagAt b h ≠ 0 := fun e => by have := wh_zero.2 e; omega
    constructor
    · intro h; cases h
    · rintro (h | h)
      · omega
      · exact absurd h.1 ht
theorem wh_one {h : Int} : whE b h = 1 ↔ tagAt b h ≠ 0 ∧ putE b (entOf b h) = 0 ∧ lapK b h (h - 1).toNat = false := by
  unfold whE
  by_cases h0 : tagAt b h = 0
  · rw [if_pos h0]; simp [h0]
  · rw [if_neg h0]
    by_cases h1 : putE b (entOf b h) ≠ 0
    · rw [if_pos h1]
      constructor
      · intro h; cases h
      · rintro ⟨_, h, _⟩; exact absurd h h1
    · rw [if_neg h1]
      have h1' : putE b (entOf b h) = 0 := by simpa using h1
      by_cases h2 : lapK b h (h - 1).toNat = true
      · rw [if_pos h2]
        constructor
        · intro h; cases h
        · rintro ⟨_, _, h⟩; rw [h2] at h; cases h
      · rw [if_neg h2]
        exact ⟨fun _ => ⟨h0, h1', by simpa using h2⟩, fun _ => rfl⟩
/-- Right ones stay right. -/
theorem mend_right {h : Int} (hb : 288 ≤ b.length) (h1 : 1 ≤ h) (h2 : h ≤ 40) (hw : whE b h = 1) : whE (mendL b) h = 1 := by
  obtain ⟨q1, q2, q3⟩ := wh_one.1 hw
  obtain ⟨e1, e2⟩ := mend_same hb h1 h2 (hFault_nil.2 (.inl hw))
  refine wh_one.2 ⟨by rw [e1]; exact q1, by rw [e2, putE_same (mendL_len hb)]; exact q2, ?_⟩
  cases hl : lapK (mendL b) h (h - 1).toNat with
  | false => rfl
  | true =>
    exfalso
    obtain ⟨j, hj, ho, hlap⟩ := lapK_iff.1 hl
    have j1 : (1 : Int) ≤ (j : Int) + 1 := by omega
    have j2 : (j : Int) + 1 ≤ 40 := by omega
    unfold okE at ho
    rw [Bool.and_eq_true, decide_eq_true_iff, decide_eq_true_iff] at ho
    by_cases hn : hFault b ((j : Int) + 1) = []
    · obtain ⟨g1, g2⟩ := mend_same hb j1 j2 hn
      rw [g1, g2, putE_same (mendL_len hb)] at ho
      rw [e2, g2] at hlap
      have : lapK b h (h - 1).toNat = true := lapK_iff.2 ⟨j, hj, by unfold okE; rw [Bool.and_eq_true, decide_eq_true_iff, decide_eq_true_iff]; exact ho, hlap⟩
      rw [q3] at this
      cases this
    · have := mend_gone hb j1 j2 hn 0 (by omega)
      rw [Nat.add_zero] at this
      exact ho.1 this
theorem ent_zero {c : List Int} {h : Int} (hb : 288 ≤ c.length) (h1 : 1 ≤ h) (h2 : h ≤ 40) (hz : ∀ j, j < 5 → c.getD (plc h + j) 0 = 0) : tagAt c h = 0 ∧ (entOf c h).2.1 = 0 ∧ (entOf c h).2.2.1 = 0 := by
  have hp := plc_le h1 h2
  have e0 := hz 0 (by omega)
  rw [Nat.add_zero] at e0
  have e1 := hz 1 (by omega)
  have e2 := hz 2 (by omega)
  have e3 := hz 3 (by omega)
  have e4 := hz 4 (by omega)
  refine ⟨e0, ?_, ?_⟩
  · show getV c (plc h + 1) 2 = 0
    rw [getV_two _ _ (by omega), e1, show plc h + 1 + 1 = plc h + 2 by omega, e2]; rfl
  · show getV c (plc h + 3) 2 = 0
    rw [getV_two _ _ (by omega), e3, show plc h + 3 + 1 = plc h + 4 by omega, e4]; rfl
theorem mend_hand {h : Int} (hb : 288 ≤ b.length) (h1 : 1 ≤ h) (h2 : h ≤ 40) : hFault (mendL b) h = [] := by
  refine hFault_nil.2 ?_
  by_cases hn : hFault b h = []
  · rcases hFault_nil.1 hn with hw | ⟨q1, q2, q3⟩
    · exact .inl (mend_right hb h1 h2 hw)
    · obtain ⟨e1, e2⟩ := mend_same hb h1 h2 hn
      rw [e1, e2]
      exact .inr ⟨q1, q2, q3⟩
  · exact .inr (ent_zero (by rw [mendL_len hb]; exact hb) h1 h2 (mend_gone hb h1 h2 hn))

/-! ### roots -/
theorem row_same {i : Nat} (hb : 288 ≤ b.length) (hi : i < 8) (hn : rFault b i = []) : rowAt (mendL b) i = rowAt b i := by
  have hl := mendL_len hb
  apply ext_getD
  · rw [rowAt_len (by omega), rowAt_len (by omega)]
  · intro j hj
    rw [rowAt_len (by omega)] at hj
    rw [rowAt_getD hj, rowAt_getD hj]
    refine mend_out hb (fun f hf hc => ?_)
    have := cov_root hi hf hc hj
    rw [hn] at this
    cases this
theorem row_gone {i : Nat} (hb : 288 ≤ b.length) (hi : i < 8) (hn : rFault b i ≠ []) : isRoot (rowAt (mendL b) i) = false := by
  obtain ⟨f, hf⟩ := List.exists_mem_of_ne_nil _ hn
  have hl := mendL_len hb
  unfold isRoot
  rw [List.any_eq_false]
  intro x hx
  obtain ⟨j, hj, rfl⟩ := List.getElem_of_mem hx
  rw [rowAt_len (by omega)] at hj
  have e : (rowAt (mendL b) i).getD j 0 = 0 := by
    rw [rowAt_getD hj]
    exact mend_in hb (faults_root hi hf) (cov_of_root hf hj)
  rw [List.getD, List.getElem?_eq_getElem (by rw [rowAt_len (by omega)]; exact hj)] at e
  simp at e
  simp [e]
theorem badR_no {i : Nat} : badR b i = false ↔ (readOut ((rowAt b i).take 8)).2 = 0 ∧ (rowAt b i).getD 8 0 = 0 ∧ (rowAt b i).getD 9 0 = 0 ∧ hndB ((rowAt b i).getD 10 0) = true ∧ whE b ((rowAt b i).getD 10 0) = 1 := by
  unfold badR
  rw [Bool.or_eq_false_iff, Bool.or_eq_false_iff, Bool.or_eq_false_iff, Bool.or_eq_false_iff, decide_eq_false_iff_not, decide_eq_false_iff_not, decide_eq_false_iff_not, decide_eq_false_iff_not, Decidable.not_not, Decidable.not_not, Decidable.not_not, Decidable.not_not, Bool.not_eq_false']
theorem rFault_nil {i : Nat} : rFault b i = [] ↔ isRoot (rowAt b i) = false ∨ fineR b i (nmsK b i) = true := by
  unfold rFault fineR
  cases hr : isRoot (rowAt b i) with
  | false => simp
  | true =>
    rw [if_neg (by simp)]
    cases hq : badR b i with
    | true => simp
    | false =>
      rw [if_neg (by simp)]
      cases hc : (nmsK b i).contains (nameAt b i) with
      | true => simp
      | false => simp
/-- The names are the same, and none is faulty. -/
theorem mend_roots (hb : 288 ≤ b.length) : ∀ k, k ≤ 8 → nmsK (mendL b) k = nmsK b k ∧ ∀ i, i < k → rFault (mendL b) i = [] := by
  intro k
  induction k with
  | zero => intro _; exact ⟨by simp only [nmsK], fun i hi => absurd hi (Nat.not_lt_zero i)⟩
  | succ k ih =>
    intro hk
    obtain ⟨ih1, ih2⟩ := ih (by omega)
    have key : (fineR (mendL b) k (nmsK b k) = fineR b k (nmsK b k) ∧ (fineR b k (nmsK b k) = true → nameAt (mendL b) k = nameAt b k)) ∧ rFault (mendL b) k = [] := by
      by_cases hn : rFault b k = []
      · have hrow := row_same hb (by omega) hn
        rcases rFault_nil.1 hn with h0 | h0
        · have h1 : isRoot (rowAt (mendL b) k) = false := by rw [hrow]; exact h0
          have e1 : fineR (mendL b) k (nmsK b k) = false := by unfold fineR; rw [h1]; rfl
          have e2 : fineR b k (nmsK b k) = false := by unfold fineR; rw [h0]; rfl
          exact ⟨⟨by rw [e1, e2], fun h => by rw [e2] at h; cases h⟩, rFault_nil.2 (.inl h1)⟩
        · have hname : nameAt (mendL b) k = nameAt b k := by unfold nameAt; rw [hrow]
          have h0' := h0
          unfold fineR at h0'
          rw [Bool.and_eq_true, Bool.and_eq_true, Bool.not_eq_true', Bool.not_eq_true'] at h0'
          have hbad : badR (mendL b) k = false := by
            obtain ⟨q1, q2, q3, q4, q5⟩ := badR_no.1 h0'.2.1
            refine badR_no.2 ?_
            rw [hrow]
            have hh := hndB_iff.1 q4
            exact ⟨q1, q2, q3, q4, mend_right hb hh.1 hh.2 q5⟩
          have e1 : fineR (mendL b) k (nmsK b k) = true := by
            unfold fineR
            rw [hrow, hbad, hname, h0'.1, h0'.2.2]; rfl
          refine ⟨⟨by rw [e1, h0], fun _ => hname⟩, rFault_nil.2 (.inr (by rw [ih1]; exact e1))⟩
      · have h1 := row_gone hb (by omega : k < 8) hn
        have e1 : fineR (mendL b) k (nmsK b k) = false := by unfold fineR; rw [h1]; rfl
        have e2 : fineR b k (nmsK b k) = false := by
          cases h : fineR b k (nmsK b k) with
          | false => rfl
          | true => exact absurd (rFault_nil.2 (.inr h)) hn
        exact ⟨⟨by rw [e1, e2], fun h => by rw [e2] at h; cases h⟩, rFault_nil.2 (.inl h1)⟩
    refine ⟨?_, fun i hi => ?_⟩
    · simp only [nmsK]
      rw [ih1, key.1.1]
      by_cases hf : fineR b k (nmsK b k) = true
      · rw [if_pos hf, if_pos hf, key.1.2 hf]
      · rw [if_neg hf, if_neg hf]
    · by_cases e : i = k
      · subst e; exact key.2
      · exact ih2 i (by omega)
/-- What is mended is right. -/
theorem mend_faults (hb : 288 ≤ b.length) : faults (mendL b) = [] := by
  refine List.eq_nil_iff_forall_not_mem.2 (fun f hf => ?_)
  unfold faults at hf
  rcases List.mem_append.1 hf with hf | hf
  · obtain ⟨j, hj, hf⟩ := mem_hFK.1 hf
    rw [mend_hand hb (by omega) (by omega)] at hf
    cases hf
  · obtain ⟨j, hj, hf⟩ := mem_rFK.1 hf
    rw [(mend_roots hb 8 (by omega)).2 j hj] at hf
    cases hf
/-- Mended once more it stays. -/
theorem mend_right_same (h : faults b = []) : mendL b = b := by unfold mendL; rw [h]; rfl
theorem root_zero {i : Nat} (hb : 288 ≤ b.length) (hi : i < 8) (hz : ∀ j, j < 11 → b.getD (200 + 11 * i + j) 0 = 0) : isRoot (rowAt b i) = false := by
  unfold isRoot
  rw [List.any_eq_false]
  intro x hx
  obtain ⟨j, hj, rfl⟩ := List.getElem_of_mem hx
  have hj' := hj
  rw [rowAt_len (by omega)] at hj'
  have e : (rowAt b i).getD j 0 = 0 := by
    rw [rowAt_getD hj']
    exact hz j hj'
  rw [List.getD, List.getElem?_eq_getElem hj] at e
  simp at e
  simp [e]
/-- An image that has a fault is another one when it is mended. -/
theorem mend_other (hb : 288 ≤ b.length) (hf : faults b ≠ []) : mendL b ≠ b := by
  intro he
  obtain ⟨f, hm⟩ := List.exists_mem_of_ne_nil _ hf
  have hz : ∀ j, cov f j → b.getD j 0 = 0 := fun j hc => by
    have := mend_in hb hm hc
    rwa [he] at this
  have hm' := hm
  unfold faults at hm'
  rcases List.mem_append.1 hm' with hq | hq
  · obtain ⟨j, hj, hq⟩ := mem_hFK.1 hq
    have h0 := ent_zero hb (h := (j : Int) + 1) (by omega) (by omega) (fun i hi => hz _ (cov_of_hand hq hi))
    rw [hFault_nil.2 (.inr h0)] at hq
    cases hq
  · obtain ⟨j, hj, hq⟩ := mem_rFK.1 hq
    have h0 := root_zero hb hj (fun i hi => hz _ (cov_of_root hq hi))
    rw [rFault_nil.2 (.inl h0)] at hq
    cases hq
theorem mend_iff (hb : 288 ≤ b.length) : mendL b = b ↔ faults b = [] := by
  constructor
  · intro h
    by_cases hf : faults b = []
    · exact hf
    · exact absurd h (mend_other hb hf)
  · exact mend_right_same
/-- What had no fault is got as it was; what had one is none. -/
theorem mend_get {h : Int} (hb : 288 ≤ b.length) (h1 : 1 ≤ h) (h2 : h ≤ 40) (hn : hFault b h = []) : chkE (mendL b) h = chkE b h ∧ getE (mendL b) h = getE b h := by
  obtain ⟨e1, e2⟩ := mend_same hb h1 h2 hn
  have hc : chkE (mendL b) h = chkE b h := by unfold chkE; rw [e1, mendL_len hb]
  exact ⟨hc, by unfold getE; rw [hc, e2]⟩
theorem mend_none {h : Int} (hb : 288 ≤ b.length) (hb2 : b.length ≤ 6400) (h1 : 1 ≤ h) (h2 : h ≤ 40) (hn : hFault b h ≠ []) : chkE (mendL b) h = 5 := by
  have h0 := mend_gone hb h1 h2 hn 0 (by omega)
  rw [Nat.add_zero] at h0
  have ht : tagAt (mendL b) h = 0 := h0
  have hl : lenB (mendL b).length = true := lenB_iff.2 (by rw [mendL_len hb]; omega)
  have hh : hndB h = true := hndB_iff.2 ⟨h1, h2⟩
  unfold chkE
  rw [if_neg (by rw [hl]; simp), if_neg (by rw [hh]; simp), if_pos ht]
/-- Which handles are told: a fault of a handle, among all. -/
theorem told_hand {h : Int} (h1 : 1 ≤ h) (h2 : h ≤ 40) : (∃ f ∈ faults b, f.1 ≤ 3 ∧ f.2 = h) ↔ hFault b h ≠ [] := by
  constructor
  · rintro ⟨f, hf, q1, q2⟩ hn
    unfold faults at hf
    rcases List.mem_append.1 hf with hf | hf
    · obtain ⟨j, hj, hf⟩ := mem_hFK.1 hf
      have hm := hFault_mem hf
      have : (j : Int) + 1 = h := by omega
      rw [this, hn] at hf
      cases hf
    · obtain ⟨j, hj, hf⟩ := mem_rFK.1 hf
      have hm := rFault_mem hf
      omega
  · intro hn
    obtain ⟨f, hf⟩ := List.exists_mem_of_ne_nil _ hn
    have hm := hFault_mem hf
    exact ⟨f, faults_hand h1 h2 hf, hm.2.2, hm.1⟩
/-- From Head on all is as it was. -/
theorem mend_tail (hb : 288 ≤ b.length) : (mendL b).drop 288 = b.drop 288 := by
  have hl := mendL_len hb
  apply ext_getD
  · rw [List.length_drop, List.length_drop, hl]
  · intro j hj
    have := mend_body hb (j := 288 + j) (by omega)
    simpa [List.getD] using this
end
end Go.Proofs.YtcppejlcjooliaaGreat
