/-
  Parts of the proofs, joined by program.
-/
import Derived.Test.YtifmemombecoaaaGreatDoorJImp
namespace Go.Proofs.YtifmemombecoaaaGreatDoor
open Go.RowKit
set_option linter.unusedVariables false
def okE (b : List Int) (h : Int) : Bool := decide (tagAt b h ≠ 0) && decide (putE b (entOf b h) = 0)
def lapB (e f : (Int × Int × Int × Int)) : Bool := decide (e.2.1 < f.2.1 + f.2.2.1) && decide (f.2.1 < e.2.1 + e.2.2.1)
def lapK (b : List Int) (h : Int) : Nat -> Bool
 | 0 => false
 | k + 1 => lapK b h k || (okE b ((k : Int) + 1) && lapB (entOf b h) (entOf b ((k : Int) + 1)))
theorem lapK_iff {b : List Int} {h : Int} : ∀ {k : Nat}, lapK b h k = true ↔ ∃ j : Nat, j < k /\ okE b ((j : Int) + 1) = true /\ lapB (entOf b h) (entOf b ((j : Int) + 1)) = true
 | 0 => by simp [lapK]
 | k + 1 => by
  unfold lapK
  rw [Bool.or_eq_true, Bool.and_eq_true, lapK_iff]
  constructor
  ·rintro (⟨j, h1, h2⟩ | h2)
   ·exact ⟨j, by omega, h2⟩
   ·exact ⟨k, by omega, h2⟩
  ·rintro ⟨j, h1, h2⟩
   by_cases e : j = k
   ·subst e; exact .inr h2
   ·exact .inl ⟨j, by omega, h2⟩
def whE (b : List Int) (h : Int) : Int := if tagAt b h = 0 then 0 else if putE b (entOf b h) ≠ 0 then 3 else if lapK b h (h - 1).toNat = true then 2 else 1
def hFault (b : List Int) (h : Int) : List (Int × Int) :=
 if whE b h = 0 then (if (entOf b h).2.1 = 0 /\ (entOf b h).2.2.1 = 0 then [] else [(3, h)]) else if whE b h = 3 then [(1, h)] else if whE b h = 2 then [(2, h)] else []
def hFK (b : List Int) : Nat -> List (Int × Int)
 | 0 => []
 | k + 1 => hFK b k ++ hFault b ((k : Int) + 1)
def badR (b : List Int) (i : Nat) : Bool :=
 decide ((readOut ((rowAt b i).take 8)).2 ≠ 0) || (decide ((rowAt b i).getD 8 0 ≠ 0) || (decide ((rowAt b i).getD 9 0 ≠ 0) || (!hndB ((rowAt b i).getD 10 0) || decide (whE b ((rowAt b i).getD 10 0) ≠ 1))))
def nameAt (b : List Int) (i : Nat) : ByteArray := (readOut ((rowAt b i).take 8)).1
def fineR (b : List Int) (i : Nat) (ns : List ByteArray) : Bool := isRoot (rowAt b i) && (!badR b i && !ns.contains (nameAt b i))
def nmsK (b : List Int) : Nat -> List ByteArray
 | 0 => []
 | k + 1 => nmsK b k ++ if fineR b k (nmsK b k) = true then [nameAt b k] else []
def rFault (b : List Int) (i : Nat) : List (Int × Int) :=
 if isRoot (rowAt b i) = false then [] else if badR b i = true then [(4, i)] else if (nmsK b i).contains (nameAt b i) = true then [(5, i)] else []
def rFK (b : List Int) : Nat -> List (Int × Int)
 | 0 => []
 | k + 1 => rFK b k ++ rFault b k
def faults (b : List Int) : List (Int × Int) := hFK b 40 ++ rFK b 8
theorem mem_hFK {b : List Int} {f : Int × Int} : ∀ {k : Nat}, f ∈ hFK b k ↔ ∃ j : Nat, j < k /\ f ∈ hFault b ((j : Int) + 1)
 | 0 => by simp [hFK]
 | k + 1 => by
  unfold hFK
  rw [List.mem_append, mem_hFK]
  constructor
  ·rintro (⟨j, h1, h2⟩ | h2)
   ·exact ⟨j, by omega, h2⟩
   ·exact ⟨k, by omega, h2⟩
  ·rintro ⟨j, h1, h2⟩
   by_cases e : j = k
   ·subst e; exact .inr h2
   ·exact .inl ⟨j, by omega, h2⟩
theorem mem_rFK {b : List Int} {f : Int × Int} : ∀ {k : Nat}, f ∈ rFK b k ↔ ∃ j : Nat, j < k /\ f ∈ rFault b j
 | 0 => by simp [rFK]
 | k + 1 => by
  unfold rFK
  rw [List.mem_append, mem_rFK]
  constructor
  ·rintro (⟨j, h1, h2⟩ | h2)
   ·exact ⟨j, by omega, h2⟩
   ·exact ⟨k, by omega, h2⟩
  ·rintro ⟨j, h1, h2⟩
   by_cases e : j = k
   ·subst e; exact .inr h2
   ·exact .inl ⟨j, by omega, h2⟩
theorem hFault_mem {b : List Int} {h : Int} {f : Int × Int} (hf : f ∈ hFault b h) : f.2 = h /\ 1 <= f.1 /\ f.1 <= 3 := by
 unfold hFault at hf
 by_cases h0 : whE b h = 0
 ·rw [if_pos h0] at hf
  by_cases h1 : (entOf b h).2.1 = 0 /\ (entOf b h).2.2.1 = 0
  ·rw [if_pos h1] at hf; cases hf
  ·rw [if_neg h1] at hf
   rw [List.mem_singleton.1 hf]; exact ⟨rfl, by dsimp only; omega, by dsimp only; omega⟩
 ·rw [if_neg h0] at hf
  by_cases h3 : whE b h = 3
  ·rw [if_pos h3] at hf
   rw [List.mem_singleton.1 hf]; exact ⟨rfl, by dsimp only; omega, by dsimp only; omega⟩
  ·rw [if_neg h3] at hf
   by_cases h2 : whE b h = 2
   ·rw [if_pos h2] at hf
    rw [List.mem_singleton.1 hf]; exact ⟨rfl, by dsimp only; omega, by dsimp only; omega⟩
   ·rw [if_neg h2] at hf; cases hf
theorem rFault_mem {b : List Int} {i : Nat} {f : Int × Int} (hf : f ∈ rFault b i) : f.2 = i /\ 4 <= f.1 /\ f.1 <= 5 := by
 unfold rFault at hf
 by_cases h0 : isRoot (rowAt b i) = false
 ·rw [if_pos h0] at hf; cases hf
 ·rw [if_neg h0] at hf
  by_cases h3 : badR b i = true
  ·rw [if_pos h3] at hf
   rw [List.mem_singleton.1 hf]; exact ⟨rfl, by dsimp only; omega, by dsimp only; omega⟩
  ·rw [if_neg h3] at hf
   by_cases h2 : (nmsK b i).contains (nameAt b i) = true
   ·rw [if_pos h2] at hf
    rw [List.mem_singleton.1 hf]; exact ⟨rfl, by dsimp only; omega, by dsimp only; omega⟩
   ·rw [if_neg h2] at hf; cases hf
theorem hFault_len (b : List Int) (h : Int) : (hFault b h).length <= 1 := by
 unfold hFault
 repeat' split
 all_goals simp
theorem rFault_len (b : List Int) (i : Nat) : (rFault b i).length <= 1 := by
 unfold rFault
 repeat' split
 all_goals simp
theorem hFK_len (b : List Int) (k : Nat) : (hFK b k).length <= k := by
 induction k with
 | zero => exact Nat.le_refl _
 | succ k ih => unfold hFK; rw [List.length_append]; have := hFault_len b ((k : Int) + 1); omega
theorem rFK_len (b : List Int) (k : Nat) : (rFK b k).length <= k := by
 induction k with
 | zero => exact Nat.le_refl _
 | succ k ih => unfold rFK; rw [List.length_append]; have := rFault_len b k; omega
theorem nmsK_len (b : List Int) (k : Nat) : (nmsK b k).length <= k := by
 induction k with
 | zero => exact Nat.le_refl _
 | succ k ih => unfold nmsK; rw [List.length_append]; split <;> simp <;> omega
theorem faults_len (b : List Int) : (faults b).length <= 48 := by
 unfold faults
 rw [List.length_append]
 have := hFK_len b 40
 have := rFK_len b 8
 omega
def wipeF (b : List Int) (f : Int × Int) : List Int := if 3 < f.1 then splice b (200 + 11 * f.2.toNat) (zerosB 11) else splice b (plc f.2) (zerosB 5)
def wipes (b : List Int) (l : List (Int × Int)) : List Int := l.foldl wipeF b
def mendL (b : List Int) : List Int := wipes b (faults b)
def FaultOk (f : Int × Int) : Prop := (f.1 <= 3 /\ 1 <= f.2 /\ f.2 <= 40) \/ (3 < f.1 /\ 0 <= f.2 /\ f.2 <= 7)
def cov (f : Int × Int) (j : Nat) : Prop := (f.1 <= 3 /\ plc f.2 <= j /\ j < plc f.2 + 5) \/ (3 < f.1 /\ 200 + 11 * f.2.toNat <= j /\ j < 211 + 11 * f.2.toNat)
theorem faults_ok {b : List Int} {f : Int × Int} (hf : f ∈ faults b) : FaultOk f := by
 unfold faults at hf
 rcases List.mem_append.1 hf with hf | hf
 ·obtain ⟨j, hj, hf⟩ := mem_hFK.1 hf
  have := hFault_mem hf
  exact .inl (by omega)
 ·obtain ⟨j, hj, hf⟩ := mem_rFK.1 hf
  have := rFault_mem hf
  exact .inr (by omega)
theorem zeros_at (n j : Nat) : (zerosB n).getD j 0 = 0 := by
 have := zeros_getD n 0 j
 rwa [List.drop_zero] at this
theorem wipeF_len {b : List Int} {f : Int × Int} (hb : 288 <= b.length) (hf : FaultOk f) : (wipeF b f).length = b.length := by
 unfold wipeF
 rcases hf with ⟨h1, h2, h3⟩ | ⟨h1, h2, h3⟩
 ·rw [if_neg (by omega)]
  have := plc_le h2 h3
  exact length_splice (by rw [length_zerosB]; omega)
 ·rw [if_pos h1]
  exact length_splice (by rw [length_zerosB]; omega)
theorem wipeF_in {b : List Int} {f : Int × Int} {j : Nat} (hb : 288 <= b.length) (hf : FaultOk f) (hc : cov f j) : (wipeF b f).getD j 0 = 0 := by
 unfold wipeF
 rcases hf with ⟨h1, h2, h3⟩ | ⟨h1, h2, h3⟩
 ·rw [if_neg (by omega)]
  have hp := plc_le h2 h3
  rcases hc with ⟨_, c1, c2⟩ | ⟨c0, _, _⟩
  ·obtain ⟨i, rfl⟩ : ∃ i, j = plc f.2 + i := ⟨j - plc f.2, by omega⟩
   rw [splice_in (by rw [length_zerosB]; omega) (by rw [length_zerosB]; omega), zeros_at]
  ·omega
 ·rw [if_pos h1]
  rcases hc with ⟨c0, _, _⟩ | ⟨_, c1, c2⟩
  ·omega
  ·obtain ⟨i, rfl⟩ : ∃ i, j = 200 + 11 * f.2.toNat + i := ⟨j - (200 + 11 * f.2.toNat), by omega⟩
   rw [splice_in (by rw [length_zerosB]; omega) (by rw [length_zerosB]; omega), zeros_at]
theorem wipeF_out {b : List Int} {f : Int × Int} {j : Nat} (hb : 288 <= b.length) (hf : FaultOk f) (hc : ¬ cov f j) : (wipeF b f).getD j 0 = b.getD j 0 := by
 unfold wipeF
 unfold cov at hc
 rcases hf with ⟨h1, h2, h3⟩ | ⟨h1, h2, h3⟩
 ·rw [if_neg (by omega)]
  have hp := plc_le h2 h3
  exact splice_out (by rw [length_zerosB]; omega) (by rw [length_zerosB]; omega)
 ·rw [if_pos h1]
  exact splice_out (by rw [length_zerosB]; omega) (by rw [length_zerosB]; omega)
theorem wipes_len : ∀ {l : List (Int × Int)} {b : List Int}, 288 <= b.length -> (∀ f ∈ l, FaultOk f) -> (wipes b l).length = b.length
 | [], b, _, _ => rfl
 | f :: l, b, hb, h => by
  have h1 := wipeF_len hb (h f (by simp))
  show (wipes (wipeF b f) l).length = _
  rw [wipes_len (by omega) (fun g hg => h g (by simp [hg])), h1]
theorem wipes_out : ∀ {l : List (Int × Int)} {b : List Int} {j : Nat}, 288 <= b.length -> (∀ f ∈ l, FaultOk f) -> (∀ f ∈ l, ¬ cov f j) -> (wipes b l).getD j 0 = b.getD j 0
 | [], b, j, _, _, _ => rfl
 | f :: l, b, j, hb, h, hc => by
  have h1 := wipeF_len hb (h f (by simp))
  show (wipes (wipeF b f) l).getD j 0 = _
  rw [wipes_out (by omega) (fun g hg => h g (by simp [hg])) (fun g hg => hc g (by simp [hg])), wipeF_out hb (h f (by simp)) (hc f (by simp))]
theorem wipes_zero : ∀ {l : List (Int × Int)} {b : List Int} {j : Nat}, 288 <= b.length -> (∀ f ∈ l, FaultOk f) -> b.getD j 0 = 0 -> (wipes b l).getD j 0 = 0
 | [], b, j, _, _, hz => hz
 | f :: l, b, j, hb, h, hz => by
  have h1 := wipeF_len hb (h f (by simp))
  show (wipes (wipeF b f) l).getD j 0 = _
  refine wipes_zero (by omega) (fun g hg => h g (by simp [hg])) ?_
  by_cases hc : cov f j
  ·exact wipeF_in hb (h f (by simp)) hc
  ·rw [wipeF_out hb (h f (by simp)) hc]; exact hz
theorem wipes_in : ∀ {l : List (Int × Int)} {b : List Int} {j : Nat} {f : Int × Int}, 288 <= b.length -> (∀ f ∈ l, FaultOk f) -> f ∈ l -> cov f j -> (wipes b l).getD j 0 = 0
 | [], b, j, f, _, _, hf, _ => by cases hf
 | g :: l, b, j, f, hb, h, hf, hc => by
  have h1 := wipeF_len hb (h g (by simp))
  show (wipes (wipeF b g) l).getD j 0 = _
  rcases List.mem_cons.1 hf with rfl | hf
  ·exact wipes_zero (by omega) (fun g hg => h g (by simp [hg])) (wipeF_in hb (h f (by simp)) hc)
  ·exact wipes_in (by omega) (fun g hg => h g (by simp [hg])) hf hc
section
variable {b : List Int}
theorem mendL_len (hb : 288 <= b.length) : (mendL b).length = b.length := wipes_len hb (fun f hf => faults_ok hf)
theorem mend_out {j : Nat} (hb : 288 <= b.length) (h : ∀ f ∈ faults b, ¬ cov f j) : (mendL b).getD j 0 = b.getD j 0 := wipes_out hb (fun f hf => faults_ok hf) h
theorem mend_in {j : Nat} {f : Int × Int} (hb : 288 <= b.length) (hf : f ∈ faults b) (hc : cov f j) : (mendL b).getD j 0 = 0 := wipes_in hb (fun f hf => faults_ok hf) hf hc
theorem mend_zero {j : Nat} (hb : 288 <= b.length) (hz : b.getD j 0 = 0) : (mendL b).getD j 0 = 0 := wipes_zero hb (fun f hf => faults_ok hf) hz
theorem mend_body {j : Nat} (hb : 288 <= b.length) (hj : 288 <= j) : (mendL b).getD j 0 = b.getD j 0 := by
 refine mend_out hb (fun f hf hc => ?_)
 have := faults_ok hf
 rcases this with ⟨h1, h2, h3⟩ | ⟨h1, h2, h3⟩
 ·have := plc_le h2 h3
  rcases hc with ⟨_, c1, c2⟩ | ⟨c0, _, _⟩ <;> omega
 ·rcases hc with ⟨c0, _, _⟩ | ⟨_, c1, c2⟩ <;> omega
theorem faults_hand {h : Int} {f : Int × Int} (h1 : 1 <= h) (h2 : h <= 40) (hf : f ∈ hFault b h) : f ∈ faults b := by
 unfold faults
 refine List.mem_append.2 (.inl (mem_hFK.2 ⟨(h - 1).toNat, by omega, ?_⟩))
 rw [show (((h - 1).toNat : Nat) : Int) + 1 = h by omega]
 exact hf
theorem faults_root {i : Nat} {f : Int × Int} (hi : i < 8) (hf : f ∈ rFault b i) : f ∈ faults b := by
 unfold faults
 exact List.mem_append.2 (.inr (mem_rFK.2 ⟨i, hi, hf⟩))
theorem cov_hand {h : Int} {f : Int × Int} {j : Nat} (h1 : 1 <= h) (h2 : h <= 40) (hf : f ∈ faults b) (hc : cov f (plc h + j)) (hj : j < 5) : f ∈ hFault b h := by
 have hp := plc_le h1 h2
 unfold faults at hf
 rcases List.mem_append.1 hf with hf | hf
 ·obtain ⟨i, hi, hf⟩ := mem_hFK.1 hf
  have hm := hFault_mem hf
  rcases hc with ⟨_, c1, c2⟩ | ⟨c0, _, _⟩
  ·rw [hm.1] at c1 c2
   have : ((i : Int) + 1) = h := by
    unfold plc at c1 c2
    omega
   rw [this] at hf
   exact hf
  ·omega
 ·obtain ⟨i, hi, hf⟩ := mem_rFK.1 hf
  have hm := rFault_mem hf
  rcases hc with ⟨c0, _, _⟩ | ⟨_, c1, c2⟩ <;> omega
theorem cov_root {i : Nat} {f : Int × Int} {j : Nat} (hi : i < 8) (hf : f ∈ faults b) (hc : cov f (200 + 11 * i + j)) (hj : j < 11) : f ∈ rFault b i := by
 unfold faults at hf
 rcases List.mem_append.1 hf with hf | hf
 ·obtain ⟨k, hk, hf⟩ := mem_hFK.1 hf
  have hm := hFault_mem hf
  have hp := plc_le (h := (k : Int) + 1) (by omega) (by omega)
  rcases hc with ⟨_, c1, c2⟩ | ⟨c0, _, _⟩
  ·rw [hm.1] at c2; omega
  ·omega
 ·obtain ⟨k, hk, hf⟩ := mem_rFK.1 hf
  have hm := rFault_mem hf
  rcases hc with ⟨c0, _, _⟩ | ⟨_, c1, c2⟩
  ·omega
  ·have : k = i := by omega
   subst this
   exact hf
theorem cov_of_hand {h : Int} {f : Int × Int} {j : Nat} (hf : f ∈ hFault b h) (hj : j < 5) : cov f (plc h + j) := by
 have hm := hFault_mem hf
 exact .inl ⟨hm.2.2, by rw [hm.1]; omega, by rw [hm.1]; omega⟩
theorem cov_of_root {i : Nat} {f : Int × Int} {j : Nat} (hf : f ∈ rFault b i) (hj : j < 11) : cov f (200 + 11 * i + j) := by
 have hm := rFault_mem hf
 exact .inr ⟨by omega, by omega, by omega⟩
theorem entOf_same {c : List Int} {h : Int} (hlen : c.length = b.length) (hb : 288 <= b.length) (h1 : 1 <= h) (h2 : h <= 40) (hs : ∀ j, j < 5 -> c.getD (plc h + j) 0 = b.getD (plc h + j) 0) : tagAt c h = tagAt b h /\ entOf c h = entOf b h := by
 have hp := plc_le h1 h2
 have e0 := hs 0 (by omega)
 rw [Nat.add_zero] at e0
 have ht : tagAt c h = tagAt b h := e0
 refine ⟨ht, ?_⟩
 unfold entOf
 rw [ht, getV_two _ _ (by omega), getV_two _ _ (by omega), getV_two b _ (by omega), getV_two b _ (by omega)]
 have e1 := hs 1 (by omega)
 have e2 := hs 2 (by omega)
 have e3 := hs 3 (by omega)
 have e4 := hs 4 (by omega)
 rw [e1, show plc h + 1 + 1 = plc h + 2 by omega, e2, e3, show plc h + 3 + 1 = plc h + 4 by omega, e4]
theorem mend_same {h : Int} (hb : 288 <= b.length) (h1 : 1 <= h) (h2 : h <= 40) (hn : hFault b h = []) : tagAt (mendL b) h = tagAt b h /\ entOf (mendL b) h = entOf b h :=
 entOf_same (mendL_len hb) hb h1 h2 (fun j hj => mend_out hb (fun f hf hc => by
  have := cov_hand h1 h2 hf hc hj
  rw [hn] at this
  cases this))
theorem mend_gone {h : Int} (hb : 288 <= b.length) (h1 : 1 <= h) (h2 : h <= 40) (hn : hFault b h ≠ []) : ∀ j, j < 5 -> (mendL b).getD (plc h + j) 0 = 0 := fun j hj => by
 obtain ⟨f, hf⟩ := List.exists_mem_of_ne_nil _ hn
 exact mend_in hb (faults_hand h1 h2 hf) (cov_of_hand hf hj)
theorem putE_same {c : List Int} {e : (Int × Int × Int × Int)} (hlen : c.length = b.length) : putE c e = putE b e := by unfold putE; rw [hlen]
theorem wh_cases (b : List Int) (h : Int) : whE b h = 0 \/ whE b h = 1 \/ whE b h = 2 \/ whE b h = 3 := by
 unfold whE
 repeat' split
 all_goals simp
theorem wh_zero {h : Int} : whE b h = 0 ↔ tagAt b h = 0 := by
 unfold whE
 by_cases h0 : tagAt b h = 0
 ·rw [if_pos h0]; simp [h0]
 ·rw [if_neg h0]
  constructor
  ·intro h
   repeat' split at h
   all_goals cases h
  ·intro h; exact absurd h h0
theorem hFault_nil {h : Int} : hFault b h = [] ↔ (whE b h = 1 \/ (tagAt b h = 0 /\ (entOf b h).2.1 = 0 /\ (entOf b h).2.2.1 = 0)) := by
 unfold hFault
 rcases wh_cases b h with h0 | h0 | h0 | h0
 ·rw [if_pos h0]
  have ht := wh_zero.1 h0
  by_cases h1 : (entOf b h).2.1 = 0 /\ (entOf b h).2.2.1 = 0
  ·rw [if_pos h1]; exact ⟨fun _ => .inr ⟨ht, h1⟩, fun _ => rfl⟩
  ·rw [if_neg h1]
   constructor
   ·intro h; cases h
   ·rintro (h | h)
    ·omega
    ·exact absurd h.2 h1
 ·rw [if_neg (by omega), if_neg (by omega), if_neg (by omega)]
  exact ⟨fun _ => .inl h0, fun _ => rfl⟩
 ·rw [if_neg (by omega), if_neg (by omega), if_pos h0]
  have ht : tagAt b h ≠ 0 := fun e => by have := wh_zero.2 e; omega
  constructor
  ·intro h; cases h
  ·rintro (h | h)
   ·omega
   ·exact absurd h.1 ht
 ·rw [if_neg (by omega), if_pos h0]
  have ht : tagAt b h ≠ 0 := fun e => by have := wh_zero.2 e; omega
  constructor
  ·intro h; cases h
  ·rintro (h | h)
   ·omega
   ·exact absurd h.1 ht
theorem wh_one {h : Int} : whE b h = 1 ↔ tagAt b h ≠ 0 /\ putE b (entOf b h) = 0 /\ lapK b h (h - 1).toNat = false := by
 unfold whE
 by_cases h0 : tagAt b h = 0
 ·rw [if_pos h0]; simp [h0]
 ·rw [if_neg h0]
  by_cases h1 : putE b (entOf b h) ≠ 0
  ·rw [if_pos h1]
   constructor
   ·intro h; cases h
   ·rintro ⟨_, h, _⟩; exact absurd h h1
  ·rw [if_neg h1]
   have h1' : putE b (entOf b h) = 0 := by simpa using h1
   by_cases h2 : lapK b h (h - 1).toNat = true
   ·rw [if_pos h2]
    constructor
    ·intro h; cases h
    ·rintro ⟨_, _, h⟩; rw [h2] at h; cases h
   ·rw [if_neg h2]
    exact ⟨fun _ => ⟨h0, h1', by simpa using h2⟩, fun _ => rfl⟩
theorem mend_right {h : Int} (hb : 288 <= b.length) (h1 : 1 <= h) (h2 : h <= 40) (hw : whE b h = 1) : whE (mendL b) h = 1 := by
 obtain ⟨q1, q2, q3⟩ := wh_one.1 hw
 obtain ⟨e1, e2⟩ := mend_same hb h1 h2 (hFault_nil.2 (.inl hw))
 refine wh_one.2 ⟨by rw [e1]; exact q1, by rw [e2, putE_same (mendL_len hb)]; exact q2, ?_⟩
 cases hl : lapK (mendL b) h (h - 1).toNat with
 | false => rfl
 | true =>
  exfalso
  obtain ⟨j, hj, ho, hlap⟩ := lapK_iff.1 hl
  have j1 : (1 : Int) <= (j : Int) + 1 := by omega
  have j2 : (j : Int) + 1 <= 40 := by omega
  unfold okE at ho
  rw [Bool.and_eq_true, decide_eq_true_iff, decide_eq_true_iff] at ho
  by_cases hn : hFault b ((j : Int) + 1) = []
  ·obtain ⟨g1, g2⟩ := mend_same hb j1 j2 hn
   rw [g1, g2, putE_same (mendL_len hb)] at ho
   rw [e2, g2] at hlap
   have : lapK b h (h - 1).toNat = true := lapK_iff.2 ⟨j, hj, by unfold okE; rw [Bool.and_eq_true, decide_eq_true_iff, decide_eq_true_iff]; exact ho, hlap⟩
   rw [q3] at this
   cases this
  ·have := mend_gone hb j1 j2 hn 0 (by omega)
   rw [Nat.add_zero] at this
   exact ho.1 this
theorem ent_zero {c : List Int} {h : Int} (hb : 288 <= c.length) (h1 : 1 <= h) (h2 : h <= 40) (hz : ∀ j, j < 5 -> c.getD (plc h + j) 0 = 0) : tagAt c h = 0 /\ (entOf c h).2.1 = 0 /\ (entOf c h).2.2.1 = 0 := by
 have hp := plc_le h1 h2
 have e0 := hz 0 (by omega)
 rw [Nat.add_zero] at e0
 have e1 := hz 1 (by omega)
 have e2 := hz 2 (by omega)
 have e3 := hz 3 (by omega)
 have e4 := hz 4 (by omega)
 refine ⟨e0, ?_, ?_⟩
 ·show getV c (plc h + 1) 2 = 0
  rw [getV_two _ _ (by omega), e1, show plc h + 1 + 1 = plc h + 2 by omega, e2]; rfl
 ·show getV c (plc h + 3) 2 = 0
  rw [getV_two _ _ (by omega), e3, show plc h + 3 + 1 = plc h + 4 by omega, e4]; rfl
theorem mend_hand {h : Int} (hb : 288 <= b.length) (h1 : 1 <= h) (h2 : h <= 40) : hFault (mendL b) h = [] := by
 refine hFault_nil.2 ?_
 by_cases hn : hFault b h = []
 ·rcases hFault_nil.1 hn with hw | ⟨q1, q2, q3⟩
  ·exact .inl (mend_right hb h1 h2 hw)
  ·obtain ⟨e1, e2⟩ := mend_same hb h1 h2 hn
   rw [e1, e2]
   exact .inr ⟨q1, q2, q3⟩
 ·exact .inr (ent_zero (by rw [mendL_len hb]; exact hb) h1 h2 (mend_gone hb h1 h2 hn))
theorem row_same {i : Nat} (hb : 288 <= b.length) (hi : i < 8) (hn : rFault b i = []) : rowAt (mendL b) i = rowAt b i := by
 have hl := mendL_len hb
 apply ext_getD
 ·rw [rowAt_len (by omega), rowAt_len (by omega)]
 ·intro j hj
  rw [rowAt_len (by omega)] at hj
  rw [rowAt_getD hj, rowAt_getD hj]
  refine mend_out hb (fun f hf hc => ?_)
  have := cov_root hi hf hc hj
  rw [hn] at this
  cases this
theorem row_gone {i : Nat} (hb : 288 <= b.length) (hi : i < 8) (hn : rFault b i ≠ []) : isRoot (rowAt (mendL b) i) = false := by
 obtain ⟨f, hf⟩ := List.exists_mem_of_ne_nil _ hn
 have hl := mendL_len hb
 unfold isRoot
 rw [List.any_eq_false]
 intro x hx
 obtain ⟨j, hj, rfl⟩ := List.getElem_of_mem hx
 rw [rowAt_len (by omega)] at hj
 have e : (rowAt (mendL b) i).getD j 0 = 0 := by
  rw [rowAt_getD hj]
  exact mend_in hb (faults_root hi hf) (cov_of_root hf hj)
 rw [List.getD, List.getElem?_eq_getElem (by rw [rowAt_len (by omega)]; exact hj)] at e
 simp at e
 simp [e]
theorem badR_no {i : Nat} : badR b i = false ↔ (readOut ((rowAt b i).take 8)).2 = 0 /\ (rowAt b i).getD 8 0 = 0 /\ (rowAt b i).getD 9 0 = 0 /\ hndB ((rowAt b i).getD 10 0) = true /\ whE b ((rowAt b i).getD 10 0) = 1 := by
 unfold badR
 rw [Bool.or_eq_false_iff, Bool.or_eq_false_iff, Bool.or_eq_false_iff, Bool.or_eq_false_iff, decide_eq_false_iff_not, decide_eq_false_iff_not, decide_eq_false_iff_not, decide_eq_false_iff_not, Decidable.not_not, Decidable.not_not, Decidable.not_not, Decidable.not_not, Bool.not_eq_false']
theorem rFault_nil {i : Nat} : rFault b i = [] ↔ isRoot (rowAt b i) = false \/ fineR b i (nmsK b i) = true := by
 unfold rFault fineR
 cases hr : isRoot (rowAt b i) with
 | false => simp
 | true =>
  rw [if_neg (by simp)]
  cases hq : badR b i with
  | true => simp
  | false =>
   rw [if_neg (by simp)]
   cases hc : (nmsK b i).contains (nameAt b i) with
   | true => simp
   | false => simp
theorem mend_roots (hb : 288 <= b.length) : ∀ k, k <= 8 -> nmsK (mendL b) k = nmsK b k /\ ∀ i, i < k -> rFault (mendL b) i = [] := by
 intro k
 induction k with
 | zero => intro _; exact ⟨by simp only [nmsK], fun i hi => absurd hi (Nat.not_lt_zero i)⟩
 | succ k ih =>
  intro hk
  obtain ⟨ih1, ih2⟩ := ih (by omega)
  have key : (fineR (mendL b) k (nmsK b k) = fineR b k (nmsK b k) /\ (fineR b k (nmsK b k) = true -> nameAt (mendL b) k = nameAt b k)) /\ rFault (mendL b) k = [] := by
   by_cases hn : rFault b k = []
   ·have hrow := row_same hb (by omega) hn
    rcases rFault_nil.1 hn with h0 | h0
    ·have h1 : isRoot (rowAt (mendL b) k) = false := by rw [hrow]; exact h0
     have e1 : fineR (mendL b) k (nmsK b k) = false := by unfold fineR; rw [h1]; rfl
     have e2 : fineR b k (nmsK b k) = false := by unfold fineR; rw [h0]; rfl
     exact ⟨⟨by rw [e1, e2], fun h => by rw [e2] at h; cases h⟩, rFault_nil.2 (.inl h1)⟩
    ·have hname : nameAt (mendL b) k = nameAt b k := by unfold nameAt; rw [hrow]
     have h0' := h0
     unfold fineR at h0'
     rw [Bool.and_eq_true, Bool.and_eq_true, Bool.not_eq_true', Bool.not_eq_true'] at h0'
     have hbad : badR (mendL b) k = false := by
      obtain ⟨q1, q2, q3, q4, q5⟩ := badR_no.1 h0'.2.1
      refine badR_no.2 ?_
      rw [hrow]
      have hh := hndB_iff.1 q4
      exact ⟨q1, q2, q3, q4, mend_right hb hh.1 hh.2 q5⟩
     have e1 : fineR (mendL b) k (nmsK b k) = true := by
      unfold fineR
      rw [hrow, hbad, hname, h0'.1, h0'.2.2]; rfl
     refine ⟨⟨by rw [e1, h0], fun _ => hname⟩, rFault_nil.2 (.inr (by rw [ih1]; exact e1))⟩
   ·have h1 := row_gone hb (by omega : k < 8) hn
    have e1 : fineR (mendL b) k (nmsK b k) = false := by unfold fineR; rw [h1]; rfl
    have e2 : fineR b k (nmsK b k) = false := by
     cases h : fineR b k (nmsK b k) with
     | false => rfl
     | true => exact absurd (rFault_nil.2 (.inr h)) hn
    exact ⟨⟨by rw [e1, e2], fun h => by rw [e2] at h; cases h⟩, rFault_nil.2 (.inl h1)⟩
  refine ⟨?_, fun i hi => ?_⟩
  ·simp only [nmsK]
   rw [ih1, key.1.1]
   by_cases hf : fineR b k (nmsK b k) = true
   ·rw [if_pos hf, if_pos hf, key.1.2 hf]
   ·rw [if_neg hf, if_neg hf]
  ·by_cases e : i = k
   ·subst e; exact key.2
   ·exact ih2 i (by omega)
theorem mend_faults (hb : 288 <= b.length) : faults (mendL b) = [] := by
 refine List.eq_nil_iff_forall_not_mem.2 (fun f hf => ?_)
 unfold faults at hf
 rcases List.mem_append.1 hf with hf | hf
 ·obtain ⟨j, hj, hf⟩ := mem_hFK.1 hf
  rw [mend_hand hb (by omega) (by omega)] at hf
  cases hf
 ·obtain ⟨j, hj, hf⟩ := mem_rFK.1 hf
  rw [(mend_roots hb 8 (by omega)).2 j hj] at hf
  cases hf
theorem mend_right_same (h : faults b = []) : mendL b = b := by unfold mendL; rw [h]; rfl
theorem root_zero {i : Nat} (hb : 288 <= b.length) (hi : i < 8) (hz : ∀ j, j < 11 -> b.getD (200 + 11 * i + j) 0 = 0) : isRoot (rowAt b i) = false := by
 unfold isRoot
 rw [List.any_eq_false]
 intro x hx
 obtain ⟨j, hj, rfl⟩ := List.getElem_of_mem hx
 have hj' := hj
 rw [rowAt_len (by omega)] at hj'
 have e : (rowAt b i).getD j 0 = 0 := by
  rw [rowAt_getD hj']
  exact hz j hj'
 rw [List.getD, List.getElem?_eq_getElem hj] at e
 simp at e
 simp [e]
theorem mend_other (hb : 288 <= b.length) (hf : faults b ≠ []) : mendL b ≠ b := by
 intro he
 obtain ⟨f, hm⟩ := List.exists_mem_of_ne_nil _ hf
 have hz : ∀ j, cov f j -> b.getD j 0 = 0 := fun j hc => by
  have := mend_in hb hm hc
  rwa [he] at this
 have hm' := hm
 unfold faults at hm'
 rcases List.mem_append.1 hm' with hq | hq
 ·obtain ⟨j, hj, hq⟩ := mem_hFK.1 hq
  have h0 := ent_zero hb (h := (j : Int) + 1) (by omega) (by omega) (fun i hi => hz _ (cov_of_hand hq hi))
  rw [hFault_nil.2 (.inr h0)] at hq
  cases hq
 ·obtain ⟨j, hj, hq⟩ := mem_rFK.1 hq
  have h0 := root_zero hb hj (fun i hi => hz _ (cov_of_root hq hi))
  rw [rFault_nil.2 (.inl h0)] at hq
  cases hq
theorem mend_iff (hb : 288 <= b.length) : mendL b = b ↔ faults b = [] := by
 constructor
 ·intro h
  by_cases hf : faults b = []
  ·exact hf
  ·exact absurd h (mend_other hb hf)
 ·exact mend_right_same
theorem mend_get {h : Int} (hb : 288 <= b.length) (h1 : 1 <= h) (h2 : h <= 40) (hn : hFault b h = []) : chkE (mendL b) h = chkE b h /\ getE (mendL b) h = getE b h := by
 obtain ⟨e1, e2⟩ := mend_same hb h1 h2 hn
 have hc : chkE (mendL b) h = chkE b h := by unfold chkE; rw [e1, mendL_len hb]
 exact ⟨hc, by unfold getE; rw [hc, e2]⟩
theorem mend_none {h : Int} (hb : 288 <= b.length) (hb2 : b.length <= 6400) (h1 : 1 <= h) (h2 : h <= 40) (hn : hFault b h ≠ []) : chkE (mendL b) h = 5 := by
 have h0 := mend_gone hb h1 h2 hn 0 (by omega)
 rw [Nat.add_zero] at h0
 have ht : tagAt (mendL b) h = 0 := h0
 have hl : lenB (mendL b).length = true := lenB_iff.2 (by rw [mendL_len hb]; omega)
 have hh : hndB h = true := hndB_iff.2 ⟨h1, h2⟩
 unfold chkE
 rw [if_neg (by rw [hl]; simp), if_neg (by rw [hh]; simp), if_pos ht]
theorem told_hand {h : Int} (h1 : 1 <= h) (h2 : h <= 40) : (∃ f ∈ faults b, f.1 <= 3 /\ f.2 = h) ↔ hFault b h ≠ [] := by
 constructor
 ·rintro ⟨f, hf, q1, q2⟩ hn
  unfold faults at hf
  rcases List.mem_append.1 hf with hf | hf
  ·obtain ⟨j, hj, hf⟩ := mem_hFK.1 hf
   have hm := hFault_mem hf
   have : (j : Int) + 1 = h := by omega
   rw [this, hn] at hf
   cases hf
  ·obtain ⟨j, hj, hf⟩ := mem_rFK.1 hf
   have hm := rFault_mem hf
   omega
 ·intro hn
  obtain ⟨f, hf⟩ := List.exists_mem_of_ne_nil _ hn
  have hm := hFault_mem hf
  exact ⟨f, faults_hand h1 h2 hf, hm.2.2, hm.1⟩
theorem mend_tail (hb : 288 <= b.length) : (mendL b).drop 288 = b.drop 288 := by
 have hl := mendL_len hb
 apply ext_getD
 ·rw [List.length_drop, List.length_drop, hl]
 ·intro j hj
  have := mend_body hb (j := 288 + j) (by omega)
  simpa [List.getD] using this
end
def partL (b : List Int) (x n : Int) : List Int := (b.drop x.toNat).take n.toNat
def objE (b : List Int) (e : (Int × Int × Int × Int)) : Int × List Int := (e.2.2.2, partL b e.2.1 e.2.2.1)
def objOf (b : List Int) (h : Int) : Int × List Int := if tagAt b h = 0 then (-1, []) else objE b (entOf b h)
def objK (b : List Int) (k : Nat) : List (Int × Int × List Int) := (entsK b k).map fun e => (e.1, objE b e)
theorem mem_objK {b : List Int} {x : Int × Int × List Int} : ∀ {k : Nat}, x ∈ objK b k ↔ ∃ j : Nat, j < k /\ tagAt b ((j : Int) + 1) ≠ 0 /\ x = ((j : Int) + 1, objOf b ((j : Int) + 1))
 | 0 => by simp [objK, entsK]
 | k + 1 => by
  have ih := mem_objK (b := b) (x := x) (k := k)
  unfold objK at ih ⊢
  unfold entsK
  rw [List.map_append, List.mem_append, ih]
  by_cases ht : tagAt b ((k : Int) + 1) = 0
  ·rw [if_pos ht]
   constructor
   ·rintro (⟨j, h1, h2⟩ | h2)
    ·exact ⟨j, by omega, h2⟩
    ·cases h2
   ·rintro ⟨j, h1, h2, h3⟩
    by_cases e : j = k
    ·subst e; exact absurd ht h2
    ·exact .inl ⟨j, by omega, h2, h3⟩
  ·rw [if_neg ht]
   have ho : objOf b ((k : Int) + 1) = objE b (entOf b ((k : Int) + 1)) := by unfold objOf; rw [if_neg ht]
   have hx : (entOf b ((k : Int) + 1)).1 = (k : Int) + 1 := rfl
   constructor
   ·rintro (⟨j, h1, h2⟩ | h2)
    ·exact ⟨j, by omega, h2⟩
    ·refine ⟨k, by omega, ht, ?_⟩
     rw [List.map_cons, List.map_nil] at h2
     rw [List.mem_singleton.1 h2, ho, hx]
   ·rintro ⟨j, h1, h2, h3⟩
    by_cases e : j = k
    ·subst e
     refine .inr ?_
     rw [List.map_cons, List.map_nil, h3, ho, hx]
     exact List.mem_singleton.2 rfl
    ·exact .inl ⟨j, by omega, h2, h3⟩
def sameO (a b : List Int) : Nat -> Bool
 | 0 => true
 | k + 1 => sameO a b k && decide (objOf a ((k : Int) + 1) = objOf b ((k : Int) + 1))
theorem sameO_iff {a b : List Int} : ∀ {k : Nat}, sameO a b k = true ↔ ∀ j : Nat, j < k -> objOf a ((j : Int) + 1) = objOf b ((j : Int) + 1)
 | 0 => by simp [sameO]
 | k + 1 => by
  unfold sameO
  rw [Bool.and_eq_true, sameO_iff, decide_eq_true_iff]
  constructor
  ·rintro ⟨h1, h2⟩ j hj
   by_cases e : j = k
   ·subst e; exact h2
   ·exact h1 j (by omega)
  ·intro h
   exact ⟨fun j hj => h j (by omega), h k (by omega)⟩
theorem objOf_tag {b : List Int} {h : Int} (hb : Byt b) (ht : tagAt b h ≠ 0) : 0 <= (objOf b h).1 := by
 unfold objOf objE entOf
 rw [if_neg ht]
 have h1 : 0 <= tagAt b h /\ tagAt b h <= 255 := hb.getD (plc h)
 dsimp only
 omega
theorem objOf_none {b : List Int} {h : Int} (ht : tagAt b h = 0) : objOf b h = (-1, []) := by unfold objOf; rw [if_pos ht]
theorem objK_same {a b : List Int} (ha : Byt a) (hb : Byt b) (k : Nat) : objK a k = objK b k ↔ sameO a b k = true := by
 rw [sameO_iff]
 constructor
 ·intro h j hj
  by_cases h1 : tagAt a ((j : Int) + 1) = 0
  ·by_cases h2 : tagAt b ((j : Int) + 1) = 0
   ·rw [objOf_none h1, objOf_none h2]
   ·have hm : ((j : Int) + 1, objOf b ((j : Int) + 1)) ∈ objK b k := mem_objK.2 ⟨j, hj, h2, rfl⟩
    rw [<- h] at hm
    obtain ⟨i, hi, h3, h4⟩ := mem_objK.1 hm
    have : i = j := by have := congrArg Prod.fst h4; dsimp only at this; omega
    subst this
    exact absurd h1 h3
  ·have hm : ((j : Int) + 1, objOf a ((j : Int) + 1)) ∈ objK a k := mem_objK.2 ⟨j, hj, h1, rfl⟩
   rw [h] at hm
   obtain ⟨i, hi, h3, h4⟩ := mem_objK.1 hm
   have : i = j := by have := congrArg Prod.fst h4; dsimp only at this; omega
   subst this
   exact congrArg Prod.snd h4
 ·intro h
  induction k with
  | zero => rfl
  | succ k ih =>
   have hk := h k (by omega)
   have hi := ih (fun j hj => h j (by omega))
   unfold objK at hi ⊢
   unfold entsK
   rw [List.map_append, List.map_append, hi]
   congr 1
   by_cases h1 : tagAt a ((k : Int) + 1) = 0
   ·have h2 : tagAt b ((k : Int) + 1) = 0 := by
     refine Classical.byContradiction fun h2 => ?_
     have := objOf_tag hb h2
     rw [<- hk, objOf_none h1] at this
     dsimp only at this
     omega
    rw [if_pos h1, if_pos h2]
    rfl
   ·have h2 : ¬ tagAt b ((k : Int) + 1) = 0 := by
     intro h2
     have := objOf_tag ha h1
     rw [hk, objOf_none h2] at this
     dsimp only at this
     omega
    rw [if_neg h1, if_neg h2]
    unfold objOf at hk
    rw [if_neg h1, if_neg h2] at hk
    rw [List.map_cons, List.map_nil, List.map_cons, List.map_nil, hk]
    rfl
def eqEnt (a b : List Int) (x y : (Int × Int × Int × Int)) : Bool := decide (x.1 = y.1) && (decide (x.2.2.2 = y.2.2.2) && decide (partL a x.2.1 x.2.2.1 = partL b y.2.1 y.2.2.1))
theorem eqEnt_iff {a b : List Int} {x y : (Int × Int × Int × Int)} : eqEnt a b x y = true ↔ (x.1, objE a x) = (y.1, objE b y) := by
 unfold eqEnt objE
 rw [Bool.and_eq_true, Bool.and_eq_true, decide_eq_true_iff, decide_eq_true_iff, decide_eq_true_iff]
 simp only [Prod.mk.injEq]
def eqAll {α β : Type} (f : α -> β -> Bool) : List α -> List β -> Bool
 | [], [] => true
 | x :: l, y :: m => f x y && eqAll f l m
 | _, _ => false
theorem eqAll_map {α β γ : Type} {f : α -> β -> Bool} {p : α -> γ} {q : β -> γ} (h : ∀ x y, f x y = true ↔ p x = q y) : ∀ {l : List α} {m : List β}, eqAll f l m = true ↔ l.map p = m.map q
 | [], [] => by simp [eqAll]
 | [], y :: m => by simp [eqAll]
 | x :: l, [] => by simp [eqAll]
 | x :: l, y :: m => by
  unfold eqAll
  rw [Bool.and_eq_true, h, eqAll_map h, List.map_cons, List.map_cons, List.cons.injEq]
theorem eqAll_objs {a b : List Int} (ha : Byt a) (hb : Byt b) : eqAll (eqEnt a b) (entsK a 40) (entsK b 40) = sameO a b 40 := by
 have h1 := eqAll_map (f := eqEnt a b) (p := fun e => (e.1, objE a e)) (q := fun e => (e.1, objE b e)) (fun x y => eqEnt_iff) (l := entsK a 40) (m := entsK b 40)
 have h2 := objK_same ha hb 40
 unfold objK at h2
 rw [h2] at h1
 cases h3 : eqAll (eqEnt a b) (entsK a 40) (entsK b 40) <;> cases h4 : sameO a b 40
 ·rfl
 ·rw [h3, h4] at h1; simp at h1
 ·rw [h3, h4] at h1; simp at h1
 ·rfl
theorem ba_beq {a b : ByteArray} : (a == b) = true ↔ a = b := by
 cases a with | mk x => cases b with | mk y =>
 constructor
 ·intro h
  have h' : (x == y) = true := h
  rw [eq_of_beq h']
 ·intro h
  injection h with h
  subst h
  show (x == x) = true
  exact beq_self_eq_true x
theorem ba_lawful : LawfulBEq ByteArray := { eq_of_beq := fun h => ba_beq.1 h, rfl := ba_beq.2 rfl }
def leadOf (l : List (ByteArray × Int)) (s : ByteArray) : Int := ((l.find? (fun r => r.1 == s)).map (·.2)).getD 0
def sameR (l m : List (ByteArray × Int)) : Bool := l.all (fun r => leadOf m r.1 == r.2) && decide (l.length = m.length)
structure Apart (l : List (ByteArray × Int)) : Prop where
 nodup : (l.map (·.1)).Nodup
 pos : ∀ r ∈ l, 1 <= r.2 /\ r.2 <= 40
theorem apart_roots {b : List Int} (hf : faults b = []) : Apart (rootsK b 8) := by
 have hn : ∀ i, i < 8 -> rFault b i = [] := fun i hi => by
  refine Classical.byContradiction fun h => ?_
  obtain ⟨f, hm⟩ := List.exists_mem_of_ne_nil _ h
  have := faults_root hi hm
  rw [hf] at this
  cases this
 have hk : ∀ k, k <= 8 -> nmsK b k = (rootsK b k).map (·.1) /\ (nmsK b k).Nodup /\ ∀ r ∈ rootsK b k, 1 <= r.2 /\ r.2 <= 40 := by
  intro k
  induction k with
  | zero => intro _; exact ⟨rfl, List.nodup_nil, fun r hr => by cases hr⟩
  | succ k ih =>
   intro hk
   obtain ⟨h1, h2, h3⟩ := ih (by omega)
   rcases rFault_nil.1 (hn k (by omega)) with h | h
   ·have e1 : nmsK b (k + 1) = nmsK b k := by
     show nmsK b k ++ _ = _
     have : fineR b k (nmsK b k) = false := by unfold fineR; rw [h, Bool.false_and]
     rw [this, if_neg (by simp), List.append_nil]
    have e2 : rootsK b (k + 1) = rootsK b k := by
     show rootsK b k ++ _ = _
     rw [h, if_neg (by simp), List.append_nil]
    rw [e1, e2]
    exact ⟨h1, h2, h3⟩
   ·have e1 : nmsK b (k + 1) = nmsK b k ++ [nameAt b k] := by
     show nmsK b k ++ _ = _
     rw [if_pos h]
    have hfi := h
    unfold fineR at hfi
    rw [Bool.and_eq_true, Bool.and_eq_true] at hfi
    obtain ⟨f1, f2, f3⟩ := hfi
    have e2 : rootsK b (k + 1) = rootsK b k ++ [rootOf (rowAt b k)] := by
     show rootsK b k ++ _ = _
     rw [f1, if_pos rfl]
    have f2' : badR b k = false := by simpa using f2
    have f3' : nameAt b k ∉ nmsK b k := by
     intro hm
     haveI := ba_lawful
     rw [List.contains_iff_mem.2 hm] at f3
     cases f3
    obtain ⟨_, _, _, g4, _⟩ := badR_no.1 f2'
    have g4' := hndB_iff.1 g4
    refine ⟨?_, ?_, ?_⟩
    ·rw [e1, e2, List.map_append, h1]; rfl
    ·rw [e1, List.nodup_append]
     exact ⟨h2, by simp, fun x hx y hy e => by rw [List.mem_singleton.1 hy] at e; subst e; exact f3' hx⟩
    ·rw [e2]
     intro r hr
     rcases List.mem_append.1 hr with hr | hr
     ·exact h3 r hr
     ·rw [List.mem_singleton.1 hr]; exact g4'
 obtain ⟨h1, h2, h3⟩ := hk 8 (Nat.le_refl _)
 exact ⟨by rw [<- h1]; exact h2, h3⟩
theorem lead_mem {m : List (ByteArray × Int)} (hm : Apart m) {s : ByteArray} {h : Int} (hh : 1 <= h) : leadOf m s = h ↔ (s, h) ∈ m := by
 unfold leadOf
 constructor
 ·intro e
  cases hf : m.find? (fun r => r.1 == s) with
  | none => rw [hf] at e; simp at e; omega
  | some r =>
   rw [hf] at e
   have h1 := List.mem_of_find?_eq_some hf
   have h2 := List.find?_some hf
   have e' : r.2 = h := e
   have h2' : r.1 = s := ba_beq.1 h2
   have : r = (s, h) := Prod.ext h2' e'
   rw [<- this]; exact h1
 ·intro hmem
  cases hf : m.find? (fun r => r.1 == s) with
  | none =>
   exact absurd (ba_beq.2 rfl) (List.find?_eq_none.1 hf (s, h) hmem)
  | some r =>
   have h1 := List.mem_of_find?_eq_some hf
   have h2 : r.1 = s := ba_beq.1 (List.find?_some (p := fun (r : (ByteArray × Int)) => r.1 == s) hf)
   have : r = (s, h) := by
    have hinj : ∀ (l : List (ByteArray × Int)), (l.map (·.1)).Nodup -> ∀ x ∈ l, ∀ y ∈ l, x.1 = y.1 -> x = y := by
     intro l
     induction l with
     | nil => intro _ x hx; cases hx
     | cons z l ih =>
      intro hn x hx y hy e
      rw [List.map_cons, List.nodup_cons] at hn
      rcases List.mem_cons.1 hx with hx | hx <;> rcases List.mem_cons.1 hy with hy | hy
      ·rw [hx, hy]
      ·exact absurd (List.mem_map.2 ⟨y, hy, by rw [<- e, hx]⟩) hn.1
      ·exact absurd (List.mem_map.2 ⟨x, hx, by rw [e, hy]⟩) hn.1
      ·exact ih hn.2 x hx y hy e
    exact hinj m hm.nodup r h1 (s, h) hmem h2
   rw [this]
   rfl
theorem sameR_iff {l m : List (ByteArray × Int)} (hl : Apart l) (hm : Apart m) : sameR l m = true ↔ l.length = m.length /\ ∀ r ∈ l, r ∈ m := by
 unfold sameR
 rw [Bool.and_eq_true, decide_eq_true_iff, List.all_eq_true]
 constructor
 ·rintro ⟨h1, h2⟩
  refine ⟨h2, fun r hr => ?_⟩
  have := (lead_mem hm (hl.pos r hr).1).1 (by simpa using h1 r hr)
  exact this
 ·rintro ⟨h1, h2⟩
  refine ⟨fun r hr => ?_, h1⟩
  have := (lead_mem hm (s := r.1) (hl.pos r hr).1).2 (h2 r hr)
  simpa using this
def fineE (b : List Int) : Int := if lenB b.length = false then 3 else if faults b = [] then 0 else 6
def sameE (a b : List Int) : Int := if lenB a.length = false then 3 else if lenB b.length = false then 3 else if faults a = [] /\ faults b = [] then 0 else 6
def sameB (a b : List Int) : Bool := sameE a b == 0 && (sameO a b 40 && sameR (rootsK a 8) (rootsK b 8))
theorem faults_iff {b : List Int} : faults b = [] ↔ (∀ h, 1 <= h -> h <= 40 -> hFault b h = []) /\ ∀ i, i < 8 -> rFault b i = [] := by
 constructor
 ·intro hf
  refine ⟨fun h h1 h2 => ?_, fun i hi => ?_⟩
  ·refine List.eq_nil_iff_forall_not_mem.2 (fun f hm => ?_)
   have := faults_hand h1 h2 hm
   rw [hf] at this
   cases this
  ·refine List.eq_nil_iff_forall_not_mem.2 (fun f hm => ?_)
   have := faults_root hi hm
   rw [hf] at this
   cases this
 ·rintro ⟨h1, h2⟩
  refine List.eq_nil_iff_forall_not_mem.2 (fun f hf => ?_)
  unfold faults at hf
  rcases List.mem_append.1 hf with hf | hf
  ·obtain ⟨j, hj, hf⟩ := mem_hFK.1 hf
   rw [h1 _ (by omega) (by omega)] at hf
   cases hf
  ·obtain ⟨j, hj, hf⟩ := mem_rFK.1 hf
   rw [h2 j hj] at hf
   cases hf
section
variable {b c : List Int}
theorem wh_same (hlen : c.length = b.length) (hs : ∀ h, 1 <= h -> h <= 40 -> tagAt c h = tagAt b h /\ entOf c h = entOf b h) : ∀ h, 1 <= h -> h <= 40 -> whE c h = whE b h := by
 intro h h1 h2
 have hok : ∀ j : Nat, j < 40 -> okE c ((j : Int) + 1) = okE b ((j : Int) + 1) := fun j hj => by
  obtain ⟨e1, e2⟩ := hs ((j : Int) + 1) (by omega) (by omega)
  unfold okE
  rw [e1, e2, putE_same hlen]
 have hlap : ∀ k : Nat, k <= 40 -> lapK c h k = lapK b h k := by
  intro k
  induction k with
  | zero => intro _; rfl
  | succ k ih =>
   intro hk
   unfold lapK
   rw [ih (by omega), hok k (by omega), (hs h h1 h2).2, (hs ((k : Int) + 1) (by omega) (by omega)).2]
 unfold whE
 rw [(hs h h1 h2).1, (hs h h1 h2).2, putE_same hlen, hlap _ (by omega)]
theorem head_ents (hlen : c.length = b.length) (hb : 288 <= b.length) (hs : ∀ j, j < 288 -> c.getD j 0 = b.getD j 0) : ∀ h, 1 <= h -> h <= 40 -> tagAt c h = tagAt b h /\ entOf c h = entOf b h := fun h h1 h2 =>
 entOf_same hlen hb h1 h2 (fun j hj => hs _ (by have := plc_le h1 h2; omega))
theorem head_rows (hlen : c.length = b.length) (hb : 288 <= b.length) (hs : ∀ j, j < 288 -> c.getD j 0 = b.getD j 0) : ∀ i, i < 8 -> rowAt c i = rowAt b i := fun i hi => by
 apply ext_getD
 ·rw [rowAt_len (by omega), rowAt_len (by omega)]
 ·intro j hj
  rw [rowAt_len (by omega)] at hj
  rw [rowAt_getD hj, rowAt_getD hj]
  exact hs _ (by omega)
theorem roots_keep (hrow : ∀ i, i < 8 -> rowAt c i = rowAt b i) (hw : ∀ i, i < 8 -> hndB ((rowAt b i).getD 10 0) = true -> isRoot (rowAt b i) = true -> whE b ((rowAt b i).getD 10 0) = 1 -> whE c ((rowAt b i).getD 10 0) = 1) (hf : ∀ i, i < 8 -> rFault b i = []) :
  ∀ k, k <= 8 -> nmsK c k = nmsK b k /\ ∀ i, i < k -> rFault c i = [] := by
 intro k
 induction k with
 | zero => intro _; exact ⟨by simp only [nmsK], fun i hi => absurd hi (Nat.not_lt_zero i)⟩
 | succ k ih =>
  intro hk
  obtain ⟨ih1, ih2⟩ := ih (by omega)
  have hr := hrow k (by omega)
  have hname : nameAt c k = nameAt b k := by unfold nameAt; rw [hr]
  have key : fineR c k (nmsK b k) = fineR b k (nmsK b k) /\ rFault c k = [] := by
   rcases rFault_nil.1 (hf k (by omega)) with h0 | h0
   ·have h1 : isRoot (rowAt c k) = false := by rw [hr]; exact h0
    have e1 : fineR c k (nmsK b k) = false := by unfold fineR; rw [h1]; rfl
    have e2 : fineR b k (nmsK b k) = false := by unfold fineR; rw [h0]; rfl
    exact ⟨by rw [e1, e2], rFault_nil.2 (.inl h1)⟩
   ·have h0' := h0
    unfold fineR at h0'
    rw [Bool.and_eq_true, Bool.and_eq_true, Bool.not_eq_true', Bool.not_eq_true'] at h0'
    have hbad : badR c k = false := by
     obtain ⟨q1, q2, q3, q4, q5⟩ := badR_no.1 h0'.2.1
     refine badR_no.2 ?_
     rw [hr]
     exact ⟨q1, q2, q3, q4, hw k (by omega) q4 h0'.1 q5⟩
    have e1 : fineR c k (nmsK b k) = true := by
     unfold fineR
     rw [hr, hbad, hname, h0'.1, h0'.2.2]; rfl
    exact ⟨by rw [e1, h0], rFault_nil.2 (.inr (by rw [ih1]; exact e1))⟩
  refine ⟨?_, fun i hi => ?_⟩
  ·simp only [nmsK]
   rw [ih1, key.1, hname]
  ·by_cases e : i = k
   ·subst e; exact key.2
   ·exact ih2 i (by omega)
theorem head_fine (hlen : c.length = b.length) (hb : 288 <= b.length) (hs : ∀ j, j < 288 -> c.getD j 0 = b.getD j 0) (hf : faults b = []) : faults c = [] := by
 obtain ⟨f1, f2⟩ := faults_iff.1 hf
 have he := head_ents hlen hb hs
 have hwh := wh_same hlen he
 refine faults_iff.2 ⟨fun h h1 h2 => ?_, fun i hi => ?_⟩
 ·rw [hFault_nil, hwh h h1 h2, (he h h1 h2).1, (he h h1 h2).2]
  exact hFault_nil.1 (f1 h h1 h2)
 ·refine (roots_keep (head_rows hlen hb hs) (fun j hj hq _ h1 => ?_) f2 8 (by omega)).2 i hi
  have hh := hndB_iff.1 hq
  rw [hwh _ hh.1 hh.2]
  exact h1
theorem head_entsK (hlen : c.length = b.length) (hb : 288 <= b.length) (hs : ∀ j, j < 288 -> c.getD j 0 = b.getD j 0) : ∀ k, k <= 40 -> entsK c k = entsK b k := by
 intro k
 induction k with
 | zero => intro _; rfl
 | succ k ih =>
  intro hk
  obtain ⟨e1, e2⟩ := head_ents hlen hb hs ((k : Int) + 1) (by omega) (by omega)
  unfold entsK
  rw [ih (by omega), e1, e2]
theorem head_rootsK (hlen : c.length = b.length) (hb : 288 <= b.length) (hs : ∀ j, j < 288 -> c.getD j 0 = b.getD j 0) : rootsK c 8 = rootsK b 8 :=
 rootsK_same 8 (fun j hj => head_rows hlen hb hs j hj)
end
section
variable {b : List Int}
structure Fine (b : List Int) : Prop where
 len : 288 <= b.length /\ b.length <= 6400
 ok : faults b = []
theorem Fine.len0 (hf : Fine b) : lenB b.length = true := lenB_iff.2 (by have := hf.len; omega)
theorem Fine.hand (hf : Fine b) {h : Int} (h1 : 1 <= h) (h2 : h <= 40) (ht : tagAt b h ≠ 0) : whE b h = 1 /\ putE b (entOf b h) = 0 := by
 rcases hFault_nil.1 ((faults_iff.1 hf.ok).1 h h1 h2) with hw | hw
 ·exact ⟨hw, (wh_one.1 hw).2.1⟩
 ·exact absurd hw.1 ht
theorem Fine.ent (hf : Fine b) {h : Int} (h1 : 1 <= h) (h2 : h <= 40) (ht : tagAt b h ≠ 0) : 288 <= (entOf b h).2.1 /\ 1 <= (entOf b h).2.2.1 /\ (entOf b h).2.2.1 <= 1000 /\ (entOf b h).2.1 + (entOf b h).2.2.1 <= b.length /\ 0 <= (entOf b h).2.2.2 /\ (entOf b h).2.2.2 <= 15 := by
 have := putE_zero.1 (hf.hand h1 h2 ht).2
 obtain ⟨_, _, q1, q2, q3, q4, q5, q6⟩ := this
 exact ⟨q5, q3, q4, q6, q1, q2⟩
theorem okE_of {h : Int} (hw : whE b h = 1) : okE b h = true := by
 obtain ⟨h1, h2, _⟩ := wh_one.1 hw
 unfold okE
 rw [decide_eq_true h1, decide_eq_true h2]
 rfl
theorem lapB_comm (e f : (Int × Int × Int × Int)) : lapB e f = lapB f e := by unfold lapB; rw [Bool.and_comm]
theorem lapB_no {e f : (Int × Int × Int × Int)} : lapB e f = false ↔ f.2.1 + f.2.2.1 <= e.2.1 \/ e.2.1 + e.2.2.1 <= f.2.1 := by
 unfold lapB
 rw [Bool.and_eq_false_iff, decide_eq_false_iff_not, decide_eq_false_iff_not]
 omega
theorem Fine.apart (hf : Fine b) {h k : Int} (h1 : 1 <= h) (h2 : h <= 40) (k1 : 1 <= k) (k2 : k <= 40) (hk : h ≠ k) (ht : tagAt b h ≠ 0) (kt : tagAt b k ≠ 0) : lapB (entOf b h) (entOf b k) = false := by
 have key : ∀ {h k : Int}, 1 <= h -> h <= 40 -> 1 <= k -> k < h -> tagAt b h ≠ 0 -> tagAt b k ≠ 0 -> lapB (entOf b h) (entOf b k) = false := by
  intro h k h1 h2 k1 hlt ht kt
  have hw := (hf.hand h1 h2 ht).1
  have kw := (hf.hand k1 (by omega) kt).1
  cases hl : lapB (entOf b h) (entOf b k) with
  | false => rfl
  | true =>
   have hno := (wh_one.1 hw).2.2
   have : lapK b h (h - 1).toNat = true := lapK_iff.2 ⟨(k - 1).toNat, by omega, by
    rw [show (((k - 1).toNat : Nat) : Int) + 1 = k by omega]
    exact ⟨okE_of kw, hl⟩⟩
   rw [hno] at this
   cases this
 rcases Int.lt_or_gt_of_ne hk with h' | h'
 ·rw [lapB_comm]
  exact key k1 k2 h1 h' kt ht
 ·exact key h1 h2 k1 h' ht kt
theorem fine_of {c : List Int} (hl : lenB c.length = true) (hh : ∀ h, 1 <= h -> h <= 40 -> tagAt c h ≠ 0 -> putE c (entOf c h) = 0) (ha : ∀ h k, 1 <= h -> h <= 40 -> 1 <= k -> k < h -> tagAt c h ≠ 0 -> tagAt c k ≠ 0 -> lapB (entOf c h) (entOf c k) = false)
  (hz : ∀ h, 1 <= h -> h <= 40 -> tagAt c h = 0 -> (entOf c h).2.1 = 0 /\ (entOf c h).2.2.1 = 0) (hr : (∀ h, 1 <= h -> h <= 40 -> tagAt c h ≠ 0 -> whE c h = 1) -> ∀ i, i < 8 -> rFault c i = []) : Fine c := by
 have hw : ∀ h, 1 <= h -> h <= 40 -> tagAt c h ≠ 0 -> whE c h = 1 := fun h h1 h2 ht => by
  refine wh_one.2 ⟨ht, hh h h1 h2 ht, ?_⟩
  cases hq : lapK c h (h - 1).toNat with
  | false => rfl
  | true =>
   obtain ⟨j, hj, ho, hlp⟩ := lapK_iff.1 hq
   unfold okE at ho
   rw [Bool.and_eq_true, decide_eq_true_iff] at ho
   rw [ha h ((j : Int) + 1) h1 h2 (by omega) (by omega) ht ho.1] at hlp
   cases hlp
 have hlen := lenB_iff.1 hl
 refine ⟨by omega, faults_iff.2 ⟨fun h h1 h2 => hFault_nil.2 ?_, hr hw⟩⟩
 by_cases ht : tagAt c h = 0
 ·exact .inr ⟨ht, hz h h1 h2 ht⟩
 ·exact .inl (hw h h1 h2 ht)
theorem put_fine (hf : Fine b) {e : (Int × Int × Int × Int)} (he : putE b e = 0) (h0 : tagAt b e.1 = 0) (hno : ∀ k, 1 <= k -> k <= 40 -> tagAt b k ≠ 0 -> lapB e (entOf b k) = false) :
  Fine (putL b e) /\ (∀ k, 1 <= k -> k <= 40 -> k ≠ e.1 -> tagAt (putL b e) k = tagAt b k /\ entOf (putL b e) k = entOf b k) /\ tagAt (putL b e) e.1 ≠ 0 /\ entOf (putL b e) e.1 = e /\ (putL b e).length = b.length /\ (∀ j, 200 <= j -> (putL b e).getD j 0 = b.getD j 0) := by
 have hb := hf.len
 have hlen := putL_len he
 obtain ⟨_, hh, _⟩ := putE_zero.1 he
 have hh' := hndB_iff.1 hh
 have hp := plc_le hh'.1 hh'.2
 have hr5 : (rowE e).length = 5 := rfl
 have hL : putL b e = splice b (plc e.1) (rowE e) := by unfold putL; rw [if_pos he]
 obtain ⟨hg1, hg2⟩ := putL_get he
 have hself : tagAt (putL b e) e.1 ≠ 0 := (chkE_zero.1 hg1).2.2
 have hother : ∀ k, 1 <= k -> k <= 40 -> k ≠ e.1 -> tagAt (putL b e) k = tagAt b k /\ entOf (putL b e) k = entOf b k := fun k k1 k2 hk => by
  rw [hL]
  exact splice_tag hr5 hb.1 hh'.1 hh'.2 k1 k2 hk
 have htail : ∀ j, 200 <= j -> (putL b e).getD j 0 = b.getD j 0 := fun j hj => by
  rw [hL, splice_out (by rw [hr5]; omega) (by rw [hr5]; omega)]
 have hrow : ∀ i, i < 8 -> rowAt (putL b e) i = rowAt b i := fun i hi => by
  apply ext_getD
  ·rw [rowAt_len (by omega), rowAt_len (by omega)]
  ·intro j hj
   rw [rowAt_len (by omega)] at hj
   rw [rowAt_getD hj, rowAt_getD hj]
   exact htail _ (by omega)
 refine ⟨fine_of (by rw [hlen]; exact hf.len0) (fun h h1 h2 ht => ?_) (fun h k h1 h2 k1 hlt ht kt => ?_) (fun h h1 h2 ht => ?_) (fun hw => ?_), hother, hself, hg2, hlen, htail⟩
 ·by_cases hq : h = e.1
  ·subst hq
   rw [hg2, putE_same hlen]
   exact he
  ·obtain ⟨e1, e2⟩ := hother h h1 h2 hq
   rw [e1] at ht
   rw [e2, putE_same hlen]
   exact (hf.hand h1 h2 ht).2
 ·by_cases hq : h = e.1
  ·subst hq
   obtain ⟨e1, e2⟩ := hother k k1 (by omega) (by omega)
   rw [e1] at kt
   rw [hg2, e2]
   exact hno k k1 (by omega) kt
  ·obtain ⟨e1, e2⟩ := hother h h1 h2 hq
   rw [e1] at ht
   by_cases hq2 : k = e.1
   ·subst hq2
    rw [e2, hg2, lapB_comm]
    exact hno h h1 h2 ht
   ·obtain ⟨e3, e4⟩ := hother k k1 (by omega) hq2
    rw [e3] at kt
    rw [e2, e4]
    exact hf.apart h1 h2 k1 (by omega) (by omega) ht kt
 ·by_cases hq : h = e.1
  ·subst hq; exact absurd ht hself
  ·obtain ⟨e1, e2⟩ := hother h h1 h2 hq
   rw [e1] at ht
   rw [e2]
   rcases hFault_nil.1 ((faults_iff.1 hf.ok).1 h h1 h2) with hw | hw
   ·exact absurd ht (wh_one.1 hw).1
   ·exact hw.2
 ·refine (roots_keep hrow (fun i hi hq _ hw1 => ?_) (faults_iff.1 hf.ok).2 8 (by omega)).2
  have hx := hndB_iff.1 hq
  have ht := (wh_one.1 hw1).1
  refine hw _ hx.1 hx.2 ?_
  rw [(hother _ hx.1 hx.2 (fun e' => ht (by rw [e']; exact h0))).1]
  exact ht
theorem drop_fine (hf : Fine b) {h : Int} (he : chkE b h = 0) (hno : ∀ i, i < 8 -> isRoot (rowAt b i) = true -> (rowAt b i).getD 10 0 ≠ h) :
  Fine (dropL b h) /\ (∀ k, 1 <= k -> k <= 40 -> k ≠ h -> tagAt (dropL b h) k = tagAt b k /\ entOf (dropL b h) k = entOf b k) /\ tagAt (dropL b h) h = 0 /\ (dropL b h).length = b.length /\ (∀ j, 200 <= j -> (dropL b h).getD j 0 = b.getD j 0) := by
 have hb := hf.len
 obtain ⟨_, hh, _⟩ := chkE_zero.1 he
 have hh' := hndB_iff.1 hh
 have hp := plc_le hh'.1 hh'.2
 have hr5 := length_zerosB 5
 have hL : dropL b h = splice b (plc h) (zerosB 5) := by unfold dropL; rw [if_pos he]
 have hlen : (dropL b h).length = b.length := by rw [hL, length_splice (by rw [hr5]; omega)]
 have hzero : ∀ j, j < 5 -> (dropL b h).getD (plc h + j) 0 = 0 := fun j hj => by
  rw [hL, splice_in (by rw [hr5]; omega) (by rw [hr5]; exact hj)]
  exact zeros_at 5 j
 have hself := ent_zero (c := dropL b h) (by omega) hh'.1 hh'.2 hzero
 have hother : ∀ k, 1 <= k -> k <= 40 -> k ≠ h -> tagAt (dropL b h) k = tagAt b k /\ entOf (dropL b h) k = entOf b k := fun k k1 k2 hk => by
  rw [hL]
  exact splice_tag hr5 hb.1 hh'.1 hh'.2 k1 k2 hk
 have htail : ∀ j, 200 <= j -> (dropL b h).getD j 0 = b.getD j 0 := fun j hj => by
  rw [hL, splice_out (by rw [hr5]; omega) (by rw [hr5]; omega)]
 have hrow : ∀ i, i < 8 -> rowAt (dropL b h) i = rowAt b i := fun i hi => by
  apply ext_getD
  ·rw [rowAt_len (by omega), rowAt_len (by omega)]
  ·intro j hj
   rw [rowAt_len (by omega)] at hj
   rw [rowAt_getD hj, rowAt_getD hj]
   exact htail _ (by omega)
 have hne : ∀ k, tagAt (dropL b h) k ≠ 0 -> k ≠ h := fun k hk e => by subst e; exact hk hself.1
 refine ⟨fine_of (by rw [hlen]; exact hf.len0) (fun k k1 k2 ht => ?_) (fun k j k1 k2 j1 hlt ht jt => ?_) (fun k k1 k2 ht => ?_) (fun hw => ?_), hother, hself.1, hlen, htail⟩
 ·obtain ⟨e1, e2⟩ := hother k k1 k2 (hne k ht)
  rw [e1] at ht
  rw [e2, putE_same hlen]
  exact (hf.hand k1 k2 ht).2
 ·obtain ⟨e1, e2⟩ := hother k k1 k2 (hne k ht)
  obtain ⟨e3, e4⟩ := hother j j1 (by omega) (hne j jt)
  rw [e1] at ht
  rw [e3] at jt
  rw [e2, e4]
  exact hf.apart k1 k2 j1 (by omega) (by omega) ht jt
 ·by_cases hq : k = h
  ·subst hq; exact hself.2
  ·obtain ⟨e1, e2⟩ := hother k k1 k2 hq
   rw [e1] at ht
   rw [e2]
   rcases hFault_nil.1 ((faults_iff.1 hf.ok).1 k k1 k2) with hw | hw
   ·exact absurd ht (wh_one.1 hw).1
   ·exact hw.2
 ·refine (roots_keep hrow (fun i hi hq hr hw1 => ?_) (faults_iff.1 hf.ok).2 8 (by omega)).2
  have hx := hndB_iff.1 hq
  refine hw _ hx.1 hx.2 ?_
  rw [(hother _ hx.1 hx.2 (hno i hi hr)).1]
  exact (wh_one.1 hw1).1
theorem part_same {c : List Int} {x n : Int} (hlen : c.length = b.length) (h : ∀ j : Nat, x.toNat <= j -> j < x.toNat + n.toNat -> c.getD j 0 = b.getD j 0) : partL c x n = partL b x n := by
 unfold partL
 apply ext_getD
 ·rw [List.length_take, List.length_take, List.length_drop, List.length_drop, hlen]
 ·intro j hj
  rw [List.length_take, List.length_drop] at hj
  have hj2 : j < n.toNat := by omega
  have := h (x.toNat + j) (by omega) (by omega)
  simp only [List.getD, List.getElem?_take, if_pos hj2, List.getElem?_drop] at this ⊢
  exact this
theorem obj_same {c : List Int} {h : Int} (hlen : c.length = b.length) (h1 : tagAt c h = tagAt b h) (h2 : entOf c h = entOf b h) (hp : tagAt b h ≠ 0 -> ∀ j : Nat, (entOf b h).2.1.toNat <= j -> j < (entOf b h).2.1.toNat + (entOf b h).2.2.1.toNat -> c.getD j 0 = b.getD j 0) : objOf c h = objOf b h := by
 unfold objOf
 rw [h1]
 by_cases ht : tagAt b h = 0
 ·rw [if_pos ht, if_pos ht]
 ·rw [if_neg ht, if_neg ht]
  unfold objE
  rw [h2, part_same hlen (hp ht)]
theorem put_objs (hf : Fine b) {e : (Int × Int × Int × Int)} (he : putE b e = 0) (h0 : tagAt b e.1 = 0) (hno : ∀ k, 1 <= k -> k <= 40 -> tagAt b k ≠ 0 -> lapB e (entOf b k) = false) :
  (∀ k, 1 <= k -> k <= 40 -> k ≠ e.1 -> objOf (putL b e) k = objOf b k) /\ objOf (putL b e) e.1 = (e.2.2.2, partL b e.2.1 e.2.2.1) := by
 obtain ⟨_, ho, ht, hE, hlen, htail⟩ := put_fine hf he h0 hno
 refine ⟨fun k k1 k2 hk => ?_, ?_⟩
 ·obtain ⟨e1, e2⟩ := ho k k1 k2 hk
  refine obj_same hlen e1 e2 (fun hkt j hj _ => htail j ?_)
  have := (hf.ent k1 k2 hkt).1
  omega
 ·unfold objOf
  rw [if_neg ht, hE]
  unfold objE
  rw [part_same hlen (fun j hj _ => htail j (by
   obtain ⟨_, _, _, _, _, _, q, _⟩ := putE_zero.1 he
   omega))]
theorem lay_objs (hf : Fine b) {x : Nat} {r : List Int} (hx : 288 <= x) (hx2 : x + r.length <= b.length) :
  Fine (splice b x r) /\ (splice b x r).length = b.length /\ (∀ k, 1 <= k -> k <= 40 -> tagAt (splice b x r) k = tagAt b k /\ entOf (splice b x r) k = entOf b k) /\
  ∀ k, 1 <= k -> k <= 40 -> (tagAt b k ≠ 0 -> (entOf b k).2.1 + (entOf b k).2.2.1 <= x \/ (x : Int) + r.length <= (entOf b k).2.1) -> objOf (splice b x r) k = objOf b k := by
 have hb := hf.len
 have hlen := length_splice hx2
 have hs : ∀ j, j < 288 -> (splice b x r).getD j 0 = b.getD j 0 := fun j hj => splice_out hx2 (.inl (by omega))
 have he := head_ents hlen hb.1 hs
 refine ⟨⟨by rw [hlen]; exact hb, head_fine hlen hb.1 hs hf.ok⟩, hlen, he, fun k k1 k2 hap => ?_⟩
 obtain ⟨e1, e2⟩ := he k k1 k2
 refine obj_same hlen e1 e2 (fun hkt j hj1 hj2 => splice_out hx2 ?_)
 have hen := hf.ent k1 k2 hkt
 have := hap hkt
 omega
end
end Go.Proofs.YtifmemombecoaaaGreatDoor
namespace Go.Proofs.YtifmemombecoaaaGreatDoor
set_option linter.unusedVariables false
def there (n : Int) (e : (Int × Int)) : Bool := decide (0 <= e.1) && (decide (1 <= e.2) && decide (e.2 <= n - e.1))
def over (a b : (Int × Int)) : Bool := decide (a.1 < b.1 + b.2) && decide (b.1 < a.1 + a.2)
theorem there_iff {n : Int} {e : (Int × Int)} : there n e = true ↔ 0 <= e.1 /\ 1 <= e.2 /\ e.1 + e.2 <= n := by
 unfold there
 simp only [Bool.and_eq_true, decide_eq_true_eq]
 omega
theorem over_no {a b : (Int × Int)} : over a b = false ↔ b.1 + b.2 <= a.1 \/ a.1 + a.2 <= b.1 := by
 unfold over
 simp only [Bool.and_eq_false_iff, decide_eq_false_iff_not]
 omega
theorem over_comm (a b : (Int × Int)) : over a b = over b a := by unfold over; exact Bool.and_comm _ _
def chkL (n : Int) : List (Int × Int) -> List (Int × Int) -> Int
 | _, [] => 0
 | ah, e :: r => if there n e = false then 1 else if ah.any (over e) = true then 7 else chkL n (ah ++ [e]) r
def chk (n : Int) (l : List (Int × Int)) : Int := if n < 0 \/ 6400 < n then 1 else if 200 < l.length then 4 else chkL n [] l
structure Good (n : Int) (l : List (Int × Int)) : Prop where
 all : ∀ e ∈ l, 0 <= e.1 /\ 1 <= e.2 /\ e.1 + e.2 <= n
 apart : l.Pairwise (fun a b => over a b = false)
theorem chkL_zero {n : Int} : ∀ {ah l : List (Int × Int)}, chkL n ah l = 0 ↔ (∀ e ∈ l, there n e = true) /\ l.Pairwise (fun a b => over a b = false) /\ ∀ e ∈ l, ∀ a ∈ ah, over e a = false
 | ah, [] => by simp [chkL]
 | ah, e :: r => by
  unfold chkL
  by_cases h1 : there n e = false
  ·rw [if_pos h1]
   constructor
   ·intro h; cases h
   ·intro h; have := h.1 e (by simp); rw [h1] at this; cases this
  ·rw [if_neg h1]
   have h1' : there n e = true := by cases h : there n e <;> simp_all
   by_cases h2 : ah.any (over e) = true
   ·rw [if_pos h2]
    constructor
    ·intro h; cases h
    ·intro h
     obtain ⟨a, ha, hoa⟩ := List.any_eq_true.1 h2
     have := h.2.2 e (by simp) a ha
     rw [hoa] at this; cases this
   ·rw [if_neg h2, chkL_zero]
    have h2' : ∀ a ∈ ah, over e a = false := fun a ha => by
     cases h : over e a with
     | false => rfl
     | true => exact absurd (List.any_eq_true.2 ⟨a, ha, h⟩) h2
    constructor
    ·rintro ⟨g1, g2, g3⟩
     refine ⟨fun x hx => ?_, List.pairwise_cons.2 ⟨fun x hx => ?_, g2⟩, fun x hx a ha => ?_⟩
     ·rcases List.mem_cons.1 hx with rfl | hx
      ·exact h1'
      ·exact g1 x hx
     ·rw [over_comm]; exact g3 x hx e (by simp)
     ·rcases List.mem_cons.1 hx with rfl | hx
      ·exact h2' a ha
      ·exact g3 x hx a (by simp [ha])
    ·rintro ⟨g1, g2, g3⟩
     obtain ⟨p1, p2⟩ := List.pairwise_cons.1 g2
     refine ⟨fun x hx => g1 x (by simp [hx]), p2, fun x hx a ha => ?_⟩
     rcases List.mem_append.1 ha with ha | ha
     ·exact g3 x (by simp [hx]) a ha
     ·obtain rfl := List.mem_singleton.1 ha
      rw [over_comm]; exact p1 x hx
theorem chk_zero {n : Int} {l : List (Int × Int)} : chk n l = 0 ↔ 0 <= n /\ n <= 6400 /\ l.length <= 200 /\ Good n l := by
 unfold chk
 by_cases h1 : n < 0 \/ 6400 < n
 ·rw [if_pos h1]
  exact ⟨fun h => (by cases h), fun h => by omega⟩
 ·rw [if_neg h1]
  by_cases h2 : 200 < l.length
  ·rw [if_pos h2]
   exact ⟨fun h => (by cases h), fun h => by omega⟩
  ·rw [if_neg h2, chkL_zero]
   constructor
   ·rintro ⟨g1, g2, _⟩
    exact ⟨by omega, by omega, by omega, ⟨fun e he => there_iff.1 (g1 e he), g2⟩⟩
   ·rintro ⟨_, _, _, g⟩
    exact ⟨fun e he => there_iff.2 (g.all e he), g.apart, fun e he a ha => by cases ha⟩
theorem Good.perm {n : Int} {l s : List (Int × Int)} (h : Good n l) (hp : s.Perm l) : Good n s :=
 ⟨fun e he => h.all e (hp.mem_iff.1 he), (hp.pairwise_iff (fun {x y} hxy => by rw [over_comm]; exact hxy)).2 h.apart⟩
def runsOf : Int -> List (Int × Int) -> List (Int × Int)
 | _, [] => []
 | f, e :: r => (if f < e.1 then [(f, e.1 - f)] else []) ++ runsOf (e.1 + e.2) r
def endOf : Int -> List (Int × Int) -> Int
 | f, [] => f
 | _, e :: r => endOf (e.1 + e.2) r
def Chain : Int -> List (Int × Int) -> Prop
 | _, [] => True
 | f, e :: r => f <= e.1 /\ 0 <= e.2 /\ Chain (e.1 + e.2) r
def lenSum (l : List (Int × Int)) : Int := (l.map (·.2)).sum
theorem lenSum_cons (e : (Int × Int)) (l : List (Int × Int)) : lenSum (e :: l) = e.2 + lenSum l := by simp [lenSum]
theorem lenSum_append (a b : List (Int × Int)) : lenSum (a ++ b) = lenSum a + lenSum b := by simp [lenSum]
theorem lenSum_perm {a b : List (Int × Int)} (h : a.Perm b) : lenSum a = lenSum b := by
 unfold lenSum
 induction h with
 | nil => rfl
 | cons x _ ih => simp only [List.map_cons, List.sum_cons, ih]
 | swap x y l => simp only [List.map_cons, List.sum_cons]; omega
 | trans _ _ ih1 ih2 => rw [ih1, ih2]
theorem runsOf_append : ∀ (f : Int) (a b : List (Int × Int)), runsOf f (a ++ b) = runsOf f a ++ runsOf (endOf f a) b
 | f, [], b => rfl
 | f, e :: r, b => by
  simp only [List.cons_append, runsOf, endOf]
  rw [runsOf_append, List.append_assoc]
theorem endOf_append : ∀ (f : Int) (a b : List (Int × Int)), endOf f (a ++ b) = endOf (endOf f a) b
 | f, [], b => rfl
 | f, e :: r, b => by simp only [List.cons_append, endOf]; exact endOf_append _ _ _
theorem chain_append : ∀ {f : Int} {a b : List (Int × Int)}, Chain f (a ++ b) ↔ Chain f a /\ Chain (endOf f a) b
 | f, [], b => by simp [Chain, endOf]
 | f, e :: r, b => by
  simp only [List.cons_append, Chain, endOf]
  rw [chain_append]
  exact ⟨fun ⟨a, b, c, d⟩ => ⟨⟨a, b, c⟩, d⟩, fun ⟨⟨a, b, c⟩, d⟩ => ⟨a, b, c, d⟩⟩
theorem Chain.endLe : ∀ {f : Int} {s : List (Int × Int)}, Chain f s -> f <= endOf f s
 | f, [], _ => Int.le_refl _
 | f, e :: r, h => by
  have := Chain.endLe h.2.2
  have h1 := h.1
  have h2 := h.2.1
  show f <= endOf (e.1 + e.2) r
  omega
theorem Chain.mem : ∀ {f : Int} {s : List (Int × Int)}, Chain f s -> ∀ e ∈ s, f <= e.1 /\ 0 <= e.2 /\ e.1 + e.2 <= endOf f s
 | f, [], _, e, he => by cases he
 | f, x :: r, h, e, he => by
  have h1 := h.1
  have h2 := h.2.1
  have h3 := Chain.endLe h.2.2
  show f <= e.1 /\ 0 <= e.2 /\ e.1 + e.2 <= endOf (x.1 + x.2) r
  rcases List.mem_cons.1 he with rfl | he
  ·omega
  ·have := Chain.mem h.2.2 e he
   omega
theorem Chain.sum : ∀ {f : Int} {s : List (Int × Int)}, Chain f s -> lenSum (runsOf f s) + lenSum s = endOf f s - f
 | f, [], _ => by simp [runsOf, endOf, lenSum]
 | f, e :: r, h => by
  have ih := Chain.sum h.2.2
  have h1 := h.1
  simp only [runsOf, endOf, lenSum_append, lenSum_cons]
  by_cases hf : f < e.1
  ·rw [if_pos hf, lenSum_cons]
   have : lenSum [] = 0 := rfl
   dsimp only
   omega
  ·rw [if_neg hf]
   have : lenSum [] = 0 := rfl
   omega
theorem Chain.run : ∀ {f : Int} {s : List (Int × Int)}, Chain f s -> ∀ x ∈ runsOf f s, f <= x.1 /\ 1 <= x.2 /\ x.1 + x.2 <= endOf f s /\ ∀ e ∈ s, over x e = false
 | f, [], _, x, hx => by cases hx
 | f, e :: r, h, x, hx => by
  obtain ⟨h1, h2, h3⟩ := h
  have he := Chain.endLe h3
  simp only [runsOf, List.mem_append] at hx
  show f <= x.1 /\ 1 <= x.2 /\ x.1 + x.2 <= endOf (e.1 + e.2) r /\ _
  rcases hx with hx | hx
  ·by_cases hf : f < e.1
   ·rw [if_pos hf] at hx
    obtain rfl := List.mem_singleton.1 hx
    refine ⟨Int.le_refl _, by dsimp only; omega, by dsimp only; omega, fun y hy => over_no.2 ?_⟩
    rcases List.mem_cons.1 hy with rfl | hy
    ·right; dsimp only; omega
    ·have := Chain.mem h3 y hy
     right; dsimp only; omega
   ·rw [if_neg hf] at hx; cases hx
  ·obtain ⟨g1, g2, g3, g4⟩ := Chain.run h3 x hx
   refine ⟨by omega, g2, g3, fun y hy => ?_⟩
   rcases List.mem_cons.1 hy with rfl | hy
   ·exact over_no.2 (.inl g1)
   ·exact g4 y hy
theorem Chain.runs : ∀ {f : Int} {s : List (Int × Int)}, Chain f s -> (runsOf f s).Pairwise (fun x y => x.1 + x.2 <= y.1)
 | f, [], _ => List.Pairwise.nil
 | f, e :: r, h => by
  obtain ⟨h1, h2, h3⟩ := h
  simp only [runsOf]
  by_cases hf : f < e.1
  ·rw [if_pos hf]
   refine List.pairwise_cons.2 ⟨fun y hy => ?_, Chain.runs h3⟩
   have := (Chain.run h3 y hy).1
   dsimp only; omega
  ·rw [if_neg hf]
   exact Chain.runs h3
theorem run_split : ∀ {f : Int} {s : List (Int × Int)} {x : (Int × Int)}, x ∈ runsOf f s -> ∃ A b B, s = A ++ b :: B /\ x.1 = endOf f A /\ x.1 < b.1 /\ x.2 = b.1 - x.1
 | f, [], x, hx => by cases hx
 | f, e :: r, x, hx => by
  simp only [runsOf, List.mem_append] at hx
  rcases hx with hx | hx
  ·by_cases hf : f < e.1
   ·rw [if_pos hf] at hx
    obtain rfl := List.mem_singleton.1 hx
    exact ⟨[], e, r, rfl, rfl, hf, rfl⟩
   ·rw [if_neg hf] at hx; cases hx
  ·obtain ⟨A, b, B, rfl, h1, h2, h3⟩ := run_split hx
   exact ⟨e :: A, b, B, rfl, h1, h2, h3⟩
def Srt (l s : List (Int × Int)) : Prop := s.Perm l /\ s.Pairwise (fun a b => a.1 < b.1)
theorem srt_unique : ∀ {s t : List (Int × Int)}, s.Perm t -> s.Pairwise (fun a b => a.1 < b.1) -> t.Pairwise (fun a b => a.1 < b.1) -> s = t
 | [], t, hp, _, _ => (List.nil_perm.1 hp).symm
 | x :: s, [], hp, _, _ => absurd hp.length_eq (by simp)
 | x :: s, y :: t, hp, hs, ht => by
  obtain ⟨hs1, hs2⟩ := List.pairwise_cons.1 hs
  obtain ⟨ht1, ht2⟩ := List.pairwise_cons.1 ht
  have e : x = y := by
   have hx : x ∈ y :: t := hp.mem_iff.1 (by simp)
   have hy : y ∈ x :: s := hp.mem_iff.2 (by simp)
   rcases List.mem_cons.1 hx with h | h
   ·exact h
   ·rcases List.mem_cons.1 hy with h' | h'
    ·exact h'.symm
    ·have := ht1 x h
     have := hs1 y h'
     omega
  subst e
  rw [srt_unique (List.Perm.cons_inv hp) hs2 ht2]
theorem chain_of_sorted : ∀ {n f : Int} {s : List (Int × Int)}, (∀ e ∈ s, f <= e.1 /\ 1 <= e.2) -> s.Pairwise (fun a b => over a b = false) -> s.Pairwise (fun a b => a.1 < b.1) -> Chain f s
 | n, f, [], _, _, _ => trivial
 | n, f, e :: r, h, ho, hs => by
  obtain ⟨ho1, ho2⟩ := List.pairwise_cons.1 ho
  obtain ⟨hs1, hs2⟩ := List.pairwise_cons.1 hs
  have he := h e (by simp)
  refine ⟨he.1, by omega, chain_of_sorted (n := n) (fun x hx => ?_) ho2 hs2⟩
  have h1 := over_no.1 (ho1 x hx)
  have h2 := hs1 x hx
  have h3 := h x (by simp [hx])
  omega
theorem Srt.chain {n : Int} {l s : List (Int × Int)} (hs : Srt l s) (hg : Good n l) (hn : 0 <= n) : Chain 0 (s ++ [(n, 0)]) /\ endOf 0 (s ++ [(n, 0)]) = n /\ endOf 0 s <= n := by
 have hgs := hg.perm hs.1
 have hc : Chain 0 s := chain_of_sorted (n := n) (fun e he => ⟨(hgs.all e he).1, (hgs.all e he).2.1⟩) hgs.apart hs.2
 have hle : endOf 0 s <= n := by
  have : ∀ (s : List (Int × Int)) (f : Int), f <= n -> (∀ e ∈ s, e.1 + e.2 <= n) -> endOf f s <= n := by
   intro s
   induction s with
   | nil => intro f h _; exact h
   | cons e r ih => intro f _ h; exact ih _ (h e (by simp)) (fun x hx => h x (by simp [hx]))
  exact this s 0 hn (fun e he => (hgs.all e he).2.2)
 refine ⟨chain_append.2 ⟨hc, hle, Int.le_refl _, trivial⟩, ?_, hle⟩
 rw [endOf_append]
 show n + 0 = n
 omega
def freeOf (n : Int) (s : List (Int × Int)) : List (Int × Int) := runsOf 0 (s ++ [(n, 0)])
theorem Srt.sum {n : Int} {l s : List (Int × Int)} (hs : Srt l s) (hg : Good n l) (hn : 0 <= n) : lenSum l + lenSum (freeOf n s) = n := by
 obtain ⟨hc, he, _⟩ := hs.chain hg hn
 have := hc.sum
 rw [he, lenSum_append, lenSum_perm hs.1] at this
 have h0 : lenSum [(n, 0)] = 0 := rfl
 unfold freeOf
 omega
theorem Srt.freeIn {n : Int} {l s : List (Int × Int)} (hs : Srt l s) (hg : Good n l) (hn : 0 <= n) : ∀ x ∈ freeOf n s, 0 <= x.1 /\ 1 <= x.2 /\ x.1 + x.2 <= n /\ ∀ e ∈ l, over x e = false := by
 obtain ⟨hc, he, _⟩ := hs.chain hg hn
 intro x hx
 obtain ⟨h1, h2, h3, h4⟩ := hc.run x hx
 rw [he] at h3
 exact ⟨h1, h2, h3, fun e hh => h4 e (by simp [hs.1.mem_iff.2 hh])⟩
theorem Srt.all {n : Int} {l s : List (Int × Int)} (hs : Srt l s) (hg : Good n l) (hn : 0 <= n) : Good n (l ++ freeOf n s) := by
 have hf := hs.freeIn hg hn
 obtain ⟨hc, he, _⟩ := hs.chain hg hn
 refine ⟨fun e hh => ?_, List.pairwise_append.2 ⟨hg.apart, ?_, fun a ha b hb => ?_⟩⟩
 ·rcases List.mem_append.1 hh with hh | hh
  ·exact hg.all e hh
  ·have := hf e hh; exact ⟨this.1, this.2.1, this.2.2.1⟩
 ·exact hc.runs.imp (fun h => over_no.2 (.inr h))
 ·rw [over_comm]; exact (hf b hb).2.2.2 a ha
theorem Srt.more {n : Int} {l s : List (Int × Int)} (hs : Srt l s) (hg : Good n l) (hn : 0 <= n) {x : (Int × Int)} (hx : x ∈ freeOf n s) {z : Int} (hz : 1 <= z) (hzx : z <= x.2) :
  ∃ s' R1 R2, Srt ((x.1, z) :: l) s' /\ Good n ((x.1, z) :: l) /\ freeOf n s = R1 ++ x :: R2 /\ freeOf n s' = R1 ++ ((if z < x.2 then [(x.1 + z, x.2 - z)] else []) ++ R2) := by
 obtain ⟨hc, he, hle⟩ := hs.chain hg hn
 have hfr := hs.freeIn hg hn x hx
 have hG : Good n ((x.1, z) :: l) := by
  refine ⟨fun e hh => ?_, List.pairwise_cons.2 ⟨fun e hh => ?_, hg.apart⟩⟩
  ·rcases List.mem_cons.1 hh with rfl | hh
   ·exact ⟨hfr.1, hz, by dsimp only; omega⟩
   ·exact hg.all e hh
  ·have h1 := over_no.1 (hfr.2.2.2 e hh)
   have h2 := hg.all e hh
   exact over_no.2 (by dsimp only; omega)
 obtain ⟨A, b, B, hsp, e1, e2, e3⟩ := run_split hx
 obtain ⟨C, rfl, hC⟩ : ∃ C, s = A ++ C /\ b :: B = C ++ [(n, 0)] := by
  have hne : b :: B ≠ [] := by simp
  have h1 : (s ++ [(n, 0)]).dropLast = A ++ (b :: B).dropLast := by rw [hsp, List.dropLast_append_of_ne_nil hne]
  rw [List.dropLast_concat] at h1
  refine ⟨(b :: B).dropLast, h1, ?_⟩
  have h2 : (s ++ [(n, 0)]).getLast (by simp) = (A ++ b :: B).getLast (by simp) := by simp only [hsp]
  rw [List.getLast_concat, List.getLast_append_of_ne_nil (by simp) hne] at h2
  rw [h2]
  exact (List.dropLast_concat_getLast hne).symm
 have hcA : Chain 0 A /\ Chain (endOf 0 A) (C ++ [(n, 0)]) := by
  rw [List.append_assoc] at hc
  exact chain_append.1 hc
 refine ⟨A ++ (x.1, z) :: C, runsOf 0 A, runsOf (b.1 + b.2) B, ⟨?_, ?_⟩, hG, ?_, ?_⟩
 ·exact List.perm_middle.trans (hs.1.cons _)
 ·obtain ⟨p1, p2, p3⟩ := List.pairwise_append.1 hs.2
  refine List.pairwise_append.2 ⟨p1, List.pairwise_cons.2 ⟨fun y hy => ?_, p2⟩, fun a ha y hy => ?_⟩
  ·have hy1 : y ∈ b :: B := by rw [hC]; simp [hy]
   have hcb := hcA.2
   rw [<- hC] at hcb
   rcases List.mem_cons.1 hy1 with rfl | hy1
   ·exact e2
   ·have := hcb.2.2.mem y hy1
    have := hcb.2.1
    dsimp only; omega
  ·rcases List.mem_cons.1 hy with rfl | hy
   ·have h1 := hcA.1.mem a ha
    have h2 := (hg.perm hs.1).all a (by simp [ha])
    dsimp only; omega
   ·exact p3 a ha y hy
 ·unfold freeOf
  rw [List.append_assoc, <- hC, runsOf_append]
  show _ ++ ((if endOf 0 A < b.1 then _ else _) ++ _) = _
  rw [<- e1, if_pos e2, <- e3]
  rfl
 ·unfold freeOf
  rw [List.append_assoc, List.cons_append, <- hC, runsOf_append]
  show _ ++ ((if endOf 0 A < x.1 then _ else _) ++ ((if x.1 + z < b.1 then _ else _) ++ _)) = _
  rw [<- e1, if_neg (by omega), List.nil_append]
  by_cases hzl : z < x.2
  ·rw [if_pos hzl, if_pos (by omega), show b.1 - (x.1 + z) = x.2 - z by omega]
  ·rw [if_neg hzl, if_neg (by omega)]
def fitStep (size : Int) (best r : (Int × Int)) : (Int × Int) := if size <= r.2 /\ (best.2 = 0 \/ r.2 < best.2) then r else best
def fitB (size : Int) (h : List (Int × Int)) : (Int × Int) := h.foldl (fitStep size) (0, 0)
theorem fit_fold {size : Int} (hs : 1 <= size) : ∀ (h : List (Int × Int)) (b : (Int × Int)), (∀ r ∈ h, 1 <= r.2) -> 0 <= b.2 ->
  ((h.foldl (fitStep size) b).2 = 0 /\ b.2 = 0 /\ ∀ r ∈ h, r.2 < size) \/
  (1 <= (h.foldl (fitStep size) b).2 /\ ((h.foldl (fitStep size) b) = b \/ ((h.foldl (fitStep size) b) ∈ h /\ size <= (h.foldl (fitStep size) b).2)) /\ (1 <= b.2 -> (h.foldl (fitStep size) b).2 <= b.2) /\ ∀ r ∈ h, size <= r.2 -> (h.foldl (fitStep size) b).2 <= r.2)
 | [], b, _, hb => by
  by_cases h0 : b.2 = 0
  ·exact .inl ⟨h0, h0, fun r hr => by cases hr⟩
  ·exact .inr ⟨by show 1 <= b.2; omega, .inl rfl, fun _ => Int.le_refl _, fun r hr => by cases hr⟩
 | x :: h, b, hr, hb => by
  have hx := hr x (by simp)
  have hr' : ∀ r ∈ h, 1 <= r.2 := fun r hh => hr r (by simp [hh])
  rw [List.foldl_cons]
  by_cases hc : size <= x.2 /\ (b.2 = 0 \/ x.2 < b.2)
  ·have e : fitStep size b x = x := if_pos hc
   rw [e]
   rcases fit_fold hs h x hr' (by omega) with ⟨_, h2, _⟩ | ⟨h1, h2, h3, h4⟩
   ·omega
   ·have h5 := h3 hx
    refine .inr ⟨h1, .inr ?_, fun hb1 => by omega, fun r hh hsr => ?_⟩
    ·rcases h2 with h2 | ⟨h2, h2'⟩
     ·exact ⟨by rw [h2]; simp, by rw [h2]; exact hc.1⟩
     ·exact ⟨by simp [h2], h2'⟩
    ·rcases List.mem_cons.1 hh with rfl | hh
     ·exact h5
     ·exact h4 r hh hsr
  ·have e : fitStep size b x = b := if_neg hc
   rw [e]
   rcases fit_fold hs h b hr' hb with ⟨h1, h2, h3⟩ | ⟨h1, h2, h3, h4⟩
   ·refine .inl ⟨h1, h2, fun r hh => ?_⟩
    rcases List.mem_cons.1 hh with rfl | hh
    ·omega
    ·exact h3 r hh
   ·refine .inr ⟨h1, ?_, h3, fun r hh hsr => ?_⟩
    ·rcases h2 with h2 | ⟨h2, h2'⟩
     ·exact .inl h2
     ·exact .inr ⟨by simp [h2], h2'⟩
    ·rcases List.mem_cons.1 hh with rfl | hh
     ·have := h3 (by omega)
      omega
     ·exact h4 r hh hsr
theorem fit_spec {size : Int} (hs : 1 <= size) {h : List (Int × Int)} (hr : ∀ r ∈ h, 1 <= r.2) :
  ((fitB size h).2 = 0 /\ ∀ r ∈ h, r.2 < size) \/ (1 <= (fitB size h).2 /\ fitB size h ∈ h /\ size <= (fitB size h).2 /\ ∀ r ∈ h, size <= r.2 -> (fitB size h).2 <= r.2) := by
 rcases fit_fold hs h (0, 0) hr (Int.le_refl _) with ⟨h1, _, h3⟩ | ⟨h1, h2, _, h4⟩
 ·exact .inl ⟨h1, h3⟩
 ·rcases h2 with h2 | h2
  ·have : (fitB size h).2 = 0 := by unfold fitB; rw [h2]
   unfold fitB at this; omega
  ·exact .inr ⟨h1, h2.1, h2.2, h4⟩
def mostOf (m : Int) (h : List (Int × Int)) : Int := h.foldl (fun m r => max m r.2) m
theorem most_le : ∀ {h : List (Int × Int)} {m M : Int}, mostOf m h <= M ↔ m <= M /\ ∀ r ∈ h, r.2 <= M
 | [], m, M => by simp [mostOf]
 | x :: h, m, M => by
  have : mostOf m (x :: h) = mostOf (max m x.2) h := rfl
  rw [this, most_le]
  constructor
  ·rintro ⟨h1, h2⟩
   refine ⟨by omega, fun r hr => ?_⟩
   rcases List.mem_cons.1 hr with rfl | hr
   ·omega
   ·exact h2 r hr
  ·rintro ⟨h1, h2⟩
   have := h2 x (by simp)
   exact ⟨by omega, fun r hr => h2 r (by simp [hr])⟩
theorem lenSum_ge : ∀ {h : List (Int × Int)}, (∀ r ∈ h, 1 <= r.2) -> 0 <= lenSum h /\ ∀ r ∈ h, r.2 <= lenSum h
 | [], _ => ⟨by simp [lenSum], fun r hr => by cases hr⟩
 | x :: h, hr => by
  obtain ⟨h1, h2⟩ := lenSum_ge (h := h) (fun r hh => hr r (by simp [hh]))
  have hx := hr x (by simp)
  rw [lenSum_cons]
  refine ⟨by omega, fun r hh => ?_⟩
  rcases List.mem_cons.1 hh with rfl | hh
  ·omega
  ·have := h2 r hh; omega
end Go.Proofs.YtifmemombecoaaaGreatDoor
namespace Go.Proofs.YtifmemombecoaaaGreatDoor
open Go.RowKit
set_option linter.unusedVariables false
section
variable {b : List Int}
theorem mem_entsP {x : (Int × Int × Int × Int)} : ∀ {k : Nat}, x ∈ entsK b k ↔ ∃ j : Nat, j < k /\ tagAt b ((j : Int) + 1) ≠ 0 /\ x = entOf b ((j : Int) + 1)
 | 0 => by simp [entsK]
 | k + 1 => by
  unfold entsK
  rw [List.mem_append, mem_entsP]
  by_cases ht : tagAt b ((k : Int) + 1) = 0
  ·rw [if_pos ht]
   constructor
   ·rintro (⟨j, h1, h2⟩ | h2)
    ·exact ⟨j, by omega, h2⟩
    ·cases h2
   ·rintro ⟨j, h1, h2, h3⟩
    by_cases e : j = k
    ·subst e; exact absurd ht h2
    ·exact .inl ⟨j, by omega, h2, h3⟩
  ·rw [if_neg ht]
   constructor
   ·rintro (⟨j, h1, h2⟩ | h2)
    ·exact ⟨j, by omega, h2⟩
    ·exact ⟨k, by omega, ht, List.mem_singleton.1 h2⟩
   ·rintro ⟨j, h1, h2, h3⟩
    by_cases e : j = k
    ·subst e; exact .inr (List.mem_singleton.2 h3)
    ·exact .inl ⟨j, by omega, h2, h3⟩
def shE (e : (Int × Int × Int × Int)) : Int × Int := (e.2.1 - 288, e.2.2.1)
def takeL (b : List Int) : List (Int × Int) := (entsK b 40).map shE
theorem over_sh (e f : (Int × Int × Int × Int)) : over (shE e) (shE f) = lapB e f := by
 unfold over lapB shE
 dsimp only
 rw [Bool.eq_iff_iff]
 simp only [Bool.and_eq_true, decide_eq_true_eq]
 omega
theorem mem_takeL {x : Int × Int} : x ∈ takeL b ↔ ∃ h : Int, 1 <= h /\ h <= 40 /\ tagAt b h ≠ 0 /\ x = shE (entOf b h) := by
 unfold takeL
 rw [List.mem_map]
 constructor
 ·rintro ⟨e, he, rfl⟩
  obtain ⟨j, h1, h2, rfl⟩ := mem_entsP.1 he
  exact ⟨(j : Int) + 1, by omega, by omega, h2, rfl⟩
 ·rintro ⟨h, h1, h2, ht, rfl⟩
  refine ⟨entOf b h, mem_entsP.2 ⟨(h - 1).toNat, by omega, ?_⟩, rfl⟩
  rw [show (((h - 1).toNat : Nat) : Int) + 1 = h by omega]
  exact ⟨ht, rfl⟩
theorem takeL_len (b : List Int) : (takeL b).length <= 40 := by unfold takeL; rw [List.length_map]; exact entsK_len b 40
theorem take_good (hf : Fine b) : Good ((b.length : Int) - 288) (takeL b) := by
 refine ⟨fun e he => ?_, ?_⟩
 ·obtain ⟨h, h1, h2, ht, rfl⟩ := mem_takeL.1 he
  have := hf.ent h1 h2 ht
  show 0 <= (entOf b h).2.1 - 288 /\ 1 <= (entOf b h).2.2.1 /\ (entOf b h).2.1 - 288 + (entOf b h).2.2.1 <= _
  omega
 ·unfold takeL
  rw [List.pairwise_map]
  have key : ∀ k : Nat, k <= 40 -> (entsK b k).Pairwise (fun x y => over (shE x) (shE y) = false) := by
   intro k
   induction k with
   | zero => intro _; exact List.Pairwise.nil
   | succ k ih =>
    intro hk
    unfold entsK
    rw [List.pairwise_append]
    refine ⟨ih (by omega), ?_, ?_⟩
    ·split
     ·exact List.Pairwise.nil
     ·exact List.pairwise_singleton _ _
    ·intro x hx y hy
     obtain ⟨j, h1, h2, rfl⟩ := mem_entsP.1 hx
     by_cases ht : tagAt b ((k : Int) + 1) = 0
     ·rw [if_pos ht] at hy; cases hy
     ·rw [if_neg ht] at hy
      rw [List.mem_singleton.1 hy, over_sh]
      exact hf.apart (by omega) (by omega) (by omega) (by omega) (by omega) h2 ht
  exact key 40 (Nat.le_refl _)
theorem run_holds : ∀ {s : List (Int × Int)} {f : Int}, Chain f s -> ∀ {p z : Int}, f <= p -> 1 <= z -> p + z <= endOf f s -> (∀ e ∈ s, e.1 + e.2 <= p \/ p + z <= e.1) -> ∃ x ∈ runsOf f s, x.1 <= p /\ p + z <= x.1 + x.2 := by
 intro s
 induction s with
 | nil =>
  intro f _ p z h1 h2 h3 _
  simp only [endOf] at h3
  omega
 | cons e r ih =>
  intro f hc p z h1 h2 h3 h4
  obtain ⟨c1, c2, c3⟩ := hc
  rcases h4 e (by simp) with h | h
  ·obtain ⟨x, hx, h5⟩ := ih c3 h h2 h3 (fun e' he' => h4 e' (by simp [he']))
   exact ⟨x, by unfold runsOf; exact List.mem_append.2 (.inr hx), h5⟩
  ·refine ⟨(f, e.1 - f), ?_, h1, by show p + z <= f + (e.1 - f); omega⟩
   unfold runsOf
   rw [if_pos (by omega)]
   simp
theorem free_holds {n : Int} {l s : List (Int × Int)} (hs : Srt l s) (hg : Good n l) (hn : 0 <= n) {p z : Int} (h1 : 0 <= p) (h2 : 1 <= z) (h3 : p + z <= n) (h4 : ∀ e ∈ l, e.1 + e.2 <= p \/ p + z <= e.1) : ∃ x ∈ freeOf n s, x.1 <= p /\ p + z <= x.1 + x.2 := by
 obtain ⟨c1, c2, _⟩ := hs.chain hg hn
 refine run_holds c1 h1 h2 (by rw [c2]; exact h3) (fun e he => ?_)
 rcases List.mem_append.1 he with he | he
 ·exact h4 e (hs.1.mem_iff.1 he)
 ·rw [List.mem_singleton.1 he]
  exact .inr h3
theorem fit_room {n : Int} {l s : List (Int × Int)} (hs : Srt l s) (hg : Good n l) (hn : 0 <= n) {z : Int} (hz : 1 <= z) (hf : (fitB z (freeOf n s)).2 ≠ 0) :
  0 <= (fitB z (freeOf n s)).1 /\ (fitB z (freeOf n s)).1 + z <= n /\ ∀ e ∈ l, e.1 + e.2 <= (fitB z (freeOf n s)).1 \/ (fitB z (freeOf n s)).1 + z <= e.1 := by
 have hin := hs.freeIn hg hn
 rcases fit_spec hz (fun r hr => (hin r hr).2.1) with ⟨h, _⟩ | ⟨_, h1, h2, _⟩
 ·exact absurd h hf
 ·obtain ⟨q1, q2, q3, q4⟩ := hin _ h1
  refine ⟨q1, by omega, fun e he => ?_⟩
  have := over_no.1 (q4 e he)
  omega
theorem fit_there {n : Int} {l s : List (Int × Int)} (hs : Srt l s) (hg : Good n l) (hn : 0 <= n) {p z : Int} (h1 : 0 <= p) (h2 : 1 <= z) (h3 : p + z <= n) (h4 : ∀ e ∈ l, e.1 + e.2 <= p \/ p + z <= e.1) : (fitB z (freeOf n s)).2 ≠ 0 := by
 obtain ⟨x, hx, h5, h6⟩ := free_holds hs hg hn h1 h2 h3 h4
 rcases fit_spec h2 (fun r hr => (hs.freeIn hg hn r hr).2.1) with ⟨_, h⟩ | ⟨h, _⟩
 ·have := h x hx; omega
 ·omega
def lowH (b : List Int) : Nat := fstN (fun j => decide (tagAt b ((j : Int) + 1) = 0)) 40
theorem lowH_first (b : List Int) : First (fun j => decide (tagAt b ((j : Int) + 1) = 0)) 40 (lowH b) := first_fstN _ _
def alL (b : List Int) (h : Int) (x n : Nat) (t : Int) : List Int := putL (splice b x (zerosB n)) (h, (x : Int), (n : Int), t)
theorem alloc_keep (hf : Fine b) {h t : Int} {x n : Nat} (h1 : 1 <= h) (h2 : h <= 40) (ht0 : tagAt b h = 0) (hn : 1 <= n) (hn2 : n <= 1000) (hx : 288 <= x) (hx2 : x + n <= b.length) (t1 : 0 <= t) (t2 : t <= 15)
  (hno : ∀ k, 1 <= k -> k <= 40 -> tagAt b k ≠ 0 -> (entOf b k).2.1 + (entOf b k).2.2.1 <= x \/ (x : Int) + n <= (entOf b k).2.1) :
  Fine (alL b h x n t) /\ (alL b h x n t).length = b.length /\ objOf (alL b h x n t) h = (t, zerosB n) /\ entOf (alL b h x n t) h = (h, (x : Int), (n : Int), t) /\ tagAt (alL b h x n t) h ≠ 0 /\
   (∀ k, 1 <= k -> k <= 40 -> k ≠ h -> objOf (alL b h x n t) k = objOf b k /\ tagAt (alL b h x n t) k = tagAt b k /\ entOf (alL b h x n t) k = entOf b k) := by
 have hz := length_zerosB n
 obtain ⟨hf1, hl1, he1, ho1⟩ := lay_objs hf (r := zerosB n) hx (by rw [hz]; exact hx2)
 have hp : putE (splice b x (zerosB n)) (h, (x : Int), (n : Int), t) = 0 := putE_zero.2 ⟨hf1.len0, hndB_iff.2 ⟨h1, h2⟩, t1, t2, by show 1 <= (n : Int); omega, by show (n : Int) <= 1000; omega, by show 288 <= (x : Int); omega, by rw [hl1]; show (x : Int) + n <= _; omega⟩
 have h0 : tagAt (splice b x (zerosB n)) h = 0 := by rw [(he1 h h1 h2).1]; exact ht0
 have hno1 : ∀ k, 1 <= k -> k <= 40 -> tagAt (splice b x (zerosB n)) k ≠ 0 -> lapB (h, (x : Int), (n : Int), t) (entOf (splice b x (zerosB n)) k) = false := fun k k1 k2 kt => by
  obtain ⟨e1, e2⟩ := he1 k k1 k2
  rw [e1] at kt
  rw [e2]
  exact lapB_no.2 (hno k k1 k2 kt)
 obtain ⟨p1, p2, p3, p4, p5, p6⟩ := put_fine hf1 hp h0 hno1
 obtain ⟨o1, o2⟩ := put_objs hf1 hp h0 hno1
 refine ⟨p1, p5.trans hl1, ?_, p4, p3, fun k k1 k2 hk => ⟨?_, ?_, ?_⟩⟩
 ·refine o2.trans ?_
  congr 1
  unfold partL
  dsimp only
  rw [Int.toNat_natCast, Int.toNat_natCast]
  apply ext_getD
  ·rw [List.length_take, List.length_drop, hl1, hz]; omega
  ·intro j hj
   rw [List.length_take, List.length_drop] at hj
   have hj2 : j < n := by omega
   have := splice_in (z := b) (l := zerosB n) (off := x) (j := j) (by rw [hz]; exact hx2) (by rw [hz]; exact hj2)
   simp only [List.getD, List.getElem?_take, if_pos hj2, List.getElem?_drop] at this ⊢
   exact this
 ·exact (o1 k k1 k2 hk).trans (ho1 k k1 k2 (fun kt => by rw [hz]; exact hno k k1 k2 kt))
 ·exact (p2 k k1 k2 hk).1.trans (he1 k k1 k2).1
 ·exact (p2 k k1 k2 hk).2.trans (he1 k k1 k2).2
theorem alloc_fit (hf : Fine b) {s : List (Int × Int)} (hs : Srt (takeL b) s) {n : Nat} (hn : 1 <= n) (hfit : (fitB n (freeOf ((b.length : Int) - 288) s)).2 ≠ 0) :
  ∃ x : Nat, (x : Int) = 288 + (fitB n (freeOf ((b.length : Int) - 288) s)).1 /\ 288 <= x /\ x + n <= b.length /\ ∀ k, 1 <= k -> k <= 40 -> tagAt b k ≠ 0 -> (entOf b k).2.1 + (entOf b k).2.2.1 <= x \/ (x : Int) + n <= (entOf b k).2.1 := by
 have hl := hf.len
 obtain ⟨r1, r2, r3⟩ := fit_room hs (take_good hf) (by omega) (z := (n : Int)) (by omega) hfit
 generalize (fitB n (freeOf ((b.length : Int) - 288) s)).1 = y at *
 refine ⟨(288 + y).toNat, by omega, by omega, by omega, fun k k1 k2 kt => ?_⟩
 have := r3 (shE (entOf b k)) (mem_takeL.2 ⟨k, k1, k2, kt, rfl⟩)
 unfold shE at this
 dsimp only at this
 omega
theorem write_keep (hf : Fine b) {h : Int} (h1 : 1 <= h) (h2 : h <= 40) (ht : tagAt b h ≠ 0) {p : Nat} {r : List Int} (hr : (p : Int) + r.length <= (entOf b h).2.2.1) :
  Fine (splice b ((entOf b h).2.1.toNat + p) r) /\ (splice b ((entOf b h).2.1.toNat + p) r).length = b.length /\ (∀ k, 1 <= k -> k <= 40 -> k ≠ h -> objOf (splice b ((entOf b h).2.1.toNat + p) r) k = objOf b k) /\
   (∀ k, 1 <= k -> k <= 40 -> tagAt (splice b ((entOf b h).2.1.toNat + p) r) k = tagAt b k /\ entOf (splice b ((entOf b h).2.1.toNat + p) r) k = entOf b k) /\ partL (splice b ((entOf b h).2.1.toNat + p) r) ((entOf b h).2.1 + p) r.length = r := by
 have he := hf.ent h1 h2 ht
 have hx2 : (entOf b h).2.1.toNat + p + r.length <= b.length := by omega
 obtain ⟨q1, q2, q3, q4⟩ := lay_objs hf (x := (entOf b h).2.1.toNat + p) (r := r) (by omega) hx2
 refine ⟨q1, q2, fun k k1 k2 hk => q4 k k1 k2 (fun kt => ?_), q3, ?_⟩
 ·have := lapB_no.1 (hf.apart h1 h2 k1 k2 (fun e => hk e.symm) ht kt)
  omega
 ·unfold partL
  rw [show ((entOf b h).2.1 + (p : Int)).toNat = (entOf b h).2.1.toNat + p by omega, Int.toNat_natCast]
  apply ext_getD
  ·rw [List.length_take, List.length_drop, q2]; omega
  ·intro j hj
   rw [List.length_take, List.length_drop] at hj
   have hj2 : j < r.length := by omega
   have := splice_in (z := b) (l := r) (off := (entOf b h).2.1.toNat + p) (j := j) hx2 hj2
   simp only [List.getD, List.getElem?_take, if_pos hj2, List.getElem?_drop] at this ⊢
   exact this
end
def lowF (l : List (Int × Int × Int × Int)) : Int := l.foldl (fun h e => if e.1 = h then h + 1 else h) 1
theorem lowF_snoc (l : List (Int × Int × Int × Int)) (e : (Int × Int × Int × Int)) : lowF (l ++ [e]) = if e.1 = lowF l then lowF l + 1 else lowF l := by
 unfold lowF
 rw [List.foldl_append]
 rfl
theorem lowF_ents (b : List Int) : ∀ k : Nat, lowF (entsK b k) = (fstN (fun j => decide (tagAt b ((j : Int) + 1) = 0)) k : Int) + 1
 | 0 => by
  have h := (first_fstN (fun j => decide (tagAt b ((j : Int) + 1) = 0)) 0).1
  have : fstN (fun j => decide (tagAt b ((j : Int) + 1) = 0)) 0 = 0 := by omega
  rw [this]
  rfl
 | k + 1 => by
  have ih := lowF_ents b k
  have h1 := first_fstN (fun j => decide (tagAt b ((j : Int) + 1) = 0)) k
  have h2 := first_fstN (fun j => decide (tagAt b ((j : Int) + 1) = 0)) (k + 1)
  generalize fstN (fun j => decide (tagAt b ((j : Int) + 1) = 0)) k = p at *
  have hp := h1.1
  unfold entsK
  by_cases ht : tagAt b ((k : Int) + 1) = 0
  ·rw [if_pos ht, List.append_nil, ih]
   have h3 : First (fun j => decide (tagAt b ((j : Int) + 1) = 0)) (k + 1) p := ⟨by omega, h1.2.1, fun hlt => by
    by_cases e : p = k
    ·rw [e]; exact decide_eq_true ht
    ·exact h1.2.2 (by omega)⟩
   rw [First.unique h2 h3]
  ·rw [if_neg ht, lowF_snoc, ih]
   by_cases e : p = k
   ·subst e
    rw [if_pos (by show (p : Int) + 1 = p + 1; rfl)]
    have h3 : First (fun j => decide (tagAt b ((j : Int) + 1) = 0)) (p + 1) (p + 1) := ⟨Nat.le_refl _, fun j hj => by
     by_cases ej : j = p
     ·rw [ej]; exact decide_eq_false ht
     ·exact h1.2.1 j (by omega), fun h => absurd h (Nat.lt_irrefl _)⟩
    rw [First.unique h2 h3]
    omega
   ·rw [if_neg (by show ¬ (k : Int) + 1 = p + 1; omega)]
    have h3 : First (fun j => decide (tagAt b ((j : Int) + 1) = 0)) (k + 1) p := ⟨by omega, h1.2.1, fun _ => h1.2.2 (by omega)⟩
    rw [First.unique h2 h3]
theorem lowF_low (b : List Int) : lowF (entsK b 40) = (lowH b : Int) + 1 := lowF_ents b 40
theorem lowH_le (b : List Int) : lowH b <= 40 := (lowH_first b).1
theorem lowF_take {l : List (Int × Int × Int × Int)} {k : Nat} {e : (Int × Int × Int × Int)} (h : l[k]? = some e) : lowF (l.take (k + 1)) = if e.1 = lowF (l.take k) then lowF (l.take k) + 1 else lowF (l.take k) := by
 rw [List.take_add_one, h]
 exact lowF_snoc _ _
theorem lowF_bd : ∀ (l : List (Int × Int × Int × Int)), 1 <= lowF l /\ lowF l <= l.length + 1 := by
 intro l
 have key : ∀ (l : List (Int × Int × Int × Int)) (h : Int), h <= l.foldl (fun h e => if e.1 = h then h + 1 else h) h /\ l.foldl (fun h e => if e.1 = h then h + 1 else h) h <= h + l.length := by
  intro l
  induction l with
  | nil => intro h; simp
  | cons e r ih =>
   intro h
   simp only [List.foldl_cons, List.length_cons]
   have := ih (if e.1 = h then h + 1 else h)
   split at this
   ·rename_i he; rw [if_pos he]; omega
   ·rename_i he; rw [if_neg he]; omega
 have := key l 1
 unfold lowF
 omega
theorem put_lay {b r : List Int} {e : (Int × Int × Int × Int)} {x : Nat} (he : putE b e = 0) (hx : 288 <= x) (hx2 : x + r.length <= b.length) : putE (splice b x r) e = 0 /\ splice (putL b e) x r = putL (splice b x r) e := by
 have hl := length_splice hx2
 obtain ⟨q1, q2, q3⟩ := putE_zero.1 he
 have hh := hndB_iff.1 q2
 have hp := plc_le hh.1 hh.2
 have hr5 : (rowE e).length = 5 := rfl
 have he2 : putE (splice b x r) e = 0 := putE_zero.2 (by rw [hl]; exact ⟨q1, q2, q3⟩)
 refine ⟨he2, ?_⟩
 have hb1 : plc e.1 + (rowE e).length <= b.length := by rw [hr5]; omega
 have hb2 : plc e.1 + (rowE e).length <= (splice b x r).length := by rw [hl]; exact hb1
 have hl1 := length_splice hb1
 have hb3 : x + r.length <= (splice b (plc e.1) (rowE e)).length := by rw [hl1]; exact hx2
 unfold putL
 rw [if_pos he, if_pos he2]
 apply ext_getD
 ·rw [length_splice hb3, hl1, length_splice hb2, hl]
 ·intro j hj
  by_cases c1 : j < plc e.1
  ·rw [splice_out hb3 (.inl (by omega)), splice_out hb1 (.inl c1), splice_out hb2 (.inl c1), splice_out hx2 (.inl (by omega))]
  ·by_cases c2 : j < plc e.1 + 5
   ·obtain ⟨i, rfl⟩ : ∃ i, j = plc e.1 + i := ⟨j - plc e.1, by omega⟩
    rw [splice_out hb3 (.inl (by omega)), splice_in hb1 (by rw [hr5]; omega), splice_in hb2 (by rw [hr5]; omega)]
   ·have c3 : plc e.1 + (rowE e).length <= j := by rw [hr5]; omega
    rw [splice_out hb2 (.inr c3)]
    by_cases c4 : j < x
    ·rw [splice_out hb3 (.inl c4), splice_out hx2 (.inl c4), splice_out hb1 (.inr c3)]
    ·by_cases c5 : j < x + r.length
     ·obtain ⟨i, rfl⟩ : ∃ i, j = x + i := ⟨j - x, by omega⟩
      rw [splice_in hb3 (by omega), splice_in hx2 (by omega)]
     ·rw [splice_out hb3 (.inr (by omega)), splice_out hx2 (.inr (by omega)), splice_out hb1 (.inr c3)]
theorem zeros_fine {n : Nat} (h1 : 288 <= n) (h2 : n <= 6400) : Fine (zerosB n) /\ (∀ h : Int, tagAt (zerosB n) h = 0) /\ ∀ i, i < 8 -> isRoot (rowAt (zerosB n) i) = false := by
 have hl := length_zerosB n
 have ht : ∀ h : Int, tagAt (zerosB n) h = 0 := fun h => by unfold tagAt; exact zeros_at n _
 have hr : ∀ i, i < 8 -> isRoot (rowAt (zerosB n) i) = false := fun i hi => root_zero (by omega) hi (fun j _ => zeros_at n _)
 refine ⟨fine_of (lenB_iff.2 (by rw [hl]; omega)) (fun h _ _ q => absurd (ht h) q) (fun h _ _ _ _ _ q _ => absurd (ht h) q) (fun h a1 a2 _ => (ent_zero (by omega) a1 a2 (fun j _ => zeros_at n _)).2) (fun _ i hi => rFault_nil.2 (.inl (hr i hi))), ht, hr⟩
theorem alL_tail {b : List Int} (hf : Fine b) {h t : Int} {x n : Nat} (he : putE (splice b x (zerosB n)) (h, (x : Int), (n : Int), t) = 0) (h1 : 1 <= h) (h2 : h <= 40) (hx : 288 <= x) (hx2 : x + n <= b.length) : ∀ j, 200 <= j -> j < 288 -> (alL b h x n t).getD j 0 = b.getD j 0 := fun j hj hj2 => by
 have hz := length_zerosB n
 have hb := hf.len
 have hp := plc_le h1 h2
 have hr5 : (rowE (h, (x : Int), (n : Int), t)).length = 5 := rfl
 unfold alL putL
 rw [if_pos he]
 dsimp only
 rw [splice_out (by rw [hr5, length_splice (by rw [hz]; exact hx2)]; omega) (by rw [hr5]; exact .inr (by omega)), splice_out (by rw [hz]; exact hx2) (.inl (by omega))]
structure HF (b : List Int) (s i : Nat) : Prop where
 fine : Fine b
 len : b.length = 6400
 is : ∀ h : Int, 1 <= h -> h <= i -> h <= 40 -> tagAt b h ≠ 0 /\ entOf b h = (h, 288 + (h - 1) * s, (s : Int), 0)
 no : ∀ h : Int, (i : Int) < h -> h <= 40 -> tagAt b h = 0
 rows : ∀ j, j < 8 -> isRoot (rowAt b j) = false
theorem HF.start (s : Nat) : HF (zerosB 6400) s 0 := by
 obtain ⟨h1, h2, h3⟩ := zeros_fine (n := 6400) (by decide) (by decide)
 exact ⟨h1, length_zerosB 6400, fun h a b c => by omega, fun h _ _ => h2 h, h3⟩
def rowX (s i : Nat) : List (Int × Int) := (List.range i).map (fun j : Nat => ((j : Int) * s, (s : Int)))
theorem rowX_succ (s i : Nat) : rowX s (i + 1) = rowX s i ++ [((i : Int) * s, (s : Int))] := by unfold rowX; rw [List.range_succ, List.map_append]; rfl
theorem rowX_runs (s : Nat) : ∀ i, runsOf 0 (rowX s i) = [] /\ endOf 0 (rowX s i) = (i : Int) * s
 | 0 => ⟨rfl, by simp [rowX, endOf]⟩
 | i + 1 => by
  obtain ⟨h1, h2⟩ := rowX_runs s i
  rw [rowX_succ, runsOf_append, endOf_append, h1, h2]
  refine ⟨?_, ?_⟩
  ·simp [runsOf]
  ·simp only [endOf]
   rw [show ((i + 1 : Nat) : Int) = (i : Int) + 1 by omega, Int.add_mul, Int.one_mul]
theorem rowX_free (s i : Nat) (n : Int) (h : (i : Int) * s < n) : freeOf n (rowX s i) = [((i : Int) * s, n - (i : Int) * s)] := by
 obtain ⟨h1, h2⟩ := rowX_runs s i
 unfold freeOf
 rw [runsOf_append, h1, h2]
 simp [runsOf, h]
theorem HF.take {b : List Int} {s i : Nat} (h : HF b s i) (hi : i <= 40) : takeL b = rowX s i := by
 have key : ∀ k : Nat, k <= 40 -> (entsK b k).map shE = rowX s (min k i) := by
  intro k
  induction k with
  | zero => intro _; simp [entsK, rowX]
  | succ k ih =>
   intro hk
   unfold entsK
   rw [List.map_append, ih (by omega)]
   by_cases hki : k < i
   ·obtain ⟨e1, e2⟩ := h.is ((k : Int) + 1) (by omega) (by omega) (by omega)
    rw [if_neg e1, e2, Nat.min_eq_left (by omega), Nat.min_eq_left (by omega), rowX_succ]
    congr 1
    simp only [List.map_cons, List.map_nil, shE]
    congr 2
    rw [show (k : Int) + 1 - 1 = k by omega]
    omega
   ·rw [if_pos (h.no _ (by omega) (by omega)), Nat.min_eq_right (by omega), Nat.min_eq_right (by omega)]
    simp
 have := key 40 (Nat.le_refl _)
 rw [Nat.min_eq_right hi] at this
 exact this
theorem rowX_sorted (s i : Nat) (hs : 1 <= s) : (rowX s i).Pairwise (fun a b => a.1 < b.1) := by
 unfold rowX
 rw [List.pairwise_map]
 refine (List.pairwise_lt_range (n := i)).imp (fun {a b} hab => ?_)
 show (a : Int) * s < (b : Int) * s
 exact Int.mul_lt_mul_of_pos_right (by omega) (by omega)
theorem HF.fit {b : List Int} {s i : Nat} (h : HF b s i) (hi : i < 40) (hs : 1 <= s) (hs2 : s <= 150) {t : List (Int × Int)} (ht : Srt (takeL b) t) : fitB s (freeOf ((b.length : Int) - 288) t) = ((i : Int) * s, 6112 - (i : Int) * s) := by
 rw [h.take (by omega)] at ht
 have e : t = rowX s i := srt_unique ht.1 ht.2 (rowX_sorted s i hs)
 have hm : (i : Int) * s <= 39 * 150 := by
  have h1 : (i : Int) * s <= 39 * (s : Int) := Int.mul_le_mul_of_nonneg_right (by omega) (by omega)
  omega
 rw [e, h.len, show ((6400 : Nat) : Int) - 288 = 6112 by decide, rowX_free s i 6112 (by omega)]
 unfold fitB
 simp only [List.foldl, fitStep]
 rw [if_pos ⟨by omega, .inl trivial⟩]
theorem HF.low {b : List Int} {s i : Nat} (h : HF b s i) (hi : i <= 40) : lowH b = i := by
 refine First.unique (lowH_first b) ⟨hi, fun j hj => ?_, fun hlt => ?_⟩
 ·exact decide_eq_false (h.is ((j : Int) + 1) (by omega) (by omega) (by omega)).1
 ·exact decide_eq_true (h.no ((i : Int) + 1) (by omega) (by omega))
theorem HF.next {b : List Int} {s i : Nat} (h : HF b s i) (hi : i < 40) (hs : 1 <= s) (hs2 : s <= 150) : HF (alL b ((i : Int) + 1) (288 + i * s) s 0) s (i + 1) := by
 have hm : i * s <= 39 * 150 := Nat.le_trans (Nat.mul_le_mul (show i <= 39 by omega) hs2) (by decide)
 have hx2 : 288 + i * s + s <= b.length := by rw [h.len]; omega
 have h0 := h.no ((i : Int) + 1) (by omega) (by omega)
 have hno : ∀ k, 1 <= k -> k <= 40 -> tagAt b k ≠ 0 -> (entOf b k).2.1 + (entOf b k).2.2.1 <= ((288 + i * s : Nat) : Int) \/ ((288 + i * s : Nat) : Int) + s <= (entOf b k).2.1 := fun k k1 k2 kt => by
  have hki : k <= i := Classical.byContradiction fun hc => kt (h.no k (by omega) k2)
  rw [(h.is k k1 hki k2).2]
  left
  show 288 + (k - 1) * (s : Int) + (s : Int) <= ((288 + i * s : Nat) : Int)
  have : (k - 1) * (s : Int) + s = k * s := by rw [Int.sub_mul, Int.one_mul]; omega
  have h3 : k * (s : Int) <= (i : Int) * s := Int.mul_le_mul_of_nonneg_right hki (by omega)
  have h4 : ((288 + i * s : Nat) : Int) = 288 + (i : Int) * s := by omega
  omega
 obtain ⟨a1, a2, a3, a4, a5, a6⟩ := alloc_keep (t := 0) h.fine (by omega) (by omega) h0 hs (by omega) (by omega) hx2 (by decide) (by decide) hno
 have hz := length_zerosB s
 have hp : putE (splice b (288 + i * s) (zerosB s)) ((i : Int) + 1, ((288 + i * s : Nat) : Int), (s : Int), 0) = 0 := by
  have hl : (splice b (288 + i * s) (zerosB s)).length = b.length := length_splice (by rw [hz]; exact hx2)
  exact putE_zero.2 ⟨by rw [hl]; exact h.fine.len0, hndB_iff.2 ⟨by show 1 <= (i : Int) + 1; omega, by show (i : Int) + 1 <= 40; omega⟩, Int.le_refl _, (by show (0 : Int) <= 15; decide), by show 1 <= (s : Int); omega, by show (s : Int) <= 1000; omega, by show 288 <= ((288 + i * s : Nat) : Int); omega, by rw [hl]; show ((288 + i * s : Nat) : Int) + s <= _; omega⟩
 refine ⟨a1, a2.trans h.len, fun k k1 k2 k3 => ?_, fun k k1 k2 => ?_, fun j hj => ?_⟩
 ·by_cases e : k = (i : Int) + 1
  ·subst e
   refine ⟨a5, a4.trans ?_⟩
   rw [show (i : Int) + 1 - 1 = i by omega, show ((288 + i * s : Nat) : Int) = 288 + (i : Int) * s by omega]
  ·obtain ⟨_, b2, b3⟩ := a6 k k1 k3 e
   rw [b2, b3]
   exact h.is k k1 (by omega) k3
 ·obtain ⟨_, b2, _⟩ := a6 k (by omega) k2 (by omega)
  rw [b2]
  exact h.no k (by omega) k2
 ·have : rowAt (alL b ((i : Int) + 1) (288 + i * s) s 0) j = rowAt b j := by
   apply ext_getD
   ·rw [rowAt_len (by rw [a2, h.len]; omega), rowAt_len (by rw [h.len]; omega)]
   ·intro q hq
    rw [rowAt_len (by rw [a2, h.len]; omega)] at hq
    rw [rowAt_getD hq, rowAt_getD hq]
    exact alL_tail h.fine hp (by omega) (by omega) (by omega) hx2 _ (by omega) (by omega)
  rw [this]
  exact h.rows j hj
theorem HF.freed {b : List Int} {s : Nat} (h : HF b s 40) (hs : 1 <= s) (hs2 : s <= 150) {f : Nat} (f1 : 1 <= f) (f2 : f <= 40) :
  chkE b f = 0 /\ Fine (dropL b f) /\ lowH (dropL b f) = f - 1 /\ chkE (dropL b f) f = 5 /\ (dropL b f).length = 6400 /\ ∀ t, Srt (takeL (dropL b f)) t -> (fitB s (freeOf (((dropL b f).length : Int) - 288) t)).2 ≠ 0 := by
 have hpr := h.is f (by omega) (by omega) (by omega)
 have hck : chkE b f = 0 := chkE_zero.2 ⟨h.fine.len0, hndB_iff.2 ⟨by omega, by omega⟩, hpr.1⟩
 obtain ⟨d1, d2, d3, d4, d5⟩ := drop_fine h.fine hck (fun i hi hr => by rw [h.rows i hi] at hr; cases hr)
 refine ⟨hck, d1, ?_, drop_none hck, d4.trans h.len, fun t ht => ?_⟩
 ·refine First.unique (lowH_first _) ⟨by omega, fun j hj => ?_, fun _ => ?_⟩
  ·obtain ⟨e1, _⟩ := d2 ((j : Int) + 1) (by omega) (by omega) (by omega)
   refine decide_eq_false ?_
   rw [e1]
   exact (h.is ((j : Int) + 1) (by omega) (by omega) (by omega)).1
  ·refine decide_eq_true ?_
   rw [show (((f - 1 : Nat) : Int) + 1) = (f : Int) by omega]
   exact d3
 ·have hm : (f : Int) * s <= 6000 := by
   have h1 : (f : Int) * s <= 40 * (s : Int) := Int.mul_le_mul_of_nonneg_right (by omega) (by omega)
   omega
  have hfs : ((f : Int) - 1) * s + s = (f : Int) * s := by rw [Int.sub_mul, Int.one_mul]; omega
  have h0 : 0 <= ((f : Int) - 1) * s := Int.mul_nonneg (by omega) (by omega)
  refine fit_there ht (take_good d1) (by rw [d4, h.len]; decide) (p := ((f : Int) - 1) * s) h0 (by omega) (by rw [d4, h.len]; show _ <= ((6400 : Nat) : Int) - 288; omega) (fun e he => ?_)
  obtain ⟨k, k1, k2, kt, rfl⟩ := mem_takeL.1 he
  have hkf : k ≠ f := fun e => kt (by rw [e]; exact d3)
  rw [(d2 k k1 k2 hkf).2, (h.is k k1 (by omega) k2).2]
  unfold shE
  dsimp only
  have hks : (k - 1) * (s : Int) + s = k * s := by rw [Int.sub_mul, Int.one_mul]; omega
  rcases Int.lt_or_gt_of_ne hkf with hlt | hlt
  ·left
   have : k * (s : Int) <= ((f : Int) - 1) * s := Int.mul_le_mul_of_nonneg_right (by omega) (by omega)
   omega
  ·right
   have : (f : Int) * s <= (k - 1) * (s : Int) := Int.mul_le_mul_of_nonneg_right (by omega) (by omega)
   omega
end Go.Proofs.YtifmemombecoaaaGreatDoor
