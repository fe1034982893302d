/-
  Joined by program: ChPlain; ChMend; ChSame; HpHead; HpPut; HpFit; HpFr; HpLow; ExFit; HpAl; HpPc; HpRow; Turn; HpA; HpFull; BytesClone; HpB; HpSame; Fresh. (Parts of the proofs over the packages of the program.)
-/
import Derived.Test.YtopblhmbjdfebaaGreatImPlain
import Derived.Test.YtopblhmbjdfebaaGreatExPlain
import Derived.Test.YtopblhmbjdfebaaGreatImE
import Derived.Test.YtopblhmbjdfebaaGreatLaws
import Derived.Test.YtopblhmbjdfebaaGreatOwnV
import Derived.Test.YtopblhmbjdfebaaGreatNumPut
import Derived.Test.YtopblhmbjdfebaaGreatProg
import Derived.Test.YtopblhmbjdfebaaGreatOwn
/-! What is wrong with an image, and the image without it, as plain lists. (Part of the proofs over package check.) -/
namespace Go.Proofs.YtopblhmbjdfebaaGreat
open Go.RowKit
set_option linter.unusedVariables false

/-! ### handles -/
/-- Is it one, and not Stray? -/
def okE (b : List Int) (h : Int) : Bool := decide (tagAt b h ≠ 0) && decide (putE b (entOf b h) = 0)
/-- Are two extents over each other? -/
def lapB (e f : (Int × Int × Int × Int)) : Bool := decide (e.2.1 < f.2.1 + f.2.2.1) && decide (f.2.1 < e.2.1 + e.2.2.1)
/-- Is it over one of a lesser handle that is one, and not Stray? (Of the k least.) -/
def lapK (b : List Int) (h : Int) : Nat → Bool
  | 0 => false
  | k + 1 => lapK b h k || (okE b ((k : Int) + 1) && lapB (entOf b h) (entOf b ((k : Int) + 1)))
theorem lapK_iff {b : List Int} {h : Int} : ∀ {k : Nat}, lapK b h k = true ↔ ∃ j : Nat, j < k ∧ okE b ((j : Int) + 1) = true ∧ lapB (entOf b h) (entOf b ((j : Int) + 1)) = true
  | 0 => by simp [lapK]
  | k + 1 => by
    unfold lapK
    rw [Bool.or_eq_true, Bool.and_eq_true, lapK_iff]
    constructor
    · rintro (⟨j, h1, h2⟩ | h2)
      · exact ⟨j, by omega, h2⟩
      · exact ⟨k, by omega, h2⟩
    · rintro ⟨j, h1, h2⟩
      by_cases e : j = k
      · subst e; exact .inr h2
      · exact .inl ⟨j, by omega, h2⟩
/-- What a handle is: 0 none, 1 right, 2 over, 3 stray. -/
def whE (b : List Int) (h : Int) : Int := if tagAt b h = 0 then 0 else if putE b (entOf b h) ≠ 0 then 3 else if lapK b h (h - 1).toNat = true then 2 else 1
/-- The faults of a handle: what, and which. -/
def hFault (b : List Int) (h : Int) : List (Int × Int) :=
  if whE b h = 0 then (if (entOf b h).2.1 = 0 ∧ (entOf b h).2.2.1 = 0 then [] else [(3, h)]) else if whE b h = 3 then [(1, h)] else if whE b h = 2 then [(2, h)] else []
def hFK (b : List Int) : Nat → List (Int × Int)
  | 0 => []
  | k + 1 => hFK b k ++ hFault b ((k : Int) + 1)

/-! ### roots -/
def badR (b : List Int) (i : Nat) : Bool :=
  decide ((readOut ((rowAt b i).take 8)).2 ≠ 0) || (decide ((rowAt b i).getD 8 0 ≠ 0) || (decide ((rowAt b i).getD 9 0 ≠ 0) || (!hndB ((rowAt b i).getD 10 0) || decide (whE b ((rowAt b i).getD 10 0) ≠ 1))))
def nameAt (b : List Int) (i : Nat) : ByteArray := (readOut ((rowAt b i).take 8)).1
/-- Is it one that has no fault, the names ahead being these? -/
def fineR (b : List Int) (i : Nat) (ns : List ByteArray) : Bool := isRoot (rowAt b i) && (!badR b i && !ns.contains (nameAt b i))
/-- The names of the roots ahead that have no fault. -/
def nmsK (b : List Int) : Nat → List ByteArray
  | 0 => []
  | k + 1 => nmsK b k ++ if fineR b k (nmsK b k) = true then [nameAt b k] else []
def rFault (b : List Int) (i : Nat) : List (Int × Int) :=
  if isRoot (rowAt b i) = false then [] else if badR b i = true then [(4, i)] else if (nmsK b i).contains (nameAt b i) = true then [(5, i)] else []
def rFK (b : List Int) : Nat → List (Int × Int)
  | 0 => []
  | k + 1 => rFK b k ++ rFault b k
/-- What is wrong with an image. -/
def faults (b : List Int) : List (Int × Int) := hFK b 40 ++ rFK b 8

theorem mem_hFK {b : List Int} {f : Int × Int} : ∀ {k : Nat}, f ∈ hFK b k ↔ ∃ j : Nat, j < k ∧ f ∈ hFault b ((j : Int) + 1)
  | 0 => by simp [hFK]
  | k + 1 => by
    unfold hFK
    rw [List.mem_append, mem_hFK]
    constructor
    · rintro (⟨j, h1, h2⟩ | h2)
      · exact ⟨j, by omega, h2⟩
      · exact ⟨k, by omega, h2⟩
    · rintro ⟨j, h1, h2⟩
      by_cases e : j = k
      · subst e; exact .inr h2
      · exact .inl ⟨j, by omega, h2⟩
theorem mem_rFK {b : List Int} {f : Int × Int} : ∀ {k : Nat}, f ∈ rFK b k ↔ ∃ j : Nat, j < k ∧ f ∈ rFault b j
  | 0 => by simp [rFK]
  | k + 1 => by
    unfold rFK
    rw [List.mem_append, mem_rFK]
    constructor
    · rintro (⟨j, h1, h2⟩ | h2)
      · exact ⟨j, by omega, h2⟩
      · exact ⟨k, by omega, h2⟩
    · rintro ⟨j, h1, h2⟩
      by_cases e : j = k
      · subst e; exact .inr h2
      · exact .inl ⟨j, by omega, h2⟩
theorem hFault_mem {b : List Int} {h : Int} {f : Int × Int} (hf : f ∈ hFault b h) : f.2 = h ∧ 1 ≤ f.1 ∧ f.1 ≤ 3 := by
  unfold hFault at hf
  by_cases h0 : whE b h = 0
  · rw [if_pos h0] at hf
    by_cases h1 : (entOf b h).2.1 = 0 ∧ (entOf b h).2.2.1 = 0
    · rw [if_pos h1] at hf; cases hf
    · rw [if_neg h1] at hf
      rw [List.mem_singleton.1 hf]; exact ⟨rfl, by dsimp only; omega, by dsimp only; omega⟩
  · rw [if_neg h0] at hf
    by_cases h3 : whE b h = 3
    · rw [if_pos h3] at hf
      rw [List.mem_singleton.1 hf]; exact ⟨rfl, by dsimp only; omega, by dsimp only; omega⟩
    · rw [if_neg h3] at hf
      by_cases h2 : whE b h = 2
      · rw [if_pos h2] at hf
        rw [List.mem_singleton.1 hf]; exact ⟨rfl, by dsimp only; omega, by dsimp only; omega⟩
      · rw [if_neg h2] at hf; cases hf
theorem rFault_mem {b : List Int} {i : Nat} {f : Int × Int} (hf : f ∈ rFault b i) : f.2 = i ∧ 4 ≤ f.1 ∧ f.1 ≤ 5 := by
  unfold rFault at hf
  by_cases h0 : isRoot (rowAt b i) = false
  · rw [if_pos h0] at hf; cases hf
  · rw [if_neg h0] at hf
    by_cases h3 : badR b i = true
    · rw [if_pos h3] at hf
      rw [List.mem_singleton.1 hf]; exact ⟨rfl, by dsimp only; omega, by dsimp only; omega⟩
    · rw [if_neg h3] at hf
      by_cases h2 : (nmsK b i).contains (nameAt b i) = true
      · rw [if_pos h2] at hf
        rw [List.mem_singleton.1 hf]; exact ⟨rfl, by dsimp only; omega, by dsimp only; omega⟩
      · rw [if_neg h2] at hf; cases hf
theorem hFault_len (b : List Int) (h : Int) : (hFault b h).length ≤ 1 := by
  unfold hFault
  repeat' split
  all_goals simp
theorem rFault_len (b : List Int) (i : Nat) : (rFault b i).length ≤ 1 := by
  unfold rFault
  repeat' split
  all_goals simp
theorem hFK_len (b : List Int) (k : Nat) : (hFK b k).length ≤ k := by
  induction k with
  | zero => exact Nat.le_refl _
  | succ k ih => unfold hFK; rw [List.length_append]; have := hFault_len b ((k : Int) + 1); omega
theorem rFK_len (b : List Int) (k : Nat) : (rFK b k).length ≤ k := by
  induction k with
  | zero => exact Nat.le_refl _
  | succ k ih => unfold rFK; rw [List.length_append]; have := rFault_len b k; omega
theorem nmsK_len (b : List Int) (k : Nat) : (nmsK b k).length ≤ k := by
  induction k with
  | zero => exact Nat.le_refl _
  | succ k ih => unfold nmsK; rw [List.length_append]; split <;> simp <;> omega
theorem faults_len (b : List Int) : (faults b).length ≤ 48 := by
  unfold faults
  rw [List.length_append]
  have := hFK_len b 40
  have := rFK_len b 8
  omega

/-! ### what is mended -/
/-- An image of which the bytes of a fault are 0. -/
def wipeF (b : List Int) (f : Int × Int) : List Int := if 3 < f.1 then splice b (200 + 11 * f.2.toNat) (zerosB 11) else splice b (plc f.2) (zerosB 5)
def wipes (b : List Int) (l : List (Int × Int)) : List Int := l.foldl wipeF b
def mendL (b : List Int) : List Int := wipes b (faults b)
/-- A fault as there may be one: of a handle, or of a root. -/
def FaultOk (f : Int × Int) : Prop := (f.1 ≤ 3 ∧ 1 ≤ f.2 ∧ f.2 ≤ 40) ∨ (3 < f.1 ∧ 0 ≤ f.2 ∧ f.2 ≤ 7)
/-- Is a byte one of a fault's? -/
def cov (f : Int × Int) (j : Nat) : Prop := (f.1 ≤ 3 ∧ plc f.2 ≤ j ∧ j < plc f.2 + 5) ∨ (3 < f.1 ∧ 200 + 11 * f.2.toNat ≤ j ∧ j < 211 + 11 * f.2.toNat)
theorem faults_ok {b : List Int} {f : Int × Int} (hf : f ∈ faults b) : FaultOk f := by
  unfold faults at hf
  rcases List.mem_append.1 hf with hf | hf
  · obtain ⟨j, hj, hf⟩ := mem_hFK.1 hf
    have := hFault_mem hf
    exact .inl (by omega)
  · obtain ⟨j, hj, hf⟩ := mem_rFK.1 hf
    have := rFault_mem hf
    exact .inr (by omega)
theorem zeros_at (n j : Nat) : (zerosB n).getD j 0 = 0 := by
  have := zeros_getD n 0 j
  rwa [List.drop_zero] at this
theorem wipeF_len {b : List Int} {f : Int × Int} (hb : 288 ≤ b.length) (hf : FaultOk f) : (wipeF b f).length = b.length := by
  unfold wipeF
  rcases hf with ⟨h1, h2, h3⟩ | ⟨h1, h2, h3⟩
  · rw [if_neg (by omega)]
    have := plc_le h2 h3
    exact length_splice (by rw [length_zerosB]; omega)
  · rw [if_pos h1]
    exact length_splice (by rw [length_zerosB]; omega)
theorem wipeF_in {b : List Int} {f : Int × Int} {j : Nat} (hb : 288 ≤ b.length) (hf : FaultOk f) (hc : cov f j) : (wipeF b f).getD j 0 = 0 := by
  unfold wipeF
  rcases hf with ⟨h1, h2, h3⟩ | ⟨h1, h2, h3⟩
  · rw [if_neg (by omega)]
    have hp := plc_le h2 h3
    rcases hc with ⟨_, c1, c2⟩ | ⟨c0, _, _⟩
    · obtain ⟨i, rfl⟩ : ∃ i, j = plc f.2 + i := ⟨j - plc f.2, by omega⟩
      rw [splice_in (by rw [length_zerosB]; omega) (by rw [length_zerosB]; omega), zeros_at]
    · omega
  · rw [if_pos h1]
    rcases hc with ⟨c0, _, _⟩ | ⟨_, c1, c2⟩
    · omega
    · obtain ⟨i, rfl⟩ : ∃ i, j = 200 + 11 * f.2.toNat + i := ⟨j - (200 + 11 * f.2.toNat), by omega⟩
      rw [splice_in (by rw [length_zerosB]; omega) (by rw [length_zerosB]; omega), zeros_at]
theorem wipeF_out {b : List Int} {f : Int × Int} {j : Nat} (hb : 288 ≤ b.length) (hf : FaultOk f) (hc : ¬ cov f j) : (wipeF b f).getD j 0 = b.getD j 0 := by
  unfold wipeF
  unfold cov at hc
  rcases hf with ⟨h1, h2, h3⟩ | ⟨h1, h2, h3⟩
  · rw [if_neg (by omega)]
    have hp := plc_le h2 h3
    exact splice_out (by rw [length_zerosB]; omega) (by rw [length_zerosB]; omega)
  · rw [if_pos h1]
    exact splice_out (by rw [length_zerosB]; omega) (by rw [length_zerosB]; omega)
theorem wipes_len : ∀ {l : List (Int × Int)} {b : List Int}, 288 ≤ b.length → (∀ f ∈ l, FaultOk f) → (wipes b l).length = b.length
  | [], b, _, _ => rfl
  | f :: l, b, hb, h => by
    have h1 := wipeF_len hb (h f (by simp))
    show (wipes (wipeF b f) l).length = _
    rw [wipes_len (by omega) (fun g hg => h g (by simp [hg])), h1]
theorem wipes_out : ∀ {l : List (Int × Int)} {b : List Int} {j : Nat}, 288 ≤ b.length → (∀ f ∈ l, FaultOk f) → (∀ f ∈ l, ¬ cov f j) → (wipes b l).getD j 0 = b.getD j 0
  | [], b, j, _, _, _ => rfl
  | f :: l, b, j, hb, h, hc => by
    have h1 := wipeF_len hb (h f (by simp))
    show (wipes (wipeF b f) l).getD j 0 = _
    rw [wipes_out (by omega) (fun g hg => h g (by simp [hg])) (fun g hg => hc g (by simp [hg])), wipeF_out hb (h f (by simp)) (hc f (by simp))]
theorem wipes_zero : ∀ {l : List (Int × Int)} {b : List Int} {j : Nat}, 288 ≤ b.length → (∀ f ∈ l, FaultOk f) → b.getD j 0 = 0 → (wipes b l).getD j 0 = 0
  | [], b, j, _, _, hz => hz
  | f :: l, b, j, hb, h, hz => by
    have h1 := wipeF_len hb (h f (by simp))
    show (wipes (wipeF b f) l).getD j 0 = _
    refine wipes_zero (by omega) (fun g hg => h g (by simp [hg])) ?_
    by_cases hc : cov f j
    · exact wipeF_in hb (h f (by simp)) hc
    · rw [wipeF_out hb (h f (by simp)) hc]; exact hz
theorem wipes_in : ∀ {l : List (Int × Int)} {b : List Int} {j : Nat} {f : Int × Int}, 288 ≤ b.length → (∀ f ∈ l, FaultOk f) → f ∈ l → cov f j → (wipes b l).getD j 0 = 0
  | [], b, j, f, _, _, hf, _ => by cases hf
  | g :: l, b, j, f, hb, h, hf, hc => by
    have h1 := wipeF_len hb (h g (by simp))
    show (wipes (wipeF b g) l).getD j 0 = _
    rcases List.mem_cons.1 hf with rfl | hf
    · exact wipes_zero (by omega) (fun g hg => h g (by simp [hg])) (wipeF_in hb (h f (by simp)) hc)
    · exact wipes_in (by omega) (fun g hg => h g (by simp [hg])) hf hc
end Go.Proofs.YtopblhmbjdfebaaGreat
/-! What is mended is right, and what was right in it is there as it was; plain lists. (Part of the proofs over package check.) -/
namespace Go.Proofs.YtopblhmbjdfebaaGreat
open Go.RowKit
set_option linter.unusedVariables false

section
variable {b : List Int}
theorem mendL_len (hb : 288 ≤ b.length) : (mendL b).length = b.length := wipes_len hb (fun f hf => faults_ok hf)
/-- Has a handle no fault? -/
theorem mend_out {j : Nat} (hb : 288 ≤ b.length) (h : ∀ f ∈ faults b, ¬ cov f j) : (mendL b).getD j 0 = b.getD j 0 := wipes_out hb (fun f hf => faults_ok hf) h
theorem mend_in {j : Nat} {f : Int × Int} (hb : 288 ≤ b.length) (hf : f ∈ faults b) (hc : cov f j) : (mendL b).getD j 0 = 0 := wipes_in hb (fun f hf => faults_ok hf) hf hc
theorem mend_zero {j : Nat} (hb : 288 ≤ b.length) (hz : b.getD j 0 = 0) : (mendL b).getD j 0 = 0 := wipes_zero hb (fun f hf => faults_ok hf) hz
/-- From Head on nothing is another. -/
theorem mend_body {j : Nat} (hb : 288 ≤ b.length) (hj : 288 ≤ j) : (mendL b).getD j 0 = b.getD j 0 := by
  refine mend_out hb (fun f hf hc => ?_)
  have := faults_ok hf
  rcases this with ⟨h1, h2, h3⟩ | ⟨h1, h2, h3⟩
  · have := plc_le h2 h3
    rcases hc with ⟨_, c1, c2⟩ | ⟨c0, _, _⟩ <;> omega
  · rcases hc with ⟨c0, _, _⟩ | ⟨_, c1, c2⟩ <;> omega
/-- The faults of a handle, among all. -/
theorem faults_hand {h : Int} {f : Int × Int} (h1 : 1 ≤ h) (h2 : h ≤ 40) (hf : f ∈ hFault b h) : f ∈ faults b := by
  unfold faults
  refine List.mem_append.2 (.inl (mem_hFK.2 ⟨(h - 1).toNat, by omega, ?_⟩))
  rw [show (((h - 1).toNat : Nat) : Int) + 1 = h by omega]
  exact hf
theorem faults_root {i : Nat} {f : Int × Int} (hi : i < 8) (hf : f ∈ rFault b i) : f ∈ faults b := by
  unfold faults
  exact List.mem_append.2 (.inr (mem_rFK.2 ⟨i, hi, hf⟩))
/-- Which faults cover a byte of a handle: those of that handle. -/
theorem cov_hand {h : Int} {f : Int × Int} {j : Nat} (h1 : 1 ≤ h) (h2 : h ≤ 40) (hf : f ∈ faults b) (hc : cov f (plc h + j)) (hj : j < 5) : f ∈ hFault b h := by
  have hp := plc_le h1 h2
  unfold faults at hf
  rcases List.mem_append.1 hf with hf | hf
  · obtain ⟨i, hi, hf⟩ := mem_hFK.1 hf
    have hm := hFault_mem hf
    rcases hc with ⟨_, c1, c2⟩ | ⟨c0, _, _⟩
    · rw [hm.1] at c1 c2
      have : ((i : Int) + 1) = h := by
        unfold plc at c1 c2
        omega
      rw [this] at hf
      exact hf
    · omega
  · obtain ⟨i, hi, hf⟩ := mem_rFK.1 hf
    have hm := rFault_mem hf
    rcases hc with ⟨c0, _, _⟩ | ⟨_, c1, c2⟩ <;> omega
theorem cov_root {i : Nat} {f : Int × Int} {j : Nat} (hi : i < 8) (hf : f ∈ faults b) (hc : cov f (200 + 11 * i + j)) (hj : j < 11) : f ∈ rFault b i := by
  unfold faults at hf
  rcases List.mem_append.1 hf with hf | hf
  · obtain ⟨k, hk, hf⟩ := mem_hFK.1 hf
    have hm := hFault_mem hf
    have hp := plc_le (h := (k : Int) + 1) (by omega) (by omega)
    rcases hc with ⟨_, c1, c2⟩ | ⟨c0, _, _⟩
    · rw [hm.1] at c2; omega
    · omega
  · obtain ⟨k, hk, hf⟩ := mem_rFK.1 hf
    have hm := rFault_mem hf
    rcases hc with ⟨c0, _, _⟩ | ⟨_, c1, c2⟩
    · omega
    · have : k = i := by omega
      subst this
      exact hf
theorem cov_of_hand {h : Int} {f : Int × Int} {j : Nat} (hf : f ∈ hFault b h) (hj : j < 5) : cov f (plc h + j) := by
  have hm := hFault_mem hf
  exact .inl ⟨hm.2.2, by rw [hm.1]; omega, by rw [hm.1]; omega⟩
theorem cov_of_root {i : Nat} {f : Int × Int} {j : Nat} (hf : f ∈ rFault b i) (hj : j < 11) : cov f (200 + 11 * i + j) := by
  have hm := rFault_mem hf
  exact .inr ⟨by omega, by omega, by omega⟩

/-! ### handles -/
theorem entOf_same {c : List Int} {h : Int} (hlen : c.length = b.length) (hb : 288 ≤ b.length) (h1 : 1 ≤ h) (h2 : h ≤ 40) (hs : ∀ j, j < 5 → c.getD (plc h + j) 0 = b.getD (plc h + j) 0) : tagAt c h = tagAt b h ∧ entOf c h = entOf b h := by
  have hp := plc_le h1 h2
  have e0 := hs 0 (by omega)
  rw [Nat.add_zero] at e0
  have ht : tagAt c h = tagAt b h := e0
  refine ⟨ht, ?_⟩
  unfold entOf
  rw [ht, getV_two _ _ (by omega), getV_two _ _ (by omega), getV_two b _ (by omega), getV_two b _ (by omega)]
  have e1 := hs 1 (by omega)
  have e2 := hs 2 (by omega)
  have e3 := hs 3 (by omega)
  have e4 := hs 4 (by omega)
  rw [e1, show plc h + 1 + 1 = plc h + 2 by omega, e2, e3, show plc h + 3 + 1 = plc h + 4 by omega, e4]
theorem mend_same {h : Int} (hb : 288 ≤ b.length) (h1 : 1 ≤ h) (h2 : h ≤ 40) (hn : hFault b h = []) : tagAt (mendL b) h = tagAt b h ∧ entOf (mendL b) h = entOf b h :=
  entOf_same (mendL_len hb) hb h1 h2 (fun j hj => mend_out hb (fun f hf hc => by
    have := cov_hand h1 h2 hf hc hj
    rw [hn] at this
    cases this))
theorem mend_gone {h : Int} (hb : 288 ≤ b.length) (h1 : 1 ≤ h) (h2 : h ≤ 40) (hn : hFault b h ≠ []) : ∀ j, j < 5 → (mendL b).getD (plc h + j) 0 = 0 := fun j hj => by
  obtain ⟨f, hf⟩ := List.exists_mem_of_ne_nil _ hn
  exact mend_in hb (faults_hand h1 h2 hf) (cov_of_hand hf hj)
theorem putE_same {c : List Int} {e : (Int × Int × Int × Int)} (hlen : c.length = b.length) : putE c e = putE b e := by unfold putE; rw [hlen]
/-- A handle that is one, and right, has no fault; and one with no fault that is one is right. -/
theorem wh_cases (b : List Int) (h : Int) : whE b h = 0 ∨ whE b h = 1 ∨ whE b h = 2 ∨ whE b h = 3 := by
  unfold whE
  repeat' split
  all_goals simp
theorem wh_zero {h : Int} : whE b h = 0 ↔ tagAt b h = 0 := by
  unfold whE
  by_cases h0 : tagAt b h = 0
  · rw [if_pos h0]; simp [h0]
  · rw [if_neg h0]
    constructor
    · intro h
      repeat' split at h
      all_goals cases h
    · intro h; exact absurd h h0
theorem hFault_nil {h : Int} : hFault b h = [] ↔ (whE b h = 1 ∨ (tagAt b h = 0 ∧ (entOf b h).2.1 = 0 ∧ (entOf b h).2.2.1 = 0)) := by
  unfold hFault
  rcases wh_cases b h with h0 | h0 | h0 | h0
  · rw [if_pos h0]
    have ht := wh_zero.1 h0
    by_cases h1 : (entOf b h).2.1 = 0 ∧ (entOf b h).2.2.1 = 0
    · rw [if_pos h1]; exact ⟨fun _ => .inr ⟨ht, h1⟩, fun _ => rfl⟩
    · rw [if_neg h1]
      constructor
      · intro h; cases h
      · rintro (h | h)
        · omega
        · exact absurd h.2 h1
  · rw [if_neg (by omega), if_neg (by omega), if_neg (by omega)]
    exact ⟨fun _ => .inl h0, fun _ => rfl⟩
  · rw [if_neg (by omega), if_neg (by omega), if_pos h0]
    have ht : tagAt b h ≠ 0 := fun e => by have := wh_zero.2 e; omega
    constructor
    · intro h; cases h
    · rintro (h | h)
      · omega
      · exact absurd h.1 ht
  · rw [if_neg (by omega), if_pos h0]
    have ht : tagAt b h ≠ 0 := fun e => by have := wh_zero.2 e; omega
    constructor
    · intro h; cases h
    · rintro (h | h)
      · omega
      · exact absurd h.1 ht
theorem wh_one {h : Int} : whE b h = 1 ↔ tagAt b h ≠ 0 ∧ putE b (entOf b h) = 0 ∧ lapK b h (h - 1).toNat = false := by
  unfold whE
  by_cases h0 : tagAt b h = 0
  · rw [if_pos h0]; simp [h0]
  · rw [if_neg h0]
    by_cases h1 : putE b (entOf b h) ≠ 0
    · rw [if_pos h1]
      constructor
      · intro h; cases h
      · rintro ⟨_, h, _⟩; exact absurd h h1
    · rw [if_neg h1]
      have h1' : putE b (entOf b h) = 0 := by simpa using h1
      by_cases h2 : lapK b h (h - 1).toNat = true
      · rw [if_pos h2]
        constructor
        · intro h; cases h
        · rintro ⟨_, _, h⟩; rw [h2] at h; cases h
      · rw [if_neg h2]
        exact ⟨fun _ => ⟨h0, h1', by simpa using h2⟩, fun _ => rfl⟩
/-- Right ones stay right. -/
theorem mend_right {h : Int} (hb : 288 ≤ b.length) (h1 : 1 ≤ h) (h2 : h ≤ 40) (hw : whE b h = 1) : whE (mendL b) h = 1 := by
  obtain ⟨q1, q2, q3⟩ := wh_one.1 hw
  obtain ⟨e1, e2⟩ := mend_same hb h1 h2 (hFault_nil.2 (.inl hw))
  refine wh_one.2 ⟨by rw [e1]; exact q1, by rw [e2, putE_same (mendL_len hb)]; exact q2, ?_⟩
  cases hl : lapK (mendL b) h (h - 1).toNat with
  | false => rfl
  | true =>
    exfalso
    obtain ⟨j, hj, ho, hlap⟩ := lapK_iff.1 hl
    have j1 : (1 : Int) ≤ (j : Int) + 1 := by omega
    have j2 : (j : Int) + 1 ≤ 40 := by omega
    unfold okE at ho
    rw [Bool.and_eq_true, decide_eq_true_iff, decide_eq_true_iff] at ho
    by_cases hn : hFault b ((j : Int) + 1) = []
    · obtain ⟨g1, g2⟩ := mend_same hb j1 j2 hn
      rw [g1, g2, putE_same (mendL_len hb)] at ho
      rw [e2, g2] at hlap
      have : lapK b h (h - 1).toNat = true := lapK_iff.2 ⟨j, hj, by unfold okE; rw [Bool.and_eq_true, decide_eq_true_iff, decide_eq_true_iff]; exact ho, hlap⟩
      rw [q3] at this
      cases this
    · have := mend_gone hb j1 j2 hn 0 (by omega)
      rw [Nat.add_zero] at this
      exact ho.1 this
theorem ent_zero {c : List Int} {h : Int} (hb : 288 ≤ c.length) (h1 : 1 ≤ h) (h2 : h ≤ 40) (hz : ∀ j, j < 5 → c.getD (plc h + j) 0 = 0) : tagAt c h = 0 ∧ (entOf c h).2.1 = 0 ∧ (entOf c h).2.2.1 = 0 := by
  have hp := plc_le h1 h2
  have e0 := hz 0 (by omega)
  rw [Nat.add_zero] at e0
  have e1 := hz 1 (by omega)
  have e2 := hz 2 (by omega)
  have e3 := hz 3 (by omega)
  have e4 := hz 4 (by omega)
  refine ⟨e0, ?_, ?_⟩
  · show getV c (plc h + 1) 2 = 0
    rw [getV_two _ _ (by omega), e1, show plc h + 1 + 1 = plc h + 2 by omega, e2]; rfl
  · show getV c (plc h + 3) 2 = 0
    rw [getV_two _ _ (by omega), e3, show plc h + 3 + 1 = plc h + 4 by omega, e4]; rfl
theorem mend_hand {h : Int} (hb : 288 ≤ b.length) (h1 : 1 ≤ h) (h2 : h ≤ 40) : hFault (mendL b) h = [] := by
  refine hFault_nil.2 ?_
  by_cases hn : hFault b h = []
  · rcases hFault_nil.1 hn with hw | ⟨q1, q2, q3⟩
    · exact .inl (mend_right hb h1 h2 hw)
    · obtain ⟨e1, e2⟩ := mend_same hb h1 h2 hn
      rw [e1, e2]
      exact .inr ⟨q1, q2, q3⟩
  · exact .inr (ent_zero (by rw [mendL_len hb]; exact hb) h1 h2 (mend_gone hb h1 h2 hn))

/-! ### roots -/
theorem row_same {i : Nat} (hb : 288 ≤ b.length) (hi : i < 8) (hn : rFault b i = []) : rowAt (mendL b) i = rowAt b i := by
  have hl := mendL_len hb
  apply ext_getD
  · rw [rowAt_len (by omega), rowAt_len (by omega)]
  · intro j hj
    rw [rowAt_len (by omega)] at hj
    rw [rowAt_getD hj, rowAt_getD hj]
    refine mend_out hb (fun f hf hc => ?_)
    have := cov_root hi hf hc hj
    rw [hn] at this
    cases this
theorem row_gone {i : Nat} (hb : 288 ≤ b.length) (hi : i < 8) (hn : rFault b i ≠ []) : isRoot (rowAt (mendL b) i) = false := by
  obtain ⟨f, hf⟩ := List.exists_mem_of_ne_nil _ hn
  have hl := mendL_len hb
  unfold isRoot
  rw [List.any_eq_false]
  intro x hx
  obtain ⟨j, hj, rfl⟩ := List.getElem_of_mem hx
  rw [rowAt_len (by omega)] at hj
  have e : (rowAt (mendL b) i).getD j 0 = 0 := by
    rw [rowAt_getD hj]
    exact mend_in hb (faults_root hi hf) (cov_of_root hf hj)
  rw [List.getD, List.getElem?_eq_getElem (by rw [rowAt_len (by omega)]; exact hj)] at e
  simp at e
  simp [e]
theorem badR_no {i : Nat} : badR b i = false ↔ (readOut ((rowAt b i).take 8)).2 = 0 ∧ (rowAt b i).getD 8 0 = 0 ∧ (rowAt b i).getD 9 0 = 0 ∧ hndB ((rowAt b i).getD 10 0) = true ∧ whE b ((rowAt b i).getD 10 0) = 1 := by
  unfold badR
  rw [Bool.or_eq_false_iff, Bool.or_eq_false_iff, Bool.or_eq_false_iff, Bool.or_eq_false_iff, decide_eq_false_iff_not, decide_eq_false_iff_not, decide_eq_false_iff_not, decide_eq_false_iff_not, Decidable.not_not, Decidable.not_not, Decidable.not_not, Decidable.not_not, Bool.not_eq_false']
theorem rFault_nil {i : Nat} : rFault b i = [] ↔ isRoot (rowAt b i) = false ∨ fineR b i (nmsK b i) = true := by
  unfold rFault fineR
  cases hr : isRoot (rowAt b i) with
  | false => simp
  | true =>
    rw [if_neg (by simp)]
    cases hq : badR b i with
    | true => simp
    | false =>
      rw [if_neg (by simp)]
      cases hc : (nmsK b i).contains (nameAt b i) with
      | true => simp
      | false => simp
/-- The names are the same, and none is faulty. -/
theorem mend_roots (hb : 288 ≤ b.length) : ∀ k, k ≤ 8 → nmsK (mendL b) k = nmsK b k ∧ ∀ i, i < k → rFault (mendL b) i = [] := by
  intro k
  induction k with
  | zero => intro _; exact ⟨by simp only [nmsK], fun i hi => absurd hi (Nat.not_lt_zero i)⟩
  | succ k ih =>
    intro hk
    obtain ⟨ih1, ih2⟩ := ih (by omega)
    have key : (fineR (mendL b) k (nmsK b k) = fineR b k (nmsK b k) ∧ (fineR b k (nmsK b k) = true → nameAt (mendL b) k = nameAt b k)) ∧ rFault (mendL b) k = [] := by
      by_cases hn : rFault b k = []
      · have hrow := row_same hb (by omega) hn
        rcases rFault_nil.1 hn with h0 | h0
        · have h1 : isRoot (rowAt (mendL b) k) = false := by rw [hrow]; exact h0
          have e1 : fineR (mendL b) k (nmsK b k) = false := by unfold fineR; rw [h1]; rfl
          have e2 : fineR b k (nmsK b k) = false := by unfold fineR; rw [h0]; rfl
          exact ⟨⟨by rw [e1, e2], fun h => by rw [e2] at h; cases h⟩, rFault_nil.2 (.inl h1)⟩
        · have hname : nameAt (mendL b) k = nameAt b k := by unfold nameAt; rw [hrow]
          have h0' := h0
          unfold fineR at h0'
          rw [Bool.and_eq_true, Bool.and_eq_true, Bool.not_eq_true', Bool.not_eq_true'] at h0'
          have hbad : badR (mendL b) k = false := by
            obtain ⟨q1, q2, q3, q4, q5⟩ := badR_no.1 h0'.2.1
            refine badR_no.2 ?_
            rw [hrow]
            have hh := hndB_iff.1 q4
            exact ⟨q1, q2, q3, q4, mend_right hb hh.1 hh.2 q5⟩
          have e1 : fineR (mendL b) k (nmsK b k) = true := by
            unfold fineR
            rw [hrow, hbad, hname, h0'.1, h0'.2.2]; rfl
          refine ⟨⟨by rw [e1, h0], fun _ => hname⟩, rFault_nil.2 (.inr (by rw [ih1]; exact e1))⟩
      · have h1 := row_gone hb (by omega : k < 8) hn
        have e1 : fineR (mendL b) k (nmsK b k) = false := by unfold fineR; rw [h1]; rfl
        have e2 : fineR b k (nmsK b k) = false := by
          cases h : fineR b k (nmsK b k) with
          | false => rfl
          | true => exact absurd (rFault_nil.2 (.inr h)) hn
        exact ⟨⟨by rw [e1, e2], fun h => by rw [e2] at h; cases h⟩, rFault_nil.2 (.inl h1)⟩
    refine ⟨?_, fun i hi => ?_⟩
    · simp only [nmsK]
      rw [ih1, key.1.1]
      by_cases hf : fineR b k (nmsK b k) = true
      · rw [if_pos hf, if_pos hf, key.1.2 hf]
      · rw [if_neg hf, if_neg hf]
    · by_cases e : i = k
      · subst e; exact key.2
      · exact ih2 i (by omega)
/-- What is mended is right. -/
theorem mend_faults (hb : 288 ≤ b.length) : faults (mendL b) = [] := by
  refine List.eq_nil_iff_forall_not_mem.2 (fun f hf => ?_)
  unfold faults at hf
  rcases List.mem_append.1 hf with hf | hf
  · obtain ⟨j, hj, hf⟩ := mem_hFK.1 hf
    rw [mend_hand hb (by omega) (by omega)] at hf
    cases hf
  · obtain ⟨j, hj, hf⟩ := mem_rFK.1 hf
    rw [(mend_roots hb 8 (by omega)).2 j hj] at hf
    cases hf
/-- Mended once more it stays. -/
theorem mend_right_same (h : faults b = []) : mendL b = b := by unfold mendL; rw [h]; rfl
theorem root_zero {i : Nat} (hb : 288 ≤ b.length) (hi : i < 8) (hz : ∀ j, j < 11 → b.getD (200 + 11 * i + j) 0 = 0) : isRoot (rowAt b i) = false := by
  unfold isRoot
  rw [List.any_eq_false]
  intro x hx
  obtain ⟨j, hj, rfl⟩ := List.getElem_of_mem hx
  have hj' := hj
  rw [rowAt_len (by omega)] at hj'
  have e : (rowAt b i).getD j 0 = 0 := by
    rw [rowAt_getD hj']
    exact hz j hj'
  rw [List.getD, List.getElem?_eq_getElem hj] at e
  simp at e
  simp [e]
/-- An image that has a fault is another one when it is mended. -/
theorem mend_other (hb : 288 ≤ b.length) (hf : faults b ≠ []) : mendL b ≠ b := by
  intro he
  obtain ⟨f, hm⟩ := List.exists_mem_of_ne_nil _ hf
  have hz : ∀ j, cov f j → b.getD j 0 = 0 := fun j hc => by
    have := mend_in hb hm hc
    rwa [he] at this
  have hm' := hm
  unfold faults at hm'
  rcases List.mem_append.1 hm' with hq | hq
  · obtain ⟨j, hj, hq⟩ := mem_hFK.1 hq
    have h0 := ent_zero hb (h := (j : Int) + 1) (by omega) (by omega) (fun i hi => hz _ (cov_of_hand hq hi))
    rw [hFault_nil.2 (.inr h0)] at hq
    cases hq
  · obtain ⟨j, hj, hq⟩ := mem_rFK.1 hq
    have h0 := root_zero hb hj (fun i hi => hz _ (cov_of_root hq hi))
    rw [rFault_nil.2 (.inl h0)] at hq
    cases hq
theorem mend_iff (hb : 288 ≤ b.length) : mendL b = b ↔ faults b = [] := by
  constructor
  · intro h
    by_cases hf : faults b = []
    · exact hf
    · exact absurd h (mend_other hb hf)
  · exact mend_right_same
/-- What had no fault is got as it was; what had one is none. -/
theorem mend_get {h : Int} (hb : 288 ≤ b.length) (h1 : 1 ≤ h) (h2 : h ≤ 40) (hn : hFault b h = []) : chkE (mendL b) h = chkE b h ∧ getE (mendL b) h = getE b h := by
  obtain ⟨e1, e2⟩ := mend_same hb h1 h2 hn
  have hc : chkE (mendL b) h = chkE b h := by unfold chkE; rw [e1, mendL_len hb]
  exact ⟨hc, by unfold getE; rw [hc, e2]⟩
theorem mend_none {h : Int} (hb : 288 ≤ b.length) (hb2 : b.length ≤ 6400) (h1 : 1 ≤ h) (h2 : h ≤ 40) (hn : hFault b h ≠ []) : chkE (mendL b) h = 5 := by
  have h0 := mend_gone hb h1 h2 hn 0 (by omega)
  rw [Nat.add_zero] at h0
  have ht : tagAt (mendL b) h = 0 := h0
  have hl : lenB (mendL b).length = true := lenB_iff.2 (by rw [mendL_len hb]; omega)
  have hh : hndB h = true := hndB_iff.2 ⟨h1, h2⟩
  unfold chkE
  rw [if_neg (by rw [hl]; simp), if_neg (by rw [hh]; simp), if_pos ht]
/-- Which handles are told: a fault of a handle, among all. -/
theorem told_hand {h : Int} (h1 : 1 ≤ h) (h2 : h ≤ 40) : (∃ f ∈ faults b, f.1 ≤ 3 ∧ f.2 = h) ↔ hFault b h ≠ [] := by
  constructor
  · rintro ⟨f, hf, q1, q2⟩ hn
    unfold faults at hf
    rcases List.mem_append.1 hf with hf | hf
    · obtain ⟨j, hj, hf⟩ := mem_hFK.1 hf
      have hm := hFault_mem hf
      have : (j : Int) + 1 = h := by omega
      rw [this, hn] at hf
      cases hf
    · obtain ⟨j, hj, hf⟩ := mem_rFK.1 hf
      have hm := rFault_mem hf
      omega
  · intro hn
    obtain ⟨f, hf⟩ := List.exists_mem_of_ne_nil _ hn
    have hm := hFault_mem hf
    exact ⟨f, faults_hand h1 h2 hf, hm.2.2, hm.1⟩
/-- From Head on all is as it was. -/
theorem mend_tail (hb : 288 ≤ b.length) : (mendL b).drop 288 = b.drop 288 := by
  have hl := mendL_len hb
  apply ext_getD
  · rw [List.length_drop, List.length_drop, hl]
  · intro j hj
    have := mend_body hb (j := 288 + j) (by omega)
    simpa [List.getD] using this
end
end Go.Proofs.YtopblhmbjdfebaaGreat
/-! Whether two images are the same, as plain lists. (Part of the proofs over package check.) -/
namespace Go.Proofs.YtopblhmbjdfebaaGreat
open Go.RowKit
set_option linter.unusedVariables false

/-! ### objects -/
/-- The bytes of an extent. -/
def partL (b : List Int) (x n : Int) : List Int := (b.drop x.toNat).take n.toNat
/-- What an object is: its tag, its bytes. -/
def objE (b : List Int) (e : (Int × Int × Int × Int)) : Int × List Int := (e.2.2.2, partL b e.2.1 e.2.2.1)
/-- The object of a handle; -1: there is none. -/
def objOf (b : List Int) (h : Int) : Int × List Int := if tagAt b h = 0 then (-1, []) else objE b (entOf b h)
/-- The objects of the handles up to k, each with its handle. -/
def objK (b : List Int) (k : Nat) : List (Int × Int × List Int) := (entsK b k).map fun e => (e.1, objE b e)
theorem mem_objK {b : List Int} {x : Int × Int × List Int} : ∀ {k : Nat}, x ∈ objK b k ↔ ∃ j : Nat, j < k ∧ tagAt b ((j : Int) + 1) ≠ 0 ∧ x = ((j : Int) + 1, objOf b ((j : Int) + 1))
  | 0 => by simp [objK, entsK]
  | k + 1 => by
    have ih := mem_objK (b := b) (x := x) (k := k)
    unfold objK at ih ⊢
    unfold entsK
    rw [List.map_append, List.mem_append, ih]
    by_cases ht : tagAt b ((k : Int) + 1) = 0
    · rw [if_pos ht]
      constructor
      · rintro (⟨j, h1, h2⟩ | h2)
        · exact ⟨j, by omega, h2⟩
        · cases h2
      · rintro ⟨j, h1, h2, h3⟩
        by_cases e : j = k
        · subst e; exact absurd ht h2
        · exact .inl ⟨j, by omega, h2, h3⟩
    · rw [if_neg ht]
      have ho : objOf b ((k : Int) + 1) = objE b (entOf b ((k : Int) + 1)) := by unfold objOf; rw [if_neg ht]
      have hx : (entOf b ((k : Int) + 1)).1 = (k : Int) + 1 := rfl
      constructor
      · rintro (⟨j, h1, h2⟩ | h2)
        · exact ⟨j, by omega, h2⟩
        · refine ⟨k, by omega, ht, ?_⟩
          rw [List.map_cons, List.map_nil] at h2
          rw [List.mem_singleton.1 h2, ho, hx]
      · rintro ⟨j, h1, h2, h3⟩
        by_cases e : j = k
        · subst e
          refine .inr ?_
          rw [List.map_cons, List.map_nil, h3, ho, hx]
          exact List.mem_singleton.2 rfl
        · exact .inl ⟨j, by omega, h2, h3⟩
/-- Have two images the same objects by handle, up to k? -/
def sameO (a b : List Int) : Nat → Bool
  | 0 => true
  | k + 1 => sameO a b k && decide (objOf a ((k : Int) + 1) = objOf b ((k : Int) + 1))
theorem sameO_iff {a b : List Int} : ∀ {k : Nat}, sameO a b k = true ↔ ∀ j : Nat, j < k → objOf a ((j : Int) + 1) = objOf b ((j : Int) + 1)
  | 0 => by simp [sameO]
  | k + 1 => by
    unfold sameO
    rw [Bool.and_eq_true, sameO_iff, decide_eq_true_iff]
    constructor
    · rintro ⟨h1, h2⟩ j hj
      by_cases e : j = k
      · subst e; exact h2
      · exact h1 j (by omega)
    · intro h
      exact ⟨fun j hj => h j (by omega), h k (by omega)⟩
theorem objOf_tag {b : List Int} {h : Int} (hb : Byt b) (ht : tagAt b h ≠ 0) : 0 ≤ (objOf b h).1 := by
  unfold objOf objE entOf
  rw [if_neg ht]
  have h1 : 0 ≤ tagAt b h ∧ tagAt b h ≤ 255 := hb.getD (plc h)
  dsimp only
  omega
theorem objOf_none {b : List Int} {h : Int} (ht : tagAt b h = 0) : objOf b h = (-1, []) := by unfold objOf; rw [if_pos ht]
theorem objK_same {a b : List Int} (ha : Byt a) (hb : Byt b) (k : Nat) : objK a k = objK b k ↔ sameO a b k = true := by
  rw [sameO_iff]
  constructor
  · intro h j hj
    by_cases h1 : tagAt a ((j : Int) + 1) = 0
    · by_cases h2 : tagAt b ((j : Int) + 1) = 0
      · rw [objOf_none h1, objOf_none h2]
      · have hm : ((j : Int) + 1, objOf b ((j : Int) + 1)) ∈ objK b k := mem_objK.2 ⟨j, hj, h2, rfl⟩
        rw [← h] at hm
        obtain ⟨i, hi, h3, h4⟩ := mem_objK.1 hm
        have : i = j := by have := congrArg Prod.fst h4; dsimp only at this; omega
        subst this
        exact absurd h1 h3
    · have hm : ((j : Int) + 1, objOf a ((j : Int) + 1)) ∈ objK a k := mem_objK.2 ⟨j, hj, h1, rfl⟩
      rw [h] at hm
      obtain ⟨i, hi, h3, h4⟩ := mem_objK.1 hm
      have : i = j := by have := congrArg Prod.fst h4; dsimp only at this; omega
      subst this
      exact congrArg Prod.snd h4
  · intro h
    induction k with
    | zero => rfl
    | succ k ih =>
      have hk := h k (by omega)
      have hi := ih (fun j hj => h j (by omega))
      unfold objK at hi ⊢
      unfold entsK
      rw [List.map_append, List.map_append, hi]
      congr 1
      by_cases h1 : tagAt a ((k : Int) + 1) = 0
      · have h2 : tagAt b ((k : Int) + 1) = 0 := by
          refine Classical.byContradiction fun h2 => ?_
          have := objOf_tag hb h2
          rw [← hk, objOf_none h1] at this
          dsimp only at this
          omega
        rw [if_pos h1, if_pos h2]
        rfl
      · have h2 : ¬ tagAt b ((k : Int) + 1) = 0 := by
          intro h2
          have := objOf_tag ha h1
          rw [hk, objOf_none h2] at this
          dsimp only at this
          omega
        rw [if_neg h1, if_neg h2]
        unfold objOf at hk
        rw [if_neg h1, if_neg h2] at hk
        rw [List.map_cons, List.map_nil, List.map_cons, List.map_nil, hk]
        rfl
/-- Are two entries of two images the same object? -/
def eqEnt (a b : List Int) (x y : (Int × Int × Int × Int)) : Bool := decide (x.1 = y.1) && (decide (x.2.2.2 = y.2.2.2) && decide (partL a x.2.1 x.2.2.1 = partL b y.2.1 y.2.2.1))
theorem eqEnt_iff {a b : List Int} {x y : (Int × Int × Int × Int)} : eqEnt a b x y = true ↔ (x.1, objE a x) = (y.1, objE b y) := by
  unfold eqEnt objE
  rw [Bool.and_eq_true, Bool.and_eq_true, decide_eq_true_iff, decide_eq_true_iff, decide_eq_true_iff]
  simp only [Prod.mk.injEq]
/-- As many, and one by one the same? (So slices.EqualFunc tells it.) -/
def eqAll {α β : Type} (f : α → β → Bool) : List α → List β → Bool
  | [], [] => true
  | x :: l, y :: m => f x y && eqAll f l m
  | _, _ => false
theorem eqAll_map {α β γ : Type} {f : α → β → Bool} {p : α → γ} {q : β → γ} (h : ∀ x y, f x y = true ↔ p x = q y) : ∀ {l : List α} {m : List β}, eqAll f l m = true ↔ l.map p = m.map q
  | [], [] => by simp [eqAll]
  | [], y :: m => by simp [eqAll]
  | x :: l, [] => by simp [eqAll]
  | x :: l, y :: m => by
    unfold eqAll
    rw [Bool.and_eq_true, h, eqAll_map h, List.map_cons, List.map_cons, List.cons.injEq]
theorem eqAll_objs {a b : List Int} (ha : Byt a) (hb : Byt b) : eqAll (eqEnt a b) (entsK a 40) (entsK b 40) = sameO a b 40 := by
  have h1 := eqAll_map (f := eqEnt a b) (p := fun e => (e.1, objE a e)) (q := fun e => (e.1, objE b e)) (fun x y => eqEnt_iff) (l := entsK a 40) (m := entsK b 40)
  have h2 := objK_same ha hb 40
  unfold objK at h2
  rw [h2] at h1
  cases h3 : eqAll (eqEnt a b) (entsK a 40) (entsK b 40) <;> cases h4 : sameO a b 40
  · rfl
  · rw [h3, h4] at h1; simp at h1
  · rw [h3, h4] at h1; simp at h1
  · rfl

/-! ### roots -/
theorem ba_beq {a b : ByteArray} : (a == b) = true ↔ a = b := by
  cases a with | mk x => cases b with | mk y =>
  constructor
  · intro h
    have h' : (x == y) = true := h
    rw [eq_of_beq h']
  · intro h
    injection h with h
    subst h
    show (x == x) = true
    exact beq_self_eq_true x
theorem ba_lawful : LawfulBEq ByteArray := { eq_of_beq := fun h => ba_beq.1 h, rfl := ba_beq.2 rfl }
/-- Where a name leads; 0: nowhere. -/
def leadOf (l : List (ByteArray × Int)) (s : ByteArray) : Int := ((l.find? (fun r => r.1 == s)).map (·.2)).getD 0
/-- The same roots, as many? -/
def sameR (l m : List (ByteArray × Int)) : Bool := l.all (fun r => leadOf m r.1 == r.2) && decide (l.length = m.length)
/-- What is told of an image that is right: names are apart, and lead to handles. -/
structure Apart (l : List (ByteArray × Int)) : Prop where
  nodup : (l.map (·.1)).Nodup
  pos : ∀ r ∈ l, 1 ≤ r.2 ∧ r.2 ≤ 40
theorem apart_roots {b : List Int} (hf : faults b = []) : Apart (rootsK b 8) := by
  have hn : ∀ i, i < 8 → rFault b i = [] := fun i hi => by
    refine Classical.byContradiction fun h => ?_
    obtain ⟨f, hm⟩ := List.exists_mem_of_ne_nil _ h
    have := faults_root hi hm
    rw [hf] at this
    cases this
  have hk : ∀ k, k ≤ 8 → nmsK b k = (rootsK b k).map (·.1) ∧ (nmsK b k).Nodup ∧ ∀ r ∈ rootsK b k, 1 ≤ r.2 ∧ r.2 ≤ 40 := by
    intro k
    induction k with
    | zero => intro _; exact ⟨rfl, List.nodup_nil, fun r hr => by cases hr⟩
    | succ k ih =>
      intro hk
      obtain ⟨h1, h2, h3⟩ := ih (by omega)
      rcases rFault_nil.1 (hn k (by omega)) with h | h
      · have e1 : nmsK b (k + 1) = nmsK b k := by
          show nmsK b k ++ _ = _
          have : fineR b k (nmsK b k) = false := by unfold fineR; rw [h, Bool.false_and]
          rw [this, if_neg (by simp), List.append_nil]
        have e2 : rootsK b (k + 1) = rootsK b k := by
          show rootsK b k ++ _ = _
          rw [h, if_neg (by simp), List.append_nil]
        rw [e1, e2]
        exact ⟨h1, h2, h3⟩
      · have e1 : nmsK b (k + 1) = nmsK b k ++ [nameAt b k] := by
          show nmsK b k ++ _ = _
          rw [if_pos h]
        have hfi := h
        unfold fineR at hfi
        rw [Bool.and_eq_true, Bool.and_eq_true] at hfi
        obtain ⟨f1, f2, f3⟩ := hfi
        have e2 : rootsK b (k + 1) = rootsK b k ++ [rootOf (rowAt b k)] := by
          show rootsK b k ++ _ = _
          rw [f1, if_pos rfl]
        have f2' : badR b k = false := by simpa using f2
        have f3' : nameAt b k ∉ nmsK b k := by
          intro hm
          haveI := ba_lawful
          rw [List.contains_iff_mem.2 hm] at f3
          cases f3
        obtain ⟨_, _, _, g4, _⟩ := badR_no.1 f2'
        have g4' := hndB_iff.1 g4
        refine ⟨?_, ?_, ?_⟩
        · rw [e1, e2, List.map_append, h1]; rfl
        · rw [e1, List.nodup_append]
          exact ⟨h2, by simp, fun x hx y hy e => by rw [List.mem_singleton.1 hy] at e; subst e; exact f3' hx⟩
        · rw [e2]
          intro r hr
          rcases List.mem_append.1 hr with hr | hr
          · exact h3 r hr
          · rw [List.mem_singleton.1 hr]; exact g4'
  obtain ⟨h1, h2, h3⟩ := hk 8 (Nat.le_refl _)
  exact ⟨by rw [← h1]; exact h2, h3⟩
theorem lead_mem {m : List (ByteArray × Int)} (hm : Apart m) {s : ByteArray} {h : Int} (hh : 1 ≤ h) : leadOf m s = h ↔ (s, h) ∈ m := by
  unfold leadOf
  constructor
  · intro e
    cases hf : m.find? (fun r => r.1 == s) with
    | none => rw [hf] at e; simp at e; omega
    | some r =>
      rw [hf] at e
      have h1 := List.mem_of_find?_eq_some hf
      have h2 := List.find?_some hf
      have e' : r.2 = h := e
      have h2' : r.1 = s := ba_beq.1 h2
      have : r = (s, h) := Prod.ext h2' e'
      rw [← this]; exact h1
  · intro hmem
    cases hf : m.find? (fun r => r.1 == s) with
    | none =>
      exact absurd (ba_beq.2 rfl) (List.find?_eq_none.1 hf (s, h) hmem)
    | some r =>
      have h1 := List.mem_of_find?_eq_some hf
      have h2 : r.1 = s := ba_beq.1 (List.find?_some (p := fun (r : (ByteArray × Int)) => r.1 == s) hf)
      have : r = (s, h) := by
        have hinj : ∀ (l : List (ByteArray × Int)), (l.map (·.1)).Nodup → ∀ x ∈ l, ∀ y ∈ l, x.1 = y.1 → x = y := by
          intro l
          induction l with
          | nil => intro _ x hx; cases hx
          | cons z l ih =>
            intro hn x hx y hy e
            rw [List.map_cons, List.nodup_cons] at hn
            rcases List.mem_cons.1 hx with hx | hx <;> rcases List.mem_cons.1 hy with hy | hy
            · rw [hx, hy]
            · exact absurd (List.mem_map.2 ⟨y, hy, by rw [← e, hx]⟩) hn.1
            · exact absurd (List.mem_map.2 ⟨x, hx, by rw [e, hy]⟩) hn.1
            · exact ih hn.2 x hx y hy e
        exact hinj m hm.nodup r h1 (s, h) hmem h2
      rw [this]
      rfl
theorem sameR_iff {l m : List (ByteArray × Int)} (hl : Apart l) (hm : Apart m) : sameR l m = true ↔ l.length = m.length ∧ ∀ r ∈ l, r ∈ m := by
  unfold sameR
  rw [Bool.and_eq_true, decide_eq_true_iff, List.all_eq_true]
  constructor
  · rintro ⟨h1, h2⟩
    refine ⟨h2, fun r hr => ?_⟩
    have := (lead_mem hm (hl.pos r hr).1).1 (by simpa using h1 r hr)
    exact this
  · rintro ⟨h1, h2⟩
    refine ⟨fun r hr => ?_, h1⟩
    have := (lead_mem hm (s := r.1) (hl.pos r hr).1).2 (h2 r hr)
    simpa using this

/-! ### what is answered -/
def fineE (b : List Int) : Int := if lenB b.length = false then 3 else if faults b = [] then 0 else 6
def sameE (a b : List Int) : Int := if lenB a.length = false then 3 else if lenB b.length = false then 3 else if faults a = [] ∧ faults b = [] then 0 else 6
def sameB (a b : List Int) : Bool := sameE a b == 0 && (sameO a b 40 && sameR (rootsK a 8) (rootsK b 8))
end Go.Proofs.YtopblhmbjdfebaaGreat
/-! Images whose first 288 bytes are the same: the same entries, the same roots, the same faults; as plain lists. (Part of the proofs over package heap.) -/
namespace Go.Proofs.YtopblhmbjdfebaaGreat
open Go.RowKit
set_option linter.unusedVariables false

theorem faults_iff {b : List Int} : faults b = [] ↔ (∀ h, 1 ≤ h → h ≤ 40 → hFault b h = []) ∧ ∀ i, i < 8 → rFault b i = [] := by
  constructor
  · intro hf
    refine ⟨fun h h1 h2 => ?_, fun i hi => ?_⟩
    · refine List.eq_nil_iff_forall_not_mem.2 (fun f hm => ?_)
      have := faults_hand h1 h2 hm
      rw [hf] at this
      cases this
    · refine List.eq_nil_iff_forall_not_mem.2 (fun f hm => ?_)
      have := faults_root hi hm
      rw [hf] at this
      cases this
  · rintro ⟨h1, h2⟩
    refine List.eq_nil_iff_forall_not_mem.2 (fun f hf => ?_)
    unfold faults at hf
    rcases List.mem_append.1 hf with hf | hf
    · obtain ⟨j, hj, hf⟩ := mem_hFK.1 hf
      rw [h1 _ (by omega) (by omega)] at hf
      cases hf
    · obtain ⟨j, hj, hf⟩ := mem_rFK.1 hf
      rw [h2 j hj] at hf
      cases hf
section
variable {b c : List Int}
/-- What a handle is is told by the entries of all. -/
theorem wh_same (hlen : c.length = b.length) (hs : ∀ h, 1 ≤ h → h ≤ 40 → tagAt c h = tagAt b h ∧ entOf c h = entOf b h) : ∀ h, 1 ≤ h → h ≤ 40 → whE c h = whE b h := by
  intro h h1 h2
  have hok : ∀ j : Nat, j < 40 → okE c ((j : Int) + 1) = okE b ((j : Int) + 1) := fun j hj => by
    obtain ⟨e1, e2⟩ := hs ((j : Int) + 1) (by omega) (by omega)
    unfold okE
    rw [e1, e2, putE_same hlen]
  have hlap : ∀ k : Nat, k ≤ 40 → lapK c h k = lapK b h k := by
    intro k
    induction k with
    | zero => intro _; rfl
    | succ k ih =>
      intro hk
      unfold lapK
      rw [ih (by omega), hok k (by omega), (hs h h1 h2).2, (hs ((k : Int) + 1) (by omega) (by omega)).2]
  unfold whE
  rw [(hs h h1 h2).1, (hs h h1 h2).2, putE_same hlen, hlap _ (by omega)]
theorem head_ents (hlen : c.length = b.length) (hb : 288 ≤ b.length) (hs : ∀ j, j < 288 → c.getD j 0 = b.getD j 0) : ∀ h, 1 ≤ h → h ≤ 40 → tagAt c h = tagAt b h ∧ entOf c h = entOf b h := fun h h1 h2 =>
  entOf_same hlen hb h1 h2 (fun j hj => hs _ (by have := plc_le h1 h2; omega))
theorem head_rows (hlen : c.length = b.length) (hb : 288 ≤ b.length) (hs : ∀ j, j < 288 → c.getD j 0 = b.getD j 0) : ∀ i, i < 8 → rowAt c i = rowAt b i := fun i hi => by
  apply ext_getD
  · rw [rowAt_len (by omega), rowAt_len (by omega)]
  · intro j hj
    rw [rowAt_len (by omega)] at hj
    rw [rowAt_getD hj, rowAt_getD hj]
    exact hs _ (by omega)
/-- Rows that are the same, and handles of which the right ones stay right: the roots have no faults again. -/
theorem roots_keep (hrow : ∀ i, i < 8 → rowAt c i = rowAt b i) (hw : ∀ i, i < 8 → hndB ((rowAt b i).getD 10 0) = true → isRoot (rowAt b i) = true → whE b ((rowAt b i).getD 10 0) = 1 → whE c ((rowAt b i).getD 10 0) = 1) (hf : ∀ i, i < 8 → rFault b i = []) :
    ∀ k, k ≤ 8 → nmsK c k = nmsK b k ∧ ∀ i, i < k → rFault c i = [] := by
  intro k
  induction k with
  | zero => intro _; exact ⟨by simp only [nmsK], fun i hi => absurd hi (Nat.not_lt_zero i)⟩
  | succ k ih =>
    intro hk
    obtain ⟨ih1, ih2⟩ := ih (by omega)
    have hr := hrow k (by omega)
    have hname : nameAt c k = nameAt b k := by unfold nameAt; rw [hr]
    have key : fineR c k (nmsK b k) = fineR b k (nmsK b k) ∧ rFault c k = [] := by
      rcases rFault_nil.1 (hf k (by omega)) with h0 | h0
      · have h1 : isRoot (rowAt c k) = false := by rw [hr]; exact h0
        have e1 : fineR c k (nmsK b k) = false := by unfold fineR; rw [h1]; rfl
        have e2 : fineR b k (nmsK b k) = false := by unfold fineR; rw [h0]; rfl
        exact ⟨by rw [e1, e2], rFault_nil.2 (.inl h1)⟩
      · have h0' := h0
        unfold fineR at h0'
        rw [Bool.and_eq_true, Bool.and_eq_true, Bool.not_eq_true', Bool.not_eq_true'] at h0'
        have hbad : badR c k = false := by
          obtain ⟨q1, q2, q3, q4, q5⟩ := badR_no.1 h0'.2.1
          refine badR_no.2 ?_
          rw [hr]
          exact ⟨q1, q2, q3, q4, hw k (by omega) q4 h0'.1 q5⟩
        have e1 : fineR c k (nmsK b k) = true := by
          unfold fineR
          rw [hr, hbad, hname, h0'.1, h0'.2.2]; rfl
        exact ⟨by rw [e1, h0], rFault_nil.2 (.inr (by rw [ih1]; exact e1))⟩
    refine ⟨?_, fun i hi => ?_⟩
    · simp only [nmsK]
      rw [ih1, key.1, hname]
    · by_cases e : i = k
      · subst e; exact key.2
      · exact ih2 i (by omega)
/-- What stands behind the head is nobody's fault. -/
theorem head_fine (hlen : c.length = b.length) (hb : 288 ≤ b.length) (hs : ∀ j, j < 288 → c.getD j 0 = b.getD j 0) (hf : faults b = []) : faults c = [] := by
  obtain ⟨f1, f2⟩ := faults_iff.1 hf
  have he := head_ents hlen hb hs
  have hwh := wh_same hlen he
  refine faults_iff.2 ⟨fun h h1 h2 => ?_, fun i hi => ?_⟩
  · rw [hFault_nil, hwh h h1 h2, (he h h1 h2).1, (he h h1 h2).2]
    exact hFault_nil.1 (f1 h h1 h2)
  · refine (roots_keep (head_rows hlen hb hs) (fun j hj hq _ h1 => ?_) f2 8 (by omega)).2 i hi
    have hh := hndB_iff.1 hq
    rw [hwh _ hh.1 hh.2]
    exact h1
theorem head_entsK (hlen : c.length = b.length) (hb : 288 ≤ b.length) (hs : ∀ j, j < 288 → c.getD j 0 = b.getD j 0) : ∀ k, k ≤ 40 → entsK c k = entsK b k := by
  intro k
  induction k with
  | zero => intro _; rfl
  | succ k ih =>
    intro hk
    obtain ⟨e1, e2⟩ := head_ents hlen hb hs ((k : Int) + 1) (by omega) (by omega)
    unfold entsK
    rw [ih (by omega), e1, e2]
theorem head_rootsK (hlen : c.length = b.length) (hb : 288 ≤ b.length) (hs : ∀ j, j < 288 → c.getD j 0 = b.getD j 0) : rootsK c 8 = rootsK b 8 :=
  rootsK_same 8 (fun j hj => head_rows hlen hb hs j hj)
end
end Go.Proofs.YtopblhmbjdfebaaGreat
/-! One object more, one less, and bytes written into one, in an image that is right; as plain lists. (Part of the proofs over package heap.) -/
namespace Go.Proofs.YtopblhmbjdfebaaGreat
open Go.RowKit
set_option linter.unusedVariables false

section
variable {b : List Int}
/-- An image that has no fault: each handle is none, or right and over no other one. -/
structure Fine (b : List Int) : Prop where
  len : 288 ≤ b.length ∧ b.length ≤ 6400
  ok : faults b = []
theorem Fine.len0 (hf : Fine b) : lenB b.length = true := lenB_iff.2 (by have := hf.len; omega)
theorem Fine.hand (hf : Fine b) {h : Int} (h1 : 1 ≤ h) (h2 : h ≤ 40) (ht : tagAt b h ≠ 0) : whE b h = 1 ∧ putE b (entOf b h) = 0 := by
  rcases hFault_nil.1 ((faults_iff.1 hf.ok).1 h h1 h2) with hw | hw
  · exact ⟨hw, (wh_one.1 hw).2.1⟩
  · exact absurd hw.1 ht
theorem Fine.ent (hf : Fine b) {h : Int} (h1 : 1 ≤ h) (h2 : h ≤ 40) (ht : tagAt b h ≠ 0) : 288 ≤ (entOf b h).2.1 ∧ 1 ≤ (entOf b h).2.2.1 ∧ (entOf b h).2.2.1 ≤ 1000 ∧ (entOf b h).2.1 + (entOf b h).2.2.1 ≤ b.length ∧ 0 ≤ (entOf b h).2.2.2 ∧ (entOf b h).2.2.2 ≤ 15 := by
  have := putE_zero.1 (hf.hand h1 h2 ht).2
  obtain ⟨_, _, q1, q2, q3, q4, q5, q6⟩ := this
  exact ⟨q5, q3, q4, q6, q1, q2⟩
theorem okE_of {h : Int} (hw : whE b h = 1) : okE b h = true := by
  obtain ⟨h1, h2, _⟩ := wh_one.1 hw
  unfold okE
  rw [decide_eq_true h1, decide_eq_true h2]
  rfl
theorem lapB_comm (e f : (Int × Int × Int × Int)) : lapB e f = lapB f e := by unfold lapB; rw [Bool.and_comm]
theorem lapB_no {e f : (Int × Int × Int × Int)} : lapB e f = false ↔ f.2.1 + f.2.2.1 ≤ e.2.1 ∨ e.2.1 + e.2.2.1 ≤ f.2.1 := by
  unfold lapB
  rw [Bool.and_eq_false_iff, decide_eq_false_iff_not, decide_eq_false_iff_not]
  omega
/-- No two are over each other. -/
theorem Fine.apart (hf : Fine b) {h k : Int} (h1 : 1 ≤ h) (h2 : h ≤ 40) (k1 : 1 ≤ k) (k2 : k ≤ 40) (hk : h ≠ k) (ht : tagAt b h ≠ 0) (kt : tagAt b k ≠ 0) : lapB (entOf b h) (entOf b k) = false := by
  have key : ∀ {h k : Int}, 1 ≤ h → h ≤ 40 → 1 ≤ k → k < h → tagAt b h ≠ 0 → tagAt b k ≠ 0 → lapB (entOf b h) (entOf b k) = false := by
    intro h k h1 h2 k1 hlt ht kt
    have hw := (hf.hand h1 h2 ht).1
    have kw := (hf.hand k1 (by omega) kt).1
    cases hl : lapB (entOf b h) (entOf b k) with
    | false => rfl
    | true =>
      have hno := (wh_one.1 hw).2.2
      have : lapK b h (h - 1).toNat = true := lapK_iff.2 ⟨(k - 1).toNat, by omega, by
        rw [show (((k - 1).toNat : Nat) : Int) + 1 = k by omega]
        exact ⟨okE_of kw, hl⟩⟩
      rw [hno] at this
      cases this
  rcases Int.lt_or_gt_of_ne hk with h' | h'
  · rw [lapB_comm]
    exact key k1 k2 h1 h' kt ht
  · exact key h1 h2 k1 h' ht kt
/-- In an image: each handle of 1 to 40 that is one is right, and over no other; the others have nothing; the roots as they were. -/
theorem fine_of {c : List Int} (hl : lenB c.length = true) (hh : ∀ h, 1 ≤ h → h ≤ 40 → tagAt c h ≠ 0 → putE c (entOf c h) = 0) (ha : ∀ h k, 1 ≤ h → h ≤ 40 → 1 ≤ k → k < h → tagAt c h ≠ 0 → tagAt c k ≠ 0 → lapB (entOf c h) (entOf c k) = false)
    (hz : ∀ h, 1 ≤ h → h ≤ 40 → tagAt c h = 0 → (entOf c h).2.1 = 0 ∧ (entOf c h).2.2.1 = 0) (hr : (∀ h, 1 ≤ h → h ≤ 40 → tagAt c h ≠ 0 → whE c h = 1) → ∀ i, i < 8 → rFault c i = []) : Fine c := by
  have hw : ∀ h, 1 ≤ h → h ≤ 40 → tagAt c h ≠ 0 → whE c h = 1 := fun h h1 h2 ht => by
    refine wh_one.2 ⟨ht, hh h h1 h2 ht, ?_⟩
    cases hq : lapK c h (h - 1).toNat with
    | false => rfl
    | true =>
      obtain ⟨j, hj, ho, hlp⟩ := lapK_iff.1 hq
      unfold okE at ho
      rw [Bool.and_eq_true, decide_eq_true_iff] at ho
      rw [ha h ((j : Int) + 1) h1 h2 (by omega) (by omega) ht ho.1] at hlp
      cases hlp
  have hlen := lenB_iff.1 hl
  refine ⟨by omega, faults_iff.2 ⟨fun h h1 h2 => hFault_nil.2 ?_, hr hw⟩⟩
  by_cases ht : tagAt c h = 0
  · exact .inr ⟨ht, hz h h1 h2 ht⟩
  · exact .inl (hw h h1 h2 ht)
/-- One more, where there is none, over no other one. -/
theorem put_fine (hf : Fine b) {e : (Int × Int × Int × Int)} (he : putE b e = 0) (h0 : tagAt b e.1 = 0) (hno : ∀ k, 1 ≤ k → k ≤ 40 → tagAt b k ≠ 0 → lapB e (entOf b k) = false) :
    Fine (putL b e) ∧ (∀ k, 1 ≤ k → k ≤ 40 → k ≠ e.1 → tagAt (putL b e) k = tagAt b k ∧ entOf (putL b e) k = entOf b k) ∧ tagAt (putL b e) e.1 ≠ 0 ∧ entOf (putL b e) e.1 = e ∧ (putL b e).length = b.length ∧ (∀ j, 200 ≤ j → (putL b e).getD j 0 = b.getD j 0) := by
  have hb := hf.len
  have hlen := putL_len he
  obtain ⟨_, hh, _⟩ := putE_zero.1 he
  have hh' := hndB_iff.1 hh
  have hp := plc_le hh'.1 hh'.2
  have hr5 : (rowE e).length = 5 := rfl
  have hL : putL b e = splice b (plc e.1) (rowE e) := by unfold putL; rw [if_pos he]
  obtain ⟨hg1, hg2⟩ := putL_get he
  have hself : tagAt (putL b e) e.1 ≠ 0 := (chkE_zero.1 hg1).2.2
  have hother : ∀ k, 1 ≤ k → k ≤ 40 → k ≠ e.1 → tagAt (putL b e) k = tagAt b k ∧ entOf (putL b e) k = entOf b k := fun k k1 k2 hk => by
    rw [hL]
    exact splice_tag hr5 hb.1 hh'.1 hh'.2 k1 k2 hk
  have htail : ∀ j, 200 ≤ j → (putL b e).getD j 0 = b.getD j 0 := fun j hj => by
    rw [hL, splice_out (by rw [hr5]; omega) (by rw [hr5]; omega)]
  have hrow : ∀ i, i < 8 → rowAt (putL b e) i = rowAt b i := fun i hi => by
    apply ext_getD
    · rw [rowAt_len (by omega), rowAt_len (by omega)]
    · intro j hj
      rw [rowAt_len (by omega)] at hj
      rw [rowAt_getD hj, rowAt_getD hj]
      exact htail _ (by omega)
  refine ⟨fine_of (by rw [hlen]; exact hf.len0) (fun h h1 h2 ht => ?_) (fun h k h1 h2 k1 hlt ht kt => ?_) (fun h h1 h2 ht => ?_) (fun hw => ?_), hother, hself, hg2, hlen, htail⟩
  · by_cases hq : h = e.1
    · subst hq
      rw [hg2, putE_same hlen]
      exact he
    · obtain ⟨e1, e2⟩ := hother h h1 h2 hq
      rw [e1] at ht
      rw [e2, putE_same hlen]
      exact (hf.hand h1 h2 ht).2
  · by_cases hq : h = e.1
    · subst hq
      obtain ⟨e1, e2⟩ := hother k k1 (by omega) (by omega)
      rw [e1] at kt
      rw [hg2, e2]
      exact hno k k1 (by omega) kt
    · obtain ⟨e1, e2⟩ := hother h h1 h2 hq
      rw [e1] at ht
      by_cases hq2 : k = e.1
      · subst hq2
        rw [e2, hg2, lapB_comm]
        exact hno h h1 h2 ht
      · obtain ⟨e3, e4⟩ := hother k k1 (by omega) hq2
        rw [e3] at kt
        rw [e2, e4]
        exact hf.apart h1 h2 k1 (by omega) (by omega) ht kt
  · by_cases hq : h = e.1
    · subst hq; exact absurd ht hself
    · obtain ⟨e1, e2⟩ := hother h h1 h2 hq
      rw [e1] at ht
      rw [e2]
      rcases hFault_nil.1 ((faults_iff.1 hf.ok).1 h h1 h2) with hw | hw
      · exact absurd ht (wh_one.1 hw).1
      · exact hw.2
  · refine (roots_keep hrow (fun i hi hq _ hw1 => ?_) (faults_iff.1 hf.ok).2 8 (by omega)).2
    have hx := hndB_iff.1 hq
    have ht := (wh_one.1 hw1).1
    refine hw _ hx.1 hx.2 ?_
    rw [(hother _ hx.1 hx.2 (fun e' => ht (by rw [e']; exact h0))).1]
    exact ht
/-- One less, to which no root leads. -/
theorem drop_fine (hf : Fine b) {h : Int} (he : chkE b h = 0) (hno : ∀ i, i < 8 → isRoot (rowAt b i) = true → (rowAt b i).getD 10 0 ≠ h) :
    Fine (dropL b h) ∧ (∀ k, 1 ≤ k → k ≤ 40 → k ≠ h → tagAt (dropL b h) k = tagAt b k ∧ entOf (dropL b h) k = entOf b k) ∧ tagAt (dropL b h) h = 0 ∧ (dropL b h).length = b.length ∧ (∀ j, 200 ≤ j → (dropL b h).getD j 0 = b.getD j 0) := by
  have hb := hf.len
  obtain ⟨_, hh, _⟩ := chkE_zero.1 he
  have hh' := hndB_iff.1 hh
  have hp := plc_le hh'.1 hh'.2
  have hr5 := length_zerosB 5
  have hL : dropL b h = splice b (plc h) (zerosB 5) := by unfold dropL; rw [if_pos he]
  have hlen : (dropL b h).length = b.length := by rw [hL, length_splice (by rw [hr5]; omega)]
  have hzero : ∀ j, j < 5 → (dropL b h).getD (plc h + j) 0 = 0 := fun j hj => by
    rw [hL, splice_in (by rw [hr5]; omega) (by rw [hr5]; exact hj)]
    exact zeros_at 5 j
  have hself := ent_zero (c := dropL b h) (by omega) hh'.1 hh'.2 hzero
  have hother : ∀ k, 1 ≤ k → k ≤ 40 → k ≠ h → tagAt (dropL b h) k = tagAt b k ∧ entOf (dropL b h) k = entOf b k := fun k k1 k2 hk => by
    rw [hL]
    exact splice_tag hr5 hb.1 hh'.1 hh'.2 k1 k2 hk
  have htail : ∀ j, 200 ≤ j → (dropL b h).getD j 0 = b.getD j 0 := fun j hj => by
    rw [hL, splice_out (by rw [hr5]; omega) (by rw [hr5]; omega)]
  have hrow : ∀ i, i < 8 → rowAt (dropL b h) i = rowAt b i := fun i hi => by
    apply ext_getD
    · rw [rowAt_len (by omega), rowAt_len (by omega)]
    · intro j hj
      rw [rowAt_len (by omega)] at hj
      rw [rowAt_getD hj, rowAt_getD hj]
      exact htail _ (by omega)
  have hne : ∀ k, tagAt (dropL b h) k ≠ 0 → k ≠ h := fun k hk e => by subst e; exact hk hself.1
  refine ⟨fine_of (by rw [hlen]; exact hf.len0) (fun k k1 k2 ht => ?_) (fun k j k1 k2 j1 hlt ht jt => ?_) (fun k k1 k2 ht => ?_) (fun hw => ?_), hother, hself.1, hlen, htail⟩
  · obtain ⟨e1, e2⟩ := hother k k1 k2 (hne k ht)
    rw [e1] at ht
    rw [e2, putE_same hlen]
    exact (hf.hand k1 k2 ht).2
  · obtain ⟨e1, e2⟩ := hother k k1 k2 (hne k ht)
    obtain ⟨e3, e4⟩ := hother j j1 (by omega) (hne j jt)
    rw [e1] at ht
    rw [e3] at jt
    rw [e2, e4]
    exact hf.apart k1 k2 j1 (by omega) (by omega) ht jt
  · by_cases hq : k = h
    · subst hq; exact hself.2
    · obtain ⟨e1, e2⟩ := hother k k1 k2 hq
      rw [e1] at ht
      rw [e2]
      rcases hFault_nil.1 ((faults_iff.1 hf.ok).1 k k1 k2) with hw | hw
      · exact absurd ht (wh_one.1 hw).1
      · exact hw.2
  · refine (roots_keep hrow (fun i hi hq hr hw1 => ?_) (faults_iff.1 hf.ok).2 8 (by omega)).2
    have hx := hndB_iff.1 hq
    refine hw _ hx.1 hx.2 ?_
    rw [(hother _ hx.1 hx.2 (hno i hi hr)).1]
    exact (wh_one.1 hw1).1
/-! ### objects -/
theorem part_same {c : List Int} {x n : Int} (hlen : c.length = b.length) (h : ∀ j : Nat, x.toNat ≤ j → j < x.toNat + n.toNat → c.getD j 0 = b.getD j 0) : partL c x n = partL b x n := by
  unfold partL
  apply ext_getD
  · rw [List.length_take, List.length_take, List.length_drop, List.length_drop, hlen]
  · intro j hj
    rw [List.length_take, List.length_drop] at hj
    have hj2 : j < n.toNat := by omega
    have := h (x.toNat + j) (by omega) (by omega)
    simp only [List.getD, List.getElem?_take, if_pos hj2, List.getElem?_drop] at this ⊢
    exact this
theorem obj_same {c : List Int} {h : Int} (hlen : c.length = b.length) (h1 : tagAt c h = tagAt b h) (h2 : entOf c h = entOf b h) (hp : tagAt b h ≠ 0 → ∀ j : Nat, (entOf b h).2.1.toNat ≤ j → j < (entOf b h).2.1.toNat + (entOf b h).2.2.1.toNat → c.getD j 0 = b.getD j 0) : objOf c h = objOf b h := by
  unfold objOf
  rw [h1]
  by_cases ht : tagAt b h = 0
  · rw [if_pos ht, if_pos ht]
  · rw [if_neg ht, if_neg ht]
    unfold objE
    rw [h2, part_same hlen (hp ht)]
/-- An object that is put where nothing of others is: all else is as it was. -/
theorem put_objs (hf : Fine b) {e : (Int × Int × Int × Int)} (he : putE b e = 0) (h0 : tagAt b e.1 = 0) (hno : ∀ k, 1 ≤ k → k ≤ 40 → tagAt b k ≠ 0 → lapB e (entOf b k) = false) :
    (∀ k, 1 ≤ k → k ≤ 40 → k ≠ e.1 → objOf (putL b e) k = objOf b k) ∧ objOf (putL b e) e.1 = (e.2.2.2, partL b e.2.1 e.2.2.1) := by
  obtain ⟨_, ho, ht, hE, hlen, htail⟩ := put_fine hf he h0 hno
  refine ⟨fun k k1 k2 hk => ?_, ?_⟩
  · obtain ⟨e1, e2⟩ := ho k k1 k2 hk
    refine obj_same hlen e1 e2 (fun hkt j hj _ => htail j ?_)
    have := (hf.ent k1 k2 hkt).1
    omega
  · unfold objOf
    rw [if_neg ht, hE]
    unfold objE
    rw [part_same hlen (fun j hj _ => htail j (by
      obtain ⟨_, _, _, _, _, _, q, _⟩ := putE_zero.1 he
      omega))]
/-- Bytes that are laid behind the head, where nothing of a handle is: its object is as it was. -/
theorem lay_objs (hf : Fine b) {x : Nat} {r : List Int} (hx : 288 ≤ x) (hx2 : x + r.length ≤ b.length) :
    Fine (splice b x r) ∧ (splice b x r).length = b.length ∧ (∀ k, 1 ≤ k → k ≤ 40 → tagAt (splice b x r) k = tagAt b k ∧ entOf (splice b x r) k = entOf b k) ∧
    ∀ k, 1 ≤ k → k ≤ 40 → (tagAt b k ≠ 0 → (entOf b k).2.1 + (entOf b k).2.2.1 ≤ x ∨ (x : Int) + r.length ≤ (entOf b k).2.1) → objOf (splice b x r) k = objOf b k := by
  have hb := hf.len
  have hlen := length_splice hx2
  have hs : ∀ j, j < 288 → (splice b x r).getD j 0 = b.getD j 0 := fun j hj => splice_out hx2 (.inl (by omega))
  have he := head_ents hlen hb.1 hs
  refine ⟨⟨by rw [hlen]; exact hb, head_fine hlen hb.1 hs hf.ok⟩, hlen, he, fun k k1 k2 hap => ?_⟩
  obtain ⟨e1, e2⟩ := he k k1 k2
  refine obj_same hlen e1 e2 (fun hkt j hj1 hj2 => splice_out hx2 ?_)
  have hen := hf.ent k1 k2 hkt
  have := hap hkt
  omega
end
end Go.Proofs.YtopblhmbjdfebaaGreat
/-! Where an object has room, and what it is to have one more; as plain lists. (Part of the proofs over package heap.) -/
namespace Go.Proofs.YtopblhmbjdfebaaGreat
open Go.RowKit
set_option linter.unusedVariables false

section
variable {b : List Int}
theorem mem_entsP {x : (Int × Int × Int × Int)} : ∀ {k : Nat}, x ∈ entsK b k ↔ ∃ j : Nat, j < k ∧ tagAt b ((j : Int) + 1) ≠ 0 ∧ x = entOf b ((j : Int) + 1)
  | 0 => by simp [entsK]
  | k + 1 => by
    unfold entsK
    rw [List.mem_append, mem_entsP]
    by_cases ht : tagAt b ((k : Int) + 1) = 0
    · rw [if_pos ht]
      constructor
      · rintro (⟨j, h1, h2⟩ | h2)
        · exact ⟨j, by omega, h2⟩
        · cases h2
      · rintro ⟨j, h1, h2, h3⟩
        by_cases e : j = k
        · subst e; exact absurd ht h2
        · exact .inl ⟨j, by omega, h2, h3⟩
    · rw [if_neg ht]
      constructor
      · rintro (⟨j, h1, h2⟩ | h2)
        · exact ⟨j, by omega, h2⟩
        · exact ⟨k, by omega, ht, List.mem_singleton.1 h2⟩
      · rintro ⟨j, h1, h2, h3⟩
        by_cases e : j = k
        · subst e; exact .inr (List.mem_singleton.2 h3)
        · exact .inl ⟨j, by omega, h2, h3⟩
/-- What objects take of what is behind the head. -/
def shE (e : (Int × Int × Int × Int)) : Int × Int := (e.2.1 - 288, e.2.2.1)
def takeL (b : List Int) : List (Int × Int) := (entsK b 40).map shE
theorem over_sh (e f : (Int × Int × Int × Int)) : over (shE e) (shE f) = lapB e f := by
  unfold over lapB shE
  dsimp only
  rw [Bool.eq_iff_iff]
  simp only [Bool.and_eq_true, decide_eq_true_eq]
  omega
theorem mem_takeL {x : Int × Int} : x ∈ takeL b ↔ ∃ h : Int, 1 ≤ h ∧ h ≤ 40 ∧ tagAt b h ≠ 0 ∧ x = shE (entOf b h) := by
  unfold takeL
  rw [List.mem_map]
  constructor
  · rintro ⟨e, he, rfl⟩
    obtain ⟨j, h1, h2, rfl⟩ := mem_entsP.1 he
    exact ⟨(j : Int) + 1, by omega, by omega, h2, rfl⟩
  · rintro ⟨h, h1, h2, ht, rfl⟩
    refine ⟨entOf b h, mem_entsP.2 ⟨(h - 1).toNat, by omega, ?_⟩, rfl⟩
    rw [show (((h - 1).toNat : Nat) : Int) + 1 = h by omega]
    exact ⟨ht, rfl⟩
theorem takeL_len (b : List Int) : (takeL b).length ≤ 40 := by unfold takeL; rw [List.length_map]; exact entsK_len b 40
theorem take_good (hf : Fine b) : Good ((b.length : Int) - 288) (takeL b) := by
  refine ⟨fun e he => ?_, ?_⟩
  · obtain ⟨h, h1, h2, ht, rfl⟩ := mem_takeL.1 he
    have := hf.ent h1 h2 ht
    show 0 ≤ (entOf b h).2.1 - 288 ∧ 1 ≤ (entOf b h).2.2.1 ∧ (entOf b h).2.1 - 288 + (entOf b h).2.2.1 ≤ _
    omega
  · unfold takeL
    rw [List.pairwise_map]
    have key : ∀ k : Nat, k ≤ 40 → (entsK b k).Pairwise (fun x y => over (shE x) (shE y) = false) := by
      intro k
      induction k with
      | zero => intro _; exact List.Pairwise.nil
      | succ k ih =>
        intro hk
        unfold entsK
        rw [List.pairwise_append]
        refine ⟨ih (by omega), ?_, ?_⟩
        · split
          · exact List.Pairwise.nil
          · exact List.pairwise_singleton _ _
        · intro x hx y hy
          obtain ⟨j, h1, h2, rfl⟩ := mem_entsP.1 hx
          by_cases ht : tagAt b ((k : Int) + 1) = 0
          · rw [if_pos ht] at hy; cases hy
          · rw [if_neg ht] at hy
            rw [List.mem_singleton.1 hy, over_sh]
            exact hf.apart (by omega) (by omega) (by omega) (by omega) (by omega) h2 ht
    exact key 40 (Nat.le_refl _)
/-- Of bytes that no extent takes some run has them all. -/
theorem run_holds : ∀ {s : List (Int × Int)} {f : Int}, Chain f s → ∀ {p z : Int}, f ≤ p → 1 ≤ z → p + z ≤ endOf f s → (∀ e ∈ s, e.1 + e.2 ≤ p ∨ p + z ≤ e.1) → ∃ x ∈ runsOf f s, x.1 ≤ p ∧ p + z ≤ x.1 + x.2 := by
  intro s
  induction s with
  | nil =>
    intro f _ p z h1 h2 h3 _
    simp only [endOf] at h3
    omega
  | cons e r ih =>
    intro f hc p z h1 h2 h3 h4
    obtain ⟨c1, c2, c3⟩ := hc
    rcases h4 e (by simp) with h | h
    · obtain ⟨x, hx, h5⟩ := ih c3 h h2 h3 (fun e' he' => h4 e' (by simp [he']))
      exact ⟨x, by unfold runsOf; exact List.mem_append.2 (.inr hx), h5⟩
    · refine ⟨(f, e.1 - f), ?_, h1, by show p + z ≤ f + (e.1 - f); omega⟩
      unfold runsOf
      rw [if_pos (by omega)]
      simp
theorem free_holds {n : Int} {l s : List (Int × Int)} (hs : Srt l s) (hg : Good n l) (hn : 0 ≤ n) {p z : Int} (h1 : 0 ≤ p) (h2 : 1 ≤ z) (h3 : p + z ≤ n) (h4 : ∀ e ∈ l, e.1 + e.2 ≤ p ∨ p + z ≤ e.1) : ∃ x ∈ freeOf n s, x.1 ≤ p ∧ p + z ≤ x.1 + x.2 := by
  obtain ⟨c1, c2, _⟩ := hs.chain hg hn
  refine run_holds c1 h1 h2 (by rw [c2]; exact h3) (fun e he => ?_)
  rcases List.mem_append.1 he with he | he
  · exact h4 e (hs.1.mem_iff.1 he)
  · rw [List.mem_singleton.1 he]
    exact .inr h3
/-- Where the shortest run begins that will do, there is room; and there is one, if so many bytes are free anywhere. -/
theorem fit_room {n : Int} {l s : List (Int × Int)} (hs : Srt l s) (hg : Good n l) (hn : 0 ≤ n) {z : Int} (hz : 1 ≤ z) (hf : (fitB z (freeOf n s)).2 ≠ 0) :
    0 ≤ (fitB z (freeOf n s)).1 ∧ (fitB z (freeOf n s)).1 + z ≤ n ∧ ∀ e ∈ l, e.1 + e.2 ≤ (fitB z (freeOf n s)).1 ∨ (fitB z (freeOf n s)).1 + z ≤ e.1 := by
  have hin := hs.freeIn hg hn
  rcases fit_spec hz (fun r hr => (hin r hr).2.1) with ⟨h, _⟩ | ⟨_, h1, h2, _⟩
  · exact absurd h hf
  · obtain ⟨q1, q2, q3, q4⟩ := hin _ h1
    refine ⟨q1, by omega, fun e he => ?_⟩
    have := over_no.1 (q4 e he)
    omega
theorem fit_there {n : Int} {l s : List (Int × Int)} (hs : Srt l s) (hg : Good n l) (hn : 0 ≤ n) {p z : Int} (h1 : 0 ≤ p) (h2 : 1 ≤ z) (h3 : p + z ≤ n) (h4 : ∀ e ∈ l, e.1 + e.2 ≤ p ∨ p + z ≤ e.1) : (fitB z (freeOf n s)).2 ≠ 0 := by
  obtain ⟨x, hx, h5, h6⟩ := free_holds hs hg hn h1 h2 h3 h4
  rcases fit_spec h2 (fun r hr => (hs.freeIn hg hn r hr).2.1) with ⟨_, h⟩ | ⟨h, _⟩
  · have := h x hx; omega
  · omega
/-! ### one more -/
/-- The least handle that is none, less one; 40: there is none. -/
def lowH (b : List Int) : Nat := fstN (fun j => decide (tagAt b ((j : Int) + 1) = 0)) 40
theorem lowH_first (b : List Int) : First (fun j => decide (tagAt b ((j : Int) + 1) = 0)) 40 (lowH b) := first_fstN _ _
/-- An image with one object more: its bytes all 0, its entry. -/
def alL (b : List Int) (h : Int) (x n : Nat) (t : Int) : List Int := putL (splice b x (zerosB n)) (h, (x : Int), (n : Int), t)
theorem alloc_keep (hf : Fine b) {h t : Int} {x n : Nat} (h1 : 1 ≤ h) (h2 : h ≤ 40) (ht0 : tagAt b h = 0) (hn : 1 ≤ n) (hn2 : n ≤ 1000) (hx : 288 ≤ x) (hx2 : x + n ≤ b.length) (t1 : 0 ≤ t) (t2 : t ≤ 15)
    (hno : ∀ k, 1 ≤ k → k ≤ 40 → tagAt b k ≠ 0 → (entOf b k).2.1 + (entOf b k).2.2.1 ≤ x ∨ (x : Int) + n ≤ (entOf b k).2.1) :
    Fine (alL b h x n t) ∧ (alL b h x n t).length = b.length ∧ objOf (alL b h x n t) h = (t, zerosB n) ∧ entOf (alL b h x n t) h = (h, (x : Int), (n : Int), t) ∧ tagAt (alL b h x n t) h ≠ 0 ∧
      (∀ k, 1 ≤ k → k ≤ 40 → k ≠ h → objOf (alL b h x n t) k = objOf b k ∧ tagAt (alL b h x n t) k = tagAt b k ∧ entOf (alL b h x n t) k = entOf b k) := by
  have hz := length_zerosB n
  obtain ⟨hf1, hl1, he1, ho1⟩ := lay_objs hf (r := zerosB n) hx (by rw [hz]; exact hx2)
  have hp : putE (splice b x (zerosB n)) (h, (x : Int), (n : Int), t) = 0 := putE_zero.2 ⟨hf1.len0, hndB_iff.2 ⟨h1, h2⟩, t1, t2, by show 1 ≤ (n : Int); omega, by show (n : Int) ≤ 1000; omega, by show 288 ≤ (x : Int); omega, by rw [hl1]; show (x : Int) + n ≤ _; omega⟩
  have h0 : tagAt (splice b x (zerosB n)) h = 0 := by rw [(he1 h h1 h2).1]; exact ht0
  have hno1 : ∀ k, 1 ≤ k → k ≤ 40 → tagAt (splice b x (zerosB n)) k ≠ 0 → lapB (h, (x : Int), (n : Int), t) (entOf (splice b x (zerosB n)) k) = false := fun k k1 k2 kt => by
    obtain ⟨e1, e2⟩ := he1 k k1 k2
    rw [e1] at kt
    rw [e2]
    exact lapB_no.2 (hno k k1 k2 kt)
  obtain ⟨p1, p2, p3, p4, p5, p6⟩ := put_fine hf1 hp h0 hno1
  obtain ⟨o1, o2⟩ := put_objs hf1 hp h0 hno1
  refine ⟨p1, p5.trans hl1, ?_, p4, p3, fun k k1 k2 hk => ⟨?_, ?_, ?_⟩⟩
  · refine o2.trans ?_
    congr 1
    unfold partL
    dsimp only
    rw [Int.toNat_natCast, Int.toNat_natCast]
    apply ext_getD
    · rw [List.length_take, List.length_drop, hl1, hz]; omega
    · intro j hj
      rw [List.length_take, List.length_drop] at hj
      have hj2 : j < n := by omega
      have := splice_in (z := b) (l := zerosB n) (off := x) (j := j) (by rw [hz]; exact hx2) (by rw [hz]; exact hj2)
      simp only [List.getD, List.getElem?_take, if_pos hj2, List.getElem?_drop] at this ⊢
      exact this
  · exact (o1 k k1 k2 hk).trans (ho1 k k1 k2 (fun kt => by rw [hz]; exact hno k k1 k2 kt))
  · exact (p2 k k1 k2 hk).1.trans (he1 k k1 k2).1
  · exact (p2 k k1 k2 hk).2.trans (he1 k k1 k2).2
/-- The least handle, where it fits: all that Alloc needs. -/
theorem alloc_fit (hf : Fine b) {s : List (Int × Int)} (hs : Srt (takeL b) s) {n : Nat} (hn : 1 ≤ n) (hfit : (fitB n (freeOf ((b.length : Int) - 288) s)).2 ≠ 0) :
    ∃ x : Nat, (x : Int) = 288 + (fitB n (freeOf ((b.length : Int) - 288) s)).1 ∧ 288 ≤ x ∧ x + n ≤ b.length ∧ ∀ k, 1 ≤ k → k ≤ 40 → tagAt b k ≠ 0 → (entOf b k).2.1 + (entOf b k).2.2.1 ≤ x ∨ (x : Int) + n ≤ (entOf b k).2.1 := by
  have hl := hf.len
  obtain ⟨r1, r2, r3⟩ := fit_room hs (take_good hf) (by omega) (z := (n : Int)) (by omega) hfit
  generalize (fitB n (freeOf ((b.length : Int) - 288) s)).1 = y at *
  refine ⟨(288 + y).toNat, by omega, by omega, by omega, fun k k1 k2 kt => ?_⟩
  have := r3 (shE (entOf b k)) (mem_takeL.2 ⟨k, k1, k2, kt, rfl⟩)
  unfold shE at this
  dsimp only at this
  omega
/-! ### bytes written into one -/
theorem write_keep (hf : Fine b) {h : Int} (h1 : 1 ≤ h) (h2 : h ≤ 40) (ht : tagAt b h ≠ 0) {p : Nat} {r : List Int} (hr : (p : Int) + r.length ≤ (entOf b h).2.2.1) :
    Fine (splice b ((entOf b h).2.1.toNat + p) r) ∧ (splice b ((entOf b h).2.1.toNat + p) r).length = b.length ∧ (∀ k, 1 ≤ k → k ≤ 40 → k ≠ h → objOf (splice b ((entOf b h).2.1.toNat + p) r) k = objOf b k) ∧
      (∀ k, 1 ≤ k → k ≤ 40 → tagAt (splice b ((entOf b h).2.1.toNat + p) r) k = tagAt b k ∧ entOf (splice b ((entOf b h).2.1.toNat + p) r) k = entOf b k) ∧ partL (splice b ((entOf b h).2.1.toNat + p) r) ((entOf b h).2.1 + p) r.length = r := by
  have he := hf.ent h1 h2 ht
  have hx2 : (entOf b h).2.1.toNat + p + r.length ≤ b.length := by omega
  obtain ⟨q1, q2, q3, q4⟩ := lay_objs hf (x := (entOf b h).2.1.toNat + p) (r := r) (by omega) hx2
  refine ⟨q1, q2, fun k k1 k2 hk => q4 k k1 k2 (fun kt => ?_), q3, ?_⟩
  · have := lapB_no.1 (hf.apart h1 h2 k1 k2 (fun e => hk e.symm) ht kt)
    omega
  · unfold partL
    rw [show ((entOf b h).2.1 + (p : Int)).toNat = (entOf b h).2.1.toNat + p by omega, Int.toNat_natCast]
    apply ext_getD
    · rw [List.length_take, List.length_drop, q2]; omega
    · intro j hj
      rw [List.length_take, List.length_drop] at hj
      have hj2 : j < r.length := by omega
      have := splice_in (z := b) (l := r) (off := (entOf b h).2.1.toNat + p) (j := j) hx2 hj2
      simp only [List.getD, List.getElem?_take, if_pos hj2, List.getElem?_drop] at this ⊢
      exact this
end
end Go.Proofs.YtopblhmbjdfebaaGreat
/-! What Free answers, as plain lists. (Part of the proofs over package heap.) -/
namespace Go.Proofs.YtopblhmbjdfebaaGreat
open Go.RowKit
set_option linter.unusedVariables false

/-- Why an object is not freed. -/
def frE (L : List Int) (h : Int) : Int := if chkE L h ≠ 0 then chkE L h else if (rootsK L 8).any (fun r => r.2 == h) = true then 7 else 0
/-- The image behind a Free. -/
def frB (L : List Int) (h : Int) : List Int := if frE L h = 0 then dropL L h else L
theorem frE_zero {L : List Int} {h : Int} : frE L h = 0 ↔ chkE L h = 0 ∧ (rootsK L 8).any (fun r => r.2 == h) = false := by
  unfold frE
  by_cases h0 : chkE L h = 0
  · rw [if_neg (fun h => h h0)]
    cases h1 : (rootsK L 8).any (fun r => r.2 == h) with
    | true => rw [if_pos rfl]; exact ⟨fun h => absurd h (by decide), fun h => by cases h.2⟩
    | false => rw [if_neg (by simp)]; exact ⟨fun _ => ⟨h0, rfl⟩, fun _ => rfl⟩
  · rw [if_pos h0]
    exact ⟨fun h => absurd h h0, fun h => absurd h.1 h0⟩
theorem mem_rootsK8 {b : List Int} : ∀ {k i : Nat}, i < k → isRoot (rowAt b i) = true → rootOf (rowAt b i) ∈ rootsK b k
  | 0, i, h, _ => absurd h (Nat.not_lt_zero i)
  | k + 1, i, h, hr => by
    unfold rootsK
    by_cases e : i = k
    · subst e
      rw [if_pos hr]
      simp
    · exact List.mem_append.2 (.inl (mem_rootsK8 (by omega) hr))
theorem drop_ok {L : List Int} (hf : Fine L) {h : Int} (h0 : frE L h = 0) : Fine (dropL L h) := by
  obtain ⟨h1, h2⟩ := frE_zero.1 h0
  refine (drop_fine hf h1 (fun i hi hr e => ?_)).1
  have hm := mem_rootsK8 hi hr
  have := List.any_eq_false.1 h2 _ hm
  apply this
  rw [beq_iff_eq]
  exact e
theorem byt_drop {L : List Int} (hb : Byt L) (h : Int) : Byt (dropL L h) := by
  unfold dropL
  split
  · exact byt_splice hb (byt_zerosB 5)
  · exact fun z hz => (by cases hz)
end Go.Proofs.YtopblhmbjdfebaaGreat
/-! The least handle that is none, as a loop over the entries finds it; an entry that is put and bytes that are laid behind the head do not touch. As plain lists. (Part of the proofs over package heap.) -/
namespace Go.Proofs.YtopblhmbjdfebaaGreat
open Go.RowKit
set_option linter.unusedVariables false

/-- Handle by handle: one that is there is passed. -/
def lowF (l : List (Int × Int × Int × Int)) : Int := l.foldl (fun h e => if e.1 = h then h + 1 else h) 1
theorem lowF_snoc (l : List (Int × Int × Int × Int)) (e : (Int × Int × Int × Int)) : lowF (l ++ [e]) = if e.1 = lowF l then lowF l + 1 else lowF l := by
  unfold lowF
  rw [List.foldl_append]
  rfl
theorem lowF_ents (b : List Int) : ∀ k : Nat, lowF (entsK b k) = (fstN (fun j => decide (tagAt b ((j : Int) + 1) = 0)) k : Int) + 1
  | 0 => by
    have h := (first_fstN (fun j => decide (tagAt b ((j : Int) + 1) = 0)) 0).1
    have : fstN (fun j => decide (tagAt b ((j : Int) + 1) = 0)) 0 = 0 := by omega
    rw [this]
    rfl
  | k + 1 => by
    have ih := lowF_ents b k
    have h1 := first_fstN (fun j => decide (tagAt b ((j : Int) + 1) = 0)) k
    have h2 := first_fstN (fun j => decide (tagAt b ((j : Int) + 1) = 0)) (k + 1)
    generalize fstN (fun j => decide (tagAt b ((j : Int) + 1) = 0)) k = p at *
    have hp := h1.1
    unfold entsK
    by_cases ht : tagAt b ((k : Int) + 1) = 0
    · rw [if_pos ht, List.append_nil, ih]
      have h3 : First (fun j => decide (tagAt b ((j : Int) + 1) = 0)) (k + 1) p := ⟨by omega, h1.2.1, fun hlt => by
        by_cases e : p = k
        · rw [e]; exact decide_eq_true ht
        · exact h1.2.2 (by omega)⟩
      rw [First.unique h2 h3]
    · rw [if_neg ht, lowF_snoc, ih]
      by_cases e : p = k
      · subst e
        rw [if_pos (by show (p : Int) + 1 = p + 1; rfl)]
        have h3 : First (fun j => decide (tagAt b ((j : Int) + 1) = 0)) (p + 1) (p + 1) := ⟨Nat.le_refl _, fun j hj => by
          by_cases ej : j = p
          · rw [ej]; exact decide_eq_false ht
          · exact h1.2.1 j (by omega), fun h => absurd h (Nat.lt_irrefl _)⟩
        rw [First.unique h2 h3]
        omega
      · rw [if_neg (by show ¬ (k : Int) + 1 = p + 1; omega)]
        have h3 : First (fun j => decide (tagAt b ((j : Int) + 1) = 0)) (k + 1) p := ⟨by omega, h1.2.1, fun _ => h1.2.2 (by omega)⟩
        rw [First.unique h2 h3]
theorem lowF_low (b : List Int) : lowF (entsK b 40) = (lowH b : Int) + 1 := lowF_ents b 40
theorem lowH_le (b : List Int) : lowH b ≤ 40 := (lowH_first b).1
theorem lowF_take {l : List (Int × Int × Int × Int)} {k : Nat} {e : (Int × Int × Int × Int)} (h : l[k]? = some e) : lowF (l.take (k + 1)) = if e.1 = lowF (l.take k) then lowF (l.take k) + 1 else lowF (l.take k) := by
  rw [List.take_add_one, h]
  exact lowF_snoc _ _
theorem lowF_bd : ∀ (l : List (Int × Int × Int × Int)), 1 ≤ lowF l ∧ lowF l ≤ l.length + 1 := by
  intro l
  have key : ∀ (l : List (Int × Int × Int × Int)) (h : Int), h ≤ l.foldl (fun h e => if e.1 = h then h + 1 else h) h ∧ l.foldl (fun h e => if e.1 = h then h + 1 else h) h ≤ h + l.length := by
    intro l
    induction l with
    | nil => intro h; simp
    | cons e r ih =>
      intro h
      simp only [List.foldl_cons, List.length_cons]
      have := ih (if e.1 = h then h + 1 else h)
      split at this
      · rename_i he; rw [if_pos he]; omega
      · rename_i he; rw [if_neg he]; omega
  have := key l 1
  unfold lowF
  omega
/-- Put first, then laid; or laid first, then put. -/
theorem put_lay {b r : List Int} {e : (Int × Int × Int × Int)} {x : Nat} (he : putE b e = 0) (hx : 288 ≤ x) (hx2 : x + r.length ≤ b.length) : putE (splice b x r) e = 0 ∧ splice (putL b e) x r = putL (splice b x r) e := by
  have hl := length_splice hx2
  obtain ⟨q1, q2, q3⟩ := putE_zero.1 he
  have hh := hndB_iff.1 q2
  have hp := plc_le hh.1 hh.2
  have hr5 : (rowE e).length = 5 := rfl
  have he2 : putE (splice b x r) e = 0 := putE_zero.2 (by rw [hl]; exact ⟨q1, q2, q3⟩)
  refine ⟨he2, ?_⟩
  have hb1 : plc e.1 + (rowE e).length ≤ b.length := by rw [hr5]; omega
  have hb2 : plc e.1 + (rowE e).length ≤ (splice b x r).length := by rw [hl]; exact hb1
  have hl1 := length_splice hb1
  have hb3 : x + r.length ≤ (splice b (plc e.1) (rowE e)).length := by rw [hl1]; exact hx2
  unfold putL
  rw [if_pos he, if_pos he2]
  apply ext_getD
  · rw [length_splice hb3, hl1, length_splice hb2, hl]
  · intro j hj
    by_cases c1 : j < plc e.1
    · rw [splice_out hb3 (.inl (by omega)), splice_out hb1 (.inl c1), splice_out hb2 (.inl c1), splice_out hx2 (.inl (by omega))]
    · by_cases c2 : j < plc e.1 + 5
      · obtain ⟨i, rfl⟩ : ∃ i, j = plc e.1 + i := ⟨j - plc e.1, by omega⟩
        rw [splice_out hb3 (.inl (by omega)), splice_in hb1 (by rw [hr5]; omega), splice_in hb2 (by rw [hr5]; omega)]
      · have c3 : plc e.1 + (rowE e).length ≤ j := by rw [hr5]; omega
        rw [splice_out hb2 (.inr c3)]
        by_cases c4 : j < x
        · rw [splice_out hb3 (.inl c4), splice_out hx2 (.inl c4), splice_out hb1 (.inr c3)]
        · by_cases c5 : j < x + r.length
          · obtain ⟨i, rfl⟩ : ∃ i, j = x + i := ⟨j - x, by omega⟩
            rw [splice_in hb3 (by omega), splice_in hx2 (by omega)]
          · rw [splice_out hb3 (.inr (by omega)), splice_out hx2 (.inr (by omega)), splice_out hb1 (.inr c3)]
end Go.Proofs.YtopblhmbjdfebaaGreat
/-! What Frees and Fit answer, as plain lists. (Part of the proofs over packages extent and heap.) -/
namespace Go.Proofs.YtopblhmbjdfebaaGreat
set_option linter.unusedVariables false

/-- Extents, rising. -/
def srtL (l : List (Int × Int)) : List (Int × Int) := l.mergeSort (fun a b => decide (a.1 ≤ b.1))
theorem Good.srt {n : Int} {l s : List (Int × Int)} (hg : Good n l) (hp : s.Perm l) (hs : s.Pairwise (fun a b => a.1 ≤ b.1)) : Srt l s := by
  refine ⟨hp, ?_⟩
  have hgs := hg.perm hp
  refine (hs.and hgs.apart).imp_of_mem (fun {a b} ha hb ⟨h1, h2⟩ => ?_)
  have := over_no.1 h2
  have := hgs.all a ha
  have := hgs.all b hb
  omega
theorem Good.srtL {n : Int} {l : List (Int × Int)} (hg : Good n l) : Srt l (srtL l) := by
  refine hg.srt (List.mergeSort_perm l _) ?_
  have := List.pairwise_mergeSort (le := fun a b : (Int × Int) => decide (a.1 ≤ b.1)) (fun a b c h1 h2 => by simp at *; omega) (fun a b => by simp; omega) l
  exact this.imp (fun h => by simpa using h)
theorem Good.srt_eq {n : Int} {l s : List (Int × Int)} (hg : Good n l) (hp : s.Perm l) (hs : s.Pairwise (fun a b => a.1 ≤ b.1)) : s = YtopblhmbjdfebaaGreat.srtL l :=
  srt_unique ((hg.srt hp hs).1.trans hg.srtL.1.symm) (hg.srt hp hs).2 hg.srtL.2
/-- What Frees gives. -/
def freeL (n : Int) (l : List (Int × Int)) : List (Int × Int) := if chk n l = 0 then freeOf n (srtL l) else []
/-- Which error Fit tells, and which place. -/
def fitE (n : Int) (l : List (Int × Int)) (size : Int) : Int := if chk n l ≠ 0 then chk n l else if size < 1 ∨ 6400 < size then 1 else if (fitB size (freeL n l)).2 = 0 then 4 else 0
def fitAt (n : Int) (l : List (Int × Int)) (size : Int) : Int := if fitE n l size = 0 then (fitB size (freeL n l)).1 else 0

theorem runs_len : ∀ (f : Int) (s : List (Int × Int)), (runsOf f s).length ≤ s.length
  | f, [] => Nat.le_refl _
  | f, e :: r => by
    have := runs_len (e.1 + e.2) r
    simp only [runsOf, List.length_append, List.length_cons]
    by_cases h : f < e.1
    · rw [if_pos h]; simp; omega
    · rw [if_neg h]; simp; omega
theorem freeL_small {n : Int} {l : List (Int × Int)} (hc : chk n l = 0) : (∀ x ∈ freeL n l, 0 ≤ x.1 ∧ 1 ≤ x.2 ∧ x.1 + x.2 ≤ n) ∧ (freeL n l).length ≤ 201 := by
  obtain ⟨h0, h1, h2, hg⟩ := chk_zero.1 hc
  unfold freeL
  rw [if_pos hc]
  refine ⟨fun x hx => ?_, ?_⟩
  · have := hg.srtL.freeIn hg h0 x hx
    exact ⟨this.1, this.2.1, this.2.2.1⟩
  · refine Nat.le_trans (runs_len _ _) ?_
    rw [List.length_append, hg.srtL.1.length_eq]
    simp; omega
end Go.Proofs.YtopblhmbjdfebaaGreat
/-! What Alloc answers, as plain lists. (Part of the proofs over package heap.) -/
namespace Go.Proofs.YtopblhmbjdfebaaGreat
open Go.RowKit
set_option linter.unusedVariables false

/-- Why an object of n bytes of a tag cannot be had. -/
def alE (L : List Int) (n t : Int) : Int := if n < 1 ∨ 1000 < n ∨ t < 0 ∨ 15 < t then 1 else if lowH L = 40 then 4 else fitE ((L.length : Int) - 288) (takeL L) n
/-- Its handle. -/
def alH (L : List Int) (n t : Int) : Int := if alE L n t = 0 then (lowH L : Int) + 1 else 0
/-- The image behind it. -/
def alB (L : List Int) (n t : Int) : List Int := if alE L n t = 0 then alL L ((lowH L : Int) + 1) (288 + fitAt ((L.length : Int) - 288) (takeL L) n).toNat n.toNat t else L
theorem take_chk {L : List Int} (hf : Fine L) : chk ((L.length : Int) - 288) (takeL L) = 0 := by
  have := hf.len
  exact chk_zero.2 ⟨by omega, by omega, Nat.le_trans (takeL_len L) (by decide), take_good hf⟩
theorem take_srt {L : List Int} (hf : Fine L) : Srt (takeL L) (srtL (takeL L)) := (take_good hf).srtL
theorem fitE_fine {L : List Int} (hf : Fine L) {n : Int} (h1 : 1 ≤ n) (h2 : n ≤ 6400) : fitE ((L.length : Int) - 288) (takeL L) n = if (fitB n (freeOf ((L.length : Int) - 288) (srtL (takeL L)))).2 = 0 then 4 else 0 := by
  unfold fitE freeL
  rw [if_neg (fun h => h (take_chk hf)), if_neg (by omega), if_pos (take_chk hf)]
theorem fitAt_fine {L : List Int} (hf : Fine L) {n : Int} (h1 : 1 ≤ n) (h2 : n ≤ 6400) (h0 : fitE ((L.length : Int) - 288) (takeL L) n = 0) : fitAt ((L.length : Int) - 288) (takeL L) n = (fitB n (freeOf ((L.length : Int) - 288) (srtL (takeL L)))).1 := by
  unfold fitAt
  rw [if_pos h0]
  unfold freeL
  rw [if_pos (take_chk hf)]
/-- All that is known where an object can be had. -/
structure AlOk (L : List Int) (n t : Int) (x N : Nat) : Prop where
  eqn : n = N
  n1 : 1 ≤ N
  n2 : N ≤ 1000
  t1 : 0 ≤ t
  t2 : t ≤ 15
  low : lowH L < 40
  free : tagAt L ((lowH L : Int) + 1) = 0
  fit : fitE ((L.length : Int) - 288) (takeL L) n = 0
  eqx : 288 + fitAt ((L.length : Int) - 288) (takeL L) n = x
  x1 : 288 ≤ x
  x2 : x + N ≤ L.length
  no : ∀ k, 1 ≤ k → k ≤ 40 → tagAt L k ≠ 0 → (entOf L k).2.1 + (entOf L k).2.2.1 ≤ x ∨ (x : Int) + N ≤ (entOf L k).2.1
theorem al_ok {L : List Int} (hf : Fine L) {n t : Int} (h0 : alE L n t = 0) : ∃ x N, AlOk L n t x N := by
  unfold alE at h0
  by_cases h1 : n < 1 ∨ 1000 < n ∨ t < 0 ∨ 15 < t
  · rw [if_pos h1] at h0; exact absurd h0 (by decide)
  · rw [if_neg h1] at h0
    by_cases h2 : lowH L = 40
    · rw [if_pos h2] at h0; exact absurd h0 (by decide)
    · rw [if_neg h2] at h0
      have h3 := lowH_le L
      obtain ⟨N, rfl⟩ := Int.eq_ofNat_of_zero_le (show 0 ≤ n by omega)
      have hfit : (fitB (N : Int) (freeOf ((L.length : Int) - 288) (srtL (takeL L)))).2 ≠ 0 := fun hz => by
        rw [fitE_fine hf (by omega) (by omega), if_pos hz] at h0
        exact absurd h0 (by decide)
      obtain ⟨x, hx, hx1, hx2, hno⟩ := alloc_fit hf (take_srt hf) (n := N) (by omega) hfit
      exact ⟨x, N, rfl, by omega, by omega, by omega, by omega, by omega, of_decide_eq_true ((lowH_first L).2.2 (by omega)), h0, by rw [fitAt_fine hf (by omega) (by omega) h0, hx], hx1, hx2, hno⟩
section
variable {L : List Int} {n t : Int} {x N : Nat}
theorem AlOk.img (h : AlOk L n t x N) (h0 : alE L n t = 0) : alB L n t = alL L ((lowH L : Int) + 1) x N t ∧ alH L n t = (lowH L : Int) + 1 := by
  unfold alB alH
  rw [if_pos h0, if_pos h0, h.eqx, h.eqn, Int.toNat_natCast, Int.toNat_natCast]
  exact ⟨rfl, rfl⟩
theorem AlOk.put (h : AlOk L n t x N) (hf : Fine L) : putE L ((lowH L : Int) + 1, (x : Int), (N : Int), t) = 0 := by
  have h1 := h.low
  have h2 := h.n1
  have h3 := h.n2
  have h4 := h.t1
  have h5 := h.t2
  have h6 := h.x1
  have h7 := h.x2
  exact putE_zero.2 ⟨hf.len0, hndB_iff.2 ⟨by show 1 ≤ (lowH L : Int) + 1; omega, by show (lowH L : Int) + 1 ≤ 40; omega⟩, h4, h5, by show 1 ≤ (N : Int); omega, by show (N : Int) ≤ 1000; omega, by show 288 ≤ (x : Int); omega, by show (x : Int) + N ≤ _; omega⟩
theorem AlOk.keep (h : AlOk L n t x N) (hf : Fine L) (h0 : alE L n t = 0) : Fine (alB L n t) ∧ (alB L n t).length = L.length ∧ objOf (alB L n t) ((lowH L : Int) + 1) = (t, zerosB N) ∧ entOf (alB L n t) ((lowH L : Int) + 1) = ((lowH L : Int) + 1, (x : Int), (N : Int), t) ∧ tagAt (alB L n t) ((lowH L : Int) + 1) ≠ 0 ∧
    (∀ k, 1 ≤ k → k ≤ 40 → k ≠ (lowH L : Int) + 1 → objOf (alB L n t) k = objOf L k ∧ tagAt (alB L n t) k = tagAt L k ∧ entOf (alB L n t) k = entOf L k) := by
  rw [(h.img h0).1]
  exact alloc_keep hf (by omega) (by have := h.low; omega) h.free h.n1 h.n2 h.x1 h.x2 h.t1 h.t2 h.no
/-- Put first, then cleared: what the code does. -/
theorem AlOk.lay (h : AlOk L n t x N) (hf : Fine L) (h0 : alE L n t = 0) : splice (putL L ((lowH L : Int) + 1, (x : Int), (N : Int), t)) x (zerosB N) = alB L n t := by
  rw [(h.img h0).1]
  exact (put_lay (h.put hf) h.x1 (by rw [length_zerosB]; exact h.x2)).2
end
theorem alB_byt {L : List Int} (hb : Byt L) (n t : Int) : Byt (alB L n t) := by
  unfold alB
  split
  · unfold alL putL
    split
    · exact byt_splice (byt_splice hb (byt_zerosB _)) (byt_rowE _)
    · exact fun z hz => (by cases hz)
  · exact hb
theorem alB_fine {L : List Int} (hf : Fine L) (n t : Int) : Fine (alB L n t) := by
  by_cases h0 : alE L n t = 0
  · obtain ⟨x, N, h⟩ := al_ok hf h0
    exact (h.keep hf h0).1
  · unfold alB
    rw [if_neg h0]
    exact hf

theorem ents_in {L : List Int} (hf : Fine L) : ∀ e ∈ entsK L 40, 0 ≤ e.2.1 ∧ e.2.1 ≤ 65535 ∧ 0 ≤ e.2.2.1 ∧ e.2.2.1 ≤ 65535 := fun e he => by
  obtain ⟨j, h1, h2, rfl⟩ := mem_entsP.1 he
  have := hf.ent (h := (j : Int) + 1) (by omega) (by omega) h2
  have := hf.len
  omega
end Go.Proofs.YtopblhmbjdfebaaGreat
/-! What Read and Write answer, as plain lists. (Part of the proofs over package heap.) -/
namespace Go.Proofs.YtopblhmbjdfebaaGreat
open Go.RowKit
set_option linter.unusedVariables false

/-- Why n bytes of an object, from x on, are not there. -/
def pcE (L : List Int) (h x n : Int) : Int := if chkE L h ≠ 0 then chkE L h else if x < 0 ∨ n < 0 ∨ (entOf L h).2.2.1 < x + n then 3 else 0
theorem pcE_zero {L : List Int} {h x n : Int} : pcE L h x n = 0 ↔ chkE L h = 0 ∧ 0 ≤ x ∧ 0 ≤ n ∧ x + n ≤ (entOf L h).2.2.1 := by
  unfold pcE
  by_cases h0 : chkE L h = 0
  · rw [if_neg (fun h => h h0)]
    by_cases h1 : x < 0 ∨ n < 0 ∨ (entOf L h).2.2.1 < x + n
    · rw [if_pos h1]
      exact ⟨fun h => absurd h (by decide), fun h => by omega⟩
    · rw [if_neg h1]
      exact ⟨fun _ => ⟨h0, by omega⟩, fun _ => rfl⟩
  · rw [if_pos h0]
    exact ⟨fun h => absurd h h0, fun h => absurd h.1 h0⟩
/-- The bytes that Read gives. -/
def rdL (L : List Int) (h x n : Int) : List Int := if pcE L h x n = 0 then (L.drop ((entOf L h).2.1.toNat + x.toNat)).take n.toNat else []
theorem rdL_byt {L : List Int} (hb : Byt L) (h x n : Int) : Byt (rdL L h x n) := by
  unfold rdL
  by_cases h0 : pcE L h x n = 0
  · rw [if_pos h0]; exact hb.sub _ _
  · rw [if_neg h0]; exact fun z hz => absurd hz List.not_mem_nil
/-- The image behind a Write. -/
def wrB (L : List Int) (h x : Int) (l : List Int) : List Int := if pcE L h x l.length = 0 then splice L ((entOf L h).2.1.toNat + x.toNat) l else L
end Go.Proofs.YtopblhmbjdfebaaGreat
/-! Contracts of package image once more: what Put and Drop give is a row of its own, that may be written. (Part of the proofs over package heap.) -/
namespace Go.Proofs.YtopblhmbjdfebaaGreat
open Go.RowKit
set_option linter.unusedVariables false

section
variable {w w' : World} {B B' g c : Nat} {cur : Array Value} {l : List Int}
theorem Row.lt (h : Row w B g c cur l) : g < w.heap.size := (Array.getElem?_eq_some_iff.1 h.2.1).1
theorem Row.below (h : Row w B g c cur l) (hb : Below w.heap.size w w') : Row w' B g c cur l := ⟨h.1, (hb.block g h.lt).trans h.2.1, h.2.2⟩
theorem Row.low (h : Row w B' g c cur l) (hB : B ≤ B') : Row w B g c cur l := ⟨Nat.le_trans hB h.1, h.2⟩
end
/-- How a call that answers bytes of its own and something ends. -/
def EndsR (w : World) (L : List Int) (x : Value) (e : Ending) (w' : World) : Prop :=
  ∃ g c cur, e = .returned (.tuple #[.slice (some ⟨g, 0, none⟩) L.length c, x]) ∧ Row w' w.heap.size g c cur L ∧ Below w.heap.size w w'
/-- A copy in which bytes are laid. -/
theorem with_row (a : Option Addr) (cap : Nat) (l : List Int) (p : Nat) (ra : Option Addr) (rc : Nat) (r : List Int) (w : World) (hb : Bs w a cap l) (hr : Bs w ra rc r) (h0 : r ≠ []) (hfit : p + r.length ≤ l.length) :
    Calls Tryz.prog 66 #[.slice a l.length cap, .int .i64 p, .slice ra r.length rc] w fun e w' => ∃ g' c' cur', e = .returned (.slice (some ⟨g', 0, none⟩) l.length c') ∧ Row w' w.heap.size g' c' cur' (splice l p r) ∧ Below w.heap.size w w' := by
  have hrl : 0 < r.length := by
    cases r with
    | nil => exact absurd rfl h0
    | cons _ _ => simp
  have HC := hide (clone_u8 a cap l w hb (by intro e; rw [e] at hfit; simp only [List.length_nil] at hfit; omega))
  have HR := hide hr
  have hbl := hb.2.2.1
  clear hb hr
  go_enter Tryz.func66, Tryz.ntmps66
  go_wp2_with fail
  refine (unhide HC).mono ?_
  rintro e w1 ⟨g, c, rfl, hown, hb1⟩
  obtain ⟨cur, hrow⟩ := Row.of_own hown
  have hcut := cut_row (P := Tryz.prog) Tryz.underlying22 size_u8 g c l.length p (by omega) hrow.2.2.1 (by have := hrow.2.2.1; omega)
  have hcopy : Sem.run Tryz.prog (Builtin.copy_ #[22, 22] 3 #[.slice (some ⟨g, p, none⟩) (l.length - p) (c - p), .slice ra r.length rc]) w1 = .ok (.int .i64 r.length) (laidW w1 g cur p r) :=
    run_copy_laid w1 _ _ _ Tryz.underlying22 size_u8 _ g p _ _ c cur ra rc l r (by omega) h0 hfit hrow ((unhide HR).below hb1)
  have HW := hide (laidW_row hrow hfit)
  have HB := hide (laidW_below (cur := cur) (l := r) (off := p) hb1 hrow.1)
  clear hown hrow hb1 HC HR
  go_wp2
  go_ret
  exact ⟨g, c, _, rfl, unhide HW, unhide HB⟩
set_option maxHeartbeats 1000000 in
theorem iPut_row (b : Option Addr) (cap : Nat) (L : List Int) (x a l t : Int) (w : World) (hbs : Bs w b cap L) (h0 : putE L (x, a, l, t) = 0) :
    Calls Tryz.prog 35 #[.slice b L.length cap, .agg #[.int .i64 x, .int .i64 a, .int .i64 l, .int .i64 t]] w (EndsR w (splice L (plc x) (rowE (x, a, l, t))) .nilIface) := by
  obtain ⟨q1, q2, q3⟩ := putE_zero.1 h0
  dsimp only at q2 q3
  have hlen := lenB_iff.1 q1
  have hx := hndB_iff.1 q2
  have hp := plc_le hx.1 hx.2
  have HC := hide (ckEnt_any L (x, a, l, t) (w.alloc (.cells #[.int .i64 x, .int .i64 a, .int .i64 l, .int .i64 t] 87)) hbs.2.2.1 (by dsimp only; omega))
  rw [h0, errV_zero] at HC
  unfold entV at HC
  dsimp only at HC
  have HE := hide (fun W => entryRow_any x a l t W ⟨q3.1, q3.2.1⟩ (by omega) (by omega))
  have HP := hide (fun W => entryAt_any x W hx.1 hx.2)
  have hrl : (rowE (x, a, l, t)).length = 5 := rfl
  have HW := hide (fun (W : World) (g : Nat) (h5 : Bs W b cap L) (h6 : Bs W (some ⟨g, 0, none⟩) 5 (rowE (x, a, l, t))) => with_row b cap L (plc x) (some ⟨g, 0, none⟩) 5 (rowE (x, a, l, t)) W h5 h6 (by intro e; cases e) (by omega))
  rw [hrl] at HW
  have HN := hide (EnB.new w (x, a, l, t))
  have HLEN := hide (length_splice (z := L) (l := rowE (x, a, l, t)) (off := plc x) (by omega))
  have HBS := hide hbs
  have hb3 := hbs.2.2.1
  clear h0 q1 q2 q3 hbs hrl
  generalize rowE (x, a, l, t) = R at *
  go_enter Tryz.func35, Tryz.ntmps35
  go_wp2_with fail
  refine (unhide HC).mono ?_
  rintro e w1 ⟨rfl, hb1⟩
  have hB1 : Below w.heap.size w w1 := ((Below.refl _ w).alloc (Nat.le_refl _) _).trans (hb1.mono (by simp))
  have hen1 := (unhide HN).below hb1 (by simp)
  obtain ⟨c0, c1, c2, c3⟩ := hen1.cells
  have HEN1 := hide hen1
  have HB1 := hide hB1
  clear hb1 hB1 hen1 HC HN
  go_wp2_with fail
  refine (unhide HE _).mono ?_
  rintro e w2 ⟨g, rfl, hbr, hb2⟩
  have hen2 := (unhide HEN1).below hb2 (unhide HEN1).lt
  obtain ⟨d0, d1, d2, d3⟩ := hen2.cells
  have HB2 := hide ((unhide HB1).trans (hb2.mono (unhide HB1).size))
  have HW2 := hide (unhide HW w2 g ((unhide HBS).below (unhide HB2)) hbr)
  clear hb2 hen2 hbr HEN1 HB1 HW HE c0 c1 c2 c3
  go_wp2_with fail
  refine (unhide HP _).mono ?_
  rintro e w3 ⟨rfl, hw3⟩
  subst hw3
  go_wp2_with fail
  refine (unhide HW2).mono ?_
  rintro e w4 ⟨a4, c4, cur4, rfl, hbs4, hb4⟩
  have HB4 := hide ((unhide HB2).trans (hb4.mono (unhide HB2).size))
  have HBS4 := hide hbs4
  have HSZ4 := hide (unhide HB2).size
  clear hbs4 hb4 HB2 HW2 d0 d1 d2 d3
  go_wp2
  go_ret2
  exact ⟨a4, c4, cur4, by rw [unhide HLEN]; rfl, (unhide HBS4).low (unhide HSZ4), unhide HB4⟩

set_option maxRecDepth 100000 in
set_option maxHeartbeats 1000000 in
theorem drop_row (a : Option Addr) (cap : Nat) (l : List Int) (h : Int) (w : World) (hb : Bs w a cap l) (hc : chkE l h = 0) :
    Calls Tryz.prog 37 #[.slice a l.length cap, .int .i64 h] w (EndsR w (dropL l h) .nilIface) := by
  have HC := hide (check_any a cap l h w hb)
  have h3 := hb.2.2.1
  unfold dropL
  obtain ⟨hl0, hh0, ht⟩ := chkE_zero.1 hc
  rw [if_pos hc]
  rw [hc, errV_zero] at HC
  have hl1 := lenB_iff.1 hl0
  have hh1 := hndB_iff.1 hh0
  have hp := plc_le hh1.1 hh1.2
  have hzl := length_zerosB 5
  have hne : zerosB 5 ≠ [] := by intro e; rw [e] at hzl; simp at hzl
  have hd : Below w.heap.size w (mkW w.drew 5) := (show Below w.heap.size w w.drew from ⟨rfl, rfl, rfl, Nat.le_refl _, fun _ _ => rfl⟩).trans (mkW_below w.drew 5)
  have HW : Hid (Calls Tryz.prog 66 #[.slice a l.length cap, .int .i64 (plc h), .slice (some ⟨w.heap.size, 0, none⟩) 5 5] (mkW w.drew 5) fun e w' => ∃ g' c' cur', e = .returned (.slice (some ⟨g', 0, none⟩) l.length c') ∧ Row w' w.heap.size g' c' cur' (splice l (plc h) (zerosB 5)) ∧ Below w.heap.size w w') := hide (by
    have := with_row a cap l (plc h) (some ⟨w.heap.size, 0, none⟩) (zerosB 5).length (zerosB 5) (mkW w.drew 5) (hb.below hd) ((mkW_blk w.drew 5).bs (byt_zerosB 5) (by decide)) hne (by omega)
    rw [hzl] at this
    exact this.mono fun e w' ⟨a', c', cur', he, hbs, hbel⟩ => ⟨a', c', cur', he, hbs.low hd.size, hd.trans (hbel.mono hd.size)⟩)
  have HE := hide (fun w' => entryAt_any h w' hh1.1 hh1.2)
  have HLEN := hide (length_splice (z := l) (l := zerosB 5) (off := plc h) (by omega))
  have hmk : ∀ w', Sem.run Tryz.prog (Instr.makeSlice 22 (.int .i64 5) (.int .i64 5)) w' = .ok (.slice (some ⟨w'.heap.size, 0, none⟩) 5 5) (mkW w' 5) := fun w' => run_make_u8 w' 5 (by decide)
  clear hc ht hl0 hh0 hb hd
  go_enter Tryz.func37, Tryz.ntmps37
  go_wp2_with fail
  refine (unhide HC).mono ?_
  rintro e w1 ⟨rfl, rfl⟩
  go_wp2_with fail
  go_region_with (first | (go_at_call 67; refine (unhide HE _).mono ?_; rintro e w2 ⟨rfl, rfl⟩) | (go_at_call 66; refine (unhide HW).mono ?_; rintro e w3 ⟨a3, c3, cur3, rfl, hbs3, hb3⟩))
  all_goals
    go_wp2
    go_ret2
    exact ⟨a3, c3, cur3, by rw [unhide HLEN]; rfl, hbs3, hb3⟩
end Go.Proofs.YtopblhmbjdfebaaGreat
/-! What a call leaves alone: of the old blocks only those in a set have turned. (Part of the proofs over packages device and heap.) -/
namespace Go.Proofs.YtopblhmbjdfebaaGreat
open Go.RowKit
set_option linter.unusedVariables false

/-- Of w only the blocks in S have turned; of S' what is old is in S. -/
structure Turn (S S' : Nat → Prop) (w w' : World) : Prop where
  os : w'.os = w.os
  tape : w'.tape = w.tape
  output : w'.output = w.output
  size : w.heap.size ≤ w'.heap.size
  block : ∀ k, k < w.heap.size → ¬ S k → w'.heap[k]? = w.heap[k]?
  foot : ∀ k, k < w.heap.size → S' k → S k

theorem Turn.refl (S : Nat → Prop) (w : World) : Turn S S w w := ⟨rfl, rfl, rfl, Nat.le_refl _, fun _ _ _ => rfl, fun _ _ h => h⟩
theorem Turn.trans {S S' S'' : Nat → Prop} {a b c : World} (h : Turn S S' a b) (k : Turn S' S'' b c) : Turn S S'' a c :=
  ⟨k.os.trans h.os, k.tape.trans h.tape, k.output.trans h.output, Nat.le_trans h.size k.size,
    fun i hi hn => (k.block i (Nat.lt_of_lt_of_le hi h.size) (fun hs => hn (h.foot i hi hs))).trans (h.block i hi hn),
    fun i hi hs => h.foot i hi (k.foot i (Nat.lt_of_lt_of_le hi h.size) hs)⟩
theorem Turn.below {S S' : Nat → Prop} {w w' : World} {B : Nat} (h : Turn S S' w w') (hS : ∀ k, S k → B ≤ k) (hB : B ≤ w.heap.size) : Below B w w' :=
  ⟨h.os, h.tape, h.output, h.size, fun k hk => h.block k (Nat.lt_of_lt_of_le hk hB) (fun hs => by have := hS k hs; omega)⟩
theorem Turn.of_below {S : Nat → Prop} {w w' : World} (h : Below w.heap.size w w') : Turn S S w w' :=
  ⟨h.os, h.tape, h.output, h.size, fun k hk _ => h.block k hk, fun _ _ hs => hs⟩
theorem Turn.setCell {S : Nat → Prop} (w : World) {a : Addr} (v : Value) (h : S a.block) : Turn S S w (w.setCell a v) :=
  ⟨rfl, rfl, rfl, by simp, fun k _ hn => heap_setCell_other w a k v (fun e => hn (e ▸ h)), fun _ _ hs => hs⟩
theorem Turn.row {S : Nat → Prop} (w : World) {g : Nat} (l : List Int) (h : S g) : Turn S S w (rowW w g l) :=
  ⟨rfl, rfl, rfl, by simp [rowW], fun k _ hn => setRow_other w g k _ (fun e => hn (e ▸ h)), fun _ _ hs => hs⟩
theorem Turn.drew (S : Nat → Prop) (w : World) : Turn S S w w.drew := ⟨rfl, rfl, rfl, Nat.le_refl _, fun _ _ _ => rfl, fun _ _ h => h⟩
theorem Turn.alloc (S : Nat → Prop) (w : World) (o : Obj) : Turn S S w (w.alloc o) := Turn.of_below ((Below.refl _ _).alloc (Nat.le_refl _) o)
theorem Turn.grown {S : Nat → Prop} {w w' : World} {row : Option Nat} (g : w.grownBy w' row) (h : ∀ k, row = some k → S k) : Turn S S w w' :=
  ⟨g.os, g.tape, g.output, g.size, fun k hk hn => g.block k hk (fun e => hn (h k e.symm)), fun _ _ hs => hs⟩
theorem Turn.keep {S S' S2 : Nat → Prop} {w w' : World} (h : Turn S S' w w') (k : Nat) (hk : k < w.heap.size) (hn : ¬ S k) : w'.heap[k]? = w.heap[k]? := h.block k hk hn

theorem below_drew {B : Nat} {w W : World} (h : Below B w W) : Below B w W.drew := ⟨h.os, h.tape, h.output, h.size, h.block⟩
/-- What a slice reads as while other blocks turn. -/
theorem Bs.turn {w w' : World} {S S' : Nat → Prop} {a : Option Addr} {cap : Nat} {l : List Int} (h : Bs w a cap l) (ht : Turn S S' w w') (hn : ∀ x, a = some x → ¬ S x.block) : Bs w' a cap l := by
  obtain ⟨h1, h2, h3, h4, h5⟩ := h
  refine ⟨h1, h2, h3, h4, fun hne => ?_⟩
  obtain ⟨b, off, rfl, hc⟩ := h5 hne
  refine ⟨b, off, rfl, fun i hi => ?_⟩
  have h6 := hc i hi
  have hlt := block_lt_of_cell h6
  rw [← h6]
  exact World.cell?_of_block (a := ⟨b, off + i, none⟩) (ht.block b hlt (hn _ rfl))
end Go.Proofs.YtopblhmbjdfebaaGreat
/-! How a heap stands in memory, and which blocks are its own. (Part of the proofs over package heap.) -/
namespace Go.Proofs.YtopblhmbjdfebaaGreat
open Go.RowKit
set_option linter.unusedVariables false

/-- The blocks of a heap: its own, and its image's. -/
def foot (p g : Nat) (k : Nat) : Prop := k = p ∨ k = g
/-- At p is a heap whose image L stands in row g. -/
structure Hp (w : World) (B p g c : Nat) (L : List Int) : Prop where
  bp : B ≤ p
  ne : g ≠ p
  blk : w.heap[p]? = some (.cells #[.slice (some ⟨g, 0, none⟩) L.length c] 76 (0, 0))
  row : ∃ cur, Row w B g c cur L
  byt : Byt L
  fine : Fine L
section
variable {w w' : World} {B p g c : Nat} {L : List Int}
theorem Hp.plt (h : Hp w B p g c L) : p < w.heap.size := (Array.getElem?_eq_some_iff.1 h.blk).1
theorem Hp.glt (h : Hp w B p g c L) : g < w.heap.size := by obtain ⟨cur, hr⟩ := h.row; exact hr.lt
theorem Hp.bg (h : Hp w B p g c L) : B ≤ g := by obtain ⟨cur, hr⟩ := h.row; exact hr.1
theorem Hp.cell (h : Hp w B p g c L) : w.cell? ⟨p, 0, none⟩ = some (.slice (some ⟨g, 0, none⟩) L.length c) := by rw [cell_of_row _ _ _ _ _ _ h.blk]; rfl
theorem Hp.fr (h : Hp w B p g c L) : w.frozen? ⟨p, 0, none⟩ = false := frozen_of_row w p 0 _ _ h.blk
theorem Hp.len (h : Hp w B p g c L) : 288 ≤ L.length ∧ L.length ≤ 6400 ∧ L.length ≤ c := by
  obtain ⟨cur, hr⟩ := h.row
  exact ⟨h.fine.len.1, h.fine.len.2, hr.2.2.1⟩
theorem Hp.bs (h : Hp w B p g c L) : Bs w (some ⟨g, 0, none⟩) c L := by
  obtain ⟨cur, hr⟩ := h.row
  exact hr.bs h.byt (by have := h.fine.len; omega)
theorem Hp.below (h : Hp w B p g c L) (hb : Below w.heap.size w w') : Hp w' B p g c L := by
  obtain ⟨cur, hr⟩ := h.row
  exact ⟨h.bp, h.ne, (hb.block p h.plt).trans h.blk, ⟨cur, hr.below hb⟩, h.byt, h.fine⟩
theorem Hp.foot_ge (h : Hp w B p g c L) (k : Nat) (hk : foot p g k) : B ≤ k := by
  rcases hk with rfl | rfl
  · exact h.bp
  · exact h.bg
/-- The image is another one. -/
theorem Hp.set (h : Hp w B p g c L) (hb : Below w.heap.size w w') {g' c' : Nat} {cur' : Array Value} {L' : List Int} (hr : Row w' w.heap.size g' c' cur' L') (hby : Byt L') (hf : Fine L') (hB : B ≤ w.heap.size) :
    Hp (w'.setCell ⟨p, 0, none⟩ (.slice (some ⟨g', 0, none⟩) L'.length c')) B p g' c' L' ∧ Turn (foot p g) (foot p g') w (w'.setCell ⟨p, 0, none⟩ (.slice (some ⟨g', 0, none⟩) L'.length c')) := by
  have hp := h.plt
  have hg := hr.1
  have hne : g' ≠ p := by omega
  refine ⟨⟨h.bp, hne, ?_, ⟨cur', ⟨Nat.le_trans hB hg, (heap_setCell_other _ _ _ _ (by show g' ≠ p; exact hne)).trans hr.2.1, hr.2.2⟩⟩, hby, hf⟩, ⟨hb.os, hb.tape, hb.output, by simpa using hb.size, fun k hk hn => ?_, fun k hk hs => ?_⟩⟩
  · have := heap_setCell_same w' p 0 _ _ (.slice (some ⟨g', 0, none⟩) L'.length c') ((hb.block p hp).trans h.blk)
    rw [this]
    rfl
  · exact (heap_setCell_other _ _ _ _ (fun e => hn (.inl e))).trans (hb.block k hk)
  · rcases hs with rfl | rfl
    · exact .inl rfl
    · omega
/-- Bytes are laid over the image. -/
theorem Hp.lay (h : Hp w B p g c L) {cur : Array Value} (hr : Row w B g c cur L) {off : Nat} {r : List Int} (hfit : off + r.length ≤ L.length) (hbr : Byt r) (hf : Fine (splice L off r)) :
    Hp (laidW w g cur off r) B p g c (splice L off r) ∧ Turn (foot p g) (foot p g) w (laidW w g cur off r) := by
  have hl := length_splice hfit
  refine ⟨⟨h.bp, h.ne, ?_, ⟨_, laidW_row hr hfit⟩, byt_splice h.byt hbr, hf⟩, ⟨rfl, rfl, rfl, by simp [laidW], fun k hk hn => setRow_other w g k _ (fun e => hn (.inr e)), fun k _ hs => hs⟩⟩
  rw [hl]
  exact (setRow_other w g p _ (fun e => h.ne e.symm)).trans h.blk
end
/-- A slice of which no block is among S. -/
def BsO (w : World) (S : Nat → Prop) (a : Option Addr) (cap : Nat) (l : List Int) : Prop := Bs w a cap l ∧ (l ≠ [] → ∀ x, a = some x → ¬ S x.block)
theorem BsO.turn {w w' : World} {S S' : Nat → Prop} {a : Option Addr} {cap : Nat} {l : List Int} (h : BsO w S a cap l) (ht : Turn S S' w w') : BsO w' S' a cap l := by
  obtain ⟨hb, hn⟩ := h
  by_cases h0 : l = []
  · obtain ⟨h1, h2, h3, h4, h5⟩ := hb
    exact ⟨⟨h1, h2, h3, h4, fun h => absurd h0 h⟩, fun h => absurd h0 h⟩
  · refine ⟨hb.turn ht (hn h0), fun _ x hx hs => ?_⟩
    obtain ⟨b, off, rfl, hc⟩ := hb.2.2.2.2 h0
    obtain rfl := Option.some.inj hx
    have hlt := block_lt_of_cell (hc 0 (List.length_pos_iff.2 h0))
    exact hn h0 _ rfl (ht.foot _ hlt hs)
theorem BsO.below {w w' : World} {S : Nat → Prop} {a : Option Addr} {cap : Nat} {l : List Int} (h : BsO w S a cap l) (hb : Below w.heap.size w w') : BsO w' S a cap l := h.turn (Turn.of_below hb)
theorem OwnV.lower {w : World} {B B' : Nat} {v : Value} {L : List Int} (h : OwnV w B' v L) (hB : B ≤ B') : OwnV w B v L := by
  refine ⟨h.1, ?_⟩
  rcases h.2 with h0 | ⟨g, cap, cur, hv, hb, h3⟩
  · exact .inl h0
  · exact .inr ⟨g, cap, cur, hv, Nat.le_trans hB hb, h3⟩
/-- What a call made is apart from what was there. -/
theorem OwnV.bsO {w : World} {B : Nat} {S : Nat → Prop} {v : Value} {l : List Int} (h : OwnV w B v l) (hb : Byt l) (hl : l.length ≤ 140737488351232) (hS : ∀ k, S k → k < B) : ∃ a c, v = .slice a l.length c ∧ BsO w S a c l := by
  obtain ⟨a, c, rfl, hbs⟩ := h.bs hb hl
  refine ⟨a, c, rfl, hbs, fun _ x hx hs => ?_⟩
  subst hx
  have h1 := h.block x.block
  rcases h.2 with ⟨e, _⟩ | ⟨g, cap, cur, e, hB, _⟩
  · simp at e
  · simp only [Value.slice.injEq, Option.some.injEq] at e
    obtain ⟨rfl, _⟩ := e
    have := hS _ hs
    dsimp only at this
    omega
end Go.Proofs.YtopblhmbjdfebaaGreat
/-! An image that is filled with objects of one size, one behind the other; as plain lists. (Part of the proof of HeapFull.) -/
namespace Go.Proofs.YtopblhmbjdfebaaGreat
open Go.RowKit
set_option linter.unusedVariables false

/-- All 0 there is no object, and nothing is wrong. -/
theorem zeros_fine {n : Nat} (h1 : 288 ≤ n) (h2 : n ≤ 6400) : Fine (zerosB n) ∧ (∀ h : Int, tagAt (zerosB n) h = 0) ∧ ∀ i, i < 8 → isRoot (rowAt (zerosB n) i) = false := by
  have hl := length_zerosB n
  have ht : ∀ h : Int, tagAt (zerosB n) h = 0 := fun h => by unfold tagAt; exact zeros_at n _
  have hr : ∀ i, i < 8 → isRoot (rowAt (zerosB n) i) = false := fun i hi => root_zero (by omega) hi (fun j _ => zeros_at n _)
  refine ⟨fine_of (lenB_iff.2 (by rw [hl]; omega)) (fun h _ _ q => absurd (ht h) q) (fun h _ _ _ _ _ q _ => absurd (ht h) q) (fun h a1 a2 _ => (ent_zero (by omega) a1 a2 (fun j _ => zeros_at n _)).2) (fun _ i hi => rFault_nil.2 (.inl (hr i hi))), ht, hr⟩
theorem alL_tail {b : List Int} (hf : Fine b) {h t : Int} {x n : Nat} (he : putE (splice b x (zerosB n)) (h, (x : Int), (n : Int), t) = 0) (h1 : 1 ≤ h) (h2 : h ≤ 40) (hx : 288 ≤ x) (hx2 : x + n ≤ b.length) : ∀ j, 200 ≤ j → j < 288 → (alL b h x n t).getD j 0 = b.getD j 0 := fun j hj hj2 => by
  have hz := length_zerosB n
  have hb := hf.len
  have hp := plc_le h1 h2
  have hr5 : (rowE (h, (x : Int), (n : Int), t)).length = 5 := rfl
  unfold alL putL
  rw [if_pos he]
  dsimp only
  rw [splice_out (by rw [hr5, length_splice (by rw [hz]; exact hx2)]; omega) (by rw [hr5]; exact .inr (by omega)), splice_out (by rw [hz]; exact hx2) (.inl (by omega))]
/-- So many objects of s bytes, one behind the other, from the first handle on; no root. -/
structure HF (b : List Int) (s i : Nat) : Prop where
  fine : Fine b
  len : b.length = 6400
  is : ∀ h : Int, 1 ≤ h → h ≤ i → h ≤ 40 → tagAt b h ≠ 0 ∧ entOf b h = (h, 288 + (h - 1) * s, (s : Int), 0)
  no : ∀ h : Int, (i : Int) < h → h ≤ 40 → tagAt b h = 0
  rows : ∀ j, j < 8 → isRoot (rowAt b j) = false
theorem HF.start (s : Nat) : HF (zerosB 6400) s 0 := by
  obtain ⟨h1, h2, h3⟩ := zeros_fine (n := 6400) (by decide) (by decide)
  exact ⟨h1, length_zerosB 6400, fun h a b c => by omega, fun h _ _ => h2 h, h3⟩
/-- The extents that are taken: one behind the other. -/
def rowX (s i : Nat) : List (Int × Int) := (List.range i).map (fun j : Nat => ((j : Int) * s, (s : Int)))
theorem rowX_succ (s i : Nat) : rowX s (i + 1) = rowX s i ++ [((i : Int) * s, (s : Int))] := by unfold rowX; rw [List.range_succ, List.map_append]; rfl
theorem rowX_runs (s : Nat) : ∀ i, runsOf 0 (rowX s i) = [] ∧ endOf 0 (rowX s i) = (i : Int) * s
  | 0 => ⟨rfl, by simp [rowX, endOf]⟩
  | i + 1 => by
    obtain ⟨h1, h2⟩ := rowX_runs s i
    rw [rowX_succ, runsOf_append, endOf_append, h1, h2]
    refine ⟨?_, ?_⟩
    · simp [runsOf]
    · simp only [endOf]
      rw [show ((i + 1 : Nat) : Int) = (i : Int) + 1 by omega, Int.add_mul, Int.one_mul]
theorem rowX_free (s i : Nat) (n : Int) (h : (i : Int) * s < n) : freeOf n (rowX s i) = [((i : Int) * s, n - (i : Int) * s)] := by
  obtain ⟨h1, h2⟩ := rowX_runs s i
  unfold freeOf
  rw [runsOf_append, h1, h2]
  simp [runsOf, h]
theorem HF.take {b : List Int} {s i : Nat} (h : HF b s i) (hi : i ≤ 40) : takeL b = rowX s i := by
  have key : ∀ k : Nat, k ≤ 40 → (entsK b k).map shE = rowX s (min k i) := by
    intro k
    induction k with
    | zero => intro _; simp [entsK, rowX]
    | succ k ih =>
      intro hk
      unfold entsK
      rw [List.map_append, ih (by omega)]
      by_cases hki : k < i
      · obtain ⟨e1, e2⟩ := h.is ((k : Int) + 1) (by omega) (by omega) (by omega)
        rw [if_neg e1, e2, Nat.min_eq_left (by omega), Nat.min_eq_left (by omega), rowX_succ]
        congr 1
        simp only [List.map_cons, List.map_nil, shE]
        congr 2
        rw [show (k : Int) + 1 - 1 = k by omega]
        omega
      · rw [if_pos (h.no _ (by omega) (by omega)), Nat.min_eq_right (by omega), Nat.min_eq_right (by omega)]
        simp
  have := key 40 (Nat.le_refl _)
  rw [Nat.min_eq_right hi] at this
  exact this
theorem rowX_sorted (s i : Nat) (hs : 1 ≤ s) : (rowX s i).Pairwise (fun a b => a.1 < b.1) := by
  unfold rowX
  rw [List.pairwise_map]
  refine (List.pairwise_lt_range (n := i)).imp (fun {a b} hab => ?_)
  show (a : Int) * s < (b : Int) * s
  exact Int.mul_lt_mul_of_pos_right (by omega) (by omega)
/-- Where the next one goes. -/
theorem HF.fit {b : List Int} {s i : Nat} (h : HF b s i) (hi : i < 40) (hs : 1 ≤ s) (hs2 : s ≤ 150) {t : List (Int × Int)} (ht : Srt (takeL b) t) : fitB s (freeOf ((b.length : Int) - 288) t) = ((i : Int) * s, 6112 - (i : Int) * s) := by
  rw [h.take (by omega)] at ht
  have e : t = rowX s i := srt_unique ht.1 ht.2 (rowX_sorted s i hs)
  have hm : (i : Int) * s ≤ 39 * 150 := by
    have h1 : (i : Int) * s ≤ 39 * (s : Int) := Int.mul_le_mul_of_nonneg_right (by omega) (by omega)
    omega
  rw [e, h.len, show ((6400 : Nat) : Int) - 288 = 6112 by decide, rowX_free s i 6112 (by omega)]
  unfold fitB
  simp only [List.foldl, fitStep]
  rw [if_pos ⟨by omega, .inl trivial⟩]
theorem HF.low {b : List Int} {s i : Nat} (h : HF b s i) (hi : i ≤ 40) : lowH b = i := by
  refine First.unique (lowH_first b) ⟨hi, fun j hj => ?_, fun hlt => ?_⟩
  · exact decide_eq_false (h.is ((j : Int) + 1) (by omega) (by omega) (by omega)).1
  · exact decide_eq_true (h.no ((i : Int) + 1) (by omega) (by omega))
theorem HF.next {b : List Int} {s i : Nat} (h : HF b s i) (hi : i < 40) (hs : 1 ≤ s) (hs2 : s ≤ 150) : HF (alL b ((i : Int) + 1) (288 + i * s) s 0) s (i + 1) := by
  have hm : i * s ≤ 39 * 150 := Nat.le_trans (Nat.mul_le_mul (show i ≤ 39 by omega) hs2) (by decide)
  have hx2 : 288 + i * s + s ≤ b.length := by rw [h.len]; omega
  have h0 := h.no ((i : Int) + 1) (by omega) (by omega)
  have hno : ∀ k, 1 ≤ k → k ≤ 40 → tagAt b k ≠ 0 → (entOf b k).2.1 + (entOf b k).2.2.1 ≤ ((288 + i * s : Nat) : Int) ∨ ((288 + i * s : Nat) : Int) + s ≤ (entOf b k).2.1 := fun k k1 k2 kt => by
    have hki : k ≤ i := Classical.byContradiction fun hc => kt (h.no k (by omega) k2)
    rw [(h.is k k1 hki k2).2]
    left
    show 288 + (k - 1) * (s : Int) + (s : Int) ≤ ((288 + i * s : Nat) : Int)
    have : (k - 1) * (s : Int) + s = k * s := by rw [Int.sub_mul, Int.one_mul]; omega
    have h3 : k * (s : Int) ≤ (i : Int) * s := Int.mul_le_mul_of_nonneg_right hki (by omega)
    have h4 : ((288 + i * s : Nat) : Int) = 288 + (i : Int) * s := by omega
    omega
  obtain ⟨a1, a2, a3, a4, a5, a6⟩ := alloc_keep (t := 0) h.fine (by omega) (by omega) h0 hs (by omega) (by omega) hx2 (by decide) (by decide) hno
  have hz := length_zerosB s
  have hp : putE (splice b (288 + i * s) (zerosB s)) ((i : Int) + 1, ((288 + i * s : Nat) : Int), (s : Int), 0) = 0 := by
    have hl : (splice b (288 + i * s) (zerosB s)).length = b.length := length_splice (by rw [hz]; exact hx2)
    exact putE_zero.2 ⟨by rw [hl]; exact h.fine.len0, hndB_iff.2 ⟨by show 1 ≤ (i : Int) + 1; omega, by show (i : Int) + 1 ≤ 40; omega⟩, Int.le_refl _, (by show (0 : Int) ≤ 15; decide), by show 1 ≤ (s : Int); omega, by show (s : Int) ≤ 1000; omega, by show 288 ≤ ((288 + i * s : Nat) : Int); omega, by rw [hl]; show ((288 + i * s : Nat) : Int) + s ≤ _; omega⟩
  refine ⟨a1, a2.trans h.len, fun k k1 k2 k3 => ?_, fun k k1 k2 => ?_, fun j hj => ?_⟩
  · by_cases e : k = (i : Int) + 1
    · subst e
      refine ⟨a5, a4.trans ?_⟩
      rw [show (i : Int) + 1 - 1 = i by omega, show ((288 + i * s : Nat) : Int) = 288 + (i : Int) * s by omega]
    · obtain ⟨_, b2, b3⟩ := a6 k k1 k3 e
      rw [b2, b3]
      exact h.is k k1 (by omega) k3
  · obtain ⟨_, b2, _⟩ := a6 k (by omega) k2 (by omega)
    rw [b2]
    exact h.no k (by omega) k2
  · have : rowAt (alL b ((i : Int) + 1) (288 + i * s) s 0) j = rowAt b j := by
      apply ext_getD
      · rw [rowAt_len (by rw [a2, h.len]; omega), rowAt_len (by rw [h.len]; omega)]
      · intro q hq
        rw [rowAt_len (by rw [a2, h.len]; omega)] at hq
        rw [rowAt_getD hq, rowAt_getD hq]
        exact alL_tail h.fine hp (by omega) (by omega) (by omega) hx2 _ (by omega) (by omega)
    rw [this]
    exact h.rows j hj
/-- With one less: it is the least that is none, and where it was there is room. -/
theorem HF.freed {b : List Int} {s : Nat} (h : HF b s 40) (hs : 1 ≤ s) (hs2 : s ≤ 150) {f : Nat} (f1 : 1 ≤ f) (f2 : f ≤ 40) :
    chkE b f = 0 ∧ Fine (dropL b f) ∧ lowH (dropL b f) = f - 1 ∧ chkE (dropL b f) f = 5 ∧ (dropL b f).length = 6400 ∧ ∀ t, Srt (takeL (dropL b f)) t → (fitB s (freeOf (((dropL b f).length : Int) - 288) t)).2 ≠ 0 := by
  have hpr := h.is f (by omega) (by omega) (by omega)
  have hck : chkE b f = 0 := chkE_zero.2 ⟨h.fine.len0, hndB_iff.2 ⟨by omega, by omega⟩, hpr.1⟩
  obtain ⟨d1, d2, d3, d4, d5⟩ := drop_fine h.fine hck (fun i hi hr => by rw [h.rows i hi] at hr; cases hr)
  refine ⟨hck, d1, ?_, drop_none hck, d4.trans h.len, fun t ht => ?_⟩
  · refine First.unique (lowH_first _) ⟨by omega, fun j hj => ?_, fun _ => ?_⟩
    · obtain ⟨e1, _⟩ := d2 ((j : Int) + 1) (by omega) (by omega) (by omega)
      refine decide_eq_false ?_
      rw [e1]
      exact (h.is ((j : Int) + 1) (by omega) (by omega) (by omega)).1
    · refine decide_eq_true ?_
      rw [show (((f - 1 : Nat) : Int) + 1) = (f : Int) by omega]
      exact d3
  · have hm : (f : Int) * s ≤ 6000 := by
      have h1 : (f : Int) * s ≤ 40 * (s : Int) := Int.mul_le_mul_of_nonneg_right (by omega) (by omega)
      omega
    have hfs : ((f : Int) - 1) * s + s = (f : Int) * s := by rw [Int.sub_mul, Int.one_mul]; omega
    have h0 : 0 ≤ ((f : Int) - 1) * s := Int.mul_nonneg (by omega) (by omega)
    refine fit_there ht (take_good d1) (by rw [d4, h.len]; decide) (p := ((f : Int) - 1) * s) h0 (by omega) (by rw [d4, h.len]; show _ ≤ ((6400 : Nat) : Int) - 288; omega) (fun e he => ?_)
    obtain ⟨k, k1, k2, kt, rfl⟩ := mem_takeL.1 he
    have hkf : k ≠ f := fun e => kt (by rw [e]; exact d3)
    rw [(d2 k k1 k2 hkf).2, (h.is k k1 (by omega) k2).2]
    unfold shE
    dsimp only
    have hks : (k - 1) * (s : Int) + s = k * s := by rw [Int.sub_mul, Int.one_mul]; omega
    rcases Int.lt_or_gt_of_ne hkf with hlt | hlt
    · left
      have : k * (s : Int) ≤ ((f : Int) - 1) * s := Int.mul_le_mul_of_nonneg_right (by omega) (by omega)
      omega
    · right
      have : (f : Int) * s ≤ (k - 1) * (s : Int) := Int.mul_le_mul_of_nonneg_right (by omega) (by omega)
      omega
end Go.Proofs.YtopblhmbjdfebaaGreat
/-! The library's bytes.Clone: a copy of bytes. (Part of the proofs over packages diff and heap.) -/
namespace Go.Proofs.YtopblhmbjdfebaaGreat
open Go.RowKit
set_option linter.unusedVariables false

theorem OwnV.shape {w : World} {B : Nat} {v : Value} {L : List Int} (h : OwnV w B v L) : ∃ a c, v = .slice a L.length c := by
  rcases h.2 with ⟨rfl, h0⟩ | ⟨g, cap, cur, rfl, _⟩
  · exact ⟨none, 0, by rw [h0]⟩
  · exact ⟨_, _, rfl⟩
set_option maxHeartbeats 1000000 in
theorem bclone_any (a : Option Addr) (cap : Nat) (l : List Int) (w : World) (hb : Bs w a cap l) :
    Calls Tryz.prog 31 #[.slice a l.length cap] w fun e w' => ∃ a' c', e = .returned (.slice a' l.length c') ∧ OwnV w' w.heap.size (.slice a' l.length c') l ∧ Below w.heap.size w w' := by
  obtain ⟨i0, hi, hz0, hz1, hz2⟩ := info_parts info_u8
  have hl := hb.2.2.1
  have q22 : ∀ (w : World) (a : Option Addr) (n c n' c' : Nat), (binOp .eql 22 (.slice a n c) (.slice none n' c')).run Tryz.prog w = .ok (.bool a.isNone) w := fun w a n c n' c' => Lib.run_eql_slice_nil w _ _ a n c n' c' Tryz.underlying22
  cases a with
  | none =>
    have h0 : l = [] := by
      have h1 := hb.2.2.2.1 rfl
      have h2 := hb.2.1
      exact List.eq_nil_of_length_eq_zero (by omega)
    subst h0
    clear hb
    go_enter Tryz.func31, Tryz.ntmps31
    go_wp2
    go_ret
    exact ⟨none, 0, rfl, OwnV.nil _ _, Below.refl _ _⟩
  | some ad =>
    have HN := hide (news_bs (hb.below ((Below.refl _ w).alloc (Nat.le_refl _) (.cells #[] 5))))
    clear hb
    go_enter Tryz.func31, Tryz.ntmps31
    go_wp2_with (at_builtin; refine wpList_append_own _ rfl _ _ 22 rfl w.heap.size 5 i0 (.int .u8 0) 1 1 Tryz.underlying22 hi hz0 hz1 hz2 rfl (by decide) _ _ _ rfl (World.ownsRow_made w #[] 0 (Nat.le_refl _) (Nat.zero_le _) (by simp)) ad l.length cap (l.map (Value.int .u8)) rfl (by simp) (unhide HN) (oneCell_u8 l) (by unfold maxLen; omega) (by omega) (by simp) ?_)
    intro v' w1 hown hgrow hnil
    have hv : OwnV w1 w.heap.size v' l := hown
    obtain ⟨a', c', rfl⟩ := hv.shape
    have HO := hide hv
    have HG := hide hgrow
    clear hown HN hv hgrow hnil
    go_wp2
    go_ret
    exact ⟨a', c', rfl, unhide HO, ((Below.refl _ w).alloc (Nat.le_refl _) _).grown (unhide HG) (by simp) (by intro k hk; simp [Value.ownBlock] at hk; omega)⟩
end Go.Proofs.YtopblhmbjdfebaaGreat
/-! Contracts of package heap: New, Bytes, Tag. (Part of the proofs over package heap.) -/
namespace Go.Proofs.YtopblhmbjdfebaaGreat
open Go.RowKit
set_option linter.unusedVariables false

theorem Blk.row {w : World} {B g : Nat} {l : List Int} (h : Blk w g l) (hB : B ≤ g) : Row w B g l.length (l.map (Value.int .u8)).toArray l := ⟨hB, h, Nat.le_refl _, by simp, by rw [List.take_of_length_le (by simp)]⟩
/-- A heap that has just been made. -/
theorem Hp.made {w w1 : World} {B g c : Nat} {cur : Array Value} {L : List Int} (hr : Row w1 B g c cur L) (hb : B ≤ w1.heap.size) (hby : Byt L) (hf : Fine L) :
    Hp (w1.alloc (.cells #[.slice (some ⟨g, 0, none⟩) L.length c] 76)) B w1.heap.size g c L :=
  ⟨hb, Nat.ne_of_lt hr.lt, heap_alloc_new w1 _, ⟨cur, hr.below ((Below.refl _ _).alloc (Nat.le_refl _) _)⟩, hby, hf⟩
theorem hBytes_any (p g c B : Nat) (L : List Int) (w : World) (h : Hp w B p g c L) :
    Calls Tryz.prog 9 #[.pointer (some ⟨p, 0, none⟩)] w fun e w' => ∃ a' c', e = .returned (.slice a' L.length c') ∧ OwnV w' w.heap.size (.slice a' L.length c') L ∧ Below w.heap.size w w' := by
  have HC := hide (bclone_any (some ⟨g, 0, none⟩) c L w h.bs)
  have hc := h.cell
  have hl := h.len
  clear h
  generalize L.length = N at *
  go_enter Tryz.func9, Tryz.ntmps9
  go_wp2_with fail
  refine (unhide HC).mono ?_
  rintro e w1 ⟨a', c', rfl, hown, hb1⟩
  have HO := hide hown
  have HB := hide hb1
  clear hown hb1 HC hc
  go_wp2
  go_ret
  exact ⟨a', c', rfl, unhide HO, unhide HB⟩
theorem hTag_any (p g c B : Nat) (L : List Int) (h : Int) (w : World) (hh : Hp w B p g c L) :
    Calls Tryz.prog 43 #[.pointer (some ⟨p, 0, none⟩), .int .i64 h] w fun e w' => e = .returned (.tuple #[.int .i64 (getE L h).2.2.2, errV (chkE L h)]) ∧ Below w.heap.size w w' := by
  have HG := hide (fun W (hW : Below w.heap.size w W) => iGet_any (some ⟨g, 0, none⟩) c L h W (hh.bs.below hW))
  have hc := hh.cell
  have hl := hh.len
  clear hh
  generalize getE L h = E at *
  generalize chkE L h = X at *
  generalize L.length = N at *
  obtain ⟨e1, e2, e3, e4⟩ := E
  unfold entV at HG
  dsimp only at HG ⊢
  go_enter Tryz.func43, Tryz.ntmps43
  go_wp2_with fail
  refine (unhide HG w (Below.refl _ _)).mono ?_
  rintro e w1 ⟨rfl, hb1⟩
  have HB := hide hb1
  clear hb1 HG hc
  go_wp2
  go_ret2
  exact ⟨rfl, (unhide HB).alloc (unhide HB).size _⟩
end Go.Proofs.YtopblhmbjdfebaaGreat
/-! Whether two images are the same of which one byte behind the head differs; as plain lists. (Part of the proof of CheckSame.) -/
namespace Go.Proofs.YtopblhmbjdfebaaGreat
open Go.RowKit
set_option linter.unusedVariables false

section
variable {b : List Int}
theorem sameE_fine {c : List Int} (hf : Fine b) (hc : Fine c) : sameE b c = 0 := by
  unfold sameE
  rw [if_neg (by rw [hf.len0]; simp), if_neg (by rw [hc.len0]; simp), if_pos ⟨hf.ok, hc.ok⟩]
theorem sameR_self (hf : Fine b) : sameR (rootsK b 8) (rootsK b 8) = true := (sameR_iff (apart_roots hf.ok) (apart_roots hf.ok)).2 ⟨rfl, fun r hr => hr⟩
/-- An image that is right is the same as itself. -/
theorem same_self (hf : Fine b) : sameB b b = true := by
  unfold sameB
  rw [sameE_fine hf hf, sameO_iff.2 (fun _ _ => rfl), sameR_self hf]
  rfl
/-- Has an object a byte? -/
def hadB (b : List Int) (x : Int) : Bool := (entsK b 40).any (fun e => decide (e.2.1 ≤ x) && decide (x < e.2.1 + e.2.2.1))
theorem hadB_iff {x : Int} : hadB b x = true ↔ ∃ h : Int, 1 ≤ h ∧ h ≤ 40 ∧ tagAt b h ≠ 0 ∧ (entOf b h).2.1 ≤ x ∧ x < (entOf b h).2.1 + (entOf b h).2.2.1 := by
  unfold hadB
  rw [List.any_eq_true]
  constructor
  · rintro ⟨e, he, hx⟩
    obtain ⟨j, h1, h2, rfl⟩ := mem_entsP.1 he
    rw [Bool.and_eq_true, decide_eq_true_iff, decide_eq_true_iff] at hx
    exact ⟨(j : Int) + 1, by omega, by omega, h2, hx.1, hx.2⟩
  · rintro ⟨h, h1, h2, ht, hx1, hx2⟩
    refine ⟨entOf b h, mem_entsP.2 ⟨(h - 1).toNat, by omega, ?_⟩, ?_⟩
    · rw [show (((h - 1).toNat : Nat) : Int) + 1 = h by omega]
      exact ⟨ht, rfl⟩
    · rw [Bool.and_eq_true, decide_eq_true_iff, decide_eq_true_iff]
      exact ⟨hx1, hx2⟩
/-- With one byte behind the head changed it is the same just where no object has it. -/
theorem same_byte (hf : Fine b) {x : Nat} {v : Int} (hx : 288 ≤ x) (hx2 : x < b.length) (hv : b.getD x 0 ≠ v) : Fine (b.set x v) ∧ sameE b (b.set x v) = 0 ∧ sameB b (b.set x v) = !hadB b x := by
  have hb := hf.len
  have hlen : (b.set x v).length = b.length := List.length_set
  have hne : ∀ j, j ≠ x → (b.set x v).getD j 0 = b.getD j 0 := fun j hj => by
    rw [List.getD, List.getD, List.getElem?_set, if_neg (fun e => hj e.symm)]
  have heq : (b.set x v).getD x 0 = v := by simp [List.getD, hx2]
  have hs : ∀ j, j < 288 → (b.set x v).getD j 0 = b.getD j 0 := fun j hj => hne j (by omega)
  have hc : Fine (b.set x v) := ⟨by rw [hlen]; exact hb, head_fine hlen hb.1 hs hf.ok⟩
  have he := head_ents hlen hb.1 hs
  have hE := sameE_fine hf hc
  refine ⟨hc, hE, ?_⟩
  unfold sameB
  rw [hE, head_rootsK hlen hb.1 hs, sameR_self hf, Bool.and_true]
  show sameO b (b.set x v) 40 = !hadB b x
  cases hh : hadB b x with
  | true =>
    obtain ⟨h, h1, h2, ht, q1, q2⟩ := hadB_iff.1 hh
    have hen := hf.ent h1 h2 ht
    cases ho : sameO b (b.set x v) 40 with
    | false => rfl
    | true =>
      have hob := sameO_iff.1 ho (h - 1).toNat (by omega)
      rw [show (((h - 1).toNat : Nat) : Int) + 1 = h by omega] at hob
      obtain ⟨e1, e2⟩ := he h h1 h2
      unfold objOf at hob
      rw [e1, if_neg ht, if_neg ht] at hob
      unfold objE at hob
      rw [e2] at hob
      have hp := congrArg (fun y : Int × List Int => y.2.getD (x - (entOf b h).2.1.toNat) 0) hob
      unfold partL at hp
      dsimp only at hp
      have hj2 : x - (entOf b h).2.1.toNat < (entOf b h).2.2.1.toNat := by omega
      simp only [List.getD, List.getElem?_take, if_pos hj2, List.getElem?_drop] at hp
      rw [show (entOf b h).2.1.toNat + (x - (entOf b h).2.1.toNat) = x by omega] at hp
      exact absurd (hp.trans heq) hv
  | false =>
    refine sameO_iff.2 (fun j hj => ?_)
    obtain ⟨e1, e2⟩ := he ((j : Int) + 1) (by omega) (by omega)
    refine (obj_same hlen e1 e2 (fun hkt i hi1 hi2 => hne i (fun e => ?_))).symm
    subst e
    have hen := hf.ent (by omega) (by omega) hkt
    have : hadB b i = true := hadB_iff.2 ⟨(j : Int) + 1, by omega, by omega, hkt, by omega, by omega⟩
    rw [hh] at this
    cases this
/-- What is mended is right. -/
theorem mend_fine (h1 : 288 ≤ b.length) (h2 : b.length ≤ 6400) : Fine (mendL b) := ⟨by rw [mendL_len h1]; exact ⟨h1, h2⟩, mend_faults h1⟩
end
end Go.Proofs.YtopblhmbjdfebaaGreat
/-! Slices whose block a call has made. (Part of the proofs over heaps.) -/
namespace Go.Proofs.YtopblhmbjdfebaaGreat
open Go.RowKit
set_option linter.unusedVariables false

/-- Its block was made since there were B of them. -/
def Fr (B : Nat) (a : Option Addr) : Prop := ∀ x, a = some x → B ≤ x.block
theorem Fr.nil (B : Nat) : Fr B none := fun x hx => by cases hx
theorem Fr.at {B g o : Nat} (h : B ≤ g) : Fr B (some ⟨g, o, none⟩) := fun x hx => by cases hx; exact h
theorem Fr.mono {B B' : Nat} {a : Option Addr} (h : Fr B' a) (hB : B ≤ B') : Fr B a := fun x hx => Nat.le_trans hB (h x hx)
theorem Fr.ownV {w : World} {B n c : Nat} {a : Option Addr} {l : List Int} (h : OwnV w B (.slice a n c) l) : Fr B a := fun x hx => by
  subst hx
  rcases h.2 with ⟨e, _⟩ | ⟨g, cap, cur, e, hB, _⟩
  · simp at e
  · simp only [Value.slice.injEq, Option.some.injEq] at e
    obtain ⟨rfl, _⟩ := e
    exact hB
/-- How a call that answers fresh bytes and something ends. -/
def EndsF (w : World) (L : List Int) (x : Value) (e : Ending) (w' : World) : Prop :=
  ∃ a cap, e = .returned (.tuple #[.slice a L.length cap, x]) ∧ Bs w' a cap L ∧ Below w.heap.size w w' ∧ Fr w.heap.size a
theorem EndsF.ends {w w' : World} {L : List Int} {x : Value} {e : Ending} (h : EndsF w L x e w') : Ends w L x e w' := by
  obtain ⟨a, cap, h1, h2, h3, _⟩ := h
  exact ⟨a, cap, h1, h2, h3⟩
end Go.Proofs.YtopblhmbjdfebaaGreat
