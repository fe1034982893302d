/-
  What is wrong with an image, and the image without it, as plain lists. (Part of the proofs over package check.)
-/
import Derived.Test.YtcppejlcjooliaaGreatImPlain
namespace Go.Proofs.YtcppejlcjooliaaGreat
open Go.RowKit
set_option linter.unusedVariables false

/-! ### handles -/
/-- Is it one, and not Stray? -/
def okE (b : List Int) (h : Int) : Bool := decide (tagAt b h ≠ 0) && decide (putE b (entOf b h) = 0)
/-- Are two extents over each other? -/
def lapB (e f : (Int × Int × Int × Int)) : Bool := decide (e.2.1 < f.2.1 + f.2.2.1) && decide (f.2.1 < e.2.1 + e.2.2.1)
/-- Is it over one of a lesser handle that is one, and not Stray? (Of the k least.) -/
def lapK (b : List Int) (h : Int) : Nat → Bool
  | 0 => false
  | k + 1 => lapK b h k || (okE b ((k : Int) + 1) && lapB (entOf b h) (entOf b ((k : Int) + 1)))
theorem lapK_iff {b : List Int} {h : Int} : ∀ {k : Nat}, lapK b h k = true ↔ ∃ j : Nat, j < k ∧ okE b ((j : Int) + 1) = true ∧ lapB (entOf b h) (entOf b ((j : Int) + 1)) = true
  | 0 => by simp [lapK]
  | k + 1 => by
    unfold lapK
    rw [Bool.or_eq_true, Bool.and_eq_true, lapK_iff]
    constructor
    · rintro (⟨j, h1, h2⟩ | h2)
      · exact ⟨j, by omega, h2⟩
      · exact ⟨k, by omega, h2⟩
    · rintro ⟨j, h1, h2⟩
      by_cases e : j = k
      · subst e; exact .inr h2
      · exact .inl ⟨j, by omega, h2⟩
/-- What a handle is: 0 none, 1 right, 2 over, 3 stray. -/
def whE (b : List Int) (h : Int) : Int := if tagAt b h = 0 then 0 else if putE b (entOf b h) ≠ 0 then 3 else if lapK b h (h - 1).toNat = true then 2 else 1
/-- The faults of a handle: what, and which. -/
def hFault (b : List Int) (h : Int) : List (Int × Int) :=
  if whE b h = 0 then (if (entOf b h).2.1 = 0 ∧ (entOf b h).2.2.1 = 0 then [] else [(3, h)]) else if whE b h = 3 then [(1, h)] else if whE b h = 2 then [(2, h)] else []
def hFK (b : List Int) : Nat → List (Int × Int)
  | 0 => []
  | k + 1 => hFK b k ++ hFault b ((k : Int) + 1)

/-! ### roots -/
def badR (b : List Int) (i : Nat) : Bool :=
  decide ((readOut ((rowAt b i).take 8)).2 ≠ 0) || (decide ((rowAt b i).getD 8 0 ≠ 0) || (decide ((rowAt b i).getD 9 0 ≠ 0) || (!hndB ((rowAt b i).getD 10 0) || decide (whE b ((rowAt b i).getD 10 0) ≠ 1))))
def nameAt (b : List Int) (i : Nat) : ByteArray := (readOut ((rowAt b i).take 8)).1
/-- Is it one that has no fault, the names ahead being these? -/
def fineR (b : List Int) (i : Nat) (ns : List ByteArray) : Bool := isRoot (rowAt b i) && (!badR b i && !ns.contains (nameAt b i))
/-- The names of the roots ahead that have no fault. -/
def nmsK (b : List Int) : Nat → List ByteArray
  | 0 => []
  | k + 1 => nmsK b k ++ if fineR b k (nmsK b k) = true then [nameAt b k] else []
def rFault (b : List Int) (i : Nat) : List (Int × Int) :=
  if isRoot (rowAt b i) = false then [] else if badR b i = true then [(4, i)] else if (nmsK b i).contains (nameAt b i) = true then [(5, i)] else []
def rFK (b : List Int) : Nat → List (Int × Int)
  | 0 => []
  | k + 1 => rFK b k ++ rFault b k
/-- What is wrong with an image. -/
def faults (b : List Int) : List (Int × Int) := hFK b 40 ++ rFK b 8

theorem mem_hFK {b : List Int} {f : Int × Int} : ∀ {k : Nat}, f ∈ hFK b k ↔ ∃ j : Nat, j < k ∧ f ∈ hFault b ((j : Int) + 1)
  | 0 => by simp [hFK]
  | k + 1 => by
    unfold hFK
    rw [List.mem_append, mem_hFK]
    constructor
    · rintro (⟨j, h1, h2⟩ | h2)
      · exact ⟨j, by omega, h2⟩
      · exact ⟨k, by omega, h2⟩
    · rintro ⟨j, h1, h2⟩
      by_cases e : j = k
      · subst e; exact .inr h2
      · exact .inl ⟨j, by omega, h2⟩
theorem mem_rFK {b : List Int} {f : Int × Int} : ∀ {k : Nat}, f ∈ rFK b k ↔ ∃ j : Nat, j < k ∧ f ∈ rFault b j
  | 0 => by simp [rFK]
  | k + 1 => by
    unfold rFK
    rw [List.mem_append, mem_rFK]
    constructor
    · rintro (⟨j, h1, h2⟩ | h2)
      · exact ⟨j, by omega, h2⟩
      · exact ⟨k, by omega, h2⟩
    · rintro ⟨j, h1, h2⟩
      by_cases e : j = k
      · subst e; exact .inr h2
      · exact .inl ⟨j, by omega, h2⟩
theorem hFault_mem {b : List Int} {h : Int} {f : Int × Int} (hf : f ∈ hFault b h) : f.2 = h ∧ 1 ≤ f.1 ∧ f.1 ≤ 3 := by
  unfold hFault at hf
  by_cases h0 : whE b h = 0
  · rw [if_pos h0] at hf
    by_cases h1 : (entOf b h).2.1 = 0 ∧ (entOf b h).2.2.1 = 0
    · rw [if_pos h1] at hf; cases hf
    · rw [if_neg h1] at hf
      rw [List.mem_singleton.1 hf]; exact ⟨rfl, by dsimp only; omega, by dsimp only; omega⟩
  · rw [if_neg h0] at hf
    by_cases h3 : whE b h = 3
    · rw [if_pos h3] at hf
      rw [List.mem_singleton.1 hf]; exact ⟨rfl, by dsimp only; omega, by dsimp only; omega⟩
    · rw [if_neg h3] at hf
      by_cases h2 : whE b h = 2
      · rw [if_pos h2] at hf
        rw [List.mem_singleton.1 hf]; exact ⟨rfl, by dsimp only; omega, by dsimp only; omega⟩
      · rw [if_neg h2] at hf; cases hf
theorem rFault_mem {b : List Int} {i : Nat} {f : Int × Int} (hf : f ∈ rFault b i) : f.2 = i ∧ 4 ≤ f.1 ∧ f.1 ≤ 5 := by
  unfold rFault at hf
  by_cases h0 : isRoot (rowAt b i) = false
  · rw [if_pos h0] at hf; cases hf
  · rw [if_neg h0] at hf
    by_cases h3 : badR b i = true
    · rw [if_pos h3] at hf
      rw [List.mem_singleton.1 hf]; exact ⟨rfl, by dsimp only; omega, by dsimp only; omega⟩
    · rw [if_neg h3] at hf
      by_cases h2 : (nmsK b i).contains (nameAt b i) = true
      · rw [if_pos h2] at hf
        rw [List.mem_singleton.1 hf]; exact ⟨rfl, by dsimp only; omega, by dsimp only; omega⟩
      · rw [if_neg h2] at hf; cases hf
theorem hFault_len (b : List Int) (h : Int) : (hFault b h).length ≤ 1 := by
  unfold hFault
  repeat' split
  all_goals simp
theorem rFault_len (b : List Int) (i : Nat) : (rFault b i).length ≤ 1 := by
  unfold rFault
  repeat' split
  all_goals simp
theorem hFK_len (b : List Int) (k : Nat) : (hFK b k).length ≤ k := by
  induction k with
  | zero => exact Nat.le_refl _
  | succ k ih => unfold hFK; rw [List.length_append]; have := hFault_len b ((k : Int) + 1); omega
theorem rFK_len (b : List Int) (k : Nat) : (rFK b k).length ≤ k := by
  induction k with
  | zero => exact Nat.le_refl _
  | succ k ih => unfold rFK; rw [List.length_append]; have := rFault_len b k; omega
theorem nmsK_len (b : List Int) (k : Nat) : (nmsK b k).length ≤ k := by
  induction k with
  | zero => exact Nat.le_refl _
  | succ k ih => unfold nmsK; rw [List.length_append]; split <;> simp <;> omega
theorem faults_len (b : List Int) : (faults b).length ≤ 48 := by
  unfold faults
  rw [List.length_append]
  have := hFK_len b 40
  have := rFK_len b 8
  omega

/-! ### what is mended -/
/-- An image of which the bytes of a fault are 0. -/
def wipeF (b : List Int) (f : Int × Int) : List Int := if 3 < f.1 then splice b (200 + 11 * f.2.toNat) (zerosB 11) else splice b (plc f.2) (zerosB 5)
def wipes (b : List Int) (l : List (Int × Int)) : List Int := l.foldl wipeF b
def mendL (b : List Int) : List Int := wipes b (faults b)
/-- A fault as there may be one: of a handle, or of a root. -/
def FaultOk (f : Int × Int) : Prop := (f.1 ≤ 3 ∧ 1 ≤ f.2 ∧ f.2 ≤ 40) ∨ (3 < f.1 ∧ 0 ≤ f.2 ∧ f.2 ≤ 7)
/-- Is a byte one of a fault's? -/
def cov (f : Int × Int) (j : Nat) : Prop := (f.1 ≤ 3 ∧ plc f.2 ≤ j ∧ j < plc f.2 + 5) ∨ (3 < f.1 ∧ 200 + 11 * f.2.toNat ≤ j ∧ j < 211 + 11 * f.2.toNat)
theorem faults_ok {b : List Int} {f : Int × Int} (hf : f ∈ faults b) : FaultOk f := by
  unfold faults at hf
  rcases List.mem_append.1 hf with hf | hf
  · obtain ⟨j, hj, hf⟩ := mem_hFK.1 hf
    have := hFault_mem hf
    exact .inl (by omega)
  · obtain ⟨j, hj, hf⟩ := mem_rFK.1 hf
    have := rFault_mem hf
    exact .inr (by omega)
theorem zeros_at (n j : Nat) : (zerosB n).getD j 0 = 0 := by
  have := zeros_getD n 0 j
  rwa [List.drop_zero] at this
theorem wipeF_len {b : List Int} {f : Int × Int} (hb : 288 ≤ b.length) (hf : FaultOk f) : (wipeF b f).length = b.length := by
  unfold wipeF
  rcases hf with ⟨h1, h2, h3⟩ | ⟨h1, h2, h3⟩
  · rw [if_neg (by omega)]
    have := plc_le h2 h3
    exact length_splice (by rw [length_zerosB]; omega)
  · rw [if_pos h1]
    exact length_splice (by rw [length_zerosB]; omega)
theorem wipeF_in {b : List Int} {f : Int × Int} {j : Nat} (hb : 288 ≤ b.length) (hf : FaultOk f) (hc : cov f j) : (wipeF b f).getD j 0 = 0 := by
  unfold wipeF
  rcases hf with ⟨h1, h2, h3⟩ | ⟨h1, h2, h3⟩
  · rw [if_neg (by omega)]
    have hp := plc_le h2 h3
    rcases hc with ⟨_, c1, c2⟩ | ⟨c0, _, _⟩
    · obtain ⟨i, rfl⟩ : ∃ i, j = plc f.2 + i := ⟨j - plc f.2, by omega⟩
      rw [splice_in (by rw [length_zerosB]; omega) (by rw [length_zerosB]; omega), zeros_at]
    · omega
  · rw [if_pos h1]
    rcases hc with ⟨c0, _, _⟩ | ⟨_, c1, c2⟩
    · omega
    · obtain ⟨i, rfl⟩ : ∃ i, j = 200 + 11 * f.2.toNat + i := ⟨j - (200 + 11 * f.2.toNat), by omega⟩
      rw [splice_in (by rw [length_zerosB]; omega) (by rw [length_zerosB]; omega), zeros_at]
theorem wipeF_out {b : List Int} {f : Int × Int} {j : Nat} (hb : 288 ≤ b.length) (hf : FaultOk f) (hc : ¬ cov f j) : (wipeF b f).getD j 0 = b.getD j 0 := by
  unfold wipeF
  unfold cov at hc
  rcases hf with ⟨h1, h2, h3⟩ | ⟨h1, h2, h3⟩
  · rw [if_neg (by omega)]
    have hp := plc_le h2 h3
    exact splice_out (by rw [length_zerosB]; omega) (by rw [length_zerosB]; omega)
  · rw [if_pos h1]
    exact splice_out (by rw [length_zerosB]; omega) (by rw [length_zerosB]; omega)
theorem wipes_len : ∀ {l : List (Int × Int)} {b : List Int}, 288 ≤ b.length → (∀ f ∈ l, FaultOk f) → (wipes b l).length = b.length
  | [], b, _, _ => rfl
  | f :: l, b, hb, h => by
    have h1 := wipeF_len hb (h f (by simp))
    show (wipes (wipeF b f) l).length = _
    rw [wipes_len (by omega) (fun g hg => h g (by simp [hg])), h1]
theorem wipes_out : ∀ {l : List (Int × Int)} {b : List Int} {j : Nat}, 288 ≤ b.length → (∀ f ∈ l, FaultOk f) → (∀ f ∈ l, ¬ cov f j) → (wipes b l).getD j 0 = b.getD j 0
  | [], b, j, _, _, _ => rfl
  | f :: l, b, j, hb, h, hc => by
    have h1 := wipeF_len hb (h f (by simp))
    show (wipes (wipeF b f) l).getD j 0 = _
    rw [wipes_out (by omega) (fun g hg => h g (by simp [hg])) (fun g hg => hc g (by simp [hg])), wipeF_out hb (h f (by simp)) (hc f (by simp))]
theorem wipes_zero : ∀ {l : List (Int × Int)} {b : List Int} {j : Nat}, 288 ≤ b.length → (∀ f ∈ l, FaultOk f) → b.getD j 0 = 0 → (wipes b l).getD j 0 = 0
  | [], b, j, _, _, hz => hz
  | f :: l, b, j, hb, h, hz => by
    have h1 := wipeF_len hb (h f (by simp))
    show (wipes (wipeF b f) l).getD j 0 = _
    refine wipes_zero (by omega) (fun g hg => h g (by simp [hg])) ?_
    by_cases hc : cov f j
    · exact wipeF_in hb (h f (by simp)) hc
    · rw [wipeF_out hb (h f (by simp)) hc]; exact hz
theorem wipes_in : ∀ {l : List (Int × Int)} {b : List Int} {j : Nat} {f : Int × Int}, 288 ≤ b.length → (∀ f ∈ l, FaultOk f) → f ∈ l → cov f j → (wipes b l).getD j 0 = 0
  | [], b, j, f, _, _, hf, _ => by cases hf
  | g :: l, b, j, f, hb, h, hf, hc => by
    have h1 := wipeF_len hb (h g (by simp))
    show (wipes (wipeF b g) l).getD j 0 = _
    rcases List.mem_cons.1 hf with rfl | hf
    · exact wipes_zero (by omega) (fun g hg => h g (by simp [hg])) (wipeF_in hb (h f (by simp)) hc)
    · exact wipes_in (by omega) (fun g hg => h g (by simp [hg])) hf hc
end Go.Proofs.YtcppejlcjooliaaGreat
