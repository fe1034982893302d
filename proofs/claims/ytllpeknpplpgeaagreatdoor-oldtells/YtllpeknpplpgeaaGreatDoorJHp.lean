/-
  Joined by program: NmPlain; ChPlain; ChMend; ChSame; HpHead; HpPut; HpFit; RtPlain; HpFr; RtRows; RtLead; MvPlain; MvSort; ExFit; MvEnd; HpFull; OlPlain; OlBack; OlUp; OuPlain; OlCode; HpPc. (Parts of the proofs over the packages of the program.)
-/
import Derived.Test.YtllpeknpplpgeaaGreatDoorImPlain
import Derived.Test.YtllpeknpplpgeaaGreatDoorExPlain
/-! Names as eight bytes, there and back; as plain lists. (Part of the proofs over images of old, and over roots.) -/
namespace Go.Proofs.YtllpeknpplpgeaaGreatDoor
open Go.RowKit
set_option linter.unusedVariables false

theorem readOut_name {s : ByteArray} (h : NameOk s) : readOut (nameL s) = (s, 0) := by
  have hl := length_nameL s h.2.1
  have f1 : lettersN (nameL s) = s.size := (first_fstN _ _).unique (nameL_first s h)
  have f2 : zerosN (nameL s) s.size = 8 - s.size := (first_fstN _ _).unique (nameL_zeros s h.2.1)
  unfold readOut
  rw [if_neg (fun h => h hl), f1, f2, hl, if_neg (by have := h.1; omega), nameL_take]
theorem readOut_ok {l : List Int} (hb : Byt l) (h0 : (readOut l).2 = 0) : l.length = 8 ∧ NameOk (readOut l).1 ∧ nameL (readOut l).1 = l := by
  unfold readOut at h0 ⊢
  by_cases hl : l.length = 8
  · rw [if_neg (fun h => h hl)] at h0 ⊢
    by_cases hc : lettersN l = 0 ∨ zerosN l (lettersN l) < l.length - lettersN l
    · rw [if_pos hc] at h0; exact absurd h0 (by decide)
    · rw [if_neg hc]
      have hf : First (fun j => (!ltr (l.getD j 0))) l.length (lettersN l) := first_fstN _ _
      have hz : First (fun j => ((l.drop (lettersN l)).getD j 0 != 0)) (l.drop (lettersN l)).length (zerosN l (lettersN l)) := first_fstN _ _
      generalize lettersN l = n at *
      generalize zerosN l n = z at *
      have hn8 : n ≤ 8 := by have := hf.1; omega
      have hbt : Byt (l.take n) := fun x hx => hb x (List.mem_of_mem_take hx)
      have hsl : strL (strOf (l.take n)) = l.take n := strL_strOf _ hbt
      have hsz : (strOf (l.take n)).size = n := by rw [← length_strL, hsl, List.length_take]; omega
      refine ⟨hl, ⟨by rw [hsz]; omega, by rw [hsz]; exact hn8, ?_⟩, ?_⟩
      · rw [hsz]
        refine ⟨Nat.le_refl _, fun j hj => ?_, fun h => absurd h (Nat.lt_irrefl _)⟩
        have := hf.2.1 j hj
        dsimp only at this ⊢
        rw [hsl]
        rw [show (l.take n).getD j 0 = l.getD j 0 by simp [List.getD, hj]]
        exact this
      · have hdl : (l.drop n).length = 8 - n := by rw [List.length_drop]; omega
        have hz8 : z = 8 - n := by have := hz.1; omega
        apply ext_getD
        · rw [length_nameL _ (by rw [hsz]; exact hn8), hl]
        · intro j hj
          by_cases hjn : j < n
          · rw [nameL_lo _ j (by rw [hsz]; exact hjn), hsl]
            simp [List.getD, hjn]
          · rw [nameL_hi _ j (by rw [hsz]; omega)]
            rw [length_nameL _ (by rw [hsz]; exact hn8)] at hj
            have := hz.2.1 (j - n) (by omega)
            simp [List.getD] at this
            rw [show n + (j - n) = j by omega] at this
            simpa [List.getD] using this.symm
  · rw [if_pos hl] at h0; exact absurd h0 (by decide)
end Go.Proofs.YtllpeknpplpgeaaGreatDoor
/-! What is wrong with an image, and the image without it, as plain lists. (Part of the proofs over package check.) -/
namespace Go.Proofs.YtllpeknpplpgeaaGreatDoor
open Go.RowKit
set_option linter.unusedVariables false

/-! ### handles -/
/-- Is it one, and not Stray? -/
def okE (b : List Int) (h : Int) : Bool := decide (tagAt b h ≠ 0) && decide (putE b (entOf b h) = 0)
/-- Are two extents over each other? -/
def lapB (e f : (Int × Int × Int × Int)) : Bool := decide (e.2.1 < f.2.1 + f.2.2.1) && decide (f.2.1 < e.2.1 + e.2.2.1)
/-- Is it over one of a lesser handle that is one, and not Stray? (Of the k least.) -/
def lapK (b : List Int) (h : Int) : Nat → Bool
  | 0 => false
  | k + 1 => lapK b h k || (okE b ((k : Int) + 1) && lapB (entOf b h) (entOf b ((k : Int) + 1)))
theorem lapK_iff {b : List Int} {h : Int} : ∀ {k : Nat}, lapK b h k = true ↔ ∃ j : Nat, j < k ∧ okE b ((j : Int) + 1) = true ∧ lapB (entOf b h) (entOf b ((j : Int) + 1)) = true
  | 0 => by simp [lapK]
  | k + 1 => by
    unfold lapK
    rw [Bool.or_eq_true, Bool.and_eq_true, lapK_iff]
    constructor
    · rintro (⟨j, h1, h2⟩ | h2)
      · exact ⟨j, by omega, h2⟩
      · exact ⟨k, by omega, h2⟩
    · rintro ⟨j, h1, h2⟩
      by_cases e : j = k
      · subst e; exact .inr h2
      · exact .inl ⟨j, by omega, h2⟩
/-- What a handle is: 0 none, 1 right, 2 over, 3 stray. -/
def whE (b : List Int) (h : Int) : Int := if tagAt b h = 0 then 0 else if putE b (entOf b h) ≠ 0 then 3 else if lapK b h (h - 1).toNat = true then 2 else 1
/-- The faults of a handle: what, and which. -/
def hFault (b : List Int) (h : Int) : List (Int × Int) :=
  if whE b h = 0 then (if (entOf b h).2.1 = 0 ∧ (entOf b h).2.2.1 = 0 then [] else [(3, h)]) else if whE b h = 3 then [(1, h)] else if whE b h = 2 then [(2, h)] else []
def hFK (b : List Int) : Nat → List (Int × Int)
  | 0 => []
  | k + 1 => hFK b k ++ hFault b ((k : Int) + 1)

/-! ### roots -/
def badR (b : List Int) (i : Nat) : Bool :=
  decide ((readOut ((rowAt b i).take 8)).2 ≠ 0) || (decide ((rowAt b i).getD 8 0 ≠ 0) || (decide ((rowAt b i).getD 9 0 ≠ 0) || (!hndB ((rowAt b i).getD 10 0) || decide (whE b ((rowAt b i).getD 10 0) ≠ 1))))
def nameAt (b : List Int) (i : Nat) : ByteArray := (readOut ((rowAt b i).take 8)).1
/-- Is it one that has no fault, the names ahead being these? -/
def fineR (b : List Int) (i : Nat) (ns : List ByteArray) : Bool := isRoot (rowAt b i) && (!badR b i && !ns.contains (nameAt b i))
/-- The names of the roots ahead that have no fault. -/
def nmsK (b : List Int) : Nat → List ByteArray
  | 0 => []
  | k + 1 => nmsK b k ++ if fineR b k (nmsK b k) = true then [nameAt b k] else []
def rFault (b : List Int) (i : Nat) : List (Int × Int) :=
  if isRoot (rowAt b i) = false then [] else if badR b i = true then [(4, i)] else if (nmsK b i).contains (nameAt b i) = true then [(5, i)] else []
def rFK (b : List Int) : Nat → List (Int × Int)
  | 0 => []
  | k + 1 => rFK b k ++ rFault b k
/-- What is wrong with an image. -/
def faults (b : List Int) : List (Int × Int) := hFK b 40 ++ rFK b 8

theorem mem_hFK {b : List Int} {f : Int × Int} : ∀ {k : Nat}, f ∈ hFK b k ↔ ∃ j : Nat, j < k ∧ f ∈ hFault b ((j : Int) + 1)
  | 0 => by simp [hFK]
  | k + 1 => by
    unfold hFK
    rw [List.mem_append, mem_hFK]
    constructor
    · rintro (⟨j, h1, h2⟩ | h2)
      · exact ⟨j, by omega, h2⟩
      · exact ⟨k, by omega, h2⟩
    · rintro ⟨j, h1, h2⟩
      by_cases e : j = k
      · subst e; exact .inr h2
      · exact .inl ⟨j, by omega, h2⟩
theorem mem_rFK {b : List Int} {f : Int × Int} : ∀ {k : Nat}, f ∈ rFK b k ↔ ∃ j : Nat, j < k ∧ f ∈ rFault b j
  | 0 => by simp [rFK]
  | k + 1 => by
    unfold rFK
    rw [List.mem_append, mem_rFK]
    constructor
    · rintro (⟨j, h1, h2⟩ | h2)
      · exact ⟨j, by omega, h2⟩
      · exact ⟨k, by omega, h2⟩
    · rintro ⟨j, h1, h2⟩
      by_cases e : j = k
      · subst e; exact .inr h2
      · exact .inl ⟨j, by omega, h2⟩
theorem hFault_mem {b : List Int} {h : Int} {f : Int × Int} (hf : f ∈ hFault b h) : f.2 = h ∧ 1 ≤ f.1 ∧ f.1 ≤ 3 := by
  unfold hFault at hf
  by_cases h0 : whE b h = 0
  · rw [if_pos h0] at hf
    by_cases h1 : (entOf b h).2.1 = 0 ∧ (entOf b h).2.2.1 = 0
    · rw [if_pos h1] at hf; cases hf
    · rw [if_neg h1] at hf
      rw [List.mem_singleton.1 hf]; exact ⟨rfl, by dsimp only; omega, by dsimp only; omega⟩
  · rw [if_neg h0] at hf
    by_cases h3 : whE b h = 3
    · rw [if_pos h3] at hf
      rw [List.mem_singleton.1 hf]; exact ⟨rfl, by dsimp only; omega, by dsimp only; omega⟩
    · rw [if_neg h3] at hf
      by_cases h2 : whE b h = 2
      · rw [if_pos h2] at hf
        rw [List.mem_singleton.1 hf]; exact ⟨rfl, by dsimp only; omega, by dsimp only; omega⟩
      · rw [if_neg h2] at hf; cases hf
theorem rFault_mem {b : List Int} {i : Nat} {f : Int × Int} (hf : f ∈ rFault b i) : f.2 = i ∧ 4 ≤ f.1 ∧ f.1 ≤ 5 := by
  unfold rFault at hf
  by_cases h0 : isRoot (rowAt b i) = false
  · rw [if_pos h0] at hf; cases hf
  · rw [if_neg h0] at hf
    by_cases h3 : badR b i = true
    · rw [if_pos h3] at hf
      rw [List.mem_singleton.1 hf]; exact ⟨rfl, by dsimp only; omega, by dsimp only; omega⟩
    · rw [if_neg h3] at hf
      by_cases h2 : (nmsK b i).contains (nameAt b i) = true
      · rw [if_pos h2] at hf
        rw [List.mem_singleton.1 hf]; exact ⟨rfl, by dsimp only; omega, by dsimp only; omega⟩
      · rw [if_neg h2] at hf; cases hf
theorem hFault_len (b : List Int) (h : Int) : (hFault b h).length ≤ 1 := by
  unfold hFault
  repeat' split
  all_goals simp
theorem rFault_len (b : List Int) (i : Nat) : (rFault b i).length ≤ 1 := by
  unfold rFault
  repeat' split
  all_goals simp
theorem hFK_len (b : List Int) (k : Nat) : (hFK b k).length ≤ k := by
  induction k with
  | zero => exact Nat.le_refl _
  | succ k ih => unfold hFK; rw [List.length_append]; have := hFault_len b ((k : Int) + 1); omega
theorem rFK_len (b : List Int) (k : Nat) : (rFK b k).length ≤ k := by
  induction k with
  | zero => exact Nat.le_refl _
  | succ k ih => unfold rFK; rw [List.length_append]; have := rFault_len b k; omega
theorem nmsK_len (b : List Int) (k : Nat) : (nmsK b k).length ≤ k := by
  induction k with
  | zero => exact Nat.le_refl _
  | succ k ih => unfold nmsK; rw [List.length_append]; split <;> simp <;> omega
theorem faults_len (b : List Int) : (faults b).length ≤ 48 := by
  unfold faults
  rw [List.length_append]
  have := hFK_len b 40
  have := rFK_len b 8
  omega

/-! ### what is mended -/
/-- An image of which the bytes of a fault are 0. -/
def wipeF (b : List Int) (f : Int × Int) : List Int := if 3 < f.1 then splice b (200 + 11 * f.2.toNat) (zerosB 11) else splice b (plc f.2) (zerosB 5)
def wipes (b : List Int) (l : List (Int × Int)) : List Int := l.foldl wipeF b
def mendL (b : List Int) : List Int := wipes b (faults b)
/-- A fault as there may be one: of a handle, or of a root. -/
def FaultOk (f : Int × Int) : Prop := (f.1 ≤ 3 ∧ 1 ≤ f.2 ∧ f.2 ≤ 40) ∨ (3 < f.1 ∧ 0 ≤ f.2 ∧ f.2 ≤ 7)
/-- Is a byte one of a fault's? -/
def cov (f : Int × Int) (j : Nat) : Prop := (f.1 ≤ 3 ∧ plc f.2 ≤ j ∧ j < plc f.2 + 5) ∨ (3 < f.1 ∧ 200 + 11 * f.2.toNat ≤ j ∧ j < 211 + 11 * f.2.toNat)
theorem faults_ok {b : List Int} {f : Int × Int} (hf : f ∈ faults b) : FaultOk f := by
  unfold faults at hf
  rcases List.mem_append.1 hf with hf | hf
  · obtain ⟨j, hj, hf⟩ := mem_hFK.1 hf
    have := hFault_mem hf
    exact .inl (by omega)
  · obtain ⟨j, hj, hf⟩ := mem_rFK.1 hf
    have := rFault_mem hf
    exact .inr (by omega)
theorem zeros_at (n j : Nat) : (zerosB n).getD j 0 = 0 := by
  have := zeros_getD n 0 j
  rwa [List.drop_zero] at this
theorem wipeF_len {b : List Int} {f : Int × Int} (hb : 288 ≤ b.length) (hf : FaultOk f) : (wipeF b f).length = b.length := by
  unfold wipeF
  rcases hf with ⟨h1, h2, h3⟩ | ⟨h1, h2, h3⟩
  · rw [if_neg (by omega)]
    have := plc_le h2 h3
    exact length_splice (by rw [length_zerosB]; omega)
  · rw [if_pos h1]
    exact length_splice (by rw [length_zerosB]; omega)
theorem wipeF_in {b : List Int} {f : Int × Int} {j : Nat} (hb : 288 ≤ b.length) (hf : FaultOk f) (hc : cov f j) : (wipeF b f).getD j 0 = 0 := by
  unfold wipeF
  rcases hf with ⟨h1, h2, h3⟩ | ⟨h1, h2, h3⟩
  · rw [if_neg (by omega)]
    have hp := plc_le h2 h3
    rcases hc with ⟨_, c1, c2⟩ | ⟨c0, _, _⟩
    · obtain ⟨i, rfl⟩ : ∃ i, j = plc f.2 + i := ⟨j - plc f.2, by omega⟩
      rw [splice_in (by rw [length_zerosB]; omega) (by rw [length_zerosB]; omega), zeros_at]
    · omega
  · rw [if_pos h1]
    rcases hc with ⟨c0, _, _⟩ | ⟨_, c1, c2⟩
    · omega
    · obtain ⟨i, rfl⟩ : ∃ i, j = 200 + 11 * f.2.toNat + i := ⟨j - (200 + 11 * f.2.toNat), by omega⟩
      rw [splice_in (by rw [length_zerosB]; omega) (by rw [length_zerosB]; omega), zeros_at]
theorem wipeF_out {b : List Int} {f : Int × Int} {j : Nat} (hb : 288 ≤ b.length) (hf : FaultOk f) (hc : ¬ cov f j) : (wipeF b f).getD j 0 = b.getD j 0 := by
  unfold wipeF
  unfold cov at hc
  rcases hf with ⟨h1, h2, h3⟩ | ⟨h1, h2, h3⟩
  · rw [if_neg (by omega)]
    have hp := plc_le h2 h3
    exact splice_out (by rw [length_zerosB]; omega) (by rw [length_zerosB]; omega)
  · rw [if_pos h1]
    exact splice_out (by rw [length_zerosB]; omega) (by rw [length_zerosB]; omega)
theorem wipes_len : ∀ {l : List (Int × Int)} {b : List Int}, 288 ≤ b.length → (∀ f ∈ l, FaultOk f) → (wipes b l).length = b.length
  | [], b, _, _ => rfl
  | f :: l, b, hb, h => by
    have h1 := wipeF_len hb (h f (by simp))
    show (wipes (wipeF b f) l).length = _
    rw [wipes_len (by omega) (fun g hg => h g (by simp [hg])), h1]
theorem wipes_out : ∀ {l : List (Int × Int)} {b : List Int} {j : Nat}, 288 ≤ b.length → (∀ f ∈ l, FaultOk f) → (∀ f ∈ l, ¬ cov f j) → (wipes b l).getD j 0 = b.getD j 0
  | [], b, j, _, _, _ => rfl
  | f :: l, b, j, hb, h, hc => by
    have h1 := wipeF_len hb (h f (by simp))
    show (wipes (wipeF b f) l).getD j 0 = _
    rw [wipes_out (by omega) (fun g hg => h g (by simp [hg])) (fun g hg => hc g (by simp [hg])), wipeF_out hb (h f (by simp)) (hc f (by simp))]
theorem wipes_zero : ∀ {l : List (Int × Int)} {b : List Int} {j : Nat}, 288 ≤ b.length → (∀ f ∈ l, FaultOk f) → b.getD j 0 = 0 → (wipes b l).getD j 0 = 0
  | [], b, j, _, _, hz => hz
  | f :: l, b, j, hb, h, hz => by
    have h1 := wipeF_len hb (h f (by simp))
    show (wipes (wipeF b f) l).getD j 0 = _
    refine wipes_zero (by omega) (fun g hg => h g (by simp [hg])) ?_
    by_cases hc : cov f j
    · exact wipeF_in hb (h f (by simp)) hc
    · rw [wipeF_out hb (h f (by simp)) hc]; exact hz
theorem wipes_in : ∀ {l : List (Int × Int)} {b : List Int} {j : Nat} {f : Int × Int}, 288 ≤ b.length → (∀ f ∈ l, FaultOk f) → f ∈ l → cov f j → (wipes b l).getD j 0 = 0
  | [], b, j, f, _, _, hf, _ => by cases hf
  | g :: l, b, j, f, hb, h, hf, hc => by
    have h1 := wipeF_len hb (h g (by simp))
    show (wipes (wipeF b g) l).getD j 0 = _
    rcases List.mem_cons.1 hf with rfl | hf
    · exact wipes_zero (by omega) (fun g hg => h g (by simp [hg])) (wipeF_in hb (h f (by simp)) hc)
    · exact wipes_in (by omega) (fun g hg => h g (by simp [hg])) hf hc
end Go.Proofs.YtllpeknpplpgeaaGreatDoor
/-! What is mended is right, and what was right in it is there as it was; plain lists. (Part of the proofs over package check.) -/
namespace Go.Proofs.YtllpeknpplpgeaaGreatDoor
open Go.RowKit
set_option linter.unusedVariables false

section
variable {b : List Int}
theorem mendL_len (hb : 288 ≤ b.length) : (mendL b).length = b.length := wipes_len hb (fun f hf => faults_ok hf)
/-- Has a handle no fault? -/
theorem mend_out {j : Nat} (hb : 288 ≤ b.length) (h : ∀ f ∈ faults b, ¬ cov f j) : (mendL b).getD j 0 = b.getD j 0 := wipes_out hb (fun f hf => faults_ok hf) h
theorem mend_in {j : Nat} {f : Int × Int} (hb : 288 ≤ b.length) (hf : f ∈ faults b) (hc : cov f j) : (mendL b).getD j 0 = 0 := wipes_in hb (fun f hf => faults_ok hf) hf hc
theorem mend_zero {j : Nat} (hb : 288 ≤ b.length) (hz : b.getD j 0 = 0) : (mendL b).getD j 0 = 0 := wipes_zero hb (fun f hf => faults_ok hf) hz
/-- From Head on nothing is another. -/
theorem mend_body {j : Nat} (hb : 288 ≤ b.length) (hj : 288 ≤ j) : (mendL b).getD j 0 = b.getD j 0 := by
  refine mend_out hb (fun f hf hc => ?_)
  have := faults_ok hf
  rcases this with ⟨h1, h2, h3⟩ | ⟨h1, h2, h3⟩
  · have := plc_le h2 h3
    rcases hc with ⟨_, c1, c2⟩ | ⟨c0, _, _⟩ <;> omega
  · rcases hc with ⟨c0, _, _⟩ | ⟨_, c1, c2⟩ <;> omega
/-- The faults of a handle, among all. -/
theorem faults_hand {h : Int} {f : Int × Int} (h1 : 1 ≤ h) (h2 : h ≤ 40) (hf : f ∈ hFault b h) : f ∈ faults b := by
  unfold faults
  refine List.mem_append.2 (.inl (mem_hFK.2 ⟨(h - 1).toNat, by omega, ?_⟩))
  rw [show (((h - 1).toNat : Nat) : Int) + 1 = h by omega]
  exact hf
theorem faults_root {i : Nat} {f : Int × Int} (hi : i < 8) (hf : f ∈ rFault b i) : f ∈ faults b := by
  unfold faults
  exact List.mem_append.2 (.inr (mem_rFK.2 ⟨i, hi, hf⟩))
/-- Which faults cover a byte of a handle: those of that handle. -/
theorem cov_hand {h : Int} {f : Int × Int} {j : Nat} (h1 : 1 ≤ h) (h2 : h ≤ 40) (hf : f ∈ faults b) (hc : cov f (plc h + j)) (hj : j < 5) : f ∈ hFault b h := by
  have hp := plc_le h1 h2
  unfold faults at hf
  rcases List.mem_append.1 hf with hf | hf
  · obtain ⟨i, hi, hf⟩ := mem_hFK.1 hf
    have hm := hFault_mem hf
    rcases hc with ⟨_, c1, c2⟩ | ⟨c0, _, _⟩
    · rw [hm.1] at c1 c2
      have : ((i : Int) + 1) = h := by
        unfold plc at c1 c2
        omega
      rw [this] at hf
      exact hf
    · omega
  · obtain ⟨i, hi, hf⟩ := mem_rFK.1 hf
    have hm := rFault_mem hf
    rcases hc with ⟨c0, _, _⟩ | ⟨_, c1, c2⟩ <;> omega
theorem cov_root {i : Nat} {f : Int × Int} {j : Nat} (hi : i < 8) (hf : f ∈ faults b) (hc : cov f (200 + 11 * i + j)) (hj : j < 11) : f ∈ rFault b i := by
  unfold faults at hf
  rcases List.mem_append.1 hf with hf | hf
  · obtain ⟨k, hk, hf⟩ := mem_hFK.1 hf
    have hm := hFault_mem hf
    have hp := plc_le (h := (k : Int) + 1) (by omega) (by omega)
    rcases hc with ⟨_, c1, c2⟩ | ⟨c0, _, _⟩
    · rw [hm.1] at c2; omega
    · omega
  · obtain ⟨k, hk, hf⟩ := mem_rFK.1 hf
    have hm := rFault_mem hf
    rcases hc with ⟨c0, _, _⟩ | ⟨_, c1, c2⟩
    · omega
    · have : k = i := by omega
      subst this
      exact hf
theorem cov_of_hand {h : Int} {f : Int × Int} {j : Nat} (hf : f ∈ hFault b h) (hj : j < 5) : cov f (plc h + j) := by
  have hm := hFault_mem hf
  exact .inl ⟨hm.2.2, by rw [hm.1]; omega, by rw [hm.1]; omega⟩
theorem cov_of_root {i : Nat} {f : Int × Int} {j : Nat} (hf : f ∈ rFault b i) (hj : j < 11) : cov f (200 + 11 * i + j) := by
  have hm := rFault_mem hf
  exact .inr ⟨by omega, by omega, by omega⟩

/-! ### handles -/
theorem entOf_same {c : List Int} {h : Int} (hlen : c.length = b.length) (hb : 288 ≤ b.length) (h1 : 1 ≤ h) (h2 : h ≤ 40) (hs : ∀ j, j < 5 → c.getD (plc h + j) 0 = b.getD (plc h + j) 0) : tagAt c h = tagAt b h ∧ entOf c h = entOf b h := by
  have hp := plc_le h1 h2
  have e0 := hs 0 (by omega)
  rw [Nat.add_zero] at e0
  have ht : tagAt c h = tagAt b h := e0
  refine ⟨ht, ?_⟩
  unfold entOf
  rw [ht, getV_two _ _ (by omega), getV_two _ _ (by omega), getV_two b _ (by omega), getV_two b _ (by omega)]
  have e1 := hs 1 (by omega)
  have e2 := hs 2 (by omega)
  have e3 := hs 3 (by omega)
  have e4 := hs 4 (by omega)
  rw [e1, show plc h + 1 + 1 = plc h + 2 by omega, e2, e3, show plc h + 3 + 1 = plc h + 4 by omega, e4]
theorem mend_same {h : Int} (hb : 288 ≤ b.length) (h1 : 1 ≤ h) (h2 : h ≤ 40) (hn : hFault b h = []) : tagAt (mendL b) h = tagAt b h ∧ entOf (mendL b) h = entOf b h :=
  entOf_same (mendL_len hb) hb h1 h2 (fun j hj => mend_out hb (fun f hf hc => by
    have := cov_hand h1 h2 hf hc hj
    rw [hn] at this
    cases this))
theorem mend_gone {h : Int} (hb : 288 ≤ b.length) (h1 : 1 ≤ h) (h2 : h ≤ 40) (hn : hFault b h ≠ []) : ∀ j, j < 5 → (mendL b).getD (plc h + j) 0 = 0 := fun j hj => by
  obtain ⟨f, hf⟩ := List.exists_mem_of_ne_nil _ hn
  exact mend_in hb (faults_hand h1 h2 hf) (cov_of_hand hf hj)
theorem putE_same {c : List Int} {e : (Int × Int × Int × Int)} (hlen : c.length = b.length) : putE c e = putE b e := by unfold putE; rw [hlen]
/-- A handle that is one, and right, has no fault; and one with no fault that is one is right. -/
theorem wh_cases (b : List Int) (h : Int) : whE b h = 0 ∨ whE b h = 1 ∨ whE b h = 2 ∨ whE b h = 3 := by
  unfold whE
  repeat' split
  all_goals simp
theorem wh_zero {h : Int} : whE b h = 0 ↔ tagAt b h = 0 := by
  unfold whE
  by_cases h0 : tagAt b h = 0
  · rw [if_pos h0]; simp [h0]
  · rw [if_neg h0]
    constructor
    · intro h
      repeat' split at h
      all_goals cases h
    · intro h; exact absurd h h0
theorem hFault_nil {h : Int} : hFault b h = [] ↔ (whE b h = 1 ∨ (tagAt b h = 0 ∧ (entOf b h).2.1 = 0 ∧ (entOf b h).2.2.1 = 0)) := by
  unfold hFault
  rcases wh_cases b h with h0 | h0 | h0 | h0
  · rw [if_pos h0]
    have ht := wh_zero.1 h0
    by_cases h1 : (entOf b h).2.1 = 0 ∧ (entOf b h).2.2.1 = 0
    · rw [if_pos h1]; exact ⟨fun _ => .inr ⟨ht, h1⟩, fun _ => rfl⟩
    · rw [if_neg h1]
      constructor
      · intro h; cases h
      · rintro (h | h)
        · omega
        · exact absurd h.2 h1
  · rw [if_neg (by omega), if_neg (by omega), if_neg (by omega)]
    exact ⟨fun _ => .inl h0, fun _ => rfl⟩
  · rw [if_neg (by omega), if_neg (by omega), if_pos h0]
    have ht : tagAt b h ≠ 0 := fun e => by have := wh_zero.2 e; omega
    constructor
    · intro h; cases h
    · rintro (h | h)
      · omega
      · exact absurd h.1 ht
  · rw [if_neg (by omega), if_pos h0]
    have ht : tagAt b h ≠ 0 := fun e => by have := wh_zero.2 e; omega
    constructor
    · intro h; cases h
    · rintro (h | h)
      · omega
      · exact absurd h.1 ht
theorem wh_one {h : Int} : whE b h = 1 ↔ tagAt b h ≠ 0 ∧ putE b (entOf b h) = 0 ∧ lapK b h (h - 1).toNat = false := by
  unfold whE
  by_cases h0 : tagAt b h = 0
  · rw [if_pos h0]; simp [h0]
  · rw [if_neg h0]
    by_cases h1 : putE b (entOf b h) ≠ 0
    · rw [if_pos h1]
      constructor
      · intro h; cases h
      · rintro ⟨_, h, _⟩; exact absurd h h1
    · rw [if_neg h1]
      have h1' : putE b (entOf b h) = 0 := by simpa using h1
      by_cases h2 : lapK b h (h - 1).toNat = true
      · rw [if_pos h2]
        constructor
        · intro h; cases h
        · rintro ⟨_, _, h⟩; rw [h2] at h; cases h
      · rw [if_neg h2]
        exact ⟨fun _ => ⟨h0, h1', by simpa using h2⟩, fun _ => rfl⟩
/-- Right ones stay right. -/
theorem mend_right {h : Int} (hb : 288 ≤ b.length) (h1 : 1 ≤ h) (h2 : h ≤ 40) (hw : whE b h = 1) : whE (mendL b) h = 1 := by
  obtain ⟨q1, q2, q3⟩ := wh_one.1 hw
  obtain ⟨e1, e2⟩ := mend_same hb h1 h2 (hFault_nil.2 (.inl hw))
  refine wh_one.2 ⟨by rw [e1]; exact q1, by rw [e2, putE_same (mendL_len hb)]; exact q2, ?_⟩
  cases hl : lapK (mendL b) h (h - 1).toNat with
  | false => rfl
  | true =>
    exfalso
    obtain ⟨j, hj, ho, hlap⟩ := lapK_iff.1 hl
    have j1 : (1 : Int) ≤ (j : Int) + 1 := by omega
    have j2 : (j : Int) + 1 ≤ 40 := by omega
    unfold okE at ho
    rw [Bool.and_eq_true, decide_eq_true_iff, decide_eq_true_iff] at ho
    by_cases hn : hFault b ((j : Int) + 1) = []
    · obtain ⟨g1, g2⟩ := mend_same hb j1 j2 hn
      rw [g1, g2, putE_same (mendL_len hb)] at ho
      rw [e2, g2] at hlap
      have : lapK b h (h - 1).toNat = true := lapK_iff.2 ⟨j, hj, by unfold okE; rw [Bool.and_eq_true, decide_eq_true_iff, decide_eq_true_iff]; exact ho, hlap⟩
      rw [q3] at this
      cases this
    · have := mend_gone hb j1 j2 hn 0 (by omega)
      rw [Nat.add_zero] at this
      exact ho.1 this
theorem ent_zero {c : List Int} {h : Int} (hb : 288 ≤ c.length) (h1 : 1 ≤ h) (h2 : h ≤ 40) (hz : ∀ j, j < 5 → c.getD (plc h + j) 0 = 0) : tagAt c h = 0 ∧ (entOf c h).2.1 = 0 ∧ (entOf c h).2.2.1 = 0 := by
  have hp := plc_le h1 h2
  have e0 := hz 0 (by omega)
  rw [Nat.add_zero] at e0
  have e1 := hz 1 (by omega)
  have e2 := hz 2 (by omega)
  have e3 := hz 3 (by omega)
  have e4 := hz 4 (by omega)
  refine ⟨e0, ?_, ?_⟩
  · show getV c (plc h + 1) 2 = 0
    rw [getV_two _ _ (by omega), e1, show plc h + 1 + 1 = plc h + 2 by omega, e2]; rfl
  · show getV c (plc h + 3) 2 = 0
    rw [getV_two _ _ (by omega), e3, show plc h + 3 + 1 = plc h + 4 by omega, e4]; rfl
theorem mend_hand {h : Int} (hb : 288 ≤ b.length) (h1 : 1 ≤ h) (h2 : h ≤ 40) : hFault (mendL b) h = [] := by
  refine hFault_nil.2 ?_
  by_cases hn : hFault b h = []
  · rcases hFault_nil.1 hn with hw | ⟨q1, q2, q3⟩
    · exact .inl (mend_right hb h1 h2 hw)
    · obtain ⟨e1, e2⟩ := mend_same hb h1 h2 hn
      rw [e1, e2]
      exact .inr ⟨q1, q2, q3⟩
  · exact .inr (ent_zero (by rw [mendL_len hb]; exact hb) h1 h2 (mend_gone hb h1 h2 hn))

/-! ### roots -/
theorem row_same {i : Nat} (hb : 288 ≤ b.length) (hi : i < 8) (hn : rFault b i = []) : rowAt (mendL b) i = rowAt b i := by
  have hl := mendL_len hb
  apply ext_getD
  · rw [rowAt_len (by omega), rowAt_len (by omega)]
  · intro j hj
    rw [rowAt_len (by omega)] at hj
    rw [rowAt_getD hj, rowAt_getD hj]
    refine mend_out hb (fun f hf hc => ?_)
    have := cov_root hi hf hc hj
    rw [hn] at this
    cases this
theorem row_gone {i : Nat} (hb : 288 ≤ b.length) (hi : i < 8) (hn : rFault b i ≠ []) : isRoot (rowAt (mendL b) i) = false := by
  obtain ⟨f, hf⟩ := List.exists_mem_of_ne_nil _ hn
  have hl := mendL_len hb
  unfold isRoot
  rw [List.any_eq_false]
  intro x hx
  obtain ⟨j, hj, rfl⟩ := List.getElem_of_mem hx
  rw [rowAt_len (by omega)] at hj
  have e : (rowAt (mendL b) i).getD j 0 = 0 := by
    rw [rowAt_getD hj]
    exact mend_in hb (faults_root hi hf) (cov_of_root hf hj)
  rw [List.getD, List.getElem?_eq_getElem (by rw [rowAt_len (by omega)]; exact hj)] at e
  simp at e
  simp [e]
theorem badR_no {i : Nat} : badR b i = false ↔ (readOut ((rowAt b i).take 8)).2 = 0 ∧ (rowAt b i).getD 8 0 = 0 ∧ (rowAt b i).getD 9 0 = 0 ∧ hndB ((rowAt b i).getD 10 0) = true ∧ whE b ((rowAt b i).getD 10 0) = 1 := by
  unfold badR
  rw [Bool.or_eq_false_iff, Bool.or_eq_false_iff, Bool.or_eq_false_iff, Bool.or_eq_false_iff, decide_eq_false_iff_not, decide_eq_false_iff_not, decide_eq_false_iff_not, decide_eq_false_iff_not, Decidable.not_not, Decidable.not_not, Decidable.not_not, Decidable.not_not, Bool.not_eq_false']
theorem rFault_nil {i : Nat} : rFault b i = [] ↔ isRoot (rowAt b i) = false ∨ fineR b i (nmsK b i) = true := by
  unfold rFault fineR
  cases hr : isRoot (rowAt b i) with
  | false => simp
  | true =>
    rw [if_neg (by simp)]
    cases hq : badR b i with
    | true => simp
    | false =>
      rw [if_neg (by simp)]
      cases hc : (nmsK b i).contains (nameAt b i) with
      | true => simp
      | false => simp
/-- The names are the same, and none is faulty. -/
theorem mend_roots (hb : 288 ≤ b.length) : ∀ k, k ≤ 8 → nmsK (mendL b) k = nmsK b k ∧ ∀ i, i < k → rFault (mendL b) i = [] := by
  intro k
  induction k with
  | zero => intro _; exact ⟨by simp only [nmsK], fun i hi => absurd hi (Nat.not_lt_zero i)⟩
  | succ k ih =>
    intro hk
    obtain ⟨ih1, ih2⟩ := ih (by omega)
    have key : (fineR (mendL b) k (nmsK b k) = fineR b k (nmsK b k) ∧ (fineR b k (nmsK b k) = true → nameAt (mendL b) k = nameAt b k)) ∧ rFault (mendL b) k = [] := by
      by_cases hn : rFault b k = []
      · have hrow := row_same hb (by omega) hn
        rcases rFault_nil.1 hn with h0 | h0
        · have h1 : isRoot (rowAt (mendL b) k) = false := by rw [hrow]; exact h0
          have e1 : fineR (mendL b) k (nmsK b k) = false := by unfold fineR; rw [h1]; rfl
          have e2 : fineR b k (nmsK b k) = false := by unfold fineR; rw [h0]; rfl
          exact ⟨⟨by rw [e1, e2], fun h => by rw [e2] at h; cases h⟩, rFault_nil.2 (.inl h1)⟩
        · have hname : nameAt (mendL b) k = nameAt b k := by unfold nameAt; rw [hrow]
          have h0' := h0
          unfold fineR at h0'
          rw [Bool.and_eq_true, Bool.and_eq_true, Bool.not_eq_true', Bool.not_eq_true'] at h0'
          have hbad : badR (mendL b) k = false := by
            obtain ⟨q1, q2, q3, q4, q5⟩ := badR_no.1 h0'.2.1
            refine badR_no.2 ?_
            rw [hrow]
            have hh := hndB_iff.1 q4
            exact ⟨q1, q2, q3, q4, mend_right hb hh.1 hh.2 q5⟩
          have e1 : fineR (mendL b) k (nmsK b k) = true := by
            unfold fineR
            rw [hrow, hbad, hname, h0'.1, h0'.2.2]; rfl
          refine ⟨⟨by rw [e1, h0], fun _ => hname⟩, rFault_nil.2 (.inr (by rw [ih1]; exact e1))⟩
      · have h1 := row_gone hb (by omega : k < 8) hn
        have e1 : fineR (mendL b) k (nmsK b k) = false := by unfold fineR; rw [h1]; rfl
        have e2 : fineR b k (nmsK b k) = false := by
          cases h : fineR b k (nmsK b k) with
          | false => rfl
          | true => exact absurd (rFault_nil.2 (.inr h)) hn
        exact ⟨⟨by rw [e1, e2], fun h => by rw [e2] at h; cases h⟩, rFault_nil.2 (.inl h1)⟩
    refine ⟨?_, fun i hi => ?_⟩
    · simp only [nmsK]
      rw [ih1, key.1.1]
      by_cases hf : fineR b k (nmsK b k) = true
      · rw [if_pos hf, if_pos hf, key.1.2 hf]
      · rw [if_neg hf, if_neg hf]
    · by_cases e : i = k
      · subst e; exact key.2
      · exact ih2 i (by omega)
/-- What is mended is right. -/
theorem mend_faults (hb : 288 ≤ b.length) : faults (mendL b) = [] := by
  refine List.eq_nil_iff_forall_not_mem.2 (fun f hf => ?_)
  unfold faults at hf
  rcases List.mem_append.1 hf with hf | hf
  · obtain ⟨j, hj, hf⟩ := mem_hFK.1 hf
    rw [mend_hand hb (by omega) (by omega)] at hf
    cases hf
  · obtain ⟨j, hj, hf⟩ := mem_rFK.1 hf
    rw [(mend_roots hb 8 (by omega)).2 j hj] at hf
    cases hf
/-- Mended once more it stays. -/
theorem mend_right_same (h : faults b = []) : mendL b = b := by unfold mendL; rw [h]; rfl
theorem root_zero {i : Nat} (hb : 288 ≤ b.length) (hi : i < 8) (hz : ∀ j, j < 11 → b.getD (200 + 11 * i + j) 0 = 0) : isRoot (rowAt b i) = false := by
  unfold isRoot
  rw [List.any_eq_false]
  intro x hx
  obtain ⟨j, hj, rfl⟩ := List.getElem_of_mem hx
  have hj' := hj
  rw [rowAt_len (by omega)] at hj'
  have e : (rowAt b i).getD j 0 = 0 := by
    rw [rowAt_getD hj']
    exact hz j hj'
  rw [List.getD, List.getElem?_eq_getElem hj] at e
  simp at e
  simp [e]
/-- An image that has a fault is another one when it is mended. -/
theorem mend_other (hb : 288 ≤ b.length) (hf : faults b ≠ []) : mendL b ≠ b := by
  intro he
  obtain ⟨f, hm⟩ := List.exists_mem_of_ne_nil _ hf
  have hz : ∀ j, cov f j → b.getD j 0 = 0 := fun j hc => by
    have := mend_in hb hm hc
    rwa [he] at this
  have hm' := hm
  unfold faults at hm'
  rcases List.mem_append.1 hm' with hq | hq
  · obtain ⟨j, hj, hq⟩ := mem_hFK.1 hq
    have h0 := ent_zero hb (h := (j : Int) + 1) (by omega) (by omega) (fun i hi => hz _ (cov_of_hand hq hi))
    rw [hFault_nil.2 (.inr h0)] at hq
    cases hq
  · obtain ⟨j, hj, hq⟩ := mem_rFK.1 hq
    have h0 := root_zero hb hj (fun i hi => hz _ (cov_of_root hq hi))
    rw [rFault_nil.2 (.inl h0)] at hq
    cases hq
theorem mend_iff (hb : 288 ≤ b.length) : mendL b = b ↔ faults b = [] := by
  constructor
  · intro h
    by_cases hf : faults b = []
    · exact hf
    · exact absurd h (mend_other hb hf)
  · exact mend_right_same
/-- What had no fault is got as it was; what had one is none. -/
theorem mend_get {h : Int} (hb : 288 ≤ b.length) (h1 : 1 ≤ h) (h2 : h ≤ 40) (hn : hFault b h = []) : chkE (mendL b) h = chkE b h ∧ getE (mendL b) h = getE b h := by
  obtain ⟨e1, e2⟩ := mend_same hb h1 h2 hn
  have hc : chkE (mendL b) h = chkE b h := by unfold chkE; rw [e1, mendL_len hb]
  exact ⟨hc, by unfold getE; rw [hc, e2]⟩
theorem mend_none {h : Int} (hb : 288 ≤ b.length) (hb2 : b.length ≤ 6400) (h1 : 1 ≤ h) (h2 : h ≤ 40) (hn : hFault b h ≠ []) : chkE (mendL b) h = 5 := by
  have h0 := mend_gone hb h1 h2 hn 0 (by omega)
  rw [Nat.add_zero] at h0
  have ht : tagAt (mendL b) h = 0 := h0
  have hl : lenB (mendL b).length = true := lenB_iff.2 (by rw [mendL_len hb]; omega)
  have hh : hndB h = true := hndB_iff.2 ⟨h1, h2⟩
  unfold chkE
  rw [if_neg (by rw [hl]; simp), if_neg (by rw [hh]; simp), if_pos ht]
/-- Which handles are told: a fault of a handle, among all. -/
theorem told_hand {h : Int} (h1 : 1 ≤ h) (h2 : h ≤ 40) : (∃ f ∈ faults b, f.1 ≤ 3 ∧ f.2 = h) ↔ hFault b h ≠ [] := by
  constructor
  · rintro ⟨f, hf, q1, q2⟩ hn
    unfold faults at hf
    rcases List.mem_append.1 hf with hf | hf
    · obtain ⟨j, hj, hf⟩ := mem_hFK.1 hf
      have hm := hFault_mem hf
      have : (j : Int) + 1 = h := by omega
      rw [this, hn] at hf
      cases hf
    · obtain ⟨j, hj, hf⟩ := mem_rFK.1 hf
      have hm := rFault_mem hf
      omega
  · intro hn
    obtain ⟨f, hf⟩ := List.exists_mem_of_ne_nil _ hn
    have hm := hFault_mem hf
    exact ⟨f, faults_hand h1 h2 hf, hm.2.2, hm.1⟩
/-- From Head on all is as it was. -/
theorem mend_tail (hb : 288 ≤ b.length) : (mendL b).drop 288 = b.drop 288 := by
  have hl := mendL_len hb
  apply ext_getD
  · rw [List.length_drop, List.length_drop, hl]
  · intro j hj
    have := mend_body hb (j := 288 + j) (by omega)
    simpa [List.getD] using this
end
end Go.Proofs.YtllpeknpplpgeaaGreatDoor
/-! Whether two images are the same, as plain lists. (Part of the proofs over package check.) -/
namespace Go.Proofs.YtllpeknpplpgeaaGreatDoor
open Go.RowKit
set_option linter.unusedVariables false

/-! ### objects -/
/-- The bytes of an extent. -/
def partL (b : List Int) (x n : Int) : List Int := (b.drop x.toNat).take n.toNat
/-- What an object is: its tag, its bytes. -/
def objE (b : List Int) (e : (Int × Int × Int × Int)) : Int × List Int := (e.2.2.2, partL b e.2.1 e.2.2.1)
/-- The object of a handle; -1: there is none. -/
def objOf (b : List Int) (h : Int) : Int × List Int := if tagAt b h = 0 then (-1, []) else objE b (entOf b h)
/-- The objects of the handles up to k, each with its handle. -/
def objK (b : List Int) (k : Nat) : List (Int × Int × List Int) := (entsK b k).map fun e => (e.1, objE b e)
theorem mem_objK {b : List Int} {x : Int × Int × List Int} : ∀ {k : Nat}, x ∈ objK b k ↔ ∃ j : Nat, j < k ∧ tagAt b ((j : Int) + 1) ≠ 0 ∧ x = ((j : Int) + 1, objOf b ((j : Int) + 1))
  | 0 => by simp [objK, entsK]
  | k + 1 => by
    have ih := mem_objK (b := b) (x := x) (k := k)
    unfold objK at ih ⊢
    unfold entsK
    rw [List.map_append, List.mem_append, ih]
    by_cases ht : tagAt b ((k : Int) + 1) = 0
    · rw [if_pos ht]
      constructor
      · rintro (⟨j, h1, h2⟩ | h2)
        · exact ⟨j, by omega, h2⟩
        · cases h2
      · rintro ⟨j, h1, h2, h3⟩
        by_cases e : j = k
        · subst e; exact absurd ht h2
        · exact .inl ⟨j, by omega, h2, h3⟩
    · rw [if_neg ht]
      have ho : objOf b ((k : Int) + 1) = objE b (entOf b ((k : Int) + 1)) := by unfold objOf; rw [if_neg ht]
      have hx : (entOf b ((k : Int) + 1)).1 = (k : Int) + 1 := rfl
      constructor
      · rintro (⟨j, h1, h2⟩ | h2)
        · exact ⟨j, by omega, h2⟩
        · refine ⟨k, by omega, ht, ?_⟩
          rw [List.map_cons, List.map_nil] at h2
          rw [List.mem_singleton.1 h2, ho, hx]
      · rintro ⟨j, h1, h2, h3⟩
        by_cases e : j = k
        · subst e
          refine .inr ?_
          rw [List.map_cons, List.map_nil, h3, ho, hx]
          exact List.mem_singleton.2 rfl
        · exact .inl ⟨j, by omega, h2, h3⟩
/-- Have two images the same objects by handle, up to k? -/
def sameO (a b : List Int) : Nat → Bool
  | 0 => true
  | k + 1 => sameO a b k && decide (objOf a ((k : Int) + 1) = objOf b ((k : Int) + 1))
theorem sameO_iff {a b : List Int} : ∀ {k : Nat}, sameO a b k = true ↔ ∀ j : Nat, j < k → objOf a ((j : Int) + 1) = objOf b ((j : Int) + 1)
  | 0 => by simp [sameO]
  | k + 1 => by
    unfold sameO
    rw [Bool.and_eq_true, sameO_iff, decide_eq_true_iff]
    constructor
    · rintro ⟨h1, h2⟩ j hj
      by_cases e : j = k
      · subst e; exact h2
      · exact h1 j (by omega)
    · intro h
      exact ⟨fun j hj => h j (by omega), h k (by omega)⟩
theorem objOf_tag {b : List Int} {h : Int} (hb : Byt b) (ht : tagAt b h ≠ 0) : 0 ≤ (objOf b h).1 := by
  unfold objOf objE entOf
  rw [if_neg ht]
  have h1 : 0 ≤ tagAt b h ∧ tagAt b h ≤ 255 := hb.getD (plc h)
  dsimp only
  omega
theorem objOf_none {b : List Int} {h : Int} (ht : tagAt b h = 0) : objOf b h = (-1, []) := by unfold objOf; rw [if_pos ht]
theorem objK_same {a b : List Int} (ha : Byt a) (hb : Byt b) (k : Nat) : objK a k = objK b k ↔ sameO a b k = true := by
  rw [sameO_iff]
  constructor
  · intro h j hj
    by_cases h1 : tagAt a ((j : Int) + 1) = 0
    · by_cases h2 : tagAt b ((j : Int) + 1) = 0
      · rw [objOf_none h1, objOf_none h2]
      · have hm : ((j : Int) + 1, objOf b ((j : Int) + 1)) ∈ objK b k := mem_objK.2 ⟨j, hj, h2, rfl⟩
        rw [← h] at hm
        obtain ⟨i, hi, h3, h4⟩ := mem_objK.1 hm
        have : i = j := by have := congrArg Prod.fst h4; dsimp only at this; omega
        subst this
        exact absurd h1 h3
    · have hm : ((j : Int) + 1, objOf a ((j : Int) + 1)) ∈ objK a k := mem_objK.2 ⟨j, hj, h1, rfl⟩
      rw [h] at hm
      obtain ⟨i, hi, h3, h4⟩ := mem_objK.1 hm
      have : i = j := by have := congrArg Prod.fst h4; dsimp only at this; omega
      subst this
      exact congrArg Prod.snd h4
  · intro h
    induction k with
    | zero => rfl
    | succ k ih =>
      have hk := h k (by omega)
      have hi := ih (fun j hj => h j (by omega))
      unfold objK at hi ⊢
      unfold entsK
      rw [List.map_append, List.map_append, hi]
      congr 1
      by_cases h1 : tagAt a ((k : Int) + 1) = 0
      · have h2 : tagAt b ((k : Int) + 1) = 0 := by
          refine Classical.byContradiction fun h2 => ?_
          have := objOf_tag hb h2
          rw [← hk, objOf_none h1] at this
          dsimp only at this
          omega
        rw [if_pos h1, if_pos h2]
        rfl
      · have h2 : ¬ tagAt b ((k : Int) + 1) = 0 := by
          intro h2
          have := objOf_tag ha h1
          rw [hk, objOf_none h2] at this
          dsimp only at this
          omega
        rw [if_neg h1, if_neg h2]
        unfold objOf at hk
        rw [if_neg h1, if_neg h2] at hk
        rw [List.map_cons, List.map_nil, List.map_cons, List.map_nil, hk]
        rfl
/-- Are two entries of two images the same object? -/
def eqEnt (a b : List Int) (x y : (Int × Int × Int × Int)) : Bool := decide (x.1 = y.1) && (decide (x.2.2.2 = y.2.2.2) && decide (partL a x.2.1 x.2.2.1 = partL b y.2.1 y.2.2.1))
theorem eqEnt_iff {a b : List Int} {x y : (Int × Int × Int × Int)} : eqEnt a b x y = true ↔ (x.1, objE a x) = (y.1, objE b y) := by
  unfold eqEnt objE
  rw [Bool.and_eq_true, Bool.and_eq_true, decide_eq_true_iff, decide_eq_true_iff, decide_eq_true_iff]
  simp only [Prod.mk.injEq]
/-- As many, and one by one the same? (So slices.EqualFunc tells it.) -/
def eqAll {α β : Type} (f : α → β → Bool) : List α → List β → Bool
  | [], [] => true
  | x :: l, y :: m => f x y && eqAll f l m
  | _, _ => false
theorem eqAll_map {α β γ : Type} {f : α → β → Bool} {p : α → γ} {q : β → γ} (h : ∀ x y, f x y = true ↔ p x = q y) : ∀ {l : List α} {m : List β}, eqAll f l m = true ↔ l.map p = m.map q
  | [], [] => by simp [eqAll]
  | [], y :: m => by simp [eqAll]
  | x :: l, [] => by simp [eqAll]
  | x :: l, y :: m => by
    unfold eqAll
    rw [Bool.and_eq_true, h, eqAll_map h, List.map_cons, List.map_cons, List.cons.injEq]
theorem eqAll_objs {a b : List Int} (ha : Byt a) (hb : Byt b) : eqAll (eqEnt a b) (entsK a 40) (entsK b 40) = sameO a b 40 := by
  have h1 := eqAll_map (f := eqEnt a b) (p := fun e => (e.1, objE a e)) (q := fun e => (e.1, objE b e)) (fun x y => eqEnt_iff) (l := entsK a 40) (m := entsK b 40)
  have h2 := objK_same ha hb 40
  unfold objK at h2
  rw [h2] at h1
  cases h3 : eqAll (eqEnt a b) (entsK a 40) (entsK b 40) <;> cases h4 : sameO a b 40
  · rfl
  · rw [h3, h4] at h1; simp at h1
  · rw [h3, h4] at h1; simp at h1
  · rfl

/-! ### roots -/
theorem ba_beq {a b : ByteArray} : (a == b) = true ↔ a = b := by
  cases a with | mk x => cases b with | mk y =>
  constructor
  · intro h
    have h' : (x == y) = true := h
    rw [eq_of_beq h']
  · intro h
    injection h with h
    subst h
    show (x == x) = true
    exact beq_self_eq_true x
theorem ba_lawful : LawfulBEq ByteArray := { eq_of_beq := fun h => ba_beq.1 h, rfl := ba_beq.2 rfl }
/-- Where a name leads; 0: nowhere. -/
def leadOf (l : List (ByteArray × Int)) (s : ByteArray) : Int := ((l.find? (fun r => r.1 == s)).map (·.2)).getD 0
/-- The same roots, as many? -/
def sameR (l m : List (ByteArray × Int)) : Bool := l.all (fun r => leadOf m r.1 == r.2) && decide (l.length = m.length)
/-- What is told of an image that is right: names are apart, and lead to handles. -/
structure Apart (l : List (ByteArray × Int)) : Prop where
  nodup : (l.map (·.1)).Nodup
  pos : ∀ r ∈ l, 1 ≤ r.2 ∧ r.2 ≤ 40
theorem apart_roots {b : List Int} (hf : faults b = []) : Apart (rootsK b 8) := by
  have hn : ∀ i, i < 8 → rFault b i = [] := fun i hi => by
    refine Classical.byContradiction fun h => ?_
    obtain ⟨f, hm⟩ := List.exists_mem_of_ne_nil _ h
    have := faults_root hi hm
    rw [hf] at this
    cases this
  have hk : ∀ k, k ≤ 8 → nmsK b k = (rootsK b k).map (·.1) ∧ (nmsK b k).Nodup ∧ ∀ r ∈ rootsK b k, 1 ≤ r.2 ∧ r.2 ≤ 40 := by
    intro k
    induction k with
    | zero => intro _; exact ⟨rfl, List.nodup_nil, fun r hr => by cases hr⟩
    | succ k ih =>
      intro hk
      obtain ⟨h1, h2, h3⟩ := ih (by omega)
      rcases rFault_nil.1 (hn k (by omega)) with h | h
      · have e1 : nmsK b (k + 1) = nmsK b k := by
          show nmsK b k ++ _ = _
          have : fineR b k (nmsK b k) = false := by unfold fineR; rw [h, Bool.false_and]
          rw [this, if_neg (by simp), List.append_nil]
        have e2 : rootsK b (k + 1) = rootsK b k := by
          show rootsK b k ++ _ = _
          rw [h, if_neg (by simp), List.append_nil]
        rw [e1, e2]
        exact ⟨h1, h2, h3⟩
      · have e1 : nmsK b (k + 1) = nmsK b k ++ [nameAt b k] := by
          show nmsK b k ++ _ = _
          rw [if_pos h]
        have hfi := h
        unfold fineR at hfi
        rw [Bool.and_eq_true, Bool.and_eq_true] at hfi
        obtain ⟨f1, f2, f3⟩ := hfi
        have e2 : rootsK b (k + 1) = rootsK b k ++ [rootOf (rowAt b k)] := by
          show rootsK b k ++ _ = _
          rw [f1, if_pos rfl]
        have f2' : badR b k = false := by simpa using f2
        have f3' : nameAt b k ∉ nmsK b k := by
          intro hm
          haveI := ba_lawful
          rw [List.contains_iff_mem.2 hm] at f3
          cases f3
        obtain ⟨_, _, _, g4, _⟩ := badR_no.1 f2'
        have g4' := hndB_iff.1 g4
        refine ⟨?_, ?_, ?_⟩
        · rw [e1, e2, List.map_append, h1]; rfl
        · rw [e1, List.nodup_append]
          exact ⟨h2, by simp, fun x hx y hy e => by rw [List.mem_singleton.1 hy] at e; subst e; exact f3' hx⟩
        · rw [e2]
          intro r hr
          rcases List.mem_append.1 hr with hr | hr
          · exact h3 r hr
          · rw [List.mem_singleton.1 hr]; exact g4'
  obtain ⟨h1, h2, h3⟩ := hk 8 (Nat.le_refl _)
  exact ⟨by rw [← h1]; exact h2, h3⟩
theorem lead_mem {m : List (ByteArray × Int)} (hm : Apart m) {s : ByteArray} {h : Int} (hh : 1 ≤ h) : leadOf m s = h ↔ (s, h) ∈ m := by
  unfold leadOf
  constructor
  · intro e
    cases hf : m.find? (fun r => r.1 == s) with
    | none => rw [hf] at e; simp at e; omega
    | some r =>
      rw [hf] at e
      have h1 := List.mem_of_find?_eq_some hf
      have h2 := List.find?_some hf
      have e' : r.2 = h := e
      have h2' : r.1 = s := ba_beq.1 h2
      have : r = (s, h) := Prod.ext h2' e'
      rw [← this]; exact h1
  · intro hmem
    cases hf : m.find? (fun r => r.1 == s) with
    | none =>
      exact absurd (ba_beq.2 rfl) (List.find?_eq_none.1 hf (s, h) hmem)
    | some r =>
      have h1 := List.mem_of_find?_eq_some hf
      have h2 : r.1 = s := ba_beq.1 (List.find?_some (p := fun (r : (ByteArray × Int)) => r.1 == s) hf)
      have : r = (s, h) := by
        have hinj : ∀ (l : List (ByteArray × Int)), (l.map (·.1)).Nodup → ∀ x ∈ l, ∀ y ∈ l, x.1 = y.1 → x = y := by
          intro l
          induction l with
          | nil => intro _ x hx; cases hx
          | cons z l ih =>
            intro hn x hx y hy e
            rw [List.map_cons, List.nodup_cons] at hn
            rcases List.mem_cons.1 hx with hx | hx <;> rcases List.mem_cons.1 hy with hy | hy
            · rw [hx, hy]
            · exact absurd (List.mem_map.2 ⟨y, hy, by rw [← e, hx]⟩) hn.1
            · exact absurd (List.mem_map.2 ⟨x, hx, by rw [e, hy]⟩) hn.1
            · exact ih hn.2 x hx y hy e
        exact hinj m hm.nodup r h1 (s, h) hmem h2
      rw [this]
      rfl
theorem sameR_iff {l m : List (ByteArray × Int)} (hl : Apart l) (hm : Apart m) : sameR l m = true ↔ l.length = m.length ∧ ∀ r ∈ l, r ∈ m := by
  unfold sameR
  rw [Bool.and_eq_true, decide_eq_true_iff, List.all_eq_true]
  constructor
  · rintro ⟨h1, h2⟩
    refine ⟨h2, fun r hr => ?_⟩
    have := (lead_mem hm (hl.pos r hr).1).1 (by simpa using h1 r hr)
    exact this
  · rintro ⟨h1, h2⟩
    refine ⟨fun r hr => ?_, h1⟩
    have := (lead_mem hm (s := r.1) (hl.pos r hr).1).2 (h2 r hr)
    simpa using this

/-! ### what is answered -/
def fineE (b : List Int) : Int := if lenB b.length = false then 3 else if faults b = [] then 0 else 6
def sameE (a b : List Int) : Int := if lenB a.length = false then 3 else if lenB b.length = false then 3 else if faults a = [] ∧ faults b = [] then 0 else 6
def sameB (a b : List Int) : Bool := sameE a b == 0 && (sameO a b 40 && sameR (rootsK a 8) (rootsK b 8))
end Go.Proofs.YtllpeknpplpgeaaGreatDoor
/-! Images whose first 288 bytes are the same: the same entries, the same roots, the same faults; as plain lists. (Part of the proofs over package heap.) -/
namespace Go.Proofs.YtllpeknpplpgeaaGreatDoor
open Go.RowKit
set_option linter.unusedVariables false

theorem faults_iff {b : List Int} : faults b = [] ↔ (∀ h, 1 ≤ h → h ≤ 40 → hFault b h = []) ∧ ∀ i, i < 8 → rFault b i = [] := by
  constructor
  · intro hf
    refine ⟨fun h h1 h2 => ?_, fun i hi => ?_⟩
    · refine List.eq_nil_iff_forall_not_mem.2 (fun f hm => ?_)
      have := faults_hand h1 h2 hm
      rw [hf] at this
      cases this
    · refine List.eq_nil_iff_forall_not_mem.2 (fun f hm => ?_)
      have := faults_root hi hm
      rw [hf] at this
      cases this
  · rintro ⟨h1, h2⟩
    refine List.eq_nil_iff_forall_not_mem.2 (fun f hf => ?_)
    unfold faults at hf
    rcases List.mem_append.1 hf with hf | hf
    · obtain ⟨j, hj, hf⟩ := mem_hFK.1 hf
      rw [h1 _ (by omega) (by omega)] at hf
      cases hf
    · obtain ⟨j, hj, hf⟩ := mem_rFK.1 hf
      rw [h2 j hj] at hf
      cases hf
section
variable {b c : List Int}
/-- What a handle is is told by the entries of all. -/
theorem wh_same (hlen : c.length = b.length) (hs : ∀ h, 1 ≤ h → h ≤ 40 → tagAt c h = tagAt b h ∧ entOf c h = entOf b h) : ∀ h, 1 ≤ h → h ≤ 40 → whE c h = whE b h := by
  intro h h1 h2
  have hok : ∀ j : Nat, j < 40 → okE c ((j : Int) + 1) = okE b ((j : Int) + 1) := fun j hj => by
    obtain ⟨e1, e2⟩ := hs ((j : Int) + 1) (by omega) (by omega)
    unfold okE
    rw [e1, e2, putE_same hlen]
  have hlap : ∀ k : Nat, k ≤ 40 → lapK c h k = lapK b h k := by
    intro k
    induction k with
    | zero => intro _; rfl
    | succ k ih =>
      intro hk
      unfold lapK
      rw [ih (by omega), hok k (by omega), (hs h h1 h2).2, (hs ((k : Int) + 1) (by omega) (by omega)).2]
  unfold whE
  rw [(hs h h1 h2).1, (hs h h1 h2).2, putE_same hlen, hlap _ (by omega)]
theorem head_ents (hlen : c.length = b.length) (hb : 288 ≤ b.length) (hs : ∀ j, j < 288 → c.getD j 0 = b.getD j 0) : ∀ h, 1 ≤ h → h ≤ 40 → tagAt c h = tagAt b h ∧ entOf c h = entOf b h := fun h h1 h2 =>
  entOf_same hlen hb h1 h2 (fun j hj => hs _ (by have := plc_le h1 h2; omega))
theorem head_rows (hlen : c.length = b.length) (hb : 288 ≤ b.length) (hs : ∀ j, j < 288 → c.getD j 0 = b.getD j 0) : ∀ i, i < 8 → rowAt c i = rowAt b i := fun i hi => by
  apply ext_getD
  · rw [rowAt_len (by omega), rowAt_len (by omega)]
  · intro j hj
    rw [rowAt_len (by omega)] at hj
    rw [rowAt_getD hj, rowAt_getD hj]
    exact hs _ (by omega)
/-- Rows that are the same, and handles of which the right ones stay right: the roots have no faults again. -/
theorem roots_keep (hrow : ∀ i, i < 8 → rowAt c i = rowAt b i) (hw : ∀ i, i < 8 → hndB ((rowAt b i).getD 10 0) = true → isRoot (rowAt b i) = true → whE b ((rowAt b i).getD 10 0) = 1 → whE c ((rowAt b i).getD 10 0) = 1) (hf : ∀ i, i < 8 → rFault b i = []) :
    ∀ k, k ≤ 8 → nmsK c k = nmsK b k ∧ ∀ i, i < k → rFault c i = [] := by
  intro k
  induction k with
  | zero => intro _; exact ⟨by simp only [nmsK], fun i hi => absurd hi (Nat.not_lt_zero i)⟩
  | succ k ih =>
    intro hk
    obtain ⟨ih1, ih2⟩ := ih (by omega)
    have hr := hrow k (by omega)
    have hname : nameAt c k = nameAt b k := by unfold nameAt; rw [hr]
    have key : fineR c k (nmsK b k) = fineR b k (nmsK b k) ∧ rFault c k = [] := by
      rcases rFault_nil.1 (hf k (by omega)) with h0 | h0
      · have h1 : isRoot (rowAt c k) = false := by rw [hr]; exact h0
        have e1 : fineR c k (nmsK b k) = false := by unfold fineR; rw [h1]; rfl
        have e2 : fineR b k (nmsK b k) = false := by unfold fineR; rw [h0]; rfl
        exact ⟨by rw [e1, e2], rFault_nil.2 (.inl h1)⟩
      · have h0' := h0
        unfold fineR at h0'
        rw [Bool.and_eq_true, Bool.and_eq_true, Bool.not_eq_true', Bool.not_eq_true'] at h0'
        have hbad : badR c k = false := by
          obtain ⟨q1, q2, q3, q4, q5⟩ := badR_no.1 h0'.2.1
          refine badR_no.2 ?_
          rw [hr]
          exact ⟨q1, q2, q3, q4, hw k (by omega) q4 h0'.1 q5⟩
        have e1 : fineR c k (nmsK b k) = true := by
          unfold fineR
          rw [hr, hbad, hname, h0'.1, h0'.2.2]; rfl
        exact ⟨by rw [e1, h0], rFault_nil.2 (.inr (by rw [ih1]; exact e1))⟩
    refine ⟨?_, fun i hi => ?_⟩
    · simp only [nmsK]
      rw [ih1, key.1, hname]
    · by_cases e : i = k
      · subst e; exact key.2
      · exact ih2 i (by omega)
/-- What stands behind the head is nobody's fault. -/
theorem head_fine (hlen : c.length = b.length) (hb : 288 ≤ b.length) (hs : ∀ j, j < 288 → c.getD j 0 = b.getD j 0) (hf : faults b = []) : faults c = [] := by
  obtain ⟨f1, f2⟩ := faults_iff.1 hf
  have he := head_ents hlen hb hs
  have hwh := wh_same hlen he
  refine faults_iff.2 ⟨fun h h1 h2 => ?_, fun i hi => ?_⟩
  · rw [hFault_nil, hwh h h1 h2, (he h h1 h2).1, (he h h1 h2).2]
    exact hFault_nil.1 (f1 h h1 h2)
  · refine (roots_keep (head_rows hlen hb hs) (fun j hj hq _ h1 => ?_) f2 8 (by omega)).2 i hi
    have hh := hndB_iff.1 hq
    rw [hwh _ hh.1 hh.2]
    exact h1
theorem head_entsK (hlen : c.length = b.length) (hb : 288 ≤ b.length) (hs : ∀ j, j < 288 → c.getD j 0 = b.getD j 0) : ∀ k, k ≤ 40 → entsK c k = entsK b k := by
  intro k
  induction k with
  | zero => intro _; rfl
  | succ k ih =>
    intro hk
    obtain ⟨e1, e2⟩ := head_ents hlen hb hs ((k : Int) + 1) (by omega) (by omega)
    unfold entsK
    rw [ih (by omega), e1, e2]
theorem head_rootsK (hlen : c.length = b.length) (hb : 288 ≤ b.length) (hs : ∀ j, j < 288 → c.getD j 0 = b.getD j 0) : rootsK c 8 = rootsK b 8 :=
  rootsK_same 8 (fun j hj => head_rows hlen hb hs j hj)
end
end Go.Proofs.YtllpeknpplpgeaaGreatDoor
/-! One object more, one less, and bytes written into one, in an image that is right; as plain lists. (Part of the proofs over package heap.) -/
namespace Go.Proofs.YtllpeknpplpgeaaGreatDoor
open Go.RowKit
set_option linter.unusedVariables false

section
variable {b : List Int}
/-- An image that has no fault: each handle is none, or right and over no other one. -/
structure Fine (b : List Int) : Prop where
  len : 288 ≤ b.length ∧ b.length ≤ 6400
  ok : faults b = []
theorem Fine.len0 (hf : Fine b) : lenB b.length = true := lenB_iff.2 (by have := hf.len; omega)
theorem Fine.hand (hf : Fine b) {h : Int} (h1 : 1 ≤ h) (h2 : h ≤ 40) (ht : tagAt b h ≠ 0) : whE b h = 1 ∧ putE b (entOf b h) = 0 := by
  rcases hFault_nil.1 ((faults_iff.1 hf.ok).1 h h1 h2) with hw | hw
  · exact ⟨hw, (wh_one.1 hw).2.1⟩
  · exact absurd hw.1 ht
theorem Fine.ent (hf : Fine b) {h : Int} (h1 : 1 ≤ h) (h2 : h ≤ 40) (ht : tagAt b h ≠ 0) : 288 ≤ (entOf b h).2.1 ∧ 1 ≤ (entOf b h).2.2.1 ∧ (entOf b h).2.2.1 ≤ 1000 ∧ (entOf b h).2.1 + (entOf b h).2.2.1 ≤ b.length ∧ 0 ≤ (entOf b h).2.2.2 ∧ (entOf b h).2.2.2 ≤ 15 := by
  have := putE_zero.1 (hf.hand h1 h2 ht).2
  obtain ⟨_, _, q1, q2, q3, q4, q5, q6⟩ := this
  exact ⟨q5, q3, q4, q6, q1, q2⟩
theorem okE_of {h : Int} (hw : whE b h = 1) : okE b h = true := by
  obtain ⟨h1, h2, _⟩ := wh_one.1 hw
  unfold okE
  rw [decide_eq_true h1, decide_eq_true h2]
  rfl
theorem lapB_comm (e f : (Int × Int × Int × Int)) : lapB e f = lapB f e := by unfold lapB; rw [Bool.and_comm]
theorem lapB_no {e f : (Int × Int × Int × Int)} : lapB e f = false ↔ f.2.1 + f.2.2.1 ≤ e.2.1 ∨ e.2.1 + e.2.2.1 ≤ f.2.1 := by
  unfold lapB
  rw [Bool.and_eq_false_iff, decide_eq_false_iff_not, decide_eq_false_iff_not]
  omega
/-- No two are over each other. -/
theorem Fine.apart (hf : Fine b) {h k : Int} (h1 : 1 ≤ h) (h2 : h ≤ 40) (k1 : 1 ≤ k) (k2 : k ≤ 40) (hk : h ≠ k) (ht : tagAt b h ≠ 0) (kt : tagAt b k ≠ 0) : lapB (entOf b h) (entOf b k) = false := by
  have key : ∀ {h k : Int}, 1 ≤ h → h ≤ 40 → 1 ≤ k → k < h → tagAt b h ≠ 0 → tagAt b k ≠ 0 → lapB (entOf b h) (entOf b k) = false := by
    intro h k h1 h2 k1 hlt ht kt
    have hw := (hf.hand h1 h2 ht).1
    have kw := (hf.hand k1 (by omega) kt).1
    cases hl : lapB (entOf b h) (entOf b k) with
    | false => rfl
    | true =>
      have hno := (wh_one.1 hw).2.2
      have : lapK b h (h - 1).toNat = true := lapK_iff.2 ⟨(k - 1).toNat, by omega, by
        rw [show (((k - 1).toNat : Nat) : Int) + 1 = k by omega]
        exact ⟨okE_of kw, hl⟩⟩
      rw [hno] at this
      cases this
  rcases Int.lt_or_gt_of_ne hk with h' | h'
  · rw [lapB_comm]
    exact key k1 k2 h1 h' kt ht
  · exact key h1 h2 k1 h' ht kt
/-- In an image: each handle of 1 to 40 that is one is right, and over no other; the others have nothing; the roots as they were. -/
theorem fine_of {c : List Int} (hl : lenB c.length = true) (hh : ∀ h, 1 ≤ h → h ≤ 40 → tagAt c h ≠ 0 → putE c (entOf c h) = 0) (ha : ∀ h k, 1 ≤ h → h ≤ 40 → 1 ≤ k → k < h → tagAt c h ≠ 0 → tagAt c k ≠ 0 → lapB (entOf c h) (entOf c k) = false)
    (hz : ∀ h, 1 ≤ h → h ≤ 40 → tagAt c h = 0 → (entOf c h).2.1 = 0 ∧ (entOf c h).2.2.1 = 0) (hr : (∀ h, 1 ≤ h → h ≤ 40 → tagAt c h ≠ 0 → whE c h = 1) → ∀ i, i < 8 → rFault c i = []) : Fine c := by
  have hw : ∀ h, 1 ≤ h → h ≤ 40 → tagAt c h ≠ 0 → whE c h = 1 := fun h h1 h2 ht => by
    refine wh_one.2 ⟨ht, hh h h1 h2 ht, ?_⟩
    cases hq : lapK c h (h - 1).toNat with
    | false => rfl
    | true =>
      obtain ⟨j, hj, ho, hlp⟩ := lapK_iff.1 hq
      unfold okE at ho
      rw [Bool.and_eq_true, decide_eq_true_iff] at ho
      rw [ha h ((j : Int) + 1) h1 h2 (by omega) (by omega) ht ho.1] at hlp
      cases hlp
  have hlen := lenB_iff.1 hl
  refine ⟨by omega, faults_iff.2 ⟨fun h h1 h2 => hFault_nil.2 ?_, hr hw⟩⟩
  by_cases ht : tagAt c h = 0
  · exact .inr ⟨ht, hz h h1 h2 ht⟩
  · exact .inl (hw h h1 h2 ht)
/-- One more, where there is none, over no other one. -/
theorem put_fine (hf : Fine b) {e : (Int × Int × Int × Int)} (he : putE b e = 0) (h0 : tagAt b e.1 = 0) (hno : ∀ k, 1 ≤ k → k ≤ 40 → tagAt b k ≠ 0 → lapB e (entOf b k) = false) :
    Fine (putL b e) ∧ (∀ k, 1 ≤ k → k ≤ 40 → k ≠ e.1 → tagAt (putL b e) k = tagAt b k ∧ entOf (putL b e) k = entOf b k) ∧ tagAt (putL b e) e.1 ≠ 0 ∧ entOf (putL b e) e.1 = e ∧ (putL b e).length = b.length ∧ (∀ j, 200 ≤ j → (putL b e).getD j 0 = b.getD j 0) := by
  have hb := hf.len
  have hlen := putL_len he
  obtain ⟨_, hh, _⟩ := putE_zero.1 he
  have hh' := hndB_iff.1 hh
  have hp := plc_le hh'.1 hh'.2
  have hr5 : (rowE e).length = 5 := rfl
  have hL : putL b e = splice b (plc e.1) (rowE e) := by unfold putL; rw [if_pos he]
  obtain ⟨hg1, hg2⟩ := putL_get he
  have hself : tagAt (putL b e) e.1 ≠ 0 := (chkE_zero.1 hg1).2.2
  have hother : ∀ k, 1 ≤ k → k ≤ 40 → k ≠ e.1 → tagAt (putL b e) k = tagAt b k ∧ entOf (putL b e) k = entOf b k := fun k k1 k2 hk => by
    rw [hL]
    exact splice_tag hr5 hb.1 hh'.1 hh'.2 k1 k2 hk
  have htail : ∀ j, 200 ≤ j → (putL b e).getD j 0 = b.getD j 0 := fun j hj => by
    rw [hL, splice_out (by rw [hr5]; omega) (by rw [hr5]; omega)]
  have hrow : ∀ i, i < 8 → rowAt (putL b e) i = rowAt b i := fun i hi => by
    apply ext_getD
    · rw [rowAt_len (by omega), rowAt_len (by omega)]
    · intro j hj
      rw [rowAt_len (by omega)] at hj
      rw [rowAt_getD hj, rowAt_getD hj]
      exact htail _ (by omega)
  refine ⟨fine_of (by rw [hlen]; exact hf.len0) (fun h h1 h2 ht => ?_) (fun h k h1 h2 k1 hlt ht kt => ?_) (fun h h1 h2 ht => ?_) (fun hw => ?_), hother, hself, hg2, hlen, htail⟩
  · by_cases hq : h = e.1
    · subst hq
      rw [hg2, putE_same hlen]
      exact he
    · obtain ⟨e1, e2⟩ := hother h h1 h2 hq
      rw [e1] at ht
      rw [e2, putE_same hlen]
      exact (hf.hand h1 h2 ht).2
  · by_cases hq : h = e.1
    · subst hq
      obtain ⟨e1, e2⟩ := hother k k1 (by omega) (by omega)
      rw [e1] at kt
      rw [hg2, e2]
      exact hno k k1 (by omega) kt
    · obtain ⟨e1, e2⟩ := hother h h1 h2 hq
      rw [e1] at ht
      by_cases hq2 : k = e.1
      · subst hq2
        rw [e2, hg2, lapB_comm]
        exact hno h h1 h2 ht
      · obtain ⟨e3, e4⟩ := hother k k1 (by omega) hq2
        rw [e3] at kt
        rw [e2, e4]
        exact hf.apart h1 h2 k1 (by omega) (by omega) ht kt
  · by_cases hq : h = e.1
    · subst hq; exact absurd ht hself
    · obtain ⟨e1, e2⟩ := hother h h1 h2 hq
      rw [e1] at ht
      rw [e2]
      rcases hFault_nil.1 ((faults_iff.1 hf.ok).1 h h1 h2) with hw | hw
      · exact absurd ht (wh_one.1 hw).1
      · exact hw.2
  · refine (roots_keep hrow (fun i hi hq _ hw1 => ?_) (faults_iff.1 hf.ok).2 8 (by omega)).2
    have hx := hndB_iff.1 hq
    have ht := (wh_one.1 hw1).1
    refine hw _ hx.1 hx.2 ?_
    rw [(hother _ hx.1 hx.2 (fun e' => ht (by rw [e']; exact h0))).1]
    exact ht
/-- One less, to which no root leads. -/
theorem drop_fine (hf : Fine b) {h : Int} (he : chkE b h = 0) (hno : ∀ i, i < 8 → isRoot (rowAt b i) = true → (rowAt b i).getD 10 0 ≠ h) :
    Fine (dropL b h) ∧ (∀ k, 1 ≤ k → k ≤ 40 → k ≠ h → tagAt (dropL b h) k = tagAt b k ∧ entOf (dropL b h) k = entOf b k) ∧ tagAt (dropL b h) h = 0 ∧ (dropL b h).length = b.length ∧ (∀ j, 200 ≤ j → (dropL b h).getD j 0 = b.getD j 0) := by
  have hb := hf.len
  obtain ⟨_, hh, _⟩ := chkE_zero.1 he
  have hh' := hndB_iff.1 hh
  have hp := plc_le hh'.1 hh'.2
  have hr5 := length_zerosB 5
  have hL : dropL b h = splice b (plc h) (zerosB 5) := by unfold dropL; rw [if_pos he]
  have hlen : (dropL b h).length = b.length := by rw [hL, length_splice (by rw [hr5]; omega)]
  have hzero : ∀ j, j < 5 → (dropL b h).getD (plc h + j) 0 = 0 := fun j hj => by
    rw [hL, splice_in (by rw [hr5]; omega) (by rw [hr5]; exact hj)]
    exact zeros_at 5 j
  have hself := ent_zero (c := dropL b h) (by omega) hh'.1 hh'.2 hzero
  have hother : ∀ k, 1 ≤ k → k ≤ 40 → k ≠ h → tagAt (dropL b h) k = tagAt b k ∧ entOf (dropL b h) k = entOf b k := fun k k1 k2 hk => by
    rw [hL]
    exact splice_tag hr5 hb.1 hh'.1 hh'.2 k1 k2 hk
  have htail : ∀ j, 200 ≤ j → (dropL b h).getD j 0 = b.getD j 0 := fun j hj => by
    rw [hL, splice_out (by rw [hr5]; omega) (by rw [hr5]; omega)]
  have hrow : ∀ i, i < 8 → rowAt (dropL b h) i = rowAt b i := fun i hi => by
    apply ext_getD
    · rw [rowAt_len (by omega), rowAt_len (by omega)]
    · intro j hj
      rw [rowAt_len (by omega)] at hj
      rw [rowAt_getD hj, rowAt_getD hj]
      exact htail _ (by omega)
  have hne : ∀ k, tagAt (dropL b h) k ≠ 0 → k ≠ h := fun k hk e => by subst e; exact hk hself.1
  refine ⟨fine_of (by rw [hlen]; exact hf.len0) (fun k k1 k2 ht => ?_) (fun k j k1 k2 j1 hlt ht jt => ?_) (fun k k1 k2 ht => ?_) (fun hw => ?_), hother, hself.1, hlen, htail⟩
  · obtain ⟨e1, e2⟩ := hother k k1 k2 (hne k ht)
    rw [e1] at ht
    rw [e2, putE_same hlen]
    exact (hf.hand k1 k2 ht).2
  · obtain ⟨e1, e2⟩ := hother k k1 k2 (hne k ht)
    obtain ⟨e3, e4⟩ := hother j j1 (by omega) (hne j jt)
    rw [e1] at ht
    rw [e3] at jt
    rw [e2, e4]
    exact hf.apart k1 k2 j1 (by omega) (by omega) ht jt
  · by_cases hq : k = h
    · subst hq; exact hself.2
    · obtain ⟨e1, e2⟩ := hother k k1 k2 hq
      rw [e1] at ht
      rw [e2]
      rcases hFault_nil.1 ((faults_iff.1 hf.ok).1 k k1 k2) with hw | hw
      · exact absurd ht (wh_one.1 hw).1
      · exact hw.2
  · refine (roots_keep hrow (fun i hi hq hr hw1 => ?_) (faults_iff.1 hf.ok).2 8 (by omega)).2
    have hx := hndB_iff.1 hq
    refine hw _ hx.1 hx.2 ?_
    rw [(hother _ hx.1 hx.2 (hno i hi hr)).1]
    exact (wh_one.1 hw1).1
/-! ### objects -/
theorem part_same {c : List Int} {x n : Int} (hlen : c.length = b.length) (h : ∀ j : Nat, x.toNat ≤ j → j < x.toNat + n.toNat → c.getD j 0 = b.getD j 0) : partL c x n = partL b x n := by
  unfold partL
  apply ext_getD
  · rw [List.length_take, List.length_take, List.length_drop, List.length_drop, hlen]
  · intro j hj
    rw [List.length_take, List.length_drop] at hj
    have hj2 : j < n.toNat := by omega
    have := h (x.toNat + j) (by omega) (by omega)
    simp only [List.getD, List.getElem?_take, if_pos hj2, List.getElem?_drop] at this ⊢
    exact this
theorem obj_same {c : List Int} {h : Int} (hlen : c.length = b.length) (h1 : tagAt c h = tagAt b h) (h2 : entOf c h = entOf b h) (hp : tagAt b h ≠ 0 → ∀ j : Nat, (entOf b h).2.1.toNat ≤ j → j < (entOf b h).2.1.toNat + (entOf b h).2.2.1.toNat → c.getD j 0 = b.getD j 0) : objOf c h = objOf b h := by
  unfold objOf
  rw [h1]
  by_cases ht : tagAt b h = 0
  · rw [if_pos ht, if_pos ht]
  · rw [if_neg ht, if_neg ht]
    unfold objE
    rw [h2, part_same hlen (hp ht)]
/-- An object that is put where nothing of others is: all else is as it was. -/
theorem put_objs (hf : Fine b) {e : (Int × Int × Int × Int)} (he : putE b e = 0) (h0 : tagAt b e.1 = 0) (hno : ∀ k, 1 ≤ k → k ≤ 40 → tagAt b k ≠ 0 → lapB e (entOf b k) = false) :
    (∀ k, 1 ≤ k → k ≤ 40 → k ≠ e.1 → objOf (putL b e) k = objOf b k) ∧ objOf (putL b e) e.1 = (e.2.2.2, partL b e.2.1 e.2.2.1) := by
  obtain ⟨_, ho, ht, hE, hlen, htail⟩ := put_fine hf he h0 hno
  refine ⟨fun k k1 k2 hk => ?_, ?_⟩
  · obtain ⟨e1, e2⟩ := ho k k1 k2 hk
    refine obj_same hlen e1 e2 (fun hkt j hj _ => htail j ?_)
    have := (hf.ent k1 k2 hkt).1
    omega
  · unfold objOf
    rw [if_neg ht, hE]
    unfold objE
    rw [part_same hlen (fun j hj _ => htail j (by
      obtain ⟨_, _, _, _, _, _, q, _⟩ := putE_zero.1 he
      omega))]
/-- Bytes that are laid behind the head, where nothing of a handle is: its object is as it was. -/
theorem lay_objs (hf : Fine b) {x : Nat} {r : List Int} (hx : 288 ≤ x) (hx2 : x + r.length ≤ b.length) :
    Fine (splice b x r) ∧ (splice b x r).length = b.length ∧ (∀ k, 1 ≤ k → k ≤ 40 → tagAt (splice b x r) k = tagAt b k ∧ entOf (splice b x r) k = entOf b k) ∧
    ∀ k, 1 ≤ k → k ≤ 40 → (tagAt b k ≠ 0 → (entOf b k).2.1 + (entOf b k).2.2.1 ≤ x ∨ (x : Int) + r.length ≤ (entOf b k).2.1) → objOf (splice b x r) k = objOf b k := by
  have hb := hf.len
  have hlen := length_splice hx2
  have hs : ∀ j, j < 288 → (splice b x r).getD j 0 = b.getD j 0 := fun j hj => splice_out hx2 (.inl (by omega))
  have he := head_ents hlen hb.1 hs
  refine ⟨⟨by rw [hlen]; exact hb, head_fine hlen hb.1 hs hf.ok⟩, hlen, he, fun k k1 k2 hap => ?_⟩
  obtain ⟨e1, e2⟩ := he k k1 k2
  refine obj_same hlen e1 e2 (fun hkt j hj1 hj2 => splice_out hx2 ?_)
  have hen := hf.ent k1 k2 hkt
  have := hap hkt
  omega
end
end Go.Proofs.YtllpeknpplpgeaaGreatDoor
/-! Where an object has room, and what it is to have one more; as plain lists. (Part of the proofs over package heap.) -/
namespace Go.Proofs.YtllpeknpplpgeaaGreatDoor
open Go.RowKit
set_option linter.unusedVariables false

section
variable {b : List Int}
theorem mem_entsP {x : (Int × Int × Int × Int)} : ∀ {k : Nat}, x ∈ entsK b k ↔ ∃ j : Nat, j < k ∧ tagAt b ((j : Int) + 1) ≠ 0 ∧ x = entOf b ((j : Int) + 1)
  | 0 => by simp [entsK]
  | k + 1 => by
    unfold entsK
    rw [List.mem_append, mem_entsP]
    by_cases ht : tagAt b ((k : Int) + 1) = 0
    · rw [if_pos ht]
      constructor
      · rintro (⟨j, h1, h2⟩ | h2)
        · exact ⟨j, by omega, h2⟩
        · cases h2
      · rintro ⟨j, h1, h2, h3⟩
        by_cases e : j = k
        · subst e; exact absurd ht h2
        · exact .inl ⟨j, by omega, h2, h3⟩
    · rw [if_neg ht]
      constructor
      · rintro (⟨j, h1, h2⟩ | h2)
        · exact ⟨j, by omega, h2⟩
        · exact ⟨k, by omega, ht, List.mem_singleton.1 h2⟩
      · rintro ⟨j, h1, h2, h3⟩
        by_cases e : j = k
        · subst e; exact .inr (List.mem_singleton.2 h3)
        · exact .inl ⟨j, by omega, h2, h3⟩
/-- What objects take of what is behind the head. -/
def shE (e : (Int × Int × Int × Int)) : Int × Int := (e.2.1 - 288, e.2.2.1)
def takeL (b : List Int) : List (Int × Int) := (entsK b 40).map shE
theorem over_sh (e f : (Int × Int × Int × Int)) : over (shE e) (shE f) = lapB e f := by
  unfold over lapB shE
  dsimp only
  rw [Bool.eq_iff_iff]
  simp only [Bool.and_eq_true, decide_eq_true_eq]
  omega
theorem mem_takeL {x : Int × Int} : x ∈ takeL b ↔ ∃ h : Int, 1 ≤ h ∧ h ≤ 40 ∧ tagAt b h ≠ 0 ∧ x = shE (entOf b h) := by
  unfold takeL
  rw [List.mem_map]
  constructor
  · rintro ⟨e, he, rfl⟩
    obtain ⟨j, h1, h2, rfl⟩ := mem_entsP.1 he
    exact ⟨(j : Int) + 1, by omega, by omega, h2, rfl⟩
  · rintro ⟨h, h1, h2, ht, rfl⟩
    refine ⟨entOf b h, mem_entsP.2 ⟨(h - 1).toNat, by omega, ?_⟩, rfl⟩
    rw [show (((h - 1).toNat : Nat) : Int) + 1 = h by omega]
    exact ⟨ht, rfl⟩
theorem takeL_len (b : List Int) : (takeL b).length ≤ 40 := by unfold takeL; rw [List.length_map]; exact entsK_len b 40
theorem take_good (hf : Fine b) : Good ((b.length : Int) - 288) (takeL b) := by
  refine ⟨fun e he => ?_, ?_⟩
  · obtain ⟨h, h1, h2, ht, rfl⟩ := mem_takeL.1 he
    have := hf.ent h1 h2 ht
    show 0 ≤ (entOf b h).2.1 - 288 ∧ 1 ≤ (entOf b h).2.2.1 ∧ (entOf b h).2.1 - 288 + (entOf b h).2.2.1 ≤ _
    omega
  · unfold takeL
    rw [List.pairwise_map]
    have key : ∀ k : Nat, k ≤ 40 → (entsK b k).Pairwise (fun x y => over (shE x) (shE y) = false) := by
      intro k
      induction k with
      | zero => intro _; exact List.Pairwise.nil
      | succ k ih =>
        intro hk
        unfold entsK
        rw [List.pairwise_append]
        refine ⟨ih (by omega), ?_, ?_⟩
        · split
          · exact List.Pairwise.nil
          · exact List.pairwise_singleton _ _
        · intro x hx y hy
          obtain ⟨j, h1, h2, rfl⟩ := mem_entsP.1 hx
          by_cases ht : tagAt b ((k : Int) + 1) = 0
          · rw [if_pos ht] at hy; cases hy
          · rw [if_neg ht] at hy
            rw [List.mem_singleton.1 hy, over_sh]
            exact hf.apart (by omega) (by omega) (by omega) (by omega) (by omega) h2 ht
    exact key 40 (Nat.le_refl _)
/-- Of bytes that no extent takes some run has them all. -/
theorem run_holds : ∀ {s : List (Int × Int)} {f : Int}, Chain f s → ∀ {p z : Int}, f ≤ p → 1 ≤ z → p + z ≤ endOf f s → (∀ e ∈ s, e.1 + e.2 ≤ p ∨ p + z ≤ e.1) → ∃ x ∈ runsOf f s, x.1 ≤ p ∧ p + z ≤ x.1 + x.2 := by
  intro s
  induction s with
  | nil =>
    intro f _ p z h1 h2 h3 _
    simp only [endOf] at h3
    omega
  | cons e r ih =>
    intro f hc p z h1 h2 h3 h4
    obtain ⟨c1, c2, c3⟩ := hc
    rcases h4 e (by simp) with h | h
    · obtain ⟨x, hx, h5⟩ := ih c3 h h2 h3 (fun e' he' => h4 e' (by simp [he']))
      exact ⟨x, by unfold runsOf; exact List.mem_append.2 (.inr hx), h5⟩
    · refine ⟨(f, e.1 - f), ?_, h1, by show p + z ≤ f + (e.1 - f); omega⟩
      unfold runsOf
      rw [if_pos (by omega)]
      simp
theorem free_holds {n : Int} {l s : List (Int × Int)} (hs : Srt l s) (hg : Good n l) (hn : 0 ≤ n) {p z : Int} (h1 : 0 ≤ p) (h2 : 1 ≤ z) (h3 : p + z ≤ n) (h4 : ∀ e ∈ l, e.1 + e.2 ≤ p ∨ p + z ≤ e.1) : ∃ x ∈ freeOf n s, x.1 ≤ p ∧ p + z ≤ x.1 + x.2 := by
  obtain ⟨c1, c2, _⟩ := hs.chain hg hn
  refine run_holds c1 h1 h2 (by rw [c2]; exact h3) (fun e he => ?_)
  rcases List.mem_append.1 he with he | he
  · exact h4 e (hs.1.mem_iff.1 he)
  · rw [List.mem_singleton.1 he]
    exact .inr h3
/-- Where the shortest run begins that will do, there is room; and there is one, if so many bytes are free anywhere. -/
theorem fit_room {n : Int} {l s : List (Int × Int)} (hs : Srt l s) (hg : Good n l) (hn : 0 ≤ n) {z : Int} (hz : 1 ≤ z) (hf : (fitB z (freeOf n s)).2 ≠ 0) :
    0 ≤ (fitB z (freeOf n s)).1 ∧ (fitB z (freeOf n s)).1 + z ≤ n ∧ ∀ e ∈ l, e.1 + e.2 ≤ (fitB z (freeOf n s)).1 ∨ (fitB z (freeOf n s)).1 + z ≤ e.1 := by
  have hin := hs.freeIn hg hn
  rcases fit_spec hz (fun r hr => (hin r hr).2.1) with ⟨h, _⟩ | ⟨_, h1, h2, _⟩
  · exact absurd h hf
  · obtain ⟨q1, q2, q3, q4⟩ := hin _ h1
    refine ⟨q1, by omega, fun e he => ?_⟩
    have := over_no.1 (q4 e he)
    omega
theorem fit_there {n : Int} {l s : List (Int × Int)} (hs : Srt l s) (hg : Good n l) (hn : 0 ≤ n) {p z : Int} (h1 : 0 ≤ p) (h2 : 1 ≤ z) (h3 : p + z ≤ n) (h4 : ∀ e ∈ l, e.1 + e.2 ≤ p ∨ p + z ≤ e.1) : (fitB z (freeOf n s)).2 ≠ 0 := by
  obtain ⟨x, hx, h5, h6⟩ := free_holds hs hg hn h1 h2 h3 h4
  rcases fit_spec h2 (fun r hr => (hs.freeIn hg hn r hr).2.1) with ⟨_, h⟩ | ⟨h, _⟩
  · have := h x hx; omega
  · omega
/-! ### one more -/
/-- The least handle that is none, less one; 40: there is none. -/
def lowH (b : List Int) : Nat := fstN (fun j => decide (tagAt b ((j : Int) + 1) = 0)) 40
theorem lowH_first (b : List Int) : First (fun j => decide (tagAt b ((j : Int) + 1) = 0)) 40 (lowH b) := first_fstN _ _
/-- An image with one object more: its bytes all 0, its entry. -/
def alL (b : List Int) (h : Int) (x n : Nat) (t : Int) : List Int := putL (splice b x (zerosB n)) (h, (x : Int), (n : Int), t)
theorem alloc_keep (hf : Fine b) {h t : Int} {x n : Nat} (h1 : 1 ≤ h) (h2 : h ≤ 40) (ht0 : tagAt b h = 0) (hn : 1 ≤ n) (hn2 : n ≤ 1000) (hx : 288 ≤ x) (hx2 : x + n ≤ b.length) (t1 : 0 ≤ t) (t2 : t ≤ 15)
    (hno : ∀ k, 1 ≤ k → k ≤ 40 → tagAt b k ≠ 0 → (entOf b k).2.1 + (entOf b k).2.2.1 ≤ x ∨ (x : Int) + n ≤ (entOf b k).2.1) :
    Fine (alL b h x n t) ∧ (alL b h x n t).length = b.length ∧ objOf (alL b h x n t) h = (t, zerosB n) ∧ entOf (alL b h x n t) h = (h, (x : Int), (n : Int), t) ∧ tagAt (alL b h x n t) h ≠ 0 ∧
      (∀ k, 1 ≤ k → k ≤ 40 → k ≠ h → objOf (alL b h x n t) k = objOf b k ∧ tagAt (alL b h x n t) k = tagAt b k ∧ entOf (alL b h x n t) k = entOf b k) := by
  have hz := length_zerosB n
  obtain ⟨hf1, hl1, he1, ho1⟩ := lay_objs hf (r := zerosB n) hx (by rw [hz]; exact hx2)
  have hp : putE (splice b x (zerosB n)) (h, (x : Int), (n : Int), t) = 0 := putE_zero.2 ⟨hf1.len0, hndB_iff.2 ⟨h1, h2⟩, t1, t2, by show 1 ≤ (n : Int); omega, by show (n : Int) ≤ 1000; omega, by show 288 ≤ (x : Int); omega, by rw [hl1]; show (x : Int) + n ≤ _; omega⟩
  have h0 : tagAt (splice b x (zerosB n)) h = 0 := by rw [(he1 h h1 h2).1]; exact ht0
  have hno1 : ∀ k, 1 ≤ k → k ≤ 40 → tagAt (splice b x (zerosB n)) k ≠ 0 → lapB (h, (x : Int), (n : Int), t) (entOf (splice b x (zerosB n)) k) = false := fun k k1 k2 kt => by
    obtain ⟨e1, e2⟩ := he1 k k1 k2
    rw [e1] at kt
    rw [e2]
    exact lapB_no.2 (hno k k1 k2 kt)
  obtain ⟨p1, p2, p3, p4, p5, p6⟩ := put_fine hf1 hp h0 hno1
  obtain ⟨o1, o2⟩ := put_objs hf1 hp h0 hno1
  refine ⟨p1, p5.trans hl1, ?_, p4, p3, fun k k1 k2 hk => ⟨?_, ?_, ?_⟩⟩
  · refine o2.trans ?_
    congr 1
    unfold partL
    dsimp only
    rw [Int.toNat_natCast, Int.toNat_natCast]
    apply ext_getD
    · rw [List.length_take, List.length_drop, hl1, hz]; omega
    · intro j hj
      rw [List.length_take, List.length_drop] at hj
      have hj2 : j < n := by omega
      have := splice_in (z := b) (l := zerosB n) (off := x) (j := j) (by rw [hz]; exact hx2) (by rw [hz]; exact hj2)
      simp only [List.getD, List.getElem?_take, if_pos hj2, List.getElem?_drop] at this ⊢
      exact this
  · exact (o1 k k1 k2 hk).trans (ho1 k k1 k2 (fun kt => by rw [hz]; exact hno k k1 k2 kt))
  · exact (p2 k k1 k2 hk).1.trans (he1 k k1 k2).1
  · exact (p2 k k1 k2 hk).2.trans (he1 k k1 k2).2
/-- The least handle, where it fits: all that Alloc needs. -/
theorem alloc_fit (hf : Fine b) {s : List (Int × Int)} (hs : Srt (takeL b) s) {n : Nat} (hn : 1 ≤ n) (hfit : (fitB n (freeOf ((b.length : Int) - 288) s)).2 ≠ 0) :
    ∃ x : Nat, (x : Int) = 288 + (fitB n (freeOf ((b.length : Int) - 288) s)).1 ∧ 288 ≤ x ∧ x + n ≤ b.length ∧ ∀ k, 1 ≤ k → k ≤ 40 → tagAt b k ≠ 0 → (entOf b k).2.1 + (entOf b k).2.2.1 ≤ x ∨ (x : Int) + n ≤ (entOf b k).2.1 := by
  have hl := hf.len
  obtain ⟨r1, r2, r3⟩ := fit_room hs (take_good hf) (by omega) (z := (n : Int)) (by omega) hfit
  generalize (fitB n (freeOf ((b.length : Int) - 288) s)).1 = y at *
  refine ⟨(288 + y).toNat, by omega, by omega, by omega, fun k k1 k2 kt => ?_⟩
  have := r3 (shE (entOf b k)) (mem_takeL.2 ⟨k, k1, k2, kt, rfl⟩)
  unfold shE at this
  dsimp only at this
  omega
/-! ### bytes written into one -/
theorem write_keep (hf : Fine b) {h : Int} (h1 : 1 ≤ h) (h2 : h ≤ 40) (ht : tagAt b h ≠ 0) {p : Nat} {r : List Int} (hr : (p : Int) + r.length ≤ (entOf b h).2.2.1) :
    Fine (splice b ((entOf b h).2.1.toNat + p) r) ∧ (splice b ((entOf b h).2.1.toNat + p) r).length = b.length ∧ (∀ k, 1 ≤ k → k ≤ 40 → k ≠ h → objOf (splice b ((entOf b h).2.1.toNat + p) r) k = objOf b k) ∧
      (∀ k, 1 ≤ k → k ≤ 40 → tagAt (splice b ((entOf b h).2.1.toNat + p) r) k = tagAt b k ∧ entOf (splice b ((entOf b h).2.1.toNat + p) r) k = entOf b k) ∧ partL (splice b ((entOf b h).2.1.toNat + p) r) ((entOf b h).2.1 + p) r.length = r := by
  have he := hf.ent h1 h2 ht
  have hx2 : (entOf b h).2.1.toNat + p + r.length ≤ b.length := by omega
  obtain ⟨q1, q2, q3, q4⟩ := lay_objs hf (x := (entOf b h).2.1.toNat + p) (r := r) (by omega) hx2
  refine ⟨q1, q2, fun k k1 k2 hk => q4 k k1 k2 (fun kt => ?_), q3, ?_⟩
  · have := lapB_no.1 (hf.apart h1 h2 k1 k2 (fun e => hk e.symm) ht kt)
    omega
  · unfold partL
    rw [show ((entOf b h).2.1 + (p : Int)).toNat = (entOf b h).2.1.toNat + p by omega, Int.toNat_natCast]
    apply ext_getD
    · rw [List.length_take, List.length_drop, q2]; omega
    · intro j hj
      rw [List.length_take, List.length_drop] at hj
      have hj2 : j < r.length := by omega
      have := splice_in (z := b) (l := r) (off := (entOf b h).2.1.toNat + p) (j := j) hx2 hj2
      simp only [List.getD, List.getElem?_take, if_pos hj2, List.getElem?_drop] at this ⊢
      exact this
end
end Go.Proofs.YtllpeknpplpgeaaGreatDoor
/-! What Set, Unset of roots answer, as plain lists. (Part of the proofs over roots.) -/
namespace Go.Proofs.YtllpeknpplpgeaaGreatDoor
open Go.RowKit
set_option linter.unusedVariables false

/-- Is a name at a place? -/
def isAtR (b : List Int) (s : ByteArray) (i : Nat) : Bool := decide ((readOut ((rowAt b i).take 8)).2 = 0) && decide ((readOut ((rowAt b i).take 8)).1 = s)
/-- The place of a name; 8: it is nowhere. -/
def plR (b : List Int) (s : ByteArray) : Nat := fstN (isAtR b s) 8
/-- The first place that has none; 8: there is none. -/
def frR (b : List Int) : Nat := fstN (fun i => !isRoot (rowAt b i)) 8
/-- Where a root of that name is set. -/
def seI (b : List Int) (s : ByteArray) : Nat := if plR b s < 8 then plR b s else frR b
/-- Why it cannot be set. -/
def seE (b : List Int) (s : ByteArray) (h : Int) : Int := if nameB s = false then 2 else if chkE b h ≠ 0 then chkE b h else if seI b s = 8 then 4 else 0
/-- The image behind it. -/
def seB (b : List Int) (s : ByteArray) (h : Int) : List Int := prL b (seI b s) (s, h)
/-- Is it new? -/
def seN (b : List Int) (s : ByteArray) : Bool := decide (plR b s = 8)
def unE (b : List Int) (s : ByteArray) : Int := if nameB s = false then 2 else if plR b s = 8 then 5 else 0
def unB (b : List Int) (s : ByteArray) : List Int := splice b (200 + 11 * plR b s) (zerosB 11)
theorem plR_first (b : List Int) (s : ByteArray) : First (isAtR b s) 8 (plR b s) := first_fstN _ _
theorem frR_first (b : List Int) : First (fun i => !isRoot (rowAt b i)) 8 (frR b) := first_fstN _ _
theorem plR_le (b : List Int) (s : ByteArray) : plR b s ≤ 8 := (plR_first b s).1
theorem frR_le (b : List Int) : frR b ≤ 8 := (frR_first b).1
theorem seI_le (b : List Int) (s : ByteArray) : seI b s ≤ 8 := by
  unfold seI
  split
  · exact plR_le b s
  · exact frR_le b
/-- The root that is set is one that may be put. -/
theorem se_put {b : List Int} (hf : Fine b) {s : ByteArray} {h : Int} (h0 : seE b s h = 0) : prE b (seI b s) (s, h) = 0 ∧ seI b s < 8 ∧ nameB s = true ∧ chkE b h = 0 := by
  unfold seE at h0
  cases hn : nameB s with
  | false => rw [hn, if_pos rfl] at h0; exact absurd h0 (by decide)
  | true =>
    rw [hn, if_neg (by simp)] at h0
    by_cases hc : chkE b h = 0
    · rw [if_neg (fun h => h hc)] at h0
      by_cases hi : seI b s = 8
      · rw [if_pos hi] at h0; exact absurd h0 (by decide)
      · have hle := seI_le b s
        obtain ⟨q1, q2, q3⟩ := chkE_zero.1 hc
        have hh := hndB_iff.1 q2
        refine ⟨prE_zero.2 ⟨hf.len0, by omega, by omega, ?_⟩, by omega, rfl, hc⟩
        unfold rowRE
        have hnr : ¬ noRoot (s, h) = true := fun hx => by have := (noRoot_iff.1 hx).2; dsimp only at this; omega
        rw [if_neg hnr, if_neg (by rw [q2]; simp), if_pos hn]
    · rw [if_pos hc] at h0; exact absurd h0 hc
end Go.Proofs.YtllpeknpplpgeaaGreatDoor
/-! What Free answers, as plain lists. (Part of the proofs over package heap.) -/
namespace Go.Proofs.YtllpeknpplpgeaaGreatDoor
open Go.RowKit
set_option linter.unusedVariables false

/-- Why an object is not freed. -/
def frE (L : List Int) (h : Int) : Int := if chkE L h ≠ 0 then chkE L h else if (rootsK L 8).any (fun r => r.2 == h) = true then 7 else 0
/-- The image behind a Free. -/
def frB (L : List Int) (h : Int) : List Int := if frE L h = 0 then dropL L h else L
theorem frE_zero {L : List Int} {h : Int} : frE L h = 0 ↔ chkE L h = 0 ∧ (rootsK L 8).any (fun r => r.2 == h) = false := by
  unfold frE
  by_cases h0 : chkE L h = 0
  · rw [if_neg (fun h => h h0)]
    cases h1 : (rootsK L 8).any (fun r => r.2 == h) with
    | true => rw [if_pos rfl]; exact ⟨fun h => absurd h (by decide), fun h => by cases h.2⟩
    | false => rw [if_neg (by simp)]; exact ⟨fun _ => ⟨h0, rfl⟩, fun _ => rfl⟩
  · rw [if_pos h0]
    exact ⟨fun h => absurd h h0, fun h => absurd h.1 h0⟩
theorem mem_rootsK8 {b : List Int} : ∀ {k i : Nat}, i < k → isRoot (rowAt b i) = true → rootOf (rowAt b i) ∈ rootsK b k
  | 0, i, h, _ => absurd h (Nat.not_lt_zero i)
  | k + 1, i, h, hr => by
    unfold rootsK
    by_cases e : i = k
    · subst e
      rw [if_pos hr]
      simp
    · exact List.mem_append.2 (.inl (mem_rootsK8 (by omega) hr))
theorem drop_ok {L : List Int} (hf : Fine L) {h : Int} (h0 : frE L h = 0) : Fine (dropL L h) := by
  obtain ⟨h1, h2⟩ := frE_zero.1 h0
  refine (drop_fine hf h1 (fun i hi hr e => ?_)).1
  have hm := mem_rootsK8 hi hr
  have := List.any_eq_false.1 h2 _ hm
  apply this
  rw [beq_iff_eq]
  exact e
theorem byt_drop {L : List Int} (hb : Byt L) (h : Int) : Byt (dropL L h) := by
  unfold dropL
  split
  · exact byt_splice hb (byt_zerosB 5)
  · exact fun z hz => (by cases hz)
end Go.Proofs.YtllpeknpplpgeaaGreatDoor
/-! Roots row by row: what an image that is right says of them; one row turned; as plain lists. (Part of the proofs over roots.) -/
namespace Go.Proofs.YtllpeknpplpgeaaGreatDoor
open Go.RowKit
set_option linter.unusedVariables false

section
variable {b c : List Int}
theorem nmsK_mem {x : ByteArray} : ∀ {k : Nat}, x ∈ nmsK b k → ∃ i, i < k ∧ isRoot (rowAt b i) = true ∧ nameAt b i = x
  | 0, h => by cases h
  | k + 1, h => by
    have h' : x ∈ nmsK b k ++ if fineR b k (nmsK b k) = true then [nameAt b k] else [] := h
    rcases List.mem_append.1 h' with h1 | h1
    · obtain ⟨i, hi, hr⟩ := nmsK_mem h1
      exact ⟨i, by omega, hr⟩
    · by_cases hf : fineR b k (nmsK b k) = true
      · rw [if_pos hf] at h1
        have hf' := hf
        unfold fineR at hf'
        rw [Bool.and_eq_true] at hf'
        exact ⟨k, by omega, hf'.1, (List.mem_singleton.1 h1).symm⟩
      · rw [if_neg hf] at h1; cases h1
theorem nmsK_all (hf : ∀ i, i < 8 → rFault b i = []) {i k : Nat} (hi : i < k) (hk : k ≤ 8) (hr : isRoot (rowAt b i) = true) : nameAt b i ∈ nmsK b k := by
  induction k with
  | zero => omega
  | succ k ih =>
    show nameAt b i ∈ nmsK b k ++ if fineR b k (nmsK b k) = true then [nameAt b k] else []
    by_cases e : i = k
    · subst e
      rcases rFault_nil.1 (hf i (by omega)) with h0 | h0
      · rw [h0] at hr; cases hr
      · rw [if_pos h0]; simp
    · exact List.mem_append.2 (.inl (ih (by omega) (by omega)))
/-- The roots have no fault: each row that is one is right, and no two have one name. -/
theorem rFault_iff : (∀ i, i < 8 → rFault b i = []) ↔ (∀ i, i < 8 → isRoot (rowAt b i) = true → badR b i = false) ∧ ∀ i j, i < j → j < 8 → isRoot (rowAt b i) = true → isRoot (rowAt b j) = true → nameAt b i ≠ nameAt b j := by
  haveI := ba_lawful
  constructor
  · intro hf
    have hfine : ∀ i, i < 8 → isRoot (rowAt b i) = true → badR b i = false ∧ (nmsK b i).contains (nameAt b i) = false := fun i hi hr => by
      rcases rFault_nil.1 (hf i hi) with h0 | h0
      · rw [h0] at hr; cases hr
      · unfold fineR at h0
        rw [Bool.and_eq_true, Bool.and_eq_true, Bool.not_eq_true', Bool.not_eq_true'] at h0
        exact h0.2
    refine ⟨fun i hi hr => (hfine i hi hr).1, fun i j hij hj hi hr e => ?_⟩
    have h1 := (hfine j hj hr).2
    rw [← e, List.contains_iff_mem.2 (nmsK_all hf hij (by omega) hi)] at h1
    cases h1
  · rintro ⟨h1, h2⟩ i hi
    refine rFault_nil.2 ?_
    cases hr : isRoot (rowAt b i) with
    | false => exact .inl rfl
    | true =>
      refine .inr ?_
      unfold fineR
      rw [hr, h1 i hi hr]
      cases hc : (nmsK b i).contains (nameAt b i) with
      | false => rfl
      | true =>
        obtain ⟨j, hj, hjr, e⟩ := nmsK_mem (List.contains_iff_mem.1 hc)
        exact absurd e (h2 j i hj hi hjr hr)
theorem mem_rootsK_iff {r : (ByteArray × Int)} : ∀ {k : Nat}, r ∈ rootsK b k ↔ ∃ i, i < k ∧ isRoot (rowAt b i) = true ∧ rootOf (rowAt b i) = r
  | 0 => by simp [rootsK]
  | k + 1 => by
    constructor
    · intro h
      have h' : r ∈ rootsK b k ++ if isRoot (rowAt b k) = true then [rootOf (rowAt b k)] else [] := h
      rcases List.mem_append.1 h' with h1 | h1
      · obtain ⟨i, hi, hr⟩ := mem_rootsK_iff.1 h1
        exact ⟨i, by omega, hr⟩
      · by_cases hr : isRoot (rowAt b k) = true
        · rw [if_pos hr] at h1
          exact ⟨k, by omega, hr, (List.mem_singleton.1 h1).symm⟩
        · rw [if_neg hr] at h1; cases h1
    · rintro ⟨i, hi, hr, rfl⟩
      exact mem_rootsK8 hi hr
theorem row_zeros {l : List Int} (h : isRoot l = false) (hl : l.length = 11) : l = zerosB 11 := by
  apply List.ext_getElem
  · rw [hl, length_zerosB]
  · intro i h1 h2
    have := List.any_eq_false.1 h l[i] (List.getElem_mem h1)
    have e : l[i] = 0 := by simpa using this
    rw [e]
    exact (List.getElem_replicate ..).symm
theorem readOut_zeros : (readOut ((zerosB 11).take 8)).2 = 2 := by decide
/-- A name is at a place just where there is a root of that name. -/
theorem isAtR_iff (hf : Fine b) {s : ByteArray} {i : Nat} (hi : i < 8) : isAtR b s i = true ↔ isRoot (rowAt b i) = true ∧ nameAt b i = s := by
  have hl := hf.len
  unfold isAtR
  rw [Bool.and_eq_true, decide_eq_true_iff, decide_eq_true_iff]
  constructor
  · rintro ⟨h1, h2⟩
    cases hr : isRoot (rowAt b i) with
    | true => exact ⟨rfl, h2⟩
    | false =>
      rw [row_zeros hr (rowAt_len (by omega)), readOut_zeros] at h1
      cases h1
  · rintro ⟨h1, h2⟩
    have := (rFault_iff.1 (faults_iff.1 hf.ok).2).1 i hi h1
    exact ⟨(badR_no.1 this).1, h2⟩
/-- Where a name leads: the handle of its row. -/
theorem lead_row (hf : Fine b) {s : ByteArray} {i : Nat} (hi : i < 8) (hr : isRoot (rowAt b i) = true) (hn : nameAt b i = s) : leadOf (rootsK b 8) s = (rowAt b i).getD 10 0 := by
  have hap := apart_roots hf.ok
  have hm : (s, (rowAt b i).getD 10 0) ∈ rootsK b 8 := mem_rootsK_iff.2 ⟨i, hi, hr, by unfold rootOf; rw [← hn]; rfl⟩
  exact (lead_mem hap (hap.pos _ hm).1).2 hm
theorem lead_none {s : ByteArray} (hn : ∀ i, i < 8 → isRoot (rowAt b i) = true → nameAt b i ≠ s) : leadOf (rootsK b 8) s = 0 := by
  unfold leadOf
  have : (rootsK b 8).find? (fun r => r.1 == s) = none := List.find?_eq_none.2 (fun r hr => by
    obtain ⟨i, hi, hq, rfl⟩ := mem_rootsK_iff.1 hr
    intro h
    exact hn i hi hq (ba_beq.1 h))
  rw [this]
  rfl
theorem lead_pl (hf : Fine b) (s : ByteArray) : leadOf (rootsK b 8) s = if plR b s < 8 then (rowAt b (plR b s)).getD 10 0 else 0 := by
  have hp := plR_first b s
  by_cases h : plR b s < 8
  · rw [if_pos h]
    obtain ⟨h1, h2⟩ := (isAtR_iff hf h).1 (hp.2.2 h)
    exact lead_row hf h h1 h2
  · rw [if_neg h]
    refine lead_none (fun i hi hr e => ?_)
    have := hp.2.1 i (by omega)
    rw [(isAtR_iff hf hi).2 ⟨hr, e⟩] at this
    cases this
/-- A root leads to an object. -/
theorem lead_obj (hf : Fine b) {i : Nat} (hi : i < 8) (hr : isRoot (rowAt b i) = true) : 1 ≤ (rowAt b i).getD 10 0 ∧ (rowAt b i).getD 10 0 ≤ 40 ∧ tagAt b ((rowAt b i).getD 10 0) ≠ 0 := by
  obtain ⟨_, _, _, h4, h5⟩ := badR_no.1 ((rFault_iff.1 (faults_iff.1 hf.ok).2).1 i hi hr)
  have := hndB_iff.1 h4
  exact ⟨this.1, this.2, (wh_one.1 h5).1⟩
theorem lead_zero (hf : Fine b) (s : ByteArray) : leadOf (rootsK b 8) s = 0 ↔ plR b s = 8 := by
  have hp := plR_first b s
  have hle := plR_le b s
  rw [lead_pl hf]
  constructor
  · intro h
    by_cases h8 : plR b s < 8
    · rw [if_pos h8] at h
      have := lead_obj hf h8 ((isAtR_iff hf h8).1 (hp.2.2 h8)).1
      omega
    · omega
  · intro h
    rw [if_neg (by omega)]
/-- How many roots there are. -/
def cntR (b : List Int) : Nat → Nat
  | 0 => 0
  | k + 1 => cntR b k + if isRoot (rowAt b k) = true then 1 else 0
theorem rootsK_count : ∀ k, (rootsK b k).length = cntR b k
  | 0 => rfl
  | k + 1 => by
    show (rootsK b k ++ _).length = cntR b k + _
    rw [List.length_append, rootsK_count k]
    split <;> rfl
theorem cntR_same : ∀ k, (∀ j, j < k → isRoot (rowAt c j) = isRoot (rowAt b j)) → cntR c k = cntR b k
  | 0, _ => rfl
  | k + 1, h => by
    unfold cntR
    rw [cntR_same k (fun j hj => h j (by omega)), h k (by omega)]
theorem cntR_one {i : Nat} : ∀ k, i < k → (∀ j, j < k → j ≠ i → isRoot (rowAt c j) = isRoot (rowAt b j)) → isRoot (rowAt c i) = true → isRoot (rowAt b i) = false → cntR c k = cntR b k + 1
  | 0, h, _, _, _ => absurd h (Nat.not_lt_zero _)
  | k + 1, h, hs, h1, h2 => by
    unfold cntR
    by_cases e : i = k
    · subst e
      rw [cntR_same i (fun j hj => hs j (by omega) (by omega)), h1, h2]
      simp
    · rw [cntR_one k (by omega) (fun j hj hne => hs j (by omega) hne) h1 h2, hs k (by omega) (fun h => e h.symm)]
      omega

/-! ### one row turned -/
/-- All but the row of one root is as it was. -/
structure Row1 (b c : List Int) (i : Nat) (r : List Int) : Prop where
  lt : i < 8
  len : c.length = b.length
  here : rowAt c i = r
  else_ : ∀ j, j < 8 → j ≠ i → rowAt c j = rowAt b j
  ents : ∀ h, 1 ≤ h → h ≤ 40 → tagAt c h = tagAt b h ∧ entOf c h = entOf b h
  tail : ∀ j, 288 ≤ j → c.getD j 0 = b.getD j 0
theorem row1_splice (hl : 288 ≤ b.length) {i : Nat} (hi : i < 8) {r : List Int} (hr : r.length = 11) : Row1 b (splice b (200 + 11 * i) r) i r := by
  have hfit : 200 + 11 * i + r.length ≤ b.length := by omega
  have hlen := length_splice hfit
  refine ⟨hi, hlen, rowAt_in hr (by omega), fun j hj hne => rowAt_out hfit (by omega) (by omega), fun h h1 h2 => ?_, fun j hj => splice_out hfit (by omega)⟩
  have hp := plc_le h1 h2
  exact entOf_same hlen hl h1 h2 (fun j hj => splice_out hfit (by omega))
theorem Row1.hands {i : Nat} {r : List Int} (t : Row1 b c i r) (hf : Fine b) : (∀ h, 1 ≤ h → h ≤ 40 → hFault c h = []) ∧ ∀ h, 1 ≤ h → h ≤ 40 → whE c h = whE b h := by
  have hw := wh_same t.len t.ents
  refine ⟨fun h h1 h2 => ?_, hw⟩
  obtain ⟨e1, e2⟩ := t.ents h h1 h2
  have := hFault_nil.1 ((faults_iff.1 hf.ok).1 h h1 h2)
  exact hFault_nil.2 (by rw [hw h h1 h2, e1, e2]; exact this)
/-- The row of no root in place of what was there: nothing is wrong. -/
theorem Row1.fine_none {i : Nat} (t : Row1 b c i (zerosB 11)) (hf : Fine b) : Fine c := by
  obtain ⟨h1, hw⟩ := t.hands hf
  obtain ⟨r1, r2⟩ := rFault_iff.1 (faults_iff.1 hf.ok).2
  have hroot : ∀ j, j < 8 → isRoot (rowAt c j) = true → j ≠ i ∧ isRoot (rowAt b j) = true := fun j hj hr => by
    by_cases e : j = i
    · subst e; rw [t.here, isRoot_zeros] at hr; cases hr
    · rw [t.else_ j hj e] at hr; exact ⟨e, hr⟩
  refine ⟨by rw [t.len]; exact hf.len, faults_iff.2 ⟨h1, rFault_iff.2 ⟨fun j hj hr => ?_, fun j k hjk hk hj hr => ?_⟩⟩⟩
  · obtain ⟨hne, hb⟩ := hroot j hj hr
    obtain ⟨q1, q2, q3, q4, q5⟩ := badR_no.1 (r1 j hj hb)
    have hx := hndB_iff.1 q4
    refine badR_no.2 ?_
    rw [t.else_ j hj hne]
    exact ⟨q1, q2, q3, q4, by rw [hw _ hx.1 hx.2]; exact q5⟩
  · obtain ⟨n1, b1⟩ := hroot j (by omega) hj
    obtain ⟨n2, b2⟩ := hroot k hk hr
    have := r2 j k hjk hk b1 b2
    unfold nameAt at this ⊢
    rw [t.else_ j (by omega) n1, t.else_ k hk n2]
    exact this
/-- The row of a right root, whose name no other has. -/
theorem Row1.fine_root {i : Nat} {s : ByteArray} {h : Int} (t : Row1 b c i (rowR (s, h))) (hf : Fine b) (hn : nameB s = true) (hc : chkE b h = 0) (hno : ∀ j, j < 8 → j ≠ i → isRoot (rowAt b j) = true → nameAt b j ≠ s) :
    Fine c ∧ isRoot (rowAt c i) = true ∧ nameAt c i = s ∧ (rowAt c i).getD 10 0 = h := by
  obtain ⟨h1, hw⟩ := t.hands hf
  obtain ⟨r1, r2⟩ := rFault_iff.1 (faults_iff.1 hf.ok).2
  obtain ⟨q1, q2, q3⟩ := chkE_zero.1 hc
  have hh := hndB_iff.1 q2
  have hnr : ¬ noRoot (s, h) = true := fun hx => by have := (noRoot_iff.1 hx).2; dsimp only at this; omega
  have hre : rowRE (s, h) = 0 := by unfold rowRE; rw [if_neg hnr, if_neg (by rw [q2]; simp), if_pos hn]
  obtain ⟨g1, g2⟩ := rootOf_rowR hre hnr
  have hi := t.here
  have e1 : nameAt c i = s := by unfold nameAt; rw [hi]; exact congrArg Prod.fst g2
  have e2 : (rowAt c i).getD 10 0 = h := by rw [hi]; exact congrArg Prod.snd g2
  have hok := nameB_iff.1 hn
  have hrow : rowR (s, h) = nameL s ++ [0, 0, h % 256] := by unfold rowR; rw [if_neg hnr]
  have hl8 := length_nameL s hok.2.1
  have hread : (readOut ((rowR (s, h)).take 8)).2 = 0 := by
    rw [hrow, List.take_append_of_le_length (by omega), List.take_of_length_le (by omega)]
    have f1 : lettersN (nameL s) = s.size := (first_fstN _ _).unique (nameL_first s hok)
    have f2 : zerosN (nameL s) s.size = 8 - s.size := (first_fstN _ _).unique (nameL_zeros s hok.2.1)
    unfold readOut
    rw [if_neg (fun h => h hl8), f1, f2, hl8, if_neg (by have := hok.1; omega)]
  have hbad : badR c i = false := by
    refine badR_no.2 ?_
    rw [e2, hi]
    refine ⟨hread, ?_, ?_, q2, ?_⟩
    · rw [hrow, List.getD, List.getElem?_append_right (by omega), hl8]; rfl
    · rw [hrow, List.getD, List.getElem?_append_right (by omega), hl8]; rfl
    · rw [hw h hh.1 hh.2]
      exact (hf.hand hh.1 hh.2 q3).1
  refine ⟨⟨by rw [t.len]; exact hf.len, faults_iff.2 ⟨h1, rFault_iff.2 ⟨fun j hj hr => ?_, fun j k hjk hk hj hr => ?_⟩⟩⟩, by rw [hi]; exact g1, e1, e2⟩
  · by_cases e : j = i
    · subst e; exact hbad
    · have hb : isRoot (rowAt b j) = true := by rw [← t.else_ j hj e]; exact hr
      obtain ⟨p1, p2, p3, p4, p5⟩ := badR_no.1 (r1 j hj hb)
      have hx := hndB_iff.1 p4
      refine badR_no.2 ?_
      rw [t.else_ j hj e]
      exact ⟨p1, p2, p3, p4, by rw [hw _ hx.1 hx.2]; exact p5⟩
  · have key : ∀ j, j < 8 → j ≠ i → isRoot (rowAt c j) = true → isRoot (rowAt b j) = true ∧ nameAt c j = nameAt b j := fun j hj e hr => by
      have he := t.else_ j hj e
      exact ⟨by rw [← he]; exact hr, by unfold nameAt; rw [he]⟩
    by_cases ej : j = i
    · subst ej
      obtain ⟨k1, k2⟩ := key k hk (by omega) hr
      rw [e1, k2]
      exact fun e => hno k hk (by omega) k1 e.symm
    · obtain ⟨j1, j2⟩ := key j (by omega) ej hj
      by_cases ek : k = i
      · subst ek
        rw [e1, j2]
        exact hno j (by omega) ej j1
      · obtain ⟨k1, k2⟩ := key k hk ek hr
        rw [j2, k2]
        exact r2 j k hjk hk j1 k1
/-- Objects are as they were. -/
theorem Row1.objs {i : Nat} {r : List Int} (t : Row1 b c i r) (hf : Fine b) (h : Int) (h1 : 1 ≤ h) (h2 : h ≤ 40) : objOf c h = objOf b h ∧ chkE c h = chkE b h ∧ getE c h = getE b h := by
  obtain ⟨e1, e2⟩ := t.ents h h1 h2
  refine ⟨obj_same t.len e1 e2 (fun ht j hj _ => t.tail j ?_), ?_, ?_⟩
  · have := (hf.ent h1 h2 ht).1
    omega
  · unfold chkE; rw [t.len, e1]
  · unfold getE chkE; rw [t.len, e1, e2]
end
end Go.Proofs.YtllpeknpplpgeaaGreatDoor
/-! What Set and Unset of roots make of an image that is right: where names lead, how many roots there are; as plain lists. (Part of the proofs over roots.) -/
namespace Go.Proofs.YtllpeknpplpgeaaGreatDoor
open Go.RowKit
set_option linter.unusedVariables false

section
variable {b c : List Int} {s : ByteArray} {h : Int}
/-- The name of a root that is there, at its place alone. -/
theorem pl_only (hf : Fine b) {i : Nat} (hi : i < 8) (hr : isRoot (rowAt b i) = true) (hn : nameAt b i = s) : plR b s = i := by
  have hp := plR_first b s
  have h1 := (isAtR_iff hf hi).2 ⟨hr, hn⟩
  have hle : plR b s ≤ i := Nat.le_of_not_lt fun hlt => by
    have := hp.2.1 i hlt
    rw [h1] at this
    cases this
  refine Classical.byContradiction fun hne => ?_
  obtain ⟨g1, g2⟩ := (isAtR_iff hf (show plR b s < 8 by omega)).1 (hp.2.2 (by omega))
  exact (rFault_iff.1 (faults_iff.1 hf.ok).2).2 _ i (by omega) hi g1 hr (by rw [g2, hn])
theorem pl_none (hf : Fine b) (hn : ∀ i, i < 8 → isRoot (rowAt b i) = true → nameAt b i ≠ s) : plR b s = 8 := by
  have hp := plR_first b s
  have hle := plR_le b s
  refine Classical.byContradiction fun hne => ?_
  obtain ⟨g1, g2⟩ := (isAtR_iff hf (show plR b s < 8 by omega)).1 (hp.2.2 (by omega))
  exact hn _ (by omega) g1 g2
theorem pl_no (hf : Fine b) (h8 : plR b s = 8) : ∀ i, i < 8 → isRoot (rowAt b i) = true → nameAt b i ≠ s := fun i hi hr e => by
  have := pl_only hf hi hr e
  omega
theorem se_row (hf : Fine b) (h0 : seE b s h = 0) : Row1 b (seB b s h) (seI b s) (rowR (s, h)) := by
  obtain ⟨h1, h2, h3, h4⟩ := se_put hf h0
  obtain ⟨_, _, _, q4⟩ := prE_zero.1 h1
  have e : seB b s h = splice b (200 + 11 * seI b s) (rowR (s, h)) := by unfold seB prL; rw [if_pos h1, Int.toNat_natCast]
  rw [e]
  exact row1_splice hf.len.1 h2 (rowR_len q4)
/-- No other root has the name that is set. -/
theorem se_no (hf : Fine b) (h0 : seE b s h = 0) : ∀ j, j < 8 → j ≠ seI b s → isRoot (rowAt b j) = true → nameAt b j ≠ s := fun j hj hne hr e => by
  have hp := pl_only hf hj hr e
  apply hne
  unfold seI
  rw [hp, if_pos hj]
theorem se_fine (hf : Fine b) (h0 : seE b s h = 0) : Fine (seB b s h) ∧ isRoot (rowAt (seB b s h) (seI b s)) = true ∧ nameAt (seB b s h) (seI b s) = s ∧ (rowAt (seB b s h) (seI b s)).getD 10 0 = h := by
  obtain ⟨_, _, h3, h4⟩ := se_put hf h0
  exact (se_row hf h0).fine_root hf h3 h4 (se_no hf h0)
theorem se_lead (hf : Fine b) (h0 : seE b s h = 0) : leadOf (rootsK (seB b s h) 8) s = h := by
  obtain ⟨f, r, n, g⟩ := se_fine hf h0
  rw [lead_row f (se_put hf h0).2.1 r n, g]
theorem seI_cases (b : List Int) (s : ByteArray) : (plR b s < 8 ∧ seI b s = plR b s ∧ seN b s = false) ∨ (plR b s = 8 ∧ seI b s = frR b ∧ seN b s = true) := by
  have := plR_le b s
  unfold seI seN
  by_cases h : plR b s < 8
  · exact .inl ⟨h, if_pos h, decide_eq_false (by omega)⟩
  · exact .inr ⟨by omega, if_neg h, decide_eq_true (by omega)⟩
/-- The row that is turned had a root of that name, or none. -/
theorem se_was (hf : Fine b) (h0 : seE b s h = 0) : (seN b s = false ∧ isRoot (rowAt b (seI b s)) = true ∧ nameAt b (seI b s) = s) ∨ (seN b s = true ∧ isRoot (rowAt b (seI b s)) = false) := by
  have hlt := (se_put hf h0).2.1
  rcases seI_cases b s with ⟨h1, h2, h3⟩ | ⟨h1, h2, h3⟩
  · have := (isAtR_iff hf h1).1 ((plR_first b s).2.2 h1)
    rw [h2]
    exact .inl ⟨h3, this⟩
  · have := (frR_first b).2.2 (by omega)
    rw [h2]
    exact .inr ⟨h3, by simpa using this⟩
theorem se_other (hf : Fine b) (h0 : seE b s h = 0) {t : ByteArray} (ht : t ≠ s) : leadOf (rootsK (seB b s h) 8) t = leadOf (rootsK b 8) t := by
  obtain ⟨f, r, n, g⟩ := se_fine hf h0
  have hrow := se_row hf h0
  have hwas := se_was hf h0
  by_cases hx : ∃ j, j < 8 ∧ isRoot (rowAt b j) = true ∧ nameAt b j = t
  · obtain ⟨j, hj, hjr, hjn⟩ := hx
    have hne : j ≠ seI b s := fun e => by
      subst e
      rcases hwas with ⟨_, _, h2⟩ | ⟨_, h2⟩
      · exact ht (by rw [← hjn, h2])
      · rw [hjr] at h2; cases h2
    have he := hrow.else_ j hj hne
    rw [lead_row hf hj hjr hjn, lead_row f hj (by rw [he]; exact hjr) (by unfold nameAt; rw [he]; exact hjn), he]
  · rw [lead_none (b := b) (fun j hj hr e => hx ⟨j, hj, hr, e⟩), lead_none (fun j hj hr e => ?_)]
    by_cases e2 : j = seI b s
    · subst e2; exact ht (by rw [← e, n])
    · have he := hrow.else_ j hj e2
      exact hx ⟨j, hj, by rw [← he]; exact hr, by unfold nameAt at e ⊢; rw [← he]; exact e⟩
theorem se_count (hf : Fine b) (h0 : seE b s h = 0) : (rootsK (seB b s h) 8).length = (rootsK b 8).length + if seN b s = true then 1 else 0 := by
  obtain ⟨f, r, n, g⟩ := se_fine hf h0
  have hrow := se_row hf h0
  rw [rootsK_count, rootsK_count]
  have hoth : ∀ j, j < 8 → j ≠ seI b s → isRoot (rowAt (seB b s h) j) = isRoot (rowAt b j) := fun j hj hne => by rw [hrow.else_ j hj hne]
  rcases se_was hf h0 with ⟨h1, h2, _⟩ | ⟨h1, h2⟩
  · rw [h1, if_neg (by simp), Nat.add_zero]
    refine cntR_same 8 (fun j hj => ?_)
    by_cases e : j = seI b s
    · subst e; rw [r, h2]
    · exact hoth j hj e
  · rw [h1, if_pos rfl]
    exact cntR_one 8 hrow.lt hoth r h2
theorem se_byt (hb : Byt b) (s : ByteArray) (h : Int) : Byt (seB b s h) := by
  unfold seB prL
  split
  · exact byt_splice hb (byt_rowR _)
  · exact fun z hz => (by cases hz)
/-- To what a root leads is not freed. -/
theorem se_held (hf : Fine b) (h0 : seE b s h = 0) : frE (seB b s h) h = 7 := by
  obtain ⟨f, r, n, g⟩ := se_fine hf h0
  have hrow := se_row hf h0
  obtain ⟨_, hlt, _, hc⟩ := se_put hf h0
  have hh := hndB_iff.1 (chkE_zero.1 hc).2.1
  have hc2 : chkE (seB b s h) h = 0 := by rw [(hrow.objs hf h hh.1 hh.2).2.1]; exact hc
  unfold frE
  rw [if_neg (fun h => h hc2), if_pos]
  refine List.any_eq_true.2 ⟨rootOf (rowAt (seB b s h) (seI b s)), mem_rootsK8 hlt r, ?_⟩
  rw [beq_iff_eq]
  exact g

/-! ### Unset -/
theorem un_zero (h0 : unE b s = 0) : nameB s = true ∧ plR b s < 8 := by
  unfold unE at h0
  have := plR_le b s
  cases hn : nameB s with
  | false => rw [hn, if_pos rfl] at h0; exact absurd h0 (by decide)
  | true =>
    rw [hn, if_neg (by simp)] at h0
    by_cases h8 : plR b s = 8
    · rw [if_pos h8] at h0; exact absurd h0 (by decide)
    · exact ⟨rfl, by omega⟩
theorem un_row (hf : Fine b) (h0 : unE b s = 0) : Row1 b (unB b s) (plR b s) (zerosB 11) := row1_splice hf.len.1 (un_zero h0).2 (length_zerosB 11)
theorem un_fine (hf : Fine b) (h0 : unE b s = 0) : Fine (unB b s) := (un_row hf h0).fine_none hf
theorem un_gone (hf : Fine b) (h0 : unE b s = 0) : plR (unB b s) s = 8 ∧ leadOf (rootsK (unB b s) 8) s = 0 ∧ unE (unB b s) s = 5 := by
  have hrow := un_row hf h0
  have f := un_fine hf h0
  obtain ⟨hn, hlt⟩ := un_zero h0
  have hp : plR (unB b s) s = 8 := pl_none f (fun j hj hr e => by
    by_cases e2 : j = plR b s
    · subst e2; rw [hrow.here, isRoot_zeros] at hr; cases hr
    · have he := hrow.else_ j hj e2
      have := pl_only hf hj (by rw [← he]; exact hr) (show nameAt b j = s by unfold nameAt at e ⊢; rw [← he]; exact e)
      exact e2 this.symm)
  refine ⟨hp, (lead_zero f s).2 hp, ?_⟩
  unfold unE
  rw [hn, if_neg (by simp), if_pos hp]
theorem un_other (hf : Fine b) (h0 : unE b s = 0) {t : ByteArray} (ht : t ≠ s) : leadOf (rootsK (unB b s) 8) t = leadOf (rootsK b 8) t := by
  have hrow := un_row hf h0
  have f := un_fine hf h0
  have hpl := (isAtR_iff hf (un_zero h0).2).1 ((plR_first b s).2.2 (un_zero h0).2)
  by_cases hx : ∃ j, j < 8 ∧ isRoot (rowAt b j) = true ∧ nameAt b j = t
  · obtain ⟨j, hj, hjr, hjn⟩ := hx
    have hne : j ≠ plR b s := fun e => by subst e; exact ht (by rw [← hjn, hpl.2])
    have he := hrow.else_ j hj hne
    rw [lead_row hf hj hjr hjn, lead_row f hj (by rw [he]; exact hjr) (by unfold nameAt; rw [he]; exact hjn), he]
  · rw [lead_none (b := b) (fun j hj hr e => hx ⟨j, hj, hr, e⟩), lead_none (fun j hj hr e => ?_)]
    by_cases e2 : j = plR b s
    · subst e2; rw [hrow.here, isRoot_zeros] at hr; cases hr
    · have he := hrow.else_ j hj e2
      exact hx ⟨j, hj, by rw [← he]; exact hr, by unfold nameAt at e ⊢; rw [← he]; exact e⟩
theorem un_count (hf : Fine b) (h0 : unE b s = 0) : (rootsK (unB b s) 8).length + 1 = (rootsK b 8).length := by
  have hrow := un_row hf h0
  have hpl := (isAtR_iff hf (un_zero h0).2).1 ((plR_first b s).2.2 (un_zero h0).2)
  rw [rootsK_count, rootsK_count]
  exact (cntR_one (b := unB b s) (c := b) 8 hrow.lt (fun j hj hne => by rw [hrow.else_ j hj hne]) hpl.1 (by rw [hrow.here]; exact isRoot_zeros)).symm
theorem un_byt (hb : Byt b) (s : ByteArray) : Byt (unB b s) := byt_splice hb (byt_zerosB 11)

/-! ### place by place, till it is full -/
/-- The first i places have roots of the names f, that lead to a; the others none. -/
structure RFs (b : List Int) (f : Nat → ByteArray) (a : Int) (i : Nat) : Prop where
  fine : Fine b
  here : ∀ j, j < i → isRoot (rowAt b j) = true ∧ nameAt b j = f j ∧ (rowAt b j).getD 10 0 = a
  none_ : ∀ j, i ≤ j → j < 8 → isRoot (rowAt b j) = false
theorem RFs.start {f : Nat → ByteArray} {a : Int} (hf : Fine b) (hr : rootsK b 8 = []) : RFs b f a 0 :=
  ⟨hf, fun j hj => absurd hj (Nat.not_lt_zero j), fun j _ hj => by
    cases hq : isRoot (rowAt b j) with
    | false => rfl
    | true => have := mem_rootsK8 hj hq; rw [hr] at this; cases this⟩
theorem RFs.next {f : Nat → ByteArray} {a : Int} {i : Nat} (r : RFs b f a i) (hi : i < 8) (hn : nameB (f i) = true) (hc : chkE b a = 0) (hinj : ∀ j, j < i → f j ≠ f i) :
    seE b (f i) a = 0 ∧ seN b (f i) = true ∧ RFs (seB b (f i) a) f a (i + 1) ∧ ∀ h, 1 ≤ h → h ≤ 40 → chkE (seB b (f i) a) h = chkE b h ∧ getE (seB b (f i) a) h = getE b h := by
  have hpl : plR b (f i) = 8 := pl_none r.fine (fun j hj hr e => by
    by_cases hji : j < i
    · exact hinj j hji (by rw [← (r.here j hji).2.1, e])
    · rw [r.none_ j (by omega) hj] at hr; cases hr)
  have hfr : frR b = i := (frR_first b).unique ⟨by omega, fun j hj => by simp [(r.here j hj).1], fun _ => by simp [r.none_ i (Nat.le_refl _) hi]⟩
  have hI : seI b (f i) = i := by unfold seI; rw [hpl, if_neg (by omega), hfr]
  have h0 : seE b (f i) a = 0 := by
    unfold seE
    rw [hn, if_neg (by simp), if_neg (fun h => h hc), hI, if_neg (by omega)]
  obtain ⟨g1, g2, g3, g4⟩ := se_fine r.fine h0
  have hrow := se_row r.fine h0
  rw [hI] at g2 g3 g4 hrow
  refine ⟨h0, by unfold seN; rw [hpl]; rfl, ⟨g1, fun j hj => ?_, fun j hj hj8 => ?_⟩, fun h h1 h2 => (hrow.objs r.fine h h1 h2).2⟩
  · by_cases e : j = i
    · subst e; exact ⟨g2, g3, g4⟩
    · have he := hrow.else_ j (by omega) e
      unfold nameAt
      rw [he]
      exact r.here j (by omega)
  · rw [hrow.else_ j hj8 (by omega)]
    exact r.none_ j (by omega) hj8
theorem RFs.full {f : Nat → ByteArray} {a : Int} (r : RFs b f a 8) {s : ByteArray} {h : Int} (hn : nameB s = true) (hc : chkE b h = 0) (hs : ∀ j, j < 8 → f j ≠ s) : seE b s h = 4 := by
  have hpl : plR b s = 8 := pl_none r.fine (fun j hj hr e => hs j hj (by rw [← (r.here j hj).2.1, e]))
  have hfr : frR b = 8 := (frR_first b).unique ⟨Nat.le_refl _, fun j hj => by simp [(r.here j hj).1], fun h => absurd h (Nat.lt_irrefl _)⟩
  have hI : seI b s = 8 := by unfold seI; rw [hpl, if_neg (by omega), hfr]
  unfold seE
  rw [hn, if_neg (by simp), if_neg (fun h => h hc), if_pos hI]
theorem rootsK_full : ∀ {k : Nat}, (∀ j, j < k → isRoot (rowAt b j) = true) → rootsK b k = (List.range k).map fun j => rootOf (rowAt b j)
  | 0, _ => rfl
  | k + 1, h => by
    show rootsK b k ++ _ = _
    rw [h k (by omega), if_pos rfl, rootsK_full (fun j hj => h j (by omega)), List.range_succ, List.map_append]
    rfl
theorem RFs.count {f : Nat → ByteArray} {a : Int} (r : RFs b f a 8) : (rootsK b 8).length = 8 := by
  rw [rootsK_full (fun j hj => (r.here j hj).1)]
  simp
/-- One that is there already may lead elsewhere. -/
theorem RFs.again {f : Nat → ByteArray} {a : Int} (r : RFs b f a 8) {k : Nat} (hk : k < 8) {h : Int} (hn : nameB (f k) = true) (hc : chkE b h = 0) :
    seE b (f k) h = 0 ∧ seN b (f k) = false ∧ leadOf (rootsK (seB b (f k) h) 8) (f k) = h ∧ (rootsK (seB b (f k) h) 8).length = 8 ∧ (rootsK (seB b (f k) h) 8)[k]? = some (f k, h) := by
  have hpl : plR b (f k) = k := pl_only r.fine hk (r.here k hk).1 (r.here k hk).2.1
  have hI : seI b (f k) = k := by unfold seI; rw [hpl, if_pos hk]
  have h0 : seE b (f k) h = 0 := by
    unfold seE
    rw [hn, if_neg (by simp), if_neg (fun h => h hc), hI, if_neg (by omega)]
  obtain ⟨g1, g2, g3, g4⟩ := se_fine r.fine h0
  have hrow := se_row r.fine h0
  rw [hI] at g2 g3 g4 hrow
  have hall : ∀ j, j < 8 → isRoot (rowAt (seB b (f k) h) j) = true := fun j hj => by
    by_cases e : j = k
    · subst e; exact g2
    · rw [hrow.else_ j hj e]; exact (r.here j hj).1
  have hN : seN b (f k) = false := by unfold seN; rw [hpl]; exact decide_eq_false (by omega)
  refine ⟨h0, hN, se_lead r.fine h0, ?_, ?_⟩
  · rw [rootsK_full hall]; simp
  · rw [rootsK_full hall]
    have hro : rootOf (rowAt (seB b (f k) h) k) = (f k, h) := Prod.ext g3 g4
    rw [List.getElem?_map, List.getElem?_range hk, Option.map_some, hro]
end
end Go.Proofs.YtllpeknpplpgeaaGreatDoor
/-! An object that is moved to where nothing of others is: all objects and roots are as they were; as plain lists. (Part of the proofs over moving.) -/
namespace Go.Proofs.YtllpeknpplpgeaaGreatDoor
open Go.RowKit
set_option linter.unusedVariables false

section
variable {b : List Int}
/-- An entry in place of one that is there, over no other one. -/
theorem put_over (hf : Fine b) {e : (Int × Int × Int × Int)} (he : putE b e = 0) (hno : ∀ k, 1 ≤ k → k ≤ 40 → k ≠ e.1 → tagAt b k ≠ 0 → lapB e (entOf b k) = false) :
    Fine (putL b e) ∧ (∀ k, 1 ≤ k → k ≤ 40 → k ≠ e.1 → tagAt (putL b e) k = tagAt b k ∧ entOf (putL b e) k = entOf b k) ∧ tagAt (putL b e) e.1 ≠ 0 ∧ entOf (putL b e) e.1 = e ∧ (putL b e).length = b.length ∧ (∀ j, 200 ≤ j → (putL b e).getD j 0 = b.getD j 0) := by
  have hb := hf.len
  have hlen := putL_len he
  obtain ⟨_, hh, _⟩ := putE_zero.1 he
  have hh' := hndB_iff.1 hh
  have hp := plc_le hh'.1 hh'.2
  have hr5 : (rowE e).length = 5 := rfl
  have hL : putL b e = splice b (plc e.1) (rowE e) := by unfold putL; rw [if_pos he]
  obtain ⟨hg1, hg2⟩ := putL_get he
  have hself : tagAt (putL b e) e.1 ≠ 0 := (chkE_zero.1 hg1).2.2
  have hother : ∀ k, 1 ≤ k → k ≤ 40 → k ≠ e.1 → tagAt (putL b e) k = tagAt b k ∧ entOf (putL b e) k = entOf b k := fun k k1 k2 hk => by
    rw [hL]
    exact splice_tag hr5 hb.1 hh'.1 hh'.2 k1 k2 hk
  have htail : ∀ j, 200 ≤ j → (putL b e).getD j 0 = b.getD j 0 := fun j hj => by
    rw [hL, splice_out (by rw [hr5]; omega) (by rw [hr5]; omega)]
  have hrow : ∀ i, i < 8 → rowAt (putL b e) i = rowAt b i := fun i hi => by
    apply ext_getD
    · rw [rowAt_len (by omega), rowAt_len (by omega)]
    · intro j hj
      rw [rowAt_len (by omega)] at hj
      rw [rowAt_getD hj, rowAt_getD hj]
      exact htail _ (by omega)
  refine ⟨fine_of (by rw [hlen]; exact hf.len0) (fun h h1 h2 ht => ?_) (fun h k h1 h2 k1 hlt ht kt => ?_) (fun h h1 h2 ht => ?_) (fun hw => ?_), hother, hself, hg2, hlen, htail⟩
  · by_cases hq : h = e.1
    · subst hq
      rw [hg2, putE_same hlen]
      exact he
    · obtain ⟨e1, e2⟩ := hother h h1 h2 hq
      rw [e1] at ht
      rw [e2, putE_same hlen]
      exact (hf.hand h1 h2 ht).2
  · by_cases hq : h = e.1
    · subst hq
      obtain ⟨e1, e2⟩ := hother k k1 (by omega) (by omega)
      rw [e1] at kt
      rw [hg2, e2]
      exact hno k k1 (by omega) (by omega) kt
    · obtain ⟨e1, e2⟩ := hother h h1 h2 hq
      rw [e1] at ht
      by_cases hq2 : k = e.1
      · subst hq2
        rw [e2, hg2, lapB_comm]
        exact hno h h1 h2 hq ht
      · obtain ⟨e3, e4⟩ := hother k k1 (by omega) hq2
        rw [e3] at kt
        rw [e2, e4]
        exact hf.apart h1 h2 k1 (by omega) (by omega) ht kt
  · by_cases hq : h = e.1
    · subst hq; exact absurd ht hself
    · obtain ⟨e1, e2⟩ := hother h h1 h2 hq
      rw [e1] at ht
      rw [e2]
      rcases hFault_nil.1 ((faults_iff.1 hf.ok).1 h h1 h2) with hw | hw
      · exact absurd ht (wh_one.1 hw).1
      · exact hw.2
  · refine (roots_keep hrow (fun i hi hq _ hw1 => ?_) (faults_iff.1 hf.ok).2 8 (by omega)).2
    have hx := hndB_iff.1 hq
    have ht := (wh_one.1 hw1).1
    refine hw _ hx.1 hx.2 ?_
    by_cases hq2 : (rowAt b i).getD 10 0 = e.1
    · rw [hq2]; exact hself
    · rw [(hother _ hx.1 hx.2 hq2).1]
      exact ht
/-- The image behind the moving of an object to a place. -/
def mvB (b : List Int) (h : Int) (at' : Nat) : List Int := splice (putL b (h, (at' : Int), (entOf b h).2.2.1, (entOf b h).2.2.2)) at' (objOf b h).2
structure Mvd (b c : List Int) (h : Int) (at' : Nat) : Prop where
  fine : Fine c
  len : c.length = b.length
  ent : entOf c h = (h, (at' : Int), (entOf b h).2.2.1, (entOf b h).2.2.2)
  tag : tagAt c h ≠ 0
  other : ∀ k, 1 ≤ k → k ≤ 40 → k ≠ h → tagAt c k = tagAt b k ∧ entOf c k = entOf b k
  objs : ∀ k, 1 ≤ k → k ≤ 40 → objOf c k = objOf b k
  roots : rootsK c 8 = rootsK b 8
theorem ent_handle {h : Int} : (entOf b h).1 = h := rfl
theorem moved (hf : Fine b) {h : Int} (h1 : 1 ≤ h) (h2 : h ≤ 40) (ht : tagAt b h ≠ 0) {at' : Nat} (ha : 288 ≤ at') (hle : (at' : Int) ≤ (entOf b h).2.1)
    (hno : ∀ k, 1 ≤ k → k ≤ 40 → k ≠ h → tagAt b k ≠ 0 → (entOf b k).2.1 + (entOf b k).2.2.1 ≤ at' ∨ (at' : Int) + (entOf b h).2.2.1 ≤ (entOf b k).2.1) : Mvd b (mvB b h at') h at' := by
  have hen := hf.ent h1 h2 ht
  have he : putE b (h, (at' : Int), (entOf b h).2.2.1, (entOf b h).2.2.2) = 0 := putE_zero.2 ⟨hf.len0, hndB_iff.2 ⟨h1, h2⟩, hen.2.2.2.2.1, hen.2.2.2.2.2, hen.2.1, hen.2.2.1, by dsimp only; omega, by dsimp only; omega⟩
  obtain ⟨pf, po, pt, pe, pl, ptl⟩ := put_over hf he (fun k k1 k2 hk hkt => by
    rw [lapB_no]
    exact hno k k1 k2 hk hkt)
  dsimp only at po pt pe
  have hob : (objOf b h).2 = partL b (entOf b h).2.1 (entOf b h).2.2.1 := by
    unfold objOf objE
    rw [if_neg ht]
  have hol : (objOf b h).2.length = (entOf b h).2.2.1.toNat := by
    rw [hob]
    unfold partL
    rw [List.length_take, List.length_drop]
    omega
  have hfit : at' + (objOf b h).2.length ≤ (putL b (h, (at' : Int), (entOf b h).2.2.1, (entOf b h).2.2.2)).length := by rw [pl, hol]; omega
  obtain ⟨lf, ll, le, lo⟩ := lay_objs pf ha hfit
  have hrows : ∀ i, i < 8 → rowAt (mvB b h at') i = rowAt b i := fun i hi => by
    have hl := hf.len
    have hl2 : (mvB b h at').length = b.length := ll.trans pl
    apply ext_getD
    · rw [rowAt_len (by omega), rowAt_len (by omega)]
    · intro j hj
      rw [rowAt_len (by omega)] at hj
      rw [rowAt_getD hj, rowAt_getD hj]
      unfold mvB
      rw [splice_out hfit (.inl (by omega))]
      exact ptl _ (by omega)
  refine ⟨lf, ll.trans pl, (le h h1 h2).2.trans pe, by unfold mvB; rw [(le h h1 h2).1]; exact pt, fun k k1 k2 hk => ?_, fun k k1 k2 => ?_, rootsK_same 8 hrows⟩
  · exact ⟨(le k k1 k2).1.trans (po k k1 k2 hk).1, (le k k1 k2).2.trans (po k k1 k2 hk).2⟩
  · by_cases hk : k = h
    · subst hk
      have e1 : tagAt (mvB b k at') k ≠ 0 := by unfold mvB; rw [(le k h1 h2).1]; exact pt
      have e2 : entOf (mvB b k at') k = (k, (at' : Int), (entOf b k).2.2.1, (entOf b k).2.2.2) := (le k h1 h2).2.trans pe
      have e3 : objOf (mvB b k at') k = ((entOf b k).2.2.2, partL (mvB b k at') (at' : Int) (entOf b k).2.2.1) := by
        unfold objOf objE
        rw [if_neg e1, e2]
      have e4 : objOf b k = ((entOf b k).2.2.2, (objOf b k).2) := by
        unfold objOf objE
        rw [if_neg ht]
      rw [e3, e4]
      congr 1
      unfold partL mvB
      apply ext_getD
      · rw [List.length_take, List.length_drop, length_splice hfit, pl, hol]
        omega
      · intro j hj
        rw [List.length_take, List.length_drop, length_splice hfit, pl] at hj
        rw [Int.toNat_natCast]
        have hjl : j < (objOf b k).2.length := by omega
        have e5 := splice_in hfit hjl
        simp only [List.getD, List.getElem?_take, if_pos (show j < (entOf b k).2.2.1.toNat by omega), List.getElem?_drop] at e5 ⊢
        exact e5
    · have e1 := lo k k1 k2 (fun hkt => by
        rw [(po k k1 k2 hk).1] at hkt
        rw [(po k k1 k2 hk).2, hol]
        have := hno k k1 k2 hk hkt
        have hl1 := hen.2.1
        omega)
      rw [show objOf (mvB b h at') k = objOf (putL b (h, (at' : Int), (entOf b h).2.2.1, (entOf b h).2.2.2)) k from e1]
      refine obj_same pl (po k k1 k2 hk).1 (po k k1 k2 hk).2 (fun hkt j hj _ => ptl j ?_)
      have := (hf.ent k1 k2 hkt).1
      omega
theorem mv_byt (hb : Byt b) (h : Int) (at' : Nat) : Byt (mvB b h at') := by
  unfold mvB
  refine byt_splice ?_ ?_
  · unfold putL
    split
    · exact byt_splice hb (byt_rowE _)
    · exact fun z hz => (by cases hz)
  · unfold objOf objE partL
    split
    · exact fun z hz => (by cases hz)
    · exact fun z hz => hb z (List.mem_of_mem_drop (List.mem_of_mem_take hz))
end
end Go.Proofs.YtllpeknpplpgeaaGreatDoor
/-! Objects by where they stand; the first that moves, step by step, till all stand together; as plain lists. (Part of the proofs over moving.) -/
namespace Go.Proofs.YtllpeknpplpgeaaGreatDoor
open Go.RowKit
set_option linter.unusedVariables false

def byAt (x y : (Int × Int × Int × Int)) : Bool := decide (x.2.1 ≤ y.2.1)
/-- The entries, by where they stand. -/
def srtE (L : List Int) : List (Int × Int × Int × Int) := (entsK L 40).mergeSort byAt
/-- One stands wholly ahead of another. -/
def Ahead (x y : (Int × Int × Int × Int)) : Prop := x.2.1 + x.2.2.1 ≤ y.2.1
theorem byAt_trans : ∀ a b c : (Int × Int × Int × Int), byAt a b = true → byAt b c = true → byAt a c = true := fun a b c h1 h2 => by
  unfold byAt at *
  rw [decide_eq_true_iff] at *
  omega
theorem byAt_total : ∀ a b : (Int × Int × Int × Int), (byAt a b || byAt b a) = true := fun a b => by
  unfold byAt
  rw [Bool.or_eq_true, decide_eq_true_iff, decide_eq_true_iff]
  omega
section
variable {L : List Int}
theorem ents_nodup : ∀ k : Nat, ((entsK L k).map (·.1)).Pairwise (· < ·) ∧ ∀ x ∈ entsK L k, 1 ≤ x.1 ∧ x.1 ≤ k
  | 0 => ⟨List.Pairwise.nil, fun x hx => by cases hx⟩
  | k + 1 => by
    obtain ⟨h1, h2⟩ := ents_nodup k
    show ((entsK L k ++ _).map (·.1)).Pairwise (· < ·) ∧ ∀ x ∈ entsK L k ++ _, _
    by_cases ht : tagAt L ((k : Int) + 1) = 0
    · rw [if_pos ht, List.append_nil]
      exact ⟨h1, fun x hx => by have := h2 x hx; omega⟩
    · rw [if_neg ht]
      refine ⟨?_, fun x hx => ?_⟩
      · rw [List.map_append]
        refine List.pairwise_append.2 ⟨h1, by simp, fun a ha b hb => ?_⟩
        obtain ⟨x, hx, rfl⟩ := List.mem_map.1 ha
        have := h2 x hx
        have hb' : b = (k : Int) + 1 := by simpa [ent_handle] using hb
        omega
      · rcases List.mem_append.1 hx with hx | hx
        · have := h2 x hx; omega
        · rw [List.mem_singleton.1 hx]
          show 1 ≤ (k : Int) + 1 ∧ (k : Int) + 1 ≤ ((k + 1 : Nat) : Int)
          omega
theorem ent_in (hf : Fine L) {x : (Int × Int × Int × Int)} (hx : x ∈ entsK L 40) : x = entOf L x.1 ∧ 1 ≤ x.1 ∧ x.1 ≤ 40 ∧ tagAt L x.1 ≠ 0 ∧ 288 ≤ x.2.1 ∧ 1 ≤ x.2.2.1 ∧ x.2.2.1 ≤ 1000 ∧ x.2.1 + x.2.2.1 ≤ L.length := by
  obtain ⟨j, hj, ht, rfl⟩ := mem_entsP.1 hx
  have e := hf.ent (h := (j : Int) + 1) (by omega) (by omega) ht
  have hh : (entOf L ((j : Int) + 1)).1 = (j : Int) + 1 := rfl
  rw [hh]
  exact ⟨rfl, by omega, by omega, ht, e.1, e.2.1, e.2.2.1, e.2.2.2.1⟩
theorem ent_mem {h : Int} (h1 : 1 ≤ h) (h2 : h ≤ 40) (ht : tagAt L h ≠ 0) : entOf L h ∈ entsK L 40 := by
  refine mem_entsP.2 ⟨(h - 1).toNat, by omega, ?_, ?_⟩
  · rw [show (((h - 1).toNat : Nat) : Int) + 1 = h by omega]; exact ht
  · rw [show (((h - 1).toNat : Nat) : Int) + 1 = h by omega]
theorem srtE_perm : (srtE L).Perm (entsK L 40) := List.mergeSort_perm _ _
theorem srtE_mem {x : (Int × Int × Int × Int)} : x ∈ srtE L ↔ x ∈ entsK L 40 := srtE_perm.mem_iff
theorem ents_apart (hf : Fine L) {x y : (Int × Int × Int × Int)} (hx : x ∈ entsK L 40) (hy : y ∈ entsK L 40) (hne : x.1 ≠ y.1) : Ahead x y ∨ Ahead y x := by
  obtain ⟨ex, x1, x2, xt, _⟩ := ent_in hf hx
  obtain ⟨ey, y1, y2, yt, _⟩ := ent_in hf hy
  have := lapB_no.1 (hf.apart x1 x2 y1 y2 hne xt yt)
  rw [← ex, ← ey] at this
  unfold Ahead
  omega
theorem ents_one {x y : (Int × Int × Int × Int)} (hx : x ∈ entsK L 40) (hy : y ∈ entsK L 40) (h : x.1 = y.1) : x = y := by
  obtain ⟨i, _, _, rfl⟩ := mem_entsP.1 hx
  obtain ⟨j, _, _, rfl⟩ := mem_entsP.1 hy
  have h' : (i : Int) + 1 = (j : Int) + 1 := h
  rw [h']
theorem srtE_nodup : ((srtE L).map (·.1)).Nodup := by
  have h1 := (ents_nodup (L := L) 40).1
  have h2 := (srtE_perm (L := L)).map (fun x => x.1)
  generalize entsK L 40 = l at h1 h2
  exact h2.nodup_iff.2 (h1.imp (fun h e => by omega))
/-- No two over each other, in this order. -/
theorem srtE_ahead (hf : Fine L) : (srtE L).Pairwise Ahead := by
  have h1 : (srtE L).Pairwise (fun x y => byAt x y = true) := List.pairwise_mergeSort byAt_trans byAt_total _
  have h2 : (srtE L).Pairwise (fun x y => x.1 ≠ y.1) := List.pairwise_map.1 srtE_nodup
  refine (h1.and h2).imp_of_mem (fun {x y} hx hy h => ?_)
  have hx' := srtE_mem.1 hx
  have hy' := srtE_mem.1 hy
  rcases ents_apart hf hx' hy' h.2 with ha | ha
  · exact ha
  · have h3 := h.1
    unfold byAt at h3
    rw [decide_eq_true_iff] at h3
    have := (ent_in hf hy').2.2.2.2.2.1
    unfold Ahead at ha ⊢
    omega
end
/-! ### the first that moves -/
/-- The first of a list ahead of which a byte is free, and where it moves. -/
def mvOn (a : Int) : List (Int × Int × Int × Int) → Option ((Int × Int × Int × Int) × Int)
  | [] => none
  | e :: r => if a < e.2.1 then some (e, a) else mvOn (a + e.2.2.1) r
def sumE : List (Int × Int × Int × Int) → Int
  | [] => 0
  | e :: r => e.2.2.1 + sumE r
/-- All stand together, from a place on. -/
def Packed (a : Int) : List (Int × Int × Int × Int) → Prop
  | [] => True
  | e :: r => e.2.1 = a ∧ Packed (a + e.2.2.1) r
/-- How many move. -/
def mvN (a : Int) : List (Int × Int × Int × Int) → Nat
  | [] => 0
  | e :: r => (if a < e.2.1 then 1 else 0) + mvN (a + e.2.2.1) r
theorem mvOn_none : ∀ {l : List (Int × Int × Int × Int)} {a : Int}, l.Pairwise Ahead → (∀ x ∈ l, a ≤ x.2.1) → mvOn a l = none → Packed a l ∧ mvN a l = 0
  | [], a, _, _, _ => ⟨trivial, rfl⟩
  | e :: r, a, hp, ha, h => by
    unfold mvOn at h
    by_cases hlt : a < e.2.1
    · rw [if_pos hlt] at h; cases h
    · rw [if_neg hlt] at h
      have he := ha e (by simp)
      rw [List.pairwise_cons] at hp
      obtain ⟨h1, h2⟩ := mvOn_none hp.2 (fun x hx => by have := hp.1 x hx; unfold Ahead at this; omega) h
      refine ⟨⟨by omega, h1⟩, ?_⟩
      unfold mvN
      rw [if_neg hlt, h2]
theorem mvOn_some : ∀ {l : List (Int × Int × Int × Int)} {a : Int} {e : (Int × Int × Int × Int)} {p : Int}, l.Pairwise Ahead → (∀ x ∈ l, a ≤ x.2.1) → (∀ x ∈ l, 1 ≤ x.2.2.1) → mvOn a l = some (e, p) →
    ∃ l1 l2, l = l1 ++ e :: l2 ∧ a ≤ p ∧ p < e.2.1 ∧ (∀ x ∈ l1, x.2.1 + x.2.2.1 ≤ p) ∧ mvN a l = mvN a (l1 ++ (e.1, p, e.2.2.1, e.2.2.2) :: l2) + 1
  | [], a, e, p, _, _, _, h => by cases h
  | x :: r, a, e, p, hp, ha, hl, h => by
    unfold mvOn at h
    by_cases hlt : a < x.2.1
    · rw [if_pos hlt] at h
      obtain ⟨rfl, rfl⟩ : x = e ∧ a = p := by simpa using h
      refine ⟨[], r, rfl, Int.le_refl _, hlt, fun y hy => (by cases hy), ?_⟩
      simp only [List.nil_append, mvN]
      rw [if_pos hlt, if_neg (by omega)]
      omega
    · rw [if_neg hlt] at h
      have hx := ha x (by simp)
      have hlx := hl x (by simp)
      rw [List.pairwise_cons] at hp
      obtain ⟨l1, l2, rfl, q1, q2, q3, q4⟩ := mvOn_some hp.2 (fun y hy => by have := hp.1 y hy; unfold Ahead at this; omega) (fun y hy => hl y (by simp [hy])) h
      refine ⟨x :: l1, l2, rfl, by omega, q2, fun y hy => ?_, ?_⟩
      · rcases List.mem_cons.1 hy with rfl | hy
        · omega
        · exact q3 y hy
      · simp only [List.cons_append, mvN]
        rw [if_neg hlt, q4]
        omega
/-! ### one step -/
/-- The image behind one step; none: there is none such. -/
def mvS (L : List Int) : Option (List Int) := (mvOn 288 (srtE L)).map fun x => mvB L x.1.1 x.2.toNat
section
variable {L : List Int}
theorem srtE_from (hf : Fine L) : (∀ x ∈ srtE L, 288 ≤ x.2.1) ∧ ∀ x ∈ srtE L, 1 ≤ x.2.2.1 :=
  ⟨fun x hx => (ent_in hf (srtE_mem.1 hx)).2.2.2.2.1, fun x hx => (ent_in hf (srtE_mem.1 hx)).2.2.2.2.2.1⟩
theorem step_moved (hf : Fine L) {e : (Int × Int × Int × Int)} {p : Int} (h : mvOn 288 (srtE L) = some (e, p)) : Mvd L (mvB L e.1 p.toNat) e.1 p.toNat ∧ 288 ≤ p ∧ p < e.2.1 ∧ e ∈ entsK L 40 := by
  obtain ⟨f1, f2⟩ := srtE_from hf
  obtain ⟨l1, l2, hl, q1, q2, q3, _⟩ := mvOn_some (srtE_ahead hf) f1 f2 h
  have he : e ∈ entsK L 40 := srtE_mem.1 (by rw [hl]; simp)
  obtain ⟨ee, e1, e2, et, _⟩ := ent_in hf he
  have ea : (entOf L e.1).2.1 = e.2.1 := by rw [← ee]
  have el : (entOf L e.1).2.2.1 = e.2.2.1 := by rw [← ee]
  refine ⟨moved hf e1 e2 et (by omega) (by rw [ea]; omega) (fun k k1 k2 hk hkt => ?_), q1, q2, he⟩
  rw [el]
  have hk' := ent_mem k1 k2 hkt
  have hkm : entOf L k ∈ l1 ++ e :: l2 := by rw [← hl]; exact srtE_mem.2 hk'
  have hsa := srtE_ahead hf
  rw [hl, List.pairwise_append, List.pairwise_cons] at hsa
  rcases List.mem_append.1 hkm with hm | hm
  · have := q3 _ hm
    left
    omega
  · rcases List.mem_cons.1 hm with hm | hm
    · exact absurd (congrArg Prod.fst hm) hk
    · have := hsa.2.1.1 _ hm
      unfold Ahead at this
      right
      omega
/-- The entries behind a move: one of them is turned. -/
theorem Mvd.ents {c : List Int} {h : Int} {p : Nat} (m : Mvd L c h p) (ht : tagAt L h ≠ 0) : ∀ k : Nat, k ≤ 40 → entsK c k = (entsK L k).map fun x => if x.1 = h then (h, (p : Int), (entOf L h).2.2.1, (entOf L h).2.2.2) else x
  | 0, _ => rfl
  | k + 1, hk => by
    show entsK c k ++ _ = (entsK L k ++ _).map _
    rw [List.map_append, m.ents ht k (by omega)]
    congr 1
    by_cases e : (k : Int) + 1 = h
    · have ht2 := m.tag
      rw [e, if_neg m.tag, if_neg ht, m.ent]
      simp [ent_handle]
    · obtain ⟨o1, o2⟩ := m.other ((k : Int) + 1) (by omega) (by omega) e
      rw [o1, o2]
      split
      · rfl
      · simp [ent_handle, e]
theorem map_one {l1 l2 : List (Int × Int × Int × Int)} {e e' : (Int × Int × Int × Int)} (hnd : ((l1 ++ e :: l2).map (·.1)).Nodup) : (l1 ++ e :: l2).map (fun x => if x.1 = e.1 then e' else x) = l1 ++ e' :: l2 := by
  rw [List.map_append, List.map_cons, List.nodup_append, List.nodup_cons] at hnd
  rw [List.map_append, List.map_cons, if_pos rfl]
  have h1 : l1.map (fun x => if x.1 = e.1 then e' else x) = l1 := by
    refine (List.map_congr_left (g := id) (fun x hx => ?_)).trans (List.map_id _)
    exact if_neg (fun h => hnd.2.2 x.1 (List.mem_map.2 ⟨x, hx, rfl⟩) e.1 (by simp) h)
  have h2 : l2.map (fun x => if x.1 = e.1 then e' else x) = l2 := by
    refine (List.map_congr_left (g := id) (fun x hx => ?_)).trans (List.map_id _)
    exact if_neg (fun h => hnd.2.1.1 (by rw [← h]; exact List.mem_map.2 ⟨x, hx, rfl⟩))
  rw [h1, h2]
theorem step_sorted (hf : Fine L) {e : (Int × Int × Int × Int)} {p : Int} (h : mvOn 288 (srtE L) = some (e, p)) : ∃ l1 l2, srtE L = l1 ++ e :: l2 ∧ srtE (mvB L e.1 p.toNat) = l1 ++ (e.1, p, e.2.2.1, e.2.2.2) :: l2 ∧ mvN 288 (srtE L) = mvN 288 (srtE (mvB L e.1 p.toNat)) + 1 := by
  obtain ⟨m, hp, hlt, he⟩ := step_moved hf h
  obtain ⟨f1, f2⟩ := srtE_from hf
  obtain ⟨l1, l2, hl, q1, q2, q3, q4⟩ := mvOn_some (srtE_ahead hf) f1 f2 h
  obtain ⟨ee, e1, e2, et, _⟩ := ent_in hf he
  have hent := m.ents et 40 (Nat.le_refl _)
  have hE : (e.1, ((p.toNat : Nat) : Int), (entOf L e.1).2.2.1, (entOf L e.1).2.2.2) = (e.1, p, e.2.2.1, e.2.2.2) := by
    rw [← ee, show ((p.toNat : Nat) : Int) = p by omega]
  rw [hE] at hent
  have hmap : (srtE L).map (fun x => if x.1 = e.1 then (e.1, p, e.2.2.1, e.2.2.2) else x) = l1 ++ (e.1, p, e.2.2.1, e.2.2.2) :: l2 := by
    have hnd := srtE_nodup (L := L)
    rw [hl] at hnd ⊢
    exact map_one hnd
  have hperm : (l1 ++ (e.1, p, e.2.2.1, e.2.2.2) :: l2).Perm (srtE (mvB L e.1 p.toNat)) := by
    rw [← hmap]
    refine ((srtE_perm (L := L)).map _).trans ?_
    rw [← hent]
    exact srtE_perm.symm
  have hsa := srtE_ahead hf
  rw [hl, List.pairwise_append, List.pairwise_cons] at hsa
  have hnew : (l1 ++ (e.1, p, e.2.2.1, e.2.2.2) :: l2).Pairwise (fun x y => byAt x y = true) := by
    have f2' : ∀ x ∈ l1 ++ e :: l2, 1 ≤ x.2.2.1 := fun x hx => f2 x (by rw [hl]; exact hx)
    refine List.pairwise_append.2 ⟨hsa.1.imp_of_mem (fun {x y} hx hy ha => ?_), List.pairwise_cons.2 ⟨fun y hy => ?_, hsa.2.1.2.imp_of_mem (fun {x y} hx hy ha => ?_)⟩, fun x hx y hy => ?_⟩
    · have := f2' x (by simp [hx])
      unfold Ahead at ha
      unfold byAt
      rw [decide_eq_true_iff]; omega
    · have h1 := hsa.2.1.1 y hy
      have := f2' e (by simp)
      unfold Ahead at h1
      unfold byAt
      rw [decide_eq_true_iff]
      dsimp only
      omega
    · have := f2' x (by simp [hx])
      unfold Ahead at ha
      unfold byAt
      rw [decide_eq_true_iff]; omega
    · have hx2 := f2' x (by simp [hx])
      unfold byAt
      rw [decide_eq_true_iff]
      rcases List.mem_cons.1 hy with rfl | hy
      · have := q3 x hx
        dsimp only
        omega
      · have := hsa.2.2 x hx y (by simp [hy])
        unfold Ahead at this
        omega
  have hold : (srtE (mvB L e.1 p.toNat)).Pairwise (fun x y => byAt x y = true) := List.pairwise_mergeSort byAt_trans byAt_total _
  have heq : l1 ++ (e.1, p, e.2.2.1, e.2.2.2) :: l2 = srtE (mvB L e.1 p.toNat) := by
    refine List.Perm.eq_of_pairwise (le := fun x y => byAt x y = true) (fun x y hx hy h1 h2 => ?_) hnew hold hperm
    have hx' := srtE_mem.1 (hperm.mem_iff.1 hx)
    have hy' := srtE_mem.1 hy
    by_cases hxy : x.1 = y.1
    · exact ents_one hx' hy' hxy
    · unfold byAt at h1 h2
      rw [decide_eq_true_iff] at h1 h2
      have lx := (ent_in m.fine hx').2.2.2.2.2.1
      have ly := (ent_in m.fine hy').2.2.2.2.2.1
      rcases ents_apart m.fine hx' hy' hxy with ha | ha
      · unfold Ahead at ha; omega
      · unfold Ahead at ha; omega
  exact ⟨l1, l2, hl, heq.symm, by rw [q4, ← heq]⟩
theorem mvN_le : ∀ (l : List (Int × Int × Int × Int)) (a : Int), mvN a l ≤ l.length
  | [], a => Nat.le_refl _
  | e :: r, a => by
    unfold mvN
    have := mvN_le r (a + e.2.2.1)
    rw [List.length_cons]
    split <;> omega
theorem mvN_forty : mvN 288 (srtE L) ≤ 40 := by
  refine Nat.le_trans (mvN_le _ _) ?_
  rw [srtE_perm.length_eq]
  exact entsK_len L 40
end
end Go.Proofs.YtllpeknpplpgeaaGreatDoor
/-! What Frees and Fit answer, as plain lists. (Part of the proofs over packages extent and heap.) -/
namespace Go.Proofs.YtllpeknpplpgeaaGreatDoor
set_option linter.unusedVariables false

/-- Extents, rising. -/
def srtL (l : List (Int × Int)) : List (Int × Int) := l.mergeSort (fun a b => decide (a.1 ≤ b.1))
theorem Good.srt {n : Int} {l s : List (Int × Int)} (hg : Good n l) (hp : s.Perm l) (hs : s.Pairwise (fun a b => a.1 ≤ b.1)) : Srt l s := by
  refine ⟨hp, ?_⟩
  have hgs := hg.perm hp
  refine (hs.and hgs.apart).imp_of_mem (fun {a b} ha hb ⟨h1, h2⟩ => ?_)
  have := over_no.1 h2
  have := hgs.all a ha
  have := hgs.all b hb
  omega
theorem Good.srtL {n : Int} {l : List (Int × Int)} (hg : Good n l) : Srt l (srtL l) := by
  refine hg.srt (List.mergeSort_perm l _) ?_
  have := List.pairwise_mergeSort (le := fun a b : (Int × Int) => decide (a.1 ≤ b.1)) (fun a b c h1 h2 => by simp at *; omega) (fun a b => by simp; omega) l
  exact this.imp (fun h => by simpa using h)
theorem Good.srt_eq {n : Int} {l s : List (Int × Int)} (hg : Good n l) (hp : s.Perm l) (hs : s.Pairwise (fun a b => a.1 ≤ b.1)) : s = YtllpeknpplpgeaaGreatDoor.srtL l :=
  srt_unique ((hg.srt hp hs).1.trans hg.srtL.1.symm) (hg.srt hp hs).2 hg.srtL.2
/-- What Frees gives. -/
def freeL (n : Int) (l : List (Int × Int)) : List (Int × Int) := if chk n l = 0 then freeOf n (srtL l) else []
/-- Which error Fit tells, and which place. -/
def fitE (n : Int) (l : List (Int × Int)) (size : Int) : Int := if chk n l ≠ 0 then chk n l else if size < 1 ∨ 6400 < size then 1 else if (fitB size (freeL n l)).2 = 0 then 4 else 0
def fitAt (n : Int) (l : List (Int × Int)) (size : Int) : Int := if fitE n l size = 0 then (fitB size (freeL n l)).1 else 0

theorem runs_len : ∀ (f : Int) (s : List (Int × Int)), (runsOf f s).length ≤ s.length
  | f, [] => Nat.le_refl _
  | f, e :: r => by
    have := runs_len (e.1 + e.2) r
    simp only [runsOf, List.length_append, List.length_cons]
    by_cases h : f < e.1
    · rw [if_pos h]; simp; omega
    · rw [if_neg h]; simp; omega
theorem freeL_small {n : Int} {l : List (Int × Int)} (hc : chk n l = 0) : (∀ x ∈ freeL n l, 0 ≤ x.1 ∧ 1 ≤ x.2 ∧ x.1 + x.2 ≤ n) ∧ (freeL n l).length ≤ 201 := by
  obtain ⟨h0, h1, h2, hg⟩ := chk_zero.1 hc
  unfold freeL
  rw [if_pos hc]
  refine ⟨fun x hx => ?_, ?_⟩
  · have := hg.srtL.freeIn hg h0 x hx
    exact ⟨this.1, this.2.1, this.2.2.1⟩
  · refine Nat.le_trans (runs_len _ _) ?_
    rw [List.length_append, hg.srtL.1.length_eq]
    simp; omega
end Go.Proofs.YtllpeknpplpgeaaGreatDoor
/-! Moved step by step till nothing moves: all objects and roots are as they were, and all that is free is one run; as plain lists. (Part of the proofs over moving.) -/
namespace Go.Proofs.YtllpeknpplpgeaaGreatDoor
open Go.RowKit
set_option linter.unusedVariables false

section
variable {L : List Int}
/-- What is the same of two images, wherever things stand. -/
structure AsWas (L c : List Int) : Prop where
  fine : Fine c
  len : c.length = L.length
  objs : ∀ k, 1 ≤ k → k ≤ 40 → objOf c k = objOf L k
  tags : ∀ k, 1 ≤ k → k ≤ 40 → (tagAt c k = 0 ↔ tagAt L k = 0)
  roots : rootsK c 8 = rootsK L 8
  sum : sumE (srtE c) = sumE (srtE L)
  many : (entsK c 40).length = (entsK L 40).length
theorem AsWas.refl (hf : Fine L) : AsWas L L := ⟨hf, rfl, fun _ _ _ => rfl, fun _ _ _ => Iff.rfl, rfl, rfl, rfl⟩
theorem AsWas.trans {a b c : List Int} (p : AsWas a b) (q : AsWas b c) : AsWas a c :=
  ⟨q.fine, q.len.trans p.len, fun k h1 h2 => (q.objs k h1 h2).trans (p.objs k h1 h2), fun k h1 h2 => (q.tags k h1 h2).trans (p.tags k h1 h2), q.roots.trans p.roots, q.sum.trans p.sum, q.many.trans p.many⟩
theorem sumE_append : ∀ (l m : List (Int × Int × Int × Int)), sumE (l ++ m) = sumE l + sumE m
  | [], m => by simp [sumE]
  | e :: l, m => by
    show e.2.2.1 + sumE (l ++ m) = e.2.2.1 + sumE l + sumE m
    rw [sumE_append l m]
    omega
theorem step_as (hf : Fine L) {c : List Int} (h : mvS L = some c) : AsWas L c ∧ mvN 288 (srtE L) = mvN 288 (srtE c) + 1 := by
  unfold mvS at h
  cases hq : mvOn 288 (srtE L) with
  | none => rw [hq] at h; cases h
  | some x =>
    obtain ⟨e, p⟩ := x
    rw [hq] at h
    obtain rfl : mvB L e.1 p.toNat = c := by simpa using h
    obtain ⟨m, _, _, he⟩ := step_moved hf hq
    obtain ⟨l1, l2, s1, s2, s3⟩ := step_sorted hf hq
    obtain ⟨_, e1, e2, et, _⟩ := ent_in hf he
    refine ⟨⟨m.fine, m.len, m.objs, fun k k1 k2 => ?_, m.roots, ?_, ?_⟩, s3⟩
    · by_cases hk : k = e.1
      · subst hk; exact ⟨fun h => absurd h m.tag, fun h => absurd h et⟩
      · rw [(m.other k k1 k2 hk).1]
    · rw [s1, s2, sumE_append, sumE_append]
      rfl
    · rw [m.ents et 40 (Nat.le_refl _), List.length_map]
/-- So many steps, or till there is none. -/
def mvF : Nat → List Int → List Int
  | 0, L => L
  | n + 1, L => match mvS L with
    | none => L
    | some c => mvF n c
theorem mvF_zero (L : List Int) : mvF 0 L = L := rfl
theorem mvF_none {n : Nat} {L : List Int} (h : mvS L = none) : mvF (n + 1) L = L := by simp only [mvF, h]
theorem mvF_some {n : Nat} {L c : List Int} (h : mvS L = some c) : mvF (n + 1) L = mvF n c := by simp only [mvF, h]
theorem mvF_as (n : Nat) : ∀ {L : List Int}, Fine L → mvN 288 (srtE L) ≤ n → AsWas L (mvF n L) ∧ mvS (mvF n L) = none := by
  induction n with
  | zero =>
    intro L hf h
    rw [mvF_zero]
    refine ⟨AsWas.refl hf, ?_⟩
    cases hq : mvS L with
    | none => rfl
    | some c =>
      have h2 := (step_as hf hq).2
      rw [h2] at h
      exact absurd h (Nat.not_succ_le_zero _)
  | succ n ih =>
    intro L hf h
    cases hq : mvS L with
    | none =>
      rw [mvF_none hq]
      exact ⟨AsWas.refl hf, hq⟩
    | some c =>
      obtain ⟨a, hn⟩ := step_as hf hq
      rw [hn] at h
      obtain ⟨b, hb⟩ := ih a.fine (Nat.le_of_succ_le_succ h)
      rw [mvF_some hq]
      exact ⟨a.trans b, hb⟩
/-- The image behind all steps. -/
def mvA (L : List Int) : List Int := mvF 40 L
theorem mvA_as (hf : Fine L) : AsWas L (mvA L) ∧ mvS (mvA L) = none := mvF_as 40 hf mvN_forty
theorem mvS_none (hf : Fine L) (h : mvS L = none) : Packed 288 (srtE L) ∧ mvN 288 (srtE L) = 0 := by
  unfold mvS at h
  cases hq : mvOn 288 (srtE L) with
  | none => exact mvOn_none (srtE_ahead hf) (srtE_from hf).1 hq
  | some x => rw [hq] at h; cases h
/-! ### what is free -/
theorem srt_take (hf : Fine L) : srtL (takeL L) = (srtE L).map shE := by
  refine ((take_good hf).srt_eq ((srtE_perm (L := L)).map shE) (List.pairwise_map.2 ((srtE_ahead hf).imp_of_mem (fun {x y} hx hy h => ?_)))).symm
  have := (ent_in hf (srtE_mem.1 hx)).2.2.2.2.2.1
  unfold Ahead at h
  unfold shE
  dsimp only
  omega
theorem lenSum_sh : ∀ l : List (Int × Int × Int × Int), lenSum (l.map shE) = sumE l
  | [] => rfl
  | e :: r => by
    rw [List.map_cons, lenSum_cons, lenSum_sh r]
    rfl
/-- What is used is the objects' bytes. -/
theorem used_sum (hf : Fine L) : lenSum (takeL L) = sumE (srtE L) := by
  rw [← lenSum_sh, ← srt_take hf]
  exact lenSum_perm (take_good hf).srtL.1.symm
theorem packed_runs : ∀ (l : List (Int × Int × Int × Int)) (a n : Int), Packed a l → (∀ x ∈ l, 1 ≤ x.2.2.1) → runsOf (a - 288) (l.map shE ++ [(n, 0)]) = if a - 288 + sumE l < n then [(a - 288 + sumE l, n - (a - 288 + sumE l))] else []
  | [], a, n, _, _ => by
    show runsOf (a - 288) [(n, 0)] = if a - 288 + 0 < n then [(a - 288 + 0, n - (a - 288 + 0))] else []
    rw [Int.add_zero]
    unfold runsOf
    dsimp only
    split <;> rfl
  | e :: r, a, n, hp, hl => by
    have h1 := hl e (by simp)
    obtain ⟨he, hr⟩ := hp
    have ih := packed_runs r (a + e.2.2.1) n hr (fun x hx => hl x (by simp [hx]))
    have e1 : a + e.2.2.1 - 288 = (shE e).1 + (shE e).2 := by unfold shE; dsimp only; omega
    rw [List.map_cons, List.cons_append]
    unfold runsOf
    rw [if_neg (by unfold shE; dsimp only; omega)]
    rw [e1] at ih
    rw [ih]
    have e2 : (shE e).1 + (shE e).2 + sumE r = a - 288 + sumE (e :: r) := by
      unfold shE
      show e.2.1 - 288 + e.2.2.1 + sumE r = a - 288 + (e.2.2.1 + sumE r)
      omega
    rw [e2]
    rfl
/-- Where nothing moves all that is free is one run, at the end. -/
theorem free_one (hf : Fine L) (h : mvS L = none) : freeL ((L.length : Int) - 288) (takeL L) = if sumE (srtE L) < (L.length : Int) - 288 then [(sumE (srtE L), (L.length : Int) - 288 - sumE (srtE L))] else [] := by
  have hc : chk ((L.length : Int) - 288) (takeL L) = 0 := by
    have hl := hf.len
    exact chk_zero.2 ⟨by omega, by omega, by have := takeL_len L; omega, take_good hf⟩
  unfold freeL freeOf
  rw [if_pos hc, srt_take hf]
  have := packed_runs (srtE L) 288 ((L.length : Int) - 288) (mvS_none hf h).1 (srtE_from hf).2
  rw [show (288 : Int) - 288 = 0 by decide, Int.zero_add] at this
  exact this
/-- Behind all steps there is as much free as ahead, in one run. -/
theorem all_free (hf : Fine L) : lenSum (freeL ((L.length : Int) - 288) (takeL L)) = (L.length : Int) - 288 - sumE (srtE L) := by
  have hl := hf.len
  have hg := take_good hf
  have hc : chk ((L.length : Int) - 288) (takeL L) = 0 := chk_zero.2 ⟨by omega, by omega, by have := takeL_len L; omega, hg⟩
  unfold freeL
  rw [if_pos hc]
  have := hg.srtL.sum hg (by omega)
  rw [used_sum hf] at this
  omega
end
end Go.Proofs.YtllpeknpplpgeaaGreatDoor
/-! An image that is filled with objects of one size, one behind the other; as plain lists. (Part of the proof of HeapFull.) -/
namespace Go.Proofs.YtllpeknpplpgeaaGreatDoor
open Go.RowKit
set_option linter.unusedVariables false

/-- All 0 there is no object, and nothing is wrong. -/
theorem zeros_fine {n : Nat} (h1 : 288 ≤ n) (h2 : n ≤ 6400) : Fine (zerosB n) ∧ (∀ h : Int, tagAt (zerosB n) h = 0) ∧ ∀ i, i < 8 → isRoot (rowAt (zerosB n) i) = false := by
  have hl := length_zerosB n
  have ht : ∀ h : Int, tagAt (zerosB n) h = 0 := fun h => by unfold tagAt; exact zeros_at n _
  have hr : ∀ i, i < 8 → isRoot (rowAt (zerosB n) i) = false := fun i hi => root_zero (by omega) hi (fun j _ => zeros_at n _)
  refine ⟨fine_of (lenB_iff.2 (by rw [hl]; omega)) (fun h _ _ q => absurd (ht h) q) (fun h _ _ _ _ _ q _ => absurd (ht h) q) (fun h a1 a2 _ => (ent_zero (by omega) a1 a2 (fun j _ => zeros_at n _)).2) (fun _ i hi => rFault_nil.2 (.inl (hr i hi))), ht, hr⟩
theorem alL_tail {b : List Int} (hf : Fine b) {h t : Int} {x n : Nat} (he : putE (splice b x (zerosB n)) (h, (x : Int), (n : Int), t) = 0) (h1 : 1 ≤ h) (h2 : h ≤ 40) (hx : 288 ≤ x) (hx2 : x + n ≤ b.length) : ∀ j, 200 ≤ j → j < 288 → (alL b h x n t).getD j 0 = b.getD j 0 := fun j hj hj2 => by
  have hz := length_zerosB n
  have hb := hf.len
  have hp := plc_le h1 h2
  have hr5 : (rowE (h, (x : Int), (n : Int), t)).length = 5 := rfl
  unfold alL putL
  rw [if_pos he]
  dsimp only
  rw [splice_out (by rw [hr5, length_splice (by rw [hz]; exact hx2)]; omega) (by rw [hr5]; exact .inr (by omega)), splice_out (by rw [hz]; exact hx2) (.inl (by omega))]
/-- So many objects of s bytes, one behind the other, from the first handle on; no root. -/
structure HF (b : List Int) (s i : Nat) : Prop where
  fine : Fine b
  len : b.length = 6400
  is : ∀ h : Int, 1 ≤ h → h ≤ i → h ≤ 40 → tagAt b h ≠ 0 ∧ entOf b h = (h, 288 + (h - 1) * s, (s : Int), 0)
  no : ∀ h : Int, (i : Int) < h → h ≤ 40 → tagAt b h = 0
  rows : ∀ j, j < 8 → isRoot (rowAt b j) = false
theorem HF.start (s : Nat) : HF (zerosB 6400) s 0 := by
  obtain ⟨h1, h2, h3⟩ := zeros_fine (n := 6400) (by decide) (by decide)
  exact ⟨h1, length_zerosB 6400, fun h a b c => by omega, fun h _ _ => h2 h, h3⟩
/-- The extents that are taken: one behind the other. -/
def rowX (s i : Nat) : List (Int × Int) := (List.range i).map (fun j : Nat => ((j : Int) * s, (s : Int)))
theorem rowX_succ (s i : Nat) : rowX s (i + 1) = rowX s i ++ [((i : Int) * s, (s : Int))] := by unfold rowX; rw [List.range_succ, List.map_append]; rfl
theorem rowX_runs (s : Nat) : ∀ i, runsOf 0 (rowX s i) = [] ∧ endOf 0 (rowX s i) = (i : Int) * s
  | 0 => ⟨rfl, by simp [rowX, endOf]⟩
  | i + 1 => by
    obtain ⟨h1, h2⟩ := rowX_runs s i
    rw [rowX_succ, runsOf_append, endOf_append, h1, h2]
    refine ⟨?_, ?_⟩
    · simp [runsOf]
    · simp only [endOf]
      rw [show ((i + 1 : Nat) : Int) = (i : Int) + 1 by omega, Int.add_mul, Int.one_mul]
theorem rowX_free (s i : Nat) (n : Int) (h : (i : Int) * s < n) : freeOf n (rowX s i) = [((i : Int) * s, n - (i : Int) * s)] := by
  obtain ⟨h1, h2⟩ := rowX_runs s i
  unfold freeOf
  rw [runsOf_append, h1, h2]
  simp [runsOf, h]
theorem HF.take {b : List Int} {s i : Nat} (h : HF b s i) (hi : i ≤ 40) : takeL b = rowX s i := by
  have key : ∀ k : Nat, k ≤ 40 → (entsK b k).map shE = rowX s (min k i) := by
    intro k
    induction k with
    | zero => intro _; simp [entsK, rowX]
    | succ k ih =>
      intro hk
      unfold entsK
      rw [List.map_append, ih (by omega)]
      by_cases hki : k < i
      · obtain ⟨e1, e2⟩ := h.is ((k : Int) + 1) (by omega) (by omega) (by omega)
        rw [if_neg e1, e2, Nat.min_eq_left (by omega), Nat.min_eq_left (by omega), rowX_succ]
        congr 1
        simp only [List.map_cons, List.map_nil, shE]
        congr 2
        rw [show (k : Int) + 1 - 1 = k by omega]
        omega
      · rw [if_pos (h.no _ (by omega) (by omega)), Nat.min_eq_right (by omega), Nat.min_eq_right (by omega)]
        simp
  have := key 40 (Nat.le_refl _)
  rw [Nat.min_eq_right hi] at this
  exact this
theorem rowX_sorted (s i : Nat) (hs : 1 ≤ s) : (rowX s i).Pairwise (fun a b => a.1 < b.1) := by
  unfold rowX
  rw [List.pairwise_map]
  refine (List.pairwise_lt_range (n := i)).imp (fun {a b} hab => ?_)
  show (a : Int) * s < (b : Int) * s
  exact Int.mul_lt_mul_of_pos_right (by omega) (by omega)
/-- Where the next one goes. -/
theorem HF.fit {b : List Int} {s i : Nat} (h : HF b s i) (hi : i < 40) (hs : 1 ≤ s) (hs2 : s ≤ 150) {t : List (Int × Int)} (ht : Srt (takeL b) t) : fitB s (freeOf ((b.length : Int) - 288) t) = ((i : Int) * s, 6112 - (i : Int) * s) := by
  rw [h.take (by omega)] at ht
  have e : t = rowX s i := srt_unique ht.1 ht.2 (rowX_sorted s i hs)
  have hm : (i : Int) * s ≤ 39 * 150 := by
    have h1 : (i : Int) * s ≤ 39 * (s : Int) := Int.mul_le_mul_of_nonneg_right (by omega) (by omega)
    omega
  rw [e, h.len, show ((6400 : Nat) : Int) - 288 = 6112 by decide, rowX_free s i 6112 (by omega)]
  unfold fitB
  simp only [List.foldl, fitStep]
  rw [if_pos ⟨by omega, .inl trivial⟩]
theorem HF.low {b : List Int} {s i : Nat} (h : HF b s i) (hi : i ≤ 40) : lowH b = i := by
  refine First.unique (lowH_first b) ⟨hi, fun j hj => ?_, fun hlt => ?_⟩
  · exact decide_eq_false (h.is ((j : Int) + 1) (by omega) (by omega) (by omega)).1
  · exact decide_eq_true (h.no ((i : Int) + 1) (by omega) (by omega))
theorem HF.next {b : List Int} {s i : Nat} (h : HF b s i) (hi : i < 40) (hs : 1 ≤ s) (hs2 : s ≤ 150) : HF (alL b ((i : Int) + 1) (288 + i * s) s 0) s (i + 1) := by
  have hm : i * s ≤ 39 * 150 := Nat.le_trans (Nat.mul_le_mul (show i ≤ 39 by omega) hs2) (by decide)
  have hx2 : 288 + i * s + s ≤ b.length := by rw [h.len]; omega
  have h0 := h.no ((i : Int) + 1) (by omega) (by omega)
  have hno : ∀ k, 1 ≤ k → k ≤ 40 → tagAt b k ≠ 0 → (entOf b k).2.1 + (entOf b k).2.2.1 ≤ ((288 + i * s : Nat) : Int) ∨ ((288 + i * s : Nat) : Int) + s ≤ (entOf b k).2.1 := fun k k1 k2 kt => by
    have hki : k ≤ i := Classical.byContradiction fun hc => kt (h.no k (by omega) k2)
    rw [(h.is k k1 hki k2).2]
    left
    show 288 + (k - 1) * (s : Int) + (s : Int) ≤ ((288 + i * s : Nat) : Int)
    have : (k - 1) * (s : Int) + s = k * s := by rw [Int.sub_mul, Int.one_mul]; omega
    have h3 : k * (s : Int) ≤ (i : Int) * s := Int.mul_le_mul_of_nonneg_right hki (by omega)
    have h4 : ((288 + i * s : Nat) : Int) = 288 + (i : Int) * s := by omega
    omega
  obtain ⟨a1, a2, a3, a4, a5, a6⟩ := alloc_keep (t := 0) h.fine (by omega) (by omega) h0 hs (by omega) (by omega) hx2 (by decide) (by decide) hno
  have hz := length_zerosB s
  have hp : putE (splice b (288 + i * s) (zerosB s)) ((i : Int) + 1, ((288 + i * s : Nat) : Int), (s : Int), 0) = 0 := by
    have hl : (splice b (288 + i * s) (zerosB s)).length = b.length := length_splice (by rw [hz]; exact hx2)
    exact putE_zero.2 ⟨by rw [hl]; exact h.fine.len0, hndB_iff.2 ⟨by show 1 ≤ (i : Int) + 1; omega, by show (i : Int) + 1 ≤ 40; omega⟩, Int.le_refl _, (by show (0 : Int) ≤ 15; decide), by show 1 ≤ (s : Int); omega, by show (s : Int) ≤ 1000; omega, by show 288 ≤ ((288 + i * s : Nat) : Int); omega, by rw [hl]; show ((288 + i * s : Nat) : Int) + s ≤ _; omega⟩
  refine ⟨a1, a2.trans h.len, fun k k1 k2 k3 => ?_, fun k k1 k2 => ?_, fun j hj => ?_⟩
  · by_cases e : k = (i : Int) + 1
    · subst e
      refine ⟨a5, a4.trans ?_⟩
      rw [show (i : Int) + 1 - 1 = i by omega, show ((288 + i * s : Nat) : Int) = 288 + (i : Int) * s by omega]
    · obtain ⟨_, b2, b3⟩ := a6 k k1 k3 e
      rw [b2, b3]
      exact h.is k k1 (by omega) k3
  · obtain ⟨_, b2, _⟩ := a6 k (by omega) k2 (by omega)
    rw [b2]
    exact h.no k (by omega) k2
  · have : rowAt (alL b ((i : Int) + 1) (288 + i * s) s 0) j = rowAt b j := by
      apply ext_getD
      · rw [rowAt_len (by rw [a2, h.len]; omega), rowAt_len (by rw [h.len]; omega)]
      · intro q hq
        rw [rowAt_len (by rw [a2, h.len]; omega)] at hq
        rw [rowAt_getD hq, rowAt_getD hq]
        exact alL_tail h.fine hp (by omega) (by omega) (by omega) hx2 _ (by omega) (by omega)
    rw [this]
    exact h.rows j hj
/-- With one less: it is the least that is none, and where it was there is room. -/
theorem HF.freed {b : List Int} {s : Nat} (h : HF b s 40) (hs : 1 ≤ s) (hs2 : s ≤ 150) {f : Nat} (f1 : 1 ≤ f) (f2 : f ≤ 40) :
    chkE b f = 0 ∧ Fine (dropL b f) ∧ lowH (dropL b f) = f - 1 ∧ chkE (dropL b f) f = 5 ∧ (dropL b f).length = 6400 ∧ ∀ t, Srt (takeL (dropL b f)) t → (fitB s (freeOf (((dropL b f).length : Int) - 288) t)).2 ≠ 0 := by
  have hpr := h.is f (by omega) (by omega) (by omega)
  have hck : chkE b f = 0 := chkE_zero.2 ⟨h.fine.len0, hndB_iff.2 ⟨by omega, by omega⟩, hpr.1⟩
  obtain ⟨d1, d2, d3, d4, d5⟩ := drop_fine h.fine hck (fun i hi hr => by rw [h.rows i hi] at hr; cases hr)
  refine ⟨hck, d1, ?_, drop_none hck, d4.trans h.len, fun t ht => ?_⟩
  · refine First.unique (lowH_first _) ⟨by omega, fun j hj => ?_, fun _ => ?_⟩
    · obtain ⟨e1, _⟩ := d2 ((j : Int) + 1) (by omega) (by omega) (by omega)
      refine decide_eq_false ?_
      rw [e1]
      exact (h.is ((j : Int) + 1) (by omega) (by omega) (by omega)).1
    · refine decide_eq_true ?_
      rw [show (((f - 1 : Nat) : Int) + 1) = (f : Int) by omega]
      exact d3
  · have hm : (f : Int) * s ≤ 6000 := by
      have h1 : (f : Int) * s ≤ 40 * (s : Int) := Int.mul_le_mul_of_nonneg_right (by omega) (by omega)
      omega
    have hfs : ((f : Int) - 1) * s + s = (f : Int) * s := by rw [Int.sub_mul, Int.one_mul]; omega
    have h0 : 0 ≤ ((f : Int) - 1) * s := Int.mul_nonneg (by omega) (by omega)
    refine fit_there ht (take_good d1) (by rw [d4, h.len]; decide) (p := ((f : Int) - 1) * s) h0 (by omega) (by rw [d4, h.len]; show _ ≤ ((6400 : Nat) : Int) - 288; omega) (fun e he => ?_)
    obtain ⟨k, k1, k2, kt, rfl⟩ := mem_takeL.1 he
    have hkf : k ≠ f := fun e => kt (by rw [e]; exact d3)
    rw [(d2 k k1 k2 hkf).2, (h.is k k1 (by omega) k2).2]
    unfold shE
    dsimp only
    have hks : (k - 1) * (s : Int) + s = k * s := by rw [Int.sub_mul, Int.one_mul]; omega
    rcases Int.lt_or_gt_of_ne hkf with hlt | hlt
    · left
      have : k * (s : Int) ≤ ((f : Int) - 1) * s := Int.mul_le_mul_of_nonneg_right (by omega) (by omega)
      omega
    · right
      have : (f : Int) * s ≤ (k - 1) * (s : Int) := Int.mul_le_mul_of_nonneg_right (by omega) (by omega)
      omega
end Go.Proofs.YtllpeknpplpgeaaGreatDoor
/-! Images of old, as plain lists: what Up and Down answer; what was brought up is right. (Part of the proofs over images of old.) -/
namespace Go.Proofs.YtllpeknpplpgeaaGreatDoor
open Go.RowKit
set_option linter.unusedVariables false

/-- How many bytes the next object has. -/
def obN (r : List Int) : Nat := (getV r 2 2).toNat
/-- What is wrong with the next object. -/
def obE (r : List Int) (a : Nat) (out : List Int) : Int :=
  if r.length = 0 then 2 else if hndB (r.getD 0 0) = false then 1 else if tagAt out (r.getD 0 0) ≠ 0 then 7 else if r.length ≤ 1 then 2 else if 15 < r.getD 1 0 then 1
  else if r.length < 4 then 2 else if getV r 2 2 < 1 ∨ 1000 < getV r 2 2 then 1 else if r.length < 4 + obN r then 2 else if 6400 < a + obN r then 4 else 0
/-- The image with it. -/
def obO (r : List Int) (a : Nat) (out : List Int) : List Int := splice (putL out (r.getD 0 0, (a : Int), getV r 2 2, r.getD 1 0)) a ((r.drop 4).take (obN r))
/-- So many objects, one after the other: the fault, what follows, where the next one stands, the image. -/
def obR : Nat → List Int → Nat → List Int → Int × List Int × Nat × List Int
  | 0, r, a, out => (0, r, a, out)
  | n + 1, r, a, out => if obE r a out ≠ 0 then (obE r a out, [], 0, []) else obR n (r.drop (4 + obN r)) (a + obN r) (obO r a out)
/-- What is wrong with the next root. -/
def roE (r : List Int) (out : List Int) : Int :=
  if r.length < 8 then 2 else if (readOut (r.take 8)).2 ≠ 0 then 2 else if leadOf (rootsK out 8) (readOut (r.take 8)).1 ≠ 0 then 7 else if r.length < 9 then 2 else chkE out (r.getD 8 0)
def roO (r : List Int) (i : Nat) (out : List Int) : List Int := prL out i ((readOut (r.take 8)).1, r.getD 8 0)
def roR : Nat → Nat → List Int → List Int → Int × List Int × List Int
  | 0, _, r, out => (0, r, out)
  | n + 1, i, r, out => if roE r out ≠ 0 then (roE r out, [], []) else roR n (i + 1) (r.drop 9) (roO r i out)
/-- Does it begin as an image of old? -/
def hdB (b : List Int) : Bool := decide (4 ≤ b.length) && (decide (b.getD 0 0 = 79) && (decide (b.getD 1 0 = 76) && (decide (b.getD 2 0 = 68) && decide (b.getD 3 0 = 49))))
/-- An image of now of one of old; the fault. -/
def upS (b : List Int) : Int × List Int :=
  if hdB b = false then (2, []) else if b.length < 5 ∨ 40 < b.getD 4 0 then (2, [])
  else if (obR (b.getD 4 0).toNat (b.drop 5) 288 (zerosB 6400)).1 ≠ 0 then ((obR (b.getD 4 0).toNat (b.drop 5) 288 (zerosB 6400)).1, [])
  else if (obR (b.getD 4 0).toNat (b.drop 5) 288 (zerosB 6400)).2.1.length = 0 ∨ 8 < (obR (b.getD 4 0).toNat (b.drop 5) 288 (zerosB 6400)).2.1.getD 0 0 then (2, [])
  else if (roR ((obR (b.getD 4 0).toNat (b.drop 5) 288 (zerosB 6400)).2.1.getD 0 0).toNat 0 ((obR (b.getD 4 0).toNat (b.drop 5) 288 (zerosB 6400)).2.1.drop 1) (obR (b.getD 4 0).toNat (b.drop 5) 288 (zerosB 6400)).2.2.2).1 ≠ 0
    then ((roR ((obR (b.getD 4 0).toNat (b.drop 5) 288 (zerosB 6400)).2.1.getD 0 0).toNat 0 ((obR (b.getD 4 0).toNat (b.drop 5) 288 (zerosB 6400)).2.1.drop 1) (obR (b.getD 4 0).toNat (b.drop 5) 288 (zerosB 6400)).2.2.2).1, [])
  else if (roR ((obR (b.getD 4 0).toNat (b.drop 5) 288 (zerosB 6400)).2.1.getD 0 0).toNat 0 ((obR (b.getD 4 0).toNat (b.drop 5) 288 (zerosB 6400)).2.1.drop 1) (obR (b.getD 4 0).toNat (b.drop 5) 288 (zerosB 6400)).2.2.2).2.1 ≠ [] then (2, [])
  else (0, (roR ((obR (b.getD 4 0).toNat (b.drop 5) 288 (zerosB 6400)).2.1.getD 0 0).toNat 0 ((obR (b.getD 4 0).toNat (b.drop 5) 288 (zerosB 6400)).2.1.drop 1) (obR (b.getD 4 0).toNat (b.drop 5) 288 (zerosB 6400)).2.2.2).2.2)
/-! ### objects -/
/-- An image in the making: objects from 288 on up to a, no roots. -/
structure Ois (out : List Int) (a : Nat) : Prop where
  fine : Fine out
  len : out.length = 6400
  byt : Byt out
  lo : 288 ≤ a ∧ a ≤ 6400
  ends : ∀ k, 1 ≤ k → k ≤ 40 → tagAt out k ≠ 0 → (entOf out k).2.1 + (entOf out k).2.2.1 ≤ a
  none_ : ∀ i, i < 8 → isRoot (rowAt out i) = false
theorem Ois.start : Ois (zerosB 6400) 288 := by
  obtain ⟨h1, h2, h3⟩ := zeros_fine (n := 6400) (by decide) (by decide)
  refine ⟨h1, length_zerosB _, byt_zerosB _, by omega, fun k k1 k2 ht => absurd (h2 k) ht, fun i hi => h3 i hi⟩
theorem obE_zero {r : List Int} {a : Nat} {out : List Int} (hb : Byt r) (h : obE r a out = 0) :
    4 + obN r ≤ r.length ∧ hndB (r.getD 0 0) = true ∧ tagAt out (r.getD 0 0) = 0 ∧ 0 ≤ r.getD 1 0 ∧ r.getD 1 0 ≤ 15 ∧ 1 ≤ obN r ∧ obN r ≤ 1000 ∧ getV r 2 2 = (obN r : Int) ∧ a + obN r ≤ 6400 := by
  unfold obE at h
  have hb1 := hb.getD 1
  by_cases h1 : r.length = 0
  · rw [if_pos h1] at h; exact absurd h (by decide)
  rw [if_neg h1] at h
  by_cases h2 : hndB (r.getD 0 0) = false
  · rw [if_pos h2] at h; exact absurd h (by decide)
  rw [if_neg h2] at h
  by_cases h3 : tagAt out (r.getD 0 0) ≠ 0
  · rw [if_pos h3] at h; exact absurd h (by decide)
  rw [if_neg h3] at h
  by_cases h4 : r.length ≤ 1
  · rw [if_pos h4] at h; exact absurd h (by decide)
  rw [if_neg h4] at h
  by_cases h5 : 15 < r.getD 1 0
  · rw [if_pos h5] at h; exact absurd h (by decide)
  rw [if_neg h5] at h
  by_cases h6 : r.length < 4
  · rw [if_pos h6] at h; exact absurd h (by decide)
  rw [if_neg h6] at h
  by_cases h7 : getV r 2 2 < 1 ∨ 1000 < getV r 2 2
  · rw [if_pos h7] at h; exact absurd h (by decide)
  rw [if_neg h7] at h
  by_cases h8 : r.length < 4 + obN r
  · rw [if_pos h8] at h; exact absurd h (by decide)
  rw [if_neg h8] at h
  by_cases h9 : 6400 < a + obN r
  · rw [if_pos h9] at h; exact absurd h (by decide)
  have e : getV r 2 2 = (obN r : Int) := by unfold obN; omega
  refine ⟨by omega, by simpa using h2, Decidable.not_not.1 h3, hb1.1, by omega, by omega, by omega, e, by omega⟩
/-- One object more. -/
theorem Ois.next {r : List Int} {a : Nat} {out : List Int} (o : Ois out a) (hb : Byt r) (h : obE r a out = 0) :
    Ois (obO r a out) (a + obN r) ∧ objOf (obO r a out) (r.getD 0 0) = (r.getD 1 0, (r.drop 4).take (obN r)) ∧
    (∀ k, 1 ≤ k → k ≤ 40 → k ≠ r.getD 0 0 → objOf (obO r a out) k = objOf out k ∧ tagAt (obO r a out) k = tagAt out k) ∧ tagAt (obO r a out) (r.getD 0 0) ≠ 0 := by
  obtain ⟨h1, h2, h3, h4, h5, h6, h7, h8, h9⟩ := obE_zero hb h
  have hh := hndB_iff.1 h2
  have hlo := o.lo
  have hlen := o.len
  have he : putE out (r.getD 0 0, (a : Int), getV r 2 2, r.getD 1 0) = 0 := putE_zero.2 ⟨o.fine.len0, h2, h4, h5, by dsimp only; omega, by dsimp only; omega, by dsimp only; omega, by dsimp only; omega⟩
  have hno : ∀ k, 1 ≤ k → k ≤ 40 → tagAt out k ≠ 0 → lapB (r.getD 0 0, (a : Int), getV r 2 2, r.getD 1 0) (entOf out k) = false := fun k k1 k2 hk => lapB_no.2 (.inl (o.ends k k1 k2 hk))
  obtain ⟨pf, po, pt, pe, pl, ptl⟩ := put_fine o.fine he h3 hno
  obtain ⟨qo, qs⟩ := put_objs o.fine he h3 hno
  dsimp only at po pt pe qo qs
  have hbl : ((r.drop 4).take (obN r)).length = obN r := by rw [List.length_take, List.length_drop]; omega
  have hfit : a + ((r.drop 4).take (obN r)).length ≤ (putL out (r.getD 0 0, (a : Int), getV r 2 2, r.getD 1 0)).length := by rw [hbl, pl]; omega
  obtain ⟨lf, ll, le, lo⟩ := lay_objs pf hlo.1 hfit
  have hent : entOf (obO r a out) (r.getD 0 0) = (r.getD 0 0, (a : Int), getV r 2 2, r.getD 1 0) := (le _ hh.1 hh.2).2.trans pe
  have htag : tagAt (obO r a out) (r.getD 0 0) ≠ 0 := by unfold obO; rw [(le _ hh.1 hh.2).1]; exact pt
  have hoth : ∀ k, 1 ≤ k → k ≤ 40 → k ≠ r.getD 0 0 → tagAt (obO r a out) k = tagAt out k ∧ entOf (obO r a out) k = entOf out k := fun k k1 k2 hk => ⟨(le k k1 k2).1.trans (po k k1 k2 hk).1, (le k k1 k2).2.trans (po k k1 k2 hk).2⟩
  have hlen2 : (obO r a out).length = 6400 := ll.trans (pl.trans hlen)
  refine ⟨⟨lf, hlen2, ?_, by omega, fun k k1 k2 hk => ?_, fun i hi => ?_⟩, ?_, fun k k1 k2 hk => ⟨?_, (hoth k k1 k2 hk).1⟩, htag⟩
  · unfold obO
    refine byt_splice ?_ (fun z hz => hb z (List.mem_of_mem_drop (List.mem_of_mem_take hz)))
    unfold putL
    rw [if_pos he]
    exact byt_splice o.byt (byt_rowE _)
  · by_cases hk2 : k = r.getD 0 0
    · subst hk2
      rw [hent]
      dsimp only
      omega
    · obtain ⟨t1, t2⟩ := hoth k k1 k2 hk2
      rw [t1] at hk
      rw [t2]
      have := o.ends k k1 k2 hk
      omega
  · have : rowAt (obO r a out) i = rowAt out i := by
      apply ext_getD
      · rw [rowAt_len (by omega), rowAt_len (by omega)]
      · intro j hj
        rw [rowAt_len (by omega)] at hj
        rw [rowAt_getD hj, rowAt_getD hj]
        unfold obO
        rw [splice_out hfit (.inl (by omega))]
        exact ptl _ (by omega)
    rw [this]
    exact o.none_ i hi
  · unfold objOf objE
    rw [if_neg htag, hent]
    dsimp only
    congr 1
    rw [h8]
    unfold partL obO
    rw [Int.toNat_natCast, Int.toNat_natCast]
    apply ext_getD
    · rw [List.length_take, List.length_drop, length_splice hfit, pl, hbl]
      omega
    · intro j hj
      rw [List.length_take, List.length_drop, length_splice hfit, pl] at hj
      have e5 := splice_in hfit (show j < ((r.drop 4).take (obN r)).length by omega)
      have e6 : ((splice (putL out (r.getD 0 0, (a : Int), getV r 2 2, r.getD 1 0)) a ((r.drop 4).take (obN r))).drop a |>.take (obN r)).getD j 0 = (splice (putL out (r.getD 0 0, (a : Int), getV r 2 2, r.getD 1 0)) a ((r.drop 4).take (obN r))).getD (a + j) 0 := by
        simp [List.getD, List.getElem?_drop, show j < obN r by omega]
      rw [e6, e5]
  · have e1 := lo k k1 k2 (fun hkt => by
      rw [(po k k1 k2 hk).1] at hkt
      rw [(po k k1 k2 hk).2]
      left
      exact o.ends k k1 k2 hkt)
    exact e1.trans (qo k k1 k2 hk)
end Go.Proofs.YtllpeknpplpgeaaGreatDoor
/-! Images of old, brought down and up again: the same objects and roots; as plain lists. (Part of the proofs over images of old.) -/
namespace Go.Proofs.YtllpeknpplpgeaaGreatDoor
open Go.RowKit
set_option linter.unusedVariables false

/-! ### roots -/
/-- An image in the making: roots at the first i places alone. -/
structure Ros (out : List Int) (i : Nat) : Prop where
  fine : Fine out
  len : out.length = 6400
  byt : Byt out
  none_ : ∀ j, i ≤ j → j < 8 → isRoot (rowAt out j) = false
theorem roE_zero {r out : List Int} (h : roE r out = 0) : 9 ≤ r.length ∧ (readOut (r.take 8)).2 = 0 ∧ leadOf (rootsK out 8) (readOut (r.take 8)).1 = 0 ∧ chkE out (r.getD 8 0) = 0 := by
  unfold roE at h
  by_cases h1 : r.length < 8
  · rw [if_pos h1] at h; exact absurd h (by decide)
  rw [if_neg h1] at h
  by_cases h2 : (readOut (r.take 8)).2 ≠ 0
  · rw [if_pos h2] at h; exact absurd h (by decide)
  rw [if_neg h2] at h
  by_cases h3 : leadOf (rootsK out 8) (readOut (r.take 8)).1 ≠ 0
  · rw [if_pos h3] at h; exact absurd h (by decide)
  rw [if_neg h3] at h
  by_cases h4 : r.length < 9
  · rw [if_pos h4] at h; exact absurd h (by decide)
  rw [if_neg h4] at h
  exact ⟨by omega, Decidable.not_not.1 h2, Decidable.not_not.1 h3, h⟩
theorem Ros.next {r out : List Int} {i : Nat} (o : Ros out i) (hi : i < 8) (hb : Byt r) (h : roE r out = 0) :
    Ros (roO r i out) (i + 1) ∧ rootsK (roO r i out) 8 = rootsK out 8 ++ [((readOut (r.take 8)).1, r.getD 8 0)] ∧ ∀ k, 1 ≤ k → k ≤ 40 → objOf (roO r i out) k = objOf out k ∧ chkE (roO r i out) k = chkE out k := by
  obtain ⟨h1, h2, h3, h4⟩ := roE_zero h
  obtain ⟨_, hok, _⟩ := readOut_ok (fun z hz => hb z (List.mem_of_mem_take hz)) h2
  unfold roO
  generalize (readOut (r.take 8)).1 = s at *
  generalize r.getD 8 0 = g at *
  have hnB := nameB_iff.2 hok
  obtain ⟨q1, q2, q3⟩ := chkE_zero.1 h4
  have hg := hndB_iff.1 q2
  have hnr : ¬ noRoot (s, g) = true := fun hx => by have := (noRoot_iff.1 hx).2; dsimp only at this; omega
  have hre : rowRE (s, g) = 0 := by unfold rowRE; rw [if_neg hnr, if_neg (by rw [q2]; simp), if_pos hnB]
  have hpr : prE out i (s, g) = 0 := prE_zero.2 ⟨o.fine.len0, by omega, by omega, hre⟩
  have e : prL out i (s, g) = splice out (200 + 11 * i) (rowR (s, g)) := by unfold prL; rw [if_pos hpr, Int.toNat_natCast]
  have hrow : Row1 out (prL out i (s, g)) i (rowR (s, g)) := by rw [e]; exact row1_splice o.fine.len.1 hi (rowR_len hre)
  have hpl := (lead_zero o.fine s).1 h3
  obtain ⟨f, _⟩ := hrow.fine_root o.fine hnB h4 (fun j hj _ hr => pl_no o.fine hpl j hj hr)
  obtain ⟨hrp, hrn⟩ := roots_put hpr (fun j hj hj8 => o.none_ j hj hj8)
  rw [if_neg hnr] at hrp
  have hl0 := o.fine.len0
  unfold roots at hrp
  rw [if_pos f.len0, if_pos hl0] at hrp
  refine ⟨⟨f, hrow.len.trans o.len, ?_, hrn⟩, hrp, fun k k1 k2 => ?_⟩
  · rw [e]; exact byt_splice o.byt (byt_rowR _)
  · have := hrow.objs o.fine k k1 k2
    exact ⟨this.1, this.2.1⟩
/-! ### down -/
def dnO (L : List Int) (e : (Int × Int × Int × Int)) : List Int := [e.1, e.2.2.2, e.2.2.1 % 256, e.2.2.1 / 256] ++ (objOf L e.1).2
def dnR (r : (ByteArray × Int)) : List Int := nameL r.1 ++ [r.2]
/-- The image of old of an image. -/
def dnB (E : List (Int × Int × Int × Int)) (R : List (ByteArray × Int)) (L : List Int) : List Int := [79, 76, 68, 49, (E.length : Int)] ++ (E.flatMap (dnO L) ++ ([(R.length : Int)] ++ R.flatMap dnR))
def dnL (L : List Int) : List Int := dnB (entsK L 40) (rootsK L 8) L
theorem upS_of {b rest o1 o2 : List Int} {n m a1 : Nat} (hd : hdB b = true) (h5 : 5 ≤ b.length) (hn : b.getD 4 0 = n) (hn40 : n ≤ 40) (hob : obR n (b.drop 5) 288 (zerosB 6400) = (0, [(m : Int)] ++ rest, a1, o1)) (hm8 : m ≤ 8) (hro : roR m 0 rest o1 = (0, [], o2)) : upS b = (0, o2) := by
  unfold upS
  rw [hd, if_neg (by simp), hn, if_neg (by omega), Int.toNat_natCast, hob]
  dsimp only
  rw [if_neg (by simp), if_neg (by simp; omega)]
  have e1 : ([(m : Int)] ++ rest).getD 0 0 = (m : Int) := rfl
  have e2 : ([(m : Int)] ++ rest).drop 1 = rest := rfl
  rw [e1, e2, Int.toNat_natCast, hro]
  dsimp only
  rw [if_neg (by simp), if_neg (by simp)]
theorem dnB_head (E : List (Int × Int × Int × Int)) (R : List (ByteArray × Int)) (L : List Int) : hdB (dnB E R L) = true ∧ 5 ≤ (dnB E R L).length ∧ (dnB E R L).getD 4 0 = (E.length : Int) ∧ (dnB E R L).drop 5 = E.flatMap (dnO L) ++ ([(R.length : Int)] ++ R.flatMap dnR) := by
  refine ⟨by unfold hdB dnB; simp, by unfold dnB; simp, rfl, rfl⟩
theorem dnO_facts {L : List Int} (hf : Fine L) {e : (Int × Int × Int × Int)} (he : e ∈ entsK L 40) (rest : List Int) :
    (dnO L e ++ rest).getD 0 0 = e.1 ∧ (dnO L e ++ rest).getD 1 0 = e.2.2.2 ∧ getV (dnO L e ++ rest) 2 2 = e.2.2.1 ∧ obN (dnO L e ++ rest) = e.2.2.1.toNat ∧ (objOf L e.1).2.length = e.2.2.1.toNat ∧ (dnO L e ++ rest).drop (4 + obN (dnO L e ++ rest)) = rest ∧ ((dnO L e ++ rest).drop 4).take (obN (dnO L e ++ rest)) = (objOf L e.1).2 ∧ (dnO L e ++ rest).length = 4 + e.2.2.1.toNat + rest.length ∧ (objOf L e.1).1 = e.2.2.2 := by
  obtain ⟨ee, e1, e2, et, e3, e4, e5, e6⟩ := ent_in hf he
  have hob : objOf L e.1 = (e.2.2.2, partL L e.2.1 e.2.2.1) := by
    unfold objOf objE
    rw [if_neg et, ← ee]
  have hol : (objOf L e.1).2.length = e.2.2.1.toNat := by
    rw [hob]
    show (partL L e.2.1 e.2.2.1).length = _
    unfold partL
    rw [List.length_take, List.length_drop]
    omega
  have hsh : dnO L e ++ rest = e.1 :: e.2.2.2 :: (e.2.2.1 % 256) :: (e.2.2.1 / 256) :: ((objOf L e.1).2 ++ rest) := by unfold dnO; simp
  have hv : getV (dnO L e ++ rest) 2 2 = e.2.2.1 := by
    rw [getV_two _ _ (by rw [hsh]; simp), hsh]
    show e.2.2.1 % 256 + 256 * (e.2.2.1 / 256) = e.2.2.1
    omega
  have hN : obN (dnO L e ++ rest) = e.2.2.1.toNat := by unfold obN; rw [hv]
  refine ⟨by rw [hsh]; rfl, by rw [hsh]; rfl, hv, hN, hol, ?_, ?_, ?_, by rw [hob]⟩
  · rw [hN, hsh, ← hol, Nat.add_comm 4]
    simp
  · rw [hN, hsh, ← hol]
    simp
  · rw [hsh]
    simp only [List.length_cons, List.length_append]
    omega
theorem dnO_byt {L : List Int} (hf : Fine L) (hb : Byt L) {e : (Int × Int × Int × Int)} (he : e ∈ entsK L 40) : Byt (dnO L e) := by
  obtain ⟨ee, e1, e2, et, e3, e4, e5, e6⟩ := ent_in hf he
  have ht := hf.ent e1 e2 et
  rw [← ee] at ht
  unfold dnO
  intro z hz
  rcases List.mem_append.1 hz with hz | hz
  · rcases List.mem_cons.1 hz with rfl | hz
    · omega
    rcases List.mem_cons.1 hz with rfl | hz
    · omega
    rcases List.mem_cons.1 hz with rfl | hz
    · omega
    rw [List.mem_singleton.1 hz]
    omega
  · unfold objOf objE partL at hz
    split at hz
    · cases hz
    · exact hb z (List.mem_of_mem_drop (List.mem_of_mem_take hz))
/-- Objects are brought up, one after the other. -/
theorem up_objs {L : List Int} (hf : Fine L) (hb : Byt L) : ∀ (E : List (Int × Int × Int × Int)) (a : Nat) (out rest : List Int), Ois out a → (∀ e ∈ E, e ∈ entsK L 40) → (E.map (·.1)).Nodup → (∀ e ∈ E, tagAt out e.1 = 0) → Byt rest → (a : Int) + sumE E ≤ 6400 →
    ∃ out' a', obR E.length (E.flatMap (dnO L) ++ rest) a out = (0, rest, a', out') ∧ Ois out' a' ∧ (a' : Int) = a + sumE E ∧ (∀ e ∈ E, objOf out' e.1 = objOf L e.1 ∧ tagAt out' e.1 ≠ 0) ∧ ∀ k, 1 ≤ k → k ≤ 40 → (∀ e ∈ E, e.1 ≠ k) → objOf out' k = objOf out k ∧ tagAt out' k = tagAt out k
  | [], a, out, rest, o, _, _, _, _, _ => ⟨out, a, rfl, o, by simp [sumE], fun e he => (by cases he), fun k _ _ _ => ⟨rfl, rfl⟩⟩
  | e :: E, a, out, rest, o, hin, hnd, hno, hbr, hsum => by
    have he := hin e (by simp)
    have hrest : Byt (E.flatMap (dnO L) ++ rest) := fun z hz => by
      rcases List.mem_append.1 hz with hz | hz
      · obtain ⟨x, hx, hzx⟩ := List.mem_flatMap.1 hz
        exact dnO_byt hf hb (hin x (by simp [hx])) z hzx
      · exact hbr z hz
    obtain ⟨d1, d2, d3, d4, d5, d6, d7, d8, d9⟩ := dnO_facts hf he (E.flatMap (dnO L) ++ rest)
    obtain ⟨ee, e1, e2, et, e3, e4, e5, e6⟩ := ent_in hf he
    have ht := hf.ent e1 e2 et
    rw [← ee] at ht
    have hsE : sumE (e :: E) = e.2.2.1 + sumE E := rfl
    have hpos : 0 ≤ sumE E := by
      have : ∀ F : List (Int × Int × Int × Int), (∀ x ∈ F, x ∈ entsK L 40) → 0 ≤ sumE F := by
        intro F
        induction F with
        | nil => intro _; exact Int.le_refl _
        | cons x F ih =>
          intro h
          have h1 := (ent_in hf (h x (by simp))).2.2.2.2.2.1
          have h2 := ih (fun y hy => h y (by simp [hy]))
          show 0 ≤ x.2.2.1 + sumE F
          omega
      exact this E (fun x hx => hin x (by simp [hx]))
    rw [List.flatMap_cons, List.append_assoc]
    have hbyt : Byt (dnO L e ++ (E.flatMap (dnO L) ++ rest)) := fun z hz => by
      rcases List.mem_append.1 hz with hz | hz
      · exact dnO_byt hf hb he z hz
      · exact hrest z hz
    have h0 : obE (dnO L e ++ (E.flatMap (dnO L) ++ rest)) a out = 0 := by
      unfold obE
      rw [d1, d2, d3, d4, d8, if_neg (by omega), if_neg (by rw [hndB_iff.2 ⟨e1, e2⟩]; simp), if_neg (fun h => h (hno e (by simp))), if_neg (by omega), if_neg (by omega), if_neg (by omega), if_neg (by omega), if_neg (by omega), if_neg (by omega)]
    obtain ⟨o2, oo, ot, og⟩ := o.next hbyt h0
    rw [List.length_cons]
    unfold obR
    rw [if_neg (fun h => h h0), d6]
    rw [d1] at oo ot og
    rw [d2, d7] at oo
    rw [d4] at o2
    rw [List.map_cons, List.nodup_cons] at hnd
    have hoe : ∀ x ∈ E, x.1 ≠ e.1 := fun x hx h => hnd.1 (by rw [← h]; exact List.mem_map.2 ⟨x, hx, rfl⟩)
    obtain ⟨out', a', r1, r2, r3, r4, r5⟩ := up_objs hf hb E (a + e.2.2.1.toNat) (obO (dnO L e ++ (E.flatMap (dnO L) ++ rest)) a out) rest o2 (fun x hx => hin x (by simp [hx])) hnd.2 (fun x hx => by
      obtain ⟨_, x1, x2, _⟩ := ent_in hf (hin x (by simp [hx]))
      rw [(ot x.1 x1 x2 (hoe x hx)).2]
      exact hno x (by simp [hx])) hbr (by omega)
    rw [d4]
    refine ⟨out', a', r1, r2, by omega, fun x hx => ?_, fun k k1 k2 hk => ?_⟩
    · rcases List.mem_cons.1 hx with rfl | hx
      · obtain ⟨p1, p2⟩ := r5 x.1 e1 e2 hoe
        refine ⟨p1.trans (oo.trans ?_), by rw [p2]; exact og⟩
        exact Prod.ext d9.symm rfl
      · exact r4 x hx
    · obtain ⟨p1, p2⟩ := r5 k k1 k2 (fun x hx => hk x (by simp [hx]))
      obtain ⟨p3, p4⟩ := ot k k1 k2 (fun h => hk e (by simp) h.symm)
      exact ⟨p1.trans p3, p2.trans p4⟩
/-- Roots likewise. -/
theorem up_roots : ∀ (l : List (ByteArray × Int)) (i : Nat) (out : List Int), Ros out i → i + l.length ≤ 8 → (∀ r ∈ l, NameOk r.1 ∧ chkE out r.2 = 0) → Apart (rootsK out 8 ++ l) →
    ∃ out', roR l.length i (l.flatMap dnR) out = (0, [], out') ∧ Ros out' (i + l.length) ∧ rootsK out' 8 = rootsK out 8 ++ l ∧ ∀ k, 1 ≤ k → k ≤ 40 → objOf out' k = objOf out k
  | [], i, out, o, _, _, _ => ⟨out, rfl, o, by simp, fun k _ _ => rfl⟩
  | x :: l, i, out, o, hi, hok, hap => by
    obtain ⟨hx1, hx2⟩ := hok x (by simp)
    rw [List.length_cons] at hi
    have hl8 := length_nameL x.1 hx1.2.1
    have hsh : (x :: l).flatMap dnR = nameL x.1 ++ (x.2 :: l.flatMap dnR) := by rw [List.flatMap_cons]; unfold dnR; simp
    have ht : ((x :: l).flatMap dnR).take 8 = nameL x.1 := by rw [hsh, List.take_append_of_le_length (by omega), List.take_of_length_le (by omega)]
    have hg : ((x :: l).flatMap dnR).getD 8 0 = x.2 := by rw [hsh, List.getD, List.getElem?_append_right (by omega), hl8]; rfl
    have hd : ((x :: l).flatMap dnR).drop 9 = l.flatMap dnR := by
      rw [hsh, List.drop_append, List.drop_of_length_le (by omega), hl8]
      rfl
    have hlen : 9 ≤ ((x :: l).flatMap dnR).length := by rw [hsh, List.length_append, hl8, List.length_cons]; omega
    have hro := readOut_name hx1
    have hnl : leadOf (rootsK out 8) x.1 = 0 := by
      unfold leadOf
      have : (rootsK out 8).find? (fun r => r.1 == x.1) = none := List.find?_eq_none.2 (fun r hr h => by
        have hnd := hap.nodup
        rw [List.map_append, List.nodup_append] at hnd
        exact hnd.2.2 r.1 (List.mem_map.2 ⟨r, hr, rfl⟩) x.1 (by simp) (ba_beq.1 h))
      rw [this]
      rfl
    have h0 : roE ((x :: l).flatMap dnR) out = 0 := by
      unfold roE
      rw [ht, hro, hg, if_neg (by omega), if_neg (by simp), if_neg (fun h => h hnl), if_neg (by omega)]
      exact hx2
    have hbx : ∀ r ∈ (x :: l), 1 ≤ r.2 ∧ r.2 ≤ 40 := fun r hr => hap.pos r (List.mem_append.2 (.inr hr))
    have hbyt : Byt ((x :: l).flatMap dnR) := fun z hz => by
      obtain ⟨r, hr, hzr⟩ := List.mem_flatMap.1 hz
      unfold dnR at hzr
      rcases List.mem_append.1 hzr with hz | hz
      · exact byt_nameL _ z hz
      · rw [List.mem_singleton.1 hz]
        have := hbx r hr
        omega
    obtain ⟨o2, hr2, hob⟩ := o.next (by omega) hbyt h0
    rw [ht, hro, hg] at hr2
    obtain ⟨out', r1, r2, r3, r4⟩ := up_roots l (i + 1) (roO ((x :: l).flatMap dnR) i out) o2 (by omega) (fun r hr => by
      obtain ⟨g1, g2⟩ := hok r (by simp [hr])
      have hb := hbx r (by simp [hr])
      exact ⟨g1, by rw [(hob r.2 hb.1 hb.2).2]; exact g2⟩) (by rw [hr2, List.append_assoc]; exact hap)
    rw [List.length_cons]
    unfold roR
    rw [if_neg (fun h => h h0), hd]
    refine ⟨out', r1, by rw [show i + (l.length + 1) = i + 1 + l.length by omega]; exact r2, ?_, fun k k1 k2 => (r4 k k1 k2).trans (hob k k1 k2).1⟩
    rw [r3, hr2, List.append_assoc]
    rfl
/-- Brought down and up again it is the same. -/
theorem up_down {L : List Int} (hf : Fine L) (hb : Byt L) : ∃ out, upS (dnL L) = (0, out) ∧ Fine out ∧ Byt out ∧ out.length = 6400 ∧ (∀ k, 1 ≤ k → k ≤ 40 → objOf out k = objOf L k) ∧ rootsK out 8 = rootsK L 8 := by
  have hl40 := entsK_len L 40
  have hr8 := rootsK_len L 8
  have hap := apart_roots hf.ok
  have hsum : sumE (entsK L 40) ≤ 6112 := by
    have h1 := lenSum_sh (entsK L 40)
    have h2 := used_sum hf
    have hg := take_good hf
    have hl := hf.len
    have h3 := hg.srtL.sum hg (by omega)
    have h4 := (lenSum_ge (fun r hr => (hg.srtL.freeIn hg (by omega) r hr).2.1)).1
    have h5 : lenSum (takeL L) = sumE (entsK L 40) := h1
    omega
  have hbR : Byt ([((rootsK L 8).length : Int)] ++ (rootsK L 8).flatMap dnR) := fun z hz => by
    rcases List.mem_append.1 hz with hz | hz
    · rw [List.mem_singleton.1 hz]; omega
    · obtain ⟨r, hr, hzr⟩ := List.mem_flatMap.1 hz
      unfold dnR at hzr
      rcases List.mem_append.1 hzr with hz | hz
      · exact byt_nameL _ z hz
      · rw [List.mem_singleton.1 hz]
        have := hap.pos r hr
        omega
  have hnd : ((entsK L 40).map (·.1)).Nodup := by
    have h1 := (ents_nodup (L := L) 40).1
    generalize entsK L 40 = E at h1 ⊢
    exact h1.imp (fun h e => by omega)
  obtain ⟨z1, z2, z3⟩ := zeros_fine (n := 6400) (by decide) (by decide)
  obtain ⟨o1, a1, p1, p2, p3, p4, p5⟩ := up_objs hf hb (entsK L 40) 288 (zerosB 6400) ([((rootsK L 8).length : Int)] ++ (rootsK L 8).flatMap dnR) Ois.start (fun e he => he) hnd (fun e _ => z2 e.1) hbR (by omega)
  have hobj : ∀ k, 1 ≤ k → k ≤ 40 → objOf o1 k = objOf L k := fun k k1 k2 => by
    by_cases ht : tagAt L k = 0
    · rw [objOf_none ht, (p5 k k1 k2 (fun e he h => ?_)).1, objOf_none (z2 k)]
      have := (ent_in hf he).2.2.2.1
      rw [h] at this
      exact this ht
    · exact (p4 _ (ent_mem k1 k2 ht)).1
  have hro : rootsK o1 8 = [] := by rw [rootsK_none (k := 0) 8 (by decide) (fun j _ hj => p2.none_ j hj)]; rfl
  have hroot : ∀ r ∈ rootsK L 8, NameOk r.1 ∧ chkE o1 r.2 = 0 := fun r hr => by
    obtain ⟨i, hi, hq, rfl⟩ := mem_rootsK_iff.1 hr
    obtain ⟨g1, g2, g3⟩ := lead_obj hf hi hq
    have hbad := badR_no.1 ((rFault_iff.1 (faults_iff.1 hf.ok).2).1 i hi hq)
    have hrb : Byt ((rowAt L i).take 8) := fun z hz => hb z (List.mem_of_mem_drop (List.mem_of_mem_take (List.mem_of_mem_take hz)))
    refine ⟨(readOut_ok hrb hbad.1).2.1, chkE_zero.2 ⟨p2.fine.len0, hndB_iff.2 ⟨g1, g2⟩, (p4 _ (ent_mem g1 g2 g3)).2⟩⟩
  obtain ⟨o2, q1, q2, q3, q4⟩ := up_roots (rootsK L 8) 0 o1 ⟨p2.fine, p2.len, p2.byt, fun j _ hj => p2.none_ j hj⟩ (by omega) hroot (by rw [hro]; exact hap)
  refine ⟨o2, ?_, q2.fine, q2.byt, q2.len, fun k k1 k2 => (q4 k k1 k2).trans (hobj k k1 k2), by rw [q3, hro]; rfl⟩
  unfold dnL
  obtain ⟨d1, d2, d3, d4⟩ := dnB_head (entsK L 40) (rootsK L 8) L
  generalize entsK L 40 = E at *
  generalize rootsK L 8 = R at *
  exact upS_of d1 d2 d3 hl40 (by rw [d4]; exact p1) hr8 q1
end Go.Proofs.YtllpeknpplpgeaaGreatDoor
/-! What is brought up is right, and says as much as it came of; cut short it is none; as plain lists. (Part of the proofs over images of old.) -/
namespace Go.Proofs.YtllpeknpplpgeaaGreatDoor
open Go.RowKit
set_option linter.unusedVariables false

/-- One entry more, where there was none. -/
theorem ents_more {L c : List Int} {h : Int} (h1 : 1 ≤ h) (ht : tagAt L h = 0) (hc : tagAt c h ≠ 0) (ho : ∀ k, 1 ≤ k → k ≤ 40 → k ≠ h → tagAt c k = tagAt L k ∧ entOf c k = entOf L k) :
    ∀ k : Nat, k ≤ 40 → ((k : Int) < h → entsK c k = entsK L k) ∧ (h ≤ k → (entsK c k).Perm (entOf c h :: entsK L k))
  | 0, _ => ⟨fun _ => rfl, fun h2 => by omega⟩
  | k + 1, hk => by
    obtain ⟨i1, i2⟩ := ents_more h1 ht hc ho k (by omega)
    have e1 : ∀ b : List Int, entsK b (k + 1) = entsK b k ++ if tagAt b ((k : Int) + 1) = 0 then [] else [entOf b ((k : Int) + 1)] := fun _ => rfl
    rw [e1 c, e1 L]
    refine ⟨fun hlt => ?_, fun hle => ?_⟩
    · obtain ⟨t1, t2⟩ := ho ((k : Int) + 1) (by omega) (by omega) (by omega)
      rw [i1 (by omega), t1, t2]
    · by_cases e : (k : Int) + 1 = h
      · subst e
        rw [i1 (by omega), if_neg hc, if_pos ht, List.append_nil]
        exact List.perm_append_singleton _ _
      · obtain ⟨t1, t2⟩ := ho ((k : Int) + 1) (by omega) (by omega) e
        rw [t1, t2]
        exact ((i2 (by omega)).append_right _)
theorem sumE_perm {l m : List (Int × Int × Int × Int)} (h : l.Perm m) : sumE l = sumE m := by
  rw [← lenSum_sh, ← lenSum_sh]
  exact lenSum_perm (h.map shE)
/-- One object more: so many more bytes. -/
theorem Ois.more {r : List Int} {a : Nat} {out : List Int} (o : Ois out a) (hb : Byt r) (h : obE r a out = 0) : (entsK (obO r a out) 40).length = (entsK out 40).length + 1 ∧ sumE (entsK (obO r a out) 40) = sumE (entsK out 40) + obN r := by
  obtain ⟨q1, q2, q3, q4, q5, q6, q7, q8, q9⟩ := obE_zero hb h
  have hh := hndB_iff.1 q2
  have hlo := o.lo
  have hlen := o.len
  have he : putE out (r.getD 0 0, (a : Int), getV r 2 2, r.getD 1 0) = 0 := putE_zero.2 ⟨o.fine.len0, q2, q4, q5, by dsimp only; omega, by dsimp only; omega, by dsimp only; omega, by dsimp only; omega⟩
  obtain ⟨pf, po, pt, pe, pl, ptl⟩ := put_fine o.fine he q3 (fun k k1 k2 hk => lapB_no.2 (.inl (o.ends k k1 k2 hk)))
  dsimp only at po pt pe
  have hbl : ((r.drop 4).take (obN r)).length = obN r := by rw [List.length_take, List.length_drop]; omega
  have hfit : a + ((r.drop 4).take (obN r)).length ≤ (putL out (r.getD 0 0, (a : Int), getV r 2 2, r.getD 1 0)).length := by rw [hbl, pl]; omega
  obtain ⟨lf, ll, le, lo⟩ := lay_objs pf hlo.1 hfit
  have hent : entOf (obO r a out) (r.getD 0 0) = (r.getD 0 0, (a : Int), getV r 2 2, r.getD 1 0) := (le _ hh.1 hh.2).2.trans pe
  have hp := (ents_more (c := obO r a out) hh.1 q3 (by unfold obO; rw [(le _ hh.1 hh.2).1]; exact pt) (fun k k1 k2 hk => ⟨(le k k1 k2).1.trans (po k k1 k2 hk).1, (le k k1 k2).2.trans (po k k1 k2 hk).2⟩) 40 (Nat.le_refl _)).2 hh.2
  rw [hent] at hp
  refine ⟨by rw [hp.length_eq, List.length_cons], ?_⟩
  rw [sumE_perm hp]
  show getV r 2 2 + sumE (entsK out 40) = _
  omega
theorem obR_ok : ∀ (n : Nat) {r : List Int} {a : Nat} {out r' : List Int} {a' : Nat} {o' : List Int}, Ois out a → Byt r → obR n r a out = (0, r', a', o') →
    Ois o' a' ∧ Byt r' ∧ a ≤ a' ∧ r.length = r'.length + 4 * n + (a' - a) ∧ (entsK o' 40).length = (entsK out 40).length + n ∧ sumE (entsK o' 40) = sumE (entsK out 40) + ((a' - a : Nat) : Int)
  | 0, r, a, out, r', a', o', o, hb, h => by
    have h' : ((0 : Int), r, a, out) = (0, r', a', o') := h
    simp only [Prod.mk.injEq, true_and] at h'
    obtain ⟨rfl, rfl, rfl⟩ := h'
    exact ⟨o, hb, Nat.le_refl _, by omega, by omega, by omega⟩
  | n + 1, r, a, out, r', a', o', o, hb, h => by
    unfold obR at h
    by_cases h0 : obE r a out = 0
    · rw [if_neg (fun h => h h0)] at h
      obtain ⟨o2, _⟩ := o.next hb h0
      obtain ⟨m1, m2⟩ := o.more hb h0
      have hlen := (obE_zero hb h0).1
      obtain ⟨p1, p2, p3, p4, p5, p6⟩ := obR_ok n o2 (fun z hz => hb z (List.mem_of_mem_drop hz)) h
      rw [List.length_drop] at p4
      exact ⟨p1, p2, by omega, by omega, by omega, by omega⟩
    · rw [if_pos h0] at h
      simp only [Prod.mk.injEq] at h
      exact absurd h.1 h0
theorem roR_ok : ∀ (n : Nat) {i : Nat} {r out r' o' : List Int}, Ros out i → i + n ≤ 8 → Byt r → roR n i r out = (0, r', o') →
    Ros o' (i + n) ∧ r.length = r'.length + 9 * n ∧ (rootsK o' 8).length = (rootsK out 8).length + n ∧ ∀ k, 1 ≤ k → k ≤ 40 → objOf o' k = objOf out k ∧ chkE o' k = chkE out k
  | 0, i, r, out, r', o', o, _, hb, h => by
    have h' : ((0 : Int), r, out) = (0, r', o') := h
    simp only [Prod.mk.injEq, true_and] at h'
    obtain ⟨rfl, rfl⟩ := h'
    exact ⟨o, by omega, by omega, fun _ _ _ => ⟨rfl, rfl⟩⟩
  | n + 1, i, r, out, r', o', o, hi, hb, h => by
    unfold roR at h
    by_cases h0 : roE r out = 0
    · rw [if_neg (fun h => h h0)] at h
      obtain ⟨o2, hr2, hob⟩ := o.next (by omega) hb h0
      have hlen := (roE_zero h0).1
      obtain ⟨p1, p2, p3, p4⟩ := roR_ok n o2 (by omega) (fun z hz => hb z (List.mem_of_mem_drop hz)) h
      rw [List.length_drop] at p2
      rw [hr2, List.length_append, List.length_singleton] at p3
      exact ⟨by rw [show i + (n + 1) = i + 1 + n by omega]; exact p1, by omega, by omega, fun k k1 k2 => ⟨(p4 k k1 k2).1.trans (hob k k1 k2).1, (p4 k k1 k2).2.trans (hob k k1 k2).2⟩⟩
    · rw [if_pos h0] at h
      simp only [Prod.mk.injEq] at h
      exact absurd h.1 h0
/-- What Up has gone through where nothing is wrong. -/
theorem upS_zero {b out : List Int} (h : upS b = (0, out)) : hdB b = true ∧ 5 ≤ b.length ∧ b.getD 4 0 ≤ 40 ∧ ∃ (m : Int) (rest : List Int) (a1 : Nat) (o1 : List Int), obR (b.getD 4 0).toNat (b.drop 5) 288 (zerosB 6400) = (0, m :: rest, a1, o1) ∧ m ≤ 8 ∧ roR m.toNat 0 rest o1 = (0, [], out) := by
  unfold upS at h
  cases hd : hdB b with
  | false => rw [hd, if_pos rfl] at h; simp at h
  | true =>
    rw [hd, if_neg (by simp)] at h
    by_cases h5 : b.length < 5 ∨ 40 < b.getD 4 0
    · rw [if_pos h5] at h; simp at h
    · rw [if_neg h5] at h
      generalize obR (b.getD 4 0).toNat (b.drop 5) 288 (zerosB 6400) = s at *
      obtain ⟨e, r, a1, o1⟩ := s
      dsimp only at h
      by_cases h6 : e = 0
      · subst h6
        rw [if_neg (by simp)] at h
        by_cases h7 : r.length = 0 ∨ 8 < r.getD 0 0
        · rw [if_pos h7] at h; simp at h
        · rw [if_neg h7] at h
          cases r with
          | nil => exact absurd (.inl rfl) h7
          | cons m rest =>
            have em : (m :: rest).getD 0 0 = m := rfl
            have er : (m :: rest).drop 1 = rest := rfl
            rw [em, er] at h
            rw [em] at h7
            refine ⟨rfl, by omega, by omega, m, rest, a1, o1, rfl, by omega, ?_⟩
            generalize roR m.toNat 0 rest o1 = t at *
            obtain ⟨e2, r2, o2⟩ := t
            dsimp only at h
            by_cases h8 : e2 = 0
            · subst h8
              rw [if_neg (by simp)] at h
              by_cases h9 : r2 = []
              · subst h9
                rw [if_neg (by simp)] at h
                simp only [Prod.mk.injEq, true_and] at h
                rw [h]
              · rw [if_pos h9] at h; simp at h
            · rw [if_pos h8] at h
              simp only [Prod.mk.injEq] at h
              exact absurd h.1 h8
      · rw [if_pos h6] at h
        simp only [Prod.mk.injEq] at h
        exact absurd h.1 h6
theorem ents_same_obj {L c : List Int} (hL : Fine L) (hc : Fine c) (ht : ∀ k, 1 ≤ k → k ≤ 40 → objOf c k = objOf L k ∧ chkE c k = chkE L k) : (entsK c 40).length = (entsK L 40).length ∧ sumE (entsK c 40) = sumE (entsK L 40) := by
  have key : ∀ k : Nat, k ≤ 40 → (entsK c k).length = (entsK L k).length ∧ sumE (entsK c k) = sumE (entsK L k) := by
    intro k
    induction k with
    | zero => intro _; exact ⟨rfl, rfl⟩
    | succ k ih =>
      intro hk
      obtain ⟨i1, i2⟩ := ih (by omega)
      have e1 : ∀ b : List Int, entsK b (k + 1) = entsK b k ++ if tagAt b ((k : Int) + 1) = 0 then [] else [entOf b ((k : Int) + 1)] := fun _ => rfl
      obtain ⟨o1, o2⟩ := ht ((k : Int) + 1) (by omega) (by omega)
      have hh : hndB ((k : Int) + 1) = true := hndB_iff.2 ⟨by omega, by omega⟩
      have hz : tagAt c ((k : Int) + 1) = 0 ↔ tagAt L ((k : Int) + 1) = 0 := by
        have a1 := chkE_zero (b := c) (h := (k : Int) + 1)
        have a2 := chkE_zero (b := L) (h := (k : Int) + 1)
        rw [o2] at a1
        constructor
        · intro h
          refine Classical.byContradiction fun hn => ?_
          exact (a1.1 (a2.2 ⟨hL.len0, hh, hn⟩)).2.2 h
        · intro h
          refine Classical.byContradiction fun hn => ?_
          exact (a2.1 (a1.2 ⟨hc.len0, hh, hn⟩)).2.2 h
      rw [e1 c, e1 L, List.length_append, List.length_append, sumE_append, sumE_append, i1, i2]
      by_cases hq : tagAt L ((k : Int) + 1) = 0
      · rw [if_pos hq, if_pos (hz.2 hq)]
        exact ⟨rfl, rfl⟩
      · have hq2 : ¬ tagAt c ((k : Int) + 1) = 0 := fun h => hq (hz.1 h)
        rw [if_neg hq, if_neg hq2]
        refine ⟨rfl, ?_⟩
        have l1 := (dnO_facts hL (ent_mem (L := L) (h := (k : Int) + 1) (by omega) (by omega) hq) []).2.2.2.2.1
        have l2 := (dnO_facts hc (ent_mem (L := c) (h := (k : Int) + 1) (by omega) (by omega) hq2) []).2.2.2.2.1
        have v1 := (hL.ent (h := (k : Int) + 1) (by omega) (by omega) hq).2.1
        have v2 := (hc.ent (h := (k : Int) + 1) (by omega) (by omega) hq2).2.1
        rw [ent_handle] at l1 l2
        rw [o1, l1] at l2
        show sumE (entsK L k) + ((entOf c ((k : Int) + 1)).2.2.1 + 0) = sumE (entsK L k) + ((entOf L ((k : Int) + 1)).2.2.1 + 0)
        omega
  exact key 40 (Nat.le_refl _)
/-- How long an image of old is. -/
theorem dn_len {L : List Int} (hf : Fine L) (hb : Byt L) : ((dnL L).length : Int) = 6 + 4 * (entsK L 40).length + sumE (entsK L 40) + 9 * (rootsK L 8).length := by
  have hE : ∀ E : List (Int × Int × Int × Int), (∀ e ∈ E, e ∈ entsK L 40) → ((E.flatMap (dnO L)).length : Int) = 4 * E.length + sumE E := by
    intro E
    induction E with
    | nil => intro _; rfl
    | cons e E ih =>
      intro h
      have h1 := (dnO_facts hf (h e (by simp)) []).2.2.2.2.2.2.2.1
      rw [List.append_nil, List.length_nil] at h1
      have h2 := ih (fun x hx => h x (by simp [hx]))
      have h3 := (ent_in hf (h e (by simp))).2.2.2.2.2.1
      rw [List.flatMap_cons, List.length_append, List.length_cons]
      show (((dnO L e).length + (E.flatMap (dnO L)).length : Nat) : Int) = 4 * ((E.length + 1 : Nat) : Int) + (e.2.2.1 + sumE E)
      omega
  have hR : ∀ R : List (ByteArray × Int), (∀ r ∈ R, r ∈ rootsK L 8) → (R.flatMap dnR).length = 9 * R.length := by
    intro R
    induction R with
    | nil => intro _; rfl
    | cons r R ih =>
      intro h
      obtain ⟨i, hi, hq, e⟩ := mem_rootsK_iff.1 (h r (by simp))
      have hbad := badR_no.1 ((rFault_iff.1 (faults_iff.1 hf.ok).2).1 i hi hq)
      have hrb : Byt ((rowAt L i).take 8) := fun z hz => hb z (List.mem_of_mem_drop (List.mem_of_mem_take (List.mem_of_mem_take hz)))
      have hok : NameOk r.1 := by rw [← e]; exact (readOut_ok hrb hbad.1).2.1
      rw [List.flatMap_cons, List.length_append, ih (fun x hx => h x (by simp [hx])), List.length_cons]
      unfold dnR
      rw [List.length_append, length_nameL _ hok.2.1, List.length_singleton]
      omega
  have h1 := hE (entsK L 40) (fun e he => he)
  have h2 := hR (rootsK L 8) (fun r hr => hr)
  unfold dnL dnB
  generalize entsK L 40 = E at *
  generalize rootsK L 8 = R at *
  rw [List.length_append, List.length_append, List.length_append, h2]
  simp only [List.length_cons, List.length_nil]
  omega
/-- What is brought up is right, and brought down again it is as long as it came. -/
theorem up_fine {b out : List Int} (hb : Byt b) (h : upS b = (0, out)) : Fine out ∧ Byt out ∧ out.length = 6400 ∧ (dnL out).length = b.length := by
  obtain ⟨h1, h2, h3, m, rest, a1, o1, h4, h5, h6⟩ := upS_zero h
  have hb4 := hb.getD 4
  obtain ⟨p1, p2, p3, p4, p5, p6⟩ := obR_ok _ Ois.start (fun z hz => hb z (List.mem_of_mem_drop hz)) h4
  have hm := p2 m (by simp)
  obtain ⟨q1, q2, q3, q4⟩ := roR_ok _ (i := 0) ⟨p1.fine, p1.len, p1.byt, fun j _ hj => p1.none_ j hj⟩ (by omega) (fun z hz => p2 z (by simp [hz])) h6
  refine ⟨q1.fine, q1.byt, q1.len, ?_⟩
  have hro : rootsK o1 8 = [] := by rw [rootsK_none (k := 0) 8 (by decide) (fun j _ hj => p1.none_ j hj)]; rfl
  obtain ⟨z1, z2, z3⟩ := zeros_fine (n := 6400) (by decide) (by decide)
  have hz : entsK (zerosB 6400) 40 = [] := List.eq_nil_iff_forall_not_mem.2 (fun x hx => by
    obtain ⟨j, _, ht, _⟩ := mem_entsP.1 hx
    exact ht (z2 _))
  obtain ⟨s1, s2⟩ := ents_same_obj p1.fine q1.fine q4
  have hd := dn_len q1.fine q1.byt
  rw [s1, s2, p5, p6, hz, q3, hro] at hd
  rw [List.length_drop, List.length_cons] at p4
  rw [List.length_nil] at q2
  have hs0 : sumE [] = 0 := rfl
  rw [hs0] at hd
  simp only [List.length_nil] at hd
  omega
end Go.Proofs.YtllpeknpplpgeaaGreatDoor
/-! What the document's own Up comes to, step by step, as plain lists. (Part of the proof of OldTells.) -/
namespace Go.Proofs.YtllpeknpplpgeaaGreatDoor
open Go.RowKit
set_option linter.unusedVariables false

section
variable {b r out : List Int} {a : Nat}
theorem obE_0 (h1 : r.length = 0) : obE r a out = 2 := by
  unfold obE
  rw [if_pos h1]
theorem obE_1 (h1 : ¬ r.length = 0) (h2 : hndB (r.getD 0 0) = false) : obE r a out = 1 := by
  unfold obE
  rw [if_neg h1, if_pos h2]
theorem obE_2 (h1 : ¬ r.length = 0) (h2 : hndB (r.getD 0 0) = true) (h3 : tagAt out (r.getD 0 0) ≠ 0) : obE r a out = 7 := by
  unfold obE
  rw [if_neg h1, if_neg (by rw [h2]; simp), if_pos h3]
theorem obE_3 (h1 : ¬ r.length = 0) (h2 : hndB (r.getD 0 0) = true) (h3 : tagAt out (r.getD 0 0) = 0) (h4 : r.length ≤ 1) : obE r a out = 2 := by
  unfold obE
  rw [if_neg h1, if_neg (by rw [h2]; simp), if_neg (fun h => h h3), if_pos h4]
theorem obE_4 (h2 : hndB (r.getD 0 0) = true) (h3 : tagAt out (r.getD 0 0) = 0) (h4 : ¬ r.length ≤ 1) (h5 : 15 < r.getD 1 0) : obE r a out = 1 := by
  unfold obE
  rw [if_neg (by omega), if_neg (by rw [h2]; simp), if_neg (fun h => h h3), if_neg h4, if_pos h5]
theorem obE_5 (h2 : hndB (r.getD 0 0) = true) (h3 : tagAt out (r.getD 0 0) = 0) (h4 : ¬ r.length ≤ 1) (h5 : ¬ 15 < r.getD 1 0) (h6 : r.length < 4) : obE r a out = 2 := by
  unfold obE
  rw [if_neg (by omega), if_neg (by rw [h2]; simp), if_neg (fun h => h h3), if_neg h4, if_neg h5, if_pos h6]
theorem obE_6 (h2 : hndB (r.getD 0 0) = true) (h3 : tagAt out (r.getD 0 0) = 0) (h5 : ¬ 15 < r.getD 1 0) (h6 : ¬ r.length < 4) (h7 : getV r 2 2 < 1 ∨ 1000 < getV r 2 2) : obE r a out = 1 := by
  unfold obE
  rw [if_neg (by omega), if_neg (by rw [h2]; simp), if_neg (fun h => h h3), if_neg (by omega), if_neg h5, if_neg h6, if_pos h7]
theorem obE_7 (h2 : hndB (r.getD 0 0) = true) (h3 : tagAt out (r.getD 0 0) = 0) (h5 : ¬ 15 < r.getD 1 0) (h6 : ¬ r.length < 4) (h7 : ¬ (getV r 2 2 < 1 ∨ 1000 < getV r 2 2)) (h8 : r.length < 4 + obN r) : obE r a out = 2 := by
  unfold obE
  rw [if_neg (by omega), if_neg (by rw [h2]; simp), if_neg (fun h => h h3), if_neg (by omega), if_neg h5, if_neg h6, if_neg h7, if_pos h8]
theorem obE_8 (h2 : hndB (r.getD 0 0) = true) (h3 : tagAt out (r.getD 0 0) = 0) (h5 : ¬ 15 < r.getD 1 0) (h6 : ¬ r.length < 4) (h7 : ¬ (getV r 2 2 < 1 ∨ 1000 < getV r 2 2)) (h8 : ¬ r.length < 4 + obN r) : obE r a out = if 6400 < a + obN r then 4 else 0 := by
  unfold obE
  rw [if_neg (by omega), if_neg (by rw [h2]; simp), if_neg (fun h => h h3), if_neg (by omega), if_neg h5, if_neg h6, if_neg h7, if_neg h8]
theorem obR_stop (k : Nat) (h : obE r a out ≠ 0) : obR (k + 1) r a out = (obE r a out, [], 0, []) := by
  show (if obE r a out ≠ 0 then _ else _) = _
  rw [if_pos h]
theorem obR_go (k : Nat) (h : obE r a out = 0) : obR (k + 1) r a out = obR k (r.drop (4 + obN r)) (a + obN r) (obO r a out) := by
  show (if obE r a out ≠ 0 then _ else _) = _
  rw [if_neg (fun hx => hx h)]
theorem roR_stop (k i : Nat) (h : roE r out ≠ 0) : roR (k + 1) i r out = (roE r out, [], []) := by
  show (if roE r out ≠ 0 then _ else _) = _
  rw [if_pos h]
theorem roR_go (k i : Nat) (h : roE r out = 0) : roR (k + 1) i r out = roR k (i + 1) (r.drop 9) (roO r i out) := by
  show (if roE r out ≠ 0 then _ else _) = _
  rw [if_neg (fun hx => hx h)]
theorem roE_0 (h1 : r.length < 8) : roE r out = 2 := by
  unfold roE
  rw [if_pos h1]
theorem roE_1 (h1 : ¬ r.length < 8) (h2 : (readOut (r.take 8)).2 ≠ 0) : roE r out = 2 := by
  unfold roE
  rw [if_neg h1, if_pos h2]
theorem roE_2 (h1 : ¬ r.length < 8) (h2 : (readOut (r.take 8)).2 = 0) (h3 : leadOf (rootsK out 8) (readOut (r.take 8)).1 ≠ 0) : roE r out = 7 := by
  unfold roE
  rw [if_neg h1, if_neg (fun h => h h2), if_pos h3]
theorem roE_3 (h1 : ¬ r.length < 8) (h2 : (readOut (r.take 8)).2 = 0) (h3 : leadOf (rootsK out 8) (readOut (r.take 8)).1 = 0) (h4 : r.length < 9) : roE r out = 2 := by
  unfold roE
  rw [if_neg h1, if_neg (fun h => h h2), if_neg (fun h => h h3), if_pos h4]
theorem roE_4 (h2 : (readOut (r.take 8)).2 = 0) (h3 : leadOf (rootsK out 8) (readOut (r.take 8)).1 = 0) (h4 : ¬ r.length < 9) : roE r out = chkE out (r.getD 8 0) := by
  unfold roE
  rw [if_neg (by omega), if_neg (fun h => h h2), if_neg (fun h => h h3), if_neg h4]
/-- The objects; the roots. -/
def upZ (b : List Int) : Int × List Int × Nat × List Int := obR (b.getD 4 0).toNat (b.drop 5) 288 (zerosB 6400)
def upV (Z : Int × List Int × Nat × List Int) : Int × List Int × List Int := roR (Z.2.1.getD 0 0).toNat 0 (Z.2.1.drop 1) Z.2.2.2
theorem upS_hd (h : hdB b = false) : upS b = (2, []) := by unfold upS; rw [if_pos h]
theorem upS_n (h : hdB b = true) (h2 : b.length < 5 ∨ 40 < b.getD 4 0) : upS b = (2, []) := by unfold upS; rw [if_neg (by rw [h]; simp), if_pos h2]
theorem upS_o (h : hdB b = true) (h2 : ¬ (b.length < 5 ∨ 40 < b.getD 4 0)) (h3 : (upZ b).1 ≠ 0) : upS b = ((upZ b).1, []) := by
  unfold upS
  rw [if_neg (by rw [h]; simp), if_neg h2]
  exact if_pos h3
theorem upS_m (h : hdB b = true) (h2 : ¬ (b.length < 5 ∨ 40 < b.getD 4 0)) (h3 : (upZ b).1 = 0) (h4 : (upZ b).2.1.length = 0 ∨ 8 < (upZ b).2.1.getD 0 0) : upS b = (2, []) := by
  unfold upS
  rw [if_neg (by rw [h]; simp), if_neg h2]
  exact (if_neg (fun hx => hx h3)).trans (if_pos h4)
theorem upS_r (h : hdB b = true) (h2 : ¬ (b.length < 5 ∨ 40 < b.getD 4 0)) (h3 : (upZ b).1 = 0) (h4 : ¬ ((upZ b).2.1.length = 0 ∨ 8 < (upZ b).2.1.getD 0 0)) (h5 : (upV (upZ b)).1 ≠ 0) : upS b = ((upV (upZ b)).1, []) := by
  unfold upS
  rw [if_neg (by rw [h]; simp), if_neg h2]
  exact (if_neg (fun hx => hx h3)).trans ((if_neg h4).trans (if_pos h5))
theorem upS_e (h : hdB b = true) (h2 : ¬ (b.length < 5 ∨ 40 < b.getD 4 0)) (h3 : (upZ b).1 = 0) (h4 : ¬ ((upZ b).2.1.length = 0 ∨ 8 < (upZ b).2.1.getD 0 0)) (h5 : (upV (upZ b)).1 = 0) (h6 : (upV (upZ b)).2.1 ≠ []) : upS b = (2, []) := by
  unfold upS
  rw [if_neg (by rw [h]; simp), if_neg h2]
  exact (if_neg (fun hx => hx h3)).trans ((if_neg h4).trans ((if_neg (fun hx => hx h5)).trans (if_pos h6)))
theorem upS_ok (h : hdB b = true) (h2 : ¬ (b.length < 5 ∨ 40 < b.getD 4 0)) (h3 : (upZ b).1 = 0) (h4 : ¬ ((upZ b).2.1.length = 0 ∨ 8 < (upZ b).2.1.getD 0 0)) (h5 : (upV (upZ b)).1 = 0) (h6 : (upV (upZ b)).2.1 = []) : upS b = (0, (upV (upZ b)).2.2) := by
  unfold upS
  rw [if_neg (by rw [h]; simp), if_neg h2]
  exact (if_neg (fun hx => hx h3)).trans ((if_neg h4).trans ((if_neg (fun hx => hx h5)).trans (if_neg (fun hx => hx h6))))
end
/-- One byte more. -/
theorem splice_more {P B : List Int} {x j : Nat} (hj : j < B.length) (hfit : x + B.length ≤ P.length) : (splice P x (B.take j)).set (x + j) (B.getD j 0) = splice P x (B.take (j + 1)) := by
  have l1 : (B.take j).length = j := by rw [List.length_take]; omega
  have l2 : (B.take (j + 1)).length = j + 1 := by rw [List.length_take]; omega
  have f1 : x + (B.take j).length ≤ P.length := by omega
  have f2 : x + (B.take (j + 1)).length ≤ P.length := by omega
  have hs1 : (splice P x (B.take j)).length = P.length := length_splice f1
  have hs2 : (splice P x (B.take (j + 1))).length = P.length := length_splice f2
  have tk : ∀ m i, i < m → (B.take m).getD i 0 = B.getD i 0 := fun m i hi => by simp [List.getD, hi]
  apply ext_getD
  · rw [List.length_set, hs1, hs2]
  · intro i hi
    rw [List.length_set, hs1] at hi
    have hset : ((splice P x (B.take j)).set (x + j) (B.getD j 0)).getD i 0 = if i = x + j then B.getD j 0 else (splice P x (B.take j)).getD i 0 := by
      by_cases e : i = x + j
      · subst e
        rw [if_pos rfl]
        simp [List.getD, hs1, hi]
      · rw [if_neg e]
        simp [List.getD, List.getElem?_set_ne (Ne.symm e)]
    rw [hset]
    by_cases e : i = x + j
    · subst e
      rw [if_pos rfl, splice_in f2 (show j < (B.take (j + 1)).length by omega), tk _ _ (by omega)]
    · rw [if_neg e]
      by_cases h1 : i < x
      · rw [splice_out f1 (.inl h1), splice_out f2 (.inl h1)]
      · by_cases h2 : i < x + j
        · obtain ⟨k, rfl⟩ : ∃ k, i = x + k := ⟨i - x, by omega⟩
          rw [splice_in f1 (show k < (B.take j).length by omega), splice_in f2 (show k < (B.take (j + 1)).length by omega), tk _ _ (by omega), tk _ _ (by omega)]
        · rw [splice_out f1 (.inr (by omega)), splice_out f2 (.inr (by omega))]
end Go.Proofs.YtllpeknpplpgeaaGreatDoor
/-! Images of old, as the code reads them: objects and roots in lists, laid into an image at the end; it comes to what Up answers. (Part of the proofs over images of old.) -/
namespace Go.Proofs.YtllpeknpplpgeaaGreatDoor
open Go.RowKit
set_option linter.unusedVariables false

/-- Is there an object of that handle? -/
def hasO (O : List ((Int × Int × Int × Int) × List Int)) (h : Int) : Bool := O.any (fun o => decide (o.1.1 = h))
/-- Is there a root of that name? -/
def hasR (R : List (ByteArray × Int)) (s : ByteArray) : Bool := R.any (fun r => r.1 == s)
/-- What is wrong with the next object. -/
def obC (r : List Int) (a : Nat) (O : List ((Int × Int × Int × Int) × List Int)) : Int :=
  if r.length = 0 then 2 else if hndB (r.getD 0 0) = false then 1 else if hasO O (r.getD 0 0) = true then 7 else if r.length ≤ 1 then 2 else if 15 < r.getD 1 0 then 1
  else if r.length < 4 then 2 else if getV r 2 2 < 1 ∨ 1000 < getV r 2 2 then 1 else if r.length < 4 + obN r then 2 else if 6400 < a + obN r then 4 else 0
def obX (r : List Int) (a : Nat) : (Int × Int × Int × Int) × List Int := ((r.getD 0 0, (a : Int), getV r 2 2, r.getD 1 0), (r.drop 4).take (obN r))
def obK : Nat → List Int → Nat → List ((Int × Int × Int × Int) × List Int) → Int × List Int × Nat × List ((Int × Int × Int × Int) × List Int)
  | 0, r, a, O => (0, r, a, O)
  | n + 1, r, a, O => if obC r a O ≠ 0 then (obC r a O, [], 0, []) else obK n (r.drop (4 + obN r)) (a + obN r) (O ++ [obX r a])
/-- What is wrong with the next root. -/
def roF (r : List Int) (O : List ((Int × Int × Int × Int) × List Int)) (R : List (ByteArray × Int)) : Int :=
  if r.length < 8 then 2 else if (readOut (r.take 8)).2 ≠ 0 then 2 else if hasR R (readOut (r.take 8)).1 = true then 7 else if r.length < 9 then 2
  else if hndB (r.getD 8 0) = false then 1 else if hasO O (r.getD 8 0) = false then 5 else 0
def roK : Nat → List Int → List ((Int × Int × Int × Int) × List Int) → List (ByteArray × Int) → Int × List Int × List (ByteArray × Int)
  | 0, r, O, R => (0, r, R)
  | n + 1, r, O, R => if roF r O R ≠ 0 then (roF r O R, [], []) else roK n (r.drop 9) O (R ++ [((readOut (r.take 8)).1, r.getD 8 0)])
/-- The whole reading. -/
def upB (b : List Int) : Int × List Int × Nat × List ((Int × Int × Int × Int) × List Int) := obK (b.getD 4 0).toNat (b.drop 5) 288 []
def upC (x : Int × List Int × Nat × List ((Int × Int × Int × Int) × List Int)) : Int × List Int × List (ByteArray × Int) := roK (x.2.1.getD 0 0).toNat (x.2.1.drop 1) x.2.2.2 []
def upK (b : List Int) : Int × List ((Int × Int × Int × Int) × List Int) × List (ByteArray × Int) :=
  if hdB b = false then (2, [], []) else if b.length < 5 ∨ 40 < b.getD 4 0 then (2, [], [])
  else if (upB b).1 ≠ 0 then ((upB b).1, [], [])
  else if (upB b).2.1.length = 0 ∨ 8 < (upB b).2.1.getD 0 0 then (2, [], [])
  else if (upC (upB b)).1 ≠ 0 then ((upC (upB b)).1, [], [])
  else if (upC (upB b)).2.1 ≠ [] then (2, [], [])
  else (0, (upB b).2.2.2, (upC (upB b)).2.2)
/-- An object is laid into an image. -/
def layO1 (out : List Int) (o : (Int × Int × Int × Int) × List Int) : List Int := splice (putL out o.1) o.1.2.1.toNat o.2
def layO (O : List ((Int × Int × Int × Int) × List Int)) (out : List Int) : List Int := O.foldl layO1 out
def layR : List (ByteArray × Int) → Nat → List Int → List Int
  | [], _, out => out
  | r :: R, i, out => layR R (i + 1) (prL out i r)
/-- An object that may be laid into it. -/
def MayO (out : List Int) (o : (Int × Int × Int × Int) × List Int) : Prop :=
  putE out o.1 = 0 ∧ out.length = 6400 ∧ Byt out ∧ Byt o.2 ∧ 288 ≤ o.1.2.1 ∧ o.1.2.1 + (o.2.length : Int) ≤ 6400 ∧ (o.2.length : Int) = o.1.2.2.1 ∧ 1 ≤ o.2.length ∧ o.2.length ≤ 1000 ∧ 1 ≤ o.1.1 ∧ o.1.1 ≤ 40 ∧ 0 ≤ o.1.2.2.2 ∧ o.1.2.2.2 ≤ 15
def LaysO (O : List ((Int × Int × Int × Int) × List Int)) (out : List Int) : Prop := ∀ (i : Nat) (o : (Int × Int × Int × Int) × List Int), O[i]? = some o → MayO (layO (O.take i) out) o
def LaysR (R : List (ByteArray × Int)) (out : List Int) : Prop := ∀ (i : Nat) (r : (ByteArray × Int)), R[i]? = some r → prE (layR (R.take i) 0 out) i r = 0 ∧ (layR (R.take i) 0 out).length = 6400 ∧ Byt (layR (R.take i) 0 out)
theorem layO_more (O : List ((Int × Int × Int × Int) × List Int)) (x : (Int × Int × Int × Int) × List Int) (out : List Int) : layO (O ++ [x]) out = layO1 (layO O out) x := by unfold layO; rw [List.foldl_append]; rfl
theorem layR_more : ∀ (R : List (ByteArray × Int)) (x : (ByteArray × Int)) (i : Nat) (out : List Int), layR (R ++ [x]) i out = prL (layR R i out) ((i + R.length : Nat) : Int) x
  | [], x, i, out => rfl
  | r :: R, x, i, out => by
    show layR (R ++ [x]) (i + 1) (prL out i r) = _
    rw [layR_more R x (i + 1) (prL out i r), List.length_cons, show i + 1 + R.length = i + (R.length + 1) by omega]
    rfl
theorem take_more {α : Type} {l : List α} {i : Nat} {x : α} (h : l[i]? = some x) : l.take (i + 1) = l.take i ++ [x] := by rw [List.take_add_one, h]; rfl
theorem layO_next {O : List ((Int × Int × Int × Int) × List Int)} {i : Nat} {x : (Int × Int × Int × Int) × List Int} (h : O[i]? = some x) (out : List Int) : layO (O.take (i + 1)) out = layO1 (layO (O.take i) out) x := by rw [take_more h, layO_more]
theorem layR_next {R : List (ByteArray × Int)} {i : Nat} {x : (ByteArray × Int)} (h : R[i]? = some x) (out : List Int) : layR (R.take (i + 1)) 0 out = prL (layR (R.take i) 0 out) i x := by
  have hi := (List.getElem?_eq_some_iff.1 h).1
  rw [take_more h, layR_more, List.length_take, Nat.min_eq_left (by omega), Nat.zero_add]
theorem hasO_more (O : List ((Int × Int × Int × Int) × List Int)) (x : (Int × Int × Int × Int) × List Int) (k : Int) : hasO (O ++ [x]) k = (hasO O k || decide (x.1.1 = k)) := by unfold hasO; simp
theorem hasR_more (R : List (ByteArray × Int)) (x : (ByteArray × Int)) (s : ByteArray) : hasR (R ++ [x]) s = (hasR R s || x.1 == s) := by unfold hasR; simp
theorem obX_lay (r : List Int) (a : Nat) (out : List Int) : layO1 out (obX r a) = obO r a out := by unfold layO1 obX obO; dsimp only; rw [Int.toNat_natCast]
/-- What was read, and the image that it makes. -/
structure Obi (O : List ((Int × Int × Int × Int) × List Int)) (out : List Int) (a : Nat) : Prop where
  eq : out = layO O (zerosB 6400)
  ois : Ois out a
  has : ∀ k, 1 ≤ k → k ≤ 40 → (hasO O k = true ↔ tagAt out k ≠ 0)
  lays : LaysO O (zerosB 6400)
theorem Obi.start : Obi [] (zerosB 6400) 288 := by
  refine ⟨rfl, Ois.start, fun k k1 k2 => ?_, fun i o h => by simp at h⟩
  obtain ⟨z1, z2, z3⟩ := zeros_fine (n := 6400) (by decide) (by decide)
  refine ⟨fun h => by simp [hasO] at h, fun h => absurd (z2 k) h⟩
theorem Obi.err {O : List ((Int × Int × Int × Int) × List Int)} {out r : List Int} {a : Nat} (o : Obi O out a) : obC r a O = obE r a out := by
  unfold obC obE
  by_cases h1 : r.length = 0
  · rw [if_pos h1, if_pos h1]
  rw [if_neg h1, if_neg h1]
  by_cases h2 : hndB (r.getD 0 0) = false
  · rw [if_pos h2, if_pos h2]
  rw [if_neg h2, if_neg h2]
  have hh := hndB_iff.1 (eq_true_of_ne_false h2)
  have hi := o.has _ hh.1 hh.2
  by_cases h3 : tagAt out (r.getD 0 0) ≠ 0
  · rw [if_pos (hi.2 h3), if_pos h3]
  · rw [if_neg (fun h => h3 (hi.1 h)), if_neg h3]
theorem Obi.next {O : List ((Int × Int × Int × Int) × List Int)} {out r : List Int} {a : Nat} (o : Obi O out a) (hb : Byt r) (h : obC r a O = 0) : Obi (O ++ [obX r a]) (obO r a out) (a + obN r) := by
  rw [o.err] at h
  obtain ⟨o2, h1, h2, h3⟩ := o.ois.next hb h
  obtain ⟨q1, q2, q3, q4, q5, q6, q7, q8, q9⟩ := obE_zero hb h
  have hh := hndB_iff.1 q2
  have hlo := o.ois.lo
  refine ⟨by rw [layO_more, ← o.eq, obX_lay], o2, fun k k1 k2 => ?_, fun i x hx => ?_⟩
  · rw [hasO_more]
    have e : (obX r a).1.1 = r.getD 0 0 := rfl
    rw [e]
    by_cases hk : r.getD 0 0 = k
    · subst hk
      exact ⟨fun _ => h3, fun _ => by rw [decide_eq_true rfl, Bool.or_true]⟩
    · have := o.has k k1 k2
      rw [(h2 k k1 k2 (fun h => hk h.symm)).2]
      simp only [hk, decide_false, Bool.or_false]
      exact this
  · by_cases hi : i < O.length
    · rw [List.getElem?_append_left hi] at hx
      rw [List.take_append_of_le_length (by omega)]
      exact o.lays i x hx
    · have hi2 : i = O.length := by
        have := (List.getElem?_eq_some_iff.1 hx).1
        rw [List.length_append, List.length_singleton] at this
        omega
      subst hi2
      rw [List.getElem?_append_right (Nat.le_refl _), Nat.sub_self] at hx
      have hx2 : obX r a = x := by simpa using hx
      subst hx2
      rw [List.take_append_of_le_length (Nat.le_refl _), List.take_of_length_le (Nat.le_refl _), ← o.eq]
      have hbl : ((r.drop 4).take (obN r)).length = obN r := by rw [List.length_take, List.length_drop]; omega
      have hlen := o.ois.len
      unfold MayO obX
      dsimp only
      rw [hbl, q8]
      refine ⟨putE_zero.2 ⟨o.ois.fine.len0, q2, q4, q5, by dsimp only; omega, by dsimp only; omega, by dsimp only; omega, by dsimp only; omega⟩, hlen, o.ois.byt, fun z hz => hb z (List.mem_of_mem_drop (List.mem_of_mem_take hz)), by omega, by omega, rfl, q6, q7, hh.1, hh.2, q4, q5⟩
theorem obK_is : ∀ (n : Nat) {r : List Int} {a : Nat} {O : List ((Int × Int × Int × Int) × List Int)} {out : List Int}, Obi O out a → Byt r →
    (obK n r a O).1 = (obR n r a out).1 ∧ (obK n r a O).2.1 = (obR n r a out).2.1 ∧ ((obK n r a O).1 = 0 → Obi (obK n r a O).2.2.2 (obR n r a out).2.2.2 (obK n r a O).2.2.1 ∧ (obK n r a O).2.2.2.length = O.length + n ∧ Byt (obK n r a O).2.1)
  | 0, r, a, O, out, o, hb => ⟨rfl, rfl, fun _ => ⟨o, rfl, hb⟩⟩
  | n + 1, r, a, O, out, o, hb => by
    have he := o.err (r := r)
    unfold obK obR
    by_cases h0 : obC r a O = 0
    · rw [if_neg (fun h => h h0), if_neg (fun h => h (by rw [← he]; exact h0))]
      obtain ⟨p1, p2, p3⟩ := obK_is n (o.next hb h0) (r := r.drop (4 + obN r)) (fun z hz => hb z (List.mem_of_mem_drop hz))
      refine ⟨p1, p2, fun h => ?_⟩
      obtain ⟨g1, g2, g3⟩ := p3 h
      rw [List.length_append, List.length_singleton] at g2
      exact ⟨g1, by omega, g3⟩
    · rw [if_pos h0, if_pos (fun h => h0 (by rw [he]; exact h))]
      exact ⟨he, rfl, fun h => absurd h h0⟩
/-- Roots likewise. -/
structure Roi (O : List ((Int × Int × Int × Int) × List Int)) (o1 : List Int) (R : List (ByteArray × Int)) (out : List Int) : Prop where
  eq : out = layR R 0 o1
  ros : Ros out R.length
  rts : rootsK out 8 = R
  has : ∀ k, 1 ≤ k → k ≤ 40 → (hasO O k = true ↔ tagAt out k ≠ 0)
  lays : LaysR R o1
theorem Roi.start {O : List ((Int × Int × Int × Int) × List Int)} {out : List Int} {a : Nat} (o : Obi O out a) : Roi O out [] out := by
  refine ⟨rfl, ⟨o.ois.fine, o.ois.len, o.ois.byt, fun j _ hj => o.ois.none_ j hj⟩, ?_, o.has, fun i x h => by simp at h⟩
  rw [rootsK_none (k := 0) 8 (by decide) (fun j _ hj => o.ois.none_ j hj)]
  rfl
theorem Roi.lead {O : List ((Int × Int × Int × Int) × List Int)} {o1 out : List Int} {R : List (ByteArray × Int)} (o : Roi O o1 R out) (s : ByteArray) : hasR R s = true ↔ leadOf (rootsK out 8) s ≠ 0 := by
  have hap := apart_roots o.ros.fine.ok
  rw [o.rts] at hap ⊢
  unfold hasR leadOf
  rw [List.any_eq_true]
  constructor
  · rintro ⟨r, hr, he⟩
    cases hf : R.find? (fun r => r.1 == s) with
    | none => exact absurd he (by simpa using List.find?_eq_none.1 hf r hr)
    | some x =>
      have hx := hap.pos x (List.mem_of_find?_eq_some hf)
      show x.2 ≠ 0
      omega
  · intro h
    cases hf : R.find? (fun r => r.1 == s) with
    | none => rw [hf] at h; exact absurd rfl h
    | some x => exact ⟨x, List.mem_of_find?_eq_some hf, by simpa using List.find?_some hf⟩
theorem Roi.err {O : List ((Int × Int × Int × Int) × List Int)} {o1 out r : List Int} {R : List (ByteArray × Int)} (o : Roi O o1 R out) : roF r O R = roE r out := by
  unfold roF roE
  by_cases h1 : r.length < 8
  · rw [if_pos h1, if_pos h1]
  rw [if_neg h1, if_neg h1]
  by_cases h2 : (readOut (r.take 8)).2 ≠ 0
  · rw [if_pos h2, if_pos h2]
  rw [if_neg h2, if_neg h2]
  have hl := o.lead (readOut (r.take 8)).1
  by_cases h3 : leadOf (rootsK out 8) (readOut (r.take 8)).1 ≠ 0
  · rw [if_pos (hl.2 h3), if_pos h3]
  rw [if_neg (fun h => h3 (hl.1 h)), if_neg h3]
  by_cases h4 : r.length < 9
  · rw [if_pos h4, if_pos h4]
  rw [if_neg h4, if_neg h4]
  unfold chkE
  rw [if_neg (show ¬ lenB out.length = false by rw [o.ros.fine.len0]; simp)]
  by_cases h5 : hndB (r.getD 8 0) = false
  · rw [if_pos h5, if_pos h5]
  rw [if_neg h5, if_neg h5]
  have hh := hndB_iff.1 (eq_true_of_ne_false h5)
  have hi := o.has _ hh.1 hh.2
  by_cases h6 : tagAt out (r.getD 8 0) = 0
  · rw [if_pos h6, if_pos (by cases h : hasO O (r.getD 8 0) with | false => rfl | true => exact absurd h6 (hi.1 h))]
  · rw [if_neg h6, if_neg (by rw [hi.2 h6]; simp)]
theorem Roi.next {O : List ((Int × Int × Int × Int) × List Int)} {o1 out r : List Int} {R : List (ByteArray × Int)} (o : Roi O o1 R out) (hi : R.length < 8) (hb : Byt r) (h : roF r O R = 0) :
    Roi O o1 (R ++ [((readOut (r.take 8)).1, r.getD 8 0)]) (roO r R.length out) := by
  rw [o.err] at h
  obtain ⟨o2, h1, h2⟩ := o.ros.next hi hb h
  obtain ⟨q1, q2, q3, q4⟩ := roE_zero h
  obtain ⟨_, hok, _⟩ := readOut_ok (fun z hz => hb z (List.mem_of_mem_take hz)) q2
  obtain ⟨c1, c2, c3⟩ := chkE_zero.1 q4
  have hg := hndB_iff.1 c2
  refine ⟨?_, by rw [List.length_append]; exact o2, by rw [h1, o.rts], fun k k1 k2 => ?_, fun i x hx => ?_⟩
  · rw [layR_more, ← o.eq, Nat.zero_add]
    rfl
  · have := (h2 k k1 k2).2
    rw [o.has k k1 k2]
    have hk := hndB_iff.2 ⟨k1, k2⟩
    constructor
    · intro ht
      exact (chkE_zero.1 (this.trans (chkE_zero.2 ⟨o.ros.fine.len0, hk, ht⟩))).2.2
    · intro ht
      exact (chkE_zero.1 (this.symm.trans (chkE_zero.2 ⟨o2.fine.len0, hk, ht⟩))).2.2
  · by_cases hi2 : i < R.length
    · rw [List.getElem?_append_left hi2] at hx
      rw [List.take_append_of_le_length (by omega)]
      exact o.lays i x hx
    · have hi3 : i = R.length := by
        have := (List.getElem?_eq_some_iff.1 hx).1
        rw [List.length_append, List.length_singleton] at this
        omega
      subst hi3
      rw [List.getElem?_append_right (Nat.le_refl _), Nat.sub_self] at hx
      have hx2 : ((readOut (r.take 8)).1, r.getD 8 0) = x := by simpa using hx
      subst hx2
      rw [List.take_append_of_le_length (Nat.le_refl _), List.take_of_length_le (Nat.le_refl _), ← o.eq]
      have hnB := nameB_iff.2 hok
      have hnr : ¬ noRoot ((readOut (r.take 8)).1, r.getD 8 0) = true := fun hx => by have := (noRoot_iff.1 hx).2; dsimp only at this; omega
      refine ⟨prE_zero.2 ⟨o.ros.fine.len0, by omega, by omega, ?_⟩, o.ros.len, o.ros.byt⟩
      unfold rowRE
      rw [if_neg hnr, if_neg (by dsimp only; rw [c2]; simp), if_pos hnB]
theorem roK_is : ∀ (n : Nat) {r : List Int} {O : List ((Int × Int × Int × Int) × List Int)} {o1 out : List Int} {R : List (ByteArray × Int)}, Roi O o1 R out → R.length + n ≤ 8 → Byt r →
    (roK n r O R).1 = (roR n R.length r out).1 ∧ (roK n r O R).2.1 = (roR n R.length r out).2.1 ∧ ((roK n r O R).1 = 0 → Roi O o1 (roK n r O R).2.2 (roR n R.length r out).2.2 ∧ (roK n r O R).2.2.length = R.length + n)
  | 0, r, O, o1, out, R, o, hl, hb => ⟨rfl, rfl, fun _ => ⟨o, rfl⟩⟩
  | n + 1, r, O, o1, out, R, o, hl, hb => by
    have he := o.err (r := r)
    unfold roK roR
    by_cases h0 : roF r O R = 0
    · rw [if_neg (fun h => h h0), if_neg (fun h => h (by rw [← he]; exact h0))]
      obtain ⟨p1, p2, p3⟩ := roK_is n (o.next (by omega) hb h0) (r := r.drop 9) (by rw [List.length_append, List.length_singleton]; omega) (fun z hz => hb z (List.mem_of_mem_drop hz))
      rw [List.length_append, List.length_singleton] at p1 p2 p3
      refine ⟨p1, p2, fun h => ?_⟩
      obtain ⟨g1, g2⟩ := p3 h
      exact ⟨g1, by omega⟩
    · rw [if_pos h0, if_pos (fun h => h0 (by rw [he]; exact h))]
      exact ⟨he, rfl, fun h => absurd h h0⟩
/-- What the code reads comes to what Up answers. -/
theorem up_code {b : List Int} (hb : Byt b) : (upS b).1 = (upK b).1 ∧ ((upK b).1 ≠ 0 → (upS b).2 = [] ∧ (upK b).2.1 = [] ∧ (upK b).2.2 = []) ∧
    ((upK b).1 = 0 → (upS b).2 = layR (upK b).2.2 0 (layO (upK b).2.1 (zerosB 6400)) ∧ LaysO (upK b).2.1 (zerosB 6400) ∧ LaysR (upK b).2.2 (layO (upK b).2.1 (zerosB 6400)) ∧ (upK b).2.1.length ≤ 40 ∧ (upK b).2.2.length ≤ 8) := by
  have hb4 := hb.getD 4
  unfold upS upK
  by_cases h1 : hdB b = false
  · rw [if_pos h1, if_pos h1]
    exact ⟨rfl, fun _ => ⟨rfl, rfl, rfl⟩, fun h => absurd h (by simp)⟩
  rw [if_neg h1, if_neg h1]
  by_cases h2 : b.length < 5 ∨ 40 < b.getD 4 0
  · rw [if_pos h2, if_pos h2]
    exact ⟨rfl, fun _ => ⟨rfl, rfl, rfl⟩, fun h => absurd h (by simp)⟩
  rw [if_neg h2, if_neg h2]
  obtain ⟨p1, p2, p3⟩ := obK_is (b.getD 4 0).toNat Obi.start (r := b.drop 5) (fun z hz => hb z (List.mem_of_mem_drop hz))
  have e1 : obK (b.getD 4 0).toNat (b.drop 5) 288 [] = upB b := rfl
  rw [e1] at p1 p2 p3
  rw [← p1, ← p2]
  have hn40 : (b.getD 4 0).toNat ≤ 40 := by omega
  generalize obR (b.getD 4 0).toNat (b.drop 5) 288 (zerosB 6400) = Z at p1 p2 p3 ⊢
  generalize (b.getD 4 0).toNat = n at *
  generalize upB b = X at *
  by_cases h3 : X.1 ≠ 0
  · rw [if_pos h3, if_pos h3]
    exact ⟨rfl, fun _ => ⟨rfl, rfl, rfl⟩, fun h => absurd h h3⟩
  rw [if_neg h3, if_neg h3]
  obtain ⟨g1, g2, g3⟩ := p3 (Decidable.not_not.1 h3)
  by_cases h4 : X.2.1.length = 0 ∨ 8 < X.2.1.getD 0 0
  · rw [if_pos h4, if_pos h4]
    exact ⟨rfl, fun _ => ⟨rfl, rfl, rfl⟩, fun h => absurd h (by simp)⟩
  rw [if_neg h4, if_neg h4]
  have hx0 := g3.getD 0
  obtain ⟨r1, r2, r3⟩ := roK_is (X.2.1.getD 0 0).toNat (Roi.start g1) (r := X.2.1.drop 1) (by rw [List.length_nil]; omega) (fun z hz => g3 z (List.mem_of_mem_drop hz))
  rw [List.length_nil] at r1 r2 r3
  have e2 : roK (X.2.1.getD 0 0).toNat (X.2.1.drop 1) X.2.2.2 [] = upC X := rfl
  rw [e2] at r1 r2 r3
  rw [← r1, ← r2]
  have hn8 : (X.2.1.getD 0 0).toNat ≤ 8 := by omega
  generalize roR (X.2.1.getD 0 0).toNat 0 (X.2.1.drop 1) Z.2.2.2 = V at r1 r2 r3 ⊢
  generalize (X.2.1.getD 0 0).toNat = m at *
  generalize upC X = Y at *
  by_cases h5 : Y.1 ≠ 0
  · rw [if_pos h5, if_pos h5]
    exact ⟨rfl, fun _ => ⟨rfl, rfl, rfl⟩, fun h => absurd h h5⟩
  rw [if_neg h5, if_neg h5]
  obtain ⟨s1, s2⟩ := r3 (Decidable.not_not.1 h5)
  by_cases h6 : Y.2.1 ≠ []
  · rw [if_pos h6, if_pos h6]
    exact ⟨rfl, fun _ => ⟨rfl, rfl, rfl⟩, fun h => absurd h (by simp)⟩
  rw [if_neg h6, if_neg h6]
  refine ⟨rfl, fun h => absurd rfl h, fun _ => ⟨?_, g1.lays, ?_, by dsimp only; rw [g2, List.length_nil]; omega, by dsimp only; omega⟩⟩
  · dsimp only
    rw [← g1.eq]
    exact s1.eq
  · rw [← g1.eq]
    exact s1.lays
end Go.Proofs.YtllpeknpplpgeaaGreatDoor
/-! What Read and Write answer, as plain lists. (Part of the proofs over package heap.) -/
namespace Go.Proofs.YtllpeknpplpgeaaGreatDoor
open Go.RowKit
set_option linter.unusedVariables false

/-- Why n bytes of an object, from x on, are not there. -/
def pcE (L : List Int) (h x n : Int) : Int := if chkE L h ≠ 0 then chkE L h else if x < 0 ∨ n < 0 ∨ (entOf L h).2.2.1 < x + n then 3 else 0
theorem pcE_zero {L : List Int} {h x n : Int} : pcE L h x n = 0 ↔ chkE L h = 0 ∧ 0 ≤ x ∧ 0 ≤ n ∧ x + n ≤ (entOf L h).2.2.1 := by
  unfold pcE
  by_cases h0 : chkE L h = 0
  · rw [if_neg (fun h => h h0)]
    by_cases h1 : x < 0 ∨ n < 0 ∨ (entOf L h).2.2.1 < x + n
    · rw [if_pos h1]
      exact ⟨fun h => absurd h (by decide), fun h => by omega⟩
    · rw [if_neg h1]
      exact ⟨fun _ => ⟨h0, by omega⟩, fun _ => rfl⟩
  · rw [if_pos h0]
    exact ⟨fun h => absurd h h0, fun h => absurd h.1 h0⟩
/-- The bytes that Read gives. -/
def rdL (L : List Int) (h x n : Int) : List Int := if pcE L h x n = 0 then (L.drop ((entOf L h).2.1.toNat + x.toNat)).take n.toNat else []
theorem rdL_byt {L : List Int} (hb : Byt L) (h x n : Int) : Byt (rdL L h x n) := by
  unfold rdL
  by_cases h0 : pcE L h x n = 0
  · rw [if_pos h0]; exact hb.sub _ _
  · rw [if_neg h0]; exact fun z hz => absurd hz List.not_mem_nil
/-- The image behind a Write. -/
def wrB (L : List Int) (h x : Int) (l : List Int) : List Int := if pcE L h x l.length = 0 then splice L ((entOf L h).2.1.toNat + x.toNat) l else L
end Go.Proofs.YtllpeknpplpgeaaGreatDoor
