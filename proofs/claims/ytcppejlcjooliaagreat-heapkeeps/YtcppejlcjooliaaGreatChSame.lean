/-
  Whether two images are the same, as plain lists. (Part of the proofs over package check.)
-/
import Derived.Test.YtcppejlcjooliaaGreatChMend
namespace Go.Proofs.YtcppejlcjooliaaGreat
open Go.RowKit
set_option linter.unusedVariables false

/-! ### objects -/
/-- The bytes of an extent. -/
def partL (b : List Int) (x n : Int) : List Int := (b.drop x.toNat).take n.toNat
/-- What an object is: its tag, its bytes. -/
def objE (b : List Int) (e : (Int × Int × Int × Int)) : Int × List Int := (e.2.2.2, partL b e.2.1 e.2.2.1)
/-- The object of a handle; -1: there is none. -/
def objOf (b : List Int) (h : Int) : Int × List Int := if tagAt b h = 0 then (-1, []) else objE b (entOf b h)
/-- The objects of the handles up to k, each with its handle. -/
def objK (b : List Int) (k : Nat) : List (Int × Int × List Int) := (entsK b k).map fun e => (e.1, objE b e)
theorem mem_objK {b : List Int} {x : Int × Int × List Int} : ∀ {k : Nat}, x ∈ objK b k ↔ ∃ j : Nat, j < k ∧ tagAt b ((j : Int) + 1) ≠ 0 ∧ x = ((j : Int) + 1, objOf b ((j : Int) + 1))
  | 0 => by simp [objK, entsK]
  | k + 1 => by
    have ih := mem_objK (b := b) (x := x) (k := k)
    unfold objK at ih ⊢
    unfold entsK
    rw [List.map_append, List.mem_append, ih]
    by_cases ht : tagAt b ((k : Int) + 1) = 0
    · rw [if_pos ht]
      constructor
      · rintro (⟨j, h1, h2⟩ | h2)
        · exact ⟨j, by omega, h2⟩
        · cases h2
      · rintro ⟨j, h1, h2, h3⟩
        by_cases e : j = k
        · subst e; exact absurd ht h2
        · exact .inl ⟨j, by omega, h2, h3⟩
    · rw [if_neg ht]
      have ho : objOf b ((k : Int) + 1) = objE b (entOf b ((k : Int) + 1)) := by unfold objOf; rw [if_neg ht]
      have hx : (entOf b ((k : Int) + 1)).1 = (k : Int) + 1 := rfl
      constructor
      · rintro (⟨j, h1, h2⟩ | h2)
        · exact ⟨j, by omega, h2⟩
        · refine ⟨k, by omega, ht, ?_⟩
          rw [List.map_cons, List.map_nil] at h2
          rw [List.mem_singleton.1 h2, ho, hx]
      · rintro ⟨j, h1, h2, h3⟩
        by_cases e : j = k
        · subst e
          refine .inr ?_
          rw [List.map_cons, List.map_nil, h3, ho, hx]
          exact List.mem_singleton.2 rfl
        · exact .inl ⟨j, by omega, h2, h3⟩
/-- Have two images the same objects by handle, up to k? -/
def sameO (a b : List Int) : Nat → Bool
  | 0 => true
  | k + 1 => sameO a b k && decide (objOf a ((k : Int) + 1) = objOf b ((k : Int) + 1))
theorem sameO_iff {a b : List Int} : ∀ {k : Nat}, sameO a b k = true ↔ ∀ j : Nat, j < k → objOf a ((j : Int) + 1) = objOf b ((j : Int) + 1)
  | 0 => by simp [sameO]
  | k + 1 => by
    unfold sameO
    rw [Bool.and_eq_true, sameO_iff, decide_eq_true_iff]
    constructor
    · rintro ⟨h1, h2⟩ j hj
      by_cases e : j = k
      · subst e; exact h2
      · exact h1 j (by omega)
    · intro h
      exact ⟨fun j hj => h j (by omega), h k (by omega)⟩
theorem objOf_tag {b : List Int} {h : Int} (hb : Byt b) (ht : tagAt b h ≠ 0) : 0 ≤ (objOf b h).1 := by
  unfold objOf objE entOf
  rw [if_neg ht]
  have h1 : 0 ≤ tagAt b h ∧ tagAt b h ≤ 255 := hb.getD (plc h)
  dsimp only
  omega
theorem objOf_none {b : List Int} {h : Int} (ht : tagAt b h = 0) : objOf b h = (-1, []) := by unfold objOf; rw [if_pos ht]
theorem objK_same {a b : List Int} (ha : Byt a) (hb : Byt b) (k : Nat) : objK a k = objK b k ↔ sameO a b k = true := by
  rw [sameO_iff]
  constructor
  · intro h j hj
    by_cases h1 : tagAt a ((j : Int) + 1) = 0
    · by_cases h2 : tagAt b ((j : Int) + 1) = 0
      · rw [objOf_none h1, objOf_none h2]
      · have hm : ((j : Int) + 1, objOf b ((j : Int) + 1)) ∈ objK b k := mem_objK.2 ⟨j, hj, h2, rfl⟩
        rw [← h] at hm
        obtain ⟨i, hi, h3, h4⟩ := mem_objK.1 hm
        have : i = j := by have := congrArg Prod.fst h4; dsimp only at this; omega
        subst this
        exact absurd h1 h3
    · have hm : ((j : Int) + 1, objOf a ((j : Int) + 1)) ∈ objK a k := mem_objK.2 ⟨j, hj, h1, rfl⟩
      rw [h] at hm
      obtain ⟨i, hi, h3, h4⟩ := mem_objK.1 hm
      have : i = j := by have := congrArg Prod.fst h4; dsimp only at this; omega
      subst this
      exact congrArg Prod.snd h4
  · intro h
    induction k with
    | zero => rfl
    | succ k ih =>
      have hk := h k (by omega)
      have hi := ih (fun j hj => h j (by omega))
      unfold objK at hi ⊢
      unfold entsK
      rw [List.map_append, List.map_append, hi]
      congr 1
      by_cases h1 : tagAt a ((k : Int) + 1) = 0
      · have h2 : tagAt b ((k : Int) + 1) = 0 := by
          refine Classical.byContradiction fun h2 => ?_
          have := objOf_tag hb h2
          rw [← hk, objOf_none h1] at this
          dsimp only at this
          omega
        rw [if_pos h1, if_pos h2]
        rfl
      · have h2 : ¬ tagAt b ((k : Int) + 1) = 0 := by
          intro h2
          have := objOf_tag ha h1
          rw [hk, objOf_none h2] at this
          dsimp only at this
          omega
        rw [if_neg h1, if_neg h2]
        unfold objOf at hk
        rw [if_neg h1, if_neg h2] at hk
        rw [List.map_cons, List.map_nil, List.map_cons, List.map_nil, hk]
        rfl
/-- Are two entries of two images the same object? -/
def eqEnt (a b : List Int) (x y : (Int × Int × Int × Int)) : Bool := decide (x.1 = y.1) && (decide (x.2.2.2 = y.2.2.2) && decide (partL a x.2.1 x.2.2.1 = partL b y.2.1 y.2.2.1))
theorem eqEnt_iff {a b : List Int} {x y : (Int × Int × Int × Int)} : eqEnt a b x y = true ↔ (x.1, objE a x) = (y.1, objE b y) := by
  unfold eqEnt objE
  rw [Bool.and_eq_true, Bool.and_eq_true, decide_eq_true_iff, decide_eq_true_iff, decide_eq_true_iff]
  simp only [Prod.mk.injEq]
/-- As many, and one by one the same? (So slices.EqualFunc tells it.) -/
def eqAll {α β : Type} (f : α → β → Bool) : List α → List β → Bool
  | [], [] => true
  | x :: l, y :: m => f x y && eqAll f l m
  | _, _ => false
theorem eqAll_map {α β γ : Type} {f : α → β → Bool} {p : α → γ} {q : β → γ} (h : ∀ x y, f x y = true ↔ p x = q y) : ∀ {l : List α} {m : List β}, eqAll f l m = true ↔ l.map p = m.map q
  | [], [] => by simp [eqAll]
  | [], y :: m => by simp [eqAll]
  | x :: l, [] => by simp [eqAll]
  | x :: l, y :: m => by
    unfold eqAll
    rw [Bool.and_eq_true, h, eqAll_map h, List.map_cons, List.map_cons, List.cons.injEq]
theorem eqAll_objs {a b : List Int} (ha : Byt a) (hb : Byt b) : eqAll (eqEnt a b) (entsK a 40) (entsK b 40) = sameO a b 40 := by
  have h1 := eqAll_map (f := eqEnt a b) (p := fun e => (e.1, objE a e)) (q := fun e => (e.1, objE b e)) (fun x y => eqEnt_iff) (l := entsK a 40) (m := entsK b 40)
  have h2 := objK_same ha hb 40
  unfold objK at h2
  rw [h2] at h1
  cases h3 : eqAll (eqEnt a b) (entsK a 40) (entsK b 40) <;> cases h4 : sameO a b 40
  · rfl
  · rw [h3, h4] at h1; simp at h1
  · rw [h3, h4] at h1; simp at h1
  · rfl

/-! ### roots -/
theorem ba_beq {a b : ByteArray} : (a == b) = true ↔ a = b := by
  cases a with | mk x => cases b with | mk y =>
  constructor
  · intro h
    have h' : (x == y) = true := h
    rw [eq_of_beq h']
  · intro h
    injection h with h
    subst h
    show (x == x) = true
    exact beq_self_eq_true x
theorem ba_lawful : LawfulBEq ByteArray := { eq_of_beq := fun h => ba_beq.1 h, rfl := ba_beq.2 rfl }
/-- Where a name leads; 0: nowhere. -/
def leadOf (l : List (ByteArray × Int)) (s : ByteArray) : Int := ((l.find? (fun r => r.1 == s)).map (·.2)).getD 0
/-- The same roots, as many? -/
def sameR (l m : List (ByteArray × Int)) : Bool := l.all (fun r => leadOf m r.1 == r.2) && decide (l.length = m.length)
/-- What is told of an image that is right: names are apart, and lead to handles. -/
structure Apart (l : List (ByteArray × Int)) : Prop where
  nodup : (l.map (·.1)).Nodup
  pos : ∀ r ∈ l, 1 ≤ r.2 ∧ r.2 ≤ 40
theorem apart_roots {b : List Int} (hf : faults b = []) : Apart (rootsK b 8) := by
  have hn : ∀ i, i < 8 → rFault b i = [] := fun i hi => by
    refine Classical.byContradiction fun h => ?_
    obtain ⟨f, hm⟩ := List.exists_mem_of_ne_nil _ h
    have := faults_root hi hm
    rw [hf] at this
    cases this
  have hk : ∀ k, k ≤ 8 → nmsK b k = (rootsK b k).map (·.1) ∧ (nmsK b k).Nodup ∧ ∀ r ∈ rootsK b k, 1 ≤ r.2 ∧ r.2 ≤ 40 := by
    intro k
    induction k with
    | zero => intro _; exact ⟨rfl, List.nodup_nil, fun r hr => by cases hr⟩
    | succ k ih =>
      intro hk
      obtain ⟨h1, h2, h3⟩ := ih (by omega)
      rcases rFault_nil.1 (hn k (by omega)) with h | h
      · have e1 : nmsK b (k + 1) = nmsK b k := by
          show nmsK b k ++ _ = _
          have : fineR b k (nmsK b k) = false := by unfold fineR; rw [h, Bool.false_and]
          rw [this, if_neg (by simp), List.append_nil]
        have e2 : rootsK b (k + 1) = rootsK b k := by
          show rootsK b k ++ _ = _
          rw [h, if_neg (by simp), List.append_nil]
        rw [e1, e2]
        exact ⟨h1, h2, h3⟩
      · have e1 : nmsK b (k + 1) = nmsK b k ++ [nameAt b k] := by
          show nmsK b k ++ _ = _
          rw [if_pos h]
        have hfi := h
        unfold fineR at hfi
        rw [Bool.and_eq_true, Bool.and_eq_true] at hfi
        obtain ⟨f1, f2, f3⟩ := hfi
        have e2 : rootsK b (k + 1) = rootsK b k ++ [rootOf (rowAt b k)] := by
          show rootsK b k ++ _ = _
          rw [f1, if_pos rfl]
        have f2' : badR b k = false := by simpa using f2
        have f3' : nameAt b k ∉ nmsK b k := by
          intro hm
          haveI := ba_lawful
          rw [List.contains_iff_mem.2 hm] at f3
          cases f3
        obtain ⟨_, _, _, g4, _⟩ := badR_no.1 f2'
        have g4' := hndB_iff.1 g4
        refine ⟨?_, ?_, ?_⟩
        · rw [e1, e2, List.map_append, h1]; rfl
        · rw [e1, List.nodup_append]
          exact ⟨h2, by simp, fun x hx y hy e => by rw [List.mem_singleton.1 hy] at e; subst e; exact f3' hx⟩
        · rw [e2]
          intro r hr
          rcases List.mem_append.1 hr with hr | hr
          · exact h3 r hr
          · rw [List.mem_singleton.1 hr]; exact g4'
  obtain ⟨h1, h2, h3⟩ := hk 8 (Nat.le_refl _)
  exact ⟨by rw [← h1]; exact h2, h3⟩
theorem lead_mem {m : List (ByteArray × Int)} (hm : Apart m) {s : ByteArray} {h : Int} (hh : 1 ≤ h) : leadOf m s = h ↔ (s, h) ∈ m := by
  unfold leadOf
  constructor
  · intro e
    cases hf : m.find? (fun r => r.1 == s) with
    | none => rw [hf] at e; simp at e; omega
    | some r =>
      rw [hf] at e
      have h1 := List.mem_of_find?_eq_some hf
      have h2 := List.find?_some hf
      have e' : r.2 = h := e
      have h2' : r.1 = s := ba_beq.1 h2
      have : r = (s, h) := Prod.ext h2' e'
      rw [← this]; exact h1
  · intro hmem
    cases hf : m.find? (fun r => r.1 == s) with
    | none =>
      exact absurd (ba_beq.2 rfl) (List.find?_eq_none.1 hf (s, h) hmem)
    | some r =>
      have h1 := List.mem_of_find?_eq_some hf
      have h2 : r.1 = s := ba_beq.1 (List.find?_some (p := fun (r : (ByteArray × Int)) => r.1 == s) hf)
      have : r = (s, h) := by
        have hinj : ∀ (l : List (ByteArray × Int)), (l.map (·.1)).Nodup → ∀ x ∈ l, ∀ y ∈ l, x.1 = y.1 → x = y := by
          intro l
          induction l with
          | nil => intro _ x hx; cases hx
          | cons z l ih =>
            intro hn x hx y hy e
            rw [List.map_cons, List.nodup_cons] at hn
            rcases List.mem_cons.1 hx with hx | hx <;> rcases List.mem_cons.1 hy with hy | hy
            · rw [hx, hy]
            · exact absurd (List.mem_map.2 ⟨y, hy, by rw [← e, hx]⟩) hn.1
            · exact absurd (List.mem_map.2 ⟨x, hx, by rw [e, hy]⟩) hn.1
            · exact ih hn.2 x hx y hy e
        exact hinj m hm.nodup r h1 (s, h) hmem h2
      rw [this]
      rfl
theorem sameR_iff {l m : List (ByteArray × Int)} (hl : Apart l) (hm : Apart m) : sameR l m = true ↔ l.length = m.length ∧ ∀ r ∈ l, r ∈ m := by
  unfold sameR
  rw [Bool.and_eq_true, decide_eq_true_iff, List.all_eq_true]
  constructor
  · rintro ⟨h1, h2⟩
    refine ⟨h2, fun r hr => ?_⟩
    have := (lead_mem hm (hl.pos r hr).1).1 (by simpa using h1 r hr)
    exact this
  · rintro ⟨h1, h2⟩
    refine ⟨fun r hr => ?_, h1⟩
    have := (lead_mem hm (s := r.1) (hl.pos r hr).1).2 (h2 r hr)
    simpa using this

/-! ### what is answered -/
def fineE (b : List Int) : Int := if lenB b.length = false then 3 else if faults b = [] then 0 else 6
def sameE (a b : List Int) : Int := if lenB a.length = false then 3 else if lenB b.length = false then 3 else if faults a = [] ∧ faults b = [] then 0 else 6
def sameB (a b : List Int) : Bool := sameE a b == 0 && (sameO a b 40 && sameR (rootsK a 8) (rootsK b 8))
end Go.Proofs.YtcppejlcjooliaaGreat
