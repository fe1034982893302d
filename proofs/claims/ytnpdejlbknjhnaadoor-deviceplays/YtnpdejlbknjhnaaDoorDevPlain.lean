/-
  Plain mathematics of a device of sectors: what is written, flushed, crashed; no memory, no program. (Part of the proofs over package device.)
-/
import Derived.Test.YtnpdejlbknjhnaaDoorBase
namespace Go.Proofs.YtnpdejlbknjhnaaDoor
set_option linter.unusedVariables false

/-- A sector: 32 bytes. -/
def Sec (l : List Int) : Prop := l.length = 32 ∧ Byt l

/-- A device: its sectors, what is in memory alone (in the order of first writing), steps left, is it down. -/
structure DS where
  secs : List (List Int)
  mem : List (Nat × List Int)
  left : Int
  down : Bool

structure DS.Ok (D : DS) : Prop where
  len : D.secs.length ≤ 300
  sec : ∀ s ∈ D.secs, Sec s
  mem : ∀ p ∈ D.mem, p.1 < D.secs.length ∧ Sec p.2
  apart : (D.mem.map (·.1)).Nodup
  left : -9223372036854775808 ≤ D.left ∧ D.left ≤ 9223372036854775807

def memPut : List (Nat × List Int) → Nat → List Int → List (Nat × List Int)
  | [], i, b => [(i, b)]
  | (j, c) :: r, i, b => if j = i then (i, b) :: r else (j, c) :: memPut r i b

def DS.rd (D : DS) (i : Nat) : List Int := (D.mem.lookup i).getD (D.secs.getD i [])

theorem lookup_mem {m : List (Nat × List Int)} {i : Nat} {b : List Int} (h : m.lookup i = some b) : (i, b) ∈ m := by
  induction m with
  | nil => simp at h
  | cons p r ih =>
    obtain ⟨j, c⟩ := p
    simp only [List.lookup_cons] at h
    split at h
    · rename_i e
      simp at e h
      subst e; subst h; simp
    · exact List.mem_cons_of_mem _ (ih h)

theorem lookup_none {m : List (Nat × List Int)} {i : Nat} : m.lookup i = none ↔ i ∉ m.map (·.1) := by
  induction m with
  | nil => simp
  | cons p r ih =>
    obtain ⟨j, c⟩ := p
    simp only [List.lookup_cons]
    split
    · rename_i e
      simp at e
      subst e; simp
    · rename_i e
      have e' : ¬ i = j := by simpa using e
      rw [ih]; simp [e']

theorem lookup_at {m : List (Nat × List Int)} (hn : (m.map (·.1)).Nodup) {k : Nat} (hk : k < m.length) : m.lookup (m.getD k (0, [])).1 = some (m.getD k (0, [])).2 := by
  induction m generalizing k with
  | nil => simp at hk
  | cons p r ih =>
    obtain ⟨j, c⟩ := p
    simp only [List.map_cons, List.nodup_cons] at hn
    cases k with
    | zero => simp
    | succ k =>
      have hk' : k < r.length := by simpa using hk
      have := ih hn.2 hk'
      have hm : (r.getD k (0, [])).1 ∈ r.map (·.1) := by
        have : r.getD k (0, []) = r[k] := by simp [List.getD, hk']
        rw [this]; exact List.mem_map.2 ⟨_, List.getElem_mem hk', rfl⟩
      have hne : ¬ (r.getD k (0, [])).1 = j := fun e => hn.1 (e ▸ hm)
      have e2 : ((j, c) :: r).getD (k + 1) (0, []) = r.getD k (0, []) := by simp [List.getD]
      rw [e2, List.lookup_cons]
      simp only [show ((r.getD k (0, [])).1 == j) = false from by simpa using hne]
      exact this

theorem lookup_put (m : List (Nat × List Int)) (i : Nat) (b : List Int) (j : Nat) : (memPut m i b).lookup j = if j = i then some b else m.lookup j := by
  induction m with
  | nil =>
    simp only [memPut, List.lookup_cons, List.lookup_nil]
    by_cases h : j = i
    · simp [h]
    · have h' : (j == i) = false := by simpa using h
      simp [h, h']
  | cons p r ih =>
    obtain ⟨k, c⟩ := p
    unfold memPut
    by_cases hki : k = i
    · subst hki
      simp only [if_true, List.lookup_cons]
      by_cases h : j = k
      · simp [h]
      · have h' : (j == k) = false := by simpa using h
        simp [h, h']
    · simp only [hki, if_false, List.lookup_cons, ih]
      by_cases h : j = k
      · subst h; simp [hki]
      · have h' : (j == k) = false := by simpa using h
        simp [h']

theorem keys_put (m : List (Nat × List Int)) (i : Nat) (b : List Int) : (memPut m i b).map (·.1) = if i ∈ m.map (·.1) then m.map (·.1) else m.map (·.1) ++ [i] := by
  induction m with
  | nil => simp [memPut]
  | cons p r ih =>
    obtain ⟨k, c⟩ := p
    unfold memPut
    by_cases hki : k = i
    · subst hki; simp
    · simp only [hki, if_false, List.map_cons, ih]
      have : ¬ i = k := fun e => hki e.symm
      by_cases hm : i ∈ r.map (·.1)
      · simp [hm]
      · simp [hm, this]

theorem mem_put {m : List (Nat × List Int)} {i : Nat} {b : List Int} {p : Nat × List Int} (h : p ∈ memPut m i b) : p = (i, b) ∨ p ∈ m := by
  induction m with
  | nil => simp [memPut] at h; exact .inl h
  | cons q r ih =>
    obtain ⟨k, c⟩ := q
    unfold memPut at h
    by_cases hki : k = i
    · simp [hki] at h
      rcases h with h | h
      · exact .inl h
      · exact .inr (by simp [h])
    · simp [hki] at h
      rcases h with h | h
      · exact .inr (by simp [h])
      · rcases ih h with h | h
        · exact .inl h
        · exact .inr (by simp [h])

/-- The first k of memory are brought to the sectors. -/
def flushK (secs : List (List Int)) (mem : List (Nat × List Int)) : Nat → List (List Int)
  | 0 => secs
  | k + 1 => (flushK secs mem k).set (mem.getD k (0, [])).1 (mem.getD k (0, [])).2

/-- What one sector comes to in a crash. -/
def torn1 (s b : List Int) (cut : Nat) : List Int := b.take cut ++ s.drop cut

def one (keep : List Bool) (torn : Int) (cut k : Nat) (s b : List Int) : List Int :=
  if (k : Int) = torn then torn1 s b cut else if keep.getD k false then b else s

def crashK (secs : List (List Int)) (mem : List (Nat × List Int)) (keep : List Bool) (torn : Int) (cut : Nat) : Nat → List (List Int)
  | 0 => secs
  | k + 1 => (crashK secs mem keep torn cut k).set (mem.getD k (0, [])).1 (one keep torn cut k ((crashK secs mem keep torn cut k).getD (mem.getD k (0, [])).1 []) (mem.getD k (0, [])).2)

theorem length_flushK (secs mem k) : (flushK secs mem k).length = secs.length := by
  induction k with
  | zero => rfl
  | succ k ih => simp [flushK, ih]

theorem length_crashK (secs mem keep torn cut k) : (crashK secs mem keep torn cut k).length = secs.length := by
  induction k with
  | zero => rfl
  | succ k ih => simp [crashK, ih]

theorem getD_set_self (l : List (List Int)) (i : Nat) (x : List Int) (h : i < l.length) : (l.set i x).getD i [] = x := by
  simp [List.getD, h]
theorem getD_set_ne (l : List (List Int)) {i j : Nat} (x : List Int) (h : i ≠ j) : (l.set i x).getD j [] = l.getD j [] := by
  simp [List.getD, h]

theorem key_mem {m : List (Nat × List Int)} {k : Nat} (hk : k < m.length) : (m.getD k (0, [])).1 ∈ m.map (·.1) := by
  have : m.getD k (0, []) = m[k] := by simp [List.getD, hk]
  rw [this]; exact List.mem_map.2 ⟨_, List.getElem_mem hk, rfl⟩
theorem pair_mem {m : List (Nat × List Int)} {k : Nat} (hk : k < m.length) : m.getD k (0, []) ∈ m := by
  have : m.getD k (0, []) = m[k] := by simp [List.getD, hk]
  rw [this]; exact List.getElem_mem hk
theorem key_inj {m : List (Nat × List Int)} (hn : (m.map (·.1)).Nodup) {j k : Nat} (hj : j < m.length) (hk : k < m.length) (h : (m.getD j (0, [])).1 = (m.getD k (0, [])).1) : j = k := by
  have e1 : (m.getD j (0, [])).1 = (m.map (·.1))[j]'(by simpa using hj) := by simp [List.getD, hj]
  have e2 : (m.getD k (0, [])).1 = (m.map (·.1))[k]'(by simpa using hk) := by simp [List.getD, hk]
  rw [e1, e2] at h
  exact (List.getElem_inj hn).1 h

/-- Of what no key is the sectors stay. -/
theorem crashK_other (secs mem keep torn cut) (i : Nat) : ∀ k, (∀ j, j < k → (mem.getD j (0, [])).1 ≠ i) → (crashK secs mem keep torn cut k).getD i [] = secs.getD i []
  | 0, _ => rfl
  | k + 1, h => by
    unfold crashK
    rw [getD_set_ne _ _ (h k (Nat.lt_succ_self k))]
    exact crashK_other secs mem keep torn cut i k (fun j hj => h j (by omega))

/-- The k-th of memory, behind a crash. -/
theorem crashK_at {secs mem} (keep torn cut) (hn : (mem.map (·.1)).Nodup) (hl : ∀ p ∈ mem, p.1 < secs.length) {k : Nat} (hk : k < mem.length) : ∀ n, k < n → n ≤ mem.length →
    (crashK secs mem keep torn cut n).getD (mem.getD k (0, [])).1 [] = one keep torn cut k (secs.getD (mem.getD k (0, [])).1 []) (mem.getD k (0, [])).2
  | 0, h, _ => by omega
  | n + 1, h, hn' => by
    unfold crashK
    by_cases e : k = n
    · subst e
      rw [getD_set_self _ _ _ (by rw [length_crashK]; exact hl _ (pair_mem hk))]
      rw [crashK_other secs mem keep torn cut _ k (fun j hj e2 => by have := key_inj hn (by omega) hk e2; omega)]
    · rw [getD_set_ne _ _ (fun e2 => e (key_inj hn hk (by omega) e2.symm))]
      exact crashK_at keep torn cut hn hl hk n (by omega) (by omega)

theorem flushK_other (secs mem) (i : Nat) : ∀ k, (∀ j, j < k → (mem.getD j (0, [])).1 ≠ i) → (flushK secs mem k).getD i [] = secs.getD i []
  | 0, _ => rfl
  | k + 1, h => by
    unfold flushK
    rw [getD_set_ne _ _ (h k (Nat.lt_succ_self k))]
    exact flushK_other secs mem i k (fun j hj => h j (by omega))

theorem flushK_at {secs mem} (hn : (mem.map (·.1)).Nodup) (hl : ∀ p ∈ mem, p.1 < secs.length) {k : Nat} (hk : k < mem.length) : ∀ n, k < n → n ≤ mem.length →
    (flushK secs mem n).getD (mem.getD k (0, [])).1 [] = (mem.getD k (0, [])).2
  | 0, h, _ => by omega
  | n + 1, h, hn' => by
    unfold flushK
    by_cases e : k = n
    · subst e
      rw [getD_set_self _ _ _ (by rw [length_flushK]; exact hl _ (pair_mem hk))]
    · rw [getD_set_ne _ _ (fun e2 => e (key_inj hn hk (by omega) e2.symm))]
      exact flushK_at hn hl hk n (by omega) (by omega)

theorem mem_set_or {l : List (List Int)} {i : Nat} {x s : List Int} (h : s ∈ l.set i x) : s ∈ l ∨ s = x := List.mem_or_eq_of_mem_set h

theorem sec_getD {l : List (List Int)} (h : ∀ s ∈ l, Sec s) {i : Nat} (hi : i < l.length) : Sec (l.getD i []) := by
  have : l.getD i [] = l[i] := by simp [List.getD, hi]
  rw [this]; exact h _ (List.getElem_mem hi)

theorem sec_torn {s b : List Int} (hs : Sec s) (hb : Sec b) (cut : Nat) : Sec (torn1 s b cut) := by
  refine ⟨by simp [torn1, hs.1, hb.1]; omega, fun z hz => ?_⟩
  rcases List.mem_append.1 hz with h | h
  · exact hb.2 z (List.mem_of_mem_take h)
  · exact hs.2 z (List.mem_of_mem_drop h)

theorem sec_one {s b : List Int} (hs : Sec s) (hb : Sec b) (keep torn cut k) : Sec (one keep torn cut k s b) := by
  unfold one
  split
  · exact sec_torn hs hb cut
  · split
    · exact hb
    · exact hs

theorem sec_flushK {secs mem} (hs : ∀ s ∈ secs, Sec s) (hm : ∀ p ∈ mem, p.1 < secs.length ∧ Sec p.2) : ∀ k, k ≤ mem.length → ∀ s ∈ flushK secs mem k, Sec s
  | 0, _ => hs
  | k + 1, h => fun s h' => by
    rcases mem_set_or h' with h1 | h1
    · exact sec_flushK hs hm k (by omega) s h1
    · rw [h1]; exact (hm _ (pair_mem (by omega))).2

theorem sec_crashK {secs mem} (hs : ∀ s ∈ secs, Sec s) (hm : ∀ p ∈ mem, p.1 < secs.length ∧ Sec p.2) (keep torn cut) : ∀ k, k ≤ mem.length → ∀ s ∈ crashK secs mem keep torn cut k, Sec s
  | 0, _ => hs
  | k + 1, h => fun s h' => by
    rcases mem_set_or h' with h1 | h1
    · exact sec_crashK hs hm keep torn cut k (by omega) s h1
    · rw [h1]
      refine sec_one (sec_getD (sec_crashK hs hm keep torn cut k (by omega)) ?_) (hm _ (pair_mem (by omega))).2 _ _ _ _
      rw [length_crashK]; exact (hm _ (pair_mem (by omega))).1

/-! ### what each call makes of a device -/
def DS.new (n : Nat) : DS := ⟨List.replicate n (List.replicate 32 0), [], -1, false⟩
def DS.put (D : DS) (i : Nat) (b : List Int) : DS := { D with mem := memPut D.mem i b }
/-- One step is counted. -/
def DS.step (D : DS) : DS := if D.left = 0 then { D with down := true } else if 0 < D.left then { D with left := D.left - 1 } else D
def DS.flush (D : DS) : DS := { D with secs := flushK D.secs D.mem D.mem.length, mem := [] }
def DS.crash (D : DS) (keep : List Bool) (torn : Int) (cut : Nat) : DS := ⟨crashK D.secs D.mem keep torn cut D.mem.length, [], -1, false⟩
/-- The number of the error that Read, Write, Flush say (0: none), and what becomes of the device. -/
def DS.readE (D : DS) (i : Int) : Int := if i < 0 ∨ (D.secs.length : Int) ≤ i then 1 else if D.down then 9 else 0
def DS.writeE (D : DS) (i : Int) (b : List Int) : Int := if i < 0 ∨ (D.secs.length : Int) ≤ i then 1 else if b.length ≠ 32 then 3 else if D.down then 9 else if D.left = 0 then 9 else 0
def DS.write (D : DS) (i : Int) (b : List Int) : DS := if i < 0 ∨ (D.secs.length : Int) ≤ i ∨ b.length ≠ 32 ∨ D.down = true then D else (D.put i.toNat b).step
def DS.flushE (D : DS) : Int := if D.down then 9 else if D.left = 0 then 9 else 0
def DS.doFlush (D : DS) : DS := if D.down then D else if D.left = 0 then { D with down := true } else D.step.flush

theorem DS.ok_new (n : Nat) (h : n ≤ 300) : (DS.new n).Ok where
  len := by simp [DS.new]; exact h
  sec := fun s hs => by
    have : s = List.replicate 32 0 := List.eq_of_mem_replicate hs
    subst this
    exact ⟨by simp, fun z hz => by rw [List.eq_of_mem_replicate hz]; omega⟩
  mem := fun p hp => by simp [DS.new] at hp
  apart := by simp [DS.new]
  left := by simp [DS.new]

theorem DS.Ok.put {D : DS} (h : D.Ok) {i : Nat} {b : List Int} (hi : i < D.secs.length) (hb : Sec b) : (D.put i b).Ok where
  len := h.len
  sec := h.sec
  mem := fun p hp => by
    rcases mem_put hp with rfl | h1
    · exact ⟨hi, hb⟩
    · exact h.mem p h1
  apart := by
    show ((memPut D.mem i b).map (·.1)).Nodup
    rw [keys_put]
    split
    · exact h.apart
    · rename_i hn
      rw [List.nodup_append]
      refine ⟨h.apart, by simp, fun a ha c hc e => ?_⟩
      simp at hc; subst hc; subst e; exact hn ha
  left := h.left

theorem DS.Ok.step {D : DS} (h : D.Ok) : D.step.Ok := by
  unfold DS.step
  split
  · exact ⟨h.len, h.sec, h.mem, h.apart, h.left⟩
  · split
    · refine ⟨h.len, h.sec, h.mem, h.apart, ?_⟩
      have := h.left
      show -9223372036854775808 ≤ D.left - 1 ∧ D.left - 1 ≤ 9223372036854775807
      omega
    · exact h

theorem DS.Ok.flush {D : DS} (h : D.Ok) : D.flush.Ok where
  len := by show (flushK D.secs D.mem D.mem.length).length ≤ 300; rw [length_flushK]; exact h.len
  sec := sec_flushK h.sec h.mem _ (Nat.le_refl _)
  mem := fun p hp => by simp [DS.flush] at hp
  apart := by simp [DS.flush]
  left := h.left

theorem DS.Ok.crash {D : DS} (h : D.Ok) (keep torn cut) : (D.crash keep torn cut).Ok where
  len := by show (crashK D.secs D.mem keep torn cut D.mem.length).length ≤ 300; rw [length_crashK]; exact h.len
  sec := sec_crashK h.sec h.mem _ _ _ _ (Nat.le_refl _)
  mem := fun p hp => by simp [DS.crash] at hp
  apart := by simp [DS.crash]
  left := by simp [DS.crash]

theorem DS.Ok.write {D : DS} (h : D.Ok) {i : Int} {b : List Int} (hb : Byt b) : (D.write i b).Ok := by
  unfold DS.write
  split
  · exact h
  · rename_i hn
    have h1 : 0 ≤ i ∧ i < D.secs.length ∧ b.length = 32 := by
      refine ⟨?_, ?_, ?_⟩
      · rcases Int.lt_or_le i 0 with h1 | h1
        · exact absurd (.inl h1) hn
        · exact h1
      · rcases Int.lt_or_le i D.secs.length with h1 | h1
        · exact h1
        · exact absurd (.inr (.inl h1)) hn
      · rcases Nat.decEq b.length 32 with h1 | h1
        · exact absurd (.inr (.inr (.inl h1))) hn
        · exact h1
    exact (h.put (by omega) ⟨h1.2.2, hb⟩).step

theorem DS.Ok.fail {D : DS} (h : D.Ok) {n : Int} (hn : -9223372036854775808 ≤ n ∧ n ≤ 9223372036854775807) : DS.Ok { D with left := n } := ⟨h.len, h.sec, h.mem, h.apart, hn⟩

theorem DS.Ok.doFlush {D : DS} (h : D.Ok) : D.doFlush.Ok := by
  unfold DS.doFlush
  split
  · exact h
  · split
    · exact ⟨h.len, h.sec, h.mem, h.apart, h.left⟩
    · exact h.step.flush

theorem DS.Ok.rd {D : DS} (h : D.Ok) {i : Nat} (hi : i < D.secs.length) : Sec (D.rd i) := by
  unfold DS.rd
  cases e : D.mem.lookup i with
  | none => exact sec_getD h.sec hi
  | some b => exact (h.mem _ (lookup_mem e)).2

theorem DS.Ok.mem_len {D : DS} (h : D.Ok) : D.mem.length ≤ 300 := by
  have h1 : (D.mem.map (·.1)).length ≤ D.secs.length := by
    have := List.Nodup.length_le_of_subset h.apart (l₂ := List.range D.secs.length) (fun x hx => by
      obtain ⟨p, hp, rfl⟩ := List.mem_map.1 hx
      exact List.mem_range.2 (h.mem p hp).1)
    simpa using this
  have := h.len
  simp at h1; omega
end Go.Proofs.YtnpdejlbknjhnaaDoor
