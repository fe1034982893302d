/-
  Parts of the proofs, joined by program.
-/
import Derived.Test.YtecodmiendedfaaGreatDoorJNum
import Derived.Test.YtecodmiendedfaaGreatDoorJStm
namespace Go.Proofs.YtecodmiendedfaaGreatDoor
set_option linter.unusedVariables false
def Sec (l : List Int) : Prop := l.length = 32 /\ Byt l
structure DS where
 secs : List (List Int)
 mem : List (Nat × List Int)
 left : Int
 down : Bool
structure DS.Ok (D : DS) : Prop where
 len : D.secs.length <= 300
 sec : ∀ s ∈ D.secs, Sec s
 mem : ∀ p ∈ D.mem, p.1 < D.secs.length /\ Sec p.2
 apart : (D.mem.map (·.1)).Nodup
 left : -9223372036854775808 <= D.left /\ D.left <= 9223372036854775807
def memPut : List (Nat × List Int) -> Nat -> List Int -> List (Nat × List Int)
 | [], i, b => [(i, b)]
 | (j, c) :: r, i, b => if j = i then (i, b) :: r else (j, c) :: memPut r i b
def DS.rd (D : DS) (i : Nat) : List Int := (D.mem.lookup i).getD (D.secs.getD i [])
theorem lookup_mem {m : List (Nat × List Int)} {i : Nat} {b : List Int} (h : m.lookup i = some b) : (i, b) ∈ m := by
 induction m with
 | nil => simp at h
 | cons p r ih =>
  obtain ⟨j, c⟩ := p
  simp only [List.lookup_cons] at h
  split at h
  ·rename_i e
   simp at e h
   subst e; subst h; simp
  ·exact List.mem_cons_of_mem _ (ih h)
theorem lookup_none {m : List (Nat × List Int)} {i : Nat} : m.lookup i = none ↔ i ∉ m.map (·.1) := by
 induction m with
 | nil => simp
 | cons p r ih =>
  obtain ⟨j, c⟩ := p
  simp only [List.lookup_cons]
  split
  ·rename_i e
   simp at e
   subst e; simp
  ·rename_i e
   have e' : ¬ i = j := by simpa using e
   rw [ih]; simp [e']
theorem lookup_at {m : List (Nat × List Int)} (hn : (m.map (·.1)).Nodup) {k : Nat} (hk : k < m.length) : m.lookup (m.getD k (0, [])).1 = some (m.getD k (0, [])).2 := by
 induction m generalizing k with
 | nil => simp at hk
 | cons p r ih =>
  obtain ⟨j, c⟩ := p
  simp only [List.map_cons, List.nodup_cons] at hn
  cases k with
  | zero => simp
  | succ k =>
   have hk' : k < r.length := by simpa using hk
   have := ih hn.2 hk'
   have hm : (r.getD k (0, [])).1 ∈ r.map (·.1) := by
    have : r.getD k (0, []) = r[k] := by simp [List.getD, hk']
    rw [this]; exact List.mem_map.2 ⟨_, List.getElem_mem hk', rfl⟩
   have hne : ¬ (r.getD k (0, [])).1 = j := fun e => hn.1 (e ▸ hm)
   have e2 : ((j, c) :: r).getD (k + 1) (0, []) = r.getD k (0, []) := by simp [List.getD]
   rw [e2, List.lookup_cons]
   simp only [show ((r.getD k (0, [])).1 == j) = false from by simpa using hne]
   exact this
theorem lookup_put (m : List (Nat × List Int)) (i : Nat) (b : List Int) (j : Nat) : (memPut m i b).lookup j = if j = i then some b else m.lookup j := by
 induction m with
 | nil =>
  simp only [memPut, List.lookup_cons, List.lookup_nil]
  by_cases h : j = i
  ·simp [h]
  ·have h' : (j == i) = false := by simpa using h
   simp [h, h']
 | cons p r ih =>
  obtain ⟨k, c⟩ := p
  unfold memPut
  by_cases hki : k = i
  ·subst hki
   simp only [if_true, List.lookup_cons]
   by_cases h : j = k
   ·simp [h]
   ·have h' : (j == k) = false := by simpa using h
    simp [h, h']
  ·simp only [hki, if_false, List.lookup_cons, ih]
   by_cases h : j = k
   ·subst h; simp [hki]
   ·have h' : (j == k) = false := by simpa using h
    simp [h']
theorem keys_put (m : List (Nat × List Int)) (i : Nat) (b : List Int) : (memPut m i b).map (·.1) = if i ∈ m.map (·.1) then m.map (·.1) else m.map (·.1) ++ [i] := by
 induction m with
 | nil => simp [memPut]
 | cons p r ih =>
  obtain ⟨k, c⟩ := p
  unfold memPut
  by_cases hki : k = i
  ·subst hki; simp
  ·simp only [hki, if_false, List.map_cons, ih]
   have : ¬ i = k := fun e => hki e.symm
   by_cases hm : i ∈ r.map (·.1)
   ·simp [hm]
   ·simp [hm, this]
theorem mem_put {m : List (Nat × List Int)} {i : Nat} {b : List Int} {p : Nat × List Int} (h : p ∈ memPut m i b) : p = (i, b) \/ p ∈ m := by
 induction m with
 | nil => simp [memPut] at h; exact .inl h
 | cons q r ih =>
  obtain ⟨k, c⟩ := q
  unfold memPut at h
  by_cases hki : k = i
  ·simp [hki] at h
   rcases h with h | h
   ·exact .inl h
   ·exact .inr (by simp [h])
  ·simp [hki] at h
   rcases h with h | h
   ·exact .inr (by simp [h])
   ·rcases ih h with h | h
    ·exact .inl h
    ·exact .inr (by simp [h])
def flushK (secs : List (List Int)) (mem : List (Nat × List Int)) : Nat -> List (List Int)
 | 0 => secs
 | k + 1 => (flushK secs mem k).set (mem.getD k (0, [])).1 (mem.getD k (0, [])).2
def torn1 (s b : List Int) (cut : Nat) : List Int := b.take cut ++ s.drop cut
theorem length_flushK (secs mem k) : (flushK secs mem k).length = secs.length := by
 induction k with
 | zero => rfl
 | succ k ih => simp [flushK, ih]
theorem getD_set_self (l : List (List Int)) (i : Nat) (x : List Int) (h : i < l.length) : (l.set i x).getD i [] = x := by
 simp [List.getD, h]
theorem getD_set_ne (l : List (List Int)) {i j : Nat} (x : List Int) (h : i ≠ j) : (l.set i x).getD j [] = l.getD j [] := by
 simp [List.getD, h]
theorem key_mem {m : List (Nat × List Int)} {k : Nat} (hk : k < m.length) : (m.getD k (0, [])).1 ∈ m.map (·.1) := by
 have : m.getD k (0, []) = m[k] := by simp [List.getD, hk]
 rw [this]; exact List.mem_map.2 ⟨_, List.getElem_mem hk, rfl⟩
theorem pair_mem {m : List (Nat × List Int)} {k : Nat} (hk : k < m.length) : m.getD k (0, []) ∈ m := by
 have : m.getD k (0, []) = m[k] := by simp [List.getD, hk]
 rw [this]; exact List.getElem_mem hk
theorem key_inj {m : List (Nat × List Int)} (hn : (m.map (·.1)).Nodup) {j k : Nat} (hj : j < m.length) (hk : k < m.length) (h : (m.getD j (0, [])).1 = (m.getD k (0, [])).1) : j = k := by
 have e1 : (m.getD j (0, [])).1 = (m.map (·.1))[j]'(by simpa using hj) := by simp [List.getD, hj]
 have e2 : (m.getD k (0, [])).1 = (m.map (·.1))[k]'(by simpa using hk) := by simp [List.getD, hk]
 rw [e1, e2] at h
 exact (List.getElem_inj hn).1 h
theorem flushK_other (secs mem) (i : Nat) : ∀ k, (∀ j, j < k -> (mem.getD j (0, [])).1 ≠ i) -> (flushK secs mem k).getD i [] = secs.getD i []
 | 0, _ => rfl
 | k + 1, h => by
  unfold flushK
  rw [getD_set_ne _ _ (h k (Nat.lt_succ_self k))]
  exact flushK_other secs mem i k (fun j hj => h j (by omega))
theorem flushK_at {secs mem} (hn : (mem.map (·.1)).Nodup) (hl : ∀ p ∈ mem, p.1 < secs.length) {k : Nat} (hk : k < mem.length) : ∀ n, k < n -> n <= mem.length ->
  (flushK secs mem n).getD (mem.getD k (0, [])).1 [] = (mem.getD k (0, [])).2
 | 0, h, _ => by omega
 | n + 1, h, hn' => by
  unfold flushK
  by_cases e : k = n
  ·subst e
   rw [getD_set_self _ _ _ (by rw [length_flushK]; exact hl _ (pair_mem hk))]
  ·rw [getD_set_ne _ _ (fun e2 => e (key_inj hn hk (by omega) e2.symm))]
   exact flushK_at hn hl hk n (by omega) (by omega)
theorem mem_set_or {l : List (List Int)} {i : Nat} {x s : List Int} (h : s ∈ l.set i x) : s ∈ l \/ s = x := List.mem_or_eq_of_mem_set h
theorem sec_getD {l : List (List Int)} (h : ∀ s ∈ l, Sec s) {i : Nat} (hi : i < l.length) : Sec (l.getD i []) := by
 have : l.getD i [] = l[i] := by simp [List.getD, hi]
 rw [this]; exact h _ (List.getElem_mem hi)
theorem sec_torn {s b : List Int} (hs : Sec s) (hb : Sec b) (cut : Nat) : Sec (torn1 s b cut) := by
 refine ⟨by simp [torn1, hs.1, hb.1]; omega, fun z hz => ?_⟩
 rcases List.mem_append.1 hz with h | h
 ·exact hb.2 z (List.mem_of_mem_take h)
 ·exact hs.2 z (List.mem_of_mem_drop h)
theorem sec_flushK {secs mem} (hs : ∀ s ∈ secs, Sec s) (hm : ∀ p ∈ mem, p.1 < secs.length /\ Sec p.2) : ∀ k, k <= mem.length -> ∀ s ∈ flushK secs mem k, Sec s
 | 0, _ => hs
 | k + 1, h => fun s h' => by
  rcases mem_set_or h' with h1 | h1
  ·exact sec_flushK hs hm k (by omega) s h1
  ·rw [h1]; exact (hm _ (pair_mem (by omega))).2
def DS.new (n : Nat) : DS := ⟨List.replicate n (List.replicate 32 0), [], -1, false⟩
def DS.put (D : DS) (i : Nat) (b : List Int) : DS := { D with mem := memPut D.mem i b }
def DS.step (D : DS) : DS := if D.left = 0 then { D with down := true } else if 0 < D.left then { D with left := D.left - 1 } else D
def DS.flush (D : DS) : DS := { D with secs := flushK D.secs D.mem D.mem.length, mem := [] }
def DS.writeE (D : DS) (i : Int) (b : List Int) : Int := if i < 0 \/ (D.secs.length : Int) <= i then 1 else if b.length ≠ 32 then 3 else if D.down then 9 else if D.left = 0 then 9 else 0
def DS.write (D : DS) (i : Int) (b : List Int) : DS := if i < 0 \/ (D.secs.length : Int) <= i \/ b.length ≠ 32 \/ D.down = true then D else (D.put i.toNat b).step
def DS.flushE (D : DS) : Int := if D.down then 9 else if D.left = 0 then 9 else 0
def DS.doFlush (D : DS) : DS := if D.down then D else if D.left = 0 then { D with down := true } else D.step.flush
theorem DS.ok_new (n : Nat) (h : n <= 300) : (DS.new n).Ok where
 len := by simp [DS.new]; exact h
 sec := fun s hs => by
  have : s = List.replicate 32 0 := List.eq_of_mem_replicate hs
  subst this
  exact ⟨by simp, fun z hz => by rw [List.eq_of_mem_replicate hz]; omega⟩
 mem := fun p hp => by simp [DS.new] at hp
 apart := by simp [DS.new]
 left := by simp [DS.new]
theorem DS.Ok.put {D : DS} (h : D.Ok) {i : Nat} {b : List Int} (hi : i < D.secs.length) (hb : Sec b) : (D.put i b).Ok where
 len := h.len
 sec := h.sec
 mem := fun p hp => by
  rcases mem_put hp with rfl | h1
  ·exact ⟨hi, hb⟩
  ·exact h.mem p h1
 apart := by
  show ((memPut D.mem i b).map (·.1)).Nodup
  rw [keys_put]
  split
  ·exact h.apart
  ·rename_i hn
   rw [List.nodup_append]
   refine ⟨h.apart, by simp, fun a ha c hc e => ?_⟩
   simp at hc; subst hc; subst e; exact hn ha
 left := h.left
theorem DS.Ok.step {D : DS} (h : D.Ok) : D.step.Ok := by
 unfold DS.step
 split
 ·exact ⟨h.len, h.sec, h.mem, h.apart, h.left⟩
 ·split
  ·refine ⟨h.len, h.sec, h.mem, h.apart, ?_⟩
   have := h.left
   show -9223372036854775808 <= D.left - 1 /\ D.left - 1 <= 9223372036854775807
   omega
  ·exact h
theorem DS.Ok.flush {D : DS} (h : D.Ok) : D.flush.Ok where
 len := by show (flushK D.secs D.mem D.mem.length).length <= 300; rw [length_flushK]; exact h.len
 sec := sec_flushK h.sec h.mem _ (Nat.le_refl _)
 mem := fun p hp => by simp [DS.flush] at hp
 apart := by simp [DS.flush]
 left := h.left
theorem DS.Ok.write {D : DS} (h : D.Ok) {i : Int} {b : List Int} (hb : Byt b) : (D.write i b).Ok := by
 unfold DS.write
 split
 ·exact h
 ·rename_i hn
  have h1 : 0 <= i /\ i < D.secs.length /\ b.length = 32 := by
   refine ⟨?_, ?_, ?_⟩
   ·rcases Int.lt_or_le i 0 with h1 | h1
    ·exact absurd (.inl h1) hn
    ·exact h1
   ·rcases Int.lt_or_le i D.secs.length with h1 | h1
    ·exact h1
    ·exact absurd (.inr (.inl h1)) hn
   ·rcases Nat.decEq b.length 32 with h1 | h1
    ·exact absurd (.inr (.inr (.inl h1))) hn
    ·exact h1
  exact (h.put (by omega) ⟨h1.2.2, hb⟩).step
theorem DS.Ok.fail {D : DS} (h : D.Ok) {n : Int} (hn : -9223372036854775808 <= n /\ n <= 9223372036854775807) : DS.Ok { D with left := n } := ⟨h.len, h.sec, h.mem, h.apart, hn⟩
theorem DS.Ok.doFlush {D : DS} (h : D.Ok) : D.doFlush.Ok := by
 unfold DS.doFlush
 split
 ·exact h
 ·split
  ·exact ⟨h.len, h.sec, h.mem, h.apart, h.left⟩
  ·exact h.step.flush
theorem DS.Ok.rd {D : DS} (h : D.Ok) {i : Nat} (hi : i < D.secs.length) : Sec (D.rd i) := by
 unfold DS.rd
 cases e : D.mem.lookup i with
 | none => exact sec_getD h.sec hi
 | some b => exact (h.mem _ (lookup_mem e)).2
theorem DS.Ok.mem_len {D : DS} (h : D.Ok) : D.mem.length <= 300 := by
 have h1 : (D.mem.map (·.1)).length <= D.secs.length := by
  have := List.Nodup.length_le_of_subset h.apart (l₂ := List.range D.secs.length) (fun x hx => by
   obtain ⟨p, hp, rfl⟩ := List.mem_map.1 hx
   exact List.mem_range.2 (h.mem p hp).1)
  simpa using this
 have := h.len
 simp at h1; omega
end Go.Proofs.YtecodmiendedfaaGreatDoor
namespace Go.Proofs.YtecodmiendedfaaGreatDoor
open Go.RowKit
set_option linter.unusedVariables false
def andW (x : DS × Int) (i : Int) (b : List Int) : DS × Int := if x.2 = 0 then (x.1.write i b, x.1.writeE i b) else x
def andF (x : DS × Int) : DS × Int := if x.2 = 0 then (x.1.doFlush, x.1.flushE) else x
def wsF (x : DS × Int) (f : Nat -> Int × List Int) : Nat -> DS × Int
 | 0 => x
 | k + 1 => andW (wsF x f k) (f k).1 (f k).2
theorem step_secs (D : DS) : D.step.secs = D.secs := by
 unfold DS.step
 split
 ·rfl
 ·split <;> rfl
theorem step_mem (D : DS) : D.step.mem = D.mem := by
 unfold DS.step
 split
 ·rfl
 ·split <;> rfl
theorem write_secs (D : DS) (i : Int) (b : List Int) : (D.write i b).secs = D.secs := by
 unfold DS.write
 split
 ·rfl
 ·rw [step_secs]; rfl
theorem write_lookup (D : DS) (i : Int) (b : List Int) (k : Nat) (h : (k : Int) ≠ i) : (D.write i b).mem.lookup k = D.mem.lookup k := by
 unfold DS.write
 split
 ·rfl
 ·rename_i hn
  rw [step_mem]
  show (memPut D.mem i.toNat b).lookup k = _
  rw [lookup_put, if_neg (fun e => h (by omega))]
theorem writeE_cases {D : DS} {i : Int} {b : List Int} (h1 : 0 <= i) (h2 : i < D.secs.length) (h3 : b.length = 32) : (D.writeE i b = 0 /\ D.down = false /\ D.left ≠ 0) \/ (D.writeE i b = 9) := by
 unfold DS.writeE
 rw [if_neg (by omega), if_neg (by omega)]
 by_cases hd : D.down = true
 ·rw [if_pos hd]; exact .inr rfl
 ·rw [if_neg hd]
  by_cases hl : D.left = 0
  ·rw [if_pos hl]; exact .inr rfl
  ·rw [if_neg hl]; exact .inl ⟨rfl, by simpa using hd, hl⟩
theorem writeE_zero {D : DS} {i : Int} {b : List Int} (h : D.writeE i b = 0) : 0 <= i /\ i < D.secs.length /\ b.length = 32 /\ D.down = false /\ D.left ≠ 0 := by
 unfold DS.writeE at h
 by_cases h1 : i < 0 \/ (D.secs.length : Int) <= i
 ·rw [if_pos h1] at h; cases h
 ·rw [if_neg h1] at h
  by_cases h2 : b.length ≠ 32
  ·rw [if_pos h2] at h; cases h
  ·rw [if_neg h2] at h
   by_cases hd : D.down = true
   ·rw [if_pos hd] at h; cases h
   ·rw [if_neg hd] at h
    by_cases hl : D.left = 0
    ·rw [if_pos hl] at h; cases h
    ·exact ⟨by omega, by omega, by omega, by simpa using hd, hl⟩
theorem write_eq {D : DS} {i : Int} {b : List Int} (h : D.writeE i b = 0) : D.write i b = (D.put i.toNat b).step := by
 obtain ⟨h1, h2, h3, h4, _⟩ := writeE_zero h
 unfold DS.write
 rw [if_neg]
 rintro (h | h | h | h)
 ·omega
 ·omega
 ·exact h h3
 ·rw [h4] at h; cases h
theorem write_lookup_self {D : DS} {i : Int} {b : List Int} (h : D.writeE i b = 0) : (D.write i b).mem.lookup i.toNat = some b := by
 rw [write_eq h, step_mem]
 show (memPut D.mem i.toNat b).lookup i.toNat = _
 rw [lookup_put, if_pos rfl]
theorem write_down {D : DS} {i : Int} {b : List Int} (h : D.writeE i b = 0) : (D.write i b).down = false := by
 obtain ⟨h1, h2, h3, h4, h5⟩ := writeE_zero h
 rw [write_eq h]
 unfold DS.step
 rw [if_neg (show ¬ (D.put i.toNat b).left = 0 from h5)]
 split <;> exact h4
theorem rd_write {D : DS} {i : Int} {b : List Int} (h : D.writeE i b = 0) (k : Nat) : (D.write i b).rd k = if (k : Int) = i then b else D.rd k := by
 obtain ⟨h1, _⟩ := writeE_zero h
 unfold DS.rd
 by_cases hk : (k : Int) = i
 ·rw [if_pos hk]
  have : k = i.toNat := by omega
  rw [this, write_lookup_self h]; rfl
 ·rw [if_neg hk, write_lookup D i b k hk, write_secs]
theorem flushE_cases (D : DS) : (D.flushE = 0 /\ D.down = false /\ D.left ≠ 0) \/ D.flushE = 9 := by
 unfold DS.flushE
 by_cases hd : D.down = true
 ·rw [if_pos hd]; exact .inr rfl
 ·rw [if_neg hd]
  by_cases hl : D.left = 0
  ·rw [if_pos hl]; exact .inr rfl
  ·rw [if_neg hl]; exact .inl ⟨rfl, by simpa using hd, hl⟩
theorem flush_eq {D : DS} (h : D.flushE = 0) : D.doFlush = D.step.flush /\ D.step.down = false := by
 rcases flushE_cases D with ⟨_, h1, h2⟩ | h1
 ·unfold DS.doFlush
  rw [if_neg (by rw [h1]; exact Bool.false_ne_true), if_neg h2]
  refine ⟨rfl, ?_⟩
  unfold DS.step
  rw [if_neg h2]
  split <;> exact h1
 ·rw [h1] at h; cases h
theorem flush_same {D : DS} (h : D.flushE = 9) : D.doFlush.secs = D.secs /\ D.doFlush.mem = D.mem := by
 unfold DS.doFlush
 by_cases hd : D.down = true
 ·rw [if_pos hd]; exact ⟨rfl, rfl⟩
 ·rw [if_neg hd]
  by_cases hl : D.left = 0
  ·rw [if_pos hl]; exact ⟨rfl, rfl⟩
  ·exfalso
   unfold DS.flushE at h
   rw [if_neg hd, if_neg hl] at h
   cases h
theorem lookup_index {m : List (Nat × List Int)} {k : Nat} {b : List Int} (h : m.lookup k = some b) : ∃ q, q < m.length /\ m.getD q (0, []) = (k, b) := by
 obtain ⟨q, hq, e⟩ := List.getElem_of_mem (lookup_mem h)
 exact ⟨q, hq, by simp [List.getD, hq, e]⟩
theorem none_index {m : List (Nat × List Int)} {k : Nat} (h : m.lookup k = none) : ∀ j, j < m.length -> (m.getD j (0, [])).1 ≠ k := fun j hj e => lookup_none.1 h (e ▸ key_mem hj)
theorem flush_getD {D : DS} (h : D.Ok) (k : Nat) : D.flush.secs.getD k [] = D.rd k := by
 show (flushK D.secs D.mem D.mem.length).getD k [] = _
 unfold DS.rd
 cases e : D.mem.lookup k with
 | none => exact flushK_other _ _ k _ (none_index e)
 | some b =>
  obtain ⟨q, hq, e2⟩ := lookup_index e
  have := flushK_at h.apart (fun p hp => (h.mem p hp).1) hq D.mem.length hq (Nat.le_refl _)
  rw [e2] at this
  exact this
theorem step_rd (D : DS) (k : Nat) : D.step.rd k = D.rd k := by unfold DS.rd; rw [step_mem, step_secs]
theorem doFlush_getD {D : DS} (h : D.Ok) (he : D.flushE = 0) (k : Nat) : D.doFlush.secs.getD k [] = D.rd k /\ D.doFlush.mem = [] /\ D.doFlush.down = false := by
 obtain ⟨h1, h2⟩ := flush_eq he
 rw [h1]
 exact ⟨by rw [flush_getD h.step, step_rd], rfl, h2⟩
theorem doFlush_len (D : DS) : D.doFlush.secs.length = D.secs.length := by
 unfold DS.doFlush
 split
 ·rfl
 ·split
  ·rfl
  ·show (flushK D.step.secs D.step.mem D.step.mem.length).length = _
   rw [length_flushK, step_secs]
def Poss (D : DS) (k : Nat) (v : List Int) : Prop := v = D.secs.getD k [] \/ ∃ b, D.mem.lookup k = some b /\ (v = b \/ ∃ c, c <= 32 /\ v = mixL b (D.secs.getD k []) c)
def Only (W : Nat -> Prop) (D : DS) (C : Nat -> List Int) : Prop := ∀ k, ¬ W k -> D.mem.lookup k = none /\ D.secs.getD k [] = C k
theorem Only.poss {W : Nat -> Prop} {D : DS} {C : Nat -> List Int} (h : Only W D C) {k : Nat} (hk : ¬ W k) {v : List Int} (hp : Poss D k v) : v = C k := by
 obtain ⟨h1, h2⟩ := h k hk
 rcases hp with hp | ⟨b, hb, _⟩
 ·rw [hp, h2]
 ·rw [h1] at hb; cases hb
theorem Only.write {W : Nat -> Prop} {D : DS} {C : Nat -> List Int} (h : Only W D C) (i : Int) (b : List Int) (hi : ∀ k : Nat, (k : Int) = i -> W k) : Only W (D.write i b) C := fun k hk => by
 rw [write_lookup D i b k (fun e => hk (hi k e)), write_secs]
 exact h k hk
theorem Only.rd {W : Nat -> Prop} {D : DS} {C : Nat -> List Int} (h : Only W D C) {k : Nat} (hk : ¬ W k) : D.rd k = C k := by
 unfold DS.rd
 rw [(h k hk).1, (h k hk).2]; rfl
theorem Only.flush {W : Nat -> Prop} {D : DS} {C : Nat -> List Int} (h : Only W D C) (ho : D.Ok) : Only W D.doFlush C := fun k hk => by
 rcases flushE_cases D with ⟨he, _⟩ | he
 ·obtain ⟨h1, h2, _⟩ := doFlush_getD ho he k
  rw [h1, h2]
  exact ⟨rfl, h.rd hk⟩
 ·rw [(flush_same he).1, (flush_same he).2]
  exact h k hk
structure Run (W : Nat -> Prop) (C : Nat -> List Int) (n : Nat) (x : DS × Int) : Prop where
 ok : x.1.Ok
 only : Only W x.1 C
 len : x.1.secs.length = n
 err : (x.2 = 0 /\ x.1.down = false) \/ x.2 = 9
theorem Run.w {W : Nat -> Prop} {C : Nat -> List Int} {n : Nat} {x : DS × Int} (h : Run W C n x) {i : Int} {b : List Int} (h1 : 0 <= i) (h2 : i < n) (hb : Sec b) (hi : W i.toNat) : Run W C n (andW x i b) := by
 unfold andW
 split
 ·rename_i hx
  refine ⟨h.ok.write hb.2, h.only.write i b (fun k hk => by rw [show k = i.toNat by omega]; exact hi), by show (x.1.write i b).secs.length = n; rw [write_secs]; exact h.len, ?_⟩
  rcases writeE_cases (D := x.1) h1 (by rw [h.len]; exact h2) hb.1 with ⟨he, _⟩ | he
  ·exact .inl ⟨he, write_down he⟩
  ·exact .inr he
 ·exact h
theorem Run.f {W : Nat -> Prop} {C : Nat -> List Int} {n : Nat} {x : DS × Int} (h : Run W C n x) : Run W C n (andF x) := by
 unfold andF
 split
 ·rename_i hx
  refine ⟨h.ok.doFlush, h.only.flush h.ok, by show x.1.doFlush.secs.length = n; rw [doFlush_len]; exact h.len, ?_⟩
  rcases flushE_cases x.1 with ⟨he, _⟩ | he
  ·exact .inl ⟨he, (doFlush_getD h.ok he 0).2.2⟩
  ·exact .inr he
 ·exact h
theorem Run.ws {W : Nat -> Prop} {C : Nat -> List Int} {n : Nat} {x : DS × Int} (h : Run W C n x) {f : Nat -> Int × List Int} : ∀ m, (∀ j, j < m -> 0 <= (f j).1 /\ (f j).1 < n /\ Sec (f j).2 /\ W (f j).1.toNat) -> Run W C n (wsF x f m)
 | 0, _ => h
 | m + 1, hf => (Run.ws h m (fun j hj => hf j (by omega))).w (hf m (by omega)).1 (hf m (by omega)).2.1 (hf m (by omega)).2.2.1 (hf m (by omega)).2.2.2
theorem andW_zero {x : DS × Int} {i : Int} {b : List Int} (h : (andW x i b).2 = 0) : x.2 = 0 /\ x.1.writeE i b = 0 /\ (andW x i b).1 = x.1.write i b := by
 unfold andW at *
 split at h
 ·rename_i hx
  rw [if_pos hx]
  exact ⟨hx, h, rfl⟩
 ·rename_i hx
  exact absurd h hx
theorem andF_zero {x : DS × Int} (h : (andF x).2 = 0) : x.2 = 0 /\ x.1.flushE = 0 /\ (andF x).1 = x.1.doFlush := by
 unfold andF at *
 split at h
 ·rename_i hx
  rw [if_pos hx]
  exact ⟨hx, h, rfl⟩
 ·rename_i hx
  exact absurd h hx
theorem wsF_rd {x : DS × Int} {f : Nat -> Int × List Int} : ∀ m, (wsF x f m).2 = 0 -> (∀ i j, i < m -> j < m -> (f i).1 = (f j).1 -> (f i).2 = (f j).2) ->
  x.2 = 0 /\ (∀ j, j < m -> (wsF x f m).1.rd (f j).1.toNat = (f j).2) /\ ∀ k : Nat, (∀ j, j < m -> (f j).1 ≠ k) -> (wsF x f m).1.rd k = x.1.rd k
 | 0, h, _ => ⟨h, fun j hj => by omega, fun k _ => rfl⟩
 | m + 1, h, hinj => by
  obtain ⟨h1, h2, h3⟩ := andW_zero (show (andW (wsF x f m) (f m).1 (f m).2).2 = 0 from h)
  obtain ⟨g1, g2, g3⟩ := wsF_rd m h1 (fun i j hi hj => hinj i j (by omega) (by omega))
  have hpos := (writeE_zero h2).1
  refine ⟨g1, fun j hj => ?_, fun k hk => ?_⟩
  ·show (andW (wsF x f m) (f m).1 (f m).2).1.rd _ = _
   rw [h3, rd_write h2]
   by_cases e : j = m
   ·subst e
    rw [if_pos (by omega)]
   ·have hj' : j < m := by omega
    by_cases hz : 0 <= (f j).1
    ·by_cases e2 : (f j).1 = (f m).1
     ·rw [if_pos (by omega)]
      exact (hinj j m (by omega) (by omega) e2).symm
     ·rw [if_neg (by omega), g2 j hj']
    ·exfalso
     have : ∀ q, j < q -> (wsF x f q).2 = 0 -> 0 <= (f j).1 := by
      intro q
      induction q with
      | zero => intro h; omega
      | succ q ih =>
       intro hq hq0
       obtain ⟨a1, a2, _⟩ := andW_zero (show (andW (wsF x f q) (f q).1 (f q).2).2 = 0 from hq0)
       by_cases e3 : j = q
       ·subst e3; exact (writeE_zero a2).1
       ·exact ih (by omega) a1
     exact hz (this m hj' h1)
  ·show (andW (wsF x f m) (f m).1 (f m).2).1.rd _ = _
   rw [h3, rd_write h2, if_neg (fun e => hk m (by omega) e.symm), g3 k (fun j hj => hk j (by omega))]
def numsOf (body : List Int) : List Int := (body.drop 1).take (body.getD 0 0).toNat
def mark (L : Nat) (b : List Int) : Option (Int × List Int) :=
 if (openOut b).2.2 = 0 /\ (openOut b).2.1.getD 0 0 <= 23 /\ (∀ z ∈ numsOf (openOut b).2.1, z < L) then some ((openOut b).1, numsOf (openOut b).2.1) else none
theorem mark_facts {L : Nat} {b : List Int} {s : Int} {l : List Int} (hb : Byt b) (h : mark L b = some (s, l)) : 0 < s /\ l.length <= 23 /\ (∀ z ∈ l, 0 <= z /\ z < L) /\ b.take 4 = b.drop 28 /\ numOf (b.take 4) = s /\ b.length = 32 := by
 unfold mark at h
 split at h
 ·rename_i hc
  obtain ⟨h1, h2, h3⟩ := hc
  simp only [Option.some.injEq, Prod.mk.injEq] at h
  obtain ⟨hs, hl⟩ := h
  have hlen : b.length = 32 := by
   by_cases e : b.length ≠ 32
   ·unfold openOut at h1; rw [if_pos e] at h1; cases h1
   ·omega
  have he : getV b 0 4 = getV b 28 4 := by
   by_cases e : getV b 0 4 ≠ getV b 28 4
   ·unfold openOut at h1; rw [if_neg (by omega), if_pos e] at h1; cases h1
   ·omega
  have h0 : ¬ getV b 0 4 = 0 := by
   intro e
   unfold openOut at h1; rw [if_neg (by omega), if_neg (by omega), if_pos e] at h1; cases h1
  have ho : openOut b = (getV b 0 4, (b.drop 4).take 24, 0) := by unfold openOut; rw [if_neg (by omega), if_neg (by omega), if_neg h0]
  rw [ho] at hs hl h2 h3
  dsimp only at hs hl h2 h3
  have hbd := getV_bd b hb 0 4 (by omega)
  refine ⟨by omega, ?_, ?_, ?_, by rw [<- getV_front]; exact hs, hlen⟩
  ·rw [<- hl]; unfold numsOf; simp; omega
  ·intro z hz
   rw [<- hl] at hz
   refine ⟨?_, h3 z hz⟩
   have : z ∈ b := List.mem_of_mem_drop (List.mem_of_mem_take (List.mem_of_mem_drop (List.mem_of_mem_take hz)))
   exact (hb z this).1
  ·rw [getV_front, getV_back b hlen] at he
   exact numOf_inj (by simp; omega) (fun z hz => hb z (List.mem_of_mem_take hz)) (fun z hz => hb z (List.mem_of_mem_drop hz)) he
 ·cases h
def Rec (L : Nat) (v : Nat -> List Int) (s : Int) (P : Nat -> List Int) : Prop :=
 ∃ a l, (a = 0 \/ a = 1) /\ mark L (v a) = some (s, l) /\ (∀ t l', mark L (v (1 - a)) = some (t, l') -> t < s) /\ 0 < s /\ (∀ k, k < l.length -> v (2 + 23 * a + k) = P (l.getD k 0).toNat) /\ ∀ i, i < L -> (i : Int) ∉ l -> v (48 + i) = P i
structure Neat (D : DS) (L : Nat) (s : Int) (P : Nat -> List Int) (a : Nat) (l : List Int) : Prop where
 ok : D.Ok
 mem : D.mem = []
 down : D.down = false
 len : 48 + L <= D.secs.length
 lt : L <= 200
 two : a = 0 \/ a = 1
 even : s % 2 = (a : Int)
 s1 : 1 <= s
 s2 : s <= 1000
 got : mark L (D.secs.getD a []) = some (s, l)
 redo : ∀ k, k < l.length -> D.secs.getD (2 + 23 * a + k) [] = P (l.getD k 0).toNat
 pages : ∀ i, i < L -> D.secs.getD (48 + i) [] = P i
 other : (D.secs.getD (1 - a) []).take 4 = (D.secs.getD (1 - a) []).drop 28
 differs : (D.secs.getD (1 - a) []).take 4 ≠ side (s + 1)
 less : ∀ t l', mark L (D.secs.getD (1 - a) []) = some (t, l') -> t < s
def pgFault (L : Int) (l : List (Int × List Int)) (k : Nat) : Int :=
 if (l.getD k (0, [])).1 < 0 \/ L <= (l.getD k (0, [])).1 then 1 else if (l.getD k (0, [])).2.length ≠ 32 then 3 else if (List.range k).any (fun j => (l.getD j (0, [])).1 == (l.getD k (0, [])).1) then 7 else 0
def chkK (L : Int) (l : List (Int × List Int)) : Nat -> Int
 | 0 => 0
 | k + 1 => if chkK L l k = 0 then pgFault L l k else chkK L l k
def commitE (L : Int) (l : List (Int × List Int)) : Int := if 23 < l.length then 4 else chkK L l l.length
structure Valid (L : Nat) (l : List (Int × List Int)) : Prop where
 len : l.length <= 23
 num : ∀ k, k < l.length -> 0 <= (l.getD k (0, [])).1 /\ (l.getD k (0, [])).1 < L
 body : ∀ k, k < l.length -> (l.getD k (0, [])).2.length = 32
 apart : ∀ j k, j < k -> k < l.length -> (l.getD j (0, [])).1 ≠ (l.getD k (0, [])).1
theorem chkK_zero {L : Nat} {l : List (Int × List Int)} : ∀ n, chkK L l n = 0 -> ∀ k, k < n -> pgFault L l k = 0
 | 0, _, k, hk => by omega
 | n + 1, h, k, hk => by
  unfold chkK at h
  by_cases h0 : chkK L l n = 0
  ·rw [if_pos h0] at h
   by_cases e : k = n
   ·subst e; exact h
   ·exact chkK_zero n h0 k (by omega)
  ·rw [if_neg h0] at h
   exact absurd h h0
theorem valid_of {L : Nat} {l : List (Int × List Int)} (h : commitE L l = 0) : Valid L l := by
 unfold commitE at h
 by_cases h1 : 23 < l.length
 ·rw [if_pos h1] at h; cases h
 ·rw [if_neg h1] at h
  have hp := chkK_zero l.length h
  have hall : ∀ k, k < l.length -> (0 <= (l.getD k (0, [])).1 /\ (l.getD k (0, [])).1 < L) /\ (l.getD k (0, [])).2.length = 32 /\ ∀ j, j < k -> (l.getD j (0, [])).1 ≠ (l.getD k (0, [])).1 := by
   intro k hk
   have := hp k hk
   unfold pgFault at this
   by_cases c1 : (l.getD k (0, [])).1 < 0 \/ (L : Int) <= (l.getD k (0, [])).1
   ·rw [if_pos c1] at this; cases this
   ·rw [if_neg c1] at this
    by_cases c2 : (l.getD k (0, [])).2.length ≠ 32
    ·rw [if_pos c2] at this; cases this
    ·rw [if_neg c2] at this
     by_cases c3 : (List.range k).any (fun j => (l.getD j (0, [])).1 == (l.getD k (0, [])).1) = true
     ·rw [if_pos c3] at this; cases this
     ·refine ⟨by omega, by omega, fun j hj e => c3 ?_⟩
      rw [List.any_eq_true]
      exact ⟨j, List.mem_range.2 hj, by simpa using e⟩
  exact ⟨by omega, fun k hk => (hall k hk).1, fun k hk => (hall k hk).2.1, fun j k hj hk => (hall k hk).2.2 j hj⟩
def markB (l : List (Int × List Int)) : List Int := (l.length : Int) :: l.map (·.1)
def commitA (D : DS) (a : Int) (l : List (Int × List Int)) : DS × Int := andF (wsF (D, 0) (fun i => (2 + 23 * a + i, (l.getD i (0, [])).2)) l.length)
def commitB (x : DS × Int) (a s : Int) (l : List (Int × List Int)) : DS × Int :=
 andF (if x.2 = 0 then (if (makeOut s (markB l)).2 = 0 then andW x a (makeOut s (markB l)).1 else (x.1, (makeOut s (markB l)).2)) else x)
def commitC (x : DS × Int) (l : List (Int × List Int)) : DS × Int := andF (wsF x (fun i => (48 + (l.getD i (0, [])).1, (l.getD i (0, [])).2)) l.length)
def commitRun (D : DS) (s : Int) (l : List (Int × List Int)) : DS × Int := commitC (commitB (commitA D ((s + 1) % 2) l) ((s + 1) % 2) (s + 1) l) l
def upd (P : Nat -> List Int) (l : List (Int × List Int)) (i : Nat) : List Int :=
 match l.find? (fun q => q.1 == (i : Int)) with
 | some q => q.2
 | none => P i
theorem upd_other {P : Nat -> List Int} {l : List (Int × List Int)} {i : Nat} (h : (i : Int) ∉ l.map (·.1)) : upd P l i = P i := by
 unfold upd
 cases e : l.find? (fun q => q.1 == (i : Int)) with
 | none => rfl
 | some q =>
  exfalso
  have h1 := List.find?_some e
  have h2 := List.mem_of_find?_eq_some e
  exact h (List.mem_map.2 ⟨q, h2, by simpa using h1⟩)
theorem upd_at {P : Nat -> List Int} {l : List (Int × List Int)} {L : Nat} (hv : Valid L l) {k : Nat} (hk : k < l.length) : upd P l (l.getD k (0, [])).1.toNat = (l.getD k (0, [])).2 := by
 unfold upd
 have h0 := hv.num k hk
 have hq : (((l.getD k (0, [])).1.toNat : Nat) : Int) = (l.getD k (0, [])).1 := by omega
 rw [hq]
 cases e : l.find? (fun q => q.1 == (l.getD k (0, [])).1) with
 | none =>
  exfalso
  have := List.find?_eq_none.1 e (l.getD k (0, [])) (by simp [List.getD, hk])
  simp at this
 | some q =>
  have h1 : q.1 = (l.getD k (0, [])).1 := by simpa using List.find?_some e
  obtain ⟨j, hj, hje⟩ := List.getElem_of_mem (List.mem_of_find?_eq_some e)
  have hg : l.getD j (0, []) = q := by simp [List.getD, hj, hje]
  have : j = k := by
   rcases Nat.lt_trichotomy j k with h | h | h
   ·exact absurd (by rw [hg]; exact h1) (hv.apart j k h hk)
   ·exact h
   ·exact absurd (by rw [hg]; exact h1.symm) (hv.apart k j h hj)
  subst this
  rw [hg]
theorem length_markB (l : List (Int × List Int)) : (markB l).length = l.length + 1 := by simp [markB]
theorem mark_made {L : Nat} {s : Int} {l : List (Int × List Int)} (hv : Valid L l) (h1 : 1 <= s) (h2 : s <= 4294967295) : makeOut s (markB l) = (secL s (markB l), 0) /\ mark L (secL s (markB l)) = some (s, l.map (·.1)) := by
 have hl := hv.len
 have hm := length_markB l
 refine ⟨by unfold makeOut; rw [if_neg (by omega), if_neg (by omega)], ?_⟩
 have ho := openOut_secL s (markB l) h1 h2 (by omega)
 have hn : numsOf (markB l ++ zerosB (24 - (markB l).length)) = l.map (·.1) := by
  unfold numsOf markB
  show List.take (Int.toNat ((l.length : Int))) (l.map (·.1) ++ zerosB _) = _
  rw [Int.toNat_natCast, List.take_append_of_le_length (by simp), List.take_of_length_le (by simp)]
 unfold mark
 rw [ho]
 dsimp only
 rw [hn, if_pos]
 refine ⟨rfl, ?_, fun z hz => ?_⟩
 ·show (l.length : Int) <= 23
  omega
 ·obtain ⟨q, hq, rfl⟩ := List.mem_map.1 hz
  obtain ⟨j, hj, hje⟩ := List.getElem_of_mem hq
  have := hv.num j hj
  have hg : l.getD j (0, []) = q := by simp [List.getD, hj, hje]
  rw [hg] at this
  exact this.2
theorem getD_nums (l : List (Int × List Int)) {k : Nat} (hk : k < l.length) : (l.map (·.1)).getD k 0 = (l.getD k (0, [])).1 := by simp [List.getD, hk]
theorem andW_err {x : DS × Int} {i : Int} {b : List Int} (h : x.2 ≠ 0) : andW x i b = x := by unfold andW; rw [if_neg h]
theorem andF_err {x : DS × Int} (h : x.2 ≠ 0) : andF x = x := by unfold andF; rw [if_neg h]
theorem wsF_err {x : DS × Int} {f : Nat -> Int × List Int} (h : x.2 ≠ 0) : ∀ m, wsF x f m = x
 | 0 => rfl
 | m + 1 => by
  show andW (wsF x f m) (f m).1 (f m).2 = x
  rw [wsF_err h m, andW_err h]
theorem commitC_err {x : DS × Int} {l : List (Int × List Int)} (h : x.2 ≠ 0) : commitC x l = x := by unfold commitC; rw [wsF_err h, andF_err h]
theorem commitB_err {x : DS × Int} {a s : Int} {l : List (Int × List Int)} (h : x.2 ≠ 0) : commitB x a s l = x := by unfold commitB; rw [if_neg h, andF_err h]
theorem lookup_write_le {D : DS} {i : Int} {b b' : List Int} {k : Nat} (h : (D.write i b).mem.lookup k = some b') : D.mem.lookup k = some b' \/ b' = b := by
 by_cases hk : (k : Int) = i
 ·unfold DS.write at h
  split at h
  ·exact .inl h
  ·rw [step_mem] at h
   have h' : (memPut D.mem i.toNat b).lookup k = some b' := h
   rw [lookup_put] at h'
   split at h'
   ·exact .inr (Option.some.inj h').symm
   ·exact .inl h'
 ·rw [write_lookup D i b k hk] at h
  exact .inl h
def img (D : DS) (k : Nat) : List Int := D.secs.getD k []
theorem only_img {D : DS} (h : D.mem = []) (W : Nat -> Prop) : Only W D (img D) := fun k _ => by rw [h]; exact ⟨rfl, rfl⟩
def Cut (D : DS) (L : Nat) (s : Int) (P : Nat -> List Int) (l : List (Int × List Int)) : Prop :=
 ∀ v : Nat -> List Int, (∀ k, Poss D k (v k)) -> Rec L v s P \/ Rec L v (s + 1) (upd P l)
section
variable {D : DS} {L : Nat} {s : Int} {P : Nat -> List Int} {a : Nat} {nl : List Int} {l : List (Int × List Int)}
def reg (a : Nat) (k : Nat) : Prop := 2 + 23 * (1 - a) <= k /\ k < 25 + 23 * (1 - a)
theorem run_a (h : Neat D L s P a nl) (hv : Valid L l) (hb : ∀ k, k < l.length -> Byt (l.getD k (0, [])).2) : Run (reg a) (img D) D.secs.length (commitA D ((s + 1) % 2) l) := by
 have ha : (s + 1) % 2 = ((1 - a : Nat) : Int) := by have := h.even; rcases h.two with rfl | rfl <;> omega
 have hl := h.len
 have hvl := hv.len
 unfold commitA
 refine Run.f (Run.ws (⟨h.ok, only_img h.mem _, rfl, .inl ⟨rfl, h.down⟩⟩ : Run (reg a) (img D) D.secs.length (D, 0)) l.length (fun j hj => ?_))
 rw [ha]
 have h2 := h.two
 have hL := hv.num j hj
 refine ⟨by omega, by omega, ⟨hv.body j hj, hb j hj⟩, ?_⟩
 unfold reg
 constructor <;> omega
theorem cut_a (h : Neat D L s P a nl) {D' : DS} (ho : Only (reg a) D' (img D)) : ∀ v : Nat -> List Int, (∀ k, Poss D' k (v k)) -> Rec L v s P := by
 intro v hv
 have e : ∀ k, ¬ reg a k -> v k = img D k := fun k hk => ho.poss hk (hv k)
 have hn := mark_facts (sec_getD h.ok.sec (by have := h.len; rcases h.two with rfl | rfl <;> omega)).2 h.got
 have h2 := h.two
 refine ⟨a, nl, h.two, ?_, ?_, by have := h.s1; omega, fun k hk => ?_, fun i hi _ => ?_⟩
 ·rw [e a (by unfold reg; omega)]; exact h.got
 ·rw [e (1 - a) (by unfold reg; omega)]; exact h.less
 ·rw [e (2 + 23 * a + k) (by unfold reg; have := hn.2.1; omega)]; exact h.redo k hk
 ·rw [e (48 + i) (by unfold reg; omega)]; exact h.pages i hi
structure Aside (D : DS) (L : Nat) (s : Int) (P : Nat -> List Int) (a : Nat) (nl : List Int) (l : List (Int × List Int)) (E : DS) : Prop where
 ok : E.Ok
 mem : E.mem = []
 down : E.down = false
 len : E.secs.length = D.secs.length
 same : ∀ k, ¬ reg a k -> img E k = img D k
 body : ∀ j, j < l.length -> img E (2 + 23 * (1 - a) + j) = (l.getD j (0, [])).2
theorem aside (h : Neat D L s P a nl) (hv : Valid L l) (hb : ∀ k, k < l.length -> Byt (l.getD k (0, [])).2) (he : (commitA D ((s + 1) % 2) l).2 = 0) : Aside D L s P a nl l (commitA D ((s + 1) % 2) l).1 := by
 have hr := run_a h hv hb
 have ha : (s + 1) % 2 = ((1 - a : Nat) : Int) := by have := h.even; rcases h.two with rfl | rfl <;> omega
 have hrun : (commitA D ((s + 1) % 2) l).2 = 0 := he
 unfold commitA at he hr ⊢
 obtain ⟨e1, e2, e3⟩ := andF_zero he
 obtain ⟨r1, r2, r3, _⟩ := hr
 rw [e3] at r1 r2 r3 ⊢
 have hok : (wsF (D, 0) (fun i => (2 + 23 * ((s + 1) % 2) + i, (l.getD i (0, [])).2)) l.length).1.Ok := by
  have hl := h.len
  have hvl := hv.len
  refine (Run.ws (⟨h.ok, only_img h.mem _, rfl, .inl ⟨rfl, h.down⟩⟩ : Run (reg a) (img D) D.secs.length (D, 0)) l.length (fun j hj => ?_)).ok
  rw [ha]
  have h2 := h.two
  refine ⟨by omega, by omega, ⟨hv.body j hj, hb j hj⟩, ?_⟩
  unfold reg
  constructor <;> omega
 have hw := wsF_rd l.length e1 (fun i j _ _ e => by dsimp only at e ⊢; rw [show i = j by omega])
 refine ⟨r1, (doFlush_getD hok e2 0).2.1, (doFlush_getD hok e2 0).2.2, r3, fun k hk => (r2 k hk).2, fun j hj => ?_⟩
 show (DS.doFlush _).secs.getD _ [] = _
 rw [(doFlush_getD hok e2 _).1]
 have := hw.2.1 j hj
 dsimp only at this
 rw [ha] at this ⊢
 rw [show (2 + 23 * ((1 - a : Nat) : Int) + (j : Int)).toNat = 2 + 23 * (1 - a) + j by omega] at this
 exact this
variable {E : DS}
theorem Aside.recNew (h : Neat D L s P a nl) (hv : Valid L l) (hs : Aside D L s P a nl l E) {v : Nat -> List Int} (e : ∀ k, k ≠ 1 - a -> (∀ j, j < l.length -> (k : Int) ≠ 48 + (l.getD j (0, [])).1) -> v k = img E k) (hx : v (1 - a) = secL (s + 1) (markB l)) : Rec L v (s + 1) (upd P l) := by
 have h2 := h.two
 have hs1 := h.s1
 have hs2 := h.s2
 have hm := (mark_made hv (show 1 <= s + 1 by omega) (by omega)).2
 have ha1 : 1 - (1 - a) = a := by omega
 have hvl := hv.len
 refine ⟨1 - a, l.map (·.1), by omega, ?_, ?_, by omega, fun k hk => ?_, fun i hi hn => ?_⟩
 ·rw [hx]; exact hm
 ·rw [ha1, e a (by omega) (fun j hj => by have := hv.num j hj; omega), hs.same a (by unfold reg; omega)]
  intro t l' ht
  have hg : mark L (img D a) = some (s, nl) := h.got
  rw [hg] at ht
  have : s = t := by simpa using congrArg (fun o : Option (Int × List Int) => (o.map (·.1)).getD 0) ht
  omega
 ·have hk' : k < l.length := by simpa using hk
  rw [e _ (by omega) (fun j hj => by have := hv.num j hj; omega), hs.body k hk', getD_nums l hk', upd_at hv hk']
 ·rw [upd_other hn, e _ (by omega) (fun j hj e2 => hn (List.mem_map.2 ⟨l.getD j (0, []), by simp [List.getD, hj], by omega⟩)), hs.same (48 + i) (by unfold reg; omega)]
  exact h.pages i hi
theorem cut_b (h : Neat D L s P a nl) (hv : Valid L l) (hs : Aside D L s P a nl l E) {E' : DS} (ho : Only (fun k => k = 1 - a) E' (img E)) (hsec : E'.secs = E.secs) (hlook : ∀ b, E'.mem.lookup (1 - a) = some b -> b = secL (s + 1) (markB l)) : Cut E' L s P l := by
 intro v hp
 have h2 := h.two
 have hs1 := h.s1
 have hs2 := h.s2
 have hvl := hv.len
 have hml := length_markB l
 have e : ∀ k, k ≠ 1 - a -> v k = img E k := fun k hk => ho.poss hk (hp k)
 have hY : img E (1 - a) = img D (1 - a) := hs.same (1 - a) (by unfold reg; omega)
 have old : (∀ t l', mark L (v (1 - a)) = some (t, l') -> t < s) -> Rec L v s P := fun hm => by
  have hn := mark_facts (sec_getD h.ok.sec (by have := h.len; omega)).2 h.got
  refine ⟨a, nl, h.two, ?_, hm, by omega, fun k hk => ?_, fun i hi _ => ?_⟩
  ·rw [e a (by omega), hs.same a (by unfold reg; omega)]; exact h.got
  ·rw [e _ (by omega), hs.same _ (by unfold reg; have := hn.2.1; omega)]; exact h.redo k hk
  ·rw [e _ (by omega), hs.same _ (by unfold reg; omega)]; exact h.pages i hi
 have new : v (1 - a) = secL (s + 1) (markB l) -> Rec L v (s + 1) (upd P l) := fun hx => hs.recNew h hv (fun k hk _ => e k hk) hx
 have hlast : v (1 - a) = img D (1 - a) -> Rec L v s P \/ Rec L v (s + 1) (upd P l) := fun hx => .inl (old (by rw [hx]; exact h.less))
 rcases hp (1 - a) with hq | ⟨b, hb, hq⟩
 ·rw [hsec] at hq
  exact hlast (hq.trans hY)
 ·have hbx := hlook b hb
  subst hbx
  rcases hq with hq | ⟨c, hc, hq⟩
  ·exact .inr (new hq)
  ·rw [hsec, show E.secs.getD (1 - a) [] = img D (1 - a) from hY] at hq
   have hXl : (secL (s + 1) (markB l)).length = 32 := length_secL _ _ (by omega)
   have hDs : Sec (img D (1 - a)) := sec_getD h.ok.sec (by have := h.len; omega)
   have hbm : Byt (markB l) := fun z hz => by
    rcases List.mem_cons.1 hz with rfl | hz
    ·omega
    ·obtain ⟨q, hq, rfl⟩ := List.mem_map.1 hz
     obtain ⟨j, hj, hje⟩ := List.getElem_of_mem hq
     have hn := hv.num j hj
     have hg : l.getD j (0, []) = q := by simp [List.getD, hj, hje]
     rw [hg] at hn
     have := h.lt
     omega
   by_cases ho2 : (openOut (v (1 - a))).2.2 = 0
   ·rw [hq] at ho2
    rcases torn_told hXl hDs.1 (byt_secL _ _ hbm) hDs.2 (by rw [secL_front _ _ (by omega), secL_back _ _ (by omega)]) h.other (by rw [secL_front _ _ (by omega)]; exact fun e => h.differs e.symm) hc ho2 with hz | hz
    ·exact .inr (new (hq.trans hz))
    ·exact hlast (hq.trans hz)
   ·refine .inl (old ?_)
    intro t l' ht
    unfold mark at ht
    rw [if_neg (fun hc => ho2 hc.1)] at ht
    cases ht
theorem run_b (h : Neat D L s P a nl) (hv : Valid L l) (hs : Aside D L s P a nl l E) :
  ((commitB (E, 0) ((s + 1) % 2) (s + 1) l).2 = 9 /\ (commitB (E, 0) ((s + 1) % 2) (s + 1) l).1.Ok /\ (commitB (E, 0) ((s + 1) % 2) (s + 1) l).1.secs.length = D.secs.length /\ Cut (commitB (E, 0) ((s + 1) % 2) (s + 1) l).1 L s P l) \/
  ((commitB (E, 0) ((s + 1) % 2) (s + 1) l).2 = 0 /\ (commitB (E, 0) ((s + 1) % 2) (s + 1) l).1.Ok /\ (commitB (E, 0) ((s + 1) % 2) (s + 1) l).1.mem = [] /\ (commitB (E, 0) ((s + 1) % 2) (s + 1) l).1.down = false /\
   (commitB (E, 0) ((s + 1) % 2) (s + 1) l).1.secs.length = D.secs.length /\ (∀ k, k ≠ 1 - a -> img (commitB (E, 0) ((s + 1) % 2) (s + 1) l).1 k = img E k) /\ img (commitB (E, 0) ((s + 1) % 2) (s + 1) l).1 (1 - a) = secL (s + 1) (markB l)) := by
 have ha : (s + 1) % 2 = ((1 - a : Nat) : Int) := by have := h.even; rcases h.two with rfl | rfl <;> omega
 have h2 := h.two
 have hs1 := h.s1
 have hs2 := h.s2
 have hlen := h.len
 have hvl := hv.len
 have hml := length_markB l
 have hm := (mark_made hv (show 1 <= s + 1 by omega) (by omega)).1
 have hbm : Byt (markB l) := fun z hz => by
  rcases List.mem_cons.1 hz with rfl | hz
  ·omega
  ·obtain ⟨q, hq, rfl⟩ := List.mem_map.1 hz
   obtain ⟨j, hj, hje⟩ := List.getElem_of_mem hq
   have hn := hv.num j hj
   have hg : l.getD j (0, []) = q := by simp [List.getD, hj, hje]
   rw [hg] at hn
   have := h.lt
   omega
 have hX : Sec (secL (s + 1) (markB l)) := ⟨length_secL _ _ (by omega), byt_secL _ _ hbm⟩
 have e0 : commitB (E, 0) ((s + 1) % 2) (s + 1) l = andF (andW (E, 0) ((1 - a : Nat) : Int) (secL (s + 1) (markB l))) := by
  unfold commitB
  rw [if_pos rfl, hm, if_pos rfl, ha]
 rw [e0]
 have r0 : Run (fun k => k = 1 - a) (img E) D.secs.length (E, 0) := ⟨hs.ok, only_img hs.mem _, hs.len, .inl ⟨rfl, hs.down⟩⟩
 have r1 := r0.w (i := ((1 - a : Nat) : Int)) (b := secL (s + 1) (markB l)) (by omega) (by omega) hX (by omega)
 have r2 := r1.f
 have hsec1 : (andW (E, 0) ((1 - a : Nat) : Int) (secL (s + 1) (markB l))).1.secs = E.secs := by
  unfold andW; rw [if_pos rfl]; exact write_secs _ _ _
 have hlook1 : ∀ b, (andW (E, 0) ((1 - a : Nat) : Int) (secL (s + 1) (markB l))).1.mem.lookup (1 - a) = some b -> b = secL (s + 1) (markB l) := by
  intro b hb
  unfold andW at hb
  rw [if_pos rfl] at hb
  rcases lookup_write_le hb with h3 | h3
  ·have h4 : E.mem.lookup (1 - a) = some b := h3
   rw [hs.mem] at h4; cases h4
  ·exact h3
 generalize hx : andW (E, 0) ((1 - a : Nat) : Int) (secL (s + 1) (markB l)) = x at *
 rcases r2.err with ⟨hz, hd⟩ | hz
 ·right
  obtain ⟨f1, f2, f3⟩ := andF_zero hz
  rw [<- hx] at f1
  obtain ⟨g1, g2, g3⟩ := andW_zero f1
  rw [hx] at g3
  have hok := r1.ok
  have hfl := fun k => doFlush_getD hok f2 k
  refine ⟨hz, r2.ok, ?_, hd, r2.len, fun k hk => (r2.only k hk).2, ?_⟩
  ·rw [f3]; exact (hfl 0).2.1
  ·show (andF x).1.secs.getD (1 - a) [] = _
   rw [f3, (hfl _).1, g3, rd_write g2, if_pos rfl]
 ·left
  refine ⟨hz, r2.ok, r2.len, ?_⟩
  by_cases hx0 : x.2 = 0
  ·have hf : x.1.flushE = 9 := by
    unfold andF at hz
    rw [if_pos hx0] at hz
    exact hz
   have e1 : (andF x).1 = x.1.doFlush := by unfold andF; rw [if_pos hx0]
   rw [e1]
   refine cut_b h hv hs (fun k hk => ?_) ?_ ?_
   ·rw [(flush_same hf).1, (flush_same hf).2]; exact r1.only k hk
   ·rw [(flush_same hf).1]; exact hsec1
   ·rw [(flush_same hf).2]; exact hlook1
  ·rw [andF_err hx0]
   exact cut_b h hv hs r1.only hsec1 hlook1
theorem commit_all (h : Neat D L s P a nl) (hs9 : s <= 999) (hv : Valid L l) (hb : ∀ k, k < l.length -> Byt (l.getD k (0, [])).2) :
  ((commitRun D s l).2 = 0 /\ Neat (commitRun D s l).1 L (s + 1) (upd P l) (1 - a) (l.map (·.1)) /\ (commitRun D s l).1.secs.length = D.secs.length) \/
  ((commitRun D s l).2 = 9 /\ (commitRun D s l).1.Ok /\ (commitRun D s l).1.secs.length = D.secs.length /\ Cut (commitRun D s l).1 L s P l) := by
 have hra := run_a h hv hb
 unfold commitRun
 rcases hra.err with ⟨he, _⟩ | he
 ·have hs := aside h hv hb he
  have ex : commitA D ((s + 1) % 2) l = ((commitA D ((s + 1) % 2) l).1, 0) := Prod.ext rfl he
  generalize (commitA D ((s + 1) % 2) l).1 = E at hs ex
  rw [ex]
  rcases run_b h hv hs with ⟨b1, b2, b3, b4⟩ | ⟨b1, b2, b3, b4, b5, b6, b7⟩
  ·rw [commitC_err (by rw [b1]; decide)]
   exact .inr ⟨b1, b2, b3, b4⟩
  ·have ey : commitB (E, 0) ((s + 1) % 2) (s + 1) l = ((commitB (E, 0) ((s + 1) % 2) (s + 1) l).1, 0) := Prod.ext rfl b1
   generalize (commitB (E, 0) ((s + 1) % 2) (s + 1) l).1 = F at b2 b3 b4 b5 b6 b7 ey
   rw [ey]
   have h2 := h.two
   have hs1 := h.s1
   have hlen := h.len
   have hvl := hv.len
   have r0 : Run (fun k => ∃ j, j < l.length /\ (k : Int) = 48 + (l.getD j (0, [])).1) (img F) D.secs.length (F, 0) := ⟨b2, only_img b3 _, b5, .inl ⟨rfl, b4⟩⟩
   have r1 := r0.ws (f := fun i => (48 + (l.getD i (0, [])).1, (l.getD i (0, [])).2)) l.length (fun j hj => by
    have hn := hv.num j hj
    refine ⟨?_, ?_, ⟨hv.body j hj, hb j hj⟩, j, hj, ?_⟩ <;> (dsimp only; omega))
   have r2 := r1.f
   have hrec : ∀ v : Nat -> List Int, (∀ k : Nat, ¬ (∃ j, j < l.length /\ (k : Int) = 48 + (l.getD j (0, [])).1) -> v k = img F k) -> Rec L v (s + 1) (upd P l) := fun v e => by
    refine hs.recNew h hv (fun k hk hn => ?_) ?_
    ·rw [e k (fun ⟨j, hj, hk2⟩ => hn j hj hk2), b6 k hk]
    ·rw [e (1 - a) (fun ⟨j, hj, hk2⟩ => by have := hv.num j hj; omega), b7]
   unfold commitC
   rcases r2.err with ⟨hz, hd⟩ | hz
   ·left
    refine ⟨hz, ?_, r2.len⟩
    obtain ⟨f1, f2, f3⟩ := andF_zero hz
    have hfl := fun k => doFlush_getD r1.ok f2 k
    have hw := wsF_rd l.length f1 (fun i j hi hj e => by
     dsimp only at e ⊢
     rcases Nat.lt_trichotomy i j with h3 | h3 | h3
     ·exact absurd (by omega) (hv.apart i j h3 hj)
     ·rw [h3]
     ·exact absurd (by omega) (hv.apart j i h3 hi))
    have hsame : ∀ k : Nat, ¬ (∃ j, j < l.length /\ (k : Int) = 48 + (l.getD j (0, [])).1) -> img (andF (wsF (F, 0) (fun i => (48 + (l.getD i (0, [])).1, (l.getD i (0, [])).2)) l.length)).1 k = img F k := fun k hk => (r2.only k hk).2
    have hlow : ∀ k : Nat, k < 48 -> img (andF (wsF (F, 0) (fun i => (48 + (l.getD i (0, [])).1, (l.getD i (0, [])).2)) l.length)).1 k = img F k := fun k hk => hsame k (fun ⟨j, hj, hk2⟩ => by have := hv.num j hj; omega)
    have hm := (mark_made hv (show 1 <= s + 1 by omega) (by omega)).2
    have ha1 : 1 - (1 - a) = a := by omega
    have hback : img (andF (wsF (F, 0) (fun i => (48 + (l.getD i (0, [])).1, (l.getD i (0, [])).2)) l.length)).1 a = img D a := by
     rw [hlow a (by omega), b6 a (by omega), hs.same a (by unfold reg; omega)]
    have hfa := mark_facts (sec_getD h.ok.sec (show a < D.secs.length by omega)).2 h.got
    refine ⟨r2.ok, ?_, hd, by rw [r2.len]; exact hlen, h.lt, by omega, ?_, by omega, by omega, ?_, fun k hk => ?_, fun i hi => ?_, ?_, ?_, ?_⟩
    ·rw [f3]; exact (hfl 0).2.1
    ·have := h.even
     rcases h2 with rfl | rfl <;> omega
    ·show mark L (img _ (1 - a)) = _
     rw [hlow (1 - a) (by omega), b7]; exact hm
    ·have hk' : k < l.length := by simpa using hk
     show img _ _ = _
     rw [hlow _ (by omega), b6 _ (by omega), hs.body k hk', getD_nums l hk', upd_at hv hk']
    ·show img _ (48 + i) = _
     by_cases hin : ∃ j, j < l.length /\ ((48 + i : Nat) : Int) = 48 + (l.getD j (0, [])).1
     ·obtain ⟨j, hj, hk2⟩ := hin
      have hn := hv.num j hj
      have e1 := hw.2.1 j hj
      dsimp only at e1
      rw [show (48 + (l.getD j (0, [])).1).toNat = 48 + i by omega] at e1
      show (andF _).1.secs.getD (48 + i) [] = _
      rw [f3, (hfl _).1, e1, <- upd_at (P := P) hv hj, show (l.getD j (0, [])).1.toNat = i by omega]
     ·rw [hsame _ hin, b6 _ (by omega), hs.same _ (by unfold reg; omega), upd_other (fun hm2 => hin (by
       obtain ⟨q, hq, hqe⟩ := List.mem_map.1 hm2
       obtain ⟨j, hj, hje⟩ := List.getElem_of_mem hq
       have hg : l.getD j (0, []) = q := by simp [List.getD, hj, hje]
       exact ⟨j, hj, by rw [hg]; omega⟩))]
      exact h.pages i hi
    ·rw [ha1]
     show (img _ a).take 4 = (img _ a).drop 28
     rw [hback]; exact hfa.2.2.2.1
    ·rw [ha1]
     show (img _ a).take 4 ≠ _
     rw [hback]
     intro e
     have e1 := hfa.2.2.2.2.1
     rw [show (D.secs.getD a []).take 4 = side (s + 1 + 1) from e, numOf_side (s + 1 + 1) (by omega) (by omega)] at e1
     omega
    ·rw [ha1]
     show ∀ t l', mark L (img _ a) = some (t, l') -> t < s + 1
     rw [hback]
     intro t l' ht
     have hg : mark L (img D a) = some (s, nl) := h.got
     rw [hg] at ht
     have : s = t := by simpa using congrArg (fun o : Option (Int × List Int) => (o.map (·.1)).getD 0) ht
     omega
   ·right
    exact ⟨hz, r2.ok, r2.len, fun v hp => .inr (hrec v (fun k hk => r2.only.poss hk (hp k)))⟩
 ·right
  rw [commitB_err (by rw [he]; decide), commitC_err (by rw [he]; decide)]
  exact ⟨he, hra.ok, hra.len, fun v hp => .inl (cut_a h hra.only v hp)⟩
end
theorem rd_img {D : DS} (h : D.mem = []) (k : Nat) : D.rd k = img D k := by unfold DS.rd img; rw [h]; rfl
def formatRun (D : DS) : DS × Int := andF (andW (andW (D, 0) 0 (secL 2 [])) 1 (zerosB 32))
theorem sec_zeros : Sec (zerosB 32) := ⟨length_zerosB 32, byt_zerosB 32⟩
theorem sec_two : Sec (secL 2 []) := ⟨length_secL 2 [] (by decide), byt_secL 2 [] (fun z hz => by cases hz)⟩
theorem mark_two (L : Nat) : mark L (secL 2 []) = some (2, []) := by
 unfold mark
 rw [openOut_secL 2 [] (by decide) (by decide) (by decide)]
 rw [if_pos]
 ·rfl
 ·refine ⟨rfl, by decide, fun z hz => ?_⟩
  have : numsOf ([] ++ zerosB (24 - ([] : List Int).length)) = [] := by decide
  rw [this] at hz
  cases hz
theorem mark_zeros (L : Nat) : mark L (zerosB 32) = none := by
 unfold mark
 have : (openOut (zerosB 32)).2.2 = 5 := by decide
 rw [if_neg]
 rintro ⟨h, _⟩
 rw [this] at h
 cases h
theorem format_new (n : Nat) (h : 48 < n) (hn : n <= 300) (L : Nat) (hL : 48 + L <= n) (hL2 : L <= 200) : (formatRun (DS.new n)).2 = 0 /\ Neat (formatRun (DS.new n)).1 L 2 (fun _ => zerosB 32) 0 [] /\ (formatRun (DS.new n)).1.secs.length = n := by
 have hlen : (DS.new n).secs.length = n := by simp [DS.new]
 have r0 : Run (fun k => k = 0 \/ k = 1) (img (DS.new n)) n (DS.new n, 0) := ⟨DS.ok_new n hn, only_img rfl _, hlen, .inl ⟨rfl, rfl⟩⟩
 have r1 := r0.w (i := 0) (b := secL 2 []) (by omega) (by omega) sec_two (.inl rfl)
 have r2 := r1.w (i := 1) (b := zerosB 32) (by omega) (by omega) sec_zeros (.inr rfl)
 have r3 := r2.f
 have e1 : (DS.new n).writeE 0 (secL 2 []) = 0 := by
  unfold DS.writeE
  rw [if_neg (by rw [hlen]; omega), if_neg (by rw [sec_two.1]; decide)]
  rfl
 have hl1 : ((DS.new n).write 0 (secL 2 [])).left = -1 := by
  rw [write_eq e1]; rfl
 have hd1 := write_down e1
 have e2 : ((DS.new n).write 0 (secL 2 [])).writeE 1 (zerosB 32) = 0 := by
  unfold DS.writeE
  rw [if_neg (by rw [write_secs, hlen]; omega), if_neg (by rw [length_zerosB]; decide), if_neg (by rw [hd1]; exact Bool.false_ne_true), if_neg (by rw [hl1]; decide)]
 have hl2 : (((DS.new n).write 0 (secL 2 [])).write 1 (zerosB 32)).left = -1 := by
  rw [write_eq e2]
  unfold DS.step
  have : (((DS.new n).write 0 (secL 2 [])).put (1 : Int).toNat (zerosB 32)).left = -1 := hl1
  rw [if_neg (by rw [this]; decide), if_neg (by rw [this]; decide)]
  exact hl1
 have hd2 := write_down e2
 have x1 : andW (DS.new n, 0) 0 (secL 2 []) = ((DS.new n).write 0 (secL 2 []), 0) := by unfold andW; rw [if_pos rfl, e1]
 have x2 : andW (andW (DS.new n, 0) 0 (secL 2 [])) 1 (zerosB 32) = (((DS.new n).write 0 (secL 2 [])).write 1 (zerosB 32), 0) := by rw [x1]; unfold andW; rw [if_pos rfl, e2]
 have e3 : (((DS.new n).write 0 (secL 2 [])).write 1 (zerosB 32)).flushE = 0 := by
  unfold DS.flushE
  rw [if_neg (by rw [hd2]; exact Bool.false_ne_true), if_neg (by rw [hl2]; decide)]
 have x3 : formatRun (DS.new n) = ((((DS.new n).write 0 (secL 2 [])).write 1 (zerosB 32)).doFlush, 0) := by unfold formatRun; rw [x2]; unfold andF; rw [if_pos rfl, e3]
 have hok2 : (((DS.new n).write 0 (secL 2 [])).write 1 (zerosB 32)).Ok := by have := r2.ok; rw [x2] at this; exact this
 have hfl := fun k => doFlush_getD hok2 e3 k
 have hi : ∀ k, img (((DS.new n).write 0 (secL 2 [])).write 1 (zerosB 32)).doFlush k = if (k : Int) = 1 then zerosB 32 else if (k : Int) = 0 then secL 2 [] else img (DS.new n) k := fun k => by
  show (DS.doFlush _).secs.getD k [] = _
  rw [(hfl k).1, rd_write e2, rd_write e1]
  rfl
 have hz : ∀ k, k < n -> img (DS.new n) k = zerosB 32 := fun k hk => by
  show (List.replicate n (List.replicate 32 (0 : Int))).getD k [] = _
  simp [List.getD, hk, zerosB]
 have h3 := r3.ok
 have hl3 := r3.len
 change (formatRun (DS.new n)).1.Ok at h3
 change (formatRun (DS.new n)).1.secs.length = n at hl3
 rw [x3] at h3 hl3
 rw [x3]
 have i0 : img (((DS.new n).write 0 (secL 2 [])).write 1 (zerosB 32)).doFlush 0 = secL 2 [] := by rw [hi 0, if_neg (by decide), if_pos (by decide)]
 have i1 : img (((DS.new n).write 0 (secL 2 [])).write 1 (zerosB 32)).doFlush 1 = zerosB 32 := by rw [hi 1, if_pos (by decide)]
 refine ⟨rfl, ⟨h3, (hfl 0).2.1, (hfl 0).2.2, by show 48 + L <= (DS.doFlush _).secs.length; rw [hl3]; exact hL, hL2, .inl rfl, by decide, by decide, by decide, ?_, fun k hk => ?_, fun i hL3 => ?_, ?_, ?_, ?_⟩, hl3⟩
 ·show mark L (img _ 0) = _
  rw [i0]; exact mark_two L
 ·cases hk
 ·show img _ (48 + i) = _
  rw [hi, if_neg (by omega), if_neg (by omega), hz _ (by omega)]
 ·show (img _ 1).take 4 = (img _ 1).drop 28
  rw [i1]; rfl
 ·show (img _ 1).take 4 ≠ _
  rw [i1]
  exact fun e => side_ne_zero (n := 2 + 1) (by decide) (by decide) e.symm
 ·show ∀ t l', mark L (img _ 1) = some (t, l') -> t < 2
  rw [i1, mark_zeros]
  intro t l' ht
  cases ht
def commitOut (D : DS) (s : Int) (L : Nat) (l : List (Int × List Int)) : DS × Int × Int :=
 if commitE L l ≠ 0 then (D, s, commitE L l) else if D.down then (D, s, 9) else if l = [] then (D, s, 0) else ((commitRun D s l).1, if (commitRun D s l).2 = 0 then s + 1 else s, (commitRun D s l).2)
def Ever (x : DS × Int) : Prop := x.1.left < 0 /\ (x.2 = 0 -> x.1.down = false) /\ x.2 ≠ 9
theorem step_ever {D : DS} (h : D.left < 0) : D.step = D := by
 unfold DS.step
 rw [if_neg (by omega), if_neg (by omega)]
theorem Ever.w {x : DS × Int} (h : Ever x) (i : Int) (b : List Int) : Ever (andW x i b) := by
 unfold andW
 split
 ·rename_i hx
  have hd := h.2.1 hx
  have he : x.1.writeE i b ≠ 9 := by
   unfold DS.writeE
   split
   ·decide
   ·split
    ·decide
    ·rw [if_neg (by rw [hd]; exact Bool.false_ne_true), if_neg (by have := h.1; omega)]
     decide
  have hl : (x.1.write i b).left < 0 /\ (x.1.write i b).down = false := by
   unfold DS.write
   split
   ·exact ⟨h.1, hd⟩
   ·rw [step_ever (show (x.1.put i.toNat b).left < 0 from h.1)]
    exact ⟨h.1, hd⟩
  exact ⟨hl.1, fun _ => hl.2, he⟩
 ·exact h
theorem Ever.f {x : DS × Int} (h : Ever x) : Ever (andF x) := by
 unfold andF
 split
 ·rename_i hx
  have hd := h.2.1 hx
  have h1 := h.1
  have he : x.1.flushE = 0 := by
   unfold DS.flushE
   rw [if_neg (by rw [hd]; exact Bool.false_ne_true), if_neg (by omega)]
  obtain ⟨e1, e2⟩ := flush_eq he
  refine ⟨?_, fun _ => ?_, by show x.1.flushE ≠ 9; rw [he]; decide⟩
  ·show x.1.doFlush.left < 0
   rw [e1, step_ever h.1]; exact h.1
  ·show x.1.doFlush.down = false
   rw [e1]; exact e2
 ·exact h
theorem Ever.ws {x : DS × Int} (h : Ever x) (f : Nat -> Int × List Int) : ∀ m, Ever (wsF x f m)
 | 0 => h
 | m + 1 => (Ever.ws h f m).w _ _
theorem makeOut_ne (s : Int) (b : List Int) : (makeOut s b).2 ≠ 9 := by
 unfold makeOut
 split
 ·show (1 : Int) ≠ 9; decide
 ·split
  ·show (4 : Int) ≠ 9; decide
  ·show (0 : Int) ≠ 9; decide
theorem Ever.commit {D : DS} {s : Int} {l : List (Int × List Int)} (h : D.left < 0) (hd : D.down = false) : (commitRun D s l).2 ≠ 9 /\ (commitRun D s l).1.left < 0 := by
 have h0 : Ever (D, 0) := ⟨h, fun _ => hd, by show (0 : Int) ≠ 9; decide⟩
 have h1 : Ever (commitA D ((s + 1) % 2) l) := (h0.ws _ _).f
 have h2 : Ever (commitB (commitA D ((s + 1) % 2) l) ((s + 1) % 2) (s + 1) l) := by
  unfold commitB
  split
  ·rename_i hx
   split
   ·exact (h1.w _ _).f
   ·rename_i hm
    refine Ever.f ⟨h1.1, fun e => absurd e hm, makeOut_ne _ _⟩
  ·exact h1.f
 have h3 : Ever (commitRun D s l) := (h2.ws _ _).f
 exact ⟨h3.2.2, h3.1⟩
theorem commit_ever {D : DS} {L : Nat} {s : Int} {P : Nat -> List Int} {a : Nat} {nl : List Int} (h : Neat D L s P a nl) (hs9 : s <= 999) (hl : D.left < 0) (m : List (Int × List Int)) (hb : ∀ k, k < m.length -> Byt (m.getD k (0, [])).2) :
  (commitE L m ≠ 0 /\ commitOut D s L m = (D, s, commitE L m)) \/ (m = [] /\ commitOut D s L m = (D, s, 0)) \/
  (m ≠ [] /\ Valid L m /\ (commitOut D s L m).2 = (s + 1, 0) /\ Neat (commitOut D s L m).1 L (s + 1) (upd P m) (1 - a) (m.map (·.1)) /\ (commitOut D s L m).1.left < 0) := by
 by_cases h1 : commitE L m ≠ 0
 ·exact .inl ⟨h1, by unfold commitOut; rw [if_pos h1]⟩
 ·have hv := valid_of (show commitE L m = 0 by omega)
  by_cases h2 : m = []
  ·exact .inr (.inl ⟨h2, by unfold commitOut; rw [if_neg h1, if_neg (by rw [h.down]; exact Bool.false_ne_true), if_pos h2]⟩)
  ·have e : commitOut D s L m = ((commitRun D s m).1, if (commitRun D s m).2 = 0 then s + 1 else s, (commitRun D s m).2) := by unfold commitOut; rw [if_neg h1, if_neg (by rw [h.down]; exact Bool.false_ne_true), if_neg h2]
   have hev := Ever.commit (s := s) (l := m) hl h.down
   rcases commit_all h hs9 hv hb with ⟨r1, r2, r3⟩ | ⟨r1, _⟩
   ·rw [e]
    refine .inr (.inr ⟨h2, hv, ?_, r2, hev.2⟩)
    show (if (commitRun D s m).2 = 0 then s + 1 else s, (commitRun D s m).2) = (s + 1, 0)
    rw [if_pos r1, r1]
   ·exact absurd r1 hev.1
section
variable {D : DS} {L : Nat} {s : Int} {P : Nat -> List Int} {a : Nat} {nl : List Int} {l : List (Int × List Int)}
variable {E : DS}
end
theorem write_seclen (D : DS) (i : Int) (b : List Int) : (D.write i b).secs.length = D.secs.length := by rw [write_secs]
theorem doFlush_seclen (D : DS) : D.doFlush.secs.length = D.secs.length := by
 unfold DS.doFlush
 split
 ·rfl
 ·split
  ·rfl
  ·show (flushK D.step.secs _ _).length = _
   rw [length_flushK]
   unfold DS.step
   split
   ·rfl
   ·split <;> rfl
theorem andW_seclen (x : DS × Int) (i : Int) (b : List Int) : (andW x i b).1.secs.length = x.1.secs.length := by
 unfold andW
 split
 ·exact write_seclen _ _ _
 ·rfl
theorem andF_seclen (x : DS × Int) : (andF x).1.secs.length = x.1.secs.length := by
 unfold andF
 split
 ·exact doFlush_seclen _
 ·rfl
theorem wsF_seclen (x : DS × Int) (f : Nat -> Int × List Int) : ∀ n, (wsF x f n).1.secs.length = x.1.secs.length
 | 0 => rfl
 | n + 1 => (andW_seclen _ _ _).trans (wsF_seclen x f n)
theorem commitOut_seclen (D : DS) (s : Int) (m : Nat) (l : List (Int × List Int)) : (commitOut D s m l).1.secs.length = D.secs.length := by
 have hA : ∀ a : Int, (commitA D a l).1.secs.length = D.secs.length := fun a => by
  unfold commitA
  rw [andF_seclen, wsF_seclen]
 have hB : ∀ (x : DS × Int) (a s : Int), (commitB x a s l).1.secs.length = x.1.secs.length := fun x a s => by
  unfold commitB
  rw [andF_seclen]
  split
  ·split
   ·rw [andW_seclen]
   ·rfl
  ·rfl
 have hC : ∀ x : DS × Int, (commitC x l).1.secs.length = x.1.secs.length := fun x => by
  unfold commitC
  rw [andF_seclen, wsF_seclen]
 unfold commitOut
 split
 ·rfl
 ·split
  ·rfl
  ·split
   ·rfl
   ·show (commitRun D s l).1.secs.length = _
    unfold commitRun
    rw [hC, hB, hA]
def prt (L : List Int) (i : Nat) : List Int := (L.drop (32 * i)).take 32
theorem prt_len {L : List Int} {m i : Nat} (hL : L.length = 32 * m) (hi : i < m) : (prt L i).length = 32 := by
 unfold prt
 rw [List.length_take, List.length_drop]
 omega
theorem prt_out {L : List Int} {m i : Nat} (hL : L.length = 32 * m) (hi : m <= i) : prt L i = [] := by
 unfold prt
 rw [List.drop_eq_nil_of_le (by omega)]
 rfl
theorem prt_byt {L : List Int} (hb : Byt L) (i : Nat) : Byt (prt L i) := fun x hx => hb x (List.mem_of_mem_drop (List.mem_of_mem_take hx))
theorem prt_getD {L : List Int} {i j : Nat} (hj : j < 32) : (prt L i).getD j 0 = L.getD (32 * i + j) 0 := by
 unfold prt
 simp [List.getD, hj]
def joinP (P : Nat -> List Int) : Nat -> List Int
 | 0 => []
 | m + 1 => joinP P m ++ P m
theorem joinP_take (L : List Int) : ∀ m, 32 * m <= L.length -> joinP (prt L) m = L.take (32 * m)
 | 0, _ => rfl
 | m + 1, h => by
  show joinP (prt L) m ++ prt L m = _
  rw [joinP_take L m (by omega)]
  unfold prt
  rw [show 32 * (m + 1) = 32 * m + 32 by omega, List.take_add]
theorem joinP_prt {L : List Int} {m : Nat} (h : L.length = 32 * m) : joinP (prt L) m = L := by
 rw [joinP_take L m (by omega), List.take_of_length_le (by omega)]
theorem joinP_same {P Q : Nat -> List Int} : ∀ m, (∀ i, i < m -> P i = Q i) -> joinP P m = joinP Q m
 | 0, _ => rfl
 | m + 1, h => by
  show joinP P m ++ P m = joinP Q m ++ Q m
  rw [joinP_same m (fun i hi => h i (by omega)), h m (by omega)]
def drtN (K L : List Int) (m : Nat) : List Nat := (List.range m).filter fun i => decide (prt K i ≠ prt L i)
theorem mem_drtN {K L : List Int} {m i : Nat} : i ∈ drtN K L m ↔ i < m /\ prt K i ≠ prt L i := by
 unfold drtN
 rw [List.mem_filter, List.mem_range, decide_eq_true_iff]
theorem drtN_lt (K L : List Int) (m : Nat) : (drtN K L m).Pairwise (· < ·) := List.Pairwise.filter _ List.pairwise_lt_range
def dfP (K L : List Int) (m : Nat) : List (Int × List Int) := (drtN K L m).map fun i : Nat => ((i : Int), prt L i)
theorem dfP_len (K L : List Int) (m : Nat) : (dfP K L m).length = (drtN K L m).length := by unfold dfP; simp
theorem dfP_at {K L : List Int} {m k : Nat} (hk : k < (dfP K L m).length) : ∃ i, i ∈ drtN K L m /\ (drtN K L m)[k]? = some i /\ (dfP K L m).getD k (0, []) = ((i : Int), prt L i) := by
 rw [dfP_len] at hk
 refine ⟨(drtN K L m)[k], List.getElem_mem hk, List.getElem?_eq_getElem hk, ?_⟩
 unfold dfP
 simp [List.getD, hk]
theorem dfP_byt {K L : List Int} {m : Nat} (hb : Byt L) : ∀ k, k < (dfP K L m).length -> Byt ((dfP K L m).getD k (0, [])).2 := fun k hk => by
 obtain ⟨i, _, _, e⟩ := dfP_at hk
 rw [e]
 exact prt_byt hb i
theorem dfP_fault {K L : List Int} {m : Nat} (hL : L.length = 32 * m) {k : Nat} (hk : k < (dfP K L m).length) : pgFault m (dfP K L m) k = 0 := by
 obtain ⟨i, hi, hi2, e⟩ := dfP_at hk
 obtain ⟨h1, _⟩ := mem_drtN.1 hi
 unfold pgFault
 rw [e, if_neg (by dsimp only; omega), if_neg (by dsimp only; rw [prt_len hL h1]; decide), if_neg]
 intro h
 obtain ⟨j, hj, hje⟩ := List.any_eq_true.1 h
 have hjk := List.mem_range.1 hj
 obtain ⟨i', hi', hi2', e'⟩ := dfP_at (K := K) (L := L) (m := m) (k := j) (by omega)
 rw [e'] at hje
 have : (i' : Int) = (i : Int) := by simpa using hje
 have h2 : i' = i := by omega
 subst h2
 obtain ⟨q1, q2⟩ := List.getElem?_eq_some_iff.1 hi2
 obtain ⟨q3, q4⟩ := List.getElem?_eq_some_iff.1 hi2'
 have := List.pairwise_iff_getElem.1 (drtN_lt K L m) j k q3 q1 hjk
 omega
theorem dfP_chk {K L : List Int} {m : Nat} (hL : L.length = 32 * m) : ∀ n, n <= (dfP K L m).length -> chkK m (dfP K L m) n = 0
 | 0, _ => rfl
 | n + 1, h => by
  show (if chkK m (dfP K L m) n = 0 then pgFault m (dfP K L m) n else chkK m (dfP K L m) n) = 0
  rw [if_pos (dfP_chk hL n (by omega))]
  exact dfP_fault hL (by omega)
theorem dfP_commit {K L : List Int} {m : Nat} (hL : L.length = 32 * m) : commitE m (dfP K L m) = if 23 < (drtN K L m).length then 4 else 0 := by
 unfold commitE
 rw [dfP_len]
 by_cases h : 23 < (drtN K L m).length
 ·rw [if_pos h, if_pos h]
 ·rw [if_neg h, if_neg h, <- dfP_len]
  exact dfP_chk hL _ (Nat.le_refl _)
theorem upd_dfP {K L : List Int} {m : Nat} (hK : K.length = 32 * m) (hL : L.length = 32 * m) : upd (prt K) (dfP K L m) = prt L := by
 funext i
 by_cases hi : i ∈ drtN K L m
 ·unfold upd
  cases hf : (dfP K L m).find? (fun q => q.1 == (i : Int)) with
  | none =>
   have := List.find?_eq_none.1 hf ((i : Int), prt L i) (List.mem_map.2 ⟨i, hi, rfl⟩)
   simp at this
  | some q =>
   have h1 := List.find?_some hf
   have h2 := List.mem_of_find?_eq_some hf
   obtain ⟨j, hj, rfl⟩ := List.mem_map.1 h2
   have : (j : Int) = (i : Int) := by simpa using h1
   have e : j = i := by omega
   rw [e]
 ·rw [upd_other (fun h => by
   obtain ⟨q, hq, e⟩ := List.mem_map.1 h
   obtain ⟨j, hj, rfl⟩ := List.mem_map.1 hq
   have e' : (j : Int) = (i : Int) := e
   have e2 : j = i := by omega
   exact hi (e2 ▸ hj))]
  by_cases hm : i < m
  ·exact Classical.byContradiction fun hne => hi (mem_drtN.2 ⟨hm, hne⟩)
  ·rw [prt_out hK (by omega), prt_out hL (by omega)]
theorem dfP_nil {K L : List Int} {m : Nat} (hK : K.length = 32 * m) (hL : L.length = 32 * m) : dfP K L m = [] ↔ K = L := by
 constructor
 ·intro h
  have h0 : drtN K L m = [] := List.map_eq_nil_iff.1 h
  rw [<- joinP_prt hK, <- joinP_prt hL]
  refine joinP_same m (fun i hi => Classical.byContradiction fun hne => ?_)
  have := mem_drtN.2 ⟨hi, hne⟩
  rw [h0] at this
  cases this
 ·rintro rfl
  unfold dfP drtN
  rw [List.map_eq_nil_iff, List.filter_eq_nil_iff]
  intro i _
  simp
theorem few_filter {p : Nat -> Bool} {F : Nat} : ∀ n, (∀ i, F <= i -> i < n -> p i = false) -> ((List.range n).filter p).length <= min n F
 | 0, _ => by simp
 | n + 1, h => by
  have ih := few_filter n (fun i h1 h2 => h i h1 (by omega))
  rw [List.range_succ, List.filter_append, List.length_append]
  by_cases e : n < F
  ·have : ([n].filter p).length <= 1 := List.length_filter_le _ _
   omega
  ·have : ([n].filter p).length = 0 := by simp [h n (by omega) (by omega)]
   omega
theorem drtN_few {K L : List Int} {m : Nat} {F : Nat} (h : ∀ i, F <= i -> i < m -> prt K i = prt L i) : (drtN K L m).length <= F := by
 have := few_filter (p := fun i => decide (prt K i ≠ prt L i)) (F := F) m (fun i h1 h2 => by simp [h i h1 h2])
 unfold drtN
 omega
section
variable {D : DS} {m : Nat} {s : Int} {K L : List Int} {a : Nat} {nl : List Int}
theorem st_commit (h : Neat D m s (prt K) a nl) (hs9 : s <= 999) (hl : D.left < 0) (hK : K.length = 32 * m) (hL : L.length = 32 * m) (hb : Byt L) :
  (23 < (drtN K L m).length /\ commitOut D s m (dfP K L m) = (D, s, 4)) \/ (K = L /\ commitOut D s m (dfP K L m) = (D, s, 0)) \/
  (K ≠ L /\ (drtN K L m).length <= 23 /\ (commitOut D s m (dfP K L m)).2 = (s + 1, 0) /\ Neat (commitOut D s m (dfP K L m)).1 m (s + 1) (prt L) (1 - a) ((dfP K L m).map (·.1)) /\ (commitOut D s m (dfP K L m)).1.left < 0) := by
 have hce := dfP_commit (K := K) hL
 rcases commit_ever h hs9 hl (dfP K L m) (dfP_byt hb) with ⟨h1, h2⟩ | ⟨h1, h2⟩ | ⟨h1, h2, h3, h4, h5⟩
 ·rw [hce] at h1 h2
  by_cases h23 : 23 < (drtN K L m).length
  ·rw [if_pos h23] at h2
   exact .inl ⟨h23, h2⟩
  ·rw [if_neg h23] at h1
   exact absurd rfl h1
 ·exact .inr (.inl ⟨(dfP_nil hK hL).1 h1, h2⟩)
 ·rw [upd_dfP hK hL] at h4
  have hle := h2.len
  rw [dfP_len] at hle
  exact .inr (.inr ⟨fun e => h1 ((dfP_nil hK hL).2 e), hle, h3, h4, h5⟩)
theorem Neat.img {E : DS} {P : Nat -> List Int} (h : Neat D m s P a nl) (ok : E.Ok) (mem : E.mem = []) (down : E.down = false) (len : E.secs.length = D.secs.length) (hi : ∀ k, E.secs.getD k [] = D.secs.getD k []) : Neat E m s P a nl :=
 ⟨ok, mem, down, by rw [len]; exact h.len, h.lt, h.two, h.even, h.s1, h.s2, by rw [hi]; exact h.got, fun k hk => by rw [hi]; exact h.redo k hk, fun i hL => by rw [hi]; exact h.pages i hL, by rw [hi]; exact h.other, by rw [hi]; exact h.differs, by rw [hi]; exact h.less⟩
def zeroRun (D : DS) (m : Nat) : DS × Int := andF (wsF (D, 0) (fun i => (48 + (i : Int), zerosB 32)) m)
theorem zero_neat (h : Neat D m s (fun _ => zerosB 32) a nl) (hl : D.left < 0) : (zeroRun D m).2 = 0 /\ Neat (zeroRun D m).1 m s (fun _ => zerosB 32) a nl /\ (zeroRun D m).1.secs.length = D.secs.length /\ (zeroRun D m).1.left < 0 := by
 have hlen := h.len
 have r0 : Run (fun k => 48 <= k /\ k < 48 + m) (img D) D.secs.length (D, 0) := ⟨h.ok, only_img h.mem _, rfl, .inl ⟨rfl, h.down⟩⟩
 have r1 := r0.ws (f := fun i => (48 + (i : Int), zerosB 32)) m (fun j hj => ⟨by dsimp only; omega, by dsimp only; omega, sec_zeros, by dsimp only; omega, by dsimp only; omega⟩)
 have r2 := r1.f
 have ev : Ever (zeroRun D m) := (Ever.ws (x := (D, 0)) ⟨hl, fun _ => h.down, by show (0 : Int) ≠ 9; decide⟩ _ _).f
 have e0 : (zeroRun D m).2 = 0 := by
  rcases r2.err with ⟨e, _⟩ | e
  ·exact e
  ·exact absurd e ev.2.2
 obtain ⟨f1, f2, f3⟩ := andF_zero (x := wsF (D, 0) (fun i => (48 + (i : Int), zerosB 32)) m) e0
 obtain ⟨_, g2, g3⟩ := wsF_rd m f1 (fun i j _ _ _ => rfl)
 have hfl := fun k => doFlush_getD r1.ok f2 k
 have hmem : (zeroRun D m).1.mem = [] := by show (andF _).1.mem = []; rw [f3]; exact (hfl 0).2.1
 have hdown : (zeroRun D m).1.down = false := by show (andF _).1.down = false; rw [f3]; exact (hfl 0).2.2
 have hi : ∀ k, (zeroRun D m).1.secs.getD k [] = D.secs.getD k [] := fun k => by
  show (andF _).1.secs.getD k [] = _
  rw [f3, (hfl k).1]
  by_cases hk : 48 <= k /\ k < 48 + m
  ·have := g2 (k - 48) (by omega)
   dsimp only at this
   rw [show (48 + ((k - 48 : Nat) : Int)).toNat = k by omega] at this
   rw [this]
   have hp := h.pages (k - 48) (by omega)
   rw [show 48 + (k - 48) = k by omega] at hp
   exact hp.symm
  ·rw [g3 k (fun j hj e => hk (by dsimp only at e; omega))]
   unfold DS.rd
   rw [h.mem]
   rfl
 exact ⟨e0, h.img r2.ok hmem hdown r2.len hi, r2.len, ev.1⟩
end
theorem andW_stick {x : DS × Int} (h : x.2 ≠ 0) (i : Int) (b : List Int) : andW x i b = x := by unfold andW; rw [if_neg h]
theorem andF_stick {x : DS × Int} (h : x.2 ≠ 0) : andF x = x := by unfold andF; rw [if_neg h]
theorem wsF_stick {x : DS × Int} (h : x.2 ≠ 0) (f : Nat -> Int × List Int) : ∀ m, wsF x f m = x
 | 0 => rfl
 | m + 1 => by
  show andW (wsF x f m) _ _ = x
  rw [wsF_stick h f m, andW_stick h]
theorem wsF_late {x : DS × Int} {f : Nat -> Int × List Int} {k : Nat} (h : (wsF x f k).2 ≠ 0) : ∀ m, k <= m -> wsF x f m = wsF x f k
 | 0, hm => by rw [show k = 0 by omega]
 | m + 1, hm => by
  by_cases e : k = m + 1
  ·rw [e]
  ·show andW (wsF x f m) _ _ = _
   rw [wsF_late h m (by omega), andW_stick h]
theorem andW_ok {x : DS × Int} (h : x.2 = 0) (i : Int) (b : List Int) : andW x i b = (x.1.write i b, x.1.writeE i b) := by unfold andW; rw [if_pos h]
theorem andF_ok {x : DS × Int} (h : x.2 = 0) : andF x = (x.1.doFlush, x.1.flushE) := by unfold andF; rw [if_pos h]
theorem pair_ok {x : DS × Int} (h : x.2 = 0) : x = (x.1, 0) := by rw [<- h]
theorem wsF_down {D : DS} {f : Nat -> Int × List Int} (hd : D.down = true) {m : Nat} (hm : 0 < m) (h1 : 0 <= (f 0).1) (h2 : (f 0).1 < D.secs.length) (h3 : (f 0).2.length = 32) : wsF (D, 0) f m = (D, 9) := by
 have e : wsF (D, 0) f 1 = (D, 9) := by
  show andW (D, 0) _ _ = _
  rw [andW_ok rfl]
  show (D.write _ _, D.writeE _ _) = _
  have e1 : D.write (f 0).1 (f 0).2 = D := by unfold DS.write; rw [if_pos (.inr (.inr (.inr hd)))]
  have e2 : D.writeE (f 0).1 (f 0).2 = 9 := by
   unfold DS.writeE
   rw [if_neg (by omega), if_neg (by omega), if_pos hd]
  rw [e1, e2]
 rw [wsF_late (k := 1) (by rw [e]; show (9 : Int) ≠ 0; decide) m hm, e]
theorem commitOut_run {D : DS} {s : Int} {L : Nat} {l : List (Int × List Int)} (hv : commitE L l = 0) (hl : l ≠ []) (hL : 48 <= D.secs.length) (hs : (s + 1) % 2 = 0 \/ (s + 1) % 2 = 1) :
  commitOut D s L l = ((commitRun D s l).1, if (commitRun D s l).2 = 0 then s + 1 else s, (commitRun D s l).2) := by
 unfold commitOut
 rw [if_neg (by rw [hv]; exact fun h => h rfl)]
 by_cases hd : D.down = true
 ·rw [if_pos hd]
  have hval := valid_of hv
  have hlen := hval.len
  have hpos : 0 < l.length := by cases l with | nil => exact absurd rfl hl | cons _ _ => simp
  have hb := hval.body 0 hpos
  have e1 : commitA D ((s + 1) % 2) l = (D, 9) := by
   unfold commitA
   rw [wsF_down hd hpos (by dsimp only; omega) (by dsimp only; omega) hb]
   exact andF_stick (by show (9 : Int) ≠ 0; decide)
  have e2 : commitB (D, 9) ((s + 1) % 2) (s + 1) l = (D, 9) := by
   unfold commitB
   rw [if_neg (by show ¬ (9 : Int) = 0; decide)]
   exact andF_stick (by show (9 : Int) ≠ 0; decide)
  have e3 : commitRun D s l = (D, 9) := by
   unfold commitRun
   rw [e1, e2]
   unfold commitC
   rw [wsF_stick (by show (9 : Int) ≠ 0; decide)]
   exact andF_stick (by show (9 : Int) ≠ 0; decide)
  rw [e3]
  rfl
 ·rw [if_neg hd, if_neg hl]
theorem i64_and_one (n : Int) (h0 : 0 <= n) (h1 : n <= 4294967296) : bits .and .i64 n 1 = n % 2 := by
 obtain ⟨N, rfl⟩ := Int.eq_ofNat_of_zero_le h0
 have h2 : N &&& 1 = N % 2 := Nat.and_one_is_mod N
 show IntKind.i64.wrap ((BitVec.ofInt 64 (N : Int) &&& BitVec.ofInt 64 ((1 : Nat) : Int)).toNat : Int) = _
 rw [BitVec.toNat_and, ofInt_u64 N (by omega), ofInt_u64 1 (by omega), IntKind.wrap_i64, h2]
 omega
section
variable {D E : DS} {L : Nat} {s : Int} {P : Nat -> List Int} {a : Nat} {nl : List Int}
end
section
variable {D : DS} {m : Nat} {s : Int} {K L : List Int} {a : Nat} {nl : List Int}
end
section
variable {D : DS} {q : Int}
end
end Go.Proofs.YtecodmiendedfaaGreatDoor
