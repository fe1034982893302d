/-
  Extents as plain data: what is wrong with some, what they leave free, where so much has room. (Part of the proofs over package extent.)
-/
namespace Go.Proofs.YtllpeknpplpgeaaGreatDoor
set_option linter.unusedVariables false

/-- All of it is among n bytes. -/
def there (n : Int) (e : (Int × Int)) : Bool := decide (0 ≤ e.1) && (decide (1 ≤ e.2) && decide (e.2 ≤ n - e.1))
/-- Two have a byte in common. -/
def over (a b : (Int × Int)) : Bool := decide (a.1 < b.1 + b.2) && decide (b.1 < a.1 + a.2)
theorem there_iff {n : Int} {e : (Int × Int)} : there n e = true ↔ 0 ≤ e.1 ∧ 1 ≤ e.2 ∧ e.1 + e.2 ≤ n := by
  unfold there
  simp only [Bool.and_eq_true, decide_eq_true_eq]
  omega
theorem over_no {a b : (Int × Int)} : over a b = false ↔ b.1 + b.2 ≤ a.1 ∨ a.1 + a.2 ≤ b.1 := by
  unfold over
  simp only [Bool.and_eq_false_iff, decide_eq_false_iff_not]
  omega
theorem over_comm (a b : (Int × Int)) : over a b = over b a := by unfold over; exact Bool.and_comm _ _

/-- What is wrong with extents, one by one; those ahead of them. -/
def chkL (n : Int) : List (Int × Int) → List (Int × Int) → Int
  | _, [] => 0
  | ah, e :: r => if there n e = false then 1 else if ah.any (over e) = true then 7 else chkL n (ah ++ [e]) r
/-- What is wrong with extents; 0: nothing. -/
def chk (n : Int) (l : List (Int × Int)) : Int := if n < 0 ∨ 6400 < n then 1 else if 200 < l.length then 4 else chkL n [] l

structure Good (n : Int) (l : List (Int × Int)) : Prop where
  all : ∀ e ∈ l, 0 ≤ e.1 ∧ 1 ≤ e.2 ∧ e.1 + e.2 ≤ n
  apart : l.Pairwise (fun a b => over a b = false)

theorem chkL_zero {n : Int} : ∀ {ah l : List (Int × Int)}, chkL n ah l = 0 ↔ (∀ e ∈ l, there n e = true) ∧ l.Pairwise (fun a b => over a b = false) ∧ ∀ e ∈ l, ∀ a ∈ ah, over e a = false
  | ah, [] => by simp [chkL]
  | ah, e :: r => by
    unfold chkL
    by_cases h1 : there n e = false
    · rw [if_pos h1]
      constructor
      · intro h; cases h
      · intro h; have := h.1 e (by simp); rw [h1] at this; cases this
    · rw [if_neg h1]
      have h1' : there n e = true := by cases h : there n e <;> simp_all
      by_cases h2 : ah.any (over e) = true
      · rw [if_pos h2]
        constructor
        · intro h; cases h
        · intro h
          obtain ⟨a, ha, hoa⟩ := List.any_eq_true.1 h2
          have := h.2.2 e (by simp) a ha
          rw [hoa] at this; cases this
      · rw [if_neg h2, chkL_zero]
        have h2' : ∀ a ∈ ah, over e a = false := fun a ha => by
          cases h : over e a with
          | false => rfl
          | true => exact absurd (List.any_eq_true.2 ⟨a, ha, h⟩) h2
        constructor
        · rintro ⟨g1, g2, g3⟩
          refine ⟨fun x hx => ?_, List.pairwise_cons.2 ⟨fun x hx => ?_, g2⟩, fun x hx a ha => ?_⟩
          · rcases List.mem_cons.1 hx with rfl | hx
            · exact h1'
            · exact g1 x hx
          · rw [over_comm]; exact g3 x hx e (by simp)
          · rcases List.mem_cons.1 hx with rfl | hx
            · exact h2' a ha
            · exact g3 x hx a (by simp [ha])
        · rintro ⟨g1, g2, g3⟩
          obtain ⟨p1, p2⟩ := List.pairwise_cons.1 g2
          refine ⟨fun x hx => g1 x (by simp [hx]), p2, fun x hx a ha => ?_⟩
          rcases List.mem_append.1 ha with ha | ha
          · exact g3 x (by simp [hx]) a ha
          · obtain rfl := List.mem_singleton.1 ha
            rw [over_comm]; exact p1 x hx
theorem chk_zero {n : Int} {l : List (Int × Int)} : chk n l = 0 ↔ 0 ≤ n ∧ n ≤ 6400 ∧ l.length ≤ 200 ∧ Good n l := by
  unfold chk
  by_cases h1 : n < 0 ∨ 6400 < n
  · rw [if_pos h1]
    exact ⟨fun h => (by cases h), fun h => by omega⟩
  · rw [if_neg h1]
    by_cases h2 : 200 < l.length
    · rw [if_pos h2]
      exact ⟨fun h => (by cases h), fun h => by omega⟩
    · rw [if_neg h2, chkL_zero]
      constructor
      · rintro ⟨g1, g2, _⟩
        exact ⟨by omega, by omega, by omega, ⟨fun e he => there_iff.1 (g1 e he), g2⟩⟩
      · rintro ⟨_, _, _, g⟩
        exact ⟨fun e he => there_iff.2 (g.all e he), g.apart, fun e he a ha => by cases ha⟩

theorem Good.perm {n : Int} {l s : List (Int × Int)} (h : Good n l) (hp : s.Perm l) : Good n s :=
  ⟨fun e he => h.all e (hp.mem_iff.1 he), (hp.pairwise_iff (fun {x y} hxy => by rw [over_comm]; exact hxy)).2 h.apart⟩

/-! ### runs -/
/-- Runs from f on between extents that rise. -/
def runsOf : Int → List (Int × Int) → List (Int × Int)
  | _, [] => []
  | f, e :: r => (if f < e.1 then [(f, e.1 - f)] else []) ++ runsOf (e.1 + e.2) r
/-- The first byte behind them. -/
def endOf : Int → List (Int × Int) → Int
  | f, [] => f
  | _, e :: r => endOf (e.1 + e.2) r
/-- They rise, one behind the other. -/
def Chain : Int → List (Int × Int) → Prop
  | _, [] => True
  | f, e :: r => f ≤ e.1 ∧ 0 ≤ e.2 ∧ Chain (e.1 + e.2) r
def lenSum (l : List (Int × Int)) : Int := (l.map (·.2)).sum
theorem lenSum_cons (e : (Int × Int)) (l : List (Int × Int)) : lenSum (e :: l) = e.2 + lenSum l := by simp [lenSum]
theorem lenSum_append (a b : List (Int × Int)) : lenSum (a ++ b) = lenSum a + lenSum b := by simp [lenSum]
theorem lenSum_perm {a b : List (Int × Int)} (h : a.Perm b) : lenSum a = lenSum b := by
  unfold lenSum
  induction h with
  | nil => rfl
  | cons x _ ih => simp only [List.map_cons, List.sum_cons, ih]
  | swap x y l => simp only [List.map_cons, List.sum_cons]; omega
  | trans _ _ ih1 ih2 => rw [ih1, ih2]
theorem runsOf_append : ∀ (f : Int) (a b : List (Int × Int)), runsOf f (a ++ b) = runsOf f a ++ runsOf (endOf f a) b
  | f, [], b => rfl
  | f, e :: r, b => by
    simp only [List.cons_append, runsOf, endOf]
    rw [runsOf_append, List.append_assoc]
theorem endOf_append : ∀ (f : Int) (a b : List (Int × Int)), endOf f (a ++ b) = endOf (endOf f a) b
  | f, [], b => rfl
  | f, e :: r, b => by simp only [List.cons_append, endOf]; exact endOf_append _ _ _
theorem chain_append : ∀ {f : Int} {a b : List (Int × Int)}, Chain f (a ++ b) ↔ Chain f a ∧ Chain (endOf f a) b
  | f, [], b => by simp [Chain, endOf]
  | f, e :: r, b => by
    simp only [List.cons_append, Chain, endOf]
    rw [chain_append]
    exact ⟨fun ⟨a, b, c, d⟩ => ⟨⟨a, b, c⟩, d⟩, fun ⟨⟨a, b, c⟩, d⟩ => ⟨a, b, c, d⟩⟩
theorem Chain.endLe : ∀ {f : Int} {s : List (Int × Int)}, Chain f s → f ≤ endOf f s
  | f, [], _ => Int.le_refl _
  | f, e :: r, h => by
    have := Chain.endLe h.2.2
    have h1 := h.1
    have h2 := h.2.1
    show f ≤ endOf (e.1 + e.2) r
    omega
theorem Chain.mem : ∀ {f : Int} {s : List (Int × Int)}, Chain f s → ∀ e ∈ s, f ≤ e.1 ∧ 0 ≤ e.2 ∧ e.1 + e.2 ≤ endOf f s
  | f, [], _, e, he => by cases he
  | f, x :: r, h, e, he => by
    have h1 := h.1
    have h2 := h.2.1
    have h3 := Chain.endLe h.2.2
    show f ≤ e.1 ∧ 0 ≤ e.2 ∧ e.1 + e.2 ≤ endOf (x.1 + x.2) r
    rcases List.mem_cons.1 he with rfl | he
    · omega
    · have := Chain.mem h.2.2 e he
      omega
theorem Chain.sum : ∀ {f : Int} {s : List (Int × Int)}, Chain f s → lenSum (runsOf f s) + lenSum s = endOf f s - f
  | f, [], _ => by simp [runsOf, endOf, lenSum]
  | f, e :: r, h => by
    have ih := Chain.sum h.2.2
    have h1 := h.1
    simp only [runsOf, endOf, lenSum_append, lenSum_cons]
    by_cases hf : f < e.1
    · rw [if_pos hf, lenSum_cons]
      have : lenSum [] = 0 := rfl
      dsimp only
      omega
    · rw [if_neg hf]
      have : lenSum [] = 0 := rfl
      omega
/-- Each run lies between. -/
theorem Chain.run : ∀ {f : Int} {s : List (Int × Int)}, Chain f s → ∀ x ∈ runsOf f s, f ≤ x.1 ∧ 1 ≤ x.2 ∧ x.1 + x.2 ≤ endOf f s ∧ ∀ e ∈ s, over x e = false
  | f, [], _, x, hx => by cases hx
  | f, e :: r, h, x, hx => by
    obtain ⟨h1, h2, h3⟩ := h
    have he := Chain.endLe h3
    simp only [runsOf, List.mem_append] at hx
    show f ≤ x.1 ∧ 1 ≤ x.2 ∧ x.1 + x.2 ≤ endOf (e.1 + e.2) r ∧ _
    rcases hx with hx | hx
    · by_cases hf : f < e.1
      · rw [if_pos hf] at hx
        obtain rfl := List.mem_singleton.1 hx
        refine ⟨Int.le_refl _, by dsimp only; omega, by dsimp only; omega, fun y hy => over_no.2 ?_⟩
        rcases List.mem_cons.1 hy with rfl | hy
        · right; dsimp only; omega
        · have := Chain.mem h3 y hy
          right; dsimp only; omega
      · rw [if_neg hf] at hx; cases hx
    · obtain ⟨g1, g2, g3, g4⟩ := Chain.run h3 x hx
      refine ⟨by omega, g2, g3, fun y hy => ?_⟩
      rcases List.mem_cons.1 hy with rfl | hy
      · exact over_no.2 (.inl g1)
      · exact g4 y hy
/-- Runs rise, one behind the other. -/
theorem Chain.runs : ∀ {f : Int} {s : List (Int × Int)}, Chain f s → (runsOf f s).Pairwise (fun x y => x.1 + x.2 ≤ y.1)
  | f, [], _ => List.Pairwise.nil
  | f, e :: r, h => by
    obtain ⟨h1, h2, h3⟩ := h
    simp only [runsOf]
    by_cases hf : f < e.1
    · rw [if_pos hf]
      refine List.pairwise_cons.2 ⟨fun y hy => ?_, Chain.runs h3⟩
      have := (Chain.run h3 y hy).1
      dsimp only; omega
    · rw [if_neg hf]
      exact Chain.runs h3
/-- Where a run comes from. -/
theorem run_split : ∀ {f : Int} {s : List (Int × Int)} {x : (Int × Int)}, x ∈ runsOf f s → ∃ A b B, s = A ++ b :: B ∧ x.1 = endOf f A ∧ x.1 < b.1 ∧ x.2 = b.1 - x.1
  | f, [], x, hx => by cases hx
  | f, e :: r, x, hx => by
    simp only [runsOf, List.mem_append] at hx
    rcases hx with hx | hx
    · by_cases hf : f < e.1
      · rw [if_pos hf] at hx
        obtain rfl := List.mem_singleton.1 hx
        exact ⟨[], e, r, rfl, rfl, hf, rfl⟩
      · rw [if_neg hf] at hx; cases hx
    · obtain ⟨A, b, B, rfl, h1, h2, h3⟩ := run_split hx
      exact ⟨e :: A, b, B, rfl, h1, h2, h3⟩

/-! ### rising -/
/-- s is l, rising. -/
def Srt (l s : List (Int × Int)) : Prop := s.Perm l ∧ s.Pairwise (fun a b => a.1 < b.1)
theorem srt_unique : ∀ {s t : List (Int × Int)}, s.Perm t → s.Pairwise (fun a b => a.1 < b.1) → t.Pairwise (fun a b => a.1 < b.1) → s = t
  | [], t, hp, _, _ => (List.nil_perm.1 hp).symm
  | x :: s, [], hp, _, _ => absurd hp.length_eq (by simp)
  | x :: s, y :: t, hp, hs, ht => by
    obtain ⟨hs1, hs2⟩ := List.pairwise_cons.1 hs
    obtain ⟨ht1, ht2⟩ := List.pairwise_cons.1 ht
    have e : x = y := by
      have hx : x ∈ y :: t := hp.mem_iff.1 (by simp)
      have hy : y ∈ x :: s := hp.mem_iff.2 (by simp)
      rcases List.mem_cons.1 hx with h | h
      · exact h
      · rcases List.mem_cons.1 hy with h' | h'
        · exact h'.symm
        · have := ht1 x h
          have := hs1 y h'
          omega
    subst e
    rw [srt_unique (List.Perm.cons_inv hp) hs2 ht2]
theorem chain_of_sorted : ∀ {n f : Int} {s : List (Int × Int)}, (∀ e ∈ s, f ≤ e.1 ∧ 1 ≤ e.2) → s.Pairwise (fun a b => over a b = false) → s.Pairwise (fun a b => a.1 < b.1) → Chain f s
  | n, f, [], _, _, _ => trivial
  | n, f, e :: r, h, ho, hs => by
    obtain ⟨ho1, ho2⟩ := List.pairwise_cons.1 ho
    obtain ⟨hs1, hs2⟩ := List.pairwise_cons.1 hs
    have he := h e (by simp)
    refine ⟨he.1, by omega, chain_of_sorted (n := n) (fun x hx => ?_) ho2 hs2⟩
    have h1 := over_no.1 (ho1 x hx)
    have h2 := hs1 x hx
    have h3 := h x (by simp [hx])
    omega
theorem Srt.chain {n : Int} {l s : List (Int × Int)} (hs : Srt l s) (hg : Good n l) (hn : 0 ≤ n) : Chain 0 (s ++ [(n, 0)]) ∧ endOf 0 (s ++ [(n, 0)]) = n ∧ endOf 0 s ≤ n := by
  have hgs := hg.perm hs.1
  have hc : Chain 0 s := chain_of_sorted (n := n) (fun e he => ⟨(hgs.all e he).1, (hgs.all e he).2.1⟩) hgs.apart hs.2
  have hle : endOf 0 s ≤ n := by
    have : ∀ (s : List (Int × Int)) (f : Int), f ≤ n → (∀ e ∈ s, e.1 + e.2 ≤ n) → endOf f s ≤ n := by
      intro s
      induction s with
      | nil => intro f h _; exact h
      | cons e r ih => intro f _ h; exact ih _ (h e (by simp)) (fun x hx => h x (by simp [hx]))
    exact this s 0 hn (fun e he => (hgs.all e he).2.2)
  refine ⟨chain_append.2 ⟨hc, hle, Int.le_refl _, trivial⟩, ?_, hle⟩
  rw [endOf_append]
  show n + 0 = n
  omega
/-- What is free of n bytes. -/
def freeOf (n : Int) (s : List (Int × Int)) : List (Int × Int) := runsOf 0 (s ++ [(n, 0)])

theorem Srt.sum {n : Int} {l s : List (Int × Int)} (hs : Srt l s) (hg : Good n l) (hn : 0 ≤ n) : lenSum l + lenSum (freeOf n s) = n := by
  obtain ⟨hc, he, _⟩ := hs.chain hg hn
  have := hc.sum
  rw [he, lenSum_append, lenSum_perm hs.1] at this
  have h0 : lenSum [(n, 0)] = 0 := rfl
  unfold freeOf
  omega
theorem Srt.freeIn {n : Int} {l s : List (Int × Int)} (hs : Srt l s) (hg : Good n l) (hn : 0 ≤ n) : ∀ x ∈ freeOf n s, 0 ≤ x.1 ∧ 1 ≤ x.2 ∧ x.1 + x.2 ≤ n ∧ ∀ e ∈ l, over x e = false := by
  obtain ⟨hc, he, _⟩ := hs.chain hg hn
  intro x hx
  obtain ⟨h1, h2, h3, h4⟩ := hc.run x hx
  rw [he] at h3
  exact ⟨h1, h2, h3, fun e hh => h4 e (by simp [hs.1.mem_iff.2 hh])⟩
theorem Srt.all {n : Int} {l s : List (Int × Int)} (hs : Srt l s) (hg : Good n l) (hn : 0 ≤ n) : Good n (l ++ freeOf n s) := by
  have hf := hs.freeIn hg hn
  obtain ⟨hc, he, _⟩ := hs.chain hg hn
  refine ⟨fun e hh => ?_, List.pairwise_append.2 ⟨hg.apart, ?_, fun a ha b hb => ?_⟩⟩
  · rcases List.mem_append.1 hh with hh | hh
    · exact hg.all e hh
    · have := hf e hh; exact ⟨this.1, this.2.1, this.2.2.1⟩
  · exact hc.runs.imp (fun h => over_no.2 (.inr h))
  · rw [over_comm]; exact (hf b hb).2.2.2 a ha
/-- One more, where a run begins. -/
theorem Srt.more {n : Int} {l s : List (Int × Int)} (hs : Srt l s) (hg : Good n l) (hn : 0 ≤ n) {x : (Int × Int)} (hx : x ∈ freeOf n s) {z : Int} (hz : 1 ≤ z) (hzx : z ≤ x.2) :
    ∃ s' R1 R2, Srt ((x.1, z) :: l) s' ∧ Good n ((x.1, z) :: l) ∧ freeOf n s = R1 ++ x :: R2 ∧ freeOf n s' = R1 ++ ((if z < x.2 then [(x.1 + z, x.2 - z)] else []) ++ R2) := by
  obtain ⟨hc, he, hle⟩ := hs.chain hg hn
  have hfr := hs.freeIn hg hn x hx
  have hG : Good n ((x.1, z) :: l) := by
    refine ⟨fun e hh => ?_, List.pairwise_cons.2 ⟨fun e hh => ?_, hg.apart⟩⟩
    · rcases List.mem_cons.1 hh with rfl | hh
      · exact ⟨hfr.1, hz, by dsimp only; omega⟩
      · exact hg.all e hh
    · have h1 := over_no.1 (hfr.2.2.2 e hh)
      have h2 := hg.all e hh
      exact over_no.2 (by dsimp only; omega)
  obtain ⟨A, b, B, hsp, e1, e2, e3⟩ := run_split hx
  obtain ⟨C, rfl, hC⟩ : ∃ C, s = A ++ C ∧ b :: B = C ++ [(n, 0)] := by
    have hne : b :: B ≠ [] := by simp
    have h1 : (s ++ [(n, 0)]).dropLast = A ++ (b :: B).dropLast := by rw [hsp, List.dropLast_append_of_ne_nil hne]
    rw [List.dropLast_concat] at h1
    refine ⟨(b :: B).dropLast, h1, ?_⟩
    have h2 : (s ++ [(n, 0)]).getLast (by simp) = (A ++ b :: B).getLast (by simp) := by simp only [hsp]
    rw [List.getLast_concat, List.getLast_append_of_ne_nil (by simp) hne] at h2
    rw [h2]
    exact (List.dropLast_concat_getLast hne).symm
  have hcA : Chain 0 A ∧ Chain (endOf 0 A) (C ++ [(n, 0)]) := by
    rw [List.append_assoc] at hc
    exact chain_append.1 hc
  refine ⟨A ++ (x.1, z) :: C, runsOf 0 A, runsOf (b.1 + b.2) B, ⟨?_, ?_⟩, hG, ?_, ?_⟩
  · exact List.perm_middle.trans (hs.1.cons _)
  · obtain ⟨p1, p2, p3⟩ := List.pairwise_append.1 hs.2
    refine List.pairwise_append.2 ⟨p1, List.pairwise_cons.2 ⟨fun y hy => ?_, p2⟩, fun a ha y hy => ?_⟩
    · have hy1 : y ∈ b :: B := by rw [hC]; simp [hy]
      have hcb := hcA.2
      rw [← hC] at hcb
      rcases List.mem_cons.1 hy1 with rfl | hy1
      · exact e2
      · have := hcb.2.2.mem y hy1
        have := hcb.2.1
        dsimp only; omega
    · rcases List.mem_cons.1 hy with rfl | hy
      · have h1 := hcA.1.mem a ha
        have h2 := (hg.perm hs.1).all a (by simp [ha])
        dsimp only; omega
      · exact p3 a ha y hy
  · unfold freeOf
    rw [List.append_assoc, ← hC, runsOf_append]
    show _ ++ ((if endOf 0 A < b.1 then _ else _) ++ _) = _
    rw [← e1, if_pos e2, ← e3]
    rfl
  · unfold freeOf
    rw [List.append_assoc, List.cons_append, ← hC, runsOf_append]
    show _ ++ ((if endOf 0 A < x.1 then _ else _) ++ ((if x.1 + z < b.1 then _ else _) ++ _)) = _
    rw [← e1, if_neg (by omega), List.nil_append]
    by_cases hzl : z < x.2
    · rw [if_pos hzl, if_pos (by omega), show b.1 - (x.1 + z) = x.2 - z by omega]
    · rw [if_neg hzl, if_neg (by omega)]

/-! ### the shortest run that will do -/
def fitStep (size : Int) (best r : (Int × Int)) : (Int × Int) := if size ≤ r.2 ∧ (best.2 = 0 ∨ r.2 < best.2) then r else best
def fitB (size : Int) (h : List (Int × Int)) : (Int × Int) := h.foldl (fitStep size) (0, 0)
theorem fit_fold {size : Int} (hs : 1 ≤ size) : ∀ (h : List (Int × Int)) (b : (Int × Int)), (∀ r ∈ h, 1 ≤ r.2) → 0 ≤ b.2 →
    ((h.foldl (fitStep size) b).2 = 0 ∧ b.2 = 0 ∧ ∀ r ∈ h, r.2 < size) ∨
    (1 ≤ (h.foldl (fitStep size) b).2 ∧ ((h.foldl (fitStep size) b) = b ∨ ((h.foldl (fitStep size) b) ∈ h ∧ size ≤ (h.foldl (fitStep size) b).2)) ∧ (1 ≤ b.2 → (h.foldl (fitStep size) b).2 ≤ b.2) ∧ ∀ r ∈ h, size ≤ r.2 → (h.foldl (fitStep size) b).2 ≤ r.2)
  | [], b, _, hb => by
    by_cases h0 : b.2 = 0
    · exact .inl ⟨h0, h0, fun r hr => by cases hr⟩
    · exact .inr ⟨by show 1 ≤ b.2; omega, .inl rfl, fun _ => Int.le_refl _, fun r hr => by cases hr⟩
  | x :: h, b, hr, hb => by
    have hx := hr x (by simp)
    have hr' : ∀ r ∈ h, 1 ≤ r.2 := fun r hh => hr r (by simp [hh])
    rw [List.foldl_cons]
    by_cases hc : size ≤ x.2 ∧ (b.2 = 0 ∨ x.2 < b.2)
    · have e : fitStep size b x = x := if_pos hc
      rw [e]
      rcases fit_fold hs h x hr' (by omega) with ⟨_, h2, _⟩ | ⟨h1, h2, h3, h4⟩
      · omega
      · have h5 := h3 hx
        refine .inr ⟨h1, .inr ?_, fun hb1 => by omega, fun r hh hsr => ?_⟩
        · rcases h2 with h2 | ⟨h2, h2'⟩
          · exact ⟨by rw [h2]; simp, by rw [h2]; exact hc.1⟩
          · exact ⟨by simp [h2], h2'⟩
        · rcases List.mem_cons.1 hh with rfl | hh
          · exact h5
          · exact h4 r hh hsr
    · have e : fitStep size b x = b := if_neg hc
      rw [e]
      rcases fit_fold hs h b hr' hb with ⟨h1, h2, h3⟩ | ⟨h1, h2, h3, h4⟩
      · refine .inl ⟨h1, h2, fun r hh => ?_⟩
        rcases List.mem_cons.1 hh with rfl | hh
        · omega
        · exact h3 r hh
      · refine .inr ⟨h1, ?_, h3, fun r hh hsr => ?_⟩
        · rcases h2 with h2 | ⟨h2, h2'⟩
          · exact .inl h2
          · exact .inr ⟨by simp [h2], h2'⟩
        · rcases List.mem_cons.1 hh with rfl | hh
          · have := h3 (by omega)
            omega
          · exact h4 r hh hsr
theorem fit_spec {size : Int} (hs : 1 ≤ size) {h : List (Int × Int)} (hr : ∀ r ∈ h, 1 ≤ r.2) :
    ((fitB size h).2 = 0 ∧ ∀ r ∈ h, r.2 < size) ∨ (1 ≤ (fitB size h).2 ∧ fitB size h ∈ h ∧ size ≤ (fitB size h).2 ∧ ∀ r ∈ h, size ≤ r.2 → (fitB size h).2 ≤ r.2) := by
  rcases fit_fold hs h (0, 0) hr (Int.le_refl _) with ⟨h1, _, h3⟩ | ⟨h1, h2, _, h4⟩
  · exact .inl ⟨h1, h3⟩
  · rcases h2 with h2 | h2
    · have : (fitB size h).2 = 0 := by unfold fitB; rw [h2]
      unfold fitB at this; omega
    · exact .inr ⟨h1, h2.1, h2.2, h4⟩
/-- The longest. -/
def mostOf (m : Int) (h : List (Int × Int)) : Int := h.foldl (fun m r => max m r.2) m
theorem most_le : ∀ {h : List (Int × Int)} {m M : Int}, mostOf m h ≤ M ↔ m ≤ M ∧ ∀ r ∈ h, r.2 ≤ M
  | [], m, M => by simp [mostOf]
  | x :: h, m, M => by
    have : mostOf m (x :: h) = mostOf (max m x.2) h := rfl
    rw [this, most_le]
    constructor
    · rintro ⟨h1, h2⟩
      refine ⟨by omega, fun r hr => ?_⟩
      rcases List.mem_cons.1 hr with rfl | hr
      · omega
      · exact h2 r hr
    · rintro ⟨h1, h2⟩
      have := h2 x (by simp)
      exact ⟨by omega, fun r hr => h2 r (by simp [hr])⟩
theorem lenSum_ge : ∀ {h : List (Int × Int)}, (∀ r ∈ h, 1 ≤ r.2) → 0 ≤ lenSum h ∧ ∀ r ∈ h, r.2 ≤ lenSum h
  | [], _ => ⟨by simp [lenSum], fun r hr => by cases hr⟩
  | x :: h, hr => by
    obtain ⟨h1, h2⟩ := lenSum_ge (h := h) (fun r hh => hr r (by simp [hh]))
    have hx := hr x (by simp)
    rw [lenSum_cons]
    refine ⟨by omega, fun r hh => ?_⟩
    rcases List.mem_cons.1 hh with rfl | hh
    · omega
    · have := h2 r hh; omega
end Go.Proofs.YtllpeknpplpgeaaGreatDoor
