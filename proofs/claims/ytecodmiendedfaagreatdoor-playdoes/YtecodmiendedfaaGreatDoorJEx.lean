/-
  Parts of the proofs, joined by program.
-/
import Derived.Test.YtecodmiendedfaaGreatDoorJEy
import Derived.Laws.ResultCell
import Derived.Laws.AppendOwnNone
import Derived.Test.YtecodmiendedfaaGreatDoorJChp
import Derived.Deep.QuietTactic
import Derived.Deep.RegionHeld3
namespace Go.Proofs.YtecodmiendedfaaGreatDoor
open Go.RowKit Go.Sort Go.Shelf
set_option linter.unusedVariables false
section
variable {w : World} {g : Nat} {o u f m r : Int}
end
theorem wpList_append_exs {w : World} {ops : Array Oper} {rest : List Oper} {o : Oper} {a : Act} {Q : Exit -> Act -> World -> Prop} (hgd : o.guard = none) (s x : Operand)
  (ho : o.op = .call { callee := .builtin .append, args := #[s, x], argTypes := #[76, 76] })
  (B : Nat) (v : Value) (xs : List (Int × Int)) (hs : a.eval s = v) (hown : ExO w B v xs) (sp : Option Addr) (cap : Nat) (l : List (Int × Int)) (hx : a.eval x = .slice sp l.length cap) (hl : Exs w sp cap l) (hn : xs.length + l.length <= 1000000) (hB : B <= w.heap.size)
  (h : ∀ v' w', ExO w' B v' (xs ++ l) -> Below B w w' -> (∀ k, v.ownBlock ≠ some k -> k < w.heap.size -> w'.heap[k]? = w.heap[k]?) -> wpList Tryz.prog ops Q rest (a.put o.dst v') w') :
  wpList Tryz.prog ops Q (o :: rest) a w := by
 obtain ⟨i0, hi, hz0, hz1, hz2⟩ := info_parts info_ex
 obtain ⟨h1, ⟨h2, h2'⟩, h3, h4⟩ := hl
 have fin : ∀ v' w', w'.ownsRow B 70 2 v' (xs.length + l.length) (xs.flatMap exC ++ l.flatMap exC) -> w.grownBy w' v.ownBlock -> wpList Tryz.prog ops Q rest (a.put o.dst v') w' := fun v' w' ho' hg' => by
  refine h v' w' ?_ ((Below.refl _ _).grown hg' hB (fun k hk => (hown.block k hk).1)) (fun k hk hlt => hg'.block k hlt (fun e => hk e.symm))
  unfold ExO
  rw [List.length_append, List.flatMap_append]
  exact ho'
 by_cases h0 : l = []
 ·subst h0
  cases sp with
  | none =>
   have hc : cap = 0 := h2' rfl
   subst hc
   refine wpList_append_own_none hgd s x 76 ho B 70 i0 2 Tryz.underlying76 hi v _ _ hs hown hx ?_
   refine h v w (by rw [List.append_nil]; exact hown) (Below.refl _ _) (fun k _ _ => rfl)
  | some y =>
   refine wpList_append_own w hgd s x 76 ho B 70 i0 (.agg #[.int .i64 0, .int .i64 0]) 2 16 Tryz.underlying76 hi hz0 hz1 hz2 rfl (by decide) v _ _ hs hown y 0 cap [] hx rfl (fun j u hj => by simp at hj) (fun u hu => by cases hu) (by unfold maxLen; omega) (by omega) hB (fun v' w' ho' hg' _ => fin v' w' ho' hg')
 ·obtain ⟨b, off, rfl, hc⟩ := h4 h0
  refine wpList_append_own w hgd s x 76 ho B 70 i0 (.agg #[.int .i64 0, .int .i64 0]) 2 16 Tryz.underlying76 hi hz0 hz1 hz2 rfl (by decide) v _ _ hs hown ⟨b, off, none⟩ l.length cap (l.flatMap exC) hx (flat_length l) (fun j u hj => ?_) (flat_one l) (by unfold maxLen; omega) (by omega) hB (fun v' w' ho' hg' _ => fin v' w' ho' hg')
  have hjl : j < l.length * 2 := by
   rw [<- flat_length]
   exact (List.getElem?_eq_some_iff.1 hj).1
  obtain ⟨c0, c1⟩ := hc (j / 2) (by omega)
  obtain ⟨q0, q1⟩ := flat_get l (j / 2) (by omega)
  rw [addr_add]
  rcases Nat.mod_two_eq_zero_or_one j with hm | hm
  ·have e : j / 2 * 2 = j := by omega
   rw [e] at c0 q0
   rw [q0] at hj
   rw [c0]; exact hj
  ·have e : j / 2 * 2 + 1 = j := by omega
   rw [e] at q1
   rw [Nat.add_assoc, e] at c1
   rw [q1] at hj
   rw [c1]; exact hj
theorem exs_one {w : World} {g : Nat} {e : (Int × Int)} (h : ExB w g e) (he : InI e) : Exs w (some ⟨g, 0, none⟩) 1 [e] :=
 ⟨fun x hx => by rw [List.mem_singleton.1 hx]; exact he, ⟨Nat.le_refl _, fun e => by cases e⟩, by simp, fun _ => ⟨g, 0, rfl, fun i hi => by
  have : i = 0 := by simp at hi; omega
  subst this
  exact ⟨h.c0, h.c1⟩⟩⟩
theorem freeL_eq {n : Int} {l s : List (Int × Int)} (hc : chk n l = 0) (hs : Srt l s) : freeL n l = freeOf n s := by
 unfold freeL
 rw [if_pos hc]
 have hg := (chk_zero.1 hc).2.2.2
 rw [srt_unique (hg.srtL.1.trans hs.1.symm) hg.srtL.2 hs.2]
end Go.Proofs.YtecodmiendedfaaGreatDoor
namespace Go.Proofs.YtecodmiendedfaaGreatDoor
set_option linter.unusedVariables false
def extH (o : List (Int × Int)) (i : Nat) : List (Int × Int) := match o.getLast? with
 | none => [((i : Int), 1)]
 | some x => if x.1 + x.2 = i then o.dropLast ++ [(x.1, x.2 + 1)] else o ++ [((i : Int), 1)]
def holesTo (tk : Nat -> Bool) : Nat -> List (Int × Int)
 | 0 => []
 | i + 1 => if tk i = true then holesTo tk i else extH (holesTo tk i) i
def Fresh (o : List (Int × Int)) (f : Nat) : Prop := ∀ x, o.getLast? = some x -> x.1 + x.2 < f
theorem holes_free {tk : Nat -> Bool} {f : Nat} {o : List (Int × Int)} (h : holesTo tk f = o) (hf : Fresh o f) : ∀ k, (∀ i, f <= i -> i < f + k -> tk i = false) -> holesTo tk (f + k) = if k = 0 then o else o ++ [((f : Int), (k : Int))]
 | 0, _ => h
 | k + 1, ht => by
  have ih := holes_free h hf k (fun i h1 h2 => ht i h1 (by omega))
  rw [if_neg (by omega)]
  show (if tk (f + k) = true then holesTo tk (f + k) else extH (holesTo tk (f + k)) (f + k)) = _
  rw [if_neg (by rw [ht (f + k) (by omega) (by omega)]; simp), ih]
  by_cases hk : k = 0
  ·subst hk
   rw [if_pos rfl]
   unfold extH
   cases hl : o.getLast? with
   | none => rw [List.getLast?_eq_none_iff.1 hl]; simp
   | some x =>
    have := hf x hl
    dsimp only
    rw [if_neg (by omega)]; simp
  ·rw [if_neg hk]
   unfold extH
   rw [List.getLast?_concat]
   dsimp only
   rw [if_pos (by omega), List.dropLast_concat]
   congr 2
theorem holes_taken {tk : Nat -> Bool} {f : Nat} : ∀ k, (∀ i, f <= i -> i < f + k -> tk i = true) -> holesTo tk (f + k) = holesTo tk f
 | 0, _ => rfl
 | k + 1, ht => by
  show (if tk (f + k) = true then holesTo tk (f + k) else extH (holesTo tk (f + k)) (f + k)) = _
  rw [if_pos (ht (f + k) (by omega) (by omega))]
  exact holes_taken k (fun i h1 h2 => ht i h1 (by omega))
theorem holes_chain {tk : Nat -> Bool} : ∀ (s : List (Int × Int)) (f : Nat) (o : List (Int × Int)), Chain f s -> (∀ e ∈ s, 1 <= e.2) -> (∀ i : Nat, (f : Int) <= i -> (i : Int) < endOf f s -> (tk i = true ↔ ∃ e ∈ s, e.1 <= i /\ (i : Int) < e.1 + e.2)) -> holesTo tk f = o -> Fresh o f ->
  holesTo tk (endOf f s).toNat = o ++ runsOf f s /\ Fresh (o ++ runsOf f s) (endOf f s).toNat
 | [], f, o, _, _, _, h, hf => by
  simp only [endOf, runsOf, List.append_nil, Int.toNat_natCast]
  exact ⟨h, hf⟩
 | e :: r, f, o, hc, h1, ht, h, hf => by
  obtain ⟨c1, c2, c3⟩ := hc
  have he := h1 e (by simp)
  have hle := c3.endLe
  obtain ⟨k, hk⟩ : ∃ k : Nat, e.1 = f + k := ⟨(e.1 - f).toNat, by omega⟩
  obtain ⟨m, hm⟩ : ∃ m : Nat, e.2 = m := ⟨e.2.toNat, by omega⟩
  have a1 := holes_free h hf k (fun i i1 i2 => by
   cases hh : tk i with
   | false => rfl
   | true =>
    obtain ⟨x, hx, x1, x2⟩ := (ht i (by omega) (by show (i : Int) < endOf (e.1 + e.2) r; omega)).1 hh
    rcases List.mem_cons.1 hx with rfl | hx
    ·omega
    ·have := c3.mem x hx
     omega)
  have a2 := holes_taken (tk := tk) (f := f + k) m (fun i i1 i2 => (ht i (by omega) (by show (i : Int) < endOf (e.1 + e.2) r; omega)).2 ⟨e, by simp, by omega, by omega⟩)
  have ho : (if k = 0 then o else o ++ [((f : Int), (k : Int))]) = o ++ (if (f : Int) < e.1 then [((f : Int), e.1 - f)] else []) := by
   by_cases hk0 : k = 0
   ·rw [if_pos hk0, if_neg (by omega), List.append_nil]
   ·rw [if_neg hk0, if_pos (by omega), show e.1 - (f : Int) = k by omega]
  have hF : Fresh (o ++ (if (f : Int) < e.1 then [((f : Int), e.1 - f)] else [])) (f + k + m) := by
   intro x hx
   by_cases hk0 : (f : Int) < e.1
   ·rw [if_pos hk0, List.getLast?_concat] at hx
    obtain rfl := Option.some.inj hx
    dsimp only; omega
   ·rw [if_neg hk0, List.append_nil] at hx
    have := hf x hx
    omega
  have en : e.1 + e.2 = ((f + k + m : Nat) : Int) := by omega
  simp only [endOf, runsOf]
  rw [en, <- List.append_assoc]
  rw [en] at c3 hle
  refine holes_chain r (f + k + m) _ c3 (fun x hx => h1 x (by simp [hx])) (fun i i1 i2 => ?_) ?_ hF
  ·rw [ht i (by omega) (by show (i : Int) < endOf (e.1 + e.2) r; rw [en]; exact i2)]
   constructor
   ·rintro ⟨x, hx, x1, x2⟩
    rcases List.mem_cons.1 hx with rfl | hx
    ·omega
    ·exact ⟨x, hx, x1, x2⟩
   ·rintro ⟨x, hx, x1, x2⟩
    exact ⟨x, by simp [hx], x1, x2⟩
  ·rw [a2, a1, ho]
theorem Srt.holes {n : Nat} {l s : List (Int × Int)} (hs : Srt l s) (hg : Good n l) {tk : Nat -> Bool} (ht : ∀ i : Nat, i < n -> (tk i = true ↔ ∃ e ∈ l, e.1 <= i /\ (i : Int) < e.1 + e.2)) : holesTo tk n = freeOf n s := by
 obtain ⟨hc, he, hle⟩ := hs.chain hg (by omega)
 obtain ⟨hc1, hc2⟩ := chain_append.1 hc
 have hgs := hg.perm hs.1
 have h0 := hc1.endLe
 obtain ⟨f, hf⟩ : ∃ f : Nat, endOf 0 s = f := ⟨(endOf 0 s).toNat, by omega⟩
 obtain ⟨k, hk⟩ : ∃ k : Nat, n = f + k := ⟨n - f, by omega⟩
 have a1 := holes_chain (tk := tk) s 0 [] hc1 (fun e hh => (hgs.all e hh).2.1) (fun i i1 i2 => by
  have i3 : (i : Int) < endOf 0 s := i2
  rw [ht i (by omega)]
  constructor
  ·rintro ⟨e, hh, x⟩; exact ⟨e, hs.1.mem_iff.2 hh, x⟩
  ·rintro ⟨e, hh, x⟩; exact ⟨e, hs.1.mem_iff.1 hh, x⟩) rfl (fun x hx => by cases hx)
 have e0 : endOf ((0 : Nat) : Int) s = f := hf
 rw [e0, Int.toNat_natCast, List.nil_append] at a1
 have a2 := holes_free a1.1 a1.2 k (fun i i1 i2 => by
  cases hh : tk i with
  | false => rfl
  | true =>
   obtain ⟨x, hx, x1, x2⟩ := (ht i (by omega)).1 hh
   have := hc1.mem x (hs.1.mem_iff.2 hx)
   omega)
 unfold freeOf
 rw [runsOf_append, hf, hk, a2]
 show _ = runsOf 0 s ++ ((if (f : Int) < ((f + k : Nat) : Int) then _ else _) ++ [])
 rw [List.append_nil]
 by_cases hk0 : k = 0
 ·rw [if_pos hk0, if_neg (by omega), List.append_nil]; rfl
 ·rw [if_neg hk0, if_pos (by omega)]
  have : ((f + k : Nat) : Int) - (f : Int) = k := by omega
  rw [this]; rfl
def fitR (size : Int) (a r : (Int × Int)) : (Int × Int) := if size <= r.2 /\ (a.1 < 0 \/ r.2 < a.2) then r else a
theorem fitR_fold {size : Int} : ∀ (h : List (Int × Int)) (a b : (Int × Int)), (∀ r ∈ h, 0 <= r.1 /\ 1 <= r.2) -> ((b.2 = 0 /\ a.1 < 0) \/ (a = b /\ 0 <= b.1 /\ 1 <= b.2)) ->
  (((h.foldl (fitStep size) b).2 = 0 /\ (h.foldl (fitR size) a).1 < 0) \/ (h.foldl (fitR size) a = h.foldl (fitStep size) b /\ 0 <= (h.foldl (fitStep size) b).1 /\ 1 <= (h.foldl (fitStep size) b).2))
 | [], a, b, _, hab => hab
 | x :: h, a, b, hr, hab => by
  have hx := hr x (by simp)
  rw [List.foldl_cons, List.foldl_cons]
  refine fitR_fold h _ _ (fun r hh => hr r (by simp [hh])) ?_
  unfold fitStep fitR
  rcases hab with ⟨h1, h2⟩ | ⟨h1, h2, h3⟩
  ·by_cases hz : size <= x.2
   ·rw [if_pos ⟨hz, .inl h1⟩, if_pos ⟨hz, .inl h2⟩]
    exact .inr ⟨rfl, hx⟩
   ·rw [if_neg (fun h => hz h.1), if_neg (fun h => hz h.1)]
    exact .inl ⟨h1, h2⟩
  ·subst h1
   by_cases hz : size <= x.2 /\ x.2 < a.2
   ·rw [if_pos ⟨hz.1, .inr hz.2⟩, if_pos ⟨hz.1, .inr hz.2⟩]
    exact .inr ⟨rfl, hx⟩
   ·rw [if_neg (fun h => hz ⟨h.1, h.2.elim (fun h => by omega) id⟩), if_neg (fun h => hz ⟨h.1, h.2.elim (fun h => by omega) id⟩)]
    exact .inr ⟨rfl, h2, h3⟩
theorem fitR_spec {size : Int} {h : List (Int × Int)} (hr : ∀ r ∈ h, 0 <= r.1 /\ 1 <= r.2) : ((fitB size h).2 = 0 /\ (h.foldl (fitR size) (-1, 0)).1 < 0) \/ (h.foldl (fitR size) (-1, 0) = fitB size h /\ 0 <= (fitB size h).1 /\ 1 <= (fitB size h).2) :=
 fitR_fold h (-1, 0) (0, 0) hr (.inl ⟨rfl, by decide⟩)
end Go.Proofs.YtecodmiendedfaaGreatDoor
namespace Go.Proofs.YtecodmiendedfaaGreatDoor
open Go.RowKit Go.Sort Go.Shelf
set_option linter.unusedVariables false
theorem zero_taken : Tryz.zeroCells168 = Array.replicate 6401 (.bool false) := by kernel_rfl
def TkB (w : World) (g : Nat) (tk : Nat -> Bool) : Prop := ∃ cs : Array Value, w.heap[g]? = some (.cells cs 168 (0, 0)) /\ ∀ i, i < 6401 -> cs[i]? = some (.bool (tk i))
section
variable {w w' : World} {g : Nat} {tk tk' : Nat -> Bool}
theorem TkB.lt (h : TkB w g tk) : g < w.heap.size := by obtain ⟨cs, h1, _⟩ := h; exact (Array.getElem?_eq_some_iff.1 h1).1
theorem TkB.cell (h : TkB w g tk) {i : Nat} (hi : i < 6401) : w.cell? ⟨g, i, none⟩ = some (.bool (tk i)) := by
 obtain ⟨cs, h1, h2⟩ := h
 rw [cell_of_row _ _ _ _ _ _ h1]; exact h2 i hi
theorem TkB.fr (h : TkB w g tk) (i : Nat) : w.frozen? ⟨g, i, none⟩ = false := by obtain ⟨cs, h1, _⟩ := h; exact frozen_of_row w g i _ _ h1
theorem TkB.congr (h : TkB w g tk) (he : ∀ i, i < 6401 -> tk i = tk' i) : TkB w g tk' := by
 obtain ⟨cs, h1, h2⟩ := h
 exact ⟨cs, h1, fun i hi => by rw [h2 i hi, he i hi]⟩
theorem TkB.set (h : TkB w g tk) (i : Nat) : TkB (w.setCell ⟨g, i, none⟩ (.bool true)) g (fun j => tk j || decide (j = i)) := by
 obtain ⟨cs, h1, h2⟩ := h
 refine ⟨_, heap_setCell_same w g i _ _ (.bool true) h1, fun j hj => ?_⟩
 have hsz : j < cs.size := (Array.getElem?_eq_some_iff.1 (h2 j hj)).1
 by_cases e : i = j
 ·subst e
  simp [hsz]
 ·rw [Array.getElem?_setIfInBounds_ne e, h2 j hj]
  have : decide (j = i) = false := decide_eq_false (fun h => e h.symm)
  show _ = some (Value.bool (tk j || decide (j = i)))
  rw [this, Bool.or_false]
end
theorem TkB.new (w : World) : TkB (w.alloc (.cells Tryz.zeroCells168 168)) w.heap.size (fun _ => false) :=
 ⟨_, heap_alloc_new w _, fun i hi => by rw [zero_taken]; simp [hi]⟩
def tkL (l : List (Int × Int)) (j : Nat) : Bool := l.any (fun e => decide (e.1 <= (j : Int)) && decide ((j : Int) < e.1 + e.2))
theorem tkL_iff {l : List (Int × Int)} {j : Nat} : tkL l j = true ↔ ∃ e ∈ l, e.1 <= (j : Int) /\ (j : Int) < e.1 + e.2 := by
 unfold tkL
 rw [List.any_eq_true]
 simp only [Bool.and_eq_true, decide_eq_true_eq]
theorem tkL_take {l : List (Int × Int)} {k : Nat} (hk : k < l.length) (j : Nat) : tkL (l.take (k + 1)) j = (tkL (l.take k) j || (decide ((l.getD k (0, 0)).1 <= (j : Int)) && decide ((j : Int) < (l.getD k (0, 0)).1 + (l.getD k (0, 0)).2))) := by
 have e : l.getD k (0, 0) = l[k] := by simp [List.getD, hk]
 unfold tkL
 rw [List.take_succ_eq_append_getElem hk, List.any_append, e]
 simp
theorem tk_more (t : Bool) (x m j : Nat) : ((t || (decide ((x : Int) <= (j : Int)) && decide ((j : Int) < (x : Int) + (m : Int)))) || decide (j = x + m)) = (t || (decide ((x : Int) <= (j : Int)) && decide ((j : Int) < (x : Int) + ((m + 1 : Nat) : Int)))) := by
 by_cases h1 : (x : Int) <= j
 ·by_cases h2 : (j : Int) < x + m
  ·rw [decide_eq_true h1, decide_eq_true h2, decide_eq_true (show (j : Int) < x + ((m + 1 : Nat) : Int) by omega)]; simp
  ·by_cases h3 : j = x + m
   ·rw [decide_eq_true h1, decide_eq_false h2, decide_eq_true h3, decide_eq_true (show (j : Int) < x + ((m + 1 : Nat) : Int) by omega)]; simp
   ·rw [decide_eq_true h1, decide_eq_false h2, decide_eq_false h3, decide_eq_false (show ¬ (j : Int) < x + ((m + 1 : Nat) : Int) by omega)]; simp
 ·rw [decide_eq_false h1, decide_eq_false (show ¬ j = x + m by omega)]; simp
theorem holes_bd {tk : Nat -> Bool} : ∀ i, (∀ x ∈ holesTo tk i, 0 <= x.1 /\ 1 <= x.2 /\ x.1 + x.2 <= (i : Int)) /\ (holesTo tk i).length <= i
 | 0 => ⟨fun x hx => (by cases hx), Nat.le_refl _⟩
 | i + 1 => by
  obtain ⟨h1, h2⟩ := holes_bd (tk := tk) i
  show (∀ x ∈ (if tk i = true then holesTo tk i else extH (holesTo tk i) i), _) /\ (if tk i = true then holesTo tk i else extH (holesTo tk i) i).length <= i + 1
  by_cases ht : tk i = true
  ·rw [if_pos ht]
   exact ⟨fun x hx => by have := h1 x hx; omega, by omega⟩
  ·rw [if_neg ht]
   unfold extH
   cases hl : (holesTo tk i).getLast? with
   | none =>
    refine ⟨fun x hx => ?_, by simp⟩
    rw [List.mem_singleton.1 hx]
    dsimp only; omega
   | some y =>
    have hy := h1 y (List.mem_of_getLast? hl)
    dsimp only
    by_cases he : y.1 + y.2 = i
    ·rw [if_pos he]
     refine ⟨fun x hx => ?_, by simp; omega⟩
     rcases List.mem_append.1 hx with hx | hx
     ·have := h1 x ((List.dropLast_sublist _).subset hx)
      omega
     ·rw [List.mem_singleton.1 hx]
      dsimp only; omega
    ·rw [if_neg he]
     refine ⟨fun x hx => ?_, by simp; omega⟩
     rcases List.mem_append.1 hx with hx | hx
     ·have := h1 x hx
      omega
     ·rw [List.mem_singleton.1 hx]
      dsimp only; omega
theorem extH_nil (i : Nat) : extH [] i = [((i : Int), 1)] := rfl
theorem extH_snoc (o : List (Int × Int)) (x : Int × Int) (i : Nat) : extH (o ++ [x]) i = if x.1 + x.2 = (i : Int) then o ++ [(x.1, x.2 + 1)] else (o ++ [x]) ++ [((i : Int), 1)] := by
 unfold extH
 rw [List.getLast?_concat]
 dsimp only
 rw [List.dropLast_concat]
theorem ExO.setLast {w : World} {B g cap : Nat} {o : List (Int × Int)} {x : Int × Int} (h : ExO w B (.slice (some ⟨g, 0, none⟩) (o ++ [x]).length cap) (o ++ [x])) (z : Int) :
  ExO (w.setCell ⟨g, o.length * 2 + 1, none⟩ (.int .i64 z)) B (.slice (some ⟨g, 0, none⟩) (o ++ [x]).length cap) (o ++ [(x.1, z)]) := by
 have h1 := (World.ownsRow.stored h (o.length * 2 + 1) (.int .i64 z)).1
 unfold ExO
 have e1 : (o ++ [(x.1, z)]).length = (o ++ [x]).length := by simp
 rw [e1]
 have e2 : ((o ++ [x]).flatMap exC).set (o.length * 2 + 1) (.int .i64 z) = (o ++ [(x.1, z)]).flatMap exC := by
  rw [List.flatMap_append, List.flatMap_append]
  rw [List.set_append_right _ _ (by rw [flat_length]; omega), flat_length]
  rw [show o.length * 2 + 1 - o.length * 2 = 1 by omega]
  rfl
 rw [e2] at h1
 exact h1
set_option maxRecDepth 100000 in
set_option maxHeartbeats 4000000 in
theorem holes_go (n : Nat) (a : Option Addr) (cap : Nat) (l : List (Int × Int)) (w : World) (hl : Exs w a cap l) (hc : chk n l = 0) :
  Calls Tryz.prog 58 #[.int .i64 n, .slice a l.length cap] w fun e w' => ∃ v, e = .returned v /\ ExO w' w.heap.size v (freeL n l) /\ Below w.heap.size w w' := by
 obtain ⟨i0, hi0, hz0, hz1, hz2⟩ := info_parts info_ex
 obtain ⟨h0, h1, h2, hg⟩ := chk_zero.1 hc
 have hfree : ∀ tk : Nat -> Bool, (∀ i : Nat, i < n -> (tk i = true ↔ ∃ e ∈ l, e.1 <= i /\ (i : Int) < e.1 + e.2)) -> holesTo tk n = freeL n l := fun tk ht => by rw [freeL_eq hc hg.srtL]; exact hg.srtL.holes hg ht
 have hfr := hfree (tkL l) (fun i hi => tkL_iff)
 have HFR := hide hfr
 have HL := hide hl
 have HG := hide hg
 clear hl hc hg hfree hfr
 go_enter Tryz.func58, Tryz.ntmps58
 go_wp2_with fail
 go_loopw [6] (fun iv wr => ∃ k : Nat, k <= l.length /\ iv = .int .i64 k /\ TkB wr w.heap.size (tkL (l.take k)) /\ Below w.heap.size w wr) (fun iv _ => l.length - (intOf iv).toNat)
 case atStart => exact ⟨0, Nat.zero_le _, rfl, TkB.new w, (Below.refl _ _).alloc (Nat.le_refl _) _⟩
 case round =>
  obtain ⟨k, hk, rfl, htk, hbel⟩ := hrel
  by_cases hlt : k < l.length
  ·have hne : l ≠ [] := by intro e; rw [e] at hlt; simp at hlt
   obtain ⟨b, off, rfl, hcell⟩ := (unhide HL).2.2.2 hne
   obtain ⟨c00, c10⟩ := hcell k hlt
   have hblt := block_lt_of_cell c00
   dsimp only at hblt
   have hin : l.getD k (0, 0) ∈ l := by
    have : l.getD k (0, 0) = l[k] := by simp [List.getD, hlt]
    rw [this]; exact List.getElem_mem hlt
   obtain ⟨g1, g2, g3⟩ := (unhide HG).all _ hin
   have hst := tkL_take hlt
   generalize l.getD k (0, 0) = e at *
   obtain ⟨x0, y0⟩ := e
   dsimp only at *
   obtain ⟨x, rfl⟩ : ∃ x : Nat, x0 = x := ⟨x0.toNat, by omega⟩
   obtain ⟨y, rfl⟩ : ∃ y : Nat, y0 = y := ⟨y0.toNat, by omega⟩
   have HST := hide hst
   have HC0 := hide c00
   have HC1 := hide c10
   have HTK := hide htk
   have HBEL := hide hbel
   clear hst hcell hne hin htk hbel c00 c10
   go_wp2_with fail
   go_loopw [7] (fun mv ws => ∃ m : Nat, m <= y /\ mv = .int .i64 m /\ TkB ws w.heap.size (fun j => tkL (l.take k) j || (decide ((x : Int) <= (j : Int)) && decide ((j : Int) < (x : Int) + (m : Int)))) /\ Below w.heap.size w ws) (fun mv _ => y - (intOf mv).toNat)
   case atStart => exact ⟨0, Nat.zero_le _, rfl, (unhide HTK).congr (fun i hi => by by_cases q : (x : Int) <= i <;> simp [q] <;> omega), unhide HBEL⟩
   case round =>
    obtain ⟨m, hm, rfl, htm, hbm⟩ := hrel
    have c0 := (hbm.cell (p := ⟨b, off + k * 2, none⟩) hblt).trans (unhide HC0)
    have c1 := (hbm.cell (p := ⟨b, off + k * 2 + 1, none⟩) hblt).trans (unhide HC1)
    by_cases hmy : m < y
    ·have d0 := htm.cell (i := x + m) (by omega)
     have f0 := htm.fr (x + m)
     have hset := (htm.set (x + m)).congr (fun i hi => tk_more _ x m i)
     have HSET := hide hset
     have HBM := hide hbm
     clear hset hbm htm
     generalize (tkL (l.take k) (x + m) || (decide ((x : Int) <= ((x + m : Nat) : Int)) && decide (((x + m : Nat) : Int) < (x : Int) + (m : Int)))) = old at *
     go_wp2
     go_roundw
     case rel => exact ⟨m + 1, by omega, by go_num, unhide HSET, (unhide HBM).setCell (Nat.le_refl _) _⟩
     case measure => simp [intOf]; omega
    ·obtain rfl : m = y := by omega
     have hfin := htm.congr (tk' := tkL (l.take (k + 1))) (fun i hi => (unhide HST i).symm)
     have HFIN := hide hfin
     have HBM := hide hbm
     clear hfin hbm htm
     go_wp2
     go_roundw
     case rel => exact ⟨k + 1, by omega, by go_num, unhide HFIN, unhide HBM⟩
     case measure => simp [intOf]; omega
  ·obtain rfl : k = l.length := by omega
   rw [List.take_length] at htk
   have HTK := hide htk
   have HBEL := hide hbel
   clear htk hbel
   have hgt := (unhide HTK).lt
   generalize hwr : wr = w3 at *
   clear hwr
   go_wp2_with fail
   go_loopw [8, 9] (fun ov0 iv ws => ∃ (i : Nat) (ov : Value), ov = ov0 /\ i <= n /\ iv = .int .i64 i /\ ExO ws w3.heap.size ov (holesTo (tkL l) i) /\ Below w3.heap.size w3 ws) (fun _ iv _ => n - (intOf iv).toNat)
   case atStart => exact ⟨0, _, rfl, Nat.zero_le _, rfl, ExO.nil _ _, Below.refl _ _⟩
   case round =>
    obtain ⟨i, ov, hov, hi, rfl, hown, hbi⟩ := hrel
    subst hov
    by_cases hin : i < n
    ·have ct := (hbi.cell (p := ⟨w.heap.size, i, none⟩) hgt).trans ((unhide HTK).cell (i := i) (by omega))
     have hstep : holesTo (tkL l) (i + 1) = if tkL l i = true then holesTo (tkL l) i else extH (holesTo (tkL l) i) i := rfl
     obtain ⟨hbd, hbl⟩ := holes_bd (tk := tkL l) i
     cases htk : tkL l i with
     | true =>
      rw [htk] at ct hstep
      have HSTEP : Hid (holesTo (tkL l) (i + 1) = holesTo (tkL l) i) := hide (by rw [hstep, if_pos rfl])
      have HO := hide hown
      have HBI := hide hbi
      clear hown hbi hstep hbd hbl htk
      go_wp2
      go_roundw
      case rel => exact ⟨i + 1, _, rfl, by omega, by go_num, by rw [unhide HSTEP]; exact unhide HO, unhide HBI⟩
      case measure => simp [intOf]; omega
     | false =>
      rw [htk] at ct hstep
      rw [if_neg (by simp)] at hstep
      clear htk
      have hws := hbi.size
      generalize holesTo (tkL l) i = o at *
      rcases List.eq_nil_or_concat o with rfl | ⟨o', x, rfl⟩
      ·rw [extH_nil] at hstep
       have hov : ∃ a1 c1, ov = .slice a1 0 c1 := by
        rcases hown.2 with ⟨rfl, _⟩ | ⟨g, cp, cur, rfl, _⟩
        ·exact ⟨_, _, rfl⟩
        ·exact ⟨_, _, rfl⟩
       obtain ⟨a1, cc1, rfl⟩ := hov
       have HSTEP := hide hstep
       have HO := hide hown
       have HBI := hide hbi
       clear hown hbi hstep hbd hbl
       go_wp2_with fail
       go_quiet (fail)
       have HOq := hide (World.ownsRow.alloc ((unhide HO).below (below_draws (Below.refl _ _) nq)) (.cells #[.int .i64 i, .int .i64 1] 70))
       have HEq := hide (exs_one (ExB.new (wr.drewN nq) i 1) (by unfold InI; dsimp only; omega))
       have HBq := hide (below_draws (unhide HBI) nq)
       go_wp2_with (at_builtin; refine wpList_append_exs rfl _ _ rfl w3.heap.size _ [] rfl (unhide HOq) (some ⟨wr.heap.size, 0, none⟩) 1 [((i : Int), 1)] rfl (unhide HEq) (by simp) (by simp; omega) ?_)
       intro v' w' ho' hb' _
       have HO' : Hid (ExO w' w3.heap.size v' [((i : Int), 1)]) := hide ho'
       have HB' := hide (((unhide HBq).alloc (unhide HBq).size _).trans hb')
       clear ho' hb' HO HOq HEq HBq HBI
       go_wp2
       go_roundw
       case rel => exact ⟨i + 1, _, rfl, by omega, by go_num, by rw [unhide HSTEP]; exact unhide HO', unhide HB'⟩
       case measure => simp [intOf]; omega
      ·rw [List.concat_eq_append] at *
       rw [extH_snoc] at hstep
       have hx := hbd x (by simp)
       have hlo : (o' ++ [x]).length = o'.length + 1 := by simp
       have hbl2 : o'.length <= 6400 := by rw [hlo] at hbl; omega
       obtain ⟨g, cp, rfl⟩ : ∃ g cp, ov = .slice (some ⟨g, 0, none⟩) (o' ++ [x]).length cp := by
        rcases hown.2 with ⟨_, hh⟩ | ⟨g, cp, cur, rfl, _⟩
        ·rw [hlo] at hh; omega
        ·exact ⟨_, _, rfl⟩
       obtain ⟨a9, c9, e9, hx9⟩ := hown.exs (fun e he => by have := hbd e he; unfold InI; omega) (by omega)
       simp only [Value.slice.injEq, true_and] at e9
       obtain ⟨rfl, rfl⟩ := e9
       obtain ⟨b9, f9, e9, hc9⟩ := hx9.2.2.2 (by simp)
       simp only [Option.some.injEq, Addr.mk.injEq, and_true] at e9
       obtain ⟨rfl, rfl⟩ := e9
       obtain ⟨q0, q1⟩ := hc9 o'.length (by rw [hlo]; omega)
       have hgx : (o' ++ [x]).getD o'.length (0, 0) = x := by simp [List.getD]
       rw [hgx, Nat.zero_add] at q0 q1
       have hfz : wr.frozen? ⟨g, o'.length * 2 + 1, none⟩ = false := by
        rcases hown.2 with ⟨e, _⟩ | ⟨g', cp', cur, e, _, hcur, _⟩
        ·cases e
        ·simp only [Value.slice.injEq, Option.some.injEq, Addr.mk.injEq, and_true, true_and] at e
         obtain ⟨rfl, rfl⟩ := e
         exact frozen_of_row wr g _ _ _ hcur
       have hgb : w3.heap.size <= g := (hown.block g rfl).1
       have HO := hide hown
       have HBI := hide hbi
       have HLO := hide hlo
       clear hbl
       rw [hlo]
       rw [hlo] at HO
       clear hlo
       have hM : ((o'.length + 1 : Nat) : Int) - 1 = (o'.length : Int) := by omega
       obtain ⟨x1, x2⟩ := x
       dsimp only at *
       clear hown hbi hbd hx9 hc9 hgx
       by_cases he : x1 + x2 = (i : Int)
       ·rw [if_pos he] at hstep
        have HSTEP := hide hstep
        clear hstep
        generalize hq : o'.length = M at *
        have HQ := hide hq
        clear hq
        go_wp2_with fail
        go_quiet (fail)
        have HBq := hide (below_draws (unhide HBI) nq)
        have HOq : Hid (ExO (wr.drewN nq) w3.heap.size (.slice (some ⟨g, 0, none⟩) (o' ++ [(x1, x2)]).length cp) (o' ++ [(x1, x2)])) := hide (by rw [unhide HLO]; exact (unhide HO).below (below_draws (Below.refl _ _) nq))
        have hset := (unhide HOq).setLast (x2 + 1)
        rw [unhide HLO, unhide HQ] at hset
        have HSET := hide hset
        clear hset HO HOq HBI
        go_wp2
        go_roundw
        case rel => exact ⟨i + 1, _, rfl, by omega, by go_num, by rw [unhide HSTEP]; exact unhide HSET, (unhide HBq).setCell hgb _⟩
        case measure => simp [intOf]; omega
       ·rw [if_neg he] at hstep
        have HSTEP := hide hstep
        have de : (x1 + x2 == (i : Int)) = false := by simp [he]
        clear hstep
        generalize hq : o'.length = M at *
        have HQ := hide hq
        clear hq
        go_wp2_with fail
        go_quiet (fail)
        have HOq : Hid (ExO ((wr.drewN nq).alloc (.cells #[.int .i64 i, .int .i64 1] 70)) w3.heap.size (.slice (some ⟨g, 0, none⟩) (M + 1) cp) (o' ++ [(x1, x2)])) := hide (World.ownsRow.alloc ((unhide HO).below (below_draws (Below.refl _ _) nq)) _)
        have HEq := hide (exs_one (ExB.new (wr.drewN nq) i 1) (by unfold InI; dsimp only; omega))
        have HBq := hide (below_draws (unhide HBI) nq)
        go_wp2_with (at_builtin; refine wpList_append_exs rfl _ _ rfl w3.heap.size _ (o' ++ [(x1, x2)]) rfl (unhide HOq) (some ⟨wr.heap.size, 0, none⟩) 1 [((i : Int), 1)] rfl (unhide HEq) (by rw [unhide HLO]; simp; omega) (by simp; omega) ?_)
        intro v' w' ho' hb' _
        have HO' := hide ho'
        have HB' := hide (((unhide HBq).alloc (unhide HBq).size _).trans hb')
        clear ho' hb' HO HOq HEq HBq HBI
        go_wp2
        go_roundw
        case rel => exact ⟨i + 1, _, rfl, by omega, by go_num, by rw [unhide HSTEP, List.append_assoc]; exact unhide HO', unhide HB'⟩
        case measure => simp [intOf]; omega
    ·obtain rfl : i = n := by omega
     rw [unhide HFR] at hown
     have HO := hide (hown.base (unhide HBEL).size)
     have HBF := hide ((unhide HBEL).trans (hbi.mono (unhide HBEL).size))
     clear hown hbi
     go_wp2
     go_ret
     exact ⟨_, rfl, unhide HO, unhide HBF⟩
theorem holes_any (n : Int) (a : Option Addr) (cap : Nat) (l : List (Int × Int)) (w : World) (hl : Exs w a cap l) (hc : chk n l = 0) :
  Calls Tryz.prog 58 #[.int .i64 n, .slice a l.length cap] w fun e w' => ∃ v, e = .returned v /\ ExO w' w.heap.size v (freeL n l) /\ Below w.heap.size w w' := by
 obtain ⟨N, rfl⟩ : ∃ N : Nat, n = N := ⟨n.toNat, by have := (chk_zero.1 hc).1; omega⟩
 exact holes_go N a cap l w hl hc
theorem fitR_take {size : Int} {h : List (Int × Int)} {k : Nat} (hk : k < h.length) : (h.take (k + 1)).foldl (fitR size) (-1, 0) = fitR size ((h.take k).foldl (fitR size) (-1, 0)) (h.getD k (0, 0)) := by
 have e : h.getD k (0, 0) = h[k] := by simp [List.getD, hk]
 rw [List.take_succ_eq_append_getElem hk, List.foldl_append, e]
 rfl
set_option maxHeartbeats 2000000 in
theorem rfit_any (n : Int) (a : Option Addr) (cap : Nat) (l : List (Int × Int)) (size : Int) (w : World) (hl : Exs w a cap l) (hc : chk n l = 0) :
  Calls Tryz.prog 24 #[.int .i64 n, .slice a l.length cap, .int .i64 size] w fun e w' => e = .returned (.int .i64 ((freeL n l).foldl (fitR size) (-1, 0)).1) /\ Below w.heap.size w w' := by
 obtain ⟨hsm, hlen⟩ := freeL_small hc
 have h0 := (chk_zero.1 hc).2.1
 have HC := hide (holes_any n a cap l w hl hc)
 generalize freeL n l = fr at *
 generalize hR : (fr.foldl (fitR size) (-1, 0)).1 = RR at *
 have HR := hide hR
 clear hl hc hR
 generalize l.length = N at *
 go_enter Tryz.func24, Tryz.ntmps24
 go_wp2_with fail
 refine (unhide HC).mono ?_
 rintro e w1 ⟨v, rfl, ho, hb1⟩
 obtain ⟨ah, ch, rfl, hx⟩ := ho.exs (fun e he => by have := hsm e he; unfold InI; omega) (by omega)
 have HX := hide hx
 have HB1 := hide hb1
 clear hx ho hb1 hsm HC
 go_wp2_with fail
 go_loop [8, 9, 10] (fun av bv iv => ∃ k : Nat, k <= fr.length /\ iv = .int .i64 k /\ av = .int .i64 ((fr.take k).foldl (fitR size) (-1, 0)).1 /\ bv = .int .i64 ((fr.take k).foldl (fitR size) (-1, 0)).2) (fun _ _ iv => fr.length - (intOf iv).toNat)
 case atStart => exact ⟨0, Nat.zero_le _, rfl, rfl, rfl⟩
 case round =>
  obtain ⟨k, hk, rfl, rfl, rfl⟩ := hrel
  by_cases hlt : k < fr.length
  ·have hne : fr ≠ [] := by intro e; rw [e] at hlt; simp at hlt
   obtain ⟨b, off, rfl, hcell⟩ := (unhide HX).2.2.2 hne
   obtain ⟨c0, c1⟩ := hcell k hlt
   have hst := fitR_take (size := size) hlt
   generalize fr.getD k (0, 0) = r at *
   generalize (fr.take k).foldl (fitR size) (-1, 0) = best at *
   obtain ⟨x, y⟩ := r
   obtain ⟨b1, b2⟩ := best
   dsimp only at *
   have HST := hide hst
   clear hst hcell hne
   by_cases q1 : size <= y
   ·by_cases q2 : b1 < 0
    ·have HS2 : Hid ((fr.take (k + 1)).foldl (fitR size) (-1, 0) = (x, y)) := hide (by rw [unhide HST]; exact if_pos ⟨q1, .inl q2⟩)
     clear HST
     go_wp2
     go_round
     case rel => exact ⟨k + 1, by omega, by go_num, by rw [unhide HS2], by rw [unhide HS2]⟩
     case measure => simp [intOf]; omega
    ·by_cases q3 : y < b2
     ·have HS2 : Hid ((fr.take (k + 1)).foldl (fitR size) (-1, 0) = (x, y)) := hide (by rw [unhide HST]; exact if_pos ⟨q1, .inr q3⟩)
      clear HST
      go_wp2
      go_round
      case rel => exact ⟨k + 1, by omega, by go_num, by rw [unhide HS2], by rw [unhide HS2]⟩
      case measure => simp [intOf]; omega
     ·have HS2 : Hid ((fr.take (k + 1)).foldl (fitR size) (-1, 0) = (b1, b2)) := hide (by rw [unhide HST]; exact if_neg (fun hh => hh.2.elim q2 q3))
      have d2 : decide (b1 < 0) = false := decide_eq_false q2
      have d3 : decide (y < b2) = false := decide_eq_false q3
      clear HST
      go_wp2
      go_round
      case rel => exact ⟨k + 1, by omega, by go_num, by rw [unhide HS2], by rw [unhide HS2]⟩
      case measure => simp [intOf]; omega
   ·have HS2 : Hid ((fr.take (k + 1)).foldl (fitR size) (-1, 0) = (b1, b2)) := hide (by rw [unhide HST]; exact if_neg (fun hh => q1 hh.1))
    have d1 : decide (size <= y) = false := decide_eq_false q1
    clear HST
    go_wp2
    go_round
    case rel => exact ⟨k + 1, by omega, by go_num, by rw [unhide HS2], by rw [unhide HS2]⟩
    case measure => simp [intOf]; omega
  ·obtain rfl : k = fr.length := by omega
   rw [List.take_length, unhide HR]
   go_wp2
   go_ret
   exact ⟨rfl, unhide HB1⟩
end Go.Proofs.YtecodmiendedfaaGreatDoor
