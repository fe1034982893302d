/-
  Parts of the proofs, joined by program.
-/
import Derived.Test.YtifmemombecoaaaGreatDoorJNum
import Derived.Test.YtifmemombecoaaaGreatDoorJChp
import Derived.Test.YtifmemombecoaaaGreatDoorJRtp
namespace Go.Proofs.YtifmemombecoaaaGreatDoor
set_option linter.unusedVariables false
def rk (a : List Int) : Nat := a.foldl (fun n x => n * 41 + x.toNat) 0
def Dg (a : List Int) : Prop := ∀ x ∈ a, 1 <= x /\ x <= 40
theorem rk_fold (a : List Int) : ∀ n : Nat, a.foldl (fun n x => n * 41 + x.toNat) n = n * 41 ^ a.length + rk a := by
 unfold rk
 induction a with
 | nil => intro n; simp
 | cons x r ih =>
  intro n
  simp only [List.foldl_cons, List.length_cons]
  rw [ih (n * 41 + x.toNat), ih (0 * 41 + x.toNat), Nat.pow_succ, Nat.add_mul, Nat.zero_mul, Nat.zero_add]
  rw [show n * 41 * 41 ^ r.length = n * (41 ^ r.length * 41) by rw [Nat.mul_assoc, Nat.mul_comm 41]]
  omega
theorem rk_cons (x : Int) (a : List Int) : rk (x :: a) = x.toNat * 41 ^ a.length + rk a := by
 have := rk_fold a (0 * 41 + x.toNat)
 rw [Nat.zero_mul, Nat.zero_add] at this
 show a.foldl (fun n x => n * 41 + x.toNat) (0 * 41 + x.toNat) = _
 rw [Nat.zero_mul, Nat.zero_add]
 exact this
theorem rk_snoc (a : List Int) (x : Int) : rk (a ++ [x]) = rk a * 41 + x.toNat := by
 unfold rk
 rw [List.foldl_append]
 rfl
theorem Dg.tail {x : Int} {a : List Int} (h : Dg (x :: a)) : Dg a := fun y hy => h y (by simp [hy])
theorem Dg.snoc {x : Int} {a : List Int} (h : Dg a) (h1 : 1 <= x) (h2 : x <= 40) : Dg (a ++ [x]) := fun y hy => by
 rcases List.mem_append.1 hy with hy | hy
 ·exact h y hy
 ·rw [List.mem_singleton.1 hy]; exact ⟨h1, h2⟩
theorem rk_lt {a : List Int} (h : Dg a) : rk a < 41 ^ a.length := by
 induction a with
 | nil => simp [rk]
 | cons x r ih =>
  have h1 := h x (by simp)
  have h2 := ih h.tail
  rw [rk_cons, List.length_cons, Nat.pow_succ]
  have h3 : x.toNat * 41 ^ r.length <= 40 * 41 ^ r.length := Nat.mul_le_mul_right _ (by omega)
  omega
theorem rk_ge {a : List Int} (h : Dg a) (hn : a ≠ []) : 41 ^ (a.length - 1) <= rk a := by
 cases a with
 | nil => exact absurd rfl hn
 | cons x r =>
  have h1 := h x (by simp)
  rw [rk_cons, List.length_cons, Nat.add_sub_cancel]
  have h3 : 1 * 41 ^ r.length <= x.toNat * 41 ^ r.length := Nat.mul_le_mul_right _ (by omega)
  omega
theorem rk_short {a b : List Int} (ha : Dg a) (hb : Dg b) (h : a.length < b.length) : rk a < rk b := by
 have h1 := rk_lt ha
 have h2 := rk_ge hb (by intro e; rw [e] at h; simp at h)
 have h3 : 41 ^ a.length <= 41 ^ (b.length - 1) := Nat.pow_le_pow_right (by decide) (by omega)
 omega
theorem rk_inj : ∀ {a b : List Int}, Dg a -> Dg b -> rk a = rk b -> a = b := by
 intro a
 induction a with
 | nil =>
  intro b _ hb h
  cases b with
  | nil => rfl
  | cons y s =>
   have := rk_short (a := []) (b := y :: s) (fun x hx => by cases hx) hb (by simp)
   omega
 | cons x r ih =>
  intro b ha hb h
  cases b with
  | nil =>
   have := rk_short (a := []) (b := x :: r) (fun x hx => by cases hx) ha (by simp)
   omega
  | cons y s =>
   have hl : r.length = s.length := by
    rcases Nat.lt_trichotomy r.length s.length with hl | hl | hl
    ·have := rk_short ha hb (by simpa using hl); omega
    ·exact hl
    ·have := rk_short hb ha (by simpa using hl); omega
   rw [rk_cons, rk_cons, hl] at h
   have h1 := rk_lt ha.tail
   have h2 := rk_lt hb.tail
   rw [hl] at h1
   have hx := ha x (by simp)
   have hy := hb y (by simp)
   have hxy : x.toNat = y.toNat := by
    rcases Nat.lt_trichotomy x.toNat y.toNat with hq | hq | hq
    ·have h3 : (x.toNat + 1) * 41 ^ s.length <= y.toNat * 41 ^ s.length := Nat.mul_le_mul_right _ (by omega)
     rw [Nat.add_mul, Nat.one_mul] at h3
     omega
    ·exact hq
    ·have h3 : (y.toNat + 1) * 41 ^ s.length <= x.toNat * 41 ^ s.length := Nat.mul_le_mul_right _ (by omega)
     rw [Nat.add_mul, Nat.one_mul] at h3
     omega
   rw [hxy] at h
   have hrs : rk r = rk s := by omega
   rw [show x = y by omega, ih ha.tail hb.tail hrs]
def lexL : List Int -> List Int -> Bool
 | x :: a, y :: b => if x = y then lexL a b else decide (x < y)
 | _, _ => false
def wLess (a b : List Int) : Bool := if a.length = b.length then lexL a b else decide (a.length < b.length)
theorem lexL_at {a b : List Int} {k : Nat} {x y : Int} (hx : a[k]? = some x) (hy : b[k]? = some y) : lexL (a.drop k) (b.drop k) = if x = y then lexL (a.drop (k + 1)) (b.drop (k + 1)) else decide (x < y) := by
 obtain ⟨h1, rfl⟩ := List.getElem?_eq_some_iff.1 hx
 obtain ⟨h2, rfl⟩ := List.getElem?_eq_some_iff.1 hy
 rw [List.drop_eq_getElem_cons h1, List.drop_eq_getElem_cons h2]
 rfl
theorem lexL_rk : ∀ {a b : List Int}, Dg a -> Dg b -> a.length = b.length -> lexL a b = decide (rk a < rk b)
 | [], [], _, _, _ => by simp [lexL]
 | [], y :: b, _, _, h => by simp at h
 | x :: a, [], _, _, h => by simp at h
 | x :: a, y :: b, ha, hb, h => by
  have hl : a.length = b.length := by simpa using h
  have h1 := rk_lt ha.tail
  have h2 := rk_lt hb.tail
  have hx := ha x (by simp)
  have hy := hb y (by simp)
  unfold lexL
  rw [rk_cons, rk_cons, hl]
  rw [hl] at h1
  by_cases e : x = y
  ·subst e
   rw [if_pos rfl, lexL_rk ha.tail hb.tail hl, decide_eq_decide]
   omega
  ·rw [if_neg e, decide_eq_decide]
   constructor
   ·intro hlt
    have h3 : (x.toNat + 1) * 41 ^ b.length <= y.toNat * 41 ^ b.length := Nat.mul_le_mul_right _ (by omega)
    rw [Nat.add_mul, Nat.one_mul] at h3
    omega
   ·intro hlt
    refine Classical.byContradiction fun hc => ?_
    have h3 : (y.toNat + 1) * 41 ^ b.length <= x.toNat * 41 ^ b.length := Nat.mul_le_mul_right _ (by omega)
    rw [Nat.add_mul, Nat.one_mul] at h3
    omega
theorem wLess_rk {a b : List Int} (ha : Dg a) (hb : Dg b) : wLess a b = decide (rk a < rk b) := by
 unfold wLess
 by_cases h : a.length = b.length
 ·rw [if_pos h, lexL_rk ha hb h]
 ·rw [if_neg h, decide_eq_decide]
  constructor
  ·exact rk_short ha hb
  ·intro hlt
   refine Classical.byContradiction fun hc => ?_
   have := rk_short hb ha (by omega)
   omega
def Way (roots : List Int) (refs : Int -> List Int) (p : List Int) (h : Int) : Prop :=
 ∀ Q : List Int -> Int -> Prop, (∀ r, r ∈ roots -> Q [r] r) -> (∀ q g x, Q q g -> x ∈ refs g -> Q (q ++ [x]) x) -> Q p h
theorem Way.root {roots : List Int} {refs : Int -> List Int} {r : Int} (h : r ∈ roots) : Way roots refs [r] r := fun Q h1 h2 => h1 r h
theorem Way.step {roots : List Int} {refs : Int -> List Int} {q : List Int} {g x : Int} (w : Way roots refs q g) (h : x ∈ refs g) : Way roots refs (q ++ [x]) x := fun Q h1 h2 => h2 q g x (w Q h1 h2) h
theorem Way.ind {roots : List Int} {refs : Int -> List Int} (P : List Int -> Int -> Prop) (hr : ∀ r, r ∈ roots -> P [r] r) (hs : ∀ q g x, Way roots refs q g -> x ∈ refs g -> P q g -> P (q ++ [x]) x) {p : List Int} {h : Int} (w : Way roots refs p h) : P p h :=
 (w (fun p h => Way roots refs p h /\ P p h) (fun r hm => ⟨.root hm, hr r hm⟩) (fun q g x hq hx => ⟨hq.1.step hx, hs q g x hq.1 hx hq.2⟩)).2
theorem Way.parts {roots : List Int} {refs : Int -> List Int} {p : List Int} {h : Int} (w : Way roots refs p h) : h ∈ roots \/ ∃ q g, Way roots refs q g /\ h ∈ refs g :=
 w.ind (fun p h => h ∈ roots \/ ∃ q g, Way roots refs q g /\ h ∈ refs g) (fun r hr => .inl hr) (fun q g x wq hx _ => .inr ⟨q, g, wq, hx⟩)
section
variable {roots : List Int} {refs : Int -> List Int}
theorem Way.dg (hr : Dg roots) (hf : ∀ g, Dg (refs g)) {p : List Int} {h : Int} (w : Way roots refs p h) : Dg p /\ 1 <= h /\ h <= 40 /\ p ≠ [] := by
 refine w.ind (fun p h => Dg p /\ 1 <= h /\ h <= 40 /\ p ≠ []) (fun r hm => ?_) (fun q g x _ hm ih => ?_)
 ·have := hr _ hm
  exact ⟨fun y hy => by rw [List.mem_singleton.1 hy]; exact this, this.1, this.2, by simp⟩
 ·have := hf _ _ hm
  exact ⟨ih.1.snoc this.1 this.2, this.1, this.2, by simp⟩
structure Still (roots : List Int) (refs : Int -> List Int) (W : Int -> List Int) : Prop where
 base : ∀ r ∈ roots, W r ≠ [] /\ rk (W r) <= rk [r]
 next : ∀ h, W h ≠ [] -> ∀ x ∈ refs h, W x ≠ [] /\ rk (W x) <= rk (W h ++ [x])
 way : ∀ h, W h ≠ [] -> Way roots refs (W h) h
theorem Still.least {W : Int -> List Int} (s : Still roots refs W) {p : List Int} {h : Int} (w : Way roots refs p h) : W h ≠ [] /\ rk (W h) <= rk p := by
 refine w.ind (fun p h => W h ≠ [] /\ rk (W h) <= rk p) (fun r hm => s.base _ hm) (fun q g x _ hm ih => ?_)
 obtain ⟨h1, h2⟩ := s.next _ ih.1 _ hm
 refine ⟨h1, Nat.le_trans h2 ?_⟩
 rw [rk_snoc, rk_snoc]
 have := ih.2
 omega
theorem Still.one (hr : Dg roots) (hf : ∀ g, Dg (refs g)) {V W : Int -> List Int} (s : Still roots refs V) (t : Still roots refs W) (h : Int) : V h = W h := by
 by_cases h1 : V h = []
 ·by_cases h2 : W h = []
  ·rw [h1, h2]
  ·exact absurd h1 (s.least (t.way h h2)).1
 ·by_cases h2 : W h = []
  ·exact absurd h2 (t.least (s.way h h1)).1
  ·have a := s.least (t.way h h2)
   have b := t.least (s.way h h1)
   exact rk_inj ((s.way h h1).dg hr hf).1 ((t.way h h2).dg hr hf).1 (by omega)
end
def gW (W : List (List Int)) (h : Int) : List Int := W.getD h.toNat []
theorem sum_set (f : List Int -> Nat) : ∀ (W : List (List Int)) (i : Nat) (n : List Int), i < W.length -> ((W.set i n).map f).sum + f (W.getD i []) = (W.map f).sum + f n
 | [], i, n, h => absurd h (Nat.not_lt_zero i)
 | p :: r, 0, n, h => by simp [List.getD]; omega
 | p :: r, i + 1, n, h => by
  have := sum_set f r i n (by simpa using h)
  simp only [List.set_cons_succ, List.map_cons, List.sum_cons, List.getD_cons_succ] at *
  omega
theorem gW_set {W : List (List Int)} {x y : Int} {n : List Int} (hx : 0 <= x) (hl : x.toNat < W.length) (hy : 0 <= y) : gW (W.set x.toNat n) y = if y = x then n else gW W y := by
 unfold gW
 by_cases e : y = x
 ·subst e
  rw [if_pos rfl]
  simp [List.getD, hl]
 ·rw [if_neg e]
  have : x.toNat ≠ y.toNat := by omega
  simp [List.getD, this]
def shB (W : List (List Int)) (h x : Int) : Bool := decide (gW W x = []) || decide (rk (gW W h ++ [x]) < rk (gW W x))
theorem shB_no {W : List (List Int)} {h x : Int} : shB W h x = false ↔ gW W x ≠ [] /\ rk (gW W x) <= rk (gW W h ++ [x]) := by
 unfold shB
 rw [Bool.or_eq_false_iff, decide_eq_false_iff_not, decide_eq_false_iff_not]
 constructor
 ·rintro ⟨h1, h2⟩; exact ⟨h1, by omega⟩
 ·rintro ⟨h1, h2⟩; exact ⟨h1, by omega⟩
def st1 (s : List (List Int) × Bool) (h x : Int) : List (List Int) × Bool := if shB s.1 h x = true then (s.1.set x.toNat (gW s.1 h ++ [x]), true) else s
def stR (s : List (List Int) × Bool) (h : Int) (rs : List Int) : List (List Int) × Bool := rs.foldl (fun s x => st1 s h x) s
def stH (refs : Int -> List Int) (s : List (List Int) × Bool) (h : Int) : List (List Int) × Bool := if gW s.1 h = [] then s else stR s h (refs h)
def stP (refs : Int -> List Int) (W : List (List Int)) : Nat -> List (List Int) × Bool
 | 0 => (W, false)
 | k + 1 => stH refs (stP refs W k) ((k : Int) + 1)
def big : Nat := 41 ^ 43
def fMu (p : List Int) : Nat := if p = [] then big else rk p
def fCn (p : List Int) : Nat := if p = [] then 0 else 1
def muW (W : List (List Int)) : Nat := (W.map fMu).sum
def cnW (W : List (List Int)) : Nat := (W.map fCn).sum
theorem cnW_le (W : List (List Int)) : cnW W <= W.length := by
 unfold cnW
 induction W with
 | nil => simp
 | cons p r ih =>
  simp only [List.map_cons, List.sum_cons, List.length_cons]
  have : fCn p <= 1 := by unfold fCn; split <;> omega
  omega
structure WInv (roots : List Int) (refs : Int -> List Int) (W : List (List Int)) : Prop where
 len : W.length = 41
 way : ∀ h, 0 <= h -> gW W h ≠ [] -> Way roots refs (gW W h) h
 short : ∀ h, 0 <= h -> (gW W h).length <= cnW W
 base : ∀ r ∈ roots, gW W r ≠ [] /\ rk (gW W r) <= rk [r]
section
variable {roots : List Int} {refs : Int -> List Int}
theorem WInv.set (hr : Dg roots) (hf : ∀ g, Dg (refs g)) {W : List (List Int)} (I : WInv roots refs W) {h x : Int} (hh : 0 <= h) (hw : gW W h ≠ []) (hx : x ∈ refs h) (hs : shB W h x = true) :
  WInv roots refs (W.set x.toNat (gW W h ++ [x])) /\ muW (W.set x.toNat (gW W h ++ [x])) < muW W := by
 have hxb := hf h x hx
 have hl : x.toNat < W.length := by rw [I.len]; omega
 have hwy := Way.step (I.way h hh hw) hx
 have hdg := hwy.dg hr hf
 have hcn := cnW_le W
 have hsh := I.short h hh
 have hlen := I.len
 have e1 := sum_set fMu W x.toNat (gW W h ++ [x]) hl
 have e2 := sum_set fCn W x.toNat (gW W h ++ [x]) hl
 have hn : gW W h ++ [x] ≠ [] := by simp
 have f1 : fMu (gW W h ++ [x]) = rk (gW W h ++ [x]) := by unfold fMu; rw [if_neg hn]
 have f2 : fCn (gW W h ++ [x]) = 1 := by unfold fCn; rw [if_neg hn]
 have hrk := rk_lt hdg.1
 have hbig : rk (gW W h ++ [x]) < big := by
  refine Nat.lt_of_lt_of_le hrk ?_
  unfold big
  refine Nat.pow_le_pow_right (by decide) ?_
  rw [List.length_append]
  simp
  omega
 have hg : W.getD x.toNat [] = gW W x := rfl
 rw [hg] at e1 e2
 have hmu : muW (W.set x.toNat (gW W h ++ [x])) < muW W /\ rk (gW W h ++ [x]) < fMu (gW W x) := by
  have : rk (gW W h ++ [x]) < fMu (gW W x) := by
   unfold fMu
   by_cases h0 : gW W x = []
   ·rw [if_pos h0]; exact hbig
   ·rw [if_neg h0]
    refine Classical.byContradiction fun hc => ?_
    rw [shB_no.2 ⟨h0, by omega⟩] at hs
    cases hs
  refine ⟨?_, this⟩
  unfold muW
  rw [f1] at e1
  omega
 have hcn2 : cnW (W.set x.toNat (gW W h ++ [x])) + fCn (gW W x) = cnW W + 1 := by unfold cnW; rw [f2] at e2; exact e2
 have hfc : fCn (gW W x) <= 1 := by unfold fCn; split <;> omega
 refine ⟨⟨by rw [List.length_set]; exact hlen, fun y hy hne => ?_, fun y hy => ?_, fun r hm => ?_⟩, hmu.1⟩
 ·rw [gW_set (by omega) hl hy] at hne ⊢
  by_cases e : y = x
  ·subst e; rw [if_pos rfl]; exact hwy
  ·rw [if_neg e] at hne ⊢; exact I.way y hy hne
 ·rw [gW_set (by omega) hl hy]
  by_cases e : y = x
  ·subst e
   rw [if_pos rfl]
   by_cases h0 : gW W y = []
   ·have : fCn (gW W y) = 0 := by unfold fCn; rw [if_pos h0]
    rw [List.length_append]
    simp
    omega
   ·have h1 : fCn (gW W y) = 1 := by unfold fCn; rw [if_neg h0]
    have h2 : rk (gW W h ++ [y]) < rk (gW W y) := by have := hmu.2; unfold fMu at this; rw [if_neg h0] at this; exact this
    have h3 := I.short y hy
    have h4 : (gW W h ++ [y]).length <= (gW W y).length := Classical.byContradiction fun hc => by
     have := rk_short ((I.way y hy h0).dg hr hf).1 hdg.1 (by omega)
     omega
    omega
  ·rw [if_neg e]
   have := I.short y hy
   omega
 ·have hrb := hr r hm
  rw [gW_set (by omega) hl (by omega)]
  by_cases e : r = x
  ·subst e
   rw [if_pos rfl]
   refine ⟨hn, ?_⟩
   have hb := I.base r hm
   have := hmu.2
   unfold fMu at this
   rw [if_neg hb.1] at this
   omega
  ·rw [if_neg e]; exact I.base r hm
end
structure Prog (roots : List Int) (refs : Int -> List Int) (s s' : List (List Int) × Bool) : Prop where
 inv : WInv roots refs s'.1
 flag : s'.2 = false -> s' = s
 mu : muW s'.1 <= muW s.1
 less : s.2 = false -> s'.2 = true -> muW s'.1 < muW s.1
 keep : ∀ y, 0 <= y -> gW s.1 y ≠ [] -> gW s'.1 y ≠ []
theorem Prog.refl {roots : List Int} {refs : Int -> List Int} {s : List (List Int) × Bool} (I : WInv roots refs s.1) : Prog roots refs s s :=
 ⟨I, fun _ => rfl, Nat.le_refl _, fun h1 h2 => (by rw [h1] at h2; cases h2), fun _ _ h => h⟩
theorem Prog.trans {roots : List Int} {refs : Int -> List Int} {a b c : List (List Int) × Bool} (p : Prog roots refs a b) (q : Prog roots refs b c) : Prog roots refs a c := by
 refine ⟨q.inv, fun h => ?_, Nat.le_trans q.mu p.mu, fun h1 h2 => ?_, fun y hy h => q.keep y hy (p.keep y hy h)⟩
 ·have e := q.flag h
  rw [e] at h ⊢
  exact p.flag h
 ·have hp := p.mu
  have hq := q.mu
  cases hb : b.2 with
  | true => have := p.less h1 hb; omega
  | false => have := q.less hb h2; omega
section
variable {roots : List Int} {refs : Int -> List Int}
theorem st1_prog (hr : Dg roots) (hf : ∀ g, Dg (refs g)) {s : List (List Int) × Bool} (I : WInv roots refs s.1) {h x : Int} (hh : 0 <= h) (hw : gW s.1 h ≠ []) (hx : x ∈ refs h) : Prog roots refs s (st1 s h x) /\ ((st1 s h x).2 = false -> shB s.1 h x = false) := by
 unfold st1
 cases hs : shB s.1 h x with
 | true =>
  rw [if_pos rfl]
  obtain ⟨a, b⟩ := I.set hr hf hh hw hx hs
  have hxb := hf h x hx
  refine ⟨⟨a, fun h => (by cases h), Nat.le_of_lt b, fun _ _ => b, fun y hy hne => ?_⟩, fun h => (by cases h)⟩
  dsimp only
  rw [gW_set (by omega) (by rw [I.len]; omega) hy]
  split
  ·simp
  ·exact hne
 | false =>
  rw [if_neg (by simp)]
  exact ⟨Prog.refl I, fun _ => rfl⟩
theorem stR_prog (hr : Dg roots) (hf : ∀ g, Dg (refs g)) {h : Int} (hh : 0 <= h) : ∀ (rs : List Int) (s : List (List Int) × Bool), WInv roots refs s.1 -> gW s.1 h ≠ [] -> (∀ x ∈ rs, x ∈ refs h) -> Prog roots refs s (stR s h rs) /\ ((stR s h rs).2 = false -> ∀ x ∈ rs, shB s.1 h x = false)
 | [], s, I, hw, hm => ⟨Prog.refl I, fun _ x hx => (by cases hx)⟩
 | x :: rs, s, I, hw, hm => by
  obtain ⟨p, q⟩ := st1_prog hr hf I hh hw (hm x (by simp))
  obtain ⟨p2, q2⟩ := stR_prog hr hf hh rs (st1 s h x) p.inv (p.keep h hh hw) (fun y hy => hm y (by simp [hy]))
  have e : stR s h (x :: rs) = stR (st1 s h x) h rs := rfl
  rw [e]
  refine ⟨p.trans p2, fun h0 y hy => ?_⟩
  have e1 := p2.flag h0
  have h1 : (st1 s h x).2 = false := by rw [<- e1]; exact h0
  have e2 := p.flag h1
  rcases List.mem_cons.1 hy with rfl | hy
  ·exact q h1
  ·have := q2 h0 y hy
   rw [e2] at this
   exact this
theorem stP_prog (hr : Dg roots) (hf : ∀ g, Dg (refs g)) {W : List (List Int)} (I : WInv roots refs W) : ∀ k : Nat, k <= 40 -> Prog roots refs (W, false) (stP refs W k) /\ ((stP refs W k).2 = false -> ∀ j : Nat, j < k -> gW W ((j : Int) + 1) ≠ [] -> ∀ x ∈ refs ((j : Int) + 1), shB W ((j : Int) + 1) x = false)
 | 0, _ => ⟨Prog.refl I, fun _ j hj => absurd hj (Nat.not_lt_zero j)⟩
 | k + 1, hk => by
  obtain ⟨p, q⟩ := stP_prog hr hf I k (by omega)
  have e : stP refs W (k + 1) = stH refs (stP refs W k) ((k : Int) + 1) := rfl
  rw [e]
  unfold stH
  by_cases h0 : gW (stP refs W k).1 ((k : Int) + 1) = []
  ·rw [if_pos h0]
   refine ⟨p, fun hz j hj hne x hx => ?_⟩
   by_cases ej : j = k
   ·subst ej
    exact absurd h0 (p.keep _ (by omega) hne)
   ·exact q hz j (by omega) hne x hx
  ·rw [if_neg h0]
   obtain ⟨p2, q2⟩ := stR_prog hr hf (h := (k : Int) + 1) (by omega) (refs ((k : Int) + 1)) (stP refs W k) p.inv h0 (fun x hx => hx)
   refine ⟨p.trans p2, fun hz j hj hne x hx => ?_⟩
   have e1 := p2.flag hz
   have h1 : (stP refs W k).2 = false := by rw [<- e1]; exact hz
   have e2 := p.flag h1
   by_cases ej : j = k
   ·subst ej
    have := q2 hz x hx
    rw [e2] at this
    exact this
   ·exact q h1 j (by omega) hne x hx
theorem WInv.range (hr : Dg roots) (hf : ∀ g, Dg (refs g)) {W : List (List Int)} (I : WInv roots refs W) {h : Int} (hn : gW W h ≠ []) : 1 <= h /\ h <= 40 := by
 by_cases h0 : 0 <= h
 ·have := (I.way h h0 hn).dg hr hf
  exact ⟨this.2.1, this.2.2.1⟩
 ·have e : gW W h = gW W 0 := by unfold gW; rw [show h.toNat = (0 : Int).toNat by omega]
  rw [e] at hn
  have := (I.way 0 (Int.le_refl _) hn).dg hr hf
  omega
theorem still_of (hr : Dg roots) (hf : ∀ g, Dg (refs g)) {W : List (List Int)} (I : WInv roots refs W) (hz : (stP refs W 40).2 = false) : Still roots refs (gW W) := by
 obtain ⟨_, q⟩ := stP_prog hr hf I 40 (Nat.le_refl _)
 refine ⟨I.base, fun h hn x hx => ?_, fun h hn => I.way h (by have := I.range hr hf hn; omega) hn⟩
 have hb := I.range hr hf hn
 have := q hz (h - 1).toNat (by omega)
 rw [show (((h - 1).toNat : Nat) : Int) + 1 = h by omega] at this
 exact shB_no.1 (this hn x hx)
end
def wi (rs : List Int) : List (List Int) := rs.foldl (fun W r => W.set r.toNat [r]) (List.replicate 41 [])
theorem wi_snoc (rs : List Int) (r : Int) : wi (rs ++ [r]) = (wi rs).set r.toNat [r] := by
 unfold wi
 rw [List.foldl_append]
 rfl
theorem wi_len (rs : List Int) : (wi rs).length = 41 := by
 unfold wi
 have : ∀ (rs : List Int) (W : List (List Int)), (rs.foldl (fun W r => W.set r.toNat [r]) W).length = W.length := by
  intro rs
  induction rs with
  | nil => intro W; rfl
  | cons r t ih => intro W; rw [List.foldl_cons, ih, List.length_set]
 rw [this, List.length_replicate]
theorem wi_get {rs : List Int} (hr : Dg rs) {h : Int} (hh : 0 <= h) : gW (wi rs) h = if h ∈ rs then [h] else [] := by
 have : ∀ (rs : List Int) (W : List (List Int)), Dg rs -> W.length = 41 -> gW (rs.foldl (fun W r => W.set r.toNat [r]) W) h = if h ∈ rs then [h] else gW W h := by
  intro rs
  induction rs with
  | nil => intro W _ _; simp
  | cons r t ih =>
   intro W hd hl
   have hrb := hd r (by simp)
   rw [List.foldl_cons, ih _ hd.tail (by rw [List.length_set]; exact hl), gW_set (by omega) (by omega) hh]
   by_cases h1 : h ∈ t
   ·rw [if_pos h1, if_pos (by simp [h1])]
   ·rw [if_neg h1]
    by_cases h2 : h = r
    ·subst h2
     rw [if_pos rfl, if_pos (by simp)]
    ·rw [if_neg h2, if_neg (by simp [h1, h2])]
 have e := this rs (List.replicate 41 []) hr (by simp)
 have e0 : gW (List.replicate 41 []) h = [] := by
  unfold gW
  rw [List.getD, List.getElem?_replicate]
  split <;> rfl
 rw [e0] at e
 exact e
theorem cnW_pos : ∀ {W : List (List Int)} {i : Nat}, W.getD i [] ≠ [] -> 1 <= cnW W
 | [], i, h => by simp [List.getD] at h
 | p :: r, 0, h => by
  have hp : p ≠ [] := by simpa [List.getD] using h
  unfold cnW
  simp only [List.map_cons, List.sum_cons]
  have : fCn p = 1 := by unfold fCn; rw [if_neg hp]
  omega
 | p :: r, i + 1, h => by
  have := cnW_pos (W := r) (i := i) (by simpa [List.getD] using h)
  unfold cnW at *
  simp only [List.map_cons, List.sum_cons]
  omega
theorem wi_inv {roots : List Int} {refs : Int -> List Int} (hr : Dg roots) : WInv roots refs (wi roots) := by
 refine ⟨wi_len roots, fun h hh hn => ?_, fun h hh => ?_, fun r hm => ?_⟩
 ·rw [wi_get hr hh] at hn ⊢
  by_cases hm : h ∈ roots
  ·rw [if_pos hm]; exact Way.root hm
  ·rw [if_neg hm] at hn; exact absurd rfl hn
 ·by_cases hn : gW (wi roots) h = []
  ·rw [hn]; simp
  ·have h1 := cnW_pos (W := wi roots) (i := h.toNat) hn
   rw [wi_get hr hh]
   split
   ·simpa using h1
   ·simp
 ·have hb := hr r hm
  rw [wi_get hr (by omega), if_pos hm]
  exact ⟨by simp, Nat.le_refl _⟩
def hd (p : List Int) : Int := p.getLastD 0
def ld (p : List Int) : Int := hd p.dropLast
theorem hd_snoc (q : List Int) (x : Int) : hd (q ++ [x]) = x := by unfold hd; simp
theorem ld_snoc (q : List Int) (x : Int) : ld (q ++ [x]) = hd q := by unfold ld; simp
def metB (P : List (List Int)) (x : Int) : Bool := P.any (fun p => hd p == x)
theorem metB_iff {P : List (List Int)} {x : Int} : metB P x = true ↔ ∃ p ∈ P, hd p = x := by
 unfold metB
 rw [List.any_eq_true]
 constructor
 ·rintro ⟨p, hp, e⟩; exact ⟨p, hp, beq_iff_eq.1 e⟩
 ·rintro ⟨p, hp, e⟩; exact ⟨p, hp, beq_iff_eq.2 e⟩
theorem metB_no {P : List (List Int)} {x : Int} (h : metB P x = false) : ∀ p ∈ P, hd p ≠ x := fun p hp e => by
 rw [metB_iff.2 ⟨p, hp, e⟩] at h
 cases h
theorem metB_snoc (P : List (List Int)) (q : List Int) (x : Int) : metB (P ++ [q]) x = (metB P x || (hd q == x)) := by
 unfold metB
 rw [List.any_append]
 simp
def mtS (q : List Int) (P : List (List Int)) (x : Int) : List (List Int) := if metB P x = true then P else P ++ [q ++ [x]]
def mtL (q : List Int) (P : List (List Int)) (l : List Int) : List (List Int) := l.foldl (mtS q) P
theorem mtL_snoc (q : List Int) (P : List (List Int)) (l : List Int) (x : Int) : mtL q P (l ++ [x]) = mtS q (mtL q P l) x := by
 unfold mtL
 rw [List.foldl_append]
 rfl
theorem mtS_app (q : List Int) (P : List (List Int)) (x : Int) : ∃ A, mtS q P x = P ++ A := by
 unfold mtS
 split
 ·exact ⟨[], by simp⟩
 ·exact ⟨_, rfl⟩
theorem mtL_app (q : List Int) : ∀ (l : List Int) (P : List (List Int)), ∃ A, mtL q P l = P ++ A
 | [], P => ⟨[], by simp [mtL]⟩
 | x :: l, P => by
  obtain ⟨A, hA⟩ := mtS_app q P x
  obtain ⟨B, hB⟩ := mtL_app q l (mtS q P x)
  refine ⟨A ++ B, ?_⟩
  show mtL q (mtS q P x) l = _
  rw [hB, hA, List.append_assoc]
def nwH (q : List Int) (P : List (List Int)) (l : List Int) : List Int := ((mtL q P l).drop P.length).map hd
theorem nwH_met (q : List Int) (P : List (List Int)) (l : List Int) : P.map hd ++ nwH q P l = (mtL q P l).map hd := by
 unfold nwH
 obtain ⟨A, hA⟩ := mtL_app q l P
 rw [hA, List.drop_left, List.map_append]
theorem nwH_snoc (q : List Int) (P : List (List Int)) (l : List Int) (x : Int) : nwH q P (l ++ [x]) = if metB (mtL q P l) x = true then nwH q P l else nwH q P l ++ [x] := by
 unfold nwH
 rw [mtL_snoc]
 unfold mtS
 obtain ⟨A, hA⟩ := mtL_app q l P
 split
 ·rfl
 ·rw [hA, List.append_assoc, List.drop_left, List.drop_left, List.map_append]
  simp [hd_snoc]
theorem nwH_len (q : List Int) (P : List (List Int)) (l : List Int) : (nwH q P l).length + P.length = (mtL q P l).length := by
 have := congrArg List.length (nwH_met q P l)
 rw [List.length_append, List.length_map, List.length_map] at this
 omega
def srt (l : List Int) : List Int := l.mergeSort (fun x y => decide (x <= y))
theorem mem_srt {l : List Int} {x : Int} : x ∈ srt l ↔ x ∈ l := by unfold srt; exact List.mem_mergeSort
theorem srt_len (l : List Int) : (srt l).length = l.length := by unfold srt; rw [List.length_mergeSort]
theorem srt_rise (l : List Int) : (srt l).Pairwise (· <= ·) := by
 have := List.pairwise_mergeSort (le := fun x y : Int => decide (x <= y)) (fun a b c h1 h2 => by simp at *; omega) (fun a b => by simp; omega) l
 unfold srt
 exact this.imp (fun h => by simpa using h)
def bfP (roots : List Int) (refs : Int -> List Int) : Nat -> List (List Int)
 | 0 => mtL [] [] (srt roots)
 | i + 1 => match (bfP roots refs i)[i]? with
  | some q => mtL q (bfP roots refs i) (srt (refs (hd q)))
  | none => bfP roots refs i
theorem bfP_some {roots : List Int} {refs : Int -> List Int} {i : Nat} {q : List Int} (h : (bfP roots refs i)[i]? = some q) : bfP roots refs (i + 1) = mtL q (bfP roots refs i) (srt (refs (hd q))) := by
 show (match (bfP roots refs i)[i]? with | some q => _ | none => _) = _
 rw [h]
theorem bfP_none {roots : List Int} {refs : Int -> List Int} {i : Nat} (h : (bfP roots refs i).length <= i) : bfP roots refs (i + 1) = bfP roots refs i := by
 show (match (bfP roots refs i)[i]? with | some q => _ | none => _) = _
 rw [List.getElem?_eq_none h]
theorem bfP_late {roots : List Int} {refs : Int -> List Int} {i : Nat} (h : (bfP roots refs i).length <= i) : ∀ j, i <= j -> bfP roots refs j = bfP roots refs i
 | 0, hj => by rw [show i = 0 by omega]
 | j + 1, hj => by
  by_cases e : i = j + 1
  ·rw [e]
  ·have := bfP_late h j (by omega)
   rw [bfP_none (by rw [this]; omega), this]
structure Bf (roots : List Int) (refs : Int -> List Int) (P : List (List Int)) (i : Nat) : Prop where
 way : ∀ p ∈ P, Way roots refs p (hd p)
 rise : P.Pairwise (fun a b => rk a < rk b)
 one : (P.map hd).Nodup
 orig : ∀ p ∈ P, p.dropLast = [] \/ ∃ j, j < i /\ P[j]? = some p.dropLast
 root : ∀ r ∈ roots, ∃ p ∈ P, hd p = r /\ rk p <= rk [r]
 next : ∀ j, j < i -> ∀ q, P[j]? = some q -> ∀ x ∈ refs (hd q), ∃ p ∈ P, hd p = x /\ rk p <= rk (q ++ [x])
theorem mtL_spec (q : List Int) : ∀ (l : List Int) (P : List (List Int)), Dg l -> l.Pairwise (· <= ·) -> P.Pairwise (fun a b => rk a < rk b) -> (P.map hd).Nodup ->
  (∀ p ∈ P, rk p <= rk q * 41 \/ ∃ y, p = q ++ [y] /\ 1 <= y /\ ∀ x ∈ l, y <= x) ->
  (mtL q P l).Pairwise (fun a b => rk a < rk b) /\ ((mtL q P l).map hd).Nodup /\ (∀ p ∈ mtL q P l, p ∈ P \/ ∃ x ∈ l, p = q ++ [x]) /\ (∀ x ∈ l, ∃ p ∈ mtL q P l, hd p = x /\ rk p <= rk (q ++ [x]))
 | [], P, _, _, h1, h2, _ => ⟨h1, h2, fun p hp => .inl hp, fun x hx => by cases hx⟩
 | x :: l, P, hd1, hs, h1, h2, h3 => by
  have hx := hd1 x (by simp)
  have hsx := List.pairwise_cons.1 hs
  have hrx : rk (q ++ [x]) = rk q * 41 + x.toNat := rk_snoc q x
  show (mtL q (mtS q P x) l).Pairwise _ /\ _
  have hle : ∀ p ∈ P, rk p <= rk (q ++ [x]) := fun p hp => by
   rcases h3 p hp with h | ⟨y, rfl, hy1, hy⟩
   ·omega
   ·have := hy x (by simp)
    rw [rk_snoc, rk_snoc]; omega
  cases hm : metB P x with
  | true =>
   have e : mtS q P x = P := by unfold mtS; rw [if_pos hm]
   have e2 : mtL q P (x :: l) = mtL q P l := by show mtL q (mtS q P x) l = _; rw [e]
   obtain ⟨a, b, c, d⟩ := mtL_spec q l P hd1.tail hsx.2 h1 h2 (fun p hp => by
    rcases h3 p hp with h | ⟨y, e, hy1, hy⟩
    ·exact .inl h
    ·exact .inr ⟨y, e, hy1, fun z hz => hy z (by simp [hz])⟩)
   rw [e, e2]
   refine ⟨a, b, fun p hp => ?_, fun z hz => ?_⟩
   ·rcases c p hp with h | ⟨z, hz, h⟩
    ·exact .inl h
    ·exact .inr ⟨z, by simp [hz], h⟩
   ·rcases List.mem_cons.1 hz with rfl | hz
    ·obtain ⟨p, hp, hpe⟩ := metB_iff.1 hm
     obtain ⟨A, hA⟩ := mtL_app q l P
     exact ⟨p, by rw [hA]; exact List.mem_append.2 (.inl hp), hpe, hle p hp⟩
    ·exact d z hz
  | false =>
   have e : mtS q P x = P ++ [q ++ [x]] := by unfold mtS; rw [hm]; rfl
   have e2 : mtL q P (x :: l) = mtL q (P ++ [q ++ [x]]) l := by show mtL q (mtS q P x) l = _; rw [e]
   have hno := metB_no hm
   have hlt : ∀ p ∈ P, rk p < rk (q ++ [x]) := fun p hp => by
    rcases h3 p hp with h | ⟨y, rfl, hy1, hy⟩
    ·omega
    ·have h4 := hy x (by simp)
     have h5 := hno _ hp
     rw [hd_snoc] at h5
     rw [rk_snoc, rk_snoc]; omega
   obtain ⟨a, b, c, d⟩ := mtL_spec q l (P ++ [q ++ [x]]) hd1.tail hsx.2
    (List.pairwise_append.2 ⟨h1, by simp, fun p hp r hr => by rw [List.mem_singleton.1 hr]; exact hlt p hp⟩)
    (by
     rw [List.map_append, List.nodup_append]
     refine ⟨h2, by simp, fun u hu v hv => ?_⟩
     obtain ⟨p, hp, rfl⟩ := List.mem_map.1 hu
     simp [hd_snoc] at hv
     rw [hv]
     exact hno p hp)
    (fun p hp => by
     rcases List.mem_append.1 hp with hp | hp
     ·rcases h3 p hp with h | ⟨y, e, hy1, hy⟩
      ·exact .inl h
      ·exact .inr ⟨y, e, hy1, fun z hz => hy z (by simp [hz])⟩
     ·rw [List.mem_singleton.1 hp]
      exact .inr ⟨x, rfl, hx.1, fun z hz => hsx.1 z hz⟩)
   rw [e, e2]
   refine ⟨a, b, fun p hp => ?_, fun z hz => ?_⟩
   ·rcases c p hp with h | ⟨z, hz, h⟩
    ·rcases List.mem_append.1 h with h | h
     ·exact .inl h
     ·rw [List.mem_singleton.1 h]; exact .inr ⟨x, by simp, rfl⟩
    ·exact .inr ⟨z, by simp [hz], h⟩
   ·rcases List.mem_cons.1 hz with rfl | hz
    ·obtain ⟨A, hA⟩ := mtL_app q l (P ++ [q ++ [z]])
     exact ⟨q ++ [z], by rw [hA]; simp, hd_snoc q z, Nat.le_refl _⟩
    ·exact d z hz
theorem mem_hands {k : Nat} {h : Int} : h ∈ (List.range k).map (fun j : Nat => (j : Int) + 1) ↔ 1 <= h /\ h <= k := by
 rw [List.mem_map]
 constructor
 ·rintro ⟨j, hj, rfl⟩
  have := List.mem_range.1 hj
  omega
 ·rintro ⟨h1, h2⟩
  exact ⟨(h - 1).toNat, List.mem_range.2 (by omega), by omega⟩
section
variable {roots : List Int} {refs : Int -> List Int}
theorem bf_start (hr : Dg roots) : Bf roots refs (bfP roots refs 0) 0 := by
 obtain ⟨a, b, c, d⟩ := mtL_spec [] (srt roots) [] (fun x hx => hr x (mem_srt.1 hx)) (srt_rise roots) (by simp) (by simp) (fun p hp => by cases hp)
 refine ⟨fun p hp => ?_, a, b, fun p hp => ?_, fun r hm => ?_, fun j hj => absurd hj (Nat.not_lt_zero j)⟩
 ·rcases c p hp with h | ⟨x, hx, rfl⟩
  ·cases h
  ·rw [hd_snoc]; exact .root (mem_srt.1 hx)
 ·rcases c p hp with h | ⟨x, hx, rfl⟩
  ·cases h
  ·exact .inl rfl
 ·exact d r (mem_srt.2 hm)
theorem Bf.step (hr : Dg roots) (hf : ∀ g, Dg (refs g)) {P : List (List Int)} {i : Nat} (h : Bf roots refs P i) {q : List Int} (hq : P[i]? = some q) : Bf roots refs (mtL q P (srt (refs (hd q)))) (i + 1) := by
 have hqm := List.mem_of_getElem? hq
 have hqi := (List.getElem?_eq_some_iff.1 hq).1
 have hqw := h.way q hqm
 have hqd := hqw.dg hr hf
 have hq1 : 1 <= rk q := by
  have := rk_ge hqd.1 hqd.2.2.2
  have h2 : 0 < 41 ^ (q.length - 1) := Nat.pow_pos (by decide)
  omega
 have hbig : ∀ p ∈ P, rk p <= rk q * 41 := fun p hp => by
  have hpd := (h.way p hp).dg hr hf
  obtain ⟨p0, x, rfl⟩ : ∃ p0 x, p = p0 ++ [x] := ⟨p.dropLast, p.getLast hpd.2.2.2, (List.dropLast_concat_getLast hpd.2.2.2).symm⟩
  have hxb := hpd.1 x (by simp)
  rw [rk_snoc]
  rcases h.orig _ hp with e | ⟨j, hj, e⟩
  ·rw [List.dropLast_concat] at e
   subst e
   have : rk ([] : List Int) = 0 := rfl
   omega
  ·rw [List.dropLast_concat] at e
   have hlt : rk p0 < rk q := by
    obtain ⟨hj2, e2⟩ := List.getElem?_eq_some_iff.1 e
    obtain ⟨hi2, e3⟩ := List.getElem?_eq_some_iff.1 hq
    have := List.pairwise_iff_getElem.1 h.rise j i hj2 hi2 hj
    rw [e2, e3] at this
    exact this
   omega
 obtain ⟨a, b, c, d⟩ := mtL_spec q (srt (refs (hd q))) P (fun x hx => hf _ x (mem_srt.1 hx)) (srt_rise _) h.rise h.one (fun p hp => .inl (hbig p hp))
 obtain ⟨A, hA⟩ := mtL_app q (srt (refs (hd q))) P
 have hsub : ∀ p ∈ P, p ∈ mtL q P (srt (refs (hd q))) := fun p hp => by rw [hA]; exact List.mem_append.2 (.inl hp)
 have hat : ∀ j, j < P.length -> (mtL q P (srt (refs (hd q))))[j]? = P[j]? := fun j hj => by rw [hA, List.getElem?_append_left hj]
 refine ⟨fun p hp => ?_, a, b, fun p hp => ?_, fun r hm => ?_, fun j hj q' hq' x hx => ?_⟩
 ·rcases c p hp with hp | ⟨x, hx, rfl⟩
  ·exact h.way p hp
  ·rw [hd_snoc]; exact .step hqw (mem_srt.1 hx)
 ·rcases c p hp with hp | ⟨x, hx, rfl⟩
  ·rcases h.orig p hp with e | ⟨j, hj, e⟩
   ·exact .inl e
   ·exact .inr ⟨j, by omega, (hat j (List.getElem?_eq_some_iff.1 e).1).trans e⟩
  ·rw [List.dropLast_concat]
   exact .inr ⟨i, by omega, (hat i hqi).trans hq⟩
 ·obtain ⟨p, hp, h1, h2⟩ := h.root r hm
  exact ⟨p, hsub p hp, h1, h2⟩
 ·by_cases e : j = i
  ·subst e
   rw [hat j hqi, hq] at hq'
   obtain rfl := Option.some.inj hq'
   exact d x (mem_srt.2 hx)
  ·rw [hat j (by omega)] at hq'
   obtain ⟨p, hp, h1, h2⟩ := h.next j (by omega) q' hq' x hx
   exact ⟨p, hsub p hp, h1, h2⟩
theorem bf_at (hr : Dg roots) (hf : ∀ g, Dg (refs g)) : ∀ i, i <= (bfP roots refs i).length \/ (bfP roots refs i).length <= i -> Bf roots refs (bfP roots refs i) i := by
 intro i _
 induction i with
 | zero => exact bf_start hr
 | succ i ih =>
  have hi := ih (by omega)
  by_cases hl : i < (bfP roots refs i).length
  ·rw [bfP_some (List.getElem?_eq_getElem hl)]
   exact hi.step hr hf (List.getElem?_eq_getElem hl)
  ·rw [bfP_none (by omega)]
   exact ⟨hi.way, hi.rise, hi.one, fun p hp => by
    rcases hi.orig p hp with e | ⟨j, hj, e⟩
    ·exact .inl e
    ·exact .inr ⟨j, by omega, e⟩, hi.root, fun j hj q hq => by
    have := (List.getElem?_eq_some_iff.1 hq).1
    exact hi.next j (by omega) q hq⟩
theorem Bf.len (hr : Dg roots) (hf : ∀ g, Dg (refs g)) {P : List (List Int)} {i : Nat} (h : Bf roots refs P i) : P.length <= 40 := by
 have hsub : ∀ x ∈ P.map hd, x ∈ (List.range 40).map (fun j : Nat => (j : Int) + 1) := fun x hx => by
  obtain ⟨p, hp, rfl⟩ := List.mem_map.1 hx
  have := (h.way p hp).dg hr hf
  exact mem_hands.2 ⟨this.2.1, this.2.2.1⟩
 have key : ∀ (a b : List Int), a.Nodup -> (∀ x ∈ a, x ∈ b) -> a.length <= b.length := by
  intro a
  induction a with
  | nil => intro b _ _; simp
  | cons x a ih =>
   intro b hn hs
   have hx := hs x (by simp)
   have h2 := ih (b.erase x) (List.nodup_cons.1 hn).2 (fun y hy => (List.mem_erase_of_ne (fun e => (List.nodup_cons.1 hn).1 (by rw [<- e]; exact hy))).2 (hs y (by simp [hy])))
   rw [List.length_erase_of_mem hx] at h2
   have : 0 < b.length := List.length_pos_of_mem hx
   rw [List.length_cons]
   omega
 have := key _ _ h.one hsub
 rw [List.length_map, List.length_map, List.length_range] at this
 exact this
def wyF (P : List (List Int)) (x : Int) : List Int := (P.find? (fun p => hd p == x)).getD []
theorem Bf.uniq {P : List (List Int)} {i : Nat} (h : Bf roots refs P i) : ∀ p ∈ P, ∀ p' ∈ P, hd p = hd p' -> p = p' := fun p hp p' hp' e => by
 obtain ⟨j, hj, rfl⟩ := List.getElem_of_mem hp
 obtain ⟨k, hk, rfl⟩ := List.getElem_of_mem hp'
 have hn := h.one
 have : j = k := by
  have hp := List.pairwise_iff_getElem.1 hn
  rcases Nat.lt_trichotomy j k with h | h | h
  ·exact absurd (by rw [List.getElem_map, List.getElem_map]; exact e) (hp j k (by simpa using hj) (by simpa using hk) h)
  ·exact h
  ·exact absurd (by rw [List.getElem_map, List.getElem_map]; exact e.symm) (hp k j (by simpa using hk) (by simpa using hj) h)
 subst this
 rfl
theorem Bf.still (hr : Dg roots) (hf : ∀ g, Dg (refs g)) {P : List (List Int)} {i : Nat} (h : Bf roots refs P i) (hi : P.length <= i) : Still roots refs (wyF P) := by
 have huniq := h.uniq
 show Still roots refs (fun x => (P.find? (fun p => hd p == x)).getD [])
 have hget : ∀ p ∈ P, (P.find? (fun r => hd r == hd p)).getD [] = p := fun p hp => by
  cases hc : P.find? (fun r => hd r == hd p) with
  | none => exact absurd (List.find?_eq_none.1 hc p hp) (by simp)
  | some r =>
   have h1 := List.mem_of_find?_eq_some hc
   have h2 := List.find?_some hc
   rw [beq_iff_eq] at h2
   exact huniq r h1 p hp h2
 have hnn : ∀ p ∈ P, p ≠ [] := fun p hp => ((h.way p hp).dg hr hf).2.2.2
 have hfrom : ∀ x, (P.find? (fun p => hd p == x)).getD [] ≠ [] -> ∃ p ∈ P, hd p = x /\ (P.find? (fun p => hd p == x)).getD [] = p := fun x hx => by
  cases hc : P.find? (fun r => hd r == x) with
  | none => rw [hc] at hx; exact absurd rfl hx
  | some r =>
   have h2 := List.find?_some hc
   rw [beq_iff_eq] at h2
   exact ⟨r, List.mem_of_find?_eq_some hc, h2, rfl⟩
 refine ⟨fun r hm => ?_, fun g hg x hx => ?_, fun g hg => ?_⟩
 ·obtain ⟨p, hp, rfl, h2⟩ := h.root r hm
  show (P.find? (fun p' => hd p' == hd p)).getD [] ≠ [] /\ rk ((P.find? (fun p' => hd p' == hd p)).getD []) <= _
  rw [hget p hp]
  exact ⟨hnn p hp, h2⟩
 ·obtain ⟨p, hp, rfl, e⟩ := hfrom g hg
  rw [e]
  obtain ⟨j, hj, e2⟩ := List.getElem_of_mem hp
  obtain ⟨p', hp', rfl, h2⟩ := h.next j (by omega) p (by rw [<- e2]; exact List.getElem?_eq_getElem hj) x hx
  rw [hget p' hp']
  exact ⟨hnn p' hp', h2⟩
 ·obtain ⟨p, hp, rfl, e⟩ := hfrom g hg
  rw [e]
  exact h.way p hp
end
end Go.Proofs.YtifmemombecoaaaGreatDoor
namespace Go.Proofs.YtifmemombecoaaaGreatDoor
open Go.RowKit
set_option linter.unusedVariables false
def refStep (L : List Int) (acc : List Int) (x : Int) : List Int := if chkE L x ≠ 0 then acc else if acc.any (fun y => y == x) = true then acc else acc ++ [x]
def refK (L l : List Int) (k : Nat) : List Int := (l.take k).foldl (refStep L) []
def refsL (L : List Int) (h : Int) : List Int := refK L (objOf L h).2 (objOf L h).1.toNat
theorem refK_succ {L l : List Int} {k : Nat} (hk : k < l.length) : refK L l (k + 1) = refStep L (refK L l k) (l.getD k 0) := by
 unfold refK
 rw [List.take_succ_eq_append_getElem hk, List.foldl_append]
 simp [List.getD, hk]
theorem refStep_len (L acc : List Int) (x : Int) : (refStep L acc x).length <= acc.length + 1 := by
 unfold refStep
 split
 ·omega
 ·split
  ·omega
  ·simp
theorem refK_len (L l : List Int) : ∀ k, (refK L l k).length <= k := by
 intro k
 induction k with
 | zero => simp [refK]
 | succ k ih =>
  by_cases hk : k < l.length
  ·rw [refK_succ hk]
   exact Nat.le_trans (refStep_len _ _ _) (by omega)
  ·have : refK L l (k + 1) = refK L l k := by unfold refK; rw [List.take_of_length_le (by omega), List.take_of_length_le (by omega)]
   rw [this]
   omega
theorem refK_all {L l : List Int} {k : Nat} (hk : l.length <= k) : refK L l k = refK L l l.length := by
 unfold refK
 rw [List.take_of_length_le hk, List.take_length]
section
variable {roots : List Int} {refs : Int -> List Int}
def wyO (roots : List Int) (refs : Int -> List Int) : Int -> List Int := wyF (bfP roots refs 40)
theorem wyO_still (hr : Dg roots) (hf : ∀ g, Dg (refs g)) : Still roots refs (wyO roots refs) := by
 have h := bf_at hr hf 40 (Nat.le_total _ _)
 exact h.still hr hf (h.len hr hf)
theorem Still.eq (hr : Dg roots) (hf : ∀ g, Dg (refs g)) {V : Int -> List Int} (s : Still roots refs V) (h : Int) : V h = wyO roots refs h := s.one hr hf (wyO_still hr hf) h
theorem wyO_dg (hr : Dg roots) (hf : ∀ g, Dg (refs g)) {h : Int} (hn : wyO roots refs h ≠ []) : Dg (wyO roots refs h) /\ 1 <= h /\ h <= 40 := by
 have := ((wyO_still hr hf).way h hn).dg hr hf
 exact ⟨this.1, this.2.1, this.2.2.1⟩
theorem Way.steps {p : List Int} {h : Int} (w : Way roots refs p h) : p ≠ [] /\ p.getD 0 0 ∈ roots /\ p.getD (p.length - 1) 0 = h /\ ∀ j, 1 <= j -> j < p.length -> p.getD j 0 ∈ refs (p.getD (j - 1) 0) := by
 refine w.ind (fun p h => p ≠ [] /\ p.getD 0 0 ∈ roots /\ p.getD (p.length - 1) 0 = h /\ ∀ j, 1 <= j -> j < p.length -> p.getD j 0 ∈ refs (p.getD (j - 1) 0)) (fun r hm => ⟨by simp, hm, rfl, fun j h1 h2 => by simp at h2; omega⟩) (fun q g x w hx ih => ?_)
 ·obtain ⟨i1, i2, i3, i4⟩ := ih
  have hq : 0 < q.length := List.length_pos_iff.2 i1
  have at1 : ∀ j, j < q.length -> (q ++ [x]).getD j 0 = q.getD j 0 := fun j hj => by simp [List.getD, List.getElem?_append_left hj]
  have at2 : (q ++ [x]).getD q.length 0 = x := by simp [List.getD]
  refine ⟨by simp, by rw [at1 0 hq]; exact i2, by rw [List.length_append]; exact at2, fun j h1 h2 => ?_⟩
  rw [List.length_append, List.length_singleton] at h2
  by_cases e : j = q.length
  ·subst e
   rw [at2, at1 _ (by omega), i3]
   exact hx
  ·rw [at1 j (by omega), at1 (j - 1) (by omega)]
   exact i4 j h1 (by omega)
theorem Way.all (hr : Dg roots) (hf : ∀ g, Dg (refs g)) {p : List Int} {h : Int} (w : Way roots refs p h) : wyO roots refs h ≠ [] := ((wyO_still hr hf).least w).1
theorem wyO_same {refs' : Int -> List Int} (hr : Dg roots) (hf : ∀ g, Dg (refs g)) (hf' : ∀ g, Dg (refs' g)) (hs : ∀ g, wyO roots refs g ≠ [] -> refs' g = refs g) (h : Int) : wyO roots refs' h = wyO roots refs h := by
 have s := wyO_still hr hf
 refine (Still.eq (V := wyO roots refs) hr hf' ⟨s.base, fun g hg x hx => ?_, fun g hg => ?_⟩ h).symm
 ·rw [hs g hg] at hx
  exact s.next g hg x hx
 ·have key : ∀ {p : List Int} {k : Int}, Way roots refs p k -> Way roots refs' p k := by
   intro p k w
   exact w.ind (fun p k => Way roots refs' p k) (fun r hm => .root hm) (fun q g x w hx ih => .step ih (by rw [hs _ (w.all hr hf)]; exact hx))
  exact key (s.way g hg)
end
def rtH (L : List Int) : List Int := (rootsK L 8).map (·.2)
theorem rtH_dg {L : List Int} (hf : Fine L) : Dg (rtH L) := fun x hx => by
 obtain ⟨r, hr, rfl⟩ := List.mem_map.1 hx
 exact (apart_roots hf.ok).pos r hr
theorem fold_ok {L : List Int} : ∀ (l acc : List Int), (∀ x ∈ acc, chkE L x = 0) -> ∀ x ∈ l.foldl (refStep L) acc, chkE L x = 0
 | [], acc, h => h
 | y :: l, acc, h => by
  refine fold_ok l (refStep L acc y) (fun x hx => ?_)
  unfold refStep at hx
  by_cases hc : chkE L y = 0
  ·rw [if_neg (fun h => h hc)] at hx
   split at hx
   ·exact h x hx
   ·rcases List.mem_append.1 hx with hx | hx
    ·exact h x hx
    ·rw [List.mem_singleton.1 hx]; exact hc
  ·rw [if_pos hc] at hx; exact h x hx
theorem refStep_sub {L acc : List Int} {y x : Int} (h : x ∈ acc) : x ∈ refStep L acc y := by
 unfold refStep
 split
 ·exact h
 ·split
  ·exact h
  ·exact List.mem_append.2 (.inl h)
theorem fold_sub {L : List Int} {x : Int} : ∀ (l acc : List Int), x ∈ acc -> x ∈ l.foldl (refStep L) acc
 | [], acc, h => h
 | y :: l, acc, h => fold_sub l (refStep L acc y) (refStep_sub h)
theorem fold_has {L : List Int} {x : Int} (hc : chkE L x = 0) : ∀ (l acc : List Int), x ∈ l -> x ∈ l.foldl (refStep L) acc
 | [], acc, h => by cases h
 | y :: l, acc, h => by
  rcases List.mem_cons.1 h with rfl | h
  ·refine fold_sub l (refStep L acc x) ?_
   unfold refStep
   rw [if_neg (fun h => h hc)]
   split
   ·rename_i ha
    obtain ⟨z, hz, e⟩ := List.any_eq_true.1 ha
    rw [beq_iff_eq] at e
    rw [<- e]; exact hz
   ·simp
  ·exact fold_has hc l (refStep L acc y) h
theorem fold_cong {L c : List Int} : ∀ (l acc : List Int), (∀ x ∈ l, (chkE c x = 0 ↔ chkE L x = 0)) -> l.foldl (refStep c) acc = l.foldl (refStep L) acc
 | [], acc, _ => rfl
 | y :: l, acc, h => by
  have e : refStep c acc y = refStep L acc y := by
   unfold refStep
   have := h y (by simp)
   by_cases hc : chkE L y = 0
   ·rw [if_neg (fun hq : ¬ chkE c y = 0 => hq (this.2 hc)), if_neg (fun hq : ¬ chkE L y = 0 => hq hc)]
   ·rw [if_pos (fun hq : chkE c y = 0 => hc (this.1 hq)), if_pos hc]
  rw [List.foldl_cons, List.foldl_cons, e]
  exact fold_cong l _ (fun x hx => h x (List.mem_cons_of_mem _ hx))
theorem refsL_ok {L : List Int} {h x : Int} (hx : x ∈ refsL L h) : chkE L x = 0 := fold_ok _ [] (fun x hx => by cases hx) x hx
theorem refsL_dg (L : List Int) (h : Int) : Dg (refsL L h) := fun x hx => hndB_iff.1 (chkE_zero.1 (refsL_ok hx)).2.1
theorem refsL_has {L : List Int} {h x : Int} (hx : x ∈ (objOf L h).2.take (objOf L h).1.toNat) (hc : chkE L x = 0) : x ∈ refsL L h := fold_has hc _ [] hx
def wyL (L : List Int) (h : Int) : List Int := wyO (rtH L) (refsL L) h
def lvB (L : List Int) (h : Int) : Bool := decide (wyL L h ≠ [])
def lvK (L : List Int) (k : Nat) : List Int := ((List.range k).map (fun j : Nat => (j : Int) + 1)).filter fun h => decide (tagAt L h ≠ 0) && lvB L h
def ddK (L : List Int) (k : Nat) : List Int := ((List.range k).map (fun j : Nat => (j : Int) + 1)).filter fun h => decide (tagAt L h ≠ 0) && !lvB L h
theorem wyL_still {L : List Int} (hf : Fine L) : Still (rtH L) (refsL L) (wyL L) := wyO_still (rtH_dg hf) (refsL_dg L)
theorem wyL_there {L : List Int} (hf : Fine L) {h : Int} (hn : wyL L h ≠ []) : chkE L h = 0 := by
 have s := wyL_still hf
 have w := s.way h hn
 rcases w.parts with hm | ⟨q, g, _, hx⟩
 ·obtain ⟨r, hr, rfl⟩ := List.mem_map.1 hm
  obtain ⟨i, hi, hq, e⟩ := mem_rootsK_iff.1 hr
  obtain ⟨o1, o2, o3⟩ := lead_obj hf hi hq
  have er : r.2 = (rowAt L i).getD 10 0 := by rw [<- e]; rfl
  rw [er]
  exact chkE_zero.2 ⟨hf.len0, hndB_iff.2 ⟨o1, o2⟩, o3⟩
 ·exact refsL_ok hx
theorem mem_lvK {L : List Int} {k : Nat} {h : Int} : h ∈ lvK L k ↔ (1 <= h /\ h <= k) /\ tagAt L h ≠ 0 /\ wyL L h ≠ [] := by
 unfold lvK lvB
 rw [List.mem_filter, mem_hands, Bool.and_eq_true, decide_eq_true_iff, decide_eq_true_iff]
theorem mem_ddK {L : List Int} {k : Nat} {h : Int} : h ∈ ddK L k ↔ (1 <= h /\ h <= k) /\ tagAt L h ≠ 0 /\ wyL L h = [] := by
 unfold ddK lvB
 rw [List.mem_filter, mem_hands, Bool.and_eq_true, decide_eq_true_iff, Bool.not_eq_true', decide_eq_false_iff_not, Decidable.not_not]
section
variable {roots : List Int} {refs : Int -> List Int}
theorem Bf.least (hr : Dg roots) (hf : ∀ g, Dg (refs g)) {P : List (List Int)} {i : Nat} (h : Bf roots refs P i) (hi : P.length <= i) : (∀ p ∈ P, wyO roots refs (hd p) = p) /\ ∀ x, wyO roots refs x ≠ [] -> wyO roots refs x ∈ P := by
 have huniq := h.uniq
 have hst := h.still hr hf hi
 have heq := fun x => hst.eq hr hf x
 refine ⟨fun p hp => ?_, fun x hx => ?_⟩
 ·rw [<- heq (hd p)]
  unfold wyF
  cases hc : P.find? (fun r => hd r == hd p) with
  | none => exact absurd (List.find?_eq_none.1 hc p hp) (by simp)
  | some r =>
   have h2 := List.find?_some hc
   rw [beq_iff_eq] at h2
   exact huniq r (List.mem_of_find?_eq_some hc) p hp h2
 ·rw [<- heq x] at hx ⊢
  unfold wyF at hx ⊢
  cases hc : P.find? (fun r => hd r == x) with
  | none => rw [hc] at hx; exact absurd rfl hx
  | some r => exact List.mem_of_find?_eq_some hc
def bfA (roots : List Int) (refs : Int -> List Int) : List (List Int) := bfP roots refs 40
theorem bfA_of {i : Nat} (hi : i <= 40) (hl : (bfP roots refs i).length <= i) : bfP roots refs i = bfA roots refs := (bfP_late hl 40 hi).symm
theorem bfA_spec (hr : Dg roots) (hf : ∀ g, Dg (refs g)) : (∀ p ∈ bfA roots refs, wyO roots refs (hd p) = p) /\ (∀ x, wyO roots refs x ≠ [] -> wyO roots refs x ∈ bfA roots refs) /\ ((bfA roots refs).map hd).Nodup /\ (bfA roots refs).length <= 40 /\ ∀ p ∈ bfA roots refs, p ≠ [] /\ (p.dropLast = [] \/ p.dropLast ∈ bfA roots refs) := by
 have h := bf_at hr hf 40 (Nat.le_total _ _)
 have hl := h.len hr hf
 obtain ⟨a, b⟩ := h.least hr hf hl
 refine ⟨a, b, h.one, hl, fun p hp => ⟨((h.way p hp).dg hr hf).2.2.2, ?_⟩⟩
 rcases h.orig p hp with e | ⟨j, _, e⟩
 ·exact .inl e
 ·exact .inr (List.mem_of_getElem? e)
theorem bfA_met (hr : Dg roots) (hf : ∀ g, Dg (refs g)) (x : Int) : metB (bfA roots refs) x = decide (wyO roots refs x ≠ []) := by
 obtain ⟨a, b, _, _, c⟩ := bfA_spec hr hf
 rw [Bool.eq_iff_iff, metB_iff, decide_eq_true_iff]
 constructor
 ·rintro ⟨p, hp, rfl⟩
  rw [a p hp]
  exact (c p hp).1
 ·intro hx
  have hm := b x hx
  refine ⟨_, hm, ?_⟩
  have hw := (wyO_still hr hf).way x hx
  have := hw.steps.2.2.1
  unfold hd
  rw [List.getLastD_eq_getLast?, List.getLast?_eq_getElem?]
  exact this
end
theorem way_there {L : List Int} (hf : Fine L) {p : List Int} {x : Int} (w : Way (rtH L) (refsL L) p x) : chkE L x = 0 := wyL_there hf (w.all (rtH_dg hf) (refsL_dg L))
def bfL (L : List Int) : List (List Int) := bfA (rtH L) (refsL L)
section
variable {L : List Int}
theorem bfL_met (hf : Fine L) (x : Int) : metB (bfL L) x = lvB L x := by
 have := bfA_met (rtH_dg hf) (refsL_dg L) x
 exact this
theorem bfL_way (hf : Fine L) {p : List Int} (hp : p ∈ bfL L) : wyL L (hd p) = p := (bfA_spec (rtH_dg hf) (refsL_dg L)).1 p hp
theorem bfL_has (hf : Fine L) {x : Int} (hx : wyL L x ≠ []) : wyL L x ∈ bfL L := (bfA_spec (rtH_dg hf) (refsL_dg L)).2.1 x hx
theorem bfL_one (hf : Fine L) : ((bfL L).map hd).Nodup := (bfA_spec (rtH_dg hf) (refsL_dg L)).2.2.1
theorem bfL_len (hf : Fine L) : (bfL L).length <= 40 := (bfA_spec (rtH_dg hf) (refsL_dg L)).2.2.2.1
theorem bfL_back (hf : Fine L) {p : List Int} (hp : p ∈ bfL L) : p ≠ [] /\ (p.dropLast = [] \/ p.dropLast ∈ bfL L) := (bfA_spec (rtH_dg hf) (refsL_dg L)).2.2.2.2 p hp
theorem hd_way (hf : Fine L) {x : Int} (hx : wyL L x ≠ []) : hd (wyL L x) = x := by
 have hw := (wyL_still hf).way x hx
 have := hw.steps.2.2.1
 unfold hd
 rw [List.getLastD_eq_getLast?, List.getLast?_eq_getElem?]
 exact this
theorem bfL_part (hf : Fine L) {p : List Int} (hp : p ∈ bfL L) : ∀ k, k < p.length -> p.take (p.length - k) ∈ bfL L
 | 0, _ => by rw [Nat.sub_zero, List.take_length]; exact hp
 | k + 1, hk => by
  have h1 := bfL_part hf hp k (by omega)
  have e : (p.take (p.length - k)).dropLast = p.take (p.length - (k + 1)) := by
   rw [List.dropLast_eq_take, List.take_take, List.length_take]
   congr 1
   omega
  rcases (bfL_back hf h1).2 with h | h
  ·rw [e] at h
   have := congrArg List.length h
   rw [List.length_take] at this
   simp at this
   omega
  ·rw [e] at h; exact h
theorem bfL_dg (hf : Fine L) {p : List Int} (hp : p ∈ bfL L) : Dg p := by
 have h1 := bfL_way hf hp
 have h2 := (bfL_back hf hp).1
 have := wyO_dg (rtH_dg hf) (refsL_dg L) (h := hd p) (by
  have e : wyO (rtH L) (refsL L) (hd p) = p := h1
  rw [e]; exact h2)
 have e : wyO (rtH L) (refsL L) (hd p) = p := h1
 rw [e] at this
 exact this.1
theorem lvK_rise : (lvK L 40).Pairwise (· < ·) := by
 unfold lvK
 refine List.Pairwise.filter _ (List.pairwise_map.2 (List.pairwise_lt_range.imp (fun h => by omega)))
theorem live_eq (hf : Fine L) : srt ((bfL L).map hd) = lvK L 40 := by
 have hperm : ((bfL L).map hd).Perm (lvK L 40) := by
  refine (List.perm_ext_iff_of_nodup (bfL_one hf) ((lvK_rise (L := L)).imp (fun h e => by omega))).2 (fun x => ?_)
  rw [mem_lvK, List.mem_map]
  constructor
  ·rintro ⟨p, hp, rfl⟩
   have hn : wyL L (hd p) ≠ [] := by rw [bfL_way hf hp]; exact (bfL_back hf hp).1
   obtain ⟨_, q2, q3⟩ := chkE_zero.1 (wyL_there hf hn)
   have := hndB_iff.1 q2
   exact ⟨⟨this.1, by omega⟩, q3, hn⟩
  ·rintro ⟨_, _, hn⟩
   exact ⟨_, bfL_has hf hn, hd_way hf hn⟩
 unfold srt
 have e := List.mergeSort_of_pairwise (le := fun x y : Int => decide (x <= y)) ((lvK_rise (L := L)).imp (fun h => by simp; omega))
 rw [<- e]
 refine List.Perm.eq_of_pairwise (le := fun x y : Int => x <= y) (fun a b _ _ h1 h2 => by omega) ?_ ?_ ?_
 ·exact (List.pairwise_mergeSort (le := fun x y : Int => decide (x <= y)) (fun a b c h1 h2 => by simp at *; omega) (fun a b => by simp; omega) _).imp (fun h => by simpa using h)
 ·exact (List.pairwise_mergeSort (le := fun x y : Int => decide (x <= y)) (fun a b c h1 h2 => by simp at *; omega) (fun a b => by simp; omega) _).imp (fun h => by simpa using h)
 ·exact (List.mergeSort_perm _ _).trans (hperm.trans (List.mergeSort_perm _ _).symm)
theorem way_len40 (hf : Fine L) {x : Int} (hx : wyL L x ≠ []) : (wyL L x).length <= 40 := by
 have hin := bfL_has hf hx
 have hsub : ∀ k, k < (wyL L x).length -> (wyL L x).take ((wyL L x).length - k) ∈ bfL L := bfL_part hf hin
 have key : ((List.range (wyL L x).length).map (fun k => (wyL L x).take ((wyL L x).length - k))).length <= (bfL L).length := by
  have nd : ((List.range (wyL L x).length).map (fun k => (wyL L x).take ((wyL L x).length - k))).Nodup := by
   refine List.pairwise_map.2 (List.pairwise_lt_range.imp_of_mem (fun {a b} ha hb hlt e => ?_))
   have := congrArg List.length e
   rw [List.length_take, List.length_take] at this
   have := List.mem_range.1 ha
   have := List.mem_range.1 hb
   omega
  have gen : ∀ (u v : List (List Int)), u.Nodup -> (∀ y ∈ u, y ∈ v) -> u.length <= v.length := by
   intro u
   induction u with
   | nil => intro v _ _; simp
   | cons y u ih =>
    intro v hn hs
    have hy := hs y (by simp)
    have h2 := ih (v.erase y) (List.nodup_cons.1 hn).2 (fun z hz => (List.mem_erase_of_ne (fun e => (List.nodup_cons.1 hn).1 (by rw [<- e]; exact hz))).2 (hs z (by simp [hz])))
    rw [List.length_erase_of_mem hy] at h2
    have : 0 < v.length := List.length_pos_of_mem hy
    rw [List.length_cons]
    omega
  refine gen _ _ nd (fun y hy => ?_)
  obtain ⟨k, hk, rfl⟩ := List.mem_map.1 hy
  exact hsub k (List.mem_range.1 hk)
 rw [List.length_map, List.length_range] at key
 exact Nat.le_trans key (bfL_len hf)
end
theorem lvK_len (L : List Int) : (lvK L 40).length <= 40 := by
 unfold lvK
 exact Nat.le_trans (List.length_filter_le _ _) (by simp)
theorem ddK_len (L : List Int) (k : Nat) : (ddK L k).length <= k := by
 unfold ddK
 exact Nat.le_trans (List.length_filter_le _ _) (by simp)
theorem ddK_succ (L : List Int) (k : Nat) : ddK L (k + 1) = if tagAt L ((k : Int) + 1) ≠ 0 /\ lvB L ((k : Int) + 1) = false then ddK L k ++ [(k : Int) + 1] else ddK L k := by
 unfold ddK
 rw [List.range_succ, List.map_append, List.filter_append]
 by_cases h : tagAt L ((k : Int) + 1) ≠ 0 /\ lvB L ((k : Int) + 1) = false
 ·rw [if_pos h]
  simp [h.1, h.2]
 ·rw [if_neg h]
  by_cases h1 : tagAt L ((k : Int) + 1) = 0
  ·simp [h1]
  ·have h2 : lvB L ((k : Int) + 1) = true := by
    cases e : lvB L ((k : Int) + 1) with
    | true => rfl
    | false => exact absurd ⟨h1, e⟩ h
   simp [h2]
theorem mtL_len (q : List Int) : ∀ (l : List Int) (P : List (List Int)), (mtL q P l).length <= P.length + l.length
 | [], P => by simp [mtL]
 | x :: l, P => by
  have h1 := mtL_len q l (mtS q P x)
  have h2 : (mtS q P x).length <= P.length + 1 := by
   unfold mtS
   split
   ·omega
   ·simp
  show (mtL q (mtS q P x) l).length <= _
  rw [List.length_cons]
  omega
def swL (L : List Int) (D : List Int) : List Int := D.foldl (fun b h => dropL b h) L
structure Swept (L c : List Int) (D : List Int) : Prop where
 fine : Fine c
 len : c.length = L.length
 keep : ∀ k, 1 <= k -> k <= 40 -> k ∉ D -> tagAt c k = tagAt L k /\ entOf c k = entOf L k
 gone : ∀ k ∈ D, 1 <= k -> k <= 40 -> tagAt c k = 0
 tail : ∀ j, 200 <= j -> c.getD j 0 = L.getD j 0
theorem Swept.rows {L c D : List Int} (s : Swept L c D) : ∀ i, i < 8 -> rowAt c i = rowAt L i := fun i hi => by
 have hl := s.fine.len
 have hl2 := s.len
 apply ext_getD
 ·rw [rowAt_len (by omega), rowAt_len (by omega)]
 ·intro j hj
  rw [rowAt_len (by omega)] at hj
  rw [rowAt_getD hj, rowAt_getD hj]
  exact s.tail _ (by omega)
theorem Swept.refl {L : List Int} (hf : Fine L) : Swept L L [] := ⟨hf, rfl, fun _ _ _ _ => ⟨rfl, rfl⟩, fun k hk => (by cases hk), fun _ _ => rfl⟩
theorem Swept.more {L c D : List Int} (s : Swept L c D) {h : Int} (hc : chkE L h = 0) (hn : h ∉ D) (hr : h ∉ rtH L) : chkE c h = 0 /\ frE c h = 0 /\ Swept L (dropL c h) (D ++ [h]) := by
 obtain ⟨q1, q2, q3⟩ := chkE_zero.1 hc
 have hh := hndB_iff.1 q2
 obtain ⟨k1, k2⟩ := s.keep h hh.1 hh.2 hn
 have hc2 : chkE c h = 0 := chkE_zero.2 ⟨s.fine.len0, q2, by rw [k1]; exact q3⟩
 have hno : ∀ i, i < 8 -> isRoot (rowAt c i) = true -> (rowAt c i).getD 10 0 ≠ h := fun i hi hq e => by
  rw [s.rows i hi] at hq e
  exact hr (List.mem_map.2 ⟨_, mem_rootsK8 hi hq, e⟩)
 obtain ⟨f, fo, fs, fl, ft⟩ := drop_fine s.fine hc2 hno
 refine ⟨hc2, frE_zero.2 ⟨hc2, List.any_eq_false.2 (fun r hrm => ?_)⟩, f, fl.trans s.len, fun k h1 h2 hk => ?_, fun k hk => ?_, fun j hj => (ft j hj).trans (s.tail j hj)⟩
 ·obtain ⟨i, hi, hq, rfl⟩ := mem_rootsK_iff.1 hrm
  rw [beq_iff_eq]
  exact hno i hi hq
 ·have hk1 : k ∉ D := fun hm => hk (List.mem_append.2 (.inl hm))
  have hk2 : k ≠ h := fun e => hk (List.mem_append.2 (.inr (by rw [e]; simp)))
  obtain ⟨a1, a2⟩ := fo k h1 h2 hk2
  obtain ⟨b1, b2⟩ := s.keep k h1 h2 hk1
  exact ⟨a1.trans b1, a2.trans b2⟩
 ·intro k1 k2
  by_cases e : k = h
  ·subst e; exact fs
  ·rcases List.mem_append.1 hk with hk | hk
   ·rw [(fo k k1 k2 e).1]; exact s.gone k hk k1 k2
   ·exact absurd (List.mem_singleton.1 hk) e
theorem swept_of {L : List Int} (hf : Fine L) : ∀ (D E : List Int), (E ++ D).Nodup -> (∀ h ∈ E ++ D, chkE L h = 0 /\ h ∉ rtH L) -> ∀ c, Swept L c E -> Swept L (swL c D) (E ++ D)
 | [], E, _, _, c, s => by rw [List.append_nil]; exact s
 | h :: D, E, hn, hall, c, s => by
  have hh := hall h (by simp)
  have hnE : h ∉ E := fun hm => by
   rw [List.nodup_append] at hn
   exact hn.2.2 h hm h (by simp) rfl
  have s2 := (s.more hh.1 hnE hh.2).2.2
  have e : E ++ h :: D = E ++ [h] ++ D := by simp
  rw [e] at hn hall ⊢
  exact swept_of hf D (E ++ [h]) hn hall (dropL c h) s2
section
variable {L c : List Int}
theorem dead_ok (hf : Fine L) : (ddK L 40).Nodup /\ ∀ h ∈ ddK L 40, chkE L h = 0 /\ h ∉ rtH L := by
 refine ⟨?_, fun h hh => ?_⟩
 ·unfold ddK
  exact List.Pairwise.filter _ (List.pairwise_map.2 (List.nodup_range.imp (fun hne e => hne (by omega))))
 ·obtain ⟨⟨h1, h2⟩, ht, hw⟩ := mem_ddK.1 hh
  refine ⟨chkE_zero.2 ⟨hf.len0, hndB_iff.2 ⟨h1, h2⟩, ht⟩, fun hm => ?_⟩
  exact ((wyL_still hf).base h hm).1 hw
theorem sweep_swept (hf : Fine L) : Swept L (swL L (ddK L 40)) (ddK L 40) := by
 obtain ⟨h1, h2⟩ := dead_ok hf
 have := swept_of hf (ddK L 40) [] (by simpa using h1) (by simpa using h2) L (Swept.refl hf)
 simpa using this
theorem Swept.roots {D : List Int} (s : Swept L c D) : rtH c = rtH L := by
 unfold rtH
 rw [rootsK_same 8 s.rows]
theorem live_not (hf : Fine L) {h : Int} (hn : wyL L h ≠ []) : h ∉ ddK L 40 := fun hm => hn (mem_ddK.1 hm).2.2
theorem live_obj (hf : Fine L) (s : Swept L c (ddK L 40)) {h : Int} (hn : wyL L h ≠ []) : objOf c h = objOf L h /\ chkE c h = 0 := by
 have hc := wyL_there hf hn
 obtain ⟨q1, q2, q3⟩ := chkE_zero.1 hc
 have hh := hndB_iff.1 q2
 obtain ⟨e1, e2⟩ := s.keep h hh.1 hh.2 (live_not hf hn)
 refine ⟨obj_same s.len e1 e2 (fun ht j hj _ => s.tail j ?_), chkE_zero.2 ⟨s.fine.len0, q2, by rw [e1]; exact q3⟩⟩
 have := (hf.ent hh.1 hh.2 ht).1
 omega
theorem live_refs (hf : Fine L) (s : Swept L c (ddK L 40)) {h : Int} (hn : wyL L h ≠ []) : refsL c h = refsL L h := by
 unfold refsL
 rw [(live_obj hf s hn).1]
 refine fold_cong _ [] (fun x hx => ⟨fun hc => ?_, fun hc => ?_⟩)
 ·obtain ⟨_, q2, q3⟩ := chkE_zero.1 hc
  have hh := hndB_iff.1 q2
  refine chkE_zero.2 ⟨hf.len0, q2, ?_⟩
  by_cases hd : x ∈ ddK L 40
  ·exact absurd (s.gone x hd hh.1 hh.2) q3
  ·rw [<- (s.keep x hh.1 hh.2 hd).1]; exact q3
 ·exact (live_obj hf s ((wyL_still hf).next h hn x (refsL_has hx hc)).1).2
theorem sweep_ways (hf : Fine L) (s : Swept L c (ddK L 40)) (h : Int) : wyL c h = wyL L h := by
 unfold wyL
 rw [s.roots]
 exact wyO_same (rtH_dg hf) (refsL_dg L) (refsL_dg c) (fun g hg => live_refs hf s hg) h
theorem sweep_none (hf : Fine L) (s : Swept L c (ddK L 40)) : ddK c 40 = [] := by
 refine List.eq_nil_iff_forall_not_mem.2 (fun h hm => ?_)
 obtain ⟨⟨h1, h2⟩, ht, hw⟩ := mem_ddK.1 hm
 rw [sweep_ways hf s] at hw
 by_cases hd : h ∈ ddK L 40
 ·exact ht (s.gone h hd h1 h2)
 ·rw [(s.keep h h1 h2 hd).1] at ht
  exact hd (mem_ddK.2 ⟨⟨h1, h2⟩, ht, hw⟩)
theorem sweep_live (hf : Fine L) (s : Swept L c (ddK L 40)) : lvK c 40 = lvK L 40 := by
 unfold lvK lvB
 refine List.filter_congr (fun h hh => ?_)
 obtain ⟨h1, h2⟩ := mem_hands.1 hh
 rw [sweep_ways hf s]
 by_cases hw : wyL L h = []
 ·simp [hw]
 ·rw [(s.keep h h1 h2 (live_not hf hw)).1]
theorem sweep_objs (hf : Fine L) (s : Swept L c (ddK L 40)) {h : Int} (h1 : 1 <= h) (h2 : h <= 40) : (h ∈ ddK L 40 -> objOf c h = (-1, [])) /\ (h ∉ ddK L 40 -> objOf c h = objOf L h) := by
 refine ⟨fun hd => objOf_none (s.gone h hd h1 h2), fun hd => ?_⟩
 obtain ⟨e1, e2⟩ := s.keep h h1 h2 hd
 refine obj_same s.len e1 e2 (fun ht j hj _ => s.tail j ?_)
 have := (hf.ent h1 h2 ht).1
 omega
end
end Go.Proofs.YtifmemombecoaaaGreatDoor
