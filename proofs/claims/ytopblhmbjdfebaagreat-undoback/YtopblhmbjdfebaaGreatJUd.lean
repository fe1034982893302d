/-
  Joined by program: UdPlain; UdMem; UdLay; VwSort; UdA; UdB; UdC; UdD; UdSt; UbSt; UbA. (Parts of the proofs over the packages of the program.)
-/
import Derived.Test.YtopblhmbjdfebaaGreatJHp
import Derived.Test.YtopblhmbjdfebaaGreatJDf
import Derived.Shelf.SlMaps.DeleteFunc
import Derived.Lib.SlKeysI
import Derived.Maps.OwnSet
import Derived.Shelf.SlGeneric
import Derived.Ground.SlmdProg
import Derived.Test.YtopblhmbjdfebaaGreatProg
import Derived.Shelf.SlIterI.Nil
import Derived.Shelf.SortM.Plain
import Derived.Shelf.SortM.SortNone
import Derived.Ground.GgzProg
import Derived.Ground.SlgmProg
import Derived.Deep.RegionHeld3
import Derived.Carry
import Derived.Test.YtopblhmbjdfebaaGreatJCh
import Derived.Test.YtopblhmbjdfebaaGreatJRt
import Derived.Test.YtopblhmbjdfebaaGreatJRc
/-! Marks as plain data: numbers, rising, each with the image that was there then. (Part of the proofs over package undo.) -/
namespace Go.Proofs.YtopblhmbjdfebaaGreat
open Go.RowKit
set_option linter.unusedVariables false

/-- The image of a mark. -/
def mkAt : List (Int × List Int) → Int → Option (List Int)
  | [], _ => none
  | x :: r, z => if x.1 = z then some x.2 else mkAt r z
/-- The marks that are left behind a Back. -/
def mkCut (M : List (Int × List Int)) (m : Int) : List (Int × List Int) := M.filter fun x => decide (x.1 ≤ m)
theorem mkAt_mem : ∀ {M : List (Int × List Int)} {z : Int} {I : List Int}, mkAt M z = some I → (z, I) ∈ M
  | [], z, I, h => by cases h
  | x :: r, z, I, h => by
    unfold mkAt at h
    split at h
    · rename_i e
      cases h
      rw [← e]
      exact List.mem_cons_self
    · exact List.mem_cons_of_mem _ (mkAt_mem h)
theorem mkAt_some {z : Int} : ∀ {M : List (Int × List Int)}, (mkAt M z).isSome = true ↔ z ∈ M.map (·.1)
  | [] => by simp [mkAt]
  | x :: r => by
    unfold mkAt
    rw [List.map_cons, List.mem_cons]
    by_cases e : x.1 = z
    · rw [if_pos e]; simp [e]
    · rw [if_neg e, mkAt_some (M := r)]
      constructor
      · exact fun h => .inr h
      · rintro (h | h)
        · exact absurd h.symm e
        · exact h
theorem mkAt_snoc {z : Int} {I : List Int} {y : Int} : ∀ {M : List (Int × List Int)}, (∀ x ∈ M, x.1 < z) → mkAt (M ++ [(z, I)]) y = if y = z then some I else mkAt M y
  | [], _ => by
    show (if z = y then some I else none) = if y = z then some I else none
    by_cases e : y = z
    · rw [if_pos e, if_pos e.symm]
    · rw [if_neg e, if_neg (fun h => e h.symm)]
  | x :: r, h => by
    have ih := mkAt_snoc (I := I) (y := y) (M := r) (fun u hu => h u (List.mem_cons_of_mem _ hu))
    have hx := h x List.mem_cons_self
    show (if x.1 = y then some x.2 else mkAt (r ++ [(z, I)]) y) = if y = z then some I else if x.1 = y then some x.2 else mkAt r y
    rw [ih]
    by_cases e : x.1 = y
    · rw [if_pos e, if_pos e, if_neg (by omega)]
    · rw [if_neg e, if_neg e]
theorem mkAt_cut {m z : Int} : ∀ {M : List (Int × List Int)}, mkAt (mkCut M m) z = if z ≤ m then mkAt M z else none
  | [] => by simp [mkCut, mkAt]
  | x :: r => by
    have ih := mkAt_cut (m := m) (z := z) (M := r)
    have e2 : mkCut (x :: r) m = if x.1 ≤ m then x :: mkCut r m else mkCut r m := by
      unfold mkCut
      rw [List.filter_cons]
      simp
    rw [e2]
    by_cases hx : x.1 ≤ m
    · rw [if_pos hx]
      show (if x.1 = z then some x.2 else mkAt (mkCut r m) z) = if z ≤ m then (if x.1 = z then some x.2 else mkAt r z) else none
      rw [ih]
      by_cases e : x.1 = z
      · rw [if_pos e, if_pos e, if_pos (by omega)]
      · rw [if_neg e, if_neg e]
    · rw [if_neg hx, ih]
      show _ = if z ≤ m then (if x.1 = z then some x.2 else mkAt r z) else none
      by_cases hz : z ≤ m
      · rw [if_pos hz, if_pos hz, if_neg (by omega)]
      · rw [if_neg hz, if_neg hz]
theorem mkCut_rise {M : List (Int × List Int)} {m : Int} (h : (M.map (·.1)).Pairwise (· < ·)) : ((mkCut M m).map (·.1)).Pairwise (· < ·) :=
  h.sublist (List.Sublist.map _ List.filter_sublist)

/-- Marks one behind the other, from the number i + 1 on. -/
def mksF (i : Nat) : List (List Int) → List (Int × List Int)
  | [] => []
  | I :: r => ((i : Int) + 1, I) :: mksF (i + 1) r
theorem mksF_snoc (I : List Int) : ∀ (Ms : List (List Int)) (i : Nat), mksF i (Ms ++ [I]) = mksF i Ms ++ [((i : Int) + Ms.length + 1, I)]
  | [], i => by simp [mksF]
  | J :: r, i => by
    rw [List.cons_append]
    unfold mksF
    rw [mksF_snoc I r (i + 1), List.cons_append, List.length_cons]
    congr 3
    congr 1
    omega
theorem mksF_len : ∀ (Ms : List (List Int)) (i : Nat), (mksF i Ms).length = Ms.length
  | [], i => rfl
  | J :: r, i => by unfold mksF; rw [List.length_cons, List.length_cons, mksF_len r (i + 1)]
theorem mkAt_mksF (z : Int) : ∀ (Ms : List (List Int)) (i : Nat), mkAt (mksF i Ms) z = if (i : Int) < z ∧ z ≤ (i : Int) + Ms.length then some (Ms.getD (z - i - 1).toNat []) else none
  | [], i => by
    show none = _
    rw [if_neg (by simp)]
  | J :: r, i => by
    unfold mksF
    show (if (i : Int) + 1 = z then some J else mkAt (mksF (i + 1) r) z) = _
    rw [mkAt_mksF z r (i + 1), List.length_cons]
    by_cases e : (i : Int) + 1 = z
    · rw [if_pos e, if_pos (by omega), show (z - (i : Int) - 1).toNat = 0 by omega]
      rfl
    · rw [if_neg e]
      by_cases h : (i : Int) < z ∧ z ≤ (i : Int) + ((r.length + 1 : Nat) : Int)
      · rw [if_pos h, if_pos (by omega), show (z - (i : Int) - 1).toNat = (z - ((i + 1 : Nat) : Int) - 1).toNat + 1 by omega]
        rfl
      · rw [if_neg h, if_neg (by omega)]
theorem mkCut_mksF (m : Int) : ∀ (Ms : List (List Int)) (i t : Nat), m = (i : Int) + t → mkCut (mksF i Ms) m = mksF i (Ms.take t)
  | [], i, t, _ => by simp [mksF, mkCut]
  | J :: r, i, 0, h => by
    have ih := mkCut_mksF ((i + 1 : Nat) : Int) r (i + 1) 0 (by omega)
    rw [List.take_zero]
    show (mksF i (J :: r)).filter _ = []
    refine List.filter_eq_nil_iff.2 fun x hx => ?_
    have : (i : Int) < x.1 := by
      have hs : (mkAt (mksF i (J :: r)) x.1).isSome = true := mkAt_some.2 (List.mem_map.2 ⟨x, hx, rfl⟩)
      rw [mkAt_mksF] at hs
      refine Classical.byContradiction fun hn => ?_
      rw [if_neg (fun hh => hn hh.1)] at hs
      cases hs
    simp
    omega
  | J :: r, i, t + 1, h => by
    have ih := mkCut_mksF m r (i + 1) t (by omega)
    unfold mkCut at ih ⊢
    rw [List.take_succ_cons]
    unfold mksF
    rw [List.filter_cons, if_pos (by simp; omega), ih]
theorem mksF_rise : ∀ (Ms : List (List Int)) (i : Nat), ((mksF i Ms).map (·.1)).Pairwise (· < ·) ∧ ∀ x ∈ mksF i Ms, (i : Int) < x.1
  | [], i => ⟨List.Pairwise.nil, fun x hx => by cases hx⟩
  | J :: r, i => by
    obtain ⟨h1, h2⟩ := mksF_rise r (i + 1)
    unfold mksF
    refine ⟨List.pairwise_cons.2 ⟨fun y hy => ?_, h1⟩, fun x hx => ?_⟩
    · obtain ⟨x, hx, rfl⟩ := List.mem_map.1 hy
      have := h2 x hx
      dsimp only
      omega
    · rcases List.mem_cons.1 hx with rfl | hx
      · dsimp only; omega
      · have := h2 x hx
        omega
end Go.Proofs.YtopblhmbjdfebaaGreat
/-! The map of marks in memory: by number a slice of bytes. (Part of the proofs over package undo.) -/
namespace Go.Proofs.YtopblhmbjdfebaaGreat
open Go.RowKit Go.MapKept Go.ChangeMaps
open Go.Maps (Keyed)
set_option linter.unusedVariables false

def liN (n : Nat) : DataW Unit := .lit (.int .i64 n)
/-- How a slice of bytes reads, as an element of a map. -/
def slR : Value → Option (DataW Unit × List MemPlace)
  | .slice none n c => some (.agg [liN n, liN c], [])
  | .slice (some ⟨b, off, none⟩) n c => some (.agg [liN n, liN c, liN b, liN off], [])
  | _ => none
theorem liN_inj {n m : Nat} (h : liN n = liN m) : n = m := by
  unfold liN at h
  simp only [DataW.lit.injEq, Lit.int.injEq, true_and] at h
  omega
theorem slR_inj {v v' : Value} {d : DataW Unit} {ps ps' : List MemPlace} (h : slR v = some (d, ps)) (h' : slR v' = some (d, ps')) : v = v' := by
  unfold slR at h h'
  split at h
  · rename_i n c
    simp only [Option.some.injEq, Prod.mk.injEq] at h
    split at h'
    · rename_i n' c'
      simp only [Option.some.injEq, Prod.mk.injEq] at h'
      have := h.1.trans h'.1.symm
      simp only [DataW.agg.injEq, List.cons.injEq, and_true] at this
      rw [liN_inj this.1, liN_inj this.2]
    · simp only [Option.some.injEq, Prod.mk.injEq] at h'
      have := h.1.trans h'.1.symm
      simp at this
    · cases h'
  · rename_i b off n c
    simp only [Option.some.injEq, Prod.mk.injEq] at h
    split at h'
    · simp only [Option.some.injEq, Prod.mk.injEq] at h'
      have := h.1.trans h'.1.symm
      simp at this
    · rename_i b' off' n' c'
      simp only [Option.some.injEq, Prod.mk.injEq] at h'
      have := h.1.trans h'.1.symm
      simp only [DataW.agg.injEq, List.cons.injEq, and_true] at this
      rw [liN_inj this.1, liN_inj this.2.1, liN_inj this.2.2.1, liN_inj this.2.2.2]
    · cases h'
  · cases h
theorem wf_of_range {z : Int} (h : -9223372036854775808 ≤ z ∧ z ≤ 9223372036854775807) : (Lit.int .i64 z).wf = true := WalkArith.wf_i64 (by omega)
theorem zero_slice (w : World) : (zeroValue 22).run Tryz.prog w = .ok (.slice none 0 0) w := by
  have h : (Tryz.prog.info? 22).map (fun i => i.zero) = some (some (.slice none 0 0)) := by kernel_rfl
  cases hi : Tryz.prog.info? 22 with
  | none => rw [hi] at h; cases h
  | some i =>
    rw [hi] at h
    simp at h
    simp [zeroValue, typeInfo, hi, h]

/-- A slice of bytes that is a row of its own, none of whose blocks is among S. -/
def Own1 (w : World) (B : Nat) (S : Nat → Prop) (r : Option Addr × Nat × List Int) : Prop := OwnV w B (slV r) r.2.2 ∧ Byt r.2.2 ∧ r.2.2.length ≤ 140737488351232 ∧ ∀ b, (slV r).ownBlock = some b → ¬ S b
theorem OwnV.lt {w : World} {B : Nat} {v : Value} {L : List Int} (h : OwnV w B v L) : ∀ k, v.ownBlock = some k → k < w.heap.size := by
  intro k hk
  rcases h.2 with ⟨rfl, _⟩ | ⟨g, cap, cur, rfl, hB, hc, _⟩
  · cases hk
  · simp [Value.ownBlock] at hk
    subst hk
    exact (Array.getElem?_eq_some_iff.1 hc).1
theorem OwnV.same {w w' : World} {B : Nat} {v : Value} {L : List Int} (h : OwnV w B v L) (hs : ∀ k, v.ownBlock = some k → w'.heap[k]? = w.heap[k]?) : OwnV w' B v L := by
  refine ⟨h.1, ?_⟩
  rcases h.2 with h0 | ⟨g, cap, cur, rfl, hB, hc, h3⟩
  · exact .inl h0
  · exact .inr ⟨g, cap, cur, rfl, hB, (hs g rfl).trans hc, h3⟩
theorem Own1.bs {w : World} {B : Nat} {S : Nat → Prop} {r : Option Addr × Nat × List Int} (h : Own1 w B S r) : Bs w r.1 r.2.1 r.2.2 := h.1.bs' h.2.1 h.2.2.1
theorem Own1.turn {w w' : World} {B : Nat} {S S' : Nat → Prop} {r : Option Addr × Nat × List Int} (h : Own1 w B S r) (ht : Turn S S' w w') : Own1 w' B S' r :=
  ⟨h.1.same (fun k hk => ht.block k (h.1.lt k hk) (h.2.2.2 k hk)), h.2.1, h.2.2.1, fun b hb hs => h.2.2.2 b hb (ht.foot b (h.1.lt b hb) hs)⟩
theorem Own1.below {w w' : World} {B : Nat} {S : Nat → Prop} {r : Option Addr × Nat × List Int} (h : Own1 w B S r) (hb : Below w.heap.size w w') : Own1 w' B S r := h.turn (Turn.of_below hb)
theorem Own1.low {w : World} {B B' : Nat} {S : Nat → Prop} {r : Option Addr × Nat × List Int} (h : Own1 w B' S r) (hB : B ≤ B') : Own1 w B S r := ⟨h.1.lower hB, h.2⟩
theorem Own1.keep {α : Type} {enc : α → List Value} {k T : Nat} {w w' : World} {B B' : Nat} {S : Nat → Prop} {v : Value} {l : List α} {r : Option Addr × Nat × List Int} (h : Lst enc k T w B v l) (h' : Own1 w B' S r) (hne : T ≠ 5)
    (hk : ∀ j, j < w.heap.size → v.ownBlock ≠ some j → w'.heap[j]? = w.heap[j]?) : Own1 w' B' S r := ⟨h'.1.keep h hne hk, h'.2⟩
/-- A row that is not empty stands at the head of a block. -/
theorem Own1.at {w : World} {B : Nat} {S : Nat → Prop} {r : Option Addr × Nat × List Int} (h : Own1 w B S r) (hl : r.2.2 ≠ []) : ∃ b, r.1 = some ⟨b, 0, none⟩ := by
  rcases h.1.2 with ⟨e, h0⟩ | ⟨g, cap, cur, e, _⟩
  · exact absurd (List.eq_nil_of_length_eq_zero h0) hl
  · unfold slV at e
    simp only [Value.slice.injEq] at e
    exact ⟨g, e.1⟩
theorem slR_own {w : World} {B : Nat} {S : Nat → Prop} {r : Option Addr × Nat × List Int} (h : Own1 w B S r) : ∃ d, slR (slV r) = some (d, []) := by
  rcases h.1.2 with ⟨e, h0⟩ | ⟨g, cap, cur, e, _⟩
  · rw [e]; exact ⟨_, rfl⟩
  · rw [e]; exact ⟨_, rfl⟩

/-- Block gm is the map of the marks M; the image of each is a row of its own, none of whose blocks is among S. -/
def MkM (w : World) (B : Nat) (S : Nat → Prop) (gm n : Nat) (M : List (Int × List Int)) : Prop :=
  ∃ D, w.ownsMap Tryz.prog 3 slR gm n D ∧ (M.map (·.1)).Pairwise (· < ·) ∧ (∀ z : Int, Maps.has D (.int .i64 z) = (mkAt M z).isSome) ∧
    ∀ (z : Int) (I : List Int), mkAt M z = some I → ∃ a c d, Own1 w B S (a, c, I) ∧ slR (slV (a, c, I)) = some (d, []) ∧ ∀ zd, D.atKey (.int .i64 z) zd = d
section
variable {w w' : World} {B : Nat} {S S' : Nat → Prop} {gm n : Nat} {M : List (Int × List Int)}
theorem MkM.lt (h : MkM w B S gm n M) : gm < w.heap.size := by
  obtain ⟨D, h1, _⟩ := h
  exact h1.lt
theorem MkM.isMap (h : MkM w B S gm n M) : ∃ es clock, w.heap[gm]? = some (.map es clock) := by
  obtain ⟨D, ⟨es, clock, hb, _⟩, _⟩ := h
  exact ⟨es, clock, hb⟩
theorem MkM.rise (h : MkM w B S gm n M) : (M.map (·.1)).Pairwise (· < ·) := by
  obtain ⟨D, _, h1, _⟩ := h
  exact h1
/-- Other blocks turn. -/
theorem MkM.same (h : MkM w B S gm n M) (hs : w'.heap[gm]? = w.heap[gm]?) (ho : ∀ r, Own1 w B S r → Own1 w' B S' r) : MkM w' B S' gm n M := by
  obtain ⟨D, ⟨es, clock, hb, r⟩, h1, h2, h3⟩ := h
  refine ⟨D, ⟨es, clock, hs.trans hb, r⟩, h1, h2, fun z I hz => ?_⟩
  obtain ⟨a, c, d, q1, q2⟩ := h3 z I hz
  exact ⟨a, c, d, ho _ q1, q2⟩
theorem MkM.made (w : World) (B : Nat) (S : Nat → Prop) : MkM (w.alloc (.map #[] 0)) B S w.heap.size 0 [] :=
  ⟨.map [], World.ownsMap_made w _ _ _, List.Pairwise.nil, fun z => rfl, fun z I hz => by cases hz⟩
theorem MkM.look (h : MkM w B S gm n M) {z : Int} (hz : -9223372036854775808 ≤ z ∧ z ≤ 9223372036854775807) :
    ∃ v, (Instr.lookup 67 (.map (some gm)) (.int .i64 z) true).run Tryz.prog w = .ok (.tuple #[v, .bool (mkAt M z).isSome]) w ∧ (mkAt M z = none → v = .slice none 0 0) ∧ ∀ I, mkAt M z = some I → ∃ a c, Own1 w B S (a, c, I) ∧ v = .slice a I.length c := by
  obtain ⟨D, hown, _, hD, hI⟩ := h
  have hkey := Maps.keyOf_int_mk (P := Tryz.prog) Tryz.underlying3 (wf_of_range hz)
  have hz0 : slR (.slice none 0 0) = some (.agg [liN 0, liN 0], []) := rfl
  obtain ⟨v, ps, hrun, hv⟩ := hown.look_ok (Maps.int_keyed Tryz.underlying3) Tryz.underlying67 (zero_slice w) hz0 hkey
  refine ⟨v, by rw [hrun, hD], fun hn => ?_, fun I hs => ?_⟩
  · have hno : Maps.has D (.int .i64 z) = false := by rw [hD, hn]; rfl
    rw [Maps.atKey_of_not_has hno] at hv
    exact slR_inj hv hz0
  · obtain ⟨a, c, d, q1, q2, q3⟩ := hI z I hs
    rw [q3] at hv
    exact ⟨a, c, q1, slR_inj hv q2⟩
theorem MkM.store (h : MkM w B S gm n M) {z : Int} (hz : 0 ≤ z ∧ z ≤ 9223372036854775807) (hnew : ∀ x ∈ M, x.1 < z) {a : Option Addr} {c : Nat} {I : List Int} (hv : Own1 w B S (a, c, I)) (hn : n ≤ 100000) (hS : S gm) :
    ∃ w', (Instr.mapUpdate 67 (.map (some gm)) (.int .i64 z) (.slice a I.length c)).run Tryz.prog w = .ok () w' ∧ MkM w' B S gm (n + 1) (M ++ [(z, I)]) ∧ w.mapTurned w' gm := by
  obtain ⟨D, hown, hr, hD, hI⟩ := h
  obtain ⟨d, hd⟩ := slR_own hv
  have hK := Maps.int_keyed (P := Tryz.prog) Tryz.underlying3
  have hkey := Maps.keyOf_int_mk (P := Tryz.prog) Tryz.underlying3 (wf_of_range (z := z) ⟨by omega, hz.2⟩)
  obtain ⟨w', hrun, hown', ht⟩ := hown.store hK Tryz.underlying67 (by unfold maxLen; omega) hkey hd
  have hlit : WideAt.IsKeyLit (.int .i64 z) := hK.key hkey
  have htn : Turn S S w w' := Turn.grown ht.grown (fun k hk => by cases hk; exact hS)
  refine ⟨w', hrun, ⟨_, hown', ?_, fun y => ?_, fun y J hy => ?_⟩, ht⟩
  · rw [List.map_append]
    refine List.pairwise_append.2 ⟨hr, by simp, fun x hx y hy => ?_⟩
    obtain ⟨u, hu, rfl⟩ := List.mem_map.1 hx
    simp at hy
    subst hy
    exact hnew u hu
  · rw [mkAt_snoc hnew]
    by_cases e : y = z
    · subst e
      rw [if_pos rfl, Maps.has_put_same hown.isMap hlit]
      rfl
    · have hne : Lit.int .i64 y ≠ Lit.int .i64 z := by
        intro e2; simp only [Lit.int.injEq, true_and] at e2; exact e e2
      rw [if_neg e, Maps.has_put_other hne, hD]
  · rw [mkAt_snoc hnew] at hy
    by_cases e : y = z
    · subst e
      rw [if_pos rfl] at hy
      obtain rfl := Option.some.inj hy
      exact ⟨a, c, d, hv.turn htn, hd, fun zd => Maps.atKey_put_same hown.isMap hlit _ _⟩
    · have hne : Lit.int .i64 y ≠ Lit.int .i64 z := by
        intro e2; simp only [Lit.int.injEq, true_and] at e2; exact e e2
      rw [if_neg e] at hy
      obtain ⟨a', c', d', q1, q2, q3⟩ := hI y J hy
      exact ⟨a', c', d', q1.turn htn, q2, fun zd => by rw [Maps.atKey_put_other hne]; exact q3 zd⟩
/-- The keys of the map are the marks' numbers. -/
theorem MkM.keys {D : DataW Unit} (hown : w.ownsMap Tryz.prog 3 slR gm n D) (hr : (M.map (·.1)).Pairwise (· < ·)) (hD : ∀ z : Int, Maps.has D (.int .i64 z) = (mkAt M z).isSome) : (M.map (·.1)).Perm (intKeys D) := by
  refine CollectedI.perm (left := fun _ => false) ⟨?_, fun z => ?_⟩ hown (Maps.int_keyed Tryz.underlying3) Tryz.underlying3 (fun _ => rfl)
  · exact hr.imp (fun hlt e => by omega)
  · rw [hD, mkAt_some]
    simp
/-- What is gone behind a Back. -/
def gone (m : Int) (k : Lit) (_ : DataW Unit) : Bool := match k with | .int _ z => decide (m < z) | _ => false
theorem has_gone {m z : Int} (es : List (Lit × DataW Unit)) : Maps.has (Lib.deleteFuncD (gone m) (.map es)) (.int .i64 z) = (Maps.has (DataW.map es) (.int .i64 z) && decide (z ≤ m)) := by
  show (es.filter fun p => !gone m p.1 p.2).any (fun p => p.1.sameKey (.int .i64 z)) = (es.any (fun p => p.1.sameKey (.int .i64 z)) && decide (z ≤ m))
  induction es with
  | nil => rfl
  | cons p r ih =>
    rw [List.filter_cons, List.any_cons]
    by_cases e : p.1 = .int .i64 z
    · have hg : gone m p.1 p.2 = decide (m < z) := by rw [e]; rfl
      have hs : p.1.sameKey (.int .i64 z) = true := by rw [e]; simp [Lit.sameKey]
      rw [hg, hs]
      by_cases hz : z ≤ m
      · rw [if_pos (by simp; omega), List.any_cons, hs]; simp [hz]
      · rw [if_neg (by simp; omega), ih]; simp [hz]
    · have hs : p.1.sameKey (.int .i64 z) = false := Maps.sameKey_ne e
      rw [hs, Bool.false_or]
      split
      · rw [List.any_cons, hs, Bool.false_or, ih]
      · exact ih
theorem at_gone {m z : Int} (hz : z ≤ m) (es : List (Lit × DataW Unit)) (zd : DataW Unit) : (Lib.deleteFuncD (gone m) (.map es)).atKey (.int .i64 z) zd = (DataW.map es).atKey (.int .i64 z) zd := by
  unfold Lib.deleteFuncD DataW.atKey
  dsimp only
  rw [Maps.find_filter_keep (fun p hp => ?_)]
  have e := WideAt.sameKey_eq hp
  rw [e]
  simp [gone]
  omega
theorem MkM.cut (h : MkM w B S gm n M) {m : Int} (hS : S gm) {D : DataW Unit} (hown : w.ownsMap Tryz.prog 3 slR gm n D) (hD : ∀ z : Int, Maps.has D (.int .i64 z) = (mkAt M z).isSome)
    (hI : ∀ (z : Int) (I : List Int), mkAt M z = some I → ∃ a c d, Own1 w B S (a, c, I) ∧ slR (slV (a, c, I)) = some (d, []) ∧ ∀ zd, D.atKey (.int .i64 z) zd = d)
    (hown' : w'.ownsMap Tryz.prog 3 slR gm n (Lib.deleteFuncD (gone m) D)) (hg : w.grownBy w' (some gm)) : MkM w' B S gm n (mkCut M m) := by
  have hr := h.rise
  obtain ⟨es, rfl⟩ := hown.isMap
  have htn : Turn S S w w' := Turn.grown hg (fun k hk => by cases hk; exact hS)
  refine ⟨_, hown', mkCut_rise hr, fun z => ?_, fun z I hz => ?_⟩
  · rw [has_gone, hD, mkAt_cut]
    by_cases hz : z ≤ m
    · simp [hz]
    · simp [hz]
  · rw [mkAt_cut] at hz
    by_cases hzm : z ≤ m
    · rw [if_pos hzm] at hz
      obtain ⟨a, c, d, q1, q2, q3⟩ := hI z I hz
      exact ⟨a, c, d, q1.turn htn, q2, fun zd => by rw [at_gone hzm]; exact q3 zd⟩
    · rw [if_neg hzm] at hz
      cases hz
end
end Go.Proofs.YtopblhmbjdfebaaGreat
/-! The library's maps.DeleteFunc at this program: laid off the shelf. (Part of the proofs over package undo.) -/
namespace Go.Proofs.YtopblhmbjdfebaaGreat
open Go.RowKit Go.Shelf
set_option linter.unusedVariables false
def mpDel_ren : Ren := { f := fun | 5 => 29 | n => n, t := fun | 23 => 67 | 26 => 3 | 24 => 22 | 27 => 74 | 0 => 0 | 4 => 4 | n => n, g := fun n => n }
theorem mpDel : SlLaysDf.n5 Tryz.prog mpDel_ren := { mixed := by kernel_rfl, f5 := ⟨ "maps.DeleteFunc[map[int][]byte,int,[]byte]", by decide, Tryz.func29.trans rfl⟩, t0 := Tryz.underlying0, a0 := Tryz.isAgg0, z0 := Tryz.sizeOf0, v0 := Tryz.zeroValue0, t4 := Tryz.underlying4, a4 := Tryz.isAgg4, z4 := Tryz.sizeOf4, v4 := Tryz.zeroValue4, t23 := Tryz.underlying67, a23 := Tryz.isAgg67, z23 := Tryz.sizeOf67, v23 := Tryz.zeroValue67, a24 := Tryz.isAgg22, z24 := Tryz.sizeOf22, a26 := Tryz.isAgg3, z26 := Tryz.sizeOf3, t27 := Tryz.underlying74, a27 := Tryz.isAgg74, z27 := Tryz.sizeOf74, v27 := Tryz.zeroValue74 }
end Go.Proofs.YtopblhmbjdfebaaGreat
/-! The library's slices.Sorted and maps.Keys at this program: laid off the shelf. (Part of the proofs over package view.) -/
namespace Go.Proofs.YtopblhmbjdfebaaGreat
open Go.RowKit Go.Maps Go.Sort Go.Shelf
set_option linter.unusedVariables false
def keysA_ren : Ren := { f := fun | 7 => 50 | 10 => 85 | n => n, t := fun | 23 => 67 | 26 => 3 | 3 => 22 | 28 => 109 | 0 => 0 | 27 => 108 | 33 => 63 | 4 => 4 | n => n, g := fun n => n }
theorem keysA : SlLaysZI.n7 Tryz.prog keysA_ren := { mixed := by kernel_rfl, f7 := ⟨ "maps.Keys[map[int][]byte,int,[]byte]", by decide, Tryz.func50.trans rfl⟩, f10 := ⟨ "maps.Keys[map[int][]byte,int,[]byte]$1", by decide, Tryz.func85.trans rfl⟩, t0 := Tryz.underlying0, a0 := Tryz.isAgg0, z0 := Tryz.sizeOf0, v0 := Tryz.zeroValue0, t4 := Tryz.underlying4, a4 := Tryz.isAgg4, z4 := Tryz.sizeOf4, v4 := Tryz.zeroValue4, t23 := Tryz.underlying67, a23 := Tryz.isAgg67, z23 := Tryz.sizeOf67, v23 := Tryz.zeroValue67, t26 := Tryz.underlying3, a26 := Tryz.isAgg3, z26 := Tryz.sizeOf3, v26 := Tryz.zeroValue3, t27 := Tryz.underlying108, a27 := Tryz.isAgg108, z27 := Tryz.sizeOf108, v27 := Tryz.zeroValue108, t28 := Tryz.underlying109, a28 := Tryz.isAgg109, z28 := Tryz.sizeOf109, v28 := Tryz.zeroValue109, t33 := Tryz.underlying63, a33 := Tryz.isAgg63, z33 := Tryz.sizeOf63, v33 := Tryz.zeroValue63 }
def sortedA_ren : Ren := { f := fun | 6 => 49 | 8 => 83 | 9 => 84 | 11 => 115 | 13 => 117 | 12 => 116 | 23 => 143 | 24 => 144 | 14 => 134 | 15 => 135 | 16 => 136 | 17 => 137 | 18 => 138 | 19 => 139 | 20 => 140 | 21 => 141 | 22 => 142 | 25 => 156 | 26 => 157 | 27 => 158 | 28 => 159 | 29 => 160 | 30 => 161 | 31 => 164 | n => n, t := fun | 26 => 3 | 28 => 109 | 24 => 24 | 0 => 0 | 3 => 3 | 37 => 176 | 48 => 197 | 50 => 199 | 4 => 4 | 40 => 190 | 39 => 189 | 45 => 100 | 5 => 5 | 9 => 9 | 51 => 207 | 55 => 211 | 57 => 215 | 58 => 216 | 33 => 63 | n => n, g := fun n => n }
theorem sortedA : SlLaysZI.n6 Tryz.prog sortedA_ren := { mixed := by kernel_rfl, f6 := ⟨ "slices.Sorted[int]", by decide, Tryz.func49.trans rfl⟩, f8 := ⟨ "slices.Collect[int]", by decide, Tryz.func83.trans rfl⟩, f11 := ⟨ "slices.AppendSeq[[]int,int]", by decide, Tryz.func115.trans rfl⟩, t0 := Tryz.underlying0, a0 := Tryz.isAgg0, z0 := Tryz.sizeOf0, v0 := Tryz.zeroValue0, t24 := Tryz.underlying24, a24 := Tryz.isAgg24, z24 := Tryz.sizeOf24, v24 := Tryz.zeroValue24, t26 := Tryz.underlying3, a26 := Tryz.isAgg3, z26 := Tryz.sizeOf3, v26 := Tryz.zeroValue3, t28 := Tryz.underlying109, a28 := Tryz.isAgg109, z28 := Tryz.sizeOf109, v28 := Tryz.zeroValue109, i26 := by kernel_rfl }
def sortA_ren : Ren := { f := fun | 5 => 84 | 8 => 117 | 7 => 116 | 19 => 143 | 20 => 144 | 10 => 134 | 11 => 135 | 12 => 136 | 13 => 137 | 14 => 138 | 15 => 139 | 16 => 140 | 17 => 141 | 18 => 142 | 30 => 156 | 31 => 157 | 32 => 158 | 33 => 159 | 34 => 160 | 35 => 161 | 40 => 164 | n => n, t := fun | 23 => 24 | 25 => 3 | 3 => 3 | 32 => 176 | 22 => 24 | 0 => 0 | 44 => 197 | 46 => 199 | 4 => 4 | 36 => 190 | 35 => 189 | 41 => 100 | 5 => 5 | 9 => 9 | 53 => 207 | 57 => 211 | 63 => 215 | 64 => 216 | n => n, g := fun n => n }
theorem sortA : SlLaysM.n5 Tryz.prog sortA_ren := { mixed := by kernel_rfl, f5 := ⟨ "slices.Sort[[]int,int]", by decide, Tryz.func84.trans rfl⟩, f7 := ⟨ "slices.pdqsortOrdered[int]", by decide, Tryz.func116.trans rfl⟩, f8 := Tryz.func117.trans rfl, f10 := ⟨ "slices.insertionSortOrdered[int]", by decide, Tryz.func134.trans rfl⟩, f11 := ⟨ "slices.heapSortOrdered[int]", by decide, Tryz.func135.trans rfl⟩, f12 := ⟨ "slices.breakPatternsOrdered[int]", by decide, Tryz.func136.trans rfl⟩, f13 := ⟨ "slices.choosePivotOrdered[int]", by decide, Tryz.func137.trans rfl⟩, f14 := ⟨ "slices.reverseRangeOrdered[int]", by decide, Tryz.func138.trans rfl⟩, f15 := ⟨ "slices.partialInsertionSortOrdered[int]", by decide, Tryz.func139.trans rfl⟩, f16 := ⟨ "cmp.Less[int]", by decide, Tryz.func140.trans rfl⟩, f17 := ⟨ "slices.partitionEqualOrdered[int]", by decide, Tryz.func141.trans rfl⟩, f18 := ⟨ "slices.partitionOrdered[int]", by decide, Tryz.func142.trans rfl⟩, f19 := Tryz.func143.trans rfl, f20 := Tryz.func144.trans rfl, f30 := ⟨ "slices.siftDownOrdered[int]", by decide, Tryz.func156.trans rfl⟩, f31 := Tryz.func157.trans rfl, f32 := Tryz.func158.trans rfl, f33 := ⟨ "slices.medianAdjacentOrdered[int]", by decide, Tryz.func159.trans rfl⟩, f34 := ⟨ "slices.medianOrdered[int]", by decide, Tryz.func160.trans rfl⟩, f35 := ⟨ "cmp.isNaN[int]", by decide, Tryz.func161.trans rfl⟩, f40 := ⟨ "slices.order2Ordered[int]", by decide, Tryz.func164.trans rfl⟩, t0 := Tryz.underlying0, a0 := Tryz.isAgg0, z0 := Tryz.sizeOf0, v0 := Tryz.zeroValue0, t3 := Tryz.underlying3, a3 := Tryz.isAgg3, z3 := Tryz.sizeOf3, v3 := Tryz.zeroValue3, t4 := Tryz.underlying4, a4 := Tryz.isAgg4, z4 := Tryz.sizeOf4, v4 := Tryz.zeroValue4, t5 := Tryz.underlying5, a5 := Tryz.isAgg5, z5 := Tryz.sizeOf5, v5 := Tryz.zeroValue5, t9 := Tryz.underlying9, a9 := Tryz.isAgg9, z9 := Tryz.sizeOf9, v9 := Tryz.zeroValue9, t22 := Tryz.underlying24, a22 := Tryz.isAgg24, z22 := Tryz.sizeOf24, v22 := Tryz.zeroValue24, t23 := Tryz.underlying24, a23 := Tryz.isAgg24, z23 := Tryz.sizeOf24, v23 := Tryz.zeroValue24, t25 := Tryz.underlying3, a25 := Tryz.isAgg3, z25 := Tryz.sizeOf3, v25 := Tryz.zeroValue3, t32 := Tryz.underlying176, a32 := Tryz.isAgg176, z32 := Tryz.sizeOf176, v32 := Tryz.zeroValue176, t35 := Tryz.underlying189, a35 := Tryz.isAgg189, z35 := Tryz.sizeOf189, v35 := Tryz.zeroValue189, t36 := Tryz.underlying190, a36 := Tryz.isAgg190, z36 := Tryz.sizeOf190, v36 := Tryz.zeroValue190, t41 := Tryz.underlying100, a41 := Tryz.isAgg100, z41 := Tryz.sizeOf100, v41 := Tryz.zeroValue100, t44 := Tryz.underlying197, a44 := Tryz.isAgg197, z44 := Tryz.sizeOf197, v44 := Tryz.zeroValue197, t46 := Tryz.underlying199, a46 := Tryz.isAgg199, z46 := Tryz.sizeOf199, v46 := Tryz.zeroValue199, t53 := Tryz.underlying207, a53 := Tryz.isAgg207, z53 := Tryz.sizeOf207, v53 := Tryz.zeroValue207, t57 := Tryz.underlying211, a57 := Tryz.isAgg211, z57 := Tryz.sizeOf211, v57 := Tryz.zeroValue211, t63 := Tryz.underlying215, a63 := Tryz.isAgg215, z63 := Tryz.sizeOf215, v63 := Tryz.zeroValue215, t64 := Tryz.underlying216, a64 := Tryz.isAgg216, z64 := Tryz.sizeOf216, v64 := Tryz.zeroValue216 }
/-- slices.Sort's two contracts at this program, at the fence that asks nothing. -/
theorem sortsA (m : Nat) : AnyZI.SortsIn Tryz.prog sortedA_ren Fence.wide m :=
  ⟨fun blk off cap ss W hH hblk hsz => callsIn_wide.2 (AnyM.slices_Sort_int sortA blk off cap ss W hH hblk hsz),
   fun p cap W => callsIn_wide.2 (AnyM.slices_Sort_int_none sortA p cap W)⟩
end Go.Proofs.YtopblhmbjdfebaaGreat
/-! How an Undo stands in memory; contracts of New, Mark, then. (Part of the proofs over package undo.) -/
namespace Go.Proofs.YtopblhmbjdfebaaGreat
open Go.RowKit
set_option linter.unusedVariables false

/-- The blocks of an Undo: its own, its map's, and the heap's. -/
def ft (u gm p g : Nat) (k : Nat) : Prop := k = u ∨ k = gm ∨ foot p g k
/-- At u is an Undo of the heap at p (its image L in row g); n was the last mark's number; M are the marks, in the map gm. -/
structure Ud (w : World) (B u gm p g c : Nat) (L : List Int) (n : Nat) (M : List (Int × List Int)) : Prop where
  bu : B ≤ u
  bm : B ≤ gm
  uf : ¬ foot p g u
  mf : ¬ foot p g gm
  blk : w.heap[u]? = some (.cells #[.pointer (some ⟨p, 0, none⟩), .int .i64 n, .map (some gm)] 69 (0, 0))
  hp : Hp w B p g c L
  map : MkM w B (ft u gm p g) gm n M
  num : ∀ x ∈ M, 1 ≤ x.1 ∧ x.1 ≤ (n : Int)
  img : ∀ x ∈ M, Fine x.2 ∧ x.2.length = L.length
section
variable {w w' : World} {B u gm p g c : Nat} {L : List Int} {n : Nat} {M : List (Int × List Int)}
theorem Ud.ult (h : Ud w B u gm p g c L n M) : u < w.heap.size := (Array.getElem?_eq_some_iff.1 h.blk).1
theorem Ud.ne (h : Ud w B u gm p g c L n M) : gm ≠ u := by
  intro e
  obtain ⟨es, clock, hb⟩ := h.map.isMap
  rw [e, h.blk] at hb
  simp at hb
theorem Ud.cells (h : Ud w B u gm p g c L n M) : w.cell? ⟨u, 0, none⟩ = some (.pointer (some ⟨p, 0, none⟩)) ∧ w.cell? ⟨u, 1, none⟩ = some (.int .i64 n) ∧ w.cell? ⟨u, 2, none⟩ = some (.map (some gm)) := by
  refine ⟨?_, ?_, ?_⟩ <;> rw [cell_of_row _ _ _ _ _ _ h.blk] <;> rfl
theorem Ud.ge (h : Ud w B u gm p g c L n M) (k : Nat) (hk : ft u gm p g k) : B ≤ k := by
  rcases hk with rfl | rfl | hk
  · exact h.bu
  · exact h.bm
  · exact h.hp.foot_ge k hk
theorem turn_ft {u gm p g g' : Nat} (ht : Turn (foot p g) (foot p g') w w') : Turn (ft u gm p g) (ft u gm p g') w w' :=
  ⟨ht.os, ht.tape, ht.output, ht.size, fun k hk hn => ht.block k hk (fun hf => hn (.inr (.inr hf))), fun k hk hs => by
    rcases hs with rfl | rfl | hs
    · exact .inl rfl
    · exact .inr (.inl rfl)
    · exact .inr (.inr (ht.foot k hk hs))⟩
/-- Something is done with the heap. -/
theorem Ud.heap (h : Ud w B u gm p g c L n M) {g' c' : Nat} {L' : List Int} (hh : Hp w' B p g' c' L') (ht : Turn (foot p g) (foot p g') w w') (hl : L'.length = L.length) : Ud w' B u gm p g' c' L' n M :=
  ⟨h.bu, h.bm, fun hf => h.uf (ht.foot u h.ult hf), fun hf => h.mf (ht.foot gm h.map.lt hf), (ht.block u h.ult h.uf).trans h.blk, hh,
    h.map.same (ht.block gm h.map.lt h.mf) (fun r hr => hr.turn (turn_ft ht)), h.num, fun x hx => ⟨(h.img x hx).1, (h.img x hx).2.trans hl.symm⟩⟩
theorem Ud.below (h : Ud w B u gm p g c L n M) (hb : Below w.heap.size w w') : Ud w' B u gm p g c L n M := h.heap (h.hp.below hb) (Turn.of_below hb) rfl

/-! ### New -/
theorem uNew_any (h : Hp w B p g c L) (hB : B ≤ w.heap.size) :
    Calls Tryz.prog 6 #[.pointer (some ⟨p, 0, none⟩)] w fun e w' => ∃ u gm, e = .returned (.pointer (some ⟨u, 0, none⟩)) ∧ Ud w' B u gm p g c L 0 [] ∧ Below w.heap.size w w' := by
  have HH := hide h
  clear h
  have hmm := @run_makeMap Tryz.prog
  go_enter Tryz.func6, Tryz.ntmps6
  go_wp2
  go_ret
  have hb1 : Below w.heap.size w (w.alloc (.map #[] 0)) := (Below.refl _ _).alloc (Nat.le_refl _) _
  have hb2 : Below w.heap.size w ((w.alloc (.map #[] 0)).alloc (.cells #[.pointer (some ⟨p, 0, none⟩), .int .i64 0, .map (some w.heap.size)] 69)) := hb1.alloc hb1.size _
  have hp := (unhide HH).plt
  have hg := (unhide HH).glt
  refine ⟨w.heap.size + 1, w.heap.size, by simp, ⟨by omega, hB, fun hf => ?_, fun hf => ?_, ?_, (unhide HH).below hb2, ?_, fun x hx => (by cases hx), fun x hx => (by cases hx)⟩, hb2⟩
  · rcases hf with e | e <;> omega
  · rcases hf with e | e <;> omega
  · have := heap_alloc_new (w.alloc (.map #[] 0)) (.cells #[.pointer (some ⟨p, 0, none⟩), .int .i64 0, .map (some w.heap.size)] 69)
    rw [sz_alloc] at this
    exact this
  · refine (MkM.made w B (ft (w.heap.size + 1) w.heap.size p g)).same (Below.heap_alloc _ _ _ (by rw [sz_alloc]; omega)) (fun r hr => hr.below ((Below.refl _ _).alloc (Nat.le_refl _) _))

/-! ### then -/
theorem then_no (h : Ud w B u gm p g c L n M) {m : Int} (hm : -9223372036854775808 ≤ m ∧ m ≤ 9223372036854775807) (hn : mkAt M m = none) :
    Calls Tryz.prog 27 #[.pointer (some ⟨u, 0, none⟩), .int .i64 m] w fun e w' => e = .returned (.tuple #[.slice none 0 0, errV 5]) ∧ w = w' := by
  obtain ⟨v, hrun, hv, _⟩ := h.map.look hm
  obtain rfl := hv hn
  obtain ⟨c0, c1, c2⟩ := h.cells
  rw [hn] at hrun
  rw [errV_pos 5 (by decide)]
  clear h hv hn c0 c1
  go_enter Tryz.func27, Tryz.ntmps27
  go_wp2
  go_ret2
  exact ⟨rfl, rfl⟩
theorem then_yes (h : Ud w B u gm p g c L n M) {m : Int} (hm : -9223372036854775808 ≤ m ∧ m ≤ 9223372036854775807) {I : List Int} (hI : mkAt M m = some I) :
    ∃ a cap, Own1 w B (ft u gm p g) (a, cap, I) ∧ Calls Tryz.prog 27 #[.pointer (some ⟨u, 0, none⟩), .int .i64 m] w fun e w' => e = .returned (.tuple #[.slice a I.length cap, .nilIface]) ∧ w = w' := by
  obtain ⟨v, hrun, _, hv⟩ := h.map.look hm
  obtain ⟨a, cap, ho, rfl⟩ := hv I hI
  obtain ⟨c0, c1, c2⟩ := h.cells
  rw [hI] at hrun
  refine ⟨a, cap, ho, ?_⟩
  clear h hv hI c0 c1 ho
  generalize I.length = N at *
  go_enter Tryz.func27, Tryz.ntmps27
  go_wp2
  go_ret2
  exact ⟨rfl, rfl⟩
end
end Go.Proofs.YtopblhmbjdfebaaGreat
/-! Contracts of package undo: Mark. (Part of the proofs over package undo.) -/
namespace Go.Proofs.YtopblhmbjdfebaaGreat
open Go.RowKit
set_option linter.unusedVariables false

section
variable {w w' : World} {B u gm p g c : Nat} {L : List Int} {n : Nat} {M : List (Int × List Int)}
theorem Hp.same (h : Hp w B p g c L) (hp : w'.heap[p]? = w.heap[p]?) (hg : w'.heap[g]? = w.heap[g]?) : Hp w' B p g c L := by
  obtain ⟨cur, hr⟩ := h.row
  exact ⟨h.bp, h.ne, hp.trans h.blk, ⟨cur, hr.1, hg.trans hr.2.1, hr.2.2⟩, h.byt, h.fine⟩
theorem Ud.lt (h : Ud w B u gm p g c L n M) (k : Nat) (hk : ft u gm p g k) : k < w.heap.size := by
  rcases hk with rfl | rfl | rfl | rfl
  · exact h.ult
  · exact h.map.lt
  · exact h.hp.plt
  · exact h.hp.glt
/-- The number of the last mark is one more. -/
theorem Ud.more (h : Ud w B u gm p g c L n M) :
    (w.setCell ⟨u, 1, none⟩ (.int .i64 ((n : Int) + 1))).heap[u]? = some (.cells #[.pointer (some ⟨p, 0, none⟩), .int .i64 ((n : Int) + 1), .map (some gm)] 69 (0, 0)) ∧
    Hp (w.setCell ⟨u, 1, none⟩ (.int .i64 ((n : Int) + 1))) B p g c L ∧ MkM (w.setCell ⟨u, 1, none⟩ (.int .i64 ((n : Int) + 1))) B (ft u gm p g) gm n M ∧ Turn (ft u gm p g) (ft u gm p g) w (w.setCell ⟨u, 1, none⟩ (.int .i64 ((n : Int) + 1))) := by
  have ht : Turn (ft u gm p g) (ft u gm p g) w (w.setCell ⟨u, 1, none⟩ (.int .i64 ((n : Int) + 1))) := Turn.setCell w _ (.inl rfl)
  have ho : ∀ k, k ≠ u → (w.setCell ⟨u, 1, none⟩ (.int .i64 ((n : Int) + 1))).heap[k]? = w.heap[k]? := fun k hk => heap_setCell_other _ _ _ _ hk
  refine ⟨?_, h.hp.same (ho p (fun e => h.uf (.inl e.symm))) (ho g (fun e => h.uf (.inr e.symm))), h.map.same (ho gm h.ne) (fun r hr => hr.turn ht), ht⟩
  rw [heap_setCell_same w u 1 _ _ _ h.blk]
  rfl
set_option maxRecDepth 100000 in
set_option maxHeartbeats 1000000 in
theorem uMark_any (h : Ud w B u gm p g c L n M) (hB : B ≤ w.heap.size) (hn : n ≤ 90000) :
    Calls Tryz.prog 7 #[.pointer (some ⟨u, 0, none⟩)] w fun e w' => e = .returned (.int .i64 ((n : Int) + 1)) ∧ Ud w' B u gm p g c L (n + 1) (M ++ [((n : Int) + 1, L)]) ∧ Turn (ft u gm p g) (ft u gm p g) w w' := by
  obtain ⟨c0, c1, c2⟩ := h.cells
  have hf1 : w.frozen? ⟨u, 1, none⟩ = false := frozen_of_row w u 1 _ _ h.blk
  obtain ⟨m1, m2, m3, m4⟩ := h.more
  have hult := h.ult
  have hsz1 : (w.setCell ⟨u, 1, none⟩ (.int .i64 ((n : Int) + 1))).heap.size = w.heap.size := by simp
  have hcs : (w.setCell ⟨u, 1, none⟩ (.int .i64 ((n : Int) + 1))).cell? ⟨u, 0, none⟩ = some (.pointer (some ⟨p, 0, none⟩)) ∧ (w.setCell ⟨u, 1, none⟩ (.int .i64 ((n : Int) + 1))).cell? ⟨u, 1, none⟩ = some (.int .i64 ((n : Int) + 1)) ∧ (w.setCell ⟨u, 1, none⟩ (.int .i64 ((n : Int) + 1))).cell? ⟨u, 2, none⟩ = some (.map (some gm)) := by
    refine ⟨?_, ?_, ?_⟩ <;> rw [cell_of_row _ _ _ _ _ _ m1] <;> rfl
  obtain ⟨d0, d1, d2⟩ := hcs
  have HBY : Hid (Calls Tryz.prog 9 #[.pointer (some ⟨p, 0, none⟩)] (w.setCell ⟨u, 1, none⟩ (.int .i64 ((n : Int) + 1))).drew fun e w2 => ∃ a' c' w3, e = .returned (.slice a' L.length c') ∧ (Instr.mapUpdate 67 (.map (some gm)) (.int .i64 ((n : Int) + 1)) (.slice a' L.length c')).run Tryz.prog w2 = .ok () w3 ∧
      w2.cell? ⟨u, 0, none⟩ = some (.pointer (some ⟨p, 0, none⟩)) ∧ w2.cell? ⟨u, 1, none⟩ = some (.int .i64 ((n : Int) + 1)) ∧ w2.cell? ⟨u, 2, none⟩ = some (.map (some gm)) ∧ w3.cell? ⟨u, 0, none⟩ = some (.pointer (some ⟨p, 0, none⟩)) ∧ w3.cell? ⟨u, 1, none⟩ = some (.int .i64 ((n : Int) + 1)) ∧ w3.cell? ⟨u, 2, none⟩ = some (.map (some gm)) ∧ Ud w3 B u gm p g c L (n + 1) (M ++ [((n : Int) + 1, L)]) ∧ Turn (ft u gm p g) (ft u gm p g) w w3) := hide (by
    refine (hBytes_any p g c B L _ (show Hp (w.setCell ⟨u, 1, none⟩ (.int .i64 ((n : Int) + 1))).drew B p g c L from ⟨m2.bp, m2.ne, m2.blk, m2.row, m2.byt, m2.fine⟩)).mono ?_
    rintro e w2 ⟨a', c', rfl, ho, hb2⟩
    have hb2' : Below w.heap.size (w.setCell ⟨u, 1, none⟩ (.int .i64 ((n : Int) + 1))) w2 := ⟨hb2.os, hb2.tape, hb2.output, by simpa using hb2.size, fun k hk => hb2.block k (by simpa using hk)⟩
    have hblk : ∀ k, k < w.heap.size → w2.heap[k]? = (w.setCell ⟨u, 1, none⟩ (.int .i64 ((n : Int) + 1))).heap[k]? := hb2'.block
    have ht12 : Turn (ft u gm p g) (ft u gm p g) (w.setCell ⟨u, 1, none⟩ (.int .i64 ((n : Int) + 1))) w2 := Turn.of_below (by rw [hsz1]; exact hb2')
    have hsz : (w.setCell ⟨u, 1, none⟩ (.int .i64 ((n : Int) + 1))).drew.heap.size = w.heap.size := hsz1
    rw [hsz] at ho
    have hm2 : MkM w2 B (ft u gm p g) gm n M := m3.same (hblk gm h.map.lt) (fun r hr => hr.turn ht12)
    have hown : Own1 w2 B (ft u gm p g) (a', c', L) := ⟨ho.lower hB, h.hp.byt, by have := h.hp.len; dsimp only; omega, fun b hb hs => by have h1 := ho.block b hb; have h2 := h.lt b hs; omega⟩
    obtain ⟨w3, hrun, hm3, htn⟩ := hm2.store (z := (n : Int) + 1) (by omega) (fun x hx => by have := h.num x hx; omega) hown (by omega) (.inr (.inl rfl))
    have ht23 : Turn (ft u gm p g) (ft u gm p g) w2 w3 := Turn.grown htn.grown (fun k hk => by cases hk; exact .inr (.inl rfl))
    have hb3 : ∀ k, k < w.heap.size → k ≠ gm → w3.heap[k]? = w2.heap[k]? := fun k hk hne => htn.grown.block k (by have := hb2'.size; simp at this; omega) (fun e => hne (Option.some.inj e))
    have hu2 := (hblk u hult).trans m1
    have hu3 := (hb3 u hult (fun e => h.ne e.symm)).trans hu2
    refine ⟨a', c', w3, rfl, hrun, ?_, ?_, ?_, ?_, ?_, ?_, ⟨h.bu, h.bm, h.uf, h.mf, ?_, ?_, hm3, fun x hx => ?_, fun x hx => ?_⟩, (m4.trans ht12).trans ht23⟩
    · rw [cell_of_row _ _ _ _ _ _ hu2]; rfl
    · rw [cell_of_row _ _ _ _ _ _ hu2]; rfl
    · rw [cell_of_row _ _ _ _ _ _ hu2]; rfl
    · rw [cell_of_row _ _ _ _ _ _ hu3]; rfl
    · rw [cell_of_row _ _ _ _ _ _ hu3]; rfl
    · rw [cell_of_row _ _ _ _ _ _ hu3]; rfl
    · rw [hu3]; simp
    · exact m2.same ((hb3 p h.hp.plt (fun e => h.mf (.inl e.symm))).trans (hblk p h.hp.plt)) ((hb3 g h.hp.glt (fun e => h.mf (.inr e.symm))).trans (hblk g h.hp.glt))
    · rcases List.mem_append.1 hx with hx | hx
      · have := h.num x hx; omega
      · rw [List.mem_singleton.1 hx]; dsimp only; omega
    · rcases List.mem_append.1 hx with hx | hx
      · exact h.img x hx
      · rw [List.mem_singleton.1 hx]; exact ⟨h.hp.fine, rfl⟩)
  clear h m1 m2 m3 m4 hsz1 hB
  generalize L.length = N at *
  go_enter Tryz.func7, Tryz.ntmps7
  go_wp2_with fail
  generalize w.setCell ⟨u, 1, none⟩ (.int .i64 ((n : Int) + 1)) = w1 at *
  go_region_held3 (fun w' => w'.cell? ⟨u, 0, none⟩ = some (.pointer (some ⟨p, 0, none⟩)) ∧ w'.cell? ⟨u, 1, none⟩ = some (.int .i64 ((n : Int) + 1)) ∧ w'.cell? ⟨u, 2, none⟩ = some (.map (some gm))) (first | exact ⟨s0, s1, s2⟩ | go_keep | (go_split_ands; refine ⟨?_, ?_, ?_⟩ <;> go_keep))
    ((go_at_call 9; refine (unhide HBY).mono ?_; rintro e w2 ⟨a', c', w3, rfl, hrun, r0, r1, r2, s0, s1, s2, hud, ht⟩))
  have HU := hide hud
  have HT := hide ht
  clear hud ht HBY c0 c1 c2 d0 d1 d2 r0 r1 r2 s0 s2
  go_wp2
  go_ret
  exact ⟨rfl, unhide HU, unhide HT⟩
end
end Go.Proofs.YtopblhmbjdfebaaGreat
/-! Contracts of package undo: Back. (Part of the proofs over package undo.) -/
namespace Go.Proofs.YtopblhmbjdfebaaGreat
open Go.RowKit Go.Shelf
set_option linter.unusedVariables false

section
variable {w w' : World} {B u gm p g c : Nat} {L : List Int} {n : Nat} {M : List (Int × List Int)}
/-! ### Back -/
theorem back1_any (m x : Int) (v : Value) (b : Nat) (W : World) (hc : W.cell? ⟨b, 0, none⟩ = some (.int .i64 m)) :
    Calls Tryz.prog 30 #[.int .i64 x, v, .pointer (some ⟨b, 0, none⟩)] W fun e w' => e = .returned (.bool (decide (m < x))) ∧ W = w' := by
  go_enter Tryz.func30, Tryz.ntmps30
  go_wp2
  all_goals (go_ret; exact ⟨by simp_all, rfl⟩)
theorem uBack_no (h : Ud w B u gm p g c L n M) {m : Int} (hm : -9223372036854775808 ≤ m ∧ m ≤ 9223372036854775807) (hn : mkAt M m = none) :
    Calls Tryz.prog 8 #[.pointer (some ⟨u, 0, none⟩), .int .i64 m] w fun e w' => e = .returned (errV 5) ∧ Below w.heap.size w w' := by
  have hal : Below w.heap.size w (w.alloc (.cells #[.int .i64 m] 3)) := (Below.refl _ _).alloc (Nat.le_refl _) _
  have HT := hide (then_no (h.below hal) hm hn)
  rw [errV_pos 5 (by decide)] at HT ⊢
  have HAL := hide hal
  clear h hn hal
  go_enter Tryz.func8, Tryz.ntmps8
  go_wp2_with fail
  refine (unhide HT).mono ?_
  rintro e w1 ⟨rfl, hw⟩
  subst hw
  go_wp2
  go_ret
  exact ⟨rfl, unhide HAL⟩
set_option maxRecDepth 100000 in
set_option maxHeartbeats 1000000 in
theorem uBack_yes (h : Ud w B u gm p g c L n M) (hB : B ≤ w.heap.size) {m : Int} (hm : -9223372036854775808 ≤ m ∧ m ≤ 9223372036854775807) {I : List Int} (hI : mkAt M m = some I) :
    Calls Tryz.prog 8 #[.pointer (some ⟨u, 0, none⟩), .int .i64 m] w fun e w' => e = .returned .nilIface ∧ ∃ g' c', Ud w' B u gm p g' c' I n (mkCut M m) ∧ Turn (ft u gm p g) (ft u gm p g') w w' := by
  have hal : Below w.heap.size w (w.alloc (.cells #[.int .i64 m] 3)) := (Below.refl _ _).alloc (Nat.le_refl _) _
  have hu := h.below hal
  have hin := mkAt_mem hI
  obtain ⟨hfI, hlI⟩ := h.img _ hin
  dsimp only at hfI hlI
  obtain ⟨a, cap, ho, hthen⟩ := then_yes hu hm hI
  have HT := hide hthen
  have hbsI : Bs (w.alloc (.cells #[.int .i64 m] 3)) a cap I := ho.bs
  have HR := hide (hReplace_yes hu.hp (by have := hal.size; omega) hbsI hfI hlI)
  have hcap : (w.alloc (.cells #[.int .i64 m] 3)).cell? ⟨w.heap.size, 0, none⟩ = some (.int .i64 m) := by simp
  have hcs := hu.cells
  have HD : Hid (∀ w2 g' c', Hp w2 B p g' c' I → Turn (foot p g) (foot p g') (w.alloc (.cells #[.int .i64 m] 3)) w2 →
      w2.cell? ⟨u, 2, none⟩ = some (.map (some gm)) ∧ Calls Tryz.prog 29 #[.map (some gm), .func (.func 30) #[] #[.pointer (some ⟨w.heap.size, 0, none⟩)]] w2 fun e w3 => e = .returned (.tuple #[]) ∧ Ud w3 B u gm p g' c' I n (mkCut M m) ∧ Turn (ft u gm p g) (ft u gm p g') w w3) := hide (fun w2 g' c' hh2 ht2 => by
    have hu2 := hu.heap hh2 ht2 hlI
    refine ⟨hu2.cells.2.2, ?_⟩
    have hc2 : w2.cell? ⟨w.heap.size, 0, none⟩ = some (.int .i64 m) := by
      rw [← hcap]
      refine World.cell?_of_block (a := ⟨w.heap.size, 0, none⟩) (ht2.block w.heap.size (by simp) (fun hf => ?_))
      have h1 := h.hp.plt
      have h2 := h.hp.glt
      rcases hf with e | e <;> omega
    have hlt2 : w.heap.size < w2.heap.size := by have := ht2.size; rw [sz_alloc] at this; omega
    have hgm := h.map.lt
    obtain ⟨D, hown, hr, hD, hIm⟩ := hu2.map
    have hcon := AnyDf.maps_DeleteFunc mpDel (Maps.int_keyed (P := Tryz.prog) Tryz.underlying3) slR (gone m) 30 #[.pointer (some ⟨w.heap.size, 0, none⟩)] gm n D w2 (enters_of Tryz.func30 (by kernel_rfl) rfl) hown (fun W key val kl yd yp hg hk hv => by
      obtain ⟨x, rfl, rfl, _⟩ := Maps.keyOf_i64 (P := Tryz.prog) Tryz.underlying3 hk
      refine (back1_any m x val w.heap.size W (hg.cell hc2 (fun e => by have := Option.some.inj e; dsimp only at this; omega))).mono ?_
      rintro e w' ⟨rfl, rfl⟩
      exact ⟨rfl, World.grownBy.refl W none⟩)
    change Calls _ 29 _ _ _ at hcon
    refine hcon.mono ?_
    rintro e w3 ⟨rfl, hown3, hg3⟩
    have hm3 := hu2.map.cut (m := m) (.inr (.inl rfl)) hown hD hIm hown3 hg3
    have hb3 : ∀ k, k < w2.heap.size → k ≠ gm → w3.heap[k]? = w2.heap[k]? := fun k hk hne => hg3.block k hk (fun e => hne (Option.some.inj e))
    have ht23 : Turn (ft u gm p g') (ft u gm p g') w2 w3 := Turn.grown hg3 (fun k hk => by cases hk; exact .inr (.inl rfl))
    refine ⟨rfl, ⟨hu2.bu, hu2.bm, hu2.uf, hu2.mf, (hb3 u hu2.ult (fun e => hu2.ne e.symm)).trans hu2.blk, hu2.hp.same (hb3 p hu2.hp.plt (fun e => hu2.mf (.inl e.symm))) (hb3 g' hu2.hp.glt (fun e => hu2.mf (.inr e.symm))), hm3, fun x hx => hu2.num x (List.mem_filter.1 hx).1, fun x hx => hu2.img x (List.mem_filter.1 hx).1⟩, ((Turn.of_below hal).trans (turn_ft ht2)).trans ht23⟩)
  obtain ⟨e0, e1, e2⟩ := hcs
  clear h hu hin hfI hlI ho hbsI hI hthen hal e1 hB hm
  generalize I.length = N at *
  go_enter Tryz.func8, Tryz.ntmps8
  go_wp2_with fail
  refine (unhide HT).mono ?_
  rintro e w1 ⟨rfl, hw⟩
  subst hw
  generalize w.alloc (.cells #[.int .i64 m] 3) = wa at *
  go_wp2_with fail
  refine (unhide HR).mono ?_
  rintro e w2 ⟨rfl, g', c', hh2, ht2⟩
  obtain ⟨q2, hd⟩ := unhide HD w2 g' c' hh2 ht2
  have HDC := hide hd
  clear hh2 ht2 hd HD HR HT e0 e2 hcap
  go_wp2_with fail
  refine (unhide HDC).mono ?_
  rintro e w3 ⟨rfl, hud, ht⟩
  have HU := hide hud
  have HTN := hide ht
  clear hud ht HDC q2
  go_wp2
  go_ret
  exact ⟨rfl, g', c', unhide HU, unhide HTN⟩
end
end Go.Proofs.YtopblhmbjdfebaaGreat
/-! Contracts of package undo: Changes, Marks. (Part of the proofs over package undo.) -/
namespace Go.Proofs.YtopblhmbjdfebaaGreat
open Go.RowKit Go.Maps Go.Sort Go.Shelf
set_option linter.unusedVariables false

section
variable {w w' : World} {B u gm p g c : Nat} {L : List Int} {n : Nat} {M : List (Int × List Int)}
theorem uChanges_no (h : Ud w B u gm p g c L n M) {m : Int} (hm : -9223372036854775808 ≤ m ∧ m ≤ 9223372036854775807) (hn : mkAt M m = none) :
    Calls Tryz.prog 17 #[.pointer (some ⟨u, 0, none⟩), .int .i64 m] w fun e w' => e = .returned (.tuple #[.slice none 0 0, errV 5]) ∧ w = w' := by
  have HT := hide (then_no h hm hn)
  rw [errV_pos 5 (by decide)] at HT ⊢
  clear h hn
  go_enter Tryz.func17, Tryz.ntmps17
  go_wp2_with fail
  refine (unhide HT).mono ?_
  rintro e w1 ⟨rfl, hw⟩
  subst hw
  go_wp2
  go_ret2
  exact ⟨rfl, rfl⟩
set_option maxRecDepth 100000 in
theorem uChanges_yes (h : Ud w B u gm p g c L n M) {m : Int} (hm : -9223372036854775808 ≤ m ∧ m ≤ 9223372036854775807) {I : List Int} (hI : mkAt M m = some I) :
    Calls Tryz.prog 17 #[.pointer (some ⟨u, 0, none⟩), .int .i64 m] w fun e w' => ∃ v, e = .returned (.tuple #[v, .nilIface]) ∧ ChO w' w.heap.size v (dfK I L I.length) ∧ Below w.heap.size w w' := by
  have hin := mkAt_mem hI
  obtain ⟨hfI, hlI⟩ := h.img _ hin
  dsimp only at hfI hlI
  obtain ⟨a, cap, ho, hthen⟩ := then_yes h hm hI
  have HT := hide hthen
  have hbsI : Bs w a cap I := ho.bs
  have hbyt := h.hp.byt
  have hlen := h.hp.len
  have HB := hide (hBytes_any p g c B L w h.hp)
  have HD : Hid (∀ W a' c', Below w.heap.size w W → OwnV W w.heap.size (.slice a' L.length c') L → Calls Tryz.prog 48 #[.slice a I.length cap, .slice a' L.length c'] W fun e w' => ∃ v, e = .returned (.tuple #[v, .nilIface]) ∧ ChO w' w.heap.size v (dfK I L I.length) ∧ Below w.heap.size w w') := hide (fun W a' c' hW hO => by
    obtain ⟨a2, c2, e2, hb2⟩ := hO.bs hbyt (by omega)
    simp only [Value.slice.injEq, true_and] at e2
    obtain ⟨rfl, rfl⟩ := e2
    rw [← hlI]
    refine (diff_yes a a' cap c' I L W (hbsI.below hW) hb2 hlI (by omega)).mono ?_
    rintro e w' ⟨v, rfl, hch, hb⟩
    obtain ⟨rs, h1, h2, h3⟩ := hch
    refine ⟨v, by rw [errV_zero], ⟨rs, h1, ?_, fun r hr => ?_⟩, hW.trans (hb.mono hW.size)⟩
    · refine ⟨h2.1, ?_⟩
      rcases h2.2 with h0 | ⟨g', cap', cur, e, hB', h5⟩
      · exact .inl h0
      · exact .inr ⟨g', cap', cur, e, Nat.le_trans hW.size hB', h5⟩
    · have := h3 r hr
      exact ⟨⟨this.1.1, this.1.2.1, this.1.2.2.lower hW.size⟩, this.2.1, this.2.2.1, this.2.2.2.lower hW.size⟩)
  obtain ⟨e0, e1, e2⟩ := h.cells
  clear h hin hfI ho hI hthen hbsI hbyt hlen e1 e2 hm
  generalize dfK I L I.length = DF at *
  generalize I.length = N at *
  rw [← hlI] at HB HD
  clear hlI
  go_enter Tryz.func17, Tryz.ntmps17
  go_wp2_with fail
  refine (unhide HT).mono ?_
  rintro e w1 ⟨rfl, hw⟩
  subst hw
  go_wp2_with fail
  refine (unhide HB).mono ?_
  rintro e w2 ⟨a', c', rfl, ho2, hb2⟩
  have HD2 := hide (unhide HD w2 a' c' hb2 ho2)
  clear ho2 hb2 HB HD HT e0
  go_wp2_with fail
  refine (unhide HD2).mono ?_
  rintro e w3 ⟨v, rfl, hch, hb3⟩
  have HC := hide hch
  have HB3 := hide hb3
  clear hch hb3 HD2
  go_wp2
  go_ret2
  exact ⟨v, rfl, unhide HC, unhide HB3⟩
set_option maxHeartbeats 1000000 in
theorem uMarks_any (h : Ud w B u gm p g c L n M) (hn : n ≤ 90000) :
    Calls Tryz.prog 19 #[.pointer (some ⟨u, 0, none⟩)] w fun e w' => ∃ dv, e = .returned dv ∧ w'.ownsRow w.heap.size 3 1 dv M.length ((M.map (·.1)).map encZ) ∧ Below w.heap.size w w' := by
  obtain ⟨D0, hown, hrise, hD, _⟩ := h.map
  have hperm := MkM.keys hown hrise hD
  obtain ⟨_, _, c2⟩ := h.cells
  have hsz : Maps.size D0 ≤ n := hown.size_le
  have hmax : Maps.size D0 ≤ maxLen := by unfold maxLen; omega
  have hbytes : Maps.size D0 * 8 ≤ 140737488355328 := by omega
  refine (callsIn_wide (n := 6)).1 ?_
  have hbl := hown.lt
  have hseq : SeqGives Fence.wide 2 Tryz.prog 85 #[.pointer (some ⟨w.heap.size, 0, none⟩)] encZ (fun ss => ss.Perm (intKeys D0)) (Maps.size D0) (w.alloc (.cells #[.map (some gm)] 67)) :=
    AnyZI.keys_gives (ρ := keysA_ren) { keysA with } Fence.wide _ trivial rfl (by omega) w.heap.size gm n D0 _ (by simp) (by simp) (by
      obtain ⟨es, clock, hb, Ft, hs, hD⟩ := hown
      exact ⟨es, clock, (Below.heap_alloc _ _ gm hbl).trans hb, Ft, hs, hD⟩)
  have cK : ∀ mb W, CallsIn Fence.wide 5 Tryz.prog 50 #[.map mb] W fun e w' => e = .returned (.func (.func 85) #[] #[.pointer (some ⟨W.heap.size, 0, none⟩)]) ∧ w' = W.alloc (.cells #[.map mb] 67) := fun mb W => AnyZI.keys_in keysA Fence.wide 5 trivial rfl mb W
  have cS := AnyZI.sorted_in sortedA Fence.wide 5 trivial trivial trivial trivial rfl (by omega) (sortsA _) (enters_of Tryz.func84 (by kernel_rfl) rfl) 85 #[.pointer (some ⟨w.heap.size, 0, none⟩)] trivial (enters_of Tryz.func85 (by kernel_rfl) rfl) _ _ hmax hbytes _ hseq
  change CallsIn _ _ Tryz.prog 49 _ _ _ at cS
  have hfK : Fence.wide.fn 50 := trivial
  have hfS : Fence.wide.fn 49 := trivial
  clear hseq hown hD hmax hbytes h hsz
  refine callsIn_of_wp Tryz.func19 rfl trivial ?_ rfl
  simp only [Tryz.ntmps19, List.size_toArray, List.length_cons, List.length_nil, Nat.reduceAdd, Nat.reduceSub, Array.replicate_succ, Array.replicate_zero, List.push_toArray, List.append_toArray, List.nil_append, List.cons_append]
  gi_wp2_with (first
    | (gi_at_call 50; refine (cK _ _).mono ?_; rintro e w' ⟨rfl, rfl⟩)
    | (gi_at_call 49; refine cS.mono ?_; rintro e w' ⟨dv, ss, rfl, hS, hrow, hnil, hb⟩))
  go_ret
  have hps := hS.trans hperm.symm
  have hsl : ss.length = M.length := by rw [hps.length_eq, List.length_map]
  refine ⟨dv, rfl, ?_, ((Below.refl _ w).alloc (Nat.le_refl _) _).trans (hb.mono (by simp))⟩
  have hr := ownsRow_base_a (base' := w.heap.size) hrow (by simp)
  rw [hsl] at hr
  have e : ss.mergeSort (fun x y => decide (x ≤ y)) = M.map (·.1) := (mergeSort_of_perm_i hps).trans (List.mergeSort_of_pairwise (hrise.imp (fun hlt => by simp only [leI, decide_eq_true_eq]; omega)))
  rw [e] at hr
  exact hr
end
end Go.Proofs.YtopblhmbjdfebaaGreat
/-! A list of images beside an Undo; the state of the law UndoMarks. (Part of the proof of UndoMarks.) -/
namespace Go.Proofs.YtopblhmbjdfebaaGreat
open Go.RowKit
set_option linter.unusedVariables false

def slC (r : Option Addr × Nat × List Int) : List Value := [slV r]
theorem slC_len (r : Option Addr × Nat × List Int) : (slC r).length = 1 := rfl
theorem slC_one (r : Option Addr × Nat × List Int) : ∀ u ∈ slC r, u.oneCell' = true := by
  intro u hu
  rw [List.mem_singleton.1 hu]
  rfl
theorem info_sl : (Tryz.prog.info? 22).map (fun i => (i.zero, i.size, i.bytes)) = some (some (.slice none 0 0), 1, 24) := by kernel_rfl
/-- A row of slices of bytes, each of which is a row of its own with no block among S. -/
def Ims (w : World) (B : Nat) (S : Nat → Prop) (v : Value) (rs : List (Option Addr × Nat × List Int)) : Prop := Lst slC 1 22 w B v rs ∧ ∀ r ∈ rs, Own1 w B S r
theorem alB_len {L : List Int} (hf : Fine L) (n t : Int) : (alB L n t).length = L.length := by
  by_cases h0 : alE L n t = 0
  · obtain ⟨x, N, h⟩ := al_ok hf h0
    exact (h.keep hf h0).2.1
  · unfold alB
    rw [if_neg h0]
theorem dfK_self (I : List Int) (n : Nat) : dfK I I n = [] := by
  rw [dfK_same (i := 0) (Nat.zero_le _) (fun j _ _ => rfl)]
  rfl
section
variable {w w' : World} {B B' u gm p g c : Nat} {L : List Int} {n : Nat} {M : List (Int × List Int)} {v : Value} {rs : List (Option Addr × Nat × List Int)}
theorem Ud.noft (h : Ud w B u gm p g c L n M) (hL : Lst slC 1 22 w B' v rs) : ∀ b, v.ownBlock = some b → ¬ ft u gm p g b := by
  intro b hb hf
  rcases hL.2 with ⟨rfl, _⟩ | ⟨g1, cap1, cur1, rfl, hB1, hc1, _⟩
  · cases hb
  · simp [Value.ownBlock] at hb
    subst hb
    rcases hf with rfl | rfl | rfl | rfl
    · rw [h.blk] at hc1; simp at hc1
    · obtain ⟨es, clock, hm⟩ := h.map.isMap
      rw [hm] at hc1; simp at hc1
    · rw [h.hp.blk] at hc1; simp at hc1
    · obtain ⟨cur, hr⟩ := h.hp.row
      rw [hr.2.1] at hc1; simp at hc1
theorem Ud.keep (h : Ud w B u gm p g c L n M) (hL : Lst slC 1 22 w B' v rs) (hk : ∀ j, j < w.heap.size → v.ownBlock ≠ some j → w'.heap[j]? = w.heap[j]?) : Ud w' B u gm p g c L n M :=
  have hb : ∀ k, ft u gm p g k → w'.heap[k]? = w.heap[k]? := fun k hf => hk k (h.lt k hf) (fun e => h.noft hL k e hf)
  ⟨h.bu, h.bm, h.uf, h.mf, (hb u (.inl rfl)).trans h.blk, h.hp.same (hb p (.inr (.inr (.inl rfl)))) (hb g (.inr (.inr (.inr rfl)))), h.map.same (hb gm (.inr (.inl rfl))) (fun r hr => hr.keep hL (by decide) hk), h.num, h.img⟩
theorem Ims.turn {g' : Nat} (h : Ims w B (ft u gm p g) v rs) (hud : Ud w B' u gm p g c L n M) (ht : Turn (ft u gm p g) (ft u gm p g') w w') : Ims w' B (ft u gm p g') v rs := by
  refine ⟨⟨h.1.1, ?_⟩, fun r hr => (h.2 r hr).turn ht⟩
  have hno := hud.noft h.1
  rcases h.1.2 with h0 | ⟨g1, cap1, cur1, rfl, hB1, hc1, h3⟩
  · exact .inl h0
  · exact .inr ⟨g1, cap1, cur1, rfl, hB1, (ht.block g1 (Array.getElem?_eq_some_iff.1 hc1).1 (hno g1 rfl)).trans hc1, h3⟩
theorem Ims.below {S : Nat → Prop} (h : Ims w B S v rs) (hb : Below w.heap.size w w') : Ims w' B S v rs := ⟨h.1.below hb, fun r hr => (h.2 r hr).below hb⟩
theorem Ims.more {S : Nat → Prop} {v' : Value} {r : Option Addr × Nat × List Int} (h : Ims w B S v rs) (hr : Own1 w B S r) (hL : Lst slC 1 22 w' B v' (rs ++ [r])) (hk : ∀ j, j < w.heap.size → v.ownBlock ≠ some j → w'.heap[j]? = w.heap[j]?) : Ims w' B S v' (rs ++ [r]) := by
  refine ⟨hL, fun x hx => ?_⟩
  rcases List.mem_append.1 hx with hx | hx
  · exact (h.2 x hx).keep h.1 (by decide) hk
  · rw [List.mem_singleton.1 hx]
    exact hr.keep h.1 (by decide) hk
theorem Ims.shape {S : Nat → Prop} (h : Ims w B S v rs) (hl : rs.length ≤ 1000) (hne : rs ≠ []) : ∃ b off cv, v = .slice (some ⟨b, off, none⟩) rs.length cv ∧ ∀ i r, rs[i]? = some r → w.cell? ⟨b, off + i, none⟩ = some (.slice r.1 r.2.2.length r.2.1) := by
  obtain ⟨a, cv, rfl, hs⟩ := h.1.sls slC_len (by omega)
  obtain ⟨b, off, rfl, hc⟩ := hs.2.2.2 hne
  refine ⟨b, off, cv, rfl, fun i r hr => ?_⟩
  have := hc i r hr 0 _ rfl
  rw [Nat.mul_one, Nat.add_zero] at this
  exact this
end

/-- The state of UndoMarks: behind k marks, their images beside it. -/
structure UmSt (w wr : World) (u gm p g c : Nat) (L : List Int) (k : Nat) (v : Value) (rs : List (Option Addr × Nat × List Int)) (Ms : List (List Int)) : Prop where
  ud : Ud wr w.heap.size u gm p g c L k (mksF 0 Ms)
  len : Ms.length = k
  ims : Ims wr w.heap.size (ft u gm p g) v rs
  same : rs.map (·.2.2) = [] :: Ms
  bel : Below w.heap.size w wr
section
variable {w wr : World} {u gm p g c : Nat} {L : List Int} {k : Nat} {v : Value} {rs : List (Option Addr × Nat × List Int)} {Ms : List (List Int)}
theorem UmSt.count (h : UmSt w wr u gm p g c L k v rs Ms) : rs.length = k + 1 := by
  have := congrArg List.length h.same
  rw [List.length_map, List.length_cons, h.len] at this
  exact this
theorem UmSt.start {w2 : World} {Z : List Int} (hud : Ud w2 w.heap.size u gm p g c Z 0 []) (hb : Below w.heap.size w w2) :
    UmSt w (w2.alloc (.cells #[.slice none 0 0] 22)) u gm p g c Z 0 (.slice (some ⟨w2.heap.size, 0, none⟩) 1 1) [(none, 0, [])] [] := by
  have hal : Below w2.heap.size w2 (w2.alloc (.cells #[.slice none 0 0] 22)) := (Below.refl _ _).alloc (Nat.le_refl _) _
  refine ⟨hud.below hal, rfl, ⟨⟨rfl, .inr ⟨w2.heap.size, 1, #[.slice none 0 0], rfl, hb.size, heap_alloc_new w2 _, Nat.le_refl _, by decide, rfl, rfl⟩⟩, fun r hr => ?_⟩, rfl, hb.trans (hal.mono hb.size)⟩
  rw [List.mem_singleton.1 hr]
  exact ⟨OwnV.nil _ _, (fun z hz => by cases hz), Nat.zero_le _, (fun b hb => by cases hb)⟩
/-- What is there at the end: the image, as text, and how many marks there are. -/
theorem um_end {W : World} {B u gm p g c : Nat} {I : List Int} {n : Nat} {M : List (Int × List Int)} {aT : Option Addr} {cT b i : Nat} (hud : Ud W B u gm p g c I n M) (hn : n ≤ 90000) (hT : Own1 W B (ft u gm p g) (aT, cT, I)) (hc : W.cell? ⟨b, i, none⟩ = some (.slice aT I.length cT)) :
    (convert 22 9 (.slice aT I.length cT)).run Tryz.prog W.drew = .ok (.string (strOf I)) W.drew ∧
    Calls Tryz.prog 9 #[.pointer (some ⟨p, 0, none⟩)] W.drew fun e w8 => ∃ a8 c8, e = .returned (.slice a8 I.length c8) ∧ (convert 22 9 (.slice a8 I.length c8)).run Tryz.prog w8 = .ok (.string (strOf I)) w8 ∧ (w8.cell? ⟨b, i, none⟩ = some (.slice aT I.length cT) ∧ (convert 22 9 (.slice aT I.length cT)).run Tryz.prog w8 = .ok (.string (strOf I)) w8) ∧
      Hid (Calls Tryz.prog 19 #[.pointer (some ⟨u, 0, none⟩)] w8 fun e w9 => ∃ a9 c9, e = .returned (.slice a9 M.length c9) ∧ ((w9.cell? ⟨b, i, none⟩ = some (.slice aT I.length cT) ∧ (convert 22 9 (.slice aT I.length cT)).run Tryz.prog w9 = .ok (.string (strOf I)) w9) ∧ (convert 22 9 (.slice a8 I.length c8)).run Tryz.prog w9 = .ok (.string (strOf I)) w9) ∧ Below W.heap.size W w9) := by
  have hbd : Below W.heap.size W W.drew := below_drew (Below.refl _ _)
  have hbsT : Bs W aT cT I := hT.bs
  have hudd : Ud W.drew B u gm p g c I n M := hud.below hbd
  refine ⟨conv_str (P := Tryz.prog) Tryz.underlying22 Tryz.underlying5 Tryz.underlying9 (hbsT.below hbd), ?_⟩
  refine (hBytes_any p g c B I W.drew hudd.hp).mono ?_
  rintro e w8 ⟨a8, c8, rfl, ho, hb8⟩
  have hb8' : Below W.heap.size W w8 := hbd.trans hb8
  obtain ⟨a8', c8', e8, hbs8⟩ := ho.bs hud.hp.byt (by have := hud.hp.len; omega)
  simp only [Value.slice.injEq, true_and] at e8
  obtain ⟨rfl, rfl⟩ := e8
  refine ⟨a8, c8, rfl, conv_str (P := Tryz.prog) Tryz.underlying22 Tryz.underlying5 Tryz.underlying9 hbs8, ⟨(hb8'.cell (block_lt_of_cell hc)).trans hc, conv_str (P := Tryz.prog) Tryz.underlying22 Tryz.underlying5 Tryz.underlying9 (hbsT.below hb8')⟩, hide ?_⟩
  refine (uMarks_any (hud.below hb8') hn).mono ?_
  rintro e w9 ⟨dv, rfl, hrow, hb9⟩
  have hb9' : Below W.heap.size W w9 := hb8'.trans (hb9.mono hb8'.size)
  have hc9 : (w9.cell? ⟨b, i, none⟩ = some (.slice aT I.length cT) ∧ (convert 22 9 (.slice aT I.length cT)).run Tryz.prog w9 = .ok (.string (strOf I)) w9) ∧ (convert 22 9 (.slice a8 I.length c8)).run Tryz.prog w9 = .ok (.string (strOf I)) w9 := ⟨⟨(hb9'.cell (block_lt_of_cell hc)).trans hc, conv_str (P := Tryz.prog) Tryz.underlying22 Tryz.underlying5 Tryz.underlying9 (hbsT.below hb9')⟩, conv_str (P := Tryz.prog) Tryz.underlying22 Tryz.underlying5 Tryz.underlying9 (hbs8.below hb9)⟩
  rcases hrow.2 with ⟨rfl, h0⟩ | ⟨g', cap', cur, rfl, _⟩
  · exact ⟨none, 0, by rw [h0], hc9, hb9'⟩
  · exact ⟨some ⟨g', 0, none⟩, cap', rfl, hc9, hb9'⟩
end
end Go.Proofs.YtopblhmbjdfebaaGreat
/-! The state of the law UndoBack: an Undo, a table of images and a row of numbers beside it. (Part of the proof of UndoBack.) -/
namespace Go.Proofs.YtopblhmbjdfebaaGreat
open Go.RowKit
set_option linter.unusedVariables false

theorem Lst.turnS {α : Type} {enc : α → List Value} {k T : Nat} {w w' : World} {B : Nat} {v : Value} {l : List α} {S S' : Nat → Prop} (h : Lst enc k T w B v l) (ht : Turn S S' w w') (hn : ∀ b, v.ownBlock = some b → ¬ S b) : Lst enc k T w' B v l := by
  refine ⟨h.1, ?_⟩
  rcases h.2 with h0 | ⟨g, cap, cur, rfl, hB, hc, h3⟩
  · exact .inl h0
  · exact .inr ⟨g, cap, cur, rfl, hB, (ht.block g (Array.getElem?_eq_some_iff.1 hc).1 (hn g rfl)).trans hc, h3⟩
section
variable {w w' : World} {B B' u gm p g c : Nat} {L : List Int} {n : Nat} {M : List (Int × List Int)}
/-- A row of any other kind is none of an Undo's blocks. -/
theorem Ud.noftG {α : Type} {enc : α → List Value} {k T : Nat} {v : Value} {l : List α} (h : Ud w B u gm p g c L n M) (hL : Lst enc k T w B' v l) (h1 : T ≠ 69) (h2 : T ≠ 76) (h3 : T ≠ 5) : ∀ b, v.ownBlock = some b → ¬ ft u gm p g b := by
  intro b hb hf
  rcases hL.2 with ⟨rfl, _⟩ | ⟨g1, cap1, cur1, rfl, hB1, hc1, _⟩
  · cases hb
  · simp [Value.ownBlock] at hb
    subst hb
    rcases hf with rfl | rfl | rfl | rfl
    · rw [h.blk] at hc1
      simp only [Option.some.injEq, Obj.cells.injEq] at hc1
      exact h1 hc1.2.1.symm
    · obtain ⟨es, clock, hm⟩ := h.map.isMap
      rw [hm] at hc1; simp at hc1
    · rw [h.hp.blk] at hc1
      simp only [Option.some.injEq, Obj.cells.injEq] at hc1
      exact h2 hc1.2.1.symm
    · obtain ⟨cur, hr⟩ := h.hp.row
      rw [hr.2.1] at hc1
      simp only [Option.some.injEq, Obj.cells.injEq] at hc1
      exact h3 hc1.2.1.symm
/-- A block of another kind is none of an Undo's blocks. -/
theorem Ud.noftT {T : Nat} {b : Nat} {cs : Array Value} (h : Ud w B u gm p g c L n M) (hb : w.heap[b]? = some (.cells cs T (0, 0))) (h1 : T ≠ 69) (h2 : T ≠ 76) (h3 : T ≠ 5) : ¬ ft u gm p g b := by
  intro hf
  rcases hf with rfl | rfl | rfl | rfl
  · rw [h.blk] at hb
    simp only [Option.some.injEq, Obj.cells.injEq] at hb
    exact h1 hb.2.1.symm
  · obtain ⟨es, clock, hm⟩ := h.map.isMap
    rw [hm] at hb; simp at hb
  · rw [h.hp.blk] at hb
    simp only [Option.some.injEq, Obj.cells.injEq] at hb
    exact h2 hb.2.1.symm
  · obtain ⟨cur, hr⟩ := h.hp.row
    rw [hr.2.1] at hb
    simp only [Option.some.injEq, Obj.cells.injEq] at hb
    exact h3 hb.2.1.symm
/-- Blocks that are none of an Undo's turn, and no row of bytes. -/
theorem Ud.keepG {S : Nat → Prop} (h : Ud w B u gm p g c L n M) (hn : ∀ b, S b → ¬ ft u gm p g b) (hS : ∀ b cs T, S b → w.heap[b]? = some (.cells cs T (0, 0)) → T ≠ 5) (hk : ∀ j, j < w.heap.size → ¬ S j → w'.heap[j]? = w.heap[j]?) : Ud w' B u gm p g c L n M :=
  have hb : ∀ k, ft u gm p g k → w'.heap[k]? = w.heap[k]? := fun k hf => hk k (h.lt k hf) (fun e => hn k e hf)
  ⟨h.bu, h.bm, h.uf, h.mf, (hb u (.inl rfl)).trans h.blk, h.hp.same (hb p (.inr (.inr (.inl rfl)))) (hb g (.inr (.inr (.inr rfl)))), h.map.same (hb gm (.inr (.inl rfl))) (fun r hr => ⟨hr.1.same (fun b hb => hk b (hr.1.lt b hb) (fun hs => by
    rcases hr.1.2 with ⟨e, _⟩ | ⟨g1, cap1, cur1, e, _, hc1, _⟩
    · rw [e] at hb; cases hb
    · rw [e] at hb
      simp [Value.ownBlock] at hb
      subst hb
      exact hS _ _ _ hs hc1 rfl)), hr.2⟩), h.num, h.img⟩
end
/-- The state: Mi are the images that the table has, Ms the numbers in the row. -/
structure Ub (w wr : World) (u gm p g c : Nat) (L : List Int) (n : Nat) (M : List (Int × List Int)) (ti : Nat) (rs : List (Option Addr × Nat × List Int)) (Mi : List (Int × List Int)) (vm : Value) (Ms : List Int) : Prop where
  ud : Ud wr w.heap.size u gm p g c L n M
  tb : wr.heap[ti]? = some (.cells (rs.map slV).toArray 22 (0, 0))
  tl : rs.length = 100
  tg : w.heap.size ≤ ti
  own : ∀ r ∈ rs, Own1 wr w.heap.size (ft u gm p g) r
  im : ∀ x ∈ Mi, ∃ r, rs[x.1.toNat]? = some r ∧ r.2.2 = x.2
  row : Lst inC 1 3 wr w.heap.size vm Ms
  bel : Below w.heap.size w wr
section
variable {w wr w' : World} {u gm p g c : Nat} {L : List Int} {n : Nat} {M : List (Int × List Int)} {ti : Nat} {rs : List (Option Addr × Nat × List Int)} {Mi : List (Int × List Int)} {vm : Value} {Ms : List Int}
theorem Ub.tlt (h : Ub w wr u gm p g c L n M ti rs Mi vm Ms) : ti < wr.heap.size := (Array.getElem?_eq_some_iff.1 h.tb).1
theorem Ub.tft (h : Ub w wr u gm p g c L n M ti rs Mi vm Ms) : ¬ ft u gm p g ti := h.ud.noftT h.tb (by decide) (by decide) (by decide)
theorem Ub.mft (h : Ub w wr u gm p g c L n M ti rs Mi vm Ms) : ∀ b, vm.ownBlock = some b → ¬ ft u gm p g b := h.ud.noftG h.row (by decide) (by decide) (by decide)
/-- Something is done with the Undo or its heap. -/
theorem Ub.turn (h : Ub w wr u gm p g c L n M ti rs Mi vm Ms) {g' c' : Nat} {L' : List Int} {n' : Nat} {M' : List (Int × List Int)} (hu : Ud w' w.heap.size u gm p g' c' L' n' M') (ht : Turn (ft u gm p g) (ft u gm p g') wr w') : Ub w w' u gm p g' c' L' n' M' ti rs Mi vm Ms :=
  ⟨hu, (ht.block ti h.tlt h.tft).trans h.tb, h.tl, h.tg, fun r hr => (h.own r hr).turn ht, h.im, h.row.turnS ht h.mft, h.bel.trans (ht.below h.ud.ge h.bel.size)⟩
theorem Ub.heap (h : Ub w wr u gm p g c L n M ti rs Mi vm Ms) {g' c' : Nat} {L' : List Int} (hh : Hp w' w.heap.size p g' c' L') (ht : Turn (foot p g) (foot p g') wr w') (hl : L'.length = L.length) : Ub w w' u gm p g' c' L' n M ti rs Mi vm Ms :=
  h.turn (h.ud.heap hh ht hl) (turn_ft ht)
theorem Ub.below (h : Ub w wr u gm p g c L n M ti rs Mi vm Ms) (hb : Below wr.heap.size wr w') : Ub w w' u gm p g c L n M ti rs Mi vm Ms :=
  h.turn (h.ud.below hb) (Turn.of_below hb)
theorem Ub.cell (h : Ub w wr u gm p g c L n M ti rs Mi vm Ms) {i : Nat} {r : Option Addr × Nat × List Int} (hi : rs[i]? = some r) : wr.cell? ⟨ti, i, none⟩ = some (.slice r.1 r.2.2.length r.2.1) := by
  rw [cell_of_row _ _ _ _ _ _ h.tb]
  simp [hi, slV]
theorem Ub.fr (h : Ub w wr u gm p g c L n M ti rs Mi vm Ms) (i : Nat) : wr.frozen? ⟨ti, i, none⟩ = false := frozen_of_row wr ti i _ _ h.tb
/-- An image is put into the table. -/
theorem Ub.put (h : Ub w wr u gm p g c L n M ti rs Mi vm Ms) {i : Nat} (hi : i < 100) {r : Option Addr × Nat × List Int} (hr : Own1 wr w.heap.size (ft u gm p g) r) (hM : ∀ x ∈ Mi, x.1.toNat ≠ i) {z : Int} (hz : z.toNat = i) :
    Ub w (wr.setCell ⟨ti, i, none⟩ (.slice r.1 r.2.2.length r.2.1)) u gm p g c L n M ti (rs.set i r) (Mi ++ [(z, r.2.2)]) vm Ms := by
  have hk : ∀ j, j < wr.heap.size → ¬ j = ti → (wr.setCell ⟨ti, i, none⟩ (.slice r.1 r.2.2.length r.2.1)).heap[j]? = wr.heap[j]? := fun j _ hj => heap_setCell_other _ _ _ _ hj
  have hT : ∀ b cs T, b = ti → wr.heap[b]? = some (.cells cs T (0, 0)) → T ≠ 5 := fun b cs T hb hc => by
    rw [hb, h.tb] at hc
    simp only [Option.some.injEq, Obj.cells.injEq] at hc
    rw [← hc.2.1]
    decide
  have own' : ∀ x, Own1 wr w.heap.size (ft u gm p g) x → Own1 (wr.setCell ⟨ti, i, none⟩ (.slice r.1 r.2.2.length r.2.1)) w.heap.size (ft u gm p g) x := fun x hx => ⟨hx.1.same (fun b hb => hk b (hx.1.lt b hb) (fun e => by
    rcases hx.1.2 with ⟨e2, _⟩ | ⟨g1, cap1, cur1, e2, _, hc1, _⟩
    · rw [e2] at hb; cases hb
    · rw [e2] at hb
      simp [Value.ownBlock] at hb
      subst hb
      exact hT _ _ _ e hc1 rfl)), hx.2⟩
  refine ⟨h.ud.keepG (S := fun b => b = ti) (fun b hb => by rw [hb]; exact h.tft) hT hk, ?_, by rw [List.length_set]; exact h.tl, h.tg, fun x hx => ?_, fun x hx => ?_, ?_, h.bel.setCell h.tg _⟩
  · rw [heap_setCell_same wr ti i _ _ _ h.tb]
    congr 2
    rw [List.map_set]
    simp [slV]
  · rcases List.mem_or_eq_of_mem_set hx with hx | hx
    · exact own' x (h.own x hx)
    · rw [hx]; exact own' r hr
  · rcases List.mem_append.1 hx with hx | hx
    · obtain ⟨y, hy, e⟩ := h.im x hx
      refine ⟨y, ?_, e⟩
      rw [List.getElem?_set_ne (fun e2 => hM x hx e2.symm)]
      exact hy
    · rw [List.mem_singleton.1 hx]
      refine ⟨r, ?_, rfl⟩
      dsimp only
      rw [hz, List.getElem?_set_self (by rw [h.tl]; exact hi)]
  · refine ⟨h.row.1, ?_⟩
    rcases h.row.2 with h0 | ⟨g1, cap1, cur1, e1, hB1, hc1, h3⟩
    · exact .inl h0
    · refine .inr ⟨g1, cap1, cur1, e1, hB1, ?_, h3⟩
      rw [hk g1 (Array.getElem?_eq_some_iff.1 hc1).1 (fun e => by
        rw [e, h.tb] at hc1
        simp only [Option.some.injEq, Obj.cells.injEq] at hc1
        exact absurd hc1.2.1 (by decide))]
      exact hc1
/-- A row of numbers that grows. -/
theorem Ub.grow (h : Ub w wr u gm p g c L n M ti rs Mi vm Ms) {vr : Value} {lr : List Int} (hv : Lst inC 1 3 wr w.heap.size vr lr) (hb : Below w.heap.size wr w') (hk : ∀ j, j < wr.heap.size → vr.ownBlock ≠ some j → w'.heap[j]? = wr.heap[j]?) :
    ∀ {v' : Value} {Ms' : List Int}, Lst inC 1 3 w' w.heap.size v' Ms' → Ub w w' u gm p g c L n M ti rs Mi v' Ms' := by
  intro v' Ms' hL
  have hS : ∀ b cs T, vr.ownBlock = some b → wr.heap[b]? = some (.cells cs T (0, 0)) → T = 3 := fun b cs T hb hc => by
    rcases hv.2 with ⟨rfl, _⟩ | ⟨g1, cap1, cur1, rfl, _, hc1, _⟩
    · cases hb
    · simp [Value.ownBlock] at hb
      subst hb
      rw [hc1] at hc
      simp only [Option.some.injEq, Obj.cells.injEq] at hc
      exact hc.2.1.symm
  have own' : ∀ x, Own1 wr w.heap.size (ft u gm p g) x → Own1 w' w.heap.size (ft u gm p g) x := fun x hx => ⟨hx.1.same (fun b hb => hk b (hx.1.lt b hb) (fun e => by
    rcases hx.1.2 with ⟨e2, _⟩ | ⟨g1, cap1, cur1, e2, _, hc1, _⟩
    · rw [e2] at hb; cases hb
    · rw [e2] at hb
      simp [Value.ownBlock] at hb
      subst hb
      exact absurd (hS _ _ _ e hc1) (by decide))), hx.2⟩
  refine ⟨h.ud.keepG (S := fun b => vr.ownBlock = some b) (h.ud.noftG hv (by decide) (by decide) (by decide)) (fun b cs T hb hc => by rw [hS b cs T hb hc]; decide) hk, ?_, h.tl, h.tg, fun r hr => own' r (h.own r hr), h.im, hL, h.bel.trans hb⟩
  rw [hk ti h.tlt (fun e => absurd (hS _ _ _ e h.tb) (by decide))]
  exact h.tb
end
end Go.Proofs.YtopblhmbjdfebaaGreat
/-! Small contracts for the law UndoBack: the heap of an Undo; its marks, as a row of numbers; a table of slices that is made. (Part of the proof of UndoBack.) -/
namespace Go.Proofs.YtopblhmbjdfebaaGreat
open Go.RowKit
set_option linter.unusedVariables false

section
variable {w w' : World} {B u gm p g c : Nat} {L : List Int} {n : Nat} {M : List (Int × List Int)}
theorem uHeap_any (h : Ud w B u gm p g c L n M) :
    Calls Tryz.prog 10 #[.pointer (some ⟨u, 0, none⟩)] w fun e w' => e = .returned (.pointer (some ⟨p, 0, none⟩)) ∧ w = w' := by
  obtain ⟨c0, c1, c2⟩ := h.cells
  clear h c1 c2
  go_enter Tryz.func10, Tryz.ntmps10
  go_wp2
  go_ret
  exact ⟨rfl, rfl⟩
theorem flat_inU (l : List Int) : l.flatMap inC = l.map (Value.int .i64) := by
  induction l with
  | nil => rfl
  | cons x l ih => rw [List.flatMap_cons, ih]; rfl
theorem uMarks_row (h : Ud w B u gm p g c L n M) (hn : n ≤ 90000) :
    Calls Tryz.prog 19 #[.pointer (some ⟨u, 0, none⟩)] w fun e w' => ∃ dv, e = .returned dv ∧ Lst inC 1 3 w' w.heap.size dv (M.map (·.1)) ∧ Below w.heap.size w w' := by
  refine (uMarks_any h hn).mono ?_
  rintro e w1 ⟨dv, rfl, hrow, hb⟩
  refine ⟨dv, rfl, ?_, hb⟩
  unfold Lst
  rw [flat_inU, List.length_map]
  exact hrow
end
theorem OwnV.bsAt' {w : World} {B : Nat} {a : Option Addr} {c : Nat} {l : List Int} (h : OwnV w B (.slice a l.length c) l) (hb : Byt l) (hl : l.length ≤ 140737488351232) : Bs w a c l := by
  obtain ⟨a2, c2, e2, hb2⟩ := h.bs hb hl
  simp only [Value.slice.injEq, true_and] at e2
  obtain ⟨rfl, rfl⟩ := e2
  exact hb2
theorem info_slU : (Tryz.prog.info? 22).map (fun i => (i.zero, i.size, i.bytes)) = some (some (.slice none 0 0), 1, 24) := by kernel_rfl
theorem made_slU (n : Nat) : madeCells (Value.slice none 0 0).cells n = ((List.replicate n ((none, 0, []) : Option Addr × Nat × List Int)).map slV).toArray := by
  apply Array.toList_inj.1
  apply List.ext_getElem
  · simp [madeCells]
  · intro j h1 h2
    simp [madeCells, Value.cells, Nat.mod_one, slV]
theorem wpList_make_tbl {w : World} {ops : Array Oper} {rest : List Oper} {o : Oper} {a : Act} {Q : Exit → Act → World → Prop}
    (hg : o.guard = none) (l c : Operand) (t : TypeId) (hop : o.op = Op.makeSlice t l c) (h1 : Tryz.prog.underlying t = some (.slice 22))
    (kl kc : IntKind) (L C : Int) (hl : a.eval l = .int kl L) (hc : a.eval c = .int kc C) (hL : L = 100) (hC : C = 100)
    (hK : ∀ w', w'.heap[w.heap.size]? = some (.cells ((List.replicate 100 ((none, 0, []) : Option Addr × Nat × List Int)).map slV).toArray 22 (0, 0)) → w'.heap.size = w.heap.size + 1 → Below w.heap.size w w' → wpList Tryz.prog ops Q rest (a.put o.dst (.slice (some ⟨w.heap.size, 0, none⟩) 100 100)) w') :
    wpList Tryz.prog ops Q (o :: rest) a w := by
  obtain ⟨i, h2, h3, h4, h5⟩ := info_parts info_slU
  refine wpList_plain hg fun K hK' => ?_
  have hrun := run_make (P := Tryz.prog) w t 22 i _ h1 h2 h3 kl kc 100 100 (by omega) (by omega) (by rw [h5]; omega) (by omega)
  subst hL
  subst hC
  unfold Oper.wp
  simp [execOp, hop, hl, hc, hrun, Result.andThen]
  refine hK' _ _ (hK _ ?_ (by simp) ((Below.refl _ _).alloc (Nat.le_refl _) _))
  rw [heap_alloc_new, h4, Nat.mul_one]
  exact congrArg (fun x => some (Obj.cells x 22 (0, 0))) (made_slU 100)
section
variable {w wr : World} {u gm p g c : Nat} {L : List Int} {n : Nat} {M : List (Int × List Int)} {ti : Nat} {rs : List (Option Addr × Nat × List Int)} {Mi : List (Int × List Int)} {vm : Value} {Ms : List Int}
theorem Ub.newrow (h : Ub w wr u gm p g c L n M ti rs Mi vm Ms) {v' : Value} {Ms' : List Int} (hL : Lst inC 1 3 wr w.heap.size v' Ms') {Mj : List (Int × List Int)} (hM : ∀ x ∈ Mj, x ∈ Mi) : Ub w wr u gm p g c L n M ti rs Mj v' Ms' :=
  ⟨h.ud, h.tb, h.tl, h.tg, h.own, fun x hx => h.im x (hM x hx), hL, h.bel⟩
end
theorem any_mk (M : List (Int × List Int)) (m : Int) : (M.map (·.1)).any (fun y => y == m) = (mkAt M m).isSome := by
  rw [Bool.eq_iff_iff, mkAt_some]
  simp
theorem any_take {l : List Int} {j : Nat} {y m : Int} (h : l[j]? = some y) : (l.take (j + 1)).any (fun y => y == m) = ((l.take j).any (fun y => y == m) || (y == m)) := by
  rw [List.take_add_one, h, List.any_append]
  simp
theorem fil_take {l : List Int} {j : Nat} {y m : Int} (h : l[j]? = some y) : (l.take (j + 1)).filter (fun y => decide (y ≤ m)) = (l.take j).filter (fun y => decide (y ≤ m)) ++ (if y ≤ m then [y] else []) := by
  rw [List.take_add_one, h, List.filter_append]
  by_cases hy : y ≤ m
  · rw [if_pos hy]; simp [hy]
  · rw [if_neg hy]; simp [hy]
theorem fil_cut (M : List (Int × List Int)) (m : Int) : (M.map (·.1)).filter (fun y => decide (y ≤ m)) = (mkCut M m).map (·.1) := by
  unfold mkCut
  rw [List.filter_map]
  rfl
end Go.Proofs.YtopblhmbjdfebaaGreat
