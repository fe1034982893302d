/-
  Contracts of package image: a copy in which bytes are laid; Drop; Put. (Part of the proofs over package image.)
-/
import Derived.Test.YtllpeknpplpgeaaGreatDoorImB
namespace Go.Proofs.YtllpeknpplpgeaaGreatDoor
open Go.RowKit
set_option linter.unusedVariables false

/-- Block g is a row of at least the bytes l, of its own. -/
def Row (w : World) (B g c : Nat) (cur : Array Value) (l : List Int) : Prop :=
  B ≤ g ∧ w.heap[g]? = some (.cells cur 5 (0, 0)) ∧ l.length ≤ c ∧ cur.size = c ∧ cur.toList.take l.length = l.map (Value.int .u8)
theorem Row.bs {w : World} {B g c : Nat} {cur : Array Value} {l : List Int} (h : Row w B g c cur l) (hb : Byt l) (hl : l.length ≤ 140737488351232) : Bs w (some ⟨g, 0, none⟩) c l := by
  obtain ⟨h1, h2, h3, h4, h5⟩ := h
  refine ⟨hb, h3, hl, fun e => (by cases e), fun _ => ⟨g, 0, rfl, fun i hi => ?_⟩⟩
  rw [cell_of_row _ _ _ _ _ _ h2]
  have e : (cur.toList.take l.length)[i]? = some (.int .u8 (l.getD i 0)) := by
    rw [h5]
    simp [List.getD, hi]
  rw [List.getElem?_take, if_pos hi] at e
  simpa using e
theorem Row.of_own {w : World} {B g cap : Nat} {l : List Int} (h : Own w B g cap l) : ∃ cur, Row w B g cap cur l := by
  rcases h.2 with ⟨h', _⟩ | ⟨g', cap', cur, h', hb, h2, h3, h4, h5, h6⟩
  · simp at h'
  · simp only [Value.slice.injEq, Option.some.injEq, Addr.mk.injEq, and_true, true_and] at h'
    obtain ⟨rfl, rfl⟩ := h'
    exact ⟨cur, hb, h2, h3, by omega, by rw [Nat.mul_one] at h6; exact h6⟩
theorem Row.own {w : World} {B g cap : Nat} {cur : Array Value} {l : List Int} (h : Row w B g cap cur l) (hm : cap ≤ maxLen) : Own w B g cap l := by
  obtain ⟨h1, h2, h3, h4, h5⟩ := h
  exact ⟨by simp, .inr ⟨g, cap, cur, rfl, h1, h2, h3, hm, by omega, by rw [Nat.mul_one]; exact h5⟩⟩
/-- The world in which bytes are laid over a row. (A name of its own, so that the walk leaves it standing.) -/
def laidW (w : World) (g : Nat) (cur : Array Value) (off : Nat) (l : List Int) : World := w.setRow g (splice cur.toList off (l.map (Value.int .u8))).toArray
theorem laidW_row {w : World} {B g c off : Nat} {cur : Array Value} {l r : List Int} (h : Row w B g c cur l) (hfit : off + r.length ≤ l.length) : Row (laidW w g cur off r) B g c (splice cur.toList off (r.map (Value.int .u8))).toArray (splice l off r) := by
  obtain ⟨h1, h2, h3, h4, h5⟩ := h
  have hs := length_splice hfit
  refine ⟨h1, setRow_heap w g _ _ _ _ h2, by rw [hs]; exact h3, ?_, ?_⟩
  · rw [List.size_toArray, Go.length_splice _ _ _ (by simp; omega)]
    simpa using h4
  · rw [hs]
    have hcl : l.length ≤ cur.toList.length := by simp; omega
    generalize cur.toList = L at *
    unfold splice
    have e1 : (L.take off) = (l.take off).map (Value.int .u8) := by
      rw [List.map_take, ← h5, List.take_take, Nat.min_eq_left (by omega)]
    have e2 : (L.drop (off + r.length)).take (l.length - off - r.length) = (l.drop (off + r.length)).map (Value.int .u8) := by
      rw [List.map_drop, ← h5, List.drop_take]
      congr 1
      omega
    rw [List.take_append, List.take_append, List.map_append, List.map_append]
    have l1 : (List.take off L).length = off := by rw [List.length_take]; omega
    have t1 : List.take l.length (List.take off L) = (l.take off).map (Value.int .u8) := by rw [List.take_take, Nat.min_eq_right (by omega)]; exact e1
    have t2 : List.take (l.length - off) (r.map (Value.int .u8)) = r.map (Value.int .u8) := List.take_of_length_le (by simp; omega)
    rw [l1, List.length_map, e2, t1, t2]
theorem laidW_below {w w0 : World} {B g off : Nat} {cur : Array Value} {l : List Int} (hb : Below B w0 w) (hBg : B ≤ g) : Below B w0 (laidW w g cur off l) := below_setRow hb hBg _
theorem run_copy_laid {P : Program} (w : World) (dT sT ty : TypeId) (hu : P.underlying dT = some (.slice 5)) (hsz : (P.info? 5).map (·.size) = some 1)
    (B g off dLen dCap c : Nat) (cur : Array Value) (sp : Option Addr) (sCap : Nat) (z l : List Int) (hl : l.length ≤ dLen) (h0 : l ≠ []) (hfit : off + l.length ≤ z.length) (hg : Row w B g c cur z) (hb : Bs w sp sCap l) :
    (Builtin.copy_ #[dT, sT] ty #[.slice (some ⟨g, off, none⟩) dLen dCap, .slice sp l.length sCap]).run P w = .ok (.int .i64 l.length) (laidW w g cur off l) := by
  obtain ⟨h1, h2, h3, h4, h5⟩ := hg
  obtain ⟨b, o2, rfl, hc⟩ := hb.2.2.2.2 h0
  have hrun := run_copy_row (P := P) w dT sT ty 5 g off dLen dCap ⟨b, o2, none⟩ l.length sCap cur 5 (l.map (Value.int .u8)) hu hsz h2 (by simp [Nat.min_eq_left hl]) ?_ (by simp; omega) (oneCell_u8 l)
  · rw [hrun]
    simp [goInt, laidW, splice]
  · intro j v hj
    have hjl : j < l.length := by
      rcases Nat.lt_or_ge j l.length with h1 | h1
      · exact h1
      · rw [List.getElem?_eq_none (by simpa using h1)] at hj; cases hj
    have := hc j hjl
    simp [hjl] at hj
    subst hj
    rw [addr_add]
    simpa [List.getD, hjl] using this
/-- 'out[p:]' of a row. -/
theorem cut_row {P : Program} {t : TypeId} (hu : P.underlying t = some (.slice 5)) (hsz : (P.info? 5).map (·.size) = some 1) (g c n p : Nat) (hp : p ≤ n) (hn : n ≤ c) (hlt : p < c) (w' : World) :
    (Instr.slice t (.slice (some ⟨g, 0, none⟩) n c) (some (.int .i64 p)) none none).run P w' = .ok (.slice (some ⟨g, p, none⟩) (n - p) (c - p)) w' := by
  have he := elem_u8 hu
  rw [run_slice_l (P := P) (w := w') t (some ⟨g, 0, none⟩) n c (by rw [he]; exact hu) .i64 p (by omega) (by omega), he, run_size_u8 w' hsz]
  simp only [Result.andThen, sliced]
  rw [if_neg (by omega)]
  simp [Addr.add]
  exact fun h => h.symm

set_option maxHeartbeats 1000000 in
theorem clone_u8 (a : Option Addr) (cap : Nat) (l : List Int) (w : World) (hb : Bs w a cap l) (hne : l ≠ []) :
    Calls Tryz.prog 112 #[.slice a l.length cap] w fun e w' => ∃ g c, e = .returned (.slice (some ⟨g, 0, none⟩) l.length c) ∧ Own w' w.heap.size g c l ∧ Below w.heap.size w w' := by
  obtain ⟨i0, hi, hz0, hz1, hz2⟩ := info_parts info_u8
  obtain ⟨b, off, rfl, hc⟩ := hb.2.2.2.2 hne
  have hl := hb.2.2.1
  have q22 : ∀ (w : World) (a : Option Addr) (n c n' c' : Nat), (binOp .eql 22 (.slice a n c) (.slice none n' c')).run Tryz.prog w = .ok (.bool a.isNone) w := fun w a n c n' c' => Lib.run_eql_slice_nil w _ _ a n c n' c' Tryz.underlying22
  have HN := hide (news_bs (hb.below ((Below.refl _ w).alloc (Nat.le_refl _) (.cells #[] 5))))
  have hpos : 0 < l.length := by
    cases l with
    | nil => exact absurd rfl hne
    | cons _ _ => simp
  clear hc hb
  go_enter Tryz.func112, Tryz.ntmps112
  go_wp2_with (at_builtin; refine wpList_append_own _ rfl _ _ 22 rfl w.heap.size 5 i0 (.int .u8 0) 1 1 Tryz.underlying22 hi hz0 hz1 hz2 rfl (by decide) _ _ _ rfl (World.ownsRow_made w #[] 0 (Nat.le_refl _) (Nat.zero_le _) (by simp)) ⟨b, off, none⟩ l.length cap (l.map (Value.int .u8)) rfl (by simp) (unhide HN) (oneCell_u8 l) (by unfold maxLen; omega) (by omega) (by simp) ?_)
  intro v' w1 hown hgrow hnil
  obtain ⟨g, c, rfl⟩ : ∃ g c, v' = .slice (some ⟨g, 0, none⟩) l.length c := by
    rcases hown.2 with ⟨_, h0⟩ | ⟨g, c, _, hv, _⟩
    · omega
    · exact ⟨g, c, hv⟩
  have HO := hide hown
  clear hown HN
  go_wp2
  go_ret
  exact ⟨g, c, rfl, unhide HO, ((Below.refl _ w).alloc (Nat.le_refl _) _).grown hgrow (by simp) (by intro k hk; simp [Value.ownBlock] at hk; omega)⟩

/-- A copy in which bytes are laid. -/
theorem with_any (a : Option Addr) (cap : Nat) (l : List Int) (p : Nat) (ra : Option Addr) (rc : Nat) (r : List Int) (w : World) (hb : Bs w a cap l) (hr : Bs w ra rc r) (h0 : r ≠ []) (hfit : p + r.length ≤ l.length) :
    Calls Tryz.prog 75 #[.slice a l.length cap, .int .i64 p, .slice ra r.length rc] w fun e w' => ∃ a' c', e = .returned (.slice a' l.length c') ∧ Bs w' a' c' (splice l p r) ∧ Below w.heap.size w w' := by
  have hrl : 0 < r.length := by
    cases r with
    | nil => exact absurd rfl h0
    | cons _ _ => simp
  have HC := hide (clone_u8 a cap l w hb (by intro e; rw [e] at hfit; simp only [List.length_nil] at hfit; omega))
  have HR := hide hr
  have hbl := hb.2.2.1
  have HBY := hide (byt_splice (off := p) hb.1 hr.1)
  clear hb hr
  go_enter Tryz.func75, Tryz.ntmps75
  go_wp2_with fail
  refine (unhide HC).mono ?_
  rintro e w1 ⟨g, c, rfl, hown, hb1⟩
  obtain ⟨cur, hrow⟩ := Row.of_own hown
  have hcut := cut_row (P := Tryz.prog) Tryz.underlying22 size_u8 g c l.length p (by omega) hrow.2.2.1 (by have := hrow.2.2.1; omega)
  have hcopy : Sem.run Tryz.prog (Builtin.copy_ #[22, 22] 3 #[.slice (some ⟨g, p, none⟩) (l.length - p) (c - p), .slice ra r.length rc]) w1 = .ok (.int .i64 r.length) (laidW w1 g cur p r) :=
    run_copy_laid w1 _ _ _ Tryz.underlying22 size_u8 _ g p _ _ c cur ra rc l r (by omega) h0 hfit hrow ((unhide HR).below hb1)
  have HW := hide (laidW_row hrow hfit)
  have HB := hide (laidW_below (cur := cur) (l := r) (off := p) hb1 hrow.1)
  clear hown hrow hb1 HC HR
  go_wp2
  go_ret
  exact ⟨_, c, rfl, (unhide HW).bs (unhide HBY) (by rw [length_splice hfit]; omega), unhide HB⟩
end Go.Proofs.YtllpeknpplpgeaaGreatDoor
