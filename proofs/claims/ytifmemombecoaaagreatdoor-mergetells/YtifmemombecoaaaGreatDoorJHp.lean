/-
  Parts of the proofs, joined by program.
-/
import Derived.Test.YtifmemombecoaaaGreatDoorJIm
import Derived.Test.YtifmemombecoaaaGreatDoorJChp
import Derived.Test.YtifmemombecoaaaGreatDoorJTn
import Derived.Test.YtifmemombecoaaaGreatDoorJNum
import Derived.Test.YtifmemombecoaaaGreatDoorProg
namespace Go.Proofs.YtifmemombecoaaaGreatDoor
open Go.RowKit
set_option linter.unusedVariables false
section
variable {w w' : World} {B B' g c : Nat} {cur : Array Value} {l : List Int}
theorem Row.lt (h : Row w B g c cur l) : g < w.heap.size := (Array.getElem?_eq_some_iff.1 h.2.1).1
theorem Row.below (h : Row w B g c cur l) (hb : Below w.heap.size w w') : Row w' B g c cur l := ⟨h.1, (hb.block g h.lt).trans h.2.1, h.2.2⟩
theorem Row.low (h : Row w B' g c cur l) (hB : B <= B') : Row w B g c cur l := ⟨Nat.le_trans hB h.1, h.2⟩
end
def EndsR (w : World) (L : List Int) (x : Value) (e : Ending) (w' : World) : Prop :=
 ∃ g c cur, e = .returned (.tuple #[.slice (some ⟨g, 0, none⟩) L.length c, x]) /\ Row w' w.heap.size g c cur L /\ Below w.heap.size w w'
theorem with_row (a : Option Addr) (cap : Nat) (l : List Int) (p : Nat) (ra : Option Addr) (rc : Nat) (r : List Int) (w : World) (hb : Bs w a cap l) (hr : Bs w ra rc r) (h0 : r ≠ []) (hfit : p + r.length <= l.length) :
  Calls Tryz.prog 114 #[.slice a l.length cap, .int .i64 p, .slice ra r.length rc] w fun e w' => ∃ g' c' cur', e = .returned (.slice (some ⟨g', 0, none⟩) l.length c') /\ Row w' w.heap.size g' c' cur' (splice l p r) /\ Below w.heap.size w w' := by
 have hrl : 0 < r.length := by
  cases r with
  | nil => exact absurd rfl h0
  | cons _ _ => simp
 have HC := hide (clone_u8 a cap l w hb (by intro e; rw [e] at hfit; simp only [List.length_nil] at hfit; omega))
 have HR := hide hr
 have hbl := hb.2.2.1
 clear hb hr
 go_enter Tryz.func114, Tryz.ntmps114
 go_wp2_with fail
 refine (unhide HC).mono ?_
 rintro e w1 ⟨g, c, rfl, hown, hb1⟩
 obtain ⟨cur, hrow⟩ := Row.of_own hown
 have hcut := cut_row (P := Tryz.prog) Tryz.underlying22 size_u8 g c l.length p (by omega) hrow.2.2.1 (by have := hrow.2.2.1; omega)
 have hcopy : Sem.run Tryz.prog (Builtin.copy_ #[22, 22] 3 #[.slice (some ⟨g, p, none⟩) (l.length - p) (c - p), .slice ra r.length rc]) w1 = .ok (.int .i64 r.length) (laidW w1 g cur p r) :=
  run_copy_laid w1 _ _ _ Tryz.underlying22 size_u8 _ g p _ _ c cur ra rc l r (by omega) h0 hfit hrow ((unhide HR).below hb1)
 have HW := hide (laidW_row hrow hfit)
 have HB := hide (laidW_below (cur := cur) (l := r) (off := p) hb1 hrow.1)
 clear hown hrow hb1 HC HR
 go_wp2
 go_ret
 exact ⟨g, c, _, rfl, unhide HW, unhide HB⟩
set_option maxHeartbeats 1000000 in
theorem iPut_row (b : Option Addr) (cap : Nat) (L : List Int) (x a l t : Int) (w : World) (hbs : Bs w b cap L) (h0 : putE L (x, a, l, t) = 0) :
  Calls Tryz.prog 90 #[.slice b L.length cap, .agg #[.int .i64 x, .int .i64 a, .int .i64 l, .int .i64 t]] w (EndsR w (splice L (plc x) (rowE (x, a, l, t))) .nilIface) := by
 obtain ⟨q1, q2, q3⟩ := putE_zero.1 h0
 dsimp only at q2 q3
 have hlen := lenB_iff.1 q1
 have hx := hndB_iff.1 q2
 have hp := plc_le hx.1 hx.2
 have HC := hide (ckEnt_any L (x, a, l, t) (w.alloc (.cells #[.int .i64 x, .int .i64 a, .int .i64 l, .int .i64 t] 60)) hbs.2.2.1 (by dsimp only; omega))
 rw [h0, errV_zero] at HC
 unfold entV at HC
 dsimp only at HC
 have HE := hide (fun W => entryRow_any x a l t W ⟨q3.1, q3.2.1⟩ (by omega) (by omega))
 have HP := hide (fun W => entryAt_any x W hx.1 hx.2)
 have hrl : (rowE (x, a, l, t)).length = 5 := rfl
 have HW := hide (fun (W : World) (g : Nat) (h5 : Bs W b cap L) (h6 : Bs W (some ⟨g, 0, none⟩) 5 (rowE (x, a, l, t))) => with_row b cap L (plc x) (some ⟨g, 0, none⟩) 5 (rowE (x, a, l, t)) W h5 h6 (by intro e; cases e) (by omega))
 rw [hrl] at HW
 have HN := hide (EnB.new w (x, a, l, t))
 have HLEN := hide (length_splice (z := L) (l := rowE (x, a, l, t)) (off := plc x) (by omega))
 have HBS := hide hbs
 have hb3 := hbs.2.2.1
 clear h0 q1 q2 q3 hbs hrl
 generalize rowE (x, a, l, t) = R at *
 go_enter Tryz.func90, Tryz.ntmps90
 go_wp2_with fail
 refine (unhide HC).mono ?_
 rintro e w1 ⟨rfl, hb1⟩
 have hB1 : Below w.heap.size w w1 := ((Below.refl _ w).alloc (Nat.le_refl _) _).trans (hb1.mono (by simp))
 have hen1 := (unhide HN).below hb1 (by simp)
 obtain ⟨c0, c1, c2, c3⟩ := hen1.cells
 have HEN1 := hide hen1
 have HB1 := hide hB1
 clear hb1 hB1 hen1 HC HN
 go_wp2_with fail
 refine (unhide HE _).mono ?_
 rintro e w2 ⟨g, rfl, hbr, hb2⟩
 have hen2 := (unhide HEN1).below hb2 (unhide HEN1).lt
 obtain ⟨d0, d1, d2, d3⟩ := hen2.cells
 have HB2 := hide ((unhide HB1).trans (hb2.mono (unhide HB1).size))
 have HW2 := hide (unhide HW w2 g ((unhide HBS).below (unhide HB2)) hbr)
 clear hb2 hen2 hbr HEN1 HB1 HW HE c0 c1 c2 c3
 go_wp2_with fail
 refine (unhide HP _).mono ?_
 rintro e w3 ⟨rfl, hw3⟩
 subst hw3
 go_wp2_with fail
 refine (unhide HW2).mono ?_
 rintro e w4 ⟨a4, c4, cur4, rfl, hbs4, hb4⟩
 have HB4 := hide ((unhide HB2).trans (hb4.mono (unhide HB2).size))
 have HBS4 := hide hbs4
 have HSZ4 := hide (unhide HB2).size
 clear hbs4 hb4 HB2 HW2 d0 d1 d2 d3
 go_wp2
 go_ret2
 exact ⟨a4, c4, cur4, by rw [unhide HLEN]; rfl, (unhide HBS4).low (unhide HSZ4), unhide HB4⟩
def foot (p g : Nat) (k : Nat) : Prop := k = p \/ k = g
section
variable {w w' : World} {B p g c : Nat} {L : List Int}
end
def BsO (w : World) (S : Nat -> Prop) (a : Option Addr) (cap : Nat) (l : List Int) : Prop := Bs w a cap l /\ (l ≠ [] -> ∀ x, a = some x -> ¬ S x.block)
theorem BsO.turn {w w' : World} {S S' : Nat -> Prop} {a : Option Addr} {cap : Nat} {l : List Int} (h : BsO w S a cap l) (ht : Turn S S' w w') : BsO w' S' a cap l := by
 obtain ⟨hb, hn⟩ := h
 by_cases h0 : l = []
 ·obtain ⟨h1, h2, h3, h4, h5⟩ := hb
  exact ⟨⟨h1, h2, h3, h4, fun h => absurd h0 h⟩, fun h => absurd h0 h⟩
 ·refine ⟨hb.turn ht (hn h0), fun _ x hx hs => ?_⟩
  obtain ⟨b, off, rfl, hc⟩ := hb.2.2.2.2 h0
  obtain rfl := Option.some.inj hx
  have hlt := block_lt_of_cell (hc 0 (List.length_pos_iff.2 h0))
  exact hn h0 _ rfl (ht.foot _ hlt hs)
theorem BsO.below {w w' : World} {S : Nat -> Prop} {a : Option Addr} {cap : Nat} {l : List Int} (h : BsO w S a cap l) (hb : Below w.heap.size w w') : BsO w' S a cap l := h.turn (Turn.of_below hb)
theorem OwnV.lower {w : World} {B B' : Nat} {v : Value} {L : List Int} (h : OwnV w B' v L) (hB : B <= B') : OwnV w B v L := by
 refine ⟨h.1, ?_⟩
 rcases h.2 with h0 | ⟨g, cap, cur, hv, hb, h3⟩
 ·exact .inl h0
 ·exact .inr ⟨g, cap, cur, hv, Nat.le_trans hB hb, h3⟩
theorem OwnV.bsO {w : World} {B : Nat} {S : Nat -> Prop} {v : Value} {l : List Int} (h : OwnV w B v l) (hb : Byt l) (hl : l.length <= 140737488351232) (hS : ∀ k, S k -> k < B) : ∃ a c, v = .slice a l.length c /\ BsO w S a c l := by
 obtain ⟨a, c, rfl, hbs⟩ := h.bs hb hl
 refine ⟨a, c, rfl, hbs, fun _ x hx hs => ?_⟩
 subst hx
 have h1 := h.block x.block
 rcases h.2 with ⟨e, _⟩ | ⟨g, cap, cur, e, hB, _⟩
 ·simp at e
 ·simp only [Value.slice.injEq, Option.some.injEq] at e
  obtain ⟨rfl, _⟩ := e
  have := hS _ hs
  dsimp only at this
  omega
theorem OwnV.shape {w : World} {B : Nat} {v : Value} {L : List Int} (h : OwnV w B v L) : ∃ a c, v = .slice a L.length c := by
 rcases h.2 with ⟨rfl, h0⟩ | ⟨g, cap, cur, rfl, _⟩
 ·exact ⟨none, 0, by rw [h0]⟩
 ·exact ⟨_, _, rfl⟩
theorem Blk.row {w : World} {B g : Nat} {l : List Int} (h : Blk w g l) (hB : B <= g) : Row w B g l.length (l.map (Value.int .u8)).toArray l := ⟨hB, h, Nat.le_refl _, by simp, by rw [List.take_of_length_le (by simp)]⟩
theorem iNew_row (N : Nat) (w : World) (hq : lenB N = true) : Calls Tryz.prog 61 #[.int .i64 N] w (EndsR w (zerosB N) .nilIface) := by
 have HL := hide (isLength_any N w)
 obtain ⟨i0, hi, hz0, hz1, hz2⟩ := info_parts info_u8
 rw [hq] at HL
 have hn := lenB_iff.1 hq
 clear hq
 go_enter Tryz.func61, Tryz.ntmps61
 go_wp2_with fail
 refine (unhide HL).mono ?_
 rintro e w1 ⟨rfl, rfl⟩
 go_wp2_with (at_make; refine wpList_make_u8 rfl _ _ 22 rfl i0 Tryz.underlying22 hi hz0 hz1 hz2 _ _ _ _ N rfl rfl rfl rfl (by omega) ?_; intro w2 hk2 hs2 hb2)
 go_ret2
 have hlen := length_zerosB N
 have hr := hk2.row (Nat.le_refl _)
 rw [hlen] at hr
 exact ⟨_, N, _, by rw [hlen]; rfl, hr, hb2⟩
end Go.Proofs.YtifmemombecoaaaGreatDoor
