/-
  Parts of the proofs, joined by program.
-/
import Derived.Test.YtfbloliakmehbaaGreatDoorJIm
import Derived.Test.YtfbloliakmehbaaGreatDoorJChp
import Derived.Test.YtfbloliakmehbaaGreatDoorJTn
import Derived.Test.YtfbloliakmehbaaGreatDoorJNum
import Derived.Test.YtfbloliakmehbaaGreatDoorProg
namespace Go.Proofs.YtfbloliakmehbaaGreatDoor
open Go.RowKit
set_option linter.unusedVariables false
section
variable {w w' : World} {B B' g c : Nat} {cur : Array Value} {l : List Int}
theorem Row.lt (h : Row w B g c cur l) : g < w.heap.size := (Array.getElem?_eq_some_iff.1 h.2.1).1
theorem Row.below (h : Row w B g c cur l) (hb : Below w.heap.size w w') : Row w' B g c cur l := ⟨h.1, (hb.block g h.lt).trans h.2.1, h.2.2⟩
theorem Row.low (h : Row w B' g c cur l) (hB : B <= B') : Row w B g c cur l := ⟨Nat.le_trans hB h.1, h.2⟩
end
def EndsR (w : World) (L : List Int) (x : Value) (e : Ending) (w' : World) : Prop :=
 ∃ g c cur, e = .returned (.tuple #[.slice (some ⟨g, 0, none⟩) L.length c, x]) /\ Row w' w.heap.size g c cur L /\ Below w.heap.size w w'
theorem with_row (a : Option Addr) (cap : Nat) (l : List Int) (p : Nat) (ra : Option Addr) (rc : Nat) (r : List Int) (w : World) (hb : Bs w a cap l) (hr : Bs w ra rc r) (h0 : r ≠ []) (hfit : p + r.length <= l.length) :
  Calls Tryz.prog 133 #[.slice a l.length cap, .int .i64 p, .slice ra r.length rc] w fun e w' => ∃ g' c' cur', e = .returned (.slice (some ⟨g', 0, none⟩) l.length c') /\ Row w' w.heap.size g' c' cur' (splice l p r) /\ Below w.heap.size w w' := by
 have hrl : 0 < r.length := by
  cases r with
  | nil => exact absurd rfl h0
  | cons _ _ => simp
 have HC := hide (clone_u8 a cap l w hb (by intro e; rw [e] at hfit; simp only [List.length_nil] at hfit; omega))
 have HR := hide hr
 have hbl := hb.2.2.1
 clear hb hr
 go_enter Tryz.func133, Tryz.ntmps133
 go_wp2_with fail
 refine (unhide HC).mono ?_
 rintro e w1 ⟨g, c, rfl, hown, hb1⟩
 obtain ⟨cur, hrow⟩ := Row.of_own hown
 have hcut := cut_row (P := Tryz.prog) Tryz.underlying22 size_u8 g c l.length p (by omega) hrow.2.2.1 (by have := hrow.2.2.1; omega)
 have hcopy : Sem.run Tryz.prog (Builtin.copy_ #[22, 22] 3 #[.slice (some ⟨g, p, none⟩) (l.length - p) (c - p), .slice ra r.length rc]) w1 = .ok (.int .i64 r.length) (laidW w1 g cur p r) :=
  run_copy_laid w1 _ _ _ Tryz.underlying22 size_u8 _ g p _ _ c cur ra rc l r (by omega) h0 hfit hrow ((unhide HR).below hb1)
 have HW := hide (laidW_row hrow hfit)
 have HB := hide (laidW_below (cur := cur) (l := r) (off := p) hb1 hrow.1)
 clear hown hrow hb1 HC HR
 go_wp2
 go_ret
 exact ⟨g, c, _, rfl, unhide HW, unhide HB⟩
set_option maxHeartbeats 1000000 in
theorem iPut_row (b : Option Addr) (cap : Nat) (L : List Int) (x a l t : Int) (w : World) (hbs : Bs w b cap L) (h0 : putE L (x, a, l, t) = 0) :
  Calls Tryz.prog 84 #[.slice b L.length cap, .agg #[.int .i64 x, .int .i64 a, .int .i64 l, .int .i64 t]] w (EndsR w (splice L (plc x) (rowE (x, a, l, t))) .nilIface) := by
 obtain ⟨q1, q2, q3⟩ := putE_zero.1 h0
 dsimp only at q2 q3
 have hlen := lenB_iff.1 q1
 have hx := hndB_iff.1 q2
 have hp := plc_le hx.1 hx.2
 have HC := hide (ckEnt_any L (x, a, l, t) (w.alloc (.cells #[.int .i64 x, .int .i64 a, .int .i64 l, .int .i64 t] 71)) hbs.2.2.1 (by dsimp only; omega))
 rw [h0, errV_zero] at HC
 unfold entV at HC
 dsimp only at HC
 have HE := hide (fun W => entryRow_any x a l t W ⟨q3.1, q3.2.1⟩ (by omega) (by omega))
 have HP := hide (fun W => entryAt_any x W hx.1 hx.2)
 have hrl : (rowE (x, a, l, t)).length = 5 := rfl
 have HW := hide (fun (W : World) (g : Nat) (h5 : Bs W b cap L) (h6 : Bs W (some ⟨g, 0, none⟩) 5 (rowE (x, a, l, t))) => with_row b cap L (plc x) (some ⟨g, 0, none⟩) 5 (rowE (x, a, l, t)) W h5 h6 (by intro e; cases e) (by omega))
 rw [hrl] at HW
 have HN := hide (EnB.new w (x, a, l, t))
 have HLEN := hide (length_splice (z := L) (l := rowE (x, a, l, t)) (off := plc x) (by omega))
 have HBS := hide hbs
 have hb3 := hbs.2.2.1
 clear h0 q1 q2 q3 hbs hrl
 generalize rowE (x, a, l, t) = R at *
 go_enter Tryz.func84, Tryz.ntmps84
 go_wp2_with fail
 refine (unhide HC).mono ?_
 rintro e w1 ⟨rfl, hb1⟩
 have hB1 : Below w.heap.size w w1 := ((Below.refl _ w).alloc (Nat.le_refl _) _).trans (hb1.mono (by simp))
 have hen1 := (unhide HN).below hb1 (by simp)
 obtain ⟨c0, c1, c2, c3⟩ := hen1.cells
 have HEN1 := hide hen1
 have HB1 := hide hB1
 clear hb1 hB1 hen1 HC HN
 go_wp2_with fail
 refine (unhide HE _).mono ?_
 rintro e w2 ⟨g, rfl, hbr, hb2⟩
 have hen2 := (unhide HEN1).below hb2 (unhide HEN1).lt
 obtain ⟨d0, d1, d2, d3⟩ := hen2.cells
 have HB2 := hide ((unhide HB1).trans (hb2.mono (unhide HB1).size))
 have HW2 := hide (unhide HW w2 g ((unhide HBS).below (unhide HB2)) hbr)
 clear hb2 hen2 hbr HEN1 HB1 HW HE c0 c1 c2 c3
 go_wp2_with fail
 refine (unhide HP _).mono ?_
 rintro e w3 ⟨rfl, hw3⟩
 subst hw3
 go_wp2_with fail
 refine (unhide HW2).mono ?_
 rintro e w4 ⟨a4, c4, cur4, rfl, hbs4, hb4⟩
 have HB4 := hide ((unhide HB2).trans (hb4.mono (unhide HB2).size))
 have HBS4 := hide hbs4
 have HSZ4 := hide (unhide HB2).size
 clear hbs4 hb4 HB2 HW2 d0 d1 d2 d3
 go_wp2
 go_ret2
 exact ⟨a4, c4, cur4, by rw [unhide HLEN]; rfl, (unhide HBS4).low (unhide HSZ4), unhide HB4⟩
set_option maxRecDepth 100000 in
set_option maxHeartbeats 1000000 in
theorem drop_row (a : Option Addr) (cap : Nat) (l : List Int) (h : Int) (w : World) (hb : Bs w a cap l) (hc : chkE l h = 0) :
  Calls Tryz.prog 86 #[.slice a l.length cap, .int .i64 h] w (EndsR w (dropL l h) .nilIface) := by
 have HC := hide (check_any a cap l h w hb)
 have h3 := hb.2.2.1
 unfold dropL
 obtain ⟨hl0, hh0, ht⟩ := chkE_zero.1 hc
 rw [if_pos hc]
 rw [hc, errV_zero] at HC
 have hl1 := lenB_iff.1 hl0
 have hh1 := hndB_iff.1 hh0
 have hp := plc_le hh1.1 hh1.2
 have hzl := length_zerosB 5
 have hne : zerosB 5 ≠ [] := by intro e; rw [e] at hzl; simp at hzl
 have hd : Below w.heap.size w (mkW w.drew 5) := (show Below w.heap.size w w.drew from ⟨rfl, rfl, rfl, Nat.le_refl _, fun _ _ => rfl⟩).trans (mkW_below w.drew 5)
 have HW : Hid (Calls Tryz.prog 133 #[.slice a l.length cap, .int .i64 (plc h), .slice (some ⟨w.heap.size, 0, none⟩) 5 5] (mkW w.drew 5) fun e w' => ∃ g' c' cur', e = .returned (.slice (some ⟨g', 0, none⟩) l.length c') /\ Row w' w.heap.size g' c' cur' (splice l (plc h) (zerosB 5)) /\ Below w.heap.size w w') := hide (by
  have := with_row a cap l (plc h) (some ⟨w.heap.size, 0, none⟩) (zerosB 5).length (zerosB 5) (mkW w.drew 5) (hb.below hd) ((mkW_blk w.drew 5).bs (byt_zerosB 5) (by decide)) hne (by omega)
  rw [hzl] at this
  exact this.mono fun e w' ⟨a', c', cur', he, hbs, hbel⟩ => ⟨a', c', cur', he, hbs.low hd.size, hd.trans (hbel.mono hd.size)⟩)
 have HE := hide (fun w' => entryAt_any h w' hh1.1 hh1.2)
 have HLEN := hide (length_splice (z := l) (l := zerosB 5) (off := plc h) (by omega))
 have hmk : ∀ w', Sem.run Tryz.prog (Instr.makeSlice 22 (.int .i64 5) (.int .i64 5)) w' = .ok (.slice (some ⟨w'.heap.size, 0, none⟩) 5 5) (mkW w' 5) := fun w' => run_make_u8 w' 5 (by decide)
 clear hc ht hl0 hh0 hb hd
 go_enter Tryz.func86, Tryz.ntmps86
 go_wp2_with fail
 refine (unhide HC).mono ?_
 rintro e w1 ⟨rfl, rfl⟩
 go_wp2_with fail
 go_region_with (first | (go_at_call 134; refine (unhide HE _).mono ?_; rintro e w2 ⟨rfl, rfl⟩) | (go_at_call 133; refine (unhide HW).mono ?_; rintro e w3 ⟨a3, c3, cur3, rfl, hbs3, hb3⟩))
 all_goals
  go_wp2
  go_ret2
  exact ⟨a3, c3, cur3, by rw [unhide HLEN]; rfl, hbs3, hb3⟩
def foot (p g : Nat) (k : Nat) : Prop := k = p \/ k = g
structure Hp (w : World) (B p g c : Nat) (L : List Int) : Prop where
 bp : B <= p
 ne : g ≠ p
 blk : w.heap[p]? = some (.cells #[.slice (some ⟨g, 0, none⟩) L.length c] 105 (0, 0))
 row : ∃ cur, Row w B g c cur L
 byt : Byt L
 fine : Fine L
section
variable {w w' : World} {B p g c : Nat} {L : List Int}
theorem Hp.plt (h : Hp w B p g c L) : p < w.heap.size := (Array.getElem?_eq_some_iff.1 h.blk).1
theorem Hp.glt (h : Hp w B p g c L) : g < w.heap.size := by obtain ⟨cur, hr⟩ := h.row; exact hr.lt
theorem Hp.bg (h : Hp w B p g c L) : B <= g := by obtain ⟨cur, hr⟩ := h.row; exact hr.1
theorem Hp.cell (h : Hp w B p g c L) : w.cell? ⟨p, 0, none⟩ = some (.slice (some ⟨g, 0, none⟩) L.length c) := by rw [cell_of_row _ _ _ _ _ _ h.blk]; rfl
theorem Hp.fr (h : Hp w B p g c L) : w.frozen? ⟨p, 0, none⟩ = false := frozen_of_row w p 0 _ _ h.blk
theorem Hp.len (h : Hp w B p g c L) : 288 <= L.length /\ L.length <= 6400 /\ L.length <= c := by
 obtain ⟨cur, hr⟩ := h.row
 exact ⟨h.fine.len.1, h.fine.len.2, hr.2.2.1⟩
theorem Hp.bs (h : Hp w B p g c L) : Bs w (some ⟨g, 0, none⟩) c L := by
 obtain ⟨cur, hr⟩ := h.row
 exact hr.bs h.byt (by have := h.fine.len; omega)
theorem Hp.below (h : Hp w B p g c L) (hb : Below w.heap.size w w') : Hp w' B p g c L := by
 obtain ⟨cur, hr⟩ := h.row
 exact ⟨h.bp, h.ne, (hb.block p h.plt).trans h.blk, ⟨cur, hr.below hb⟩, h.byt, h.fine⟩
theorem Hp.foot_ge (h : Hp w B p g c L) (k : Nat) (hk : foot p g k) : B <= k := by
 rcases hk with rfl | rfl
 ·exact h.bp
 ·exact h.bg
theorem Hp.set (h : Hp w B p g c L) (hb : Below w.heap.size w w') {g' c' : Nat} {cur' : Array Value} {L' : List Int} (hr : Row w' w.heap.size g' c' cur' L') (hby : Byt L') (hf : Fine L') (hB : B <= w.heap.size) :
  Hp (w'.setCell ⟨p, 0, none⟩ (.slice (some ⟨g', 0, none⟩) L'.length c')) B p g' c' L' /\ Turn (foot p g) (foot p g') w (w'.setCell ⟨p, 0, none⟩ (.slice (some ⟨g', 0, none⟩) L'.length c')) := by
 have hp := h.plt
 have hg := hr.1
 have hne : g' ≠ p := by omega
 refine ⟨⟨h.bp, hne, ?_, ⟨cur', ⟨Nat.le_trans hB hg, (heap_setCell_other _ _ _ _ (by show g' ≠ p; exact hne)).trans hr.2.1, hr.2.2⟩⟩, hby, hf⟩, ⟨hb.os, hb.tape, hb.output, by simpa using hb.size, fun k hk hn => ?_, fun k hk hs => ?_⟩⟩
 ·have := heap_setCell_same w' p 0 _ _ (.slice (some ⟨g', 0, none⟩) L'.length c') ((hb.block p hp).trans h.blk)
  rw [this]
  rfl
 ·exact (heap_setCell_other _ _ _ _ (fun e => hn (.inl e))).trans (hb.block k hk)
 ·rcases hs with rfl | rfl
  ·exact .inl rfl
  ·omega
theorem Hp.lay (h : Hp w B p g c L) {cur : Array Value} (hr : Row w B g c cur L) {off : Nat} {r : List Int} (hfit : off + r.length <= L.length) (hbr : Byt r) (hf : Fine (splice L off r)) :
  Hp (laidW w g cur off r) B p g c (splice L off r) /\ Turn (foot p g) (foot p g) w (laidW w g cur off r) := by
 have hl := length_splice hfit
 refine ⟨⟨h.bp, h.ne, ?_, ⟨_, laidW_row hr hfit⟩, byt_splice h.byt hbr, hf⟩, ⟨rfl, rfl, rfl, by simp [laidW], fun k hk hn => setRow_other w g k _ (fun e => hn (.inr e)), fun k _ hs => hs⟩⟩
 rw [hl]
 exact (setRow_other w g p _ (fun e => h.ne e.symm)).trans h.blk
end
def BsO (w : World) (S : Nat -> Prop) (a : Option Addr) (cap : Nat) (l : List Int) : Prop := Bs w a cap l /\ (l ≠ [] -> ∀ x, a = some x -> ¬ S x.block)
theorem BsO.turn {w w' : World} {S S' : Nat -> Prop} {a : Option Addr} {cap : Nat} {l : List Int} (h : BsO w S a cap l) (ht : Turn S S' w w') : BsO w' S' a cap l := by
 obtain ⟨hb, hn⟩ := h
 by_cases h0 : l = []
 ·obtain ⟨h1, h2, h3, h4, h5⟩ := hb
  exact ⟨⟨h1, h2, h3, h4, fun h => absurd h0 h⟩, fun h => absurd h0 h⟩
 ·refine ⟨hb.turn ht (hn h0), fun _ x hx hs => ?_⟩
  obtain ⟨b, off, rfl, hc⟩ := hb.2.2.2.2 h0
  obtain rfl := Option.some.inj hx
  have hlt := block_lt_of_cell (hc 0 (List.length_pos_iff.2 h0))
  exact hn h0 _ rfl (ht.foot _ hlt hs)
theorem BsO.below {w w' : World} {S : Nat -> Prop} {a : Option Addr} {cap : Nat} {l : List Int} (h : BsO w S a cap l) (hb : Below w.heap.size w w') : BsO w' S a cap l := h.turn (Turn.of_below hb)
theorem OwnV.lower {w : World} {B B' : Nat} {v : Value} {L : List Int} (h : OwnV w B' v L) (hB : B <= B') : OwnV w B v L := by
 refine ⟨h.1, ?_⟩
 rcases h.2 with h0 | ⟨g, cap, cur, hv, hb, h3⟩
 ·exact .inl h0
 ·exact .inr ⟨g, cap, cur, hv, Nat.le_trans hB hb, h3⟩
theorem OwnV.bsO {w : World} {B : Nat} {S : Nat -> Prop} {v : Value} {l : List Int} (h : OwnV w B v l) (hb : Byt l) (hl : l.length <= 140737488351232) (hS : ∀ k, S k -> k < B) : ∃ a c, v = .slice a l.length c /\ BsO w S a c l := by
 obtain ⟨a, c, rfl, hbs⟩ := h.bs hb hl
 refine ⟨a, c, rfl, hbs, fun _ x hx hs => ?_⟩
 subst hx
 have h1 := h.block x.block
 rcases h.2 with ⟨e, _⟩ | ⟨g, cap, cur, e, hB, _⟩
 ·simp at e
 ·simp only [Value.slice.injEq, Option.some.injEq] at e
  obtain ⟨rfl, _⟩ := e
  have := hS _ hs
  dsimp only at this
  omega
theorem OwnV.shape {w : World} {B : Nat} {v : Value} {L : List Int} (h : OwnV w B v L) : ∃ a c, v = .slice a L.length c := by
 rcases h.2 with ⟨rfl, h0⟩ | ⟨g, cap, cur, rfl, _⟩
 ·exact ⟨none, 0, by rw [h0]⟩
 ·exact ⟨_, _, rfl⟩
set_option maxHeartbeats 1000000 in
theorem bclone_any (a : Option Addr) (cap : Nat) (l : List Int) (w : World) (hb : Bs w a cap l) :
  Calls Tryz.prog 49 #[.slice a l.length cap] w fun e w' => ∃ a' c', e = .returned (.slice a' l.length c') /\ OwnV w' w.heap.size (.slice a' l.length c') l /\ Below w.heap.size w w' := by
 obtain ⟨i0, hi, hz0, hz1, hz2⟩ := info_parts info_u8
 have hl := hb.2.2.1
 have q22 : ∀ (w : World) (a : Option Addr) (n c n' c' : Nat), (binOp .eql 22 (.slice a n c) (.slice none n' c')).run Tryz.prog w = .ok (.bool a.isNone) w := fun w a n c n' c' => Lib.run_eql_slice_nil w _ _ a n c n' c' Tryz.underlying22
 cases a with
 | none =>
  have h0 : l = [] := by
   have h1 := hb.2.2.2.1 rfl
   have h2 := hb.2.1
   exact List.eq_nil_of_length_eq_zero (by omega)
  subst h0
  clear hb
  go_enter Tryz.func49, Tryz.ntmps49
  go_wp2
  go_ret
  exact ⟨none, 0, rfl, OwnV.nil _ _, Below.refl _ _⟩
 | some ad =>
  have HN := hide (news_bs (hb.below ((Below.refl _ w).alloc (Nat.le_refl _) (.cells #[] 5))))
  clear hb
  go_enter Tryz.func49, Tryz.ntmps49
  go_wp2_with (at_builtin; refine wpList_append_own _ rfl _ _ 22 rfl w.heap.size 5 i0 (.int .u8 0) 1 1 Tryz.underlying22 hi hz0 hz1 hz2 rfl (by decide) _ _ _ rfl (World.ownsRow_made w #[] 0 (Nat.le_refl _) (Nat.zero_le _) (by simp)) ad l.length cap (l.map (Value.int .u8)) rfl (by simp) (unhide HN) (oneCell_u8 l) (by unfold maxLen; omega) (by omega) (by simp) ?_)
  intro v' w1 hown hgrow hnil
  have hv : OwnV w1 w.heap.size v' l := hown
  obtain ⟨a', c', rfl⟩ := hv.shape
  have HO := hide hv
  have HG := hide hgrow
  clear hown HN hv hgrow hnil
  go_wp2
  go_ret
  exact ⟨a', c', rfl, unhide HO, ((Below.refl _ w).alloc (Nat.le_refl _) _).grown (unhide HG) (by simp) (by intro k hk; simp [Value.ownBlock] at hk; omega)⟩
theorem Blk.row {w : World} {B g : Nat} {l : List Int} (h : Blk w g l) (hB : B <= g) : Row w B g l.length (l.map (Value.int .u8)).toArray l := ⟨hB, h, Nat.le_refl _, by simp, by rw [List.take_of_length_le (by simp)]⟩
theorem iNew_row (N : Nat) (w : World) (hq : lenB N = true) : Calls Tryz.prog 79 #[.int .i64 N] w (EndsR w (zerosB N) .nilIface) := by
 have HL := hide (isLength_any N w)
 obtain ⟨i0, hi, hz0, hz1, hz2⟩ := info_parts info_u8
 rw [hq] at HL
 have hn := lenB_iff.1 hq
 clear hq
 go_enter Tryz.func79, Tryz.ntmps79
 go_wp2_with fail
 refine (unhide HL).mono ?_
 rintro e w1 ⟨rfl, rfl⟩
 go_wp2_with (at_make; refine wpList_make_u8 rfl _ _ 22 rfl i0 Tryz.underlying22 hi hz0 hz1 hz2 _ _ _ _ N rfl rfl rfl rfl (by omega) ?_; intro w2 hk2 hs2 hb2)
 go_ret2
 have hlen := length_zerosB N
 have hr := hk2.row (Nat.le_refl _)
 rw [hlen] at hr
 exact ⟨_, N, _, by rw [hlen]; rfl, hr, hb2⟩
theorem Hp.made {w w1 : World} {B g c : Nat} {cur : Array Value} {L : List Int} (hr : Row w1 B g c cur L) (hb : B <= w1.heap.size) (hby : Byt L) (hf : Fine L) :
  Hp (w1.alloc (.cells #[.slice (some ⟨g, 0, none⟩) L.length c] 105)) B w1.heap.size g c L :=
 ⟨hb, Nat.ne_of_lt hr.lt, heap_alloc_new w1 _, ⟨cur, hr.below ((Below.refl _ _).alloc (Nat.le_refl _) _)⟩, hby, hf⟩
theorem hBytes_any (p g c B : Nat) (L : List Int) (w : World) (h : Hp w B p g c L) :
  Calls Tryz.prog 15 #[.pointer (some ⟨p, 0, none⟩)] w fun e w' => ∃ a' c', e = .returned (.slice a' L.length c') /\ OwnV w' w.heap.size (.slice a' L.length c') L /\ Below w.heap.size w w' := by
 have HC := hide (bclone_any (some ⟨g, 0, none⟩) c L w h.bs)
 have hc := h.cell
 have hl := h.len
 clear h
 generalize L.length = N at *
 go_enter Tryz.func15, Tryz.ntmps15
 go_wp2_with fail
 refine (unhide HC).mono ?_
 rintro e w1 ⟨a', c', rfl, hown, hb1⟩
 have HO := hide hown
 have HB := hide hb1
 clear hown hb1 HC hc
 go_wp2
 go_ret
 exact ⟨a', c', rfl, unhide HO, unhide HB⟩
theorem hTag_any (p g c B : Nat) (L : List Int) (h : Int) (w : World) (hh : Hp w B p g c L) :
  Calls Tryz.prog 91 #[.pointer (some ⟨p, 0, none⟩), .int .i64 h] w fun e w' => e = .returned (.tuple #[.int .i64 (getE L h).2.2.2, errV (chkE L h)]) /\ Below w.heap.size w w' := by
 have HG := hide (fun W (hW : Below w.heap.size w W) => iGet_any (some ⟨g, 0, none⟩) c L h W (hh.bs.below hW))
 have hc := hh.cell
 have hl := hh.len
 clear hh
 generalize getE L h = E at *
 generalize chkE L h = X at *
 generalize L.length = N at *
 obtain ⟨e1, e2, e3, e4⟩ := E
 unfold entV at HG
 dsimp only at HG ⊢
 go_enter Tryz.func91, Tryz.ntmps91
 go_wp2_with fail
 refine (unhide HG w (Below.refl _ _)).mono ?_
 rintro e w1 ⟨rfl, hb1⟩
 have HB := hide hb1
 clear hb1 HG hc
 go_wp2
 go_ret2
 exact ⟨rfl, (unhide HB).alloc (unhide HB).size _⟩
end Go.Proofs.YtfbloliakmehbaaGreatDoor
