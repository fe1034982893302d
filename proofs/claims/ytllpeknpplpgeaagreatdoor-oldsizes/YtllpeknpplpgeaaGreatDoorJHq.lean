/-
  Joined by program: HpRow; Turn; HpA; BytesClone; HpB; HpLd; HpRp; HasPre; RtA; RtC. (Parts of the proofs over the packages of the program.)
-/
import Derived.Test.YtllpeknpplpgeaaGreatDoorImE
import Derived.Test.YtllpeknpplpgeaaGreatDoorLaws
import Derived.Test.YtllpeknpplpgeaaGreatDoorJHp
import Derived.Test.YtllpeknpplpgeaaGreatDoorOwnV
import Derived.Test.YtllpeknpplpgeaaGreatDoorNumPut
import Derived.Test.YtllpeknpplpgeaaGreatDoorProg
import Derived.Test.YtllpeknpplpgeaaGreatDoorJCh
import Derived.Test.YtllpeknpplpgeaaGreatDoorImH
import Derived.Deep.RegionHeld3
/-! Contracts of package image once more: what Put and Drop give is a row of its own, that may be written. (Part of the proofs over package heap.) -/
namespace Go.Proofs.YtllpeknpplpgeaaGreatDoor
open Go.RowKit
set_option linter.unusedVariables false

section
variable {w w' : World} {B B' g c : Nat} {cur : Array Value} {l : List Int}
theorem Row.lt (h : Row w B g c cur l) : g < w.heap.size := (Array.getElem?_eq_some_iff.1 h.2.1).1
theorem Row.below (h : Row w B g c cur l) (hb : Below w.heap.size w w') : Row w' B g c cur l := ⟨h.1, (hb.block g h.lt).trans h.2.1, h.2.2⟩
theorem Row.low (h : Row w B' g c cur l) (hB : B ≤ B') : Row w B g c cur l := ⟨Nat.le_trans hB h.1, h.2⟩
end
/-- How a call that answers bytes of its own and something ends. -/
def EndsR (w : World) (L : List Int) (x : Value) (e : Ending) (w' : World) : Prop :=
  ∃ g c cur, e = .returned (.tuple #[.slice (some ⟨g, 0, none⟩) L.length c, x]) ∧ Row w' w.heap.size g c cur L ∧ Below w.heap.size w w'
/-- A copy in which bytes are laid. -/
theorem with_row (a : Option Addr) (cap : Nat) (l : List Int) (p : Nat) (ra : Option Addr) (rc : Nat) (r : List Int) (w : World) (hb : Bs w a cap l) (hr : Bs w ra rc r) (h0 : r ≠ []) (hfit : p + r.length ≤ l.length) :
    Calls Tryz.prog 75 #[.slice a l.length cap, .int .i64 p, .slice ra r.length rc] w fun e w' => ∃ g' c' cur', e = .returned (.slice (some ⟨g', 0, none⟩) l.length c') ∧ Row w' w.heap.size g' c' cur' (splice l p r) ∧ Below w.heap.size w w' := by
  have hrl : 0 < r.length := by
    cases r with
    | nil => exact absurd rfl h0
    | cons _ _ => simp
  have HC := hide (clone_u8 a cap l w hb (by intro e; rw [e] at hfit; simp only [List.length_nil] at hfit; omega))
  have HR := hide hr
  have hbl := hb.2.2.1
  clear hb hr
  go_enter Tryz.func75, Tryz.ntmps75
  go_wp2_with fail
  refine (unhide HC).mono ?_
  rintro e w1 ⟨g, c, rfl, hown, hb1⟩
  obtain ⟨cur, hrow⟩ := Row.of_own hown
  have hcut := cut_row (P := Tryz.prog) Tryz.underlying22 size_u8 g c l.length p (by omega) hrow.2.2.1 (by have := hrow.2.2.1; omega)
  have hcopy : Sem.run Tryz.prog (Builtin.copy_ #[22, 22] 3 #[.slice (some ⟨g, p, none⟩) (l.length - p) (c - p), .slice ra r.length rc]) w1 = .ok (.int .i64 r.length) (laidW w1 g cur p r) :=
    run_copy_laid w1 _ _ _ Tryz.underlying22 size_u8 _ g p _ _ c cur ra rc l r (by omega) h0 hfit hrow ((unhide HR).below hb1)
  have HW := hide (laidW_row hrow hfit)
  have HB := hide (laidW_below (cur := cur) (l := r) (off := p) hb1 hrow.1)
  clear hown hrow hb1 HC HR
  go_wp2
  go_ret
  exact ⟨g, c, _, rfl, unhide HW, unhide HB⟩
set_option maxHeartbeats 1000000 in
theorem iPut_row (b : Option Addr) (cap : Nat) (L : List Int) (x a l t : Int) (w : World) (hbs : Bs w b cap L) (h0 : putE L (x, a, l, t) = 0) :
    Calls Tryz.prog 42 #[.slice b L.length cap, .agg #[.int .i64 x, .int .i64 a, .int .i64 l, .int .i64 t]] w (EndsR w (splice L (plc x) (rowE (x, a, l, t))) .nilIface) := by
  obtain ⟨q1, q2, q3⟩ := putE_zero.1 h0
  dsimp only at q2 q3
  have hlen := lenB_iff.1 q1
  have hx := hndB_iff.1 q2
  have hp := plc_le hx.1 hx.2
  have HC := hide (ckEnt_any L (x, a, l, t) (w.alloc (.cells #[.int .i64 x, .int .i64 a, .int .i64 l, .int .i64 t] 47)) hbs.2.2.1 (by dsimp only; omega))
  rw [h0, errV_zero] at HC
  unfold entV at HC
  dsimp only at HC
  have HE := hide (fun W => entryRow_any x a l t W ⟨q3.1, q3.2.1⟩ (by omega) (by omega))
  have HP := hide (fun W => entryAt_any x W hx.1 hx.2)
  have hrl : (rowE (x, a, l, t)).length = 5 := rfl
  have HW := hide (fun (W : World) (g : Nat) (h5 : Bs W b cap L) (h6 : Bs W (some ⟨g, 0, none⟩) 5 (rowE (x, a, l, t))) => with_row b cap L (plc x) (some ⟨g, 0, none⟩) 5 (rowE (x, a, l, t)) W h5 h6 (by intro e; cases e) (by omega))
  rw [hrl] at HW
  have HN := hide (EnB.new w (x, a, l, t))
  have HLEN := hide (length_splice (z := L) (l := rowE (x, a, l, t)) (off := plc x) (by omega))
  have HBS := hide hbs
  have hb3 := hbs.2.2.1
  clear h0 q1 q2 q3 hbs hrl
  generalize rowE (x, a, l, t) = R at *
  go_enter Tryz.func42, Tryz.ntmps42
  go_wp2_with fail
  refine (unhide HC).mono ?_
  rintro e w1 ⟨rfl, hb1⟩
  have hB1 : Below w.heap.size w w1 := ((Below.refl _ w).alloc (Nat.le_refl _) _).trans (hb1.mono (by simp))
  have hen1 := (unhide HN).below hb1 (by simp)
  obtain ⟨c0, c1, c2, c3⟩ := hen1.cells
  have HEN1 := hide hen1
  have HB1 := hide hB1
  clear hb1 hB1 hen1 HC HN
  go_wp2_with fail
  refine (unhide HE _).mono ?_
  rintro e w2 ⟨g, rfl, hbr, hb2⟩
  have hen2 := (unhide HEN1).below hb2 (unhide HEN1).lt
  obtain ⟨d0, d1, d2, d3⟩ := hen2.cells
  have HB2 := hide ((unhide HB1).trans (hb2.mono (unhide HB1).size))
  have HW2 := hide (unhide HW w2 g ((unhide HBS).below (unhide HB2)) hbr)
  clear hb2 hen2 hbr HEN1 HB1 HW HE c0 c1 c2 c3
  go_wp2_with fail
  refine (unhide HP _).mono ?_
  rintro e w3 ⟨rfl, hw3⟩
  subst hw3
  go_wp2_with fail
  refine (unhide HW2).mono ?_
  rintro e w4 ⟨a4, c4, cur4, rfl, hbs4, hb4⟩
  have HB4 := hide ((unhide HB2).trans (hb4.mono (unhide HB2).size))
  have HBS4 := hide hbs4
  have HSZ4 := hide (unhide HB2).size
  clear hbs4 hb4 HB2 HW2 d0 d1 d2 d3
  go_wp2
  go_ret2
  exact ⟨a4, c4, cur4, by rw [unhide HLEN]; rfl, (unhide HBS4).low (unhide HSZ4), unhide HB4⟩

end Go.Proofs.YtllpeknpplpgeaaGreatDoor
/-! What a call leaves alone: of the old blocks only those in a set have turned. (Part of the proofs over packages device and heap.) -/
namespace Go.Proofs.YtllpeknpplpgeaaGreatDoor
open Go.RowKit
set_option linter.unusedVariables false

/-- Of w only the blocks in S have turned; of S' what is old is in S. -/
structure Turn (S S' : Nat → Prop) (w w' : World) : Prop where
  os : w'.os = w.os
  tape : w'.tape = w.tape
  output : w'.output = w.output
  size : w.heap.size ≤ w'.heap.size
  block : ∀ k, k < w.heap.size → ¬ S k → w'.heap[k]? = w.heap[k]?
  foot : ∀ k, k < w.heap.size → S' k → S k

theorem Turn.refl (S : Nat → Prop) (w : World) : Turn S S w w := ⟨rfl, rfl, rfl, Nat.le_refl _, fun _ _ _ => rfl, fun _ _ h => h⟩
theorem Turn.trans {S S' S'' : Nat → Prop} {a b c : World} (h : Turn S S' a b) (k : Turn S' S'' b c) : Turn S S'' a c :=
  ⟨k.os.trans h.os, k.tape.trans h.tape, k.output.trans h.output, Nat.le_trans h.size k.size,
    fun i hi hn => (k.block i (Nat.lt_of_lt_of_le hi h.size) (fun hs => hn (h.foot i hi hs))).trans (h.block i hi hn),
    fun i hi hs => h.foot i hi (k.foot i (Nat.lt_of_lt_of_le hi h.size) hs)⟩
theorem Turn.below {S S' : Nat → Prop} {w w' : World} {B : Nat} (h : Turn S S' w w') (hS : ∀ k, S k → B ≤ k) (hB : B ≤ w.heap.size) : Below B w w' :=
  ⟨h.os, h.tape, h.output, h.size, fun k hk => h.block k (Nat.lt_of_lt_of_le hk hB) (fun hs => by have := hS k hs; omega)⟩
theorem Turn.of_below {S : Nat → Prop} {w w' : World} (h : Below w.heap.size w w') : Turn S S w w' :=
  ⟨h.os, h.tape, h.output, h.size, fun k hk _ => h.block k hk, fun _ _ hs => hs⟩
theorem Turn.setCell {S : Nat → Prop} (w : World) {a : Addr} (v : Value) (h : S a.block) : Turn S S w (w.setCell a v) :=
  ⟨rfl, rfl, rfl, by simp, fun k _ hn => heap_setCell_other w a k v (fun e => hn (e ▸ h)), fun _ _ hs => hs⟩
theorem Turn.row {S : Nat → Prop} (w : World) {g : Nat} (l : List Int) (h : S g) : Turn S S w (rowW w g l) :=
  ⟨rfl, rfl, rfl, by simp [rowW], fun k _ hn => setRow_other w g k _ (fun e => hn (e ▸ h)), fun _ _ hs => hs⟩
theorem Turn.drew (S : Nat → Prop) (w : World) : Turn S S w w.drew := ⟨rfl, rfl, rfl, Nat.le_refl _, fun _ _ _ => rfl, fun _ _ h => h⟩
theorem Turn.alloc (S : Nat → Prop) (w : World) (o : Obj) : Turn S S w (w.alloc o) := Turn.of_below ((Below.refl _ _).alloc (Nat.le_refl _) o)
theorem Turn.grown {S : Nat → Prop} {w w' : World} {row : Option Nat} (g : w.grownBy w' row) (h : ∀ k, row = some k → S k) : Turn S S w w' :=
  ⟨g.os, g.tape, g.output, g.size, fun k hk hn => g.block k hk (fun e => hn (h k e.symm)), fun _ _ hs => hs⟩
theorem Turn.keep {S S' S2 : Nat → Prop} {w w' : World} (h : Turn S S' w w') (k : Nat) (hk : k < w.heap.size) (hn : ¬ S k) : w'.heap[k]? = w.heap[k]? := h.block k hk hn

theorem below_drew {B : Nat} {w W : World} (h : Below B w W) : Below B w W.drew := ⟨h.os, h.tape, h.output, h.size, h.block⟩
/-- What a slice reads as while other blocks turn. -/
theorem Bs.turn {w w' : World} {S S' : Nat → Prop} {a : Option Addr} {cap : Nat} {l : List Int} (h : Bs w a cap l) (ht : Turn S S' w w') (hn : ∀ x, a = some x → ¬ S x.block) : Bs w' a cap l := by
  obtain ⟨h1, h2, h3, h4, h5⟩ := h
  refine ⟨h1, h2, h3, h4, fun hne => ?_⟩
  obtain ⟨b, off, rfl, hc⟩ := h5 hne
  refine ⟨b, off, rfl, fun i hi => ?_⟩
  have h6 := hc i hi
  have hlt := block_lt_of_cell h6
  rw [← h6]
  exact World.cell?_of_block (a := ⟨b, off + i, none⟩) (ht.block b hlt (hn _ rfl))
end Go.Proofs.YtllpeknpplpgeaaGreatDoor
/-! How a heap stands in memory, and which blocks are its own. (Part of the proofs over package heap.) -/
namespace Go.Proofs.YtllpeknpplpgeaaGreatDoor
open Go.RowKit
set_option linter.unusedVariables false

/-- The blocks of a heap: its own, and its image's. -/
def foot (p g : Nat) (k : Nat) : Prop := k = p ∨ k = g
/-- At p is a heap whose image L stands in row g. -/
structure Hp (w : World) (B p g c : Nat) (L : List Int) : Prop where
  bp : B ≤ p
  ne : g ≠ p
  blk : w.heap[p]? = some (.cells #[.slice (some ⟨g, 0, none⟩) L.length c] 81 (0, 0))
  row : ∃ cur, Row w B g c cur L
  byt : Byt L
  fine : Fine L
section
variable {w w' : World} {B p g c : Nat} {L : List Int}
theorem Hp.plt (h : Hp w B p g c L) : p < w.heap.size := (Array.getElem?_eq_some_iff.1 h.blk).1
theorem Hp.glt (h : Hp w B p g c L) : g < w.heap.size := by obtain ⟨cur, hr⟩ := h.row; exact hr.lt
theorem Hp.bg (h : Hp w B p g c L) : B ≤ g := by obtain ⟨cur, hr⟩ := h.row; exact hr.1
theorem Hp.cell (h : Hp w B p g c L) : w.cell? ⟨p, 0, none⟩ = some (.slice (some ⟨g, 0, none⟩) L.length c) := by rw [cell_of_row _ _ _ _ _ _ h.blk]; rfl
theorem Hp.fr (h : Hp w B p g c L) : w.frozen? ⟨p, 0, none⟩ = false := frozen_of_row w p 0 _ _ h.blk
theorem Hp.len (h : Hp w B p g c L) : 288 ≤ L.length ∧ L.length ≤ 6400 ∧ L.length ≤ c := by
  obtain ⟨cur, hr⟩ := h.row
  exact ⟨h.fine.len.1, h.fine.len.2, hr.2.2.1⟩
theorem Hp.bs (h : Hp w B p g c L) : Bs w (some ⟨g, 0, none⟩) c L := by
  obtain ⟨cur, hr⟩ := h.row
  exact hr.bs h.byt (by have := h.fine.len; omega)
theorem Hp.below (h : Hp w B p g c L) (hb : Below w.heap.size w w') : Hp w' B p g c L := by
  obtain ⟨cur, hr⟩ := h.row
  exact ⟨h.bp, h.ne, (hb.block p h.plt).trans h.blk, ⟨cur, hr.below hb⟩, h.byt, h.fine⟩
theorem Hp.foot_ge (h : Hp w B p g c L) (k : Nat) (hk : foot p g k) : B ≤ k := by
  rcases hk with rfl | rfl
  · exact h.bp
  · exact h.bg
/-- The image is another one. -/
theorem Hp.set (h : Hp w B p g c L) (hb : Below w.heap.size w w') {g' c' : Nat} {cur' : Array Value} {L' : List Int} (hr : Row w' w.heap.size g' c' cur' L') (hby : Byt L') (hf : Fine L') (hB : B ≤ w.heap.size) :
    Hp (w'.setCell ⟨p, 0, none⟩ (.slice (some ⟨g', 0, none⟩) L'.length c')) B p g' c' L' ∧ Turn (foot p g) (foot p g') w (w'.setCell ⟨p, 0, none⟩ (.slice (some ⟨g', 0, none⟩) L'.length c')) := by
  have hp := h.plt
  have hg := hr.1
  have hne : g' ≠ p := by omega
  refine ⟨⟨h.bp, hne, ?_, ⟨cur', ⟨Nat.le_trans hB hg, (heap_setCell_other _ _ _ _ (by show g' ≠ p; exact hne)).trans hr.2.1, hr.2.2⟩⟩, hby, hf⟩, ⟨hb.os, hb.tape, hb.output, by simpa using hb.size, fun k hk hn => ?_, fun k hk hs => ?_⟩⟩
  · have := heap_setCell_same w' p 0 _ _ (.slice (some ⟨g', 0, none⟩) L'.length c') ((hb.block p hp).trans h.blk)
    rw [this]
    rfl
  · exact (heap_setCell_other _ _ _ _ (fun e => hn (.inl e))).trans (hb.block k hk)
  · rcases hs with rfl | rfl
    · exact .inl rfl
    · omega
/-- Bytes are laid over the image. -/
theorem Hp.lay (h : Hp w B p g c L) {cur : Array Value} (hr : Row w B g c cur L) {off : Nat} {r : List Int} (hfit : off + r.length ≤ L.length) (hbr : Byt r) (hf : Fine (splice L off r)) :
    Hp (laidW w g cur off r) B p g c (splice L off r) ∧ Turn (foot p g) (foot p g) w (laidW w g cur off r) := by
  have hl := length_splice hfit
  refine ⟨⟨h.bp, h.ne, ?_, ⟨_, laidW_row hr hfit⟩, byt_splice h.byt hbr, hf⟩, ⟨rfl, rfl, rfl, by simp [laidW], fun k hk hn => setRow_other w g k _ (fun e => hn (.inr e)), fun k _ hs => hs⟩⟩
  rw [hl]
  exact (setRow_other w g p _ (fun e => h.ne e.symm)).trans h.blk
end
/-- A slice of which no block is among S. -/
def BsO (w : World) (S : Nat → Prop) (a : Option Addr) (cap : Nat) (l : List Int) : Prop := Bs w a cap l ∧ (l ≠ [] → ∀ x, a = some x → ¬ S x.block)
theorem BsO.turn {w w' : World} {S S' : Nat → Prop} {a : Option Addr} {cap : Nat} {l : List Int} (h : BsO w S a cap l) (ht : Turn S S' w w') : BsO w' S' a cap l := by
  obtain ⟨hb, hn⟩ := h
  by_cases h0 : l = []
  · obtain ⟨h1, h2, h3, h4, h5⟩ := hb
    exact ⟨⟨h1, h2, h3, h4, fun h => absurd h0 h⟩, fun h => absurd h0 h⟩
  · refine ⟨hb.turn ht (hn h0), fun _ x hx hs => ?_⟩
    obtain ⟨b, off, rfl, hc⟩ := hb.2.2.2.2 h0
    obtain rfl := Option.some.inj hx
    have hlt := block_lt_of_cell (hc 0 (List.length_pos_iff.2 h0))
    exact hn h0 _ rfl (ht.foot _ hlt hs)
theorem BsO.below {w w' : World} {S : Nat → Prop} {a : Option Addr} {cap : Nat} {l : List Int} (h : BsO w S a cap l) (hb : Below w.heap.size w w') : BsO w' S a cap l := h.turn (Turn.of_below hb)
theorem OwnV.lower {w : World} {B B' : Nat} {v : Value} {L : List Int} (h : OwnV w B' v L) (hB : B ≤ B') : OwnV w B v L := by
  refine ⟨h.1, ?_⟩
  rcases h.2 with h0 | ⟨g, cap, cur, hv, hb, h3⟩
  · exact .inl h0
  · exact .inr ⟨g, cap, cur, hv, Nat.le_trans hB hb, h3⟩
/-- What a call made is apart from what was there. -/
theorem OwnV.bsO {w : World} {B : Nat} {S : Nat → Prop} {v : Value} {l : List Int} (h : OwnV w B v l) (hb : Byt l) (hl : l.length ≤ 140737488351232) (hS : ∀ k, S k → k < B) : ∃ a c, v = .slice a l.length c ∧ BsO w S a c l := by
  obtain ⟨a, c, rfl, hbs⟩ := h.bs hb hl
  refine ⟨a, c, rfl, hbs, fun _ x hx hs => ?_⟩
  subst hx
  have h1 := h.block x.block
  rcases h.2 with ⟨e, _⟩ | ⟨g, cap, cur, e, hB, _⟩
  · simp at e
  · simp only [Value.slice.injEq, Option.some.injEq] at e
    obtain ⟨rfl, _⟩ := e
    have := hS _ hs
    dsimp only at this
    omega
end Go.Proofs.YtllpeknpplpgeaaGreatDoor
/-! The library's bytes.Clone: a copy of bytes. (Part of the proofs over packages diff and heap.) -/
namespace Go.Proofs.YtllpeknpplpgeaaGreatDoor
open Go.RowKit
set_option linter.unusedVariables false

theorem OwnV.shape {w : World} {B : Nat} {v : Value} {L : List Int} (h : OwnV w B v L) : ∃ a c, v = .slice a L.length c := by
  rcases h.2 with ⟨rfl, h0⟩ | ⟨g, cap, cur, rfl, _⟩
  · exact ⟨none, 0, by rw [h0]⟩
  · exact ⟨_, _, rfl⟩
set_option maxHeartbeats 1000000 in
theorem bclone_any (a : Option Addr) (cap : Nat) (l : List Int) (w : World) (hb : Bs w a cap l) :
    Calls Tryz.prog 49 #[.slice a l.length cap] w fun e w' => ∃ a' c', e = .returned (.slice a' l.length c') ∧ OwnV w' w.heap.size (.slice a' l.length c') l ∧ Below w.heap.size w w' := by
  obtain ⟨i0, hi, hz0, hz1, hz2⟩ := info_parts info_u8
  have hl := hb.2.2.1
  have q22 : ∀ (w : World) (a : Option Addr) (n c n' c' : Nat), (binOp .eql 22 (.slice a n c) (.slice none n' c')).run Tryz.prog w = .ok (.bool a.isNone) w := fun w a n c n' c' => Lib.run_eql_slice_nil w _ _ a n c n' c' Tryz.underlying22
  cases a with
  | none =>
    have h0 : l = [] := by
      have h1 := hb.2.2.2.1 rfl
      have h2 := hb.2.1
      exact List.eq_nil_of_length_eq_zero (by omega)
    subst h0
    clear hb
    go_enter Tryz.func49, Tryz.ntmps49
    go_wp2
    go_ret
    exact ⟨none, 0, rfl, OwnV.nil _ _, Below.refl _ _⟩
  | some ad =>
    have HN := hide (news_bs (hb.below ((Below.refl _ w).alloc (Nat.le_refl _) (.cells #[] 5))))
    clear hb
    go_enter Tryz.func49, Tryz.ntmps49
    go_wp2_with (at_builtin; refine wpList_append_own _ rfl _ _ 22 rfl w.heap.size 5 i0 (.int .u8 0) 1 1 Tryz.underlying22 hi hz0 hz1 hz2 rfl (by decide) _ _ _ rfl (World.ownsRow_made w #[] 0 (Nat.le_refl _) (Nat.zero_le _) (by simp)) ad l.length cap (l.map (Value.int .u8)) rfl (by simp) (unhide HN) (oneCell_u8 l) (by unfold maxLen; omega) (by omega) (by simp) ?_)
    intro v' w1 hown hgrow hnil
    have hv : OwnV w1 w.heap.size v' l := hown
    obtain ⟨a', c', rfl⟩ := hv.shape
    have HO := hide hv
    have HG := hide hgrow
    clear hown HN hv hgrow hnil
    go_wp2
    go_ret
    exact ⟨a', c', rfl, unhide HO, ((Below.refl _ w).alloc (Nat.le_refl _) _).grown (unhide HG) (by simp) (by intro k hk; simp [Value.ownBlock] at hk; omega)⟩
end Go.Proofs.YtllpeknpplpgeaaGreatDoor
/-! Contracts of package heap: New, Bytes, Tag. (Part of the proofs over package heap.) -/
namespace Go.Proofs.YtllpeknpplpgeaaGreatDoor
open Go.RowKit
set_option linter.unusedVariables false

theorem Blk.row {w : World} {B g : Nat} {l : List Int} (h : Blk w g l) (hB : B ≤ g) : Row w B g l.length (l.map (Value.int .u8)).toArray l := ⟨hB, h, Nat.le_refl _, by simp, by rw [List.take_of_length_le (by simp)]⟩
theorem iNew_row (N : Nat) (w : World) (hq : lenB N = true) : Calls Tryz.prog 38 #[.int .i64 N] w (EndsR w (zerosB N) .nilIface) := by
  have HL := hide (isLength_any N w)
  obtain ⟨i0, hi, hz0, hz1, hz2⟩ := info_parts info_u8
  rw [hq] at HL
  have hn := lenB_iff.1 hq
  clear hq
  go_enter Tryz.func38, Tryz.ntmps38
  go_wp2_with fail
  refine (unhide HL).mono ?_
  rintro e w1 ⟨rfl, rfl⟩
  go_wp2_with (at_make; refine wpList_make_u8 rfl _ _ 22 rfl i0 Tryz.underlying22 hi hz0 hz1 hz2 _ _ _ _ N rfl rfl rfl rfl (by omega) ?_; intro w2 hk2 hs2 hb2)
  go_ret2
  have hlen := length_zerosB N
  have hr := hk2.row (Nat.le_refl _)
  rw [hlen] at hr
  exact ⟨_, N, _, by rw [hlen]; rfl, hr, hb2⟩
/-- A heap that has just been made. -/
theorem Hp.made {w w1 : World} {B g c : Nat} {cur : Array Value} {L : List Int} (hr : Row w1 B g c cur L) (hb : B ≤ w1.heap.size) (hby : Byt L) (hf : Fine L) :
    Hp (w1.alloc (.cells #[.slice (some ⟨g, 0, none⟩) L.length c] 81)) B w1.heap.size g c L :=
  ⟨hb, Nat.ne_of_lt hr.lt, heap_alloc_new w1 _, ⟨cur, hr.below ((Below.refl _ _).alloc (Nat.le_refl _) _)⟩, hby, hf⟩
theorem hNew_yes (N : Nat) (w : World) (hq : lenB N = true) :
    Calls Tryz.prog 13 #[.int .i64 N] w fun e w' => ∃ p g c, e = .returned (.tuple #[.pointer (some ⟨p, 0, none⟩), .nilIface]) ∧ Hp w' w.heap.size p g c (zerosB N) ∧ Below w.heap.size w w' := by
  have HN := hide (iNew_row N w hq)
  have hn := lenB_iff.1 hq
  have HF := hide (zeros_fine (n := N) (by omega) (by omega)).1
  have HB := hide (byt_zerosB N)
  generalize zerosB N = Z at *
  clear hq
  go_enter Tryz.func13, Tryz.ntmps13
  go_wp2_with fail
  refine (unhide HN).mono ?_
  rintro e w1 ⟨g, c, cur, rfl, hrow, hb1⟩
  have HR := hide hrow
  have HB1 := hide hb1
  clear hrow hb1 HN
  go_wp2
  go_ret2
  exact ⟨w1.heap.size, g, c, rfl, Hp.made (w := w) (unhide HR) (unhide HB1).size (unhide HB) (unhide HF), (unhide HB1).alloc (unhide HB1).size _⟩
theorem hBytes_any (p g c B : Nat) (L : List Int) (w : World) (h : Hp w B p g c L) :
    Calls Tryz.prog 16 #[.pointer (some ⟨p, 0, none⟩)] w fun e w' => ∃ a' c', e = .returned (.slice a' L.length c') ∧ OwnV w' w.heap.size (.slice a' L.length c') L ∧ Below w.heap.size w w' := by
  have HC := hide (bclone_any (some ⟨g, 0, none⟩) c L w h.bs)
  have hc := h.cell
  have hl := h.len
  clear h
  generalize L.length = N at *
  go_enter Tryz.func16, Tryz.ntmps16
  go_wp2_with fail
  refine (unhide HC).mono ?_
  rintro e w1 ⟨a', c', rfl, hown, hb1⟩
  have HO := hide hown
  have HB := hide hb1
  clear hown hb1 HC hc
  go_wp2
  go_ret
  exact ⟨a', c', rfl, unhide HO, unhide HB⟩
theorem hTag_any (p g c B : Nat) (L : List Int) (h : Int) (w : World) (hh : Hp w B p g c L) :
    Calls Tryz.prog 45 #[.pointer (some ⟨p, 0, none⟩), .int .i64 h] w fun e w' => e = .returned (.tuple #[.int .i64 (getE L h).2.2.2, errV (chkE L h)]) ∧ Below w.heap.size w w' := by
  have HG := hide (fun W (hW : Below w.heap.size w W) => iGet_any (some ⟨g, 0, none⟩) c L h W (hh.bs.below hW))
  have hc := hh.cell
  have hl := hh.len
  clear hh
  generalize getE L h = E at *
  generalize chkE L h = X at *
  generalize L.length = N at *
  obtain ⟨e1, e2, e3, e4⟩ := E
  unfold entV at HG
  dsimp only at HG ⊢
  go_enter Tryz.func45, Tryz.ntmps45
  go_wp2_with fail
  refine (unhide HG w (Below.refl _ _)).mono ?_
  rintro e w1 ⟨rfl, hb1⟩
  have HB := hide hb1
  clear hb1 HG hc
  go_wp2
  go_ret2
  exact ⟨rfl, (unhide HB).alloc (unhide HB).size _⟩
end Go.Proofs.YtllpeknpplpgeaaGreatDoor
/-! Contracts of package heap: Load. (Part of the proofs over package heap.) -/
namespace Go.Proofs.YtllpeknpplpgeaaGreatDoor
open Go.RowKit
set_option linter.unusedVariables false

theorem hLoad_no (a : Option Addr) (len cap : Nat) (w : World) (hl : len ≤ 140737488351232) (hq : lenB len = false) :
    Calls Tryz.prog 113 #[.slice a len cap] w fun e w' => e = .returned (.tuple #[.pointer none, errV 3]) ∧ w = w' := by
  have HE := hide (chk_no a len cap w hl hq)
  rw [errV_pos 3 (by decide)] at HE ⊢
  clear hq
  go_enter Tryz.func113, Tryz.ntmps113
  go_wp2_with fail
  refine (unhide HE).mono ?_
  rintro e w1 ⟨rfl, hw⟩
  subst hw
  go_wp2
  go_ret2
  exact ⟨rfl, rfl⟩
theorem hLoad_state (a : Option Addr) (cap : Nat) (L : List Int) (w : World) (hbs : Bs w a cap L) (hq : lenB L.length = true) (hf : faults L ≠ []) :
    Calls Tryz.prog 113 #[.slice a L.length cap] w fun e w' => e = .returned (.tuple #[.pointer none, errV 6]) ∧ Below w.heap.size w w' := by
  have HC := hide (chk_yes a cap L w hbs hq)
  have hbl := hbs.2.2.1
  have hpos : 0 < (faults L).length := List.length_pos_iff.2 hf
  have h48 := faults_len L
  rw [errV_pos 6 (by decide)]
  clear hbs hq hf
  generalize faults L = F at *
  generalize L.length = N at *
  go_enter Tryz.func113, Tryz.ntmps113
  go_wp2_with fail
  refine (unhide HC).mono ?_
  rintro e w1 ⟨v1, rfl, hown1, hb1⟩
  obtain ⟨a1, c1, rfl, hsl1⟩ := hown1.sls flC_len (by omega)
  have HB1 := hide hb1
  have hposI : (0 : Int) < (F.length : Int) := by omega
  clear hown1 hsl1 hb1 HC
  generalize F.length = FN at *
  go_wp2
  go_ret2
  exact ⟨rfl, unhide HB1⟩
theorem hLoad_yes (a : Option Addr) (cap : Nat) (L : List Int) (w : World) (hbs : Bs w a cap L) (hf : Fine L) :
    Calls Tryz.prog 113 #[.slice a L.length cap] w fun e w' => ∃ p g c, e = .returned (.tuple #[.pointer (some ⟨p, 0, none⟩), .nilIface]) ∧ Hp w' w.heap.size p g c L ∧ Below w.heap.size w w' := by
  have HC := hide (chk_yes a cap L w hbs hf.len0)
  rw [hf.ok] at HC
  have hbl := hbs.2.2.1
  have hl := hf.len
  have HBC := hide (fun (W : World) (hW : Below w.heap.size w W) => bclone_any a cap L W (hbs.below hW))
  have HBY := hide hbs.1
  have HF := hide hf
  have hne : L ≠ [] := by intro e; rw [e] at hl; simp at hl
  clear hbs hf
  go_enter Tryz.func113, Tryz.ntmps113
  go_wp2_with fail
  refine (unhide HC).mono ?_
  rintro e w1 ⟨v1, rfl, hown1, hb1⟩
  obtain ⟨a1, c1, rfl, hsl1⟩ := hown1.sls flC_len (by simp)
  have HBC1 := hide (unhide HBC w1 hb1)
  have HB1 := hide hb1
  clear hown1 hsl1 hb1 HC HBC
  go_wp2_with fail
  refine (unhide HBC1).mono ?_
  rintro e w2 ⟨a2, c2, rfl, ho2, hb2⟩
  obtain ⟨g, cur, rfl, hrow⟩ : ∃ g cur, a2 = some ⟨g, 0, none⟩ ∧ Row w2 w1.heap.size g c2 cur L := by
    rcases ho2.2 with ⟨e, h0⟩ | ⟨g, cap', cur, e, hB, hc, h3, h4, h5, h6⟩
    · exact absurd (List.eq_nil_of_length_eq_zero h0) hne
    · simp only [Value.slice.injEq, true_and] at e
      obtain ⟨rfl, rfl⟩ := e
      exact ⟨g, cur, rfl, hB, hc, h3, by omega, by rw [Nat.mul_one] at h6; exact h6⟩
  have HR := hide (hrow.low (unhide HB1).size)
  have HB2 := hide ((unhide HB1).trans (hb2.mono (unhide HB1).size))
  clear ho2 hrow hb2 HBC1 HB1
  go_wp2
  go_ret2
  exact ⟨w2.heap.size, g, c2, rfl, Hp.made (w := w) (unhide HR) (unhide HB2).size (unhide HBY) (unhide HF), (unhide HB2).alloc (unhide HB2).size _⟩
end Go.Proofs.YtllpeknpplpgeaaGreatDoor
/-! Contracts of package heap: Replace. (Part of the proofs over packages undo and root.) -/
namespace Go.Proofs.YtllpeknpplpgeaaGreatDoor
open Go.RowKit
set_option linter.unusedVariables false

section
variable {w w' : World} {B p g c : Nat} {L : List Int}
set_option maxRecDepth 100000 in
theorem hReplace_yes (h : Hp w B p g c L) (hB : B ≤ w.heap.size) {a : Option Addr} {cap : Nat} {I : List Int} (hbs : Bs w a cap I) (hf : Fine I) (hl : I.length = L.length) :
    Calls Tryz.prog 81 #[.pointer (some ⟨p, 0, none⟩), .slice a I.length cap] w fun e w' => e = .returned .nilIface ∧ ∃ g' c', Hp w' B p g' c' I ∧ Turn (foot p g) (foot p g') w w' := by
  have HL := hide (hLoad_yes a cap I w hbs hf)
  have HH := hide h
  have hc := h.cell
  have hln := h.len
  have HBY := hide hbs.1
  have HF := hide hf
  rw [← hl] at hc hln
  clear h hbs hf hl
  obtain ⟨N, hN⟩ : ∃ N, I.length = N := ⟨_, rfl⟩
  rw [hN] at hc hln HL ⊢
  have HN := hide hN
  clear hN
  go_enter Tryz.func81, Tryz.ntmps81
  go_wp2_with fail
  refine (unhide HL).mono ?_
  rintro e w1 ⟨p1, g1, c1, rfl, hh1, hb1⟩
  have hc1 := hh1.cell
  have hblk1 := (hb1.block p (unhide HH).plt).trans (unhide HH).blk
  have hfr1 : w1.frozen? ⟨p, 0, none⟩ = false := frozen_of_row _ _ 0 _ _ hblk1
  have hcc := (hb1.cell (p := ⟨p, 0, none⟩) (unhide HH).plt).trans hc
  have HSET : Hid (Hp (w1.setCell ⟨p, 0, none⟩ (.slice (some ⟨g1, 0, none⟩) N c1)) B p g1 c1 I ∧ Turn (foot p g) (foot p g1) w (w1.setCell ⟨p, 0, none⟩ (.slice (some ⟨g1, 0, none⟩) N c1))) := hide (by
    obtain ⟨cur, hr⟩ := hh1.row
    rw [← unhide HN]
    exact (unhide HH).set hb1 hr (unhide HBY) (unhide HF) hB)
  rw [unhide HN] at hc1
  clear hh1 hblk1 hb1 HL HH HBY HF HN hc
  go_wp2
  go_ret
  exact ⟨rfl, g1, c1, (unhide HSET).1, (unhide HSET).2⟩
end
end Go.Proofs.YtllpeknpplpgeaaGreatDoor
/-! A contract of package bytes: HasPrefix. (Part of the proofs.) -/
namespace Go.Proofs.YtllpeknpplpgeaaGreatDoor
open Go.RowKit
set_option linter.unusedVariables false

theorem hasPrefix_any (a la : Option Addr) (cap lc : Nat) (L l : List Int) (w : World) (hb : Bs w a cap L) (hl : Bs w la lc l) (hle : l.length ≤ L.length) :
    Calls Tryz.prog 37 #[.slice a L.length cap, .slice la l.length lc] w fun e w' => e = .returned (.bool (decide (L.take l.length = l))) ∧ w = w' := by
  obtain ⟨a2, hhi, hb2⟩ := slice_hi (P := Tryz.prog) (t := 22) Tryz.underlying22 size_u8 hb l.length hle
  have h8 : (L.take l.length).length = l.length := by rw [List.length_take]; omega
  have HE := hide (bytesEq_any a2 la cap lc (L.take l.length) l w hb2 hl)
  rw [h8] at HE
  have hbl := hb.2.2.1
  clear hb hl hb2 h8
  generalize decide (L.take l.length = l) = r at *
  generalize L.length = N at *
  generalize l.length = n at *
  go_enter Tryz.func37, Tryz.ntmps37
  go_wp2_with fail
  refine (unhide HE).mono ?_
  rintro e w1 ⟨rfl, hw⟩
  subst hw
  go_wp2
  go_ret
  exact ⟨rfl, rfl⟩
theorem hasPrefix_short (a la : Option Addr) (n m cap lc : Nat) (w : World) (hn : n ≤ 140737488351232) (hm : m ≤ 140737488351232) (hlt : n < m) :
    Calls Tryz.prog 37 #[.slice a n cap, .slice la m lc] w fun e w' => e = .returned (.bool false) ∧ w = w' := by
  have h1 : ¬ ((m : Int) ≤ (n : Int)) := by omega
  go_enter Tryz.func37, Tryz.ntmps37
  go_wp2_with fail
  go_ret
  exact ⟨rfl, rfl⟩
end Go.Proofs.YtllpeknpplpgeaaGreatDoor
/-! Contracts of package root: placeOf, firstNone, put. (Part of the proofs over package root.) -/
namespace Go.Proofs.YtllpeknpplpgeaaGreatDoor
open Go.RowKit
set_option linter.unusedVariables false

theorem field_at (x y : Int) (w : World) : (Instr.field 45 (.agg #[.int .i64 x, .int .i64 y]) 0).run Tryz.prog w = .ok (.int .i64 x) w := by
  simp [Instr.field, run_underlying Tryz.underlying45, run_underlying Tryz.underlying3, part, isAgg, asAgg, go_sem]
/-- The place that placeOf gives. -/
def pgI (k : Nat) : Int := if k = 8 then 0 else (k : Int)
set_option maxRecDepth 100000 in
set_option maxHeartbeats 1000000 in
theorem roPlace_any (a la : Option Addr) (cap lc : Nat) (L l : List Int) (w : World) (hb : Bs w a cap L) (hl : Bs w la lc l) (h8 : l.length = 8) (h1 : 288 ≤ L.length) (h2 : L.length ≤ 6400) :
    Calls Tryz.prog 46 #[.slice a L.length cap, .slice la 8 lc] w fun e w' => e = .returned (.tuple #[.int .i64 (pgI (plL L l)), .bool (decide (plL L l < 8))]) ∧ Below w.heap.size w w' := by
  have HB := hide hb
  have HL := hide hl
  have HF := hide (plL_first L l)
  have HH := hide (fun (W : World) (ax : Option Addr) (cx : Nat) (X : List Int) (hX : Bs W ax cx X) (hlW : Bs W la lc l) (hle : 8 ≤ X.length) => hasPrefix_any ax la cx lc X l W hX hlW (by omega))
  rw [h8] at HH
  have HI := hide (fun k => show isL L l k = decide ((rowAt L k).take 8 = l) from rfl)
  have HT := hide (fun k => show (rowAt L k).take 8 = (L.drop (200 + 11 * k)).take 8 by unfold rowAt; rw [List.take_take]; rfl)
  generalize plL L l = P at *
  clear hb hl h8
  go_enter Tryz.func46, Tryz.ntmps46
  go_wp2_with fail
  go_loopw [6, 7] (fun _ iv wr => ∃ k : Nat, k ≤ 8 ∧ iv = .int .i64 k ∧ (∀ j, j < k → isL L l j = false) ∧ Below w.heap.size w wr) (fun _ iv _ => 8 - (intOf iv).toNat)
  case atStart => exact ⟨0, Nat.zero_le _, rfl, fun j hj => absurd hj (Nat.not_lt_zero j), Below.refl _ _⟩
  case round =>
    obtain ⟨k, hk, rfl, hall, hbel⟩ := hrel
    by_cases hlt : k < 8
    · have HO := hide (ofRoot_any k wr hlt)
      have hb := (unhide HB).below hbel
      have hPk : isL L l k = true → P = k := fun h => First.unique (unhide HF) ⟨hk, hall, fun _ => h⟩
      have hS : isL L l k = false → ∀ j, j < k + 1 → isL L l j = false := fun h => First.step hall h
      have HPk : Hid (isL L l k = true → pgI P = k ∧ decide (P < 8) = true) := hide (fun h => by
        rw [hPk h]
        exact ⟨if_neg (by omega), decide_eq_true hlt⟩)
      have HS := hide hS
      have HBEL := hide hbel
      have HC : Hid (∀ W, Below wr.heap.size wr W → ∃ a', Sem.run Tryz.prog (Instr.slice 22 (.slice a L.length cap) (some (.int .i64 (200 + 11 * k : Nat))) none none) W = .ok (.slice a' (L.length - (200 + 11 * k)) (cap - (200 + 11 * k))) W ∧ Calls Tryz.prog 37 #[.slice a' (L.length - (200 + 11 * k)) (cap - (200 + 11 * k)), .slice la 8 lc] W fun e w' => e = .returned (.bool (isL L l k)) ∧ W = w') := hide (fun W hW => by
        obtain ⟨a', hlo, hb2⟩ := slice_lo (P := Tryz.prog) (t := 22) Tryz.underlying22 size_u8 (hb.below hW) (200 + 11 * k) (by omega)
        have hh := unhide HH W a' (cap - (200 + 11 * k)) (L.drop (200 + 11 * k)) hb2 (((unhide HL).below hbel).below hW) (by rw [List.length_drop]; omega)
        rw [List.length_drop, ← unhide HT k, ← unhide HI k] at hh
        exact ⟨a', hlo _, hh⟩)
      have hpl : (200 + 11 * k : Nat) ≤ L.length := by omega
      clear hall hPk hS hbel hb HF HH HB HL
      generalize isL L l k = b at *
      generalize 200 + 11 * k = q at *
      generalize L.length = N at *
      go_wp2_with fail
      refine (unhide HO).mono ?_
      rintro e w1 ⟨rfl, hb1⟩
      obtain ⟨a', hrun, hcall⟩ := unhide HC w1 hb1
      have HC1 := hide hcall
      have HB1 := hide ((unhide HBEL).trans (hb1.mono (unhide HBEL).size))
      have hfd := field_at q 11 w1
      clear hb1 hcall HC HO HBEL
      cases b with
      | false =>
        have HN := hide (unhide HS rfl)
        clear HS HPk
        go_wp2_with fail
        refine (unhide HC1).mono ?_
        rintro e w2 ⟨rfl, hw2⟩
        subst hw2
        go_wp2
        go_roundw
        case rel => exact ⟨k + 1, by omega, by go_num, unhide HN, unhide HB1⟩
        case measure => simp [intOf]; omega
      | true =>
        have HX := hide (unhide HPk rfl)
        clear HS HPk
        go_wp2_with fail
        refine (unhide HC1).mono ?_
        rintro e w2 ⟨rfl, hw2⟩
        subst hw2
        go_wp2
        go_ret2
        exact ⟨by rw [(unhide HX).1, (unhide HX).2]; rfl, unhide HB1⟩
    · obtain rfl : k = 8 := by omega
      have hp8 : P = 8 := First.unique (unhide HF) ⟨hk, hall, fun h => absurd h (Nat.lt_irrefl _)⟩
      subst hp8
      have HBEL := hide hbel
      clear hall HF hbel
      go_wp2
      go_ret2
      exact ⟨rfl, unhide HBEL⟩
/-- How firstNone answers. -/
theorem firstNone_any (a : Option Addr) (cap : Nat) (L : List Int) (w : World) (hb : Bs w a cap L) (hf : Fine L) :
    Calls Tryz.prog 47 #[.slice a L.length cap] w fun e w' => e = .returned (.tuple #[.int .i64 (pgI (frR L)), errV (if frR L = 8 then 4 else 0)]) ∧ Below w.heap.size w w' := by
  have hl := hf.len
  have hz8 : (zerosB 8).length = 8 := length_zerosB 8
  have hmk : Sem.run Tryz.prog (Instr.makeSlice 22 (.int .i64 8) (.int .i64 8)) w = .ok (.slice (some ⟨w.heap.size, 0, none⟩) 8 8) (mkW w 8) := run_make_u8 w 8 (by decide)
  have hbz := (mkW_blk w 8).bs (byt_zerosB 8) (by rw [hz8]; decide)
  have hbw := mkW_below w 8
  have hp := roPlace_any a (some ⟨w.heap.size, 0, none⟩) cap (zerosB 8).length L (zerosB 8) (mkW w 8) (hb.below hbw) hbz hz8 hl.1 hl.2
  rw [plL_zero hf, hz8] at hp
  have HP := hide hp
  have HBW := hide hbw
  have hfr := frR_le L
  clear hb hf hz8 hbz hbw hp
  generalize mkW w 8 = W0 at *
  generalize frR L = P at *
  generalize L.length = N at *
  by_cases h8 : P = 8
  · have hd : decide (P < 8) = false := decide_eq_false (by omega)
    have hpg : pgI P = 0 := if_pos h8
    rw [if_pos h8, errV_pos 4 (by decide), hpg]
    rw [hd, hpg] at HP
    clear h8 hd hpg hfr
    go_enter Tryz.func47, Tryz.ntmps47
    go_wp2_with fail
    refine (unhide HP).mono ?_
    rintro e w1 ⟨rfl, hb1⟩
    have HB1 := hide ((unhide HBW).trans (hb1.mono (unhide HBW).size))
    clear hb1 HP HBW
    go_wp2
    go_ret2
    exact ⟨rfl, unhide HB1⟩
  · have hd : decide (P < 8) = true := decide_eq_true (by omega)
    rw [if_neg h8, errV_zero]
    rw [hd] at HP
    clear h8 hd hfr
    generalize pgI P = x at *
    go_enter Tryz.func47, Tryz.ntmps47
    go_wp2_with fail
    refine (unhide HP).mono ?_
    rintro e w1 ⟨rfl, hb1⟩
    have HB1 := hide ((unhide HBW).trans (hb1.mono (unhide HBW).size))
    clear hb1 HP HBW
    go_wp2
    go_ret2
    exact ⟨rfl, unhide HB1⟩
end Go.Proofs.YtllpeknpplpgeaaGreatDoor
/-! Contracts of package root: put, Set, Unset. (Part of the proofs over package root.) -/
namespace Go.Proofs.YtllpeknpplpgeaaGreatDoor
open Go.RowKit
set_option linter.unusedVariables false

section
variable {w : World} {B p g c : Nat} {L : List Int}
set_option maxHeartbeats 1000000 in
theorem roPut_yes (h : Hp w B p g c L) (hB : B ≤ w.heap.size) (i : Nat) (r : (ByteArray × Int)) (hs : r.1.size ≤ 140737488351232) (h0 : prE L i r = 0) (hf : Fine (prL L i r)) :
    Calls Tryz.prog 48 #[.pointer (some ⟨p, 0, none⟩), .int .i64 i, .agg #[.string r.1, .int .i64 r.2]] w fun e w' => e = .returned .nilIface ∧ ∃ g' c', Hp w' B p g' c' (prL L i r) ∧ Turn (foot p g) (foot p g') w w' := by
  have hB0 : Below w.heap.size w (w.alloc (.cells #[.string r.1, .int .i64 r.2] 57)) := (Below.refl _ _).alloc (Nat.le_refl _) _
  have hbyt := h.byt
  have hlen := h.len
  have hpl := prL_len h0
  have hc0 : (w.alloc (.cells #[.string r.1, .int .i64 r.2] 57)).cell? ⟨w.heap.size, 0, none⟩ = some (.string r.1) := by rw [cell_of_row _ _ _ _ _ _ (heap_alloc_new w _)]; rfl
  have hc1 : (w.alloc (.cells #[.string r.1, .int .i64 r.2] 57)).cell? ⟨w.heap.size, 1, none⟩ = some (.int .i64 r.2) := by rw [cell_of_row _ _ _ _ _ _ (heap_alloc_new w _)]; rfl
  have HBY := hide (fun (W : World) (hW : Below w.heap.size w W) => hBytes_any p g c B L W (h.below hW))
  have HPR : Hid (∀ (W W' : World) a' c', Below w.heap.size w W → OwnV W W'.heap.size (.slice a' L.length c') L → Calls Tryz.prog 55 #[.slice a' L.length c', .int .i64 i, .agg #[.string r.1, .int .i64 r.2]] W fun e w' => ∃ a2 c2, e = .returned (.tuple #[.slice a2 L.length c2, .nilIface]) ∧ Bs w' a2 c2 (prL L i r) ∧ Below w.heap.size w w' ∧ Below W.heap.size W w') := hide (fun W W' a' c' hW hO => by
    obtain ⟨a2, c2, e2, hb2⟩ := hO.bs hbyt (by omega)
    simp only [Value.slice.injEq, true_and] at e2
    obtain ⟨rfl, rfl⟩ := e2
    have := iPutRoot_any a' c' L i r W hb2 hs
    rw [h0, errV_zero] at this
    refine this.mono ?_
    rintro e w' ⟨a3, c3, rfl, hb3, hb⟩
    exact ⟨a3, c3, by rw [hpl], hb3, hW.trans (hb.mono hW.size), hb⟩)
  have HRP : Hid (∀ W a2 c2, Below w.heap.size w W → Bs W a2 c2 (prL L i r) → Calls Tryz.prog 81 #[.pointer (some ⟨p, 0, none⟩), .slice a2 L.length c2] W fun e w' => e = .returned .nilIface ∧ ∃ g' c', Hp w' B p g' c' (prL L i r) ∧ Turn (foot p g) (foot p g') w w') := hide (fun W a2 c2 hW hb => by
    have := hReplace_yes (h.below hW) (Nat.le_trans hB hW.size) hb hf hpl
    rw [hpl] at this
    refine this.mono ?_
    rintro e w' ⟨rfl, g', c', hh, ht⟩
    exact ⟨rfl, g', c', hh, (Turn.of_below hW).trans ht⟩)
  have HB0 := hide hB0
  obtain ⟨rs, rh⟩ := r
  dsimp only at *
  clear h hf h0 hbyt hpl hB
  generalize prL L i (rs, rh) = PL at *
  generalize L.length = N at *
  go_enter Tryz.func48, Tryz.ntmps48
  go_wp2_with fail
  generalize hwx : w.alloc (.cells #[.string rs, .int .i64 rh] 57) = wx at *
  have HBY1 : Hid (Calls Tryz.prog 16 #[.pointer (some ⟨p, 0, none⟩)] wx.drew fun e w' => ∃ a' c', e = .returned (.slice a' N c') ∧ w'.cell? ⟨w.heap.size, 0, none⟩ = some (.string rs) ∧ w'.cell? ⟨w.heap.size, 1, none⟩ = some (.int .i64 rh) ∧ Hid (Calls Tryz.prog 55 #[.slice a' N c', .int .i64 i, .agg #[.string rs, .int .i64 rh]] w' fun e w' => ∃ a2 c2, e = .returned (.tuple #[.slice a2 N c2, .nilIface]) ∧ w'.cell? ⟨w.heap.size, 0, none⟩ = some (.string rs) ∧ w'.cell? ⟨w.heap.size, 1, none⟩ = some (.int .i64 rh) ∧ Hid (Bs w' a2 c2 PL ∧ Below w.heap.size w w'))) := hide (by
    have hd := below_drew (unhide HB0)
    refine (unhide HBY wx.drew hd).mono ?_
    rintro e w1 ⟨a', c', rfl, ho, hb1⟩
    have hB1 := hd.trans (hb1.mono hd.size)
    have hq0 := (hb1.cell (p := ⟨w.heap.size, 0, none⟩) (block_lt_of_cell hc0)).trans hc0
    have hq1 := (hb1.cell (p := ⟨w.heap.size, 1, none⟩) (block_lt_of_cell hc1)).trans hc1
    refine ⟨a', c', rfl, hq0, hq1, hide ((unhide HPR w1 wx.drew a' c' hB1 ho).mono ?_)⟩
    rintro e w2 ⟨a2, c2, rfl, hbs2, hb2, hbw⟩
    exact ⟨a2, c2, rfl, (hbw.cell (p := ⟨w.heap.size, 0, none⟩) (block_lt_of_cell hq0)).trans hq0, (hbw.cell (p := ⟨w.heap.size, 1, none⟩) (block_lt_of_cell hq1)).trans hq1, hide ⟨hbs2, hb2⟩⟩)
  clear HBY HPR hB0 HB0
  go_region_held3 (fun w' => w'.cell? ⟨w.heap.size, 0, none⟩ = some (.string rs) ∧ w'.cell? ⟨w.heap.size, 1, none⟩ = some (.int .i64 rh)) (first | go_keep | (go_split_ands; refine ⟨?_, ?_⟩ <;> go_keep))
    (first | (go_at_call 16; refine (unhide HBY1).mono ?_; rintro e w1 ⟨a', c', rfl, r0, r1, HP1⟩) | (go_at_call 55; refine (unhide HP1).mono ?_; rintro e w2 ⟨a2, c2, rfl, s0, s1, HX2⟩))
  have HRP2 := hide (unhide HRP w2 a2 c2 (unhide HX2).2 (unhide HX2).1)
  clear HX2 HRP s0 s1 r0 r1 HBY1 HP1
  go_wp2_with fail
  refine (unhide HRP2).mono ?_
  rintro e w3 ⟨rfl, g', c', hh, ht⟩
  have HH := hide hh
  have HT := hide ht
  clear hh ht HRP2
  go_wp2
  go_ret
  exact ⟨rfl, g', c', unhide HH, unhide HT⟩

/-! ### Set -/
theorem set_name (p : Nat) (s : ByteArray) (x : Int) (w : World) (hn : nameB s = false) (hs : s.size ≤ 140737488351232) :
    Calls Tryz.prog 15 #[.pointer (some ⟨p, 0, none⟩), .string s, .int .i64 x] w fun e w' => e = .returned (.tuple #[.bool false, errV 2]) ∧ Below w.heap.size w w' := by
  have HP := hide (putName_fail s w hs (fun h => by rw [nameB_iff.2 h] at hn; cases hn))
  rw [errV_pos 2 (by decide)]
  clear hn
  go_enter Tryz.func15, Tryz.ntmps15
  go_wp2_with fail
  refine (unhide HP).mono ?_
  rintro e w1 ⟨rfl, hb1⟩
  have HB1 := hide hb1
  clear hb1 HP
  go_wp2
  go_ret2
  exact ⟨rfl, unhide HB1⟩
theorem set_obj (h : Hp w B p g c L) (s : ByteArray) (x : Int) (hn : nameB s = true) (hs : s.size ≤ 140737488351232) (hc : chkE L x ≠ 0) :
    Calls Tryz.prog 15 #[.pointer (some ⟨p, 0, none⟩), .string s, .int .i64 x] w fun e w' => e = .returned (.tuple #[.bool false, errV (chkE L x)]) ∧ Below w.heap.size w w' := by
  have HP := hide (putName_any s w hs (nameL s) 0 (.inl ⟨nameB_iff.1 hn, rfl, rfl⟩))
  rw [errV_zero] at HP
  have HT := hide (fun (W : World) (hW : Below w.heap.size w W) => hTag_any p g c B L x W (h.below hW))
  rw [errV_pos _ hc] at HT ⊢
  clear hn h hc
  generalize (getE L x).2.2.2 = T at *
  generalize chkE L x = X at *
  generalize nameL s = NL at *
  go_enter Tryz.func15, Tryz.ntmps15
  go_wp2_with fail
  refine (unhide HP).mono ?_
  rintro e w1 ⟨a1, c1, rfl, _, hb1⟩
  have HT1 := hide (unhide HT w1 hb1)
  have HB1 := hide hb1
  clear hb1 HP HT
  go_wp2_with fail
  refine (unhide HT1).mono ?_
  rintro e w2 ⟨rfl, hb2⟩
  have HB2 := hide ((unhide HB1).trans (hb2.mono (unhide HB1).size))
  clear hb2 HT1 HB1
  go_wp2
  go_ret2
  exact ⟨rfl, unhide HB2⟩
set_option maxHeartbeats 2000000 in
theorem set_there (h : Hp w B p g c L) (hB : B ≤ w.heap.size) (s : ByteArray) (x : Int) (hn : nameB s = true) (hs : s.size ≤ 140737488351232) (hc : chkE L x = 0) (hp : plR L s < 8) :
    Calls Tryz.prog 15 #[.pointer (some ⟨p, 0, none⟩), .string s, .int .i64 x] w fun e w' => e = .returned (.tuple #[.bool false, .nilIface]) ∧ ∃ g' c', Hp w' B p g' c' (seB L s x) ∧ Turn (foot p g) (foot p g') w w' := by
  have hn8 : (nameL s).length = 8 := length_nameL s (nameB_iff.1 hn).2.1
  have HP : Hid (Calls Tryz.prog 44 #[.string s] w fun e w' => ∃ a c, e = .returned (.tuple #[.slice a 8 c, .nilIface]) ∧ Bs w' a c (nameL s) ∧ Below w.heap.size w w') := hide (by
    have := putName_any s w hs (nameL s) 0 (.inl ⟨nameB_iff.1 hn, rfl, rfl⟩)
    rw [errV_zero] at this
    exact this.mono fun e w' ⟨a, c, he, hb, hw⟩ => ⟨a, c, by rw [he, hn8], hb, hw⟩)
  have HT := hide (fun (W : World) (hW : Below w.heap.size w W) => hTag_any p g c B L x W (h.below hW))
  rw [hc, errV_zero] at HT
  have HBY := hide (fun (W : World) (hW : Below w.heap.size w W) => hBytes_any p g c B L W (h.below hW))
  have hlen := h.len
  have hbyt := h.byt
  have HPL : Hid (∀ (W : World) (la a' : Option Addr) (lc c' : Nat), Bs W la lc (nameL s) → Bs W a' c' L → Calls Tryz.prog 46 #[.slice a' L.length c', .slice la 8 lc] W fun e w' => e = .returned (.tuple #[.int .i64 (plR L s), .bool true]) ∧ Below W.heap.size W w') := hide (fun W la a' lc c' h1 h2 => by
    have := roPlace_any a' la c' lc L (nameL s) W h2 h1 hn8 hlen.1 hlen.2.1
    rw [plL_name hbyt hn, show pgI (plR L s) = (plR L s : Int) from if_neg (by omega), decide_eq_true hp] at this
    exact this)
  have hI : seI L s = plR L s := by unfold seI; rw [if_pos hp]
  have h0 : seE L s x = 0 := by unfold seE; rw [if_neg (by rw [hn]; simp), if_neg (fun h => h hc), hI, if_neg (by omega)]
  obtain ⟨g1, g2, _, _⟩ := se_put h.fine h0
  obtain ⟨k1, k2⟩ := se_img h.fine h0
  have HPUT : Hid (∀ W, Below w.heap.size w W → Calls Tryz.prog 48 #[.pointer (some ⟨p, 0, none⟩), .int .i64 (plR L s), .agg #[.string s, .int .i64 x]] W fun e w' => e = .returned .nilIface ∧ ∃ g' c', Hp w' B p g' c' (seB L s x) ∧ Turn (foot p g) (foot p g') w w') := hide (fun W hW => by
    rw [hI] at g1 k1 k2
    have := roPut_yes (h.below hW) (Nat.le_trans hB hW.size) (plR L s) (s, x) hs g1 k2
    rw [k1] at this
    refine this.mono ?_
    rintro e w' ⟨rfl, g', c', hh, ht⟩
    exact ⟨rfl, g', c', hh, (Turn.of_below hW).trans ht⟩)
  clear g1 g2 k1 k2 h0 hI
  have HOB : Hid (∀ (W : World) (D : Nat) (a' : Option Addr) (c' : Nat), OwnV W D (.slice a' L.length c') L → Bs W a' c' L) := hide (fun W D a' c' ho => by
    obtain ⟨a2, c2, e2, hb2⟩ := ho.bs hbyt (by omega)
    simp only [Value.slice.injEq, true_and] at e2
    obtain ⟨rfl, rfl⟩ := e2
    exact hb2)
  clear h hn hc hB hbyt hn8 hp
  generalize (getE L x).2.2.2 = T at *
  generalize nameL s = NL at *
  generalize seB L s x = SB at *
  generalize plR L s = P at *
  generalize L.length = N at *
  go_enter Tryz.func15, Tryz.ntmps15
  go_wp2_with fail
  refine (unhide HP).mono ?_
  rintro e w1 ⟨a1, c1, rfl, hbs1, hb1⟩
  have HT1 := hide (unhide HT w1 hb1)
  have HL1 := hide hbs1
  have HB1 := hide hb1
  clear hb1 hbs1 HP HT
  go_wp2_with fail
  refine (unhide HT1).mono ?_
  rintro e w2 ⟨rfl, hb2⟩
  have hB2 := (unhide HB1).trans (hb2.mono (unhide HB1).size)
  have HL2 := hide ((unhide HL1).below hb2)
  have HBY2 := hide (unhide HBY w2 hB2)
  have HB2 := hide hB2
  clear hb2 hB2 HT1 HB1 HL1 HBY
  go_wp2_with fail
  refine (unhide HBY2).mono ?_
  rintro e w3 ⟨a3, c3, rfl, ho3, hb3⟩
  have hbs3 := unhide HOB w3 _ a3 c3 ho3
  have HPL3 := hide (unhide HPL w3 a1 a3 c1 c3 ((unhide HL2).below hb3) hbs3)
  have HS3 := hide hbs3
  have HB3 := hide ((unhide HB2).trans (hb3.mono (unhide HB2).size))
  clear ho3 hbs3 hb3 HBY2 HB2 HL2 HPL HOB
  go_wp2_with fail
  refine (unhide HPL3).mono ?_
  rintro e w4 ⟨rfl, hb4⟩
  have hB4 := (unhide HB3).trans (hb4.mono (unhide HB3).size)
  have HPUT5 := hide (unhide HPUT w4 hB4)
  clear hb4 hB4 HPL3 HB3 HS3 HPUT
  go_wp2_with fail
  refine (unhide HPUT5).mono ?_
  rintro e w5 ⟨rfl, g', c', hh, ht⟩
  have HH := hide hh
  have HTN := hide ht
  clear hh ht HPUT5
  go_wp2
  go_ret2
  exact ⟨rfl, g', c', unhide HH, unhide HTN⟩
set_option maxHeartbeats 2000000 in
theorem set_new (h : Hp w B p g c L) (hB : B ≤ w.heap.size) (s : ByteArray) (x : Int) (hn : nameB s = true) (hs : s.size ≤ 140737488351232) (hc : chkE L x = 0) (hp : plR L s = 8) (hf : frR L < 8) :
    Calls Tryz.prog 15 #[.pointer (some ⟨p, 0, none⟩), .string s, .int .i64 x] w fun e w' => e = .returned (.tuple #[.bool true, .nilIface]) ∧ ∃ g' c', Hp w' B p g' c' (seB L s x) ∧ Turn (foot p g) (foot p g') w w' := by
  have hn8 : (nameL s).length = 8 := length_nameL s (nameB_iff.1 hn).2.1
  have HP : Hid (Calls Tryz.prog 44 #[.string s] w fun e w' => ∃ a c, e = .returned (.tuple #[.slice a 8 c, .nilIface]) ∧ Bs w' a c (nameL s) ∧ Below w.heap.size w w') := hide (by
    have := putName_any s w hs (nameL s) 0 (.inl ⟨nameB_iff.1 hn, rfl, rfl⟩)
    rw [errV_zero] at this
    exact this.mono fun e w' ⟨a, c, he, hb, hw⟩ => ⟨a, c, by rw [he, hn8], hb, hw⟩)
  have HT := hide (fun (W : World) (hW : Below w.heap.size w W) => hTag_any p g c B L x W (h.below hW))
  rw [hc, errV_zero] at HT
  have HBY := hide (fun (W : World) (hW : Below w.heap.size w W) => hBytes_any p g c B L W (h.below hW))
  have hlen := h.len
  have hbyt := h.byt
  have HPL : Hid (∀ (W : World) (la a' : Option Addr) (lc c' : Nat), Bs W la lc (nameL s) → Bs W a' c' L → Calls Tryz.prog 46 #[.slice a' L.length c', .slice la 8 lc] W fun e w' => e = .returned (.tuple #[.int .i64 0, .bool false]) ∧ Below W.heap.size W w') := hide (fun W la a' lc c' h1 h2 => by
    have := roPlace_any a' la c' lc L (nameL s) W h2 h1 hn8 hlen.1 hlen.2.1
    rw [plL_name hbyt hn, show pgI (plR L s) = 0 from if_pos hp, decide_eq_false (show ¬ plR L s < 8 by omega)] at this
    exact this)
  have HFN : Hid (∀ (W : World) (a' : Option Addr) (c' : Nat), Bs W a' c' L → Calls Tryz.prog 47 #[.slice a' L.length c'] W fun e w' => e = .returned (.tuple #[.int .i64 (frR L), .nilIface]) ∧ Below W.heap.size W w') := hide (fun W a' c' hb => by
    have := firstNone_any a' c' L W hb h.fine
    rw [show pgI (frR L) = (frR L : Int) from if_neg (by omega), if_neg (by omega), errV_zero] at this
    exact this)
  have hI : seI L s = frR L := by unfold seI; rw [if_neg (by omega)]
  have h0 : seE L s x = 0 := by unfold seE; rw [if_neg (by rw [hn]; simp), if_neg (fun h => h hc), hI, if_neg (by omega)]
  obtain ⟨g1, g2, _, _⟩ := se_put h.fine h0
  obtain ⟨k1, k2⟩ := se_img h.fine h0
  have HPUT : Hid (∀ W, Below w.heap.size w W → Calls Tryz.prog 48 #[.pointer (some ⟨p, 0, none⟩), .int .i64 (frR L), .agg #[.string s, .int .i64 x]] W fun e w' => e = .returned .nilIface ∧ ∃ g' c', Hp w' B p g' c' (seB L s x) ∧ Turn (foot p g) (foot p g') w w') := hide (fun W hW => by
    rw [hI] at g1 k1 k2
    have := roPut_yes (h.below hW) (Nat.le_trans hB hW.size) (frR L) (s, x) hs g1 k2
    rw [k1] at this
    refine this.mono ?_
    rintro e w' ⟨rfl, g', c', hh, ht⟩
    exact ⟨rfl, g', c', hh, (Turn.of_below hW).trans ht⟩)
  clear g1 g2 k1 k2 h0 hI
  have HOB : Hid (∀ (W : World) (D : Nat) (a' : Option Addr) (c' : Nat), OwnV W D (.slice a' L.length c') L → Bs W a' c' L) := hide (fun W D a' c' ho => by
    obtain ⟨a2, c2, e2, hb2⟩ := ho.bs hbyt (by omega)
    simp only [Value.slice.injEq, true_and] at e2
    obtain ⟨rfl, rfl⟩ := e2
    exact hb2)
  clear h hn hc hB hbyt hn8 hp hf
  generalize (getE L x).2.2.2 = T at *
  generalize nameL s = NL at *
  generalize seB L s x = SB at *
  generalize frR L = P at *
  generalize L.length = N at *
  go_enter Tryz.func15, Tryz.ntmps15
  go_wp2_with fail
  refine (unhide HP).mono ?_
  rintro e w1 ⟨a1, c1, rfl, hbs1, hb1⟩
  have HT1 := hide (unhide HT w1 hb1)
  have HL1 := hide hbs1
  have HB1 := hide hb1
  clear hb1 hbs1 HP HT
  go_wp2_with fail
  refine (unhide HT1).mono ?_
  rintro e w2 ⟨rfl, hb2⟩
  have hB2 := (unhide HB1).trans (hb2.mono (unhide HB1).size)
  have HL2 := hide ((unhide HL1).below hb2)
  have HBY2 := hide (unhide HBY w2 hB2)
  have HB2 := hide hB2
  clear hb2 hB2 HT1 HB1 HL1 HBY
  go_wp2_with fail
  refine (unhide HBY2).mono ?_
  rintro e w3 ⟨a3, c3, rfl, ho3, hb3⟩
  have hbs3 := unhide HOB w3 _ a3 c3 ho3
  have HPL3 := hide (unhide HPL w3 a1 a3 c1 c3 ((unhide HL2).below hb3) hbs3)
  have HS3 := hide hbs3
  have HB3 := hide ((unhide HB2).trans (hb3.mono (unhide HB2).size))
  clear ho3 hbs3 hb3 HBY2 HB2 HL2 HPL HOB
  go_wp2_with fail
  refine (unhide HPL3).mono ?_
  rintro e w4 ⟨rfl, hb4⟩
  have hB4 := (unhide HB3).trans (hb4.mono (unhide HB3).size)
  have HFN4 := hide (unhide HFN w4 a3 c3 ((unhide HS3).below hb4))
  have HB4 := hide hB4
  clear hb4 hB4 HPL3 HB3 HS3 HFN
  go_wp2_with fail
  refine (unhide HFN4).mono ?_
  rintro e w5 ⟨rfl, hb5⟩
  have HPUT6 := hide (unhide HPUT w5 ((unhide HB4).trans (hb5.mono (unhide HB4).size)))
  clear hb5 HFN4 HB4 HPUT
  go_wp2_with fail
  refine (unhide HPUT6).mono ?_
  rintro e w6 ⟨rfl, g', c', hh, ht⟩
  have HH := hide hh
  have HTN := hide ht
  clear hh ht HPUT6
  go_wp2
  go_ret2
  exact ⟨rfl, g', c', unhide HH, unhide HTN⟩
set_option maxHeartbeats 2000000 in
theorem set_full (h : Hp w B p g c L) (hB : B ≤ w.heap.size) (s : ByteArray) (x : Int) (hn : nameB s = true) (hs : s.size ≤ 140737488351232) (hc : chkE L x = 0) (hp : plR L s = 8) (hf : frR L = 8) :
    Calls Tryz.prog 15 #[.pointer (some ⟨p, 0, none⟩), .string s, .int .i64 x] w fun e w' => e = .returned (.tuple #[.bool false, errV 4]) ∧ Below w.heap.size w w' := by
  have hn8 : (nameL s).length = 8 := length_nameL s (nameB_iff.1 hn).2.1
  have HP : Hid (Calls Tryz.prog 44 #[.string s] w fun e w' => ∃ a c, e = .returned (.tuple #[.slice a 8 c, .nilIface]) ∧ Bs w' a c (nameL s) ∧ Below w.heap.size w w') := hide (by
    have := putName_any s w hs (nameL s) 0 (.inl ⟨nameB_iff.1 hn, rfl, rfl⟩)
    rw [errV_zero] at this
    exact this.mono fun e w' ⟨a, c, he, hb, hw⟩ => ⟨a, c, by rw [he, hn8], hb, hw⟩)
  have HT := hide (fun (W : World) (hW : Below w.heap.size w W) => hTag_any p g c B L x W (h.below hW))
  rw [hc, errV_zero] at HT
  have HBY := hide (fun (W : World) (hW : Below w.heap.size w W) => hBytes_any p g c B L W (h.below hW))
  have hlen := h.len
  have hbyt := h.byt
  have HPL : Hid (∀ (W : World) (la a' : Option Addr) (lc c' : Nat), Bs W la lc (nameL s) → Bs W a' c' L → Calls Tryz.prog 46 #[.slice a' L.length c', .slice la 8 lc] W fun e w' => e = .returned (.tuple #[.int .i64 0, .bool false]) ∧ Below W.heap.size W w') := hide (fun W la a' lc c' h1 h2 => by
    have := roPlace_any a' la c' lc L (nameL s) W h2 h1 hn8 hlen.1 hlen.2.1
    rw [plL_name hbyt hn, show pgI (plR L s) = 0 from if_pos hp, decide_eq_false (show ¬ plR L s < 8 by omega)] at this
    exact this)
  have HFN : Hid (∀ (W : World) (a' : Option Addr) (c' : Nat), Bs W a' c' L → Calls Tryz.prog 47 #[.slice a' L.length c'] W fun e w' => e = .returned (.tuple #[.int .i64 0, .iface 63 (.int .i64 4)]) ∧ Below W.heap.size W w') := hide (fun W a' c' hb => by
    have := firstNone_any a' c' L W hb h.fine
    rw [show pgI (frR L) = 0 from if_pos hf, if_pos hf, errV_pos 4 (by decide)] at this
    exact this)
  rw [errV_pos 4 (by decide)]
  have HOB : Hid (∀ (W : World) (D : Nat) (a' : Option Addr) (c' : Nat), OwnV W D (.slice a' L.length c') L → Bs W a' c' L) := hide (fun W D a' c' ho => by
    obtain ⟨a2, c2, e2, hb2⟩ := ho.bs hbyt (by omega)
    simp only [Value.slice.injEq, true_and] at e2
    obtain ⟨rfl, rfl⟩ := e2
    exact hb2)
  clear h hn hc hB hbyt hn8 hp hf
  generalize (getE L x).2.2.2 = T at *
  generalize nameL s = NL at *
  generalize L.length = N at *
  go_enter Tryz.func15, Tryz.ntmps15
  go_wp2_with fail
  refine (unhide HP).mono ?_
  rintro e w1 ⟨a1, c1, rfl, hbs1, hb1⟩
  have HT1 := hide (unhide HT w1 hb1)
  have HL1 := hide hbs1
  have HB1 := hide hb1
  clear hb1 hbs1 HP HT
  go_wp2_with fail
  refine (unhide HT1).mono ?_
  rintro e w2 ⟨rfl, hb2⟩
  have hB2 := (unhide HB1).trans (hb2.mono (unhide HB1).size)
  have HL2 := hide ((unhide HL1).below hb2)
  have HBY2 := hide (unhide HBY w2 hB2)
  have HB2 := hide hB2
  clear hb2 hB2 HT1 HB1 HL1 HBY
  go_wp2_with fail
  refine (unhide HBY2).mono ?_
  rintro e w3 ⟨a3, c3, rfl, ho3, hb3⟩
  have hbs3 := unhide HOB w3 _ a3 c3 ho3
  have HPL3 := hide (unhide HPL w3 a1 a3 c1 c3 ((unhide HL2).below hb3) hbs3)
  have HS3 := hide hbs3
  have HB3 := hide ((unhide HB2).trans (hb3.mono (unhide HB2).size))
  clear ho3 hbs3 hb3 HBY2 HB2 HL2 HPL HOB
  go_wp2_with fail
  refine (unhide HPL3).mono ?_
  rintro e w4 ⟨rfl, hb4⟩
  have hB4 := (unhide HB3).trans (hb4.mono (unhide HB3).size)
  have HFN4 := hide (unhide HFN w4 a3 c3 ((unhide HS3).below hb4))
  have HB4 := hide hB4
  clear hb4 hB4 HPL3 HB3 HS3 HFN
  go_wp2_with fail
  refine (unhide HFN4).mono ?_
  rintro e w5 ⟨rfl, hb5⟩
  have HB5 := hide ((unhide HB4).trans (hb5.mono (unhide HB4).size))
  clear hb5 HFN4 HB4
  go_wp2
  go_ret2
  exact ⟨rfl, unhide HB5⟩
theorem roSet_any (h : Hp w B p g c L) (hB : B ≤ w.heap.size) (s : ByteArray) (x : Int) (hs : s.size ≤ 140737488351232) :
    Calls Tryz.prog 15 #[.pointer (some ⟨p, 0, none⟩), .string s, .int .i64 x] w fun e w' => e = .returned (.tuple #[.bool (seO L s x), errV (seE L s x)]) ∧ ∃ g' c', Hp w' B p g' c' (seF L s x) ∧ Turn (foot p g) (foot p g') w w' := by
  have key : ∀ E : Int, E ≠ 0 → seE L s x = E → Calls Tryz.prog 15 #[.pointer (some ⟨p, 0, none⟩), .string s, .int .i64 x] w (fun e w' => e = .returned (.tuple #[.bool false, errV E]) ∧ Below w.heap.size w w') → Calls Tryz.prog 15 #[.pointer (some ⟨p, 0, none⟩), .string s, .int .i64 x] w fun e w' => e = .returned (.tuple #[.bool (seO L s x), errV (seE L s x)]) ∧ ∃ g' c', Hp w' B p g' c' (seF L s x) ∧ Turn (foot p g) (foot p g') w w' := fun E hE he hcall => by
    have e1 : seO L s x = false := by unfold seO; rw [he, decide_eq_false hE]; rfl
    have e2 : seF L s x = L := by unfold seF; rw [he, if_neg hE]
    rw [e1, e2, he]
    refine hcall.mono ?_
    rintro e w' ⟨rfl, hb⟩
    exact ⟨rfl, g, c, h.below hb, Turn.of_below hb⟩
  cases hn : nameB s with
  | false => exact key 2 (by decide) (by unfold seE; rw [hn]; rfl) (set_name p s x w hn hs)
  | true =>
    by_cases hc : chkE L x = 0
    · have hle := plR_le L s
      have hlf := frR_le L
      by_cases hp : plR L s < 8
      · have hI : seI L s = plR L s := by unfold seI; rw [if_pos hp]
        have h0 : seE L s x = 0 := by unfold seE; rw [if_neg (by rw [hn]; simp), if_neg (fun h => h hc), hI, if_neg (by omega)]
        have e1 : seO L s x = false := by unfold seO seN; rw [decide_eq_false (show ¬ plR L s = 8 by omega), Bool.and_false]
        have e2 : seF L s x = seB L s x := by unfold seF; rw [if_pos h0]
        rw [e1, e2, h0, errV_zero]
        exact set_there h hB s x hn hs hc hp
      · have hp8 : plR L s = 8 := by omega
        have hI : seI L s = frR L := by unfold seI; rw [if_neg hp]
        by_cases hf : frR L < 8
        · have h0 : seE L s x = 0 := by unfold seE; rw [if_neg (by rw [hn]; simp), if_neg (fun h => h hc), hI, if_neg (by omega)]
          have e1 : seO L s x = true := by unfold seO seN; rw [decide_eq_true hp8, decide_eq_true h0]; rfl
          have e2 : seF L s x = seB L s x := by unfold seF; rw [if_pos h0]
          rw [e1, e2, h0, errV_zero]
          exact set_new h hB s x hn hs hc hp8 hf
        · have hf8 : frR L = 8 := by omega
          exact key 4 (by decide) (by unfold seE; rw [if_neg (by rw [hn]; simp), if_neg (fun h => h hc), hI, if_pos hf8]) (set_full h hB s x hn hs hc hp8 hf8)
    · exact key _ hc (by unfold seE; rw [if_neg (by rw [hn]; simp), if_pos hc]) (set_obj h s x hn hs hc)
end
end Go.Proofs.YtllpeknpplpgeaaGreatDoor
