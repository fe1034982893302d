/-
  Joined by program: RpA; RpB; RpC; RpD; RpE; RpF. (Parts of the proofs over the packages of the program.)
-/
import Derived.Test.YtmphnhigohkaeaaDoorJRef
import Derived.Test.YtmphnhigohkaeaaDoorJPages
import Derived.Deep.QuietTactic
import Derived.Deep.RegionHeld3
import Derived.Deep.CutRange
import Derived.BigQuiet
import Derived.Maps.AppendAt
/-! Contracts of the reference's pages: many, Format. (Part of the proof of PagesPlays.) -/
namespace Go.Proofs.YtmphnhigohkaeaaDoor
open Go.RowKit
set_option linter.unusedVariables false

/-- Block q is the reference's Pages of the device at m, of stamp s, with L pages. -/
def RpAt (w : World) (q m : Nat) (s : Int) (L : Nat) : Prop := w.heap[q]? = some (.cells #[.pointer (some ⟨m, 0, none⟩), .int .i64 s, .int .i64 (L : Int)] 49 (0, 0))
section
variable {w w' : World} {q m L : Nat} {s : Int} {S S' : Nat → Prop}
theorem RpAt.c0 (h : RpAt w q m s L) : w.cell? ⟨q, 0, none⟩ = some (.pointer (some ⟨m, 0, none⟩)) := by rw [cell_of_row w q 0 _ _ (0, 0) h]; rfl
theorem RpAt.c1 (h : RpAt w q m s L) : w.cell? ⟨q, 1, none⟩ = some (.int .i64 s) := by rw [cell_of_row w q 1 _ _ (0, 0) h]; rfl
theorem RpAt.c2 (h : RpAt w q m s L) : w.cell? ⟨q, 2, none⟩ = some (.int .i64 (L : Int)) := by rw [cell_of_row w q 2 _ _ (0, 0) h]; rfl
theorem RpAt.lt (h : RpAt w q m s L) : q < w.heap.size := (Array.getElem?_eq_some_iff.1 h).1
theorem RpAt.fr (h : RpAt w q m s L) (i : Nat) : w.frozen? ⟨q, i, none⟩ = false := frozen_of_row w q i _ _ h
theorem RpAt.same (h : RpAt w q m s L) (e : w'.heap[q]? = w.heap[q]?) : RpAt w' q m s L := e.trans h
theorem RpAt.below (h : RpAt w q m s L) (hb : Below w.heap.size w w') : RpAt w' q m s L := h.same (hb.block q h.lt)
theorem RpAt.turn (h : RpAt w q m s L) (ht : Turn S S' w w') (hn : ¬ S q) : RpAt w' q m s L ∧ ¬ S' q := ⟨h.same (ht.block q h.lt hn), fun hs => hn (ht.foot q h.lt hs)⟩
theorem RpAt.set (h : RpAt w q m s L) (t : Int) : RpAt (w.setCell ⟨q, 1, none⟩ (.int .i64 t)) q m t L := by
  unfold RpAt
  rw [heap_setCell_same _ _ _ _ _ _ h]
  rfl
end

section
variable {w : World} {p : Nat} {S : Nat → Prop} {D : DS}
theorem many_any {L : Nat} (h : Ref w p S D) (hL : cntI D.secs.length = L) (hpos : 0 < D.secs.length) :
    Calls Tryd.prog 32 #[.pointer (some ⟨p, 0, none⟩)] w fun e w' => e = .returned (.int .i64 (L : Int)) ∧ w = w' := by
  obtain ⟨sv, lv, left, h⟩ := h
  have c0 := h.c0
  have hlen := h.ok.len
  obtain ⟨g, cap, rfl, hc1, hc2, _⟩ := h.sv_form hpos
  unfold maxLen at hc2
  unfold cntI at hL
  clear h
  generalize D.secs.length = n at *
  by_cases h1 : (n : Int) - 48 ≤ 200
  · rw [if_pos h1] at hL
    have h2 : ¬ (n : Int) - 48 < 0 := by omega
    have h3 : ¬ 200 < (n : Int) - 48 := by omega
    rw [← hL]
    clear hL
    go_enter Tryd.func32, Tryd.ntmps32
    go_wp2
    go_ret
    exact ⟨rfl, rfl⟩
  · rw [if_neg h1] at hL
    rw [← hL]
    clear hL
    go_enter Tryd.func32, Tryd.ntmps32
    go_wp2
    go_ret
    exact ⟨rfl, rfl⟩
theorem many_no (h : Ref w p S D) (hn : D.secs.length ≤ 48) (hpos : 0 < D.secs.length) :
    Calls Tryd.prog 32 #[.pointer (some ⟨p, 0, none⟩)] w fun e w' => e = .returned (.int .i64 0) ∧ w = w' := by
  obtain ⟨sv, lv, left, h⟩ := h
  have c0 := h.c0
  obtain ⟨g, cap, rfl, hc1, hc2, _⟩ := h.sv_form hpos
  unfold maxLen at hc2
  clear h
  generalize D.secs.length = n at *
  by_cases h0 : n = 48
  · subst h0
    go_enter Tryd.func32, Tryd.ntmps32
    go_wp2
    go_ret
    exact ⟨rfl, rfl⟩
  · have h2 : (n : Int) - 48 < 0 := by omega
    go_enter Tryd.func32, Tryd.ntmps32
    go_wp2
    go_ret
    exact ⟨rfl, rfl⟩

theorem rFormat_no (h : Ref w p S D) (hn : D.secs.length ≤ 48) (hpos : 0 < D.secs.length) :
    Calls Tryd.prog 8 #[.pointer (some ⟨p, 0, none⟩)] w fun e w' => e = .returned (.tuple #[.pointer none, .int .i64 1]) ∧ w = w' := by
  have HC := hide (many_no h hn hpos)
  clear h
  go_enter Tryd.func8, Tryd.ntmps8
  go_wp2_with fail
  refine (unhide HC).mono ?_
  rintro e w1 ⟨rfl, rfl⟩
  go_wp2
  go_ret2
  exact ⟨rfl, rfl⟩

set_option maxRecDepth 100000 in
theorem rFormat_yes {L : Nat} (h : Ref w p S D) (hL : cntI D.secs.length = L) (hL1 : 1 ≤ L) (hpos : 0 < D.secs.length) :
    Calls Tryd.prog 8 #[.pointer (some ⟨p, 0, none⟩)] w fun e w' => ∃ q, e = .returned (.tuple #[.pointer (some ⟨q, 0, none⟩), .int .i64 (formatRun D).2]) ∧ ∃ S', Ref w' p S' (formatRun D).1 ∧ Turn S S' w w' ∧ RpAt w' q p 2 L ∧ ¬ S' q ∧ w.heap.size ≤ q := by
  have HC := hide (many_any h hL hpos)
  have hmk := rMake_any 2 none 0 [] w (bs_nil w)
  have hmo : makeOut 2 [] = (secL 2 [], 0) := by unfold makeOut; rw [if_neg (by decide), if_neg (by decide)]
  rw [hmo] at hmk
  have HMK := hide hmk
  have H := hide h
  obtain ⟨i0, hi0, hz0, hz1, hz2⟩ := info_parts info_u8
  have hLi : ¬ (L : Int) = 0 := by omega
  obtain ⟨X1, e1⟩ : ∃ X1, X1 = andW (D, 0) 0 (secL 2 []) := ⟨_, rfl⟩
  obtain ⟨X2, e2⟩ : ∃ X2, X2 = andW X1 1 (zerosB 32) := ⟨_, rfl⟩
  have e3 : formatRun D = andF X2 := by rw [e2, e1]; rfl
  rw [e3]
  obtain ⟨X3, e4⟩ : ∃ X3, X3 = andF X2 := ⟨_, rfl⟩
  rw [← e4]
  have HXF := hide e4
  have hx1 : X1 = (D.write 0 (secL 2 []), D.writeE 0 (secL 2 [])) := by rw [e1]; exact andW_ok rfl _ _
  have hl1 : X1.1.secs.length = D.secs.length := by rw [hx1]; show (D.write _ _).secs.length = _; rw [write_secs]
  have hl2 : X2.1.secs.length = D.secs.length := by
    rw [e2]; unfold andW
    split
    · show (X1.1.write _ _).secs.length = _; rw [write_secs]; exact hl1
    · exact hl1
  have HX1 := hide hx1
  have HX2 := hide e2
  have HLL := hide (And.intro hl1 hl2)
  clear h hmk hmo e1 e2 e3 e4 hx1 hl1 hl2
  go_enter Tryd.func8, Tryd.ntmps8
  go_wp2_with fail
  refine (unhide HC).mono ?_
  rintro e w1 ⟨rfl, rfl⟩
  go_wp2_with fail
  refine (unhide HMK).mono ?_
  rintro e w1 ⟨a1, c1, rfl, hb1, hbel1⟩
  try dsimp only at hb1
  have hwr := rwrite_any 0 a1 c1 (secL 2 []) ((unhide H).below hbel1) hpos hb1
  have hE1 : D.writeE 0 (secL 2 []) = X1.2 := by rw [unhide HX1]
  have hD1 : D.write 0 (secL 2 []) = X1.1 := by rw [unhide HX1]
  rw [hE1, hD1] at hwr
  try dsimp only
  rw [show (secL 2 []).length = 32 from sec_two.1] at *
  have HWR := hide hwr
  have HT1 := hide (Turn.of_below (S := S) hbel1)
  clear hwr hb1 hbel1 HMK HC hE1 hD1
  go_wp2_with fail
  refine (unhide HWR).mono ?_
  rintro e w2 ⟨rfl, S2, hr2, ht2⟩
  have HR2 := hide hr2
  have HT2 := hide ((unhide HT1).trans ht2)
  clear hr2 ht2 HWR HT1 HX1
  have hfin : ∀ (w3 : World) (S3 : Nat → Prop) (X : DS × Int), Ref w3 p S3 X.1 → Turn S S3 w w3 → ∃ S', Ref (w3.alloc (.cells #[.pointer (some ⟨p, 0, none⟩), .int .i64 2, .int .i64 (L : Int)] 49)) p S' X.1 ∧ Turn S S' w (w3.alloc (.cells #[.pointer (some ⟨p, 0, none⟩), .int .i64 2, .int .i64 (L : Int)] 49)) ∧ RpAt (w3.alloc (.cells #[.pointer (some ⟨p, 0, none⟩), .int .i64 2, .int .i64 (L : Int)] 49)) w3.heap.size p 2 L ∧ ¬ S' w3.heap.size ∧ w.heap.size ≤ w3.heap.size := fun w3 S3 X hr ht =>
    ⟨S3, hr.below ((Below.refl _ _).alloc (Nat.le_refl _) _), ht.trans (Turn.alloc S3 _ _), heap_alloc_new _ _, fun hs => by have := hr.lt _ hs; omega, ht.size⟩
  have HFIN := hide hfin
  clear hfin
  by_cases hE1 : X1.2 = 0
  · have hx2 : X2 = (X1.1.write 1 (zerosB 32), X1.1.writeE 1 (zerosB 32)) := by rw [unhide HX2]; exact andW_ok hE1 _ _
    rw [hE1]
    have HX3 := hide hx2
    clear hx2 HX2 hE1
    go_wp2_with (at_make; refine wpList_make_u8 rfl _ _ 41 rfl i0 Tryd.underlying41 hi0 hz0 hz1 hz2 _ _ _ _ 32 rfl rfl rfl rfl (by omega) ?_)
    intro w3 hk3 hs3 hb3
    have hwr := rwrite_any 1 (some ⟨w2.heap.size, 0, none⟩) 32 (zerosB 32) ((unhide HR2).below hb3) (by rw [(unhide HLL).1]; exact hpos) (blk_bs hk3 sec_zeros)
    have hE2 : X1.1.writeE 1 (zerosB 32) = X2.2 := by rw [unhide HX3]
    have hD2 : X1.1.write 1 (zerosB 32) = X2.1 := by rw [unhide HX3]
    rw [hE2, hD2, length_zerosB] at hwr
    have HWR := hide hwr
    have HT3 := hide ((unhide HT2).trans (Turn.of_below hb3))
    clear hwr hk3 hb3 hE2 hD2 HX3 HT2 HR2
    go_wp2_with fail
    refine (unhide HWR).mono ?_
    rintro e w4 ⟨rfl, S4, hr4, ht4⟩
    have HR4 := hide hr4
    have HT4 := hide ((unhide HT3).trans ht4)
    clear hr4 ht4 HWR HT3
    by_cases hE2 : X2.2 = 0
    · have hx3 : andF X2 = (X2.1.doFlush, X2.1.flushE) := andF_ok hE2
      have hfl := rflush_any (unhide HR4) (by rw [(unhide HLL).2]; exact hpos)
      rw [← unhide HXF] at hx3
      have hE3 : X2.1.flushE = X3.2 := by rw [hx3]
      have hD3 : X2.1.doFlush = X3.1 := by rw [hx3]
      rw [hE3, hD3] at hfl
      have HFL := hide hfl
      rw [hE2]
      clear hfl hx3 hE3 hD3 hE2 HR4
      go_wp2_with fail
      refine (unhide HFL).mono ?_
      rintro e w5 ⟨rfl, hr5, ht5⟩
      have hres := unhide HFIN w5 S4 X3 hr5 ((unhide HT4).trans ht5)
      have HRES := hide hres
      clear hres hr5 ht5
      go_wp2
      go_ret2
      exact ⟨_, rfl, unhide HRES⟩
    · have hx3 : X3 = X2 := by rw [unhide HXF]; exact andF_stick hE2
      subst hx3
      have hres := unhide HFIN w4 S4 X3 (unhide HR4) (unhide HT4)
      have HRES := hide hres
      clear hres
      go_wp2
      go_ret2
      exact ⟨_, rfl, unhide HRES⟩
  · have hx2 : X2 = X1 := by rw [unhide HX2]; exact andW_stick hE1 _ _
    have hx3 : X3 = X1 := by rw [unhide HXF, hx2]; exact andF_stick hE1
    subst hx3
    have hres := unhide HFIN w2 S2 X3 (unhide HR2) (unhide HT2)
    have HRES := hide hres
    clear hres hx2 HX2
    go_wp2
    go_ret2
    exact ⟨_, rfl, unhide HRES⟩
end
end Go.Proofs.YtmphnhigohkaeaaDoor
/-! Contracts of the reference's pages: Commit, what is refused. (Part of the proof of PagesPlays.) -/
namespace Go.Proofs.YtmphnhigohkaeaaDoor
open Go.RowKit
set_option linter.unusedVariables false

theorem any_lt (l : List (Int × List Int)) (z : Int) (k : Nat) : (List.range k).any (fun j => (l.getD j (0, [])).1 == z) = true ↔ ∃ j, j < k ∧ (l.getD j (0, [])).1 = z := by
  rw [List.any_eq_true]
  constructor
  · rintro ⟨j, hj, hz⟩; exact ⟨j, List.mem_range.1 hj, by simpa using hz⟩
  · rintro ⟨j, hj, hz⟩; exact ⟨j, List.mem_range.2 hj, by simpa using hz⟩

theorem andW_len (x : DS × Int) (i : Int) (b : List Int) : (andW x i b).1.secs.length = x.1.secs.length := by
  unfold andW
  split
  · show (x.1.write i b).secs.length = _; rw [write_secs]
  · rfl
theorem andF_len (x : DS × Int) : (andF x).1.secs.length = x.1.secs.length := by
  unfold andF
  split
  · show x.1.doFlush.secs.length = _; rw [doFlush_len]
  · rfl
theorem wsF_len (x : DS × Int) (f : Nat → Int × List Int) : ∀ k, (wsF x f k).1.secs.length = x.1.secs.length
  | 0 => rfl
  | k + 1 => by
    show (andW (wsF x f k) _ _).1.secs.length = _
    rw [andW_len, wsF_len x f k]
theorem own_turn {w w' : World} {S S' : Nat → Prop} {base e size : Nat} {v : Value} {n : Nat} {xs : List Value} (h : w.ownsRow base e size v n xs) (ht : Turn S S' w w') (hn : ∀ g, v.ownBlock = some g → ¬ S g) : w'.ownsRow base e size v n xs ∧ ∀ g, v.ownBlock = some g → ¬ S' g :=
  ⟨ownsRow_same h (fun g hg => ht.block g (own_lt h g hg) (hn g hg)), fun g hg hs => hn g hg (ht.foot g (own_lt h g hg) hs)⟩
/-- How the reference's device stands while pages are committed, with the bytes of the mark beside it. -/
structure Rc (w0 w : World) (p q L : Nat) (s : Int) (S0 S : Nat → Prop) (X : DS × Int) (bv : Value) (ml : List Int) : Prop where
  ref : Ref w p S X.1
  pg : RpAt w q p s L
  out : ¬ S q
  turn : Turn S0 S w0 w
  own : OwnV w w0.heap.size bv ml
  nown : ∀ g, bv.ownBlock = some g → ¬ S g
theorem Rc.step {w0 w w' : World} {p q L : Nat} {s : Int} {S0 S S' : Nat → Prop} {X X' : DS × Int} {bv : Value} {ml : List Int} (h : Rc w0 w p q L s S0 S X bv ml) (hr : Ref w' p S' X'.1) (ht : Turn S S' w w') : Rc w0 w' p q L s S0 S' X' bv ml :=
  ⟨hr, (h.pg.turn ht h.out).1, (h.pg.turn ht h.out).2, h.turn.trans ht, (own_turn h.own ht h.nown).1, (own_turn h.own ht h.nown).2⟩
theorem Rc.below {w0 w w' : World} {p q L : Nat} {s : Int} {S0 S : Nat → Prop} {X : DS × Int} {bv : Value} {ml : List Int} (h : Rc w0 w p q L s S0 S X bv ml) (hb : Below w.heap.size w w') : Rc w0 w' p q L s S0 S X bv ml :=
  h.step (h.ref.below hb) (Turn.of_below hb)

theorem Rc.append {w0 w w' : World} {p q L : Nat} {s : Int} {S0 S : Nat → Prop} {X : DS × Int} {bv v' : Value} {ml ml' : List Int} {o : Obj} (h : Rc w0 w p q L s S0 S X bv ml) (hg : (w.alloc o).grownBy w' bv.ownBlock) (ho : OwnV w' w0.heap.size v' ml') (hat : v'.ownBlock = bv.ownBlock ∨ v'.ownBlock = some (w.alloc o).heap.size) : Rc w0 w' p q L s S0 S X v' ml' := by
  have hbl : ∀ k, k < w.heap.size → bv.ownBlock ≠ some k → w'.heap[k]? = w.heap[k]? := fun k hk hne => (hg.block k (by simp; omega) (fun e => hne e.symm)).trans (heap_alloc_old _ _ hk)
  have hsz : w.heap.size ≤ w'.heap.size := by have := hg.size; simp at this; omega
  refine ⟨h.ref.same hsz (fun k hk => hbl k (h.ref.lt k hk) (fun e => h.nown k e hk)), h.pg.same (hbl q h.pg.lt (own_ne h.own h.pg (by decide))), h.out, ?_, ho, fun g hgb hs => ?_⟩
  · refine ⟨hg.os.trans h.turn.os, hg.tape.trans h.turn.tape, hg.output.trans h.turn.output, Nat.le_trans h.turn.size hsz, fun k hk hn => ?_, h.turn.foot⟩
    rw [hbl k (Nat.lt_of_lt_of_le hk h.turn.size) (fun e => by have := own_block h.own k e; omega)]
    exact h.turn.block k hk hn
  · rcases hat with e | e
    · exact h.nown g (e.symm.trans hgb) hs
    · rw [e] at hgb
      have := h.ref.lt g hs
      have e2 := Option.some.inj hgb
      simp at e2
      omega

/-- Nothing in memory has turned. -/
def Qt (w w' : World) : Prop := Below w.heap.size w w' ∧ ∀ k : Nat, w'.heap[k]? = w.heap[k]?
theorem Qt.refl (w : World) : Qt w w := ⟨Below.refl _ _, fun _ => rfl⟩
theorem Qt.drewN {w w' : World} (h : Qt w w') (n : Nat) : Qt w (w'.drewN n) := ⟨below_drewN h.1 n, h.2⟩
theorem Qt.drew {w w' : World} (h : Qt w w') : Qt w w'.drew := ⟨⟨h.1.os, h.1.tape, h.1.output, h.1.size, h.1.block⟩, h.2⟩
theorem Qt.cell {w w' : World} (h : Qt w w') (a : Addr) : w'.cell? a = w.cell? a := World.cell?_of_block (h.2 a.block)

section
variable {w : World} {p q : Nat} {S : Nat → Prop} {D : DS} {s : Int} {L : Nat}
set_option maxRecDepth 100000 in
theorem rCommit_full (a : Option Addr) (n cap : Nat) (hn : 23 < n) (hm : n ≤ 140737488351232) :
    Calls Tryd.prog 11 #[.pointer (some ⟨q, 0, none⟩), .slice a n cap] w fun e w' => e = .returned (.int .i64 4) ∧ w = w' := by
  have hn' : 23 < (n : Int) := by omega
  go_enter Tryd.func11, Tryd.ntmps11
  go_wp2
  go_ret
  exact ⟨rfl, rfl⟩

set_option maxRecDepth 100000 in
theorem rCommit_nil (h : Ref w p S D) (hq : RpAt w q p s L) (a : Option Addr) (cap : Nat) :
    Calls Tryd.prog 11 #[.pointer (some ⟨q, 0, none⟩), .slice a 0 cap] w fun e w' => e = .returned (.int .i64 (if D.down then 9 else 0)) ∧ w = w' := by
  have c0 := hq.c0
  obtain ⟨sv, lv, left, h⟩ := h
  have c3 := h.c3
  clear h hq
  cases hd : D.down
  · rw [hd] at c3
    clear hd
    go_enter Tryd.func11, Tryd.ntmps11
    go_wp2_with fail
    go_loop [5] (fun v => v = .int .i64 0) (fun _ => 0)
    case atStart => rfl
    case round =>
      subst hrel
      go_wp2
      go_ret
      exact ⟨rfl, rfl⟩
  · rw [hd] at c3
    clear hd
    go_enter Tryd.func11, Tryd.ntmps11
    go_wp2_with fail
    go_loop [5] (fun v => v = .int .i64 0) (fun _ => 0)
    case atStart => rfl
    case round =>
      subst hrel
      go_wp2
      go_ret
      exact ⟨rfl, rfl⟩

set_option maxRecDepth 100000 in
set_option maxHeartbeats 8000000 in
theorem rCommit_some (h : Ref w p S D) (hq : RpAt w q p s L) (hqS : ¬ S q) (b off cap : Nat) (l : List (Int × List Int)) (hl : PgsO w S (some ⟨b, off, none⟩) cap l) (hbq : b ≠ q) (hne : l ≠ []) (hn : l.length ≤ 23) (hL48 : 48 + L ≤ D.secs.length) (hL2 : L ≤ 200) (h0 : 0 ≤ s) (h1 : s < 1000) :
    Calls Tryd.prog 11 #[.pointer (some ⟨q, 0, none⟩), .slice (some ⟨b, off, none⟩) l.length cap] w fun e w' => e = .returned (.int .i64 (commitOut D s L l).2.2) ∧ ∃ S', Ref w' p S' (commitOut D s L l).1 ∧ RpAt w' q p (commitOut D s L l).2.1 L ∧ ¬ S' q ∧ Turn (plus S q) (plus S' q) w w' := by
  obtain ⟨C1, e1⟩ : ∃ C1, C1 = andF (wsF (D, 0) (fun i => (2 + 23 * ((s + 1) % 2) + i, (l.getD i (0, [])).2)) l.length) := ⟨_, rfl⟩
  obtain ⟨C2, e2⟩ : ∃ C2, C2 = andF (andW C1 ((s + 1) % 2) (secL (s + 1) (markB l))) := ⟨_, rfl⟩
  obtain ⟨C3, e3⟩ : ∃ C3, C3 = andF (wsF C2 (fun i => (48 + (l.getD i (0, [])).1, (l.getD i (0, [])).2)) l.length) := ⟨_, rfl⟩
  have hce : commitE L l = chkK L l l.length := by unfold commitE; rw [if_neg (by omega)]
  have HRUN : Hid (chkK L l l.length = 0 → commitOut D s L l = (C3.1, if C3.2 = 0 then s + 1 else s, C3.2)) := hide (fun hz => by
    have hv := valid_of (show commitE L l = 0 by rw [hce]; exact hz)
    rw [commitOut_run (by rw [hce]; exact hz) hne (by omega) (by omega)]
    have hm : makeOut (s + 1) (markB l) = (secL (s + 1) (markB l), 0) := (mark_made hv (by omega) (by omega)).1
    have hB : commitB C1 ((s + 1) % 2) (s + 1) l = C2 := by
      unfold commitB
      by_cases hx : C1.2 = 0
      · rw [if_pos hx, hm, if_pos rfl, e2]
      · rw [if_neg hx, e2, andW_stick hx]
    have hrun : commitRun D s l = C3 := by
      unfold commitRun
      rw [show commitA D ((s + 1) % 2) l = C1 from e1.symm, hB, e3]
      rfl
    rw [hrun])
  have HDN : Hid (chkK L l l.length = 0 → D.down = true → commitOut D s L l = (D, s, 9)) := hide (fun hz hd => by unfold commitOut; rw [if_neg (by rw [hce, hz]; exact fun h => h rfl), if_pos hd])
  have HBD : Hid (chkK L l l.length ≠ 0 → commitOut D s L l = (D, s, chkK L l l.length)) := hide (fun hz => by unfold commitOut; rw [if_pos (by rw [hce]; exact hz), hce])
  have HVL : Hid (chkK L l l.length = 0 → Valid L l) := hide (fun hz => valid_of (by rw [hce]; exact hz))
  generalize hR : commitOut D s L l = R at *
  have HPO := hide hl
  obtain ⟨hl1, hl2, hl3⟩ := hl
  obtain ⟨b', off', e', hSb, hcell⟩ := hl3 hne
  simp only [Option.some.injEq, Addr.mk.injEq, and_true] at e'
  obtain ⟨rfl, rfl⟩ := e'
  have H := hide h
  have HQ := hide hq
  have HC := hide hcell
  have E1 := hide e1
  have E2 := hide e2
  have E3 := hide e3
  have hpos : 0 < l.length := List.length_pos_iff.2 hne
  have hblt : b < w.heap.size := block_lt_of_cell (hcell 0 hpos).1
  clear hcell hl3 hne hR hce e1 e2 e3 h hq
  generalize hN : l.length = N at *
  have HN := hide hN
  clear hN
  obtain ⟨K, hK⟩ : ∃ K, chkK L l N = K := ⟨_, rfl⟩
  rw [hK] at HRUN HDN HBD HVL
  have HK := hide hK
  clear hK
  go_enter Tryd.func11, Tryd.ntmps11
  go_upto_region 3 with fail
  go_cut [5] from 18 to 18 (fun v wx => v = .int .i64 0 ∧ wx = w)
  case first =>
    go_wp2
    go_meet
    case rel => exact ⟨rfl, rfl⟩
  case rest =>
    obtain ⟨rfl, rfl⟩ := hcut
    refine (‹∀ (a : Act) (w : World), Code.wp Tryd.prog (Code.block _ _) _ a w → _›) _ _ ?_
    go_cut [5] from 18 to 64 (fun v wx => K = 0 ∧ Qt wc wx)
    case first =>
      -- the check
      go_wp2_with fail
      go_loopw [5] (fun v wr => ∃ k : Nat, k ≤ N ∧ v = .int .i64 k ∧ Qt wc wr ∧ chkK L l k = 0) (fun v _ => N - (intOf v).toNat)
      case atStart => exact ⟨0, Nat.zero_le _, rfl, Qt.refl _, rfl⟩
      case round =>
        obtain ⟨k, hk, rfl, hwr, hz⟩ := hrel
        by_cases hlt : k < N
        · obtain ⟨c0, ab, capb, c1, hbs, _, hr1, hr2⟩ := unhide HC k hlt
          rw [← Nat.add_assoc] at c1
          have hblen := hbs.2.2.1
          have hch : chkK L l (k + 1) = pgFault L l k := by show (if chkK L l k = 0 then _ else _) = _; rw [if_pos hz]
          have hlate : pgFault L l k ≠ 0 → K = pgFault L l k := fun hp => by rw [← unhide HK, chkK_late (k := k + 1) (by rw [hch]; exact hp) N (by omega), hch]
          unfold pgFault at hch hlate
          have HCH := hide hch
          have HLT := hide hlate
          have HANY := hide (any_lt l (l.getD k (0, [])).1 k)
          have d0 : wr.cell? ⟨b, off + k * 2, none⟩ = some (.int .i64 (l.getD k (0, [])).1) := by rw [hwr.cell]; exact c0
          have d1 : wr.cell? ⟨b, off + k * 2 + 1, none⟩ = some (.slice ab (l.getD k (0, [])).2.length capb) := by rw [hwr.cell]; exact c1
          have d2 : wr.cell? ⟨q, 2, none⟩ = some (.int .i64 (L : Int)) := by rw [hwr.cell]; exact (unhide HQ).c2
          have HWR := hide hwr
          have HEND : Hid (∀ x, K ≠ 0 → ∃ S', Ref ((wr.drewN x)) p S' R.1 ∧ RpAt (wr.drewN x) q p R.2.1 L ∧ ¬ S' q ∧ Turn (plus S q) (plus S' q) wc (wr.drewN x)) := hide (fun x hk => by
            rw [unhide HBD hk]
            have hb : Below wc.heap.size wc (wr.drewN x) := (hwr.drewN x).1
            exact ⟨S, (unhide H).below hb, (unhide HQ).below hb, hqS, (Turn.of_below hb).plus q⟩)
          clear hz hbs hch hlate c0 c1 hwr
          generalize hzz : (l.getD k (0, [])).1 = z at *
          generalize (l.getD k (0, [])).2.length = bl at *
          generalize (List.range k).any (fun j => (l.getD j (0, [])).1 == z) = A at *
          have HZZ := hide hzz
          clear hzz
          by_cases hc1 : z < 0 ∨ (L : Int) ≤ z
          · have hK1 : K = 1 := by have := unhide HLT; rw [if_pos hc1] at this; exact this (by decide)
            have HK1 := hide hK1
            have hcc : z < 0 ∨ (¬ z < 0 ∧ (L : Int) ≤ z) := by omega
            clear HLT HCH hc1 hK1
            rcases hcc with g1 | ⟨g1, g2⟩
            all_goals
              go_wp2_with fail
              go_quiet (fail)
              go_wp2
              go_ret
              have hk1 := unhide HK1
              refine ⟨by rw [unhide HBD (by rw [hk1]; decide), hk1]; rfl, unhide HEND _ (by rw [hk1]; decide)⟩
          · have HLT2 := HLT
            have HCH2 := HCH
            rw [if_neg hc1] at HLT2 HCH2
            have g1 : ¬ z < 0 := by omega
            have g2 : ¬ (L : Int) ≤ z := by omega
            clear hc1
            go_wp2_with fail
            go_quiet (fail)
            have HWQ := hide ((unhide HWR).drewN nq)
            generalize wr.drewN nq = wq at *
            have b0 := ((unhide HWQ).cell ⟨b, off + k * 2, none⟩).trans (unhide HC k hlt).1
            have b1 : wq.cell? ⟨b, off + k * 2 + 1, none⟩ = some (.slice ab bl capb) := ((unhide HWQ).cell _).trans (((unhide HWR).cell _).symm.trans d1)
            rw [unhide HZZ] at b0
            have HEND2 : Hid (∀ wx, Qt wc wx → K ≠ 0 → ∃ S', Ref wx p S' R.1 ∧ RpAt wx q p R.2.1 L ∧ ¬ S' q ∧ Turn (plus S q) (plus S' q) wc wx) := hide (fun wx hqt hk => by
              rw [unhide HBD hk]
              exact ⟨S, (unhide H).below hqt.1, (unhide HQ).below hqt.1, hqS, (Turn.of_below hqt.1).plus q⟩)
            clear d0 d1 d2 HEND HLT HCH
            by_cases hc2 : bl ≠ 32
            · have hK3 : K = 3 := by have := unhide HLT2; rw [if_pos hc2] at this; exact this (by decide)
              have HK3 := hide hK3
              have hc2' : ¬ (bl : Int) = 32 := by omega
              clear HLT2 HCH2 hc2 hK3
              go_wp2
              go_ret
              have hk1 := unhide HK3
              exact ⟨by rw [unhide HBD (by rw [hk1]; decide), hk1]; rfl, unhide HEND2 _ (unhide HWQ) (by rw [hk1]; decide)⟩
            · rw [if_neg hc2] at HLT2 HCH2
              obtain rfl : bl = 32 := by omega
              clear hc2
              go_wp2_with fail
              go_loopw [6] (fun v wr => ∃ j : Nat, j ≤ k ∧ v = .int .i64 j ∧ Qt wc wr ∧ ∀ i, i < j → (l.getD i (0, [])).1 ≠ z) (fun v _ => k - (intOf v).toNat)
              case atStart => exact ⟨0, Nat.zero_le _, rfl, unhide HWQ, fun i hi => absurd hi (Nat.not_lt_zero i)⟩
              case round =>
                obtain ⟨j, hj, rfl, hqt, hall⟩ := hrel
                by_cases hjk : j < k
                · have j0 := (hqt.cell ⟨b, off + j * 2, none⟩).trans (unhide HC j (by omega)).1
                  have k0 := (hqt.cell ⟨b, off + k * 2, none⟩).trans (unhide HC k hlt).1
                  rw [unhide HZZ] at k0
                  have HQT := hide hqt
                  have HALL := hide hall
                  have HIN : Hid ((l.getD j (0, [])).1 = z → A = true) := hide (fun e => (unhide HANY).2 ⟨j, hjk, e⟩)
                  clear hqt hall b0 b1
                  generalize hjj : (l.getD j (0, [])).1 = zj at *
                  have HJJ := hide hjj
                  clear hjj
                  have e1 : (j : Int) < (N : Int) := by omega
                  have e2 : (k : Int) < (N : Int) := by omega
                  by_cases hzj : zj = z
                  · have hA := unhide HIN hzj
                    have hK7 : K = 7 := by have := unhide HLT2; rw [if_pos hA] at this; exact this (by decide)
                    have HK7 := hide hK7
                    clear hK7 hA HLT2 HCH2
                    subst hzj
                    go_wp2_with fail
                    go_quiet (fail)
                    go_wp2
                    go_ret
                    have hk1 := unhide HK7
                    exact ⟨by rw [unhide HBD (by rw [hk1]; decide), hk1]; rfl, unhide HEND2 _ ((unhide HQT).drewN _) (by rw [hk1]; decide)⟩
                  · have HZJ := hide hzj
                    go_wp2_with fail
                    go_quiet (fail)
                    go_wp2
                    go_roundw
                    case rel => exact ⟨j + 1, by omega, by go_num, (unhide HQT).drewN _, fun i hi => by
                      by_cases e : i = j
                      · subst e; rw [unhide HJJ]; exact unhide HZJ
                      · exact unhide HALL i (by omega)⟩
                    case measure => simp [intOf]; omega
                · obtain rfl : j = k := by omega
                  have hA : ¬ A = true := fun hA => by
                    obtain ⟨i, hi, he⟩ := (unhide HANY).1 hA
                    exact hall i hi he
                  have hc0 := unhide HCH2
                  rw [if_neg hA] at hc0
                  have HC0 := hide hc0
                  have HQT := hide hqt
                  clear hA hc0 hqt hall HLT2 HCH2
                  go_wp2
                  go_roundw
                  case rel => exact ⟨j + 1, by omega, by go_num, unhide HQT, unhide HC0⟩
                  case measure => simp [intOf]; omega
        · obtain rfl : k = N := by omega
          have hK0 : K = 0 := by rw [← unhide HK]; exact hz
          have HK0 := hide hK0
          have HW2 := hide hwr
          clear hz hK0 hwr
          go_wp2
          go_meet
          case rel => exact ⟨unhide HK0, unhide HW2⟩
      -- behind it
    case rest =>
      obtain ⟨hK0, hqt⟩ := hcut
      have hr := (unhide H).below hqt.1
      have hpg := (unhide HQ).below hqt.1
      have q0 := hpg.c0
      have q1 := hpg.c1
      have hc3 : wc.cell? ⟨p, 3, none⟩ = some (.bool D.down) := by
        obtain ⟨sv, lv, left, hh⟩ := hr
        exact hh.c3
      have hval := unhide HVL hK0
      by_cases hd : D.down = true
      · rw [hd] at hc3
        have hRR := unhide HDN hK0 hd
        have HR := hide hr
        have HPG := hide hpg
        have HQT := hide hqt
        clear hr hpg hqt HRUN HBD HDN
        go_wp2
        go_ret
        rw [hRR]
        exact ⟨rfl, S, unhide HR, unhide HPG, hqS, (Turn.of_below (unhide HQT).1).plus q⟩
      · rw [show D.down = false by simpa using hd] at hc3
        have hRR := unhide HRUN hK0
        have HRR := hide hRR
        have hpo := (unhide HPO).below hqt.1
        have HCW : Hid (∀ wx Sx, Turn S Sx wc wx → ∀ i, i < N → wx.cell? ⟨b, off + i * 2, none⟩ = some (.int .i64 (l.getD i (0, [])).1) ∧ ∃ ab capb, wx.cell? ⟨b, off + i * 2 + 1, none⟩ = some (.slice ab (l.getD i (0, [])).2.length capb) ∧ Bs wx ab capb (l.getD i (0, [])).2) := hide (fun wx Sx ht i hi => by
          obtain ⟨_, _, h3⟩ := hpo.turn ht
          obtain ⟨b', off', e', _, hc⟩ := h3 (by intro e; have := unhide HN; rw [e] at this; simp at this; omega)
          simp only [Option.some.injEq, Addr.mk.injEq, and_true] at e'
          obtain ⟨rfl, rfl⟩ := e'
          obtain ⟨c0, ab, capb, c1, hbs, _⟩ := hc i (by rw [unhide HN]; exact hi)
          rw [← Nat.add_assoc] at c1
          exact ⟨c0, ab, capb, c1, hbs⟩)
        have HNB : Hid (∀ i, i < N → 0 ≤ (l.getD i (0, [])).1 ∧ (l.getD i (0, [])).1 ≤ 255) := hide (fun i hi => by have := hval.num i (by rw [unhide HN]; exact hi); omega)
        have HMB : Hid (markL (l.map (·.1)) N = markB l) := hide (by
          unfold markL markB
          rw [List.take_of_length_le (by rw [List.length_map, unhide HN]; exact Nat.le_refl _), List.length_map])
        have HMS : Hid (∀ k, k < N → markL (l.map (·.1)) (k + 1) = markL (l.map (·.1)) k ++ [(l.getD k (0, [])).1]) := hide (fun k hk => by rw [markL_succ (by rw [List.length_map, unhide HN]; exact hk), getD_nums l (by rw [unhide HN]; exact hk)])
        have HM0 : Hid (markL (l.map (·.1)) 0 = [(N : Int)]) := hide (by unfold markL; rw [List.length_map, unhide HN]; rfl)
        have HML : Hid (∀ k, k ≤ N → (markL (l.map (·.1)) k).length = k + 1) := hide (fun k hk => by unfold markL; simp; rw [unhide HN]; omega)
        have HBM : Hid (Byt (markB l)) := hide (byt_markB hval hL2)
        have HLMB : Hid ((markB l).length = N + 1) := hide (by rw [length_markB, unhide HN])
        generalize l.map (·.1) = nums at *
        have hRf := hide hr
        have HPG := hide hpg
        have HQT := hide hqt
        have hlenD : 0 < D.secs.length := by omega
        clear hr hpg hqt HBD HDN HRUN hval hpo HVL HK HC H HQ hRR
        obtain ⟨i0, hi0, hz0, hz1, hz2⟩ := info_parts info_u8
        have hN255 : (N : Int) ≤ 255 := by omega
        have hsm : (s + 1) % 2 = 0 ∨ (s + 1) % 2 = 1 := by omega
        obtain ⟨W, hW⟩ : ∃ W : Nat → DS × Int, W = wsF (D, 0) (fun i => (2 + 23 * ((s + 1) % 2) + i, (l.getD i (0, [])).2)) := ⟨_, rfl⟩
        have HW0 : Hid (W 0 = (D, 0)) := hide (by rw [hW]; rfl)
        have HWS : Hid (∀ k, W (k + 1) = andW (W k) (2 + 23 * ((s + 1) % 2) + k) (l.getD k (0, [])).2) := hide (fun k => by rw [hW]; rfl)
        have HWL : Hid (∀ k, (W k).1.secs.length = D.secs.length) := hide (fun k => by rw [hW]; exact wsF_len _ _ k)
        have HC1 : Hid (C1 = andF (W N)) := hide (by rw [hW]; exact unhide E1)
        clear hW E1
        generalize hwA : wc = wA at *
        clear hwA
        have hnz : ((N : Int) == 0) = false := by simp; omega
        go_upto_region 23 with fail
        generalize (s + 1) % 2 = sd at *
        have sd0 : 0 ≤ sd := by omega
        have sd1 : sd ≤ 1 := by omega
        have hrc0 : Rc wA (wA.alloc (.cells #[.int .u8 (N : Int)] 5)) p q L s S S (W 0) (.slice (some ⟨wA.heap.size, 0, none⟩) 1 1) (markL nums 0) := by
          have hb : Below wA.heap.size wA (wA.alloc (.cells #[.int .u8 (N : Int)] 5)) := (Below.refl _ _).alloc (Nat.le_refl _) _
          refine ⟨by rw [unhide HW0]; exact (unhide hRf).below hb, (unhide HPG).below hb, hqS, Turn.of_below hb, ?_, fun g hg hs => ?_⟩
          · rw [unhide HM0]; exact own_byte (Nat.le_refl _) (heap_alloc_new _ _)
          · have := (unhide hRf).lt g hs
            simp [Value.ownBlock] at hg
            omega
        have HRC0 := hide hrc0
        clear hrc0 hRf HPG
        go_cut [11] from 86 to 86 (fun v wx => v = .int .i64 0 ∧ wx = wA.alloc (.cells #[.int .u8 (N : Int)] 5))
        case first =>
          go_wp2
          go_meet
          case rel => exact ⟨rfl, rfl⟩
        case rest =>
          obtain ⟨rfl, rfl⟩ := hcut
          refine (‹∀ (a : Act) (w : World), Code.wp Tryd.prog (Code.block _ _) _ a w → _›) _ _ ?_
          go_cut [9, 10, 11] from 86 to 117 (fun u v _ wx => ∃ S3, v = .int .i64 (W N).2 ∧ Rc wA wx p q L s S S3 (W N) u (markB l))
          case first =>
            go_wp2_with fail
            go_loopw [9, 10, 11] (fun u v x wr => ∃ (k : Nat) (S3 : Nat → Prop), k ≤ N ∧ x = .int .i64 k ∧ v = .int .i64 (W k).2 ∧ Rc wA wr p q L s S S3 (W k) u (markL nums k)) (fun _ _ x _ => N - (intOf x).toNat)
            case atStart => exact ⟨0, S, Nat.zero_le _, rfl, by rw [unhide HW0], unhide HRC0⟩
            case round =>
              obtain ⟨k, S3, hk, rfl, rfl, hrc⟩ := hrel
              clear HRC0
              by_cases hlt : k < N
              · obtain ⟨c0, ab, capb, c1, hbs⟩ := unhide HCW wr S3 hrc.turn k hlt
                obtain ⟨z0, z1⟩ := unhide HNB k hlt
                have hown := hrc.own
                unfold OwnV at hown
                rw [unhide HML k hk] at hown
                have HO := hide (World.ownsRow.alloc hown (.cells #[.int .u8 (l.getD k (0, [])).1] 5))
                have HSU := hide (unhide HMS k hlt)
                have hlk := unhide HML (k + 1) (by omega)
                have hsz := hrc.turn.size
                have HRC := hide hrc
                have HWK := hide (unhide HWS k)
                have hpos1 : 0 < (W k).1.secs.length := by rw [unhide HWL k]; exact hlenD
                clear hown hbs hrc c1
                generalize (l.getD k (0, [])).1 = z at *
                go_wp2_with (at_builtin; refine wpList_append_own_at _ rfl _ _ 41 rfl wA.heap.size 5 i0 (.int .u8 0) 1 1 Tryd.underlying41 hi0 hz0 hz1 hz2 rfl (by decide) _ _ _ rfl (unhide HO) ⟨wr.heap.size, 0, none⟩ 1 1 [.int .u8 z] rfl rfl (cell_one1 _ _ _) (oneCell_u8 [z]) (by unfold maxLen; omega) (by omega) (by simp; omega) ?_)
                intro v9 w9 hown9 hgrow9 _ hat9
                have ho9 : OwnV w9 wA.heap.size v9 (markL nums (k + 1)) := by
                  unfold OwnV
                  rw [hlk, unhide HSU, List.map_append]
                  exact hown9
                have hrc9 := (unhide HRC).append hgrow9 ho9 (by rw [size_alloc]; exact hat9)
                obtain ⟨_, ab2, capb2, c1, hbs2⟩ := unhide HCW w9 S3 hrc9.turn k hlt
                have q09 := hrc9.pg.c0
                have hwr : ∀ wx, Qt w9 wx → Calls Tryd.prog 34 #[.pointer (some ⟨p, 0, none⟩), .int .i64 (2 + 23 * sd + k), .slice ab2 (l.getD k (0, [])).2.length capb2] wx fun e w' => e = .returned (.int .i64 ((W k).1.writeE (2 + 23 * sd + k) (l.getD k (0, [])).2)) ∧ ∃ S4, Ref w' p S4 ((W k).1.write (2 + 23 * sd + k) (l.getD k (0, [])).2) ∧ Turn S3 S4 w9 w' := fun wx hx =>
                  (rwrite_any (2 + 23 * sd + k) ab2 capb2 (l.getD k (0, [])).2 (hrc9.ref.below hx.1) hpos1 (hbs2.below hx.1)).mono fun e w' ⟨he, S4, hr, ht⟩ => ⟨he, S4, hr, (Turn.of_below hx.1).trans ht⟩
                have HNSB : Hid (¬ S3 b) := hide (fun hs => hSb (hrc9.turn.foot b (by have := (unhide HQT).1.size; omega) hs))
                have HWR := hide hwr
                have HRC9 := hide hrc9
                clear hown9 hgrow9 hat9 ho9 hrc9 hwr hbs2 HO HRC HSU hlk
                generalize (l.getD k (0, [])).2 = bd at *
                have HLB : Hid (∃ bl, bd.length = bl) := hide ⟨_, rfl⟩
                obtain ⟨bl, hbl⟩ := unhide HLB
                rw [hbl] at c1 HWR
                clear hbl HLB
                by_cases hE : (W k).2 = 0
                · have hW1 : W (k + 1) = ((W k).1.write (2 + 23 * sd + k) bd, (W k).1.writeE (2 + 23 * sd + k) bd) := by rw [unhide HWK]; exact andW_ok hE _ _
                  rw [hE]
                  have HW1 := hide hW1
                  have HWP : Hid (IntKind.i64.wrap (IntKind.i64.wrap (2 + IntKind.i64.wrap (23 * sd)) + (k : Int)) = 2 + 23 * sd + k) := hide (by simp only [IntKind.wrap_i64]; omega)
                  clear hW1 hE
                  go_wp2_with fail
                  go_region_held3 (fun w' => w'.cell? ⟨q, 0, none⟩ = some (.pointer (some ⟨p, 0, none⟩)) ∧ w'.cell? ⟨b, off + k * 2 + 1, none⟩ = some (.slice ab2 bl capb2)) (first | go_keep | (go_split_ands; refine ⟨?_, ?_⟩ <;> go_keep))
                    (first | (go_at_call 34; rw [unhide HWP]; refine (unhide HWR _ (by exact ⟨⟨rfl, rfl, rfl, Nat.le_refl _, fun _ _ => rfl⟩, fun _ => rfl⟩)).mono ?_; rintro e wb ⟨rfl, S4, hr4, ht4⟩; have hrcb := (unhide HRC9).step (X' := W (k + 1)) (by rw [unhide HW1]; exact hr4) ht4; have rb1 := hrcb.pg.c0; have rb2 : wb.cell? ⟨b, off + k * 2 + 1, none⟩ = some (.slice ab2 bl capb2) := (by exact (World.cell?_of_block (a := ⟨b, off + k * 2 + 1, none⟩) (ht4.block b (block_lt_of_cell c1) (unhide HNSB))).trans c1)))
                  all_goals
                    go_wp2
                    go_roundw
                    case rel => first | exact ⟨k + 1, S4, by omega, by go_num, by rw [unhide HW1], hrcb⟩ | ((repeat apply Exists.intro); exact ⟨⟨k + 1, S4, by omega, by go_num, by rw [unhide HW1], hrcb⟩, rfl⟩)
                    case measure => simp [intOf]; omega
                · have hW1 : W (k + 1) = W k := by rw [unhide HWK]; exact andW_stick hE _ _
                  have HW1 := hide hW1
                  clear hW1
                  go_wp2
                  go_roundw
                  case rel => first | exact ⟨k + 1, S3, by omega, by go_num, by rw [unhide HW1], by rw [unhide HW1]; exact unhide HRC9⟩ | ((repeat apply Exists.intro); exact ⟨⟨k + 1, S3, by omega, by go_num, by rw [unhide HW1], by rw [unhide HW1]; exact unhide HRC9⟩, rfl⟩)
                  case measure => simp [intOf]; omega
              · obtain rfl : k = N := by omega
                have HRC := hide hrc
                clear hrc
                go_wp2
                go_meet
                case rel => exact ⟨S3, rfl, by rw [← unhide HMB]; exact unhide HRC⟩
          case rest =>
            obtain ⟨S3, rfl, hrc⟩ := hcut
            clear HWS HW0 HMS HM0 HML HRC0 HMB
            have hp0 : 0 < (W N).1.secs.length := by rw [unhide HWL N]; exact hlenD
            have hp1 : 0 < C1.1.secs.length := by rw [unhide HC1, andF_len]; exact hp0
            obtain ⟨CM, hCM⟩ : ∃ CM, CM = andW C1 sd (secL (s + 1) (markB l)) := ⟨_, rfl⟩
            have hpM : 0 < CM.1.secs.length := by rw [hCM, andW_len]; exact hp1
            have HC2 : Hid (C2 = andF CM) := hide (by rw [hCM]; exact unhide E2)
            have hp2 : 0 < C2.1.secs.length := by rw [unhide HC2, andF_len]; exact hpM
            have HCM := hide hCM
            clear hCM E2 HWL
            generalize W N = X0 at *
            have HX := hide hrc
            clear hrc
            go_upto_if 119 with fail
            go_cut [10] from 117 to 126 (fun v wx => ∃ S4, v = .int .i64 C1.2 ∧ Rc wA wx p q L s S S4 C1 u9 (markB l))
            case first =>
              by_cases hE : X0.2 = 0
              · have hx : C1 = (X0.1.doFlush, X0.1.flushE) := by rw [unhide HC1]; exact andF_ok hE
                have hq0 := (unhide HX).pg.c0
                have HFL := hide (rflush_any (unhide HX).ref hp0)
                have HXX := hide hx
                rw [hE]
                clear hx hE
                go_wp2_with fail
                refine (unhide HFL).mono ?_
                rintro e wb ⟨rfl, hr4, ht4⟩
                have HST := hide ((unhide HX).step (X' := C1) (by rw [unhide HXX]; exact hr4) ht4)
                clear hr4 ht4 HFL
                go_wp2
                go_meet
                case rel => exact ⟨S3, by rw [unhide HXX], unhide HST⟩
              · have hx : C1 = X0 := by rw [unhide HC1]; exact andF_stick hE
                have hb : (X0.2 == 0) = false := by simp; exact hE
                have HXX := hide hx
                clear hx
                go_wp2
                go_meet
                case rel => exact ⟨S3, by rw [unhide HXX], by rw [unhide HXX]; exact unhide HX⟩
            case rest =>
              obtain ⟨S4, rfl, hrc⟩ := hcut
              obtain ⟨a4, c4, hu9, hbs4⟩ := hrc.own.bs (unhide HBM) (by rw [unhide HLMB]; omega)
              have hmk := rMake_any (s + 1) a4 c4 (markB l) wc hbs4
              have hmo : makeOut (s + 1) (markB l) = (secL (s + 1) (markB l), 0) := by
                unfold makeOut
                rw [if_neg (by omega), if_neg (by rw [unhide HLMB]; omega)]
              rw [hmo, unhide HLMB] at hmk
              rw [unhide HLMB] at hu9
              subst hu9
              have HMK := hide hmk
              have HX1 := hide hrc
              have hsl : (secL (s + 1) (markB l)).length = 32 := length_secL _ _ (by rw [unhide HLMB]; omega)
              clear hmk hmo hbs4 hrc
              go_wp2_with fail
              refine (unhide HMK).mono ?_
              rintro e w5 ⟨a5, c5, rfl, hb5, hbel5⟩
              try dsimp only at hb5
              try dsimp only
              rw [hsl]
              have HX5 := hide ((unhide HX1).below hbel5)
              have HB5 := hide hb5
              clear hb5 hbel5 HMK
              go_upto_if 132 with fail
              go_cut [10] from 117 to 133 (fun v wx => v = .int .i64 C1.2 ∧ wx = w5)
              case first =>
                by_cases hE : C1.2 = 0
                · rw [hE]
                  go_wp2
                  go_meet
                  case rel => exact ⟨by rw [hE], rfl⟩
                · have hb : (C1.2 == 0) = false := by simp; exact hE
                  go_wp2
                  go_meet
                  case rel => exact ⟨rfl, rfl⟩
              case rest =>
                obtain ⟨rfl, rfl⟩ := hcut
                go_upto_if 135 with fail
                go_cut [10] from 117 to 143 (fun v wx => ∃ S6, v = .int .i64 CM.2 ∧ Rc wA wx p q L s S S6 CM (.slice a4 (N + 1) c4) (markB l))
                case first =>
                  by_cases hE : C1.2 = 0
                  · have hx : CM = (C1.1.write sd (secL (s + 1) (markB l)), C1.1.writeE sd (secL (s + 1) (markB l))) := by rw [unhide HCM]; exact andW_ok hE _ _
                    have hq0 := (unhide HX5).pg.c0
                    have hwr := rwrite_any sd a5 c5 (secL (s + 1) (markB l)) (unhide HX5).ref hp1 (unhide HB5)
                    rw [hsl] at hwr
                    have HWR := hide hwr
                    have HXX := hide hx
                    rw [hE]
                    clear hx hE hwr
                    go_wp2_with fail
                    refine (unhide HWR).mono ?_
                    rintro e wb ⟨rfl, S6, hr4, ht4⟩
                    have HST := hide ((unhide HX5).step (X' := CM) (by rw [unhide HXX]; exact hr4) ht4)
                    clear hr4 ht4 HWR
                    go_wp2
                    go_meet
                    case rel => exact ⟨S6, by rw [unhide HXX], unhide HST⟩
                  · have hx : CM = C1 := by rw [unhide HCM]; exact andW_stick hE _ _
                    have hb : (C1.2 == 0) = false := by simp; exact hE
                    have HXX := hide hx
                    clear hx
                    go_wp2
                    go_meet
                    case rel => exact ⟨S4, by rw [unhide HXX], by rw [unhide HXX]; exact unhide HX5⟩
                case rest =>
                  obtain ⟨S6, rfl, hrc⟩ := hcut
                  have HX6 := hide hrc
                  clear hrc HX5 HB5 HX1 HX
                  go_upto_if 144 with fail
                  go_cut [10] from 117 to 151 (fun v wx => ∃ S4, v = .int .i64 C2.2 ∧ Rc wA wx p q L s S S4 C2 (.slice a4 (N + 1) c4) (markB l))
                  case first =>
                    by_cases hE : CM.2 = 0
                    · have hx : C2 = (CM.1.doFlush, CM.1.flushE) := by rw [unhide HC2]; exact andF_ok hE
                      have hq0 := (unhide HX6).pg.c0
                      have HFL := hide (rflush_any (unhide HX6).ref hpM)
                      have HXX := hide hx
                      rw [hE]
                      clear hx hE
                      go_wp2_with fail
                      refine (unhide HFL).mono ?_
                      rintro e wb ⟨rfl, hr4, ht4⟩
                      have HST := hide ((unhide HX6).step (X' := C2) (by rw [unhide HXX]; exact hr4) ht4)
                      clear hr4 ht4 HFL
                      go_wp2
                      go_meet
                      case rel => exact ⟨S6, by rw [unhide HXX], unhide HST⟩
                    · have hx : C2 = CM := by rw [unhide HC2]; exact andF_stick hE
                      have hb : (CM.2 == 0) = false := by simp; exact hE
                      have HXX := hide hx
                      clear hx
                      go_wp2
                      go_meet
                      case rel => exact ⟨S6, by rw [unhide HXX], by rw [unhide HXX]; exact unhide HX6⟩
                  case rest =>
                    obtain ⟨S7, rfl, hrc⟩ := hcut
                    obtain ⟨V, hV⟩ : ∃ V : Nat → DS × Int, V = wsF C2 (fun i => (48 + (l.getD i (0, [])).1, (l.getD i (0, [])).2)) := ⟨_, rfl⟩
                    have HV0 : Hid (V 0 = C2) := hide (by rw [hV]; rfl)
                    have HVS : Hid (∀ k, V (k + 1) = andW (V k) (48 + (l.getD k (0, [])).1) (l.getD k (0, [])).2) := hide (fun k => by rw [hV]; rfl)
                    have HVL : Hid (∀ k, 0 < (V k).1.secs.length) := hide (fun k => by rw [hV, wsF_len]; exact hp2)
                    have HVT : Hid (∀ j k, (V k).2 ≠ 0 → V (k + j) = V k) := hide (fun j => by
                      induction j with
                      | zero => intro k h; rfl
                      | succ j ih => intro k h; rw [← Nat.add_assoc, unhide HVS (k + j), ih k h]; exact andW_stick h _ _)
                    have HC3 : Hid (C3 = andF (V N)) := hide (by rw [hV]; exact unhide E3)
                    have HX7 := hide hrc
                    clear hrc HX6 hV E3 HC1 HC2 HCM hsl
                    generalize hwB : wc = wB at *
                    clear hwB
                    go_upto_region 38 with fail
                    go_cut [14] from 150 to 150 (fun v wx => v = .int .i64 0 ∧ wx = wB)
                    case first =>
                      go_wp2
                      go_meet
                      case rel => exact ⟨rfl, rfl⟩
                    case rest =>
                      obtain ⟨rfl, rfl⟩ := hcut
                      refine (‹∀ (a : Act) (w : World), Code.wp Tryd.prog (Code.block _ _) _ a w → _›) _ _ ?_
                      go_cut [10, 14] from 150 to 175 (fun v _ wx => ∃ S8, v = .int .i64 (V N).2 ∧ Rc wA wx p q L s S S8 (V N) (.slice a4 (N + 1) c4) (markB l))
                      case first =>
                        go_wp2_with fail
                        go_loopw [10, 14] (fun v x wr => ∃ (k : Nat) (S8 : Nat → Prop), k ≤ N ∧ x = .int .i64 k ∧ v = .int .i64 (V k).2 ∧ Rc wA wr p q L s S S8 (V k) (.slice a4 (N + 1) c4) (markB l)) (fun _ x _ => N - (intOf x).toNat)
                        case atStart => exact ⟨0, S7, Nat.zero_le _, rfl, by rw [unhide HV0], by rw [unhide HV0]; exact unhide HX7⟩
                        case round =>
                          obtain ⟨k, S8, hk, rfl, rfl, hrc⟩ := hrel
                          clear HX7
                          by_cases hlt : k < N
                          · by_cases hE : (V k).2 = 0
                            · obtain ⟨c0, ab, capb, c1, hbs⟩ := unhide HCW wr S8 hrc.turn k hlt
                              obtain ⟨z0, z1⟩ := unhide HNB k hlt
                              have q09 := hrc.pg.c0
                              have hW1 : V (k + 1) = ((V k).1.write (48 + (l.getD k (0, [])).1) (l.getD k (0, [])).2, (V k).1.writeE (48 + (l.getD k (0, [])).1) (l.getD k (0, [])).2) := by rw [unhide HVS k]; exact andW_ok hE _ _
                              have hwr : ∀ wx, Qt wr wx → Calls Tryd.prog 34 #[.pointer (some ⟨p, 0, none⟩), .int .i64 (48 + (l.getD k (0, [])).1), .slice ab (l.getD k (0, [])).2.length capb] wx fun e w' => e = .returned (.int .i64 ((V k).1.writeE (48 + (l.getD k (0, [])).1) (l.getD k (0, [])).2)) ∧ ∃ S9, Ref w' p S9 ((V k).1.write (48 + (l.getD k (0, [])).1) (l.getD k (0, [])).2) ∧ Turn S8 S9 wr w' := fun wx hx =>
                                (rwrite_any (48 + (l.getD k (0, [])).1) ab capb (l.getD k (0, [])).2 (hrc.ref.below hx.1) (unhide HVL k) (hbs.below hx.1)).mono fun e w' ⟨he, S9, hr, ht⟩ => ⟨he, S9, hr, (Turn.of_below hx.1).trans ht⟩
                              have HNSB : Hid (¬ S8 b) := hide (fun hs => hSb (hrc.turn.foot b (by have := (unhide HQT).1.size; omega) hs))
                              have HWR := hide hwr
                              have HRC9 := hide hrc
                              have HW1 := hide hW1
                              clear hrc hwr hbs hW1
                              generalize (l.getD k (0, [])).1 = z at *
                              generalize (l.getD k (0, [])).2 = bd at *
                              have HLB : Hid (∃ bl, bd.length = bl) := hide ⟨_, rfl⟩
                              obtain ⟨bl, hbl⟩ := unhide HLB
                              rw [hbl] at c1 HWR
                              clear hbl HLB
                              rw [hE]
                              have HWP : Hid (IntKind.i64.wrap (48 + z) = 48 + z) := hide (by simp only [IntKind.wrap_i64]; omega)
                              clear hE
                              go_wp2_with fail
                              go_region_held3 (fun w' => w'.cell? ⟨q, 0, none⟩ = some (.pointer (some ⟨p, 0, none⟩)) ∧ w'.cell? ⟨b, off + k * 2, none⟩ = some (.int .i64 z) ∧ w'.cell? ⟨b, off + k * 2 + 1, none⟩ = some (.slice ab bl capb)) (first | go_keep | (go_split_ands; refine ⟨?_, ?_, ?_⟩ <;> go_keep))
                                (first | (go_at_call 34; rw [unhide HWP]; refine (unhide HWR _ (by exact ⟨⟨rfl, rfl, rfl, Nat.le_refl _, fun _ _ => rfl⟩, fun _ => rfl⟩)).mono ?_; rintro e wb ⟨rfl, S9, hr4, ht4⟩; have hrcb := (unhide HRC9).step (X' := V (k + 1)) (by rw [unhide HW1]; exact hr4) ht4; have rb1 := hrcb.pg.c0; have rb0 : wb.cell? ⟨b, off + k * 2, none⟩ = some (.int .i64 z) := (by exact (World.cell?_of_block (a := ⟨b, off + k * 2, none⟩) (ht4.block b (block_lt_of_cell c1) (unhide HNSB))).trans c0); have rb2 : wb.cell? ⟨b, off + k * 2 + 1, none⟩ = some (.slice ab bl capb) := (by exact (World.cell?_of_block (a := ⟨b, off + k * 2 + 1, none⟩) (ht4.block b (block_lt_of_cell c1) (unhide HNSB))).trans c1)))
                              all_goals
                                go_wp2
                                go_roundw
                                case rel => first | exact ⟨k + 1, S9, by omega, by go_num, by rw [unhide HW1], hrcb⟩ | ((repeat apply Exists.intro); exact ⟨⟨k + 1, S9, by omega, by go_num, by rw [unhide HW1], hrcb⟩, rfl⟩)
                                case measure => simp [intOf]; omega
                            · have hb : ((V k).2 == 0) = false := by simp; exact hE
                              have hst : V N = V k := by
                                have := unhide HVT (N - k) k hE
                                rwa [show k + (N - k) = N by omega] at this
                              have HST := hide hst
                              have HRC := hide hrc
                              clear hrc hst
                              go_wp2
                              go_meet
                              case rel => exact ⟨S8, by rw [unhide HST], by rw [unhide HST]; exact unhide HRC⟩
                          · obtain rfl : k = N := by omega
                            have HRC := hide hrc
                            clear hrc
                            go_wp2
                            go_meet
                            case rel => exact ⟨S8, rfl, unhide HRC⟩
                      case rest =>
                        obtain ⟨S8, rfl, hrc⟩ := hcut
                        have hpV := unhide HVL N
                        have HX8 := hide hrc
                        clear hrc HVS HV0 HVL HVT HX7 HCW HNB
                        generalize V N = X8 at *
                        go_upto_if 177 with fail
                        go_cut [10] from 150 to 184 (fun v wx => ∃ S4, v = .int .i64 C3.2 ∧ Rc wA wx p q L s S S4 C3 (.slice a4 (N + 1) c4) (markB l))
                        case first =>
                          by_cases hE : X8.2 = 0
                          · have hx : C3 = (X8.1.doFlush, X8.1.flushE) := by rw [unhide HC3]; exact andF_ok hE
                            have hq0 := (unhide HX8).pg.c0
                            have HFL := hide (rflush_any (unhide HX8).ref hpV)
                            have HXX := hide hx
                            rw [hE]
                            clear hx hE
                            go_wp2_with fail
                            refine (unhide HFL).mono ?_
                            rintro e wb ⟨rfl, hr4, ht4⟩
                            have HST := hide ((unhide HX8).step (X' := C3) (by rw [unhide HXX]; exact hr4) ht4)
                            clear hr4 ht4 HFL
                            go_wp2
                            go_meet
                            case rel => exact ⟨S8, by rw [unhide HXX], unhide HST⟩
                          · have hx : C3 = X8 := by rw [unhide HC3]; exact andF_stick hE
                            have hb : (X8.2 == 0) = false := by simp; exact hE
                            have HXX := hide hx
                            clear hx
                            go_wp2
                            go_meet
                            case rel => exact ⟨S8, by rw [unhide HXX], by rw [unhide HXX]; exact unhide HX8⟩
                        case rest =>
                          obtain ⟨S9, rfl, hrc⟩ := hcut
                          have q1 := hrc.pg.c1
                          have qf := hrc.pg.fr 1
                          have HT := hide (((Turn.of_below (S := S) (unhide HQT).1).trans hrc.turn).plus q)
                          have HX9 := hide hrc
                          clear hrc HX8
                          by_cases hE : C3.2 = 0
                          · rw [hE]
                            go_wp2
                            go_ret
                            rw [unhide HRR]
                            refine ⟨by rw [hE]; rfl, S9, ?_, ?_, (unhide HX9).out, (unhide HT).trans (Turn.setCell _ _ (.inr rfl))⟩
                            · exact (unhide HX9).ref.same (by simp) (fun g hg => heap_setCell_other _ _ _ _ (fun e => (unhide HX9).out (by rw [e] at hg; exact hg)))
                            · simp only [hE, if_true]
                              exact (unhide HX9).pg.set (s + 1)
                          · have hb : (C3.2 == 0) = false := by simp; exact hE
                            go_wp2
                            go_ret
                            rw [unhide HRR]
                            refine ⟨rfl, S9, (unhide HX9).ref, ?_, (unhide HX9).out, unhide HT⟩
                            rw [if_neg hE]
                            exact (unhide HX9).pg
end
end Go.Proofs.YtmphnhigohkaeaaDoor
/-! Contracts of the reference's pages: OpenPages. (Part of the proof of PagesPlays.) -/
namespace Go.Proofs.YtmphnhigohkaeaaDoor
open Go.RowKit
set_option linter.unusedVariables false
section
variable {w : World} {p : Nat} {S : Nat → Prop} {D : DS}
theorem rOpenP_no (h : Ref w p S D) (hn : D.secs.length ≤ 48) (hpos : 0 < D.secs.length) :
    Calls Tryd.prog 17 #[.pointer (some ⟨p, 0, none⟩)] w fun e w' => e = .returned (.tuple #[.pointer none, .int .i64 1]) ∧ w = w' := by
  have HC := hide (many_no h hn hpos)
  clear h
  go_enter Tryd.func17, Tryd.ntmps17
  go_wp2_with fail
  refine (unhide HC).mono ?_
  rintro e w1 ⟨rfl, rfl⟩
  go_wp2
  go_ret2
  exact ⟨rfl, rfl⟩

set_option maxRecDepth 100000 in
theorem rOpenP_down {L : Nat} (h : Ref w p S D) (hL : cntI D.secs.length = L) (hL1 : 1 ≤ L) (hpos : 0 < D.secs.length) (hd : D.down = true) :
    Calls Tryd.prog 17 #[.pointer (some ⟨p, 0, none⟩)] w fun e w' => e = .returned (.tuple #[.pointer none, .int .i64 9]) ∧ Below w.heap.size w w' := by
  have HC := hide (many_any h hL hpos)
  have hLi : ¬ (L : Int) = 0 := by omega
  have hre : D.readE 0 = 9 := by
    unfold DS.readE
    rw [if_neg (by omega), if_pos hd]
  have HR : Hid (∀ wx, Below w.heap.size w wx → Calls Tryd.prog 18 #[.pointer (some ⟨p, 0, none⟩), .int .i64 0] wx fun e w' => e = .returned (.tuple #[.slice none 0 0, .int .i64 9]) ∧ wx = w') := hide (fun wx hb => by
    have := rread_no 0 (h.below hb) hpos (by rw [hre]; decide)
    rwa [hre] at this)
  clear h hre
  go_enter Tryd.func17, Tryd.ntmps17
  go_wp2_with fail
  refine (unhide HC).mono ?_
  rintro e w1 ⟨rfl, rfl⟩
  go_wp2_with fail
  go_loopw [8] (fun v wr => v = .int .i64 0 ∧ wr = w.alloc (.cells #[.pointer (some ⟨p, 0, none⟩), .int .i64 0, .int .i64 (L : Int)] 49)) (fun _ _ => 0)
  case atStart => exact ⟨rfl, rfl⟩
  case round =>
    obtain ⟨rfl, rfl⟩ := hrel
    go_wp2_with fail
    refine (unhide HR _ ((Below.refl _ _).alloc (Nat.le_refl _) _)).mono ?_
    rintro e w1 ⟨rfl, rfl⟩
    go_wp2
    go_ret2
    exact ⟨rfl, (Below.refl _ _).alloc (Nat.le_refl _) _⟩
end

section
variable {w : World} {p : Nat} {S : Nat → Prop} {D : DS}

theorem slice_some {P : Program} {t : TypeId} (hu : P.underlying t = some (.slice 5)) (hsz : (P.info? 5).map (·.size) = some 1) {w : World} {x : Addr} {cap : Nat} {l : List Int} (hb : Bs w (some x) cap l) (i j : Nat) (hij : i ≤ j) (hj : j ≤ l.length) :
    ∃ y, (∀ w', (Instr.slice t (.slice (some x) l.length cap) (some (.int .i64 i)) (some (.int .i64 j)) none).run P w' = .ok (.slice (some y) (j - i) (cap - i)) w') ∧ Bs w (some y) (cap - i) ((l.drop i).take (j - i)) := by
  have he := elem_u8 hu
  have hcap := hb.2.1
  have hB := (hb.drop i (by omega)).take (j - i)
  have hrun : ∀ w', (Instr.slice t (.slice (some x) l.length cap) (some (.int .i64 i)) (some (.int .i64 j)) none).run P w' = .ok (.slice (if cap = i then some x else (some x).map (·.add i)) (j - i) (cap - i)) w' := fun w' => by
    rw [run_slice_lh (P := P) (w := w') t (some x) l.length cap (by rw [he]; exact hu) .i64 .i64 i j (by omega) (by omega) (by omega), he, run_size_u8 w' hsz]
    simp [Result.andThen, sliced]
  by_cases hc : cap = i
  · rw [if_pos hc] at hB
    exact ⟨x, fun w' => by rw [hrun w', if_pos hc], hB⟩
  · rw [if_neg hc] at hB
    exact ⟨x.add i, fun w' => by rw [hrun w', if_neg hc]; rfl, hB⟩
theorem copied_own (x : Addr) (cap : Nat) (l : List Int) (w : World) (hb : Bs w (some x) cap l) :
    Calls Tryd.prog 46 #[.slice (some x) l.length cap] w fun e w' => ∃ a c, e = .returned (.slice a l.length c) ∧ Bs w' a c l ∧ (l ≠ [] → ∀ y, a = some y → w.heap.size ≤ y.block) ∧ Below w.heap.size w w' := by
  by_cases hne : l = []
  · subst hne
    obtain ⟨i0, hi0, hz0, hz1, hz2⟩ := info_parts info_u8
    clear hb
    go_enter Tryd.func46, Tryd.ntmps46
    go_wp2_with (at_builtin; refine wpList_append_own (P := Tryd.prog) _ rfl _ _ 41 rfl w.heap.size 5 i0 (.int .u8 0) 1 1 Tryd.underlying41 hi0 hz0 hz1 hz2 rfl (by decide) (.slice none 0 0) 0 [] rfl (World.ownsRow_nil _ _ _ _) x 0 cap [] rfl (by simp) (by intro j v hj; simp at hj) (oneCell_u8 []) (by unfold maxLen; omega) (by omega) (Nat.le_refl _) ?_)
    intro v w1 hown hgrow _
    have ho : OwnV w1 w.heap.size v [] := hown
    obtain ⟨a, c, rfl, hbs⟩ := ho.bs (fun z hz => by cases hz) (by simp)
    have hbel : Below w.heap.size w w1 := ⟨hgrow.os, hgrow.tape, hgrow.output, hgrow.size, fun k hk => hgrow.block k hk (fun e => by cases e)⟩
    have HB := hide hbs
    have HE := hide hbel
    clear hown hgrow ho hbs hbel
    go_wp2
    go_ret
    exact ⟨_, _, rfl, unhide HB, fun h => absurd rfl h, unhide HE⟩
  · exact (copied_any (some x) cap l w hb hne).mono fun e w' ⟨g, c, he, ho, hbel⟩ => ⟨some ⟨g, 0, none⟩, c, he, ho.bs hb.1 hb.2.2.1, fun _ y hy => by obtain rfl := Option.some.inj hy; exact ho.base, hbel⟩
theorem RpAt.no_u8 {w : World} {q m L : Nat} {s : Int} (h : RpAt w q m s L) (k : Nat) (z : Int) : w.cell? ⟨q, k, none⟩ ≠ some (.int .u8 z) := by
  rw [cell_of_row w q k _ _ (0, 0) h]
  rcases k with _ | _ | _ | k <;> simp
theorem RpAt.apart {w : World} {q m L : Nat} {s : Int} (h : RpAt w q m s L) {a : Option Addr} {c : Nat} {l : List Int} (hb : Bs w a c l) (hne : l ≠ []) (y : Addr) (hy : a = some y) : y.block ≠ q := by
  obtain ⟨b, off, rfl, hc⟩ := hb.2.2.2.2 hne
  obtain rfl := Option.some.inj hy
  intro e
  have e' : b = q := e
  subst e'
  exact h.no_u8 _ _ (hc 0 (List.length_pos_iff.2 hne))
theorem below_set {w w' : World} {B q i : Nat} (h : Below B w w') (hq : B ≤ q) (v : Value) : Below B w (w'.setCell ⟨q, i, none⟩ v) := by
  have ht := Turn.setCell (S := fun k => k = q) w' (a := ⟨q, i, none⟩) v rfl
  exact ⟨ht.os.trans h.os, ht.tape.trans h.tape, ht.output.trans h.output, Nat.le_trans h.size ht.size, fun k hk => by
    rcases Nat.lt_or_ge k w'.heap.size with h1 | h1
    · exact (ht.block k h1 (show ¬ k = q by omega)).trans (h.block k hk)
    · have h2 := h.block k hk
      rw [← h2, Array.getElem?_eq_none (by simpa using h1), Array.getElem?_eq_none h1]⟩

/-- How OpenPages stands while it reads the marks. -/
structure Om (w w' : World) (p L : Nat) (x : Int × Nat × List Int) (v6 v7 : Value) : Prop where
  pg : RpAt w' w.heap.size p x.1 L
  at_ : v6 = .int .i64 (x.2.1 : Nat)
  l : ∃ a c, v7 = .slice a x.2.2.length c ∧ Bs w' a c x.2.2 ∧ (x.2.2 ≠ [] → ∀ y, a = some y → w.heap.size < y.block)
  below : Below w.heap.size w w'
theorem Om.step {w w' w'' : World} {p L : Nat} {x : Int × Nat × List Int} {v6 v7 : Value} (h : Om w w' p L x v6 v7) (hb : Below w'.heap.size w' w'') : Om w w'' p L x v6 v7 := by
  obtain ⟨a, c, h1, h2, h3⟩ := h.l
  exact ⟨h.pg.below hb, h.at_, ⟨a, c, h1, h2.below hb, h3⟩, h.below.trans (hb.mono h.below.size)⟩
/-- How OpenPages stands while it writes pages anew. -/
structure Ol (w w' : World) (p L : Nat) (s : Int) (S0 : Nat → Prop) (X : DS × Int) (al : Option Addr) (cl : Nat) (l : List Int) (S : Nat → Prop) : Prop where
  ref : Ref w' p S X.1
  turn : Turn S0 S w w'
  pg : RpAt w' w.heap.size p s L
  out : ¬ S w.heap.size
  bs : Bs w' al cl l
  nbs : l ≠ [] → ∀ y, al = some y → ¬ S y.block
theorem Ol.step {w w' w'' : World} {p L : Nat} {s : Int} {S0 S S' : Nat → Prop} {X X' : DS × Int} {al : Option Addr} {cl : Nat} {l : List Int} (h : Ol w w' p L s S0 X al cl l S) (hr : Ref w'' p S' X'.1) (ht : Turn S S' w' w'') : Ol w w'' p L s S0 X' al cl l S' :=
  ⟨hr, h.turn.trans ht, (h.pg.turn ht h.out).1, (h.pg.turn ht h.out).2, (Bs.turns h.bs h.nbs ht).1, (Bs.turns h.bs h.nbs ht).2⟩
theorem open24 {b : List Int} (h : (openOut b).2.2 = 0) : (openOut b).2.1.length = 24 := by
  unfold openOut at h ⊢
  by_cases h1 : b.length ≠ 32
  · rw [if_pos h1] at h; cases h
  · rw [if_neg h1] at h ⊢
    by_cases h2 : getV b 0 4 ≠ getV b 28 4
    · rw [if_pos h2] at h; cases h
    · rw [if_neg h2] at h ⊢
      by_cases h3 : getV b 0 4 = 0
      · rw [if_pos h3] at h; cases h
      · rw [if_neg h3]
        simp
        omega

set_option maxRecDepth 100000 in
theorem rOpenP_up {L : Nat} (h : Ref w p S D) (hok : D.Ok) (hL : cntI D.secs.length = L) (hL1 : 1 ≤ L) (hd : D.down = false) :
    Calls Tryd.prog 17 #[.pointer (some ⟨p, 0, none⟩)] w fun e w' => ∃ v, e = .returned (.tuple #[v, .int .i64 (openP D L).2.2]) ∧ ∃ S', Ref w' p S' (openP D L).1 ∧ Turn S S' w w' ∧
      ((openP D L).2.2 = 0 → ∃ q, v = .pointer (some ⟨q, 0, none⟩) ∧ RpAt w' q p (openP D L).2.1 L ∧ w.heap.size ≤ q ∧ ¬ S' q) ∧ ((openP D L).2.2 ≠ 0 → v = .pointer none) := by
  have hL2 : L ≤ 200 ∧ 48 + L ≤ D.secs.length := by
    unfold cntI at hL
    split at hL <;> omega
  have HC := hide (many_any h hL (by omega))
  have hLi : ((L : Int) == 0) = false := by simp; omega
  obtain ⟨X, hX0, hX1, hX2⟩ : ∃ X : Nat → Int × Nat × List Int, X 0 = (0, 0, []) ∧ (∀ i, i < 2 → X (i + 1) = pick (X i) i (mark L (D.rd i))) ∧ X 2 = best L (D.rd 0) (D.rd 1) :=
    ⟨fun i => if i = 0 then (0, 0, []) else if i = 1 then pick (0, 0, []) 0 (mark L (D.rd 0)) else best L (D.rd 0) (D.rd 1), rfl, fun i hi => by
      have : i = 0 ∨ i = 1 := by omega
      rcases this with rfl | rfl <;> rfl, rfl⟩
  have HXF : Hid ((X 2).2.1 < 2 ∧ (X 2).2.2.length ≤ 23 ∧ ∀ z ∈ (X 2).2.2, 0 ≤ z ∧ z < (L : Int)) := hide (by
    have hst : ∀ (x : Int × Nat × List Int) (i : Nat), i < 2 → (x.2.1 < 2 ∧ x.2.2.length ≤ 23 ∧ ∀ z ∈ x.2.2, 0 ≤ z ∧ z < (L : Int)) → ((pick x i (mark L (D.rd i))).2.1 < 2 ∧ (pick x i (mark L (D.rd i))).2.2.length ≤ 23 ∧ ∀ z ∈ (pick x i (mark L (D.rd i))).2.2, 0 ≤ z ∧ z < (L : Int)) := fun x i hi hx => by
      unfold pick
      cases hm : mark L (D.rd i) with
      | none => exact hx
      | some y =>
        obtain ⟨s, l⟩ := y
        have hf := mark_facts (hok.rd (show i < D.secs.length by omega)).2 hm
        dsimp only
        split
        · exact ⟨hi, hf.2.1, hf.2.2.1⟩
        · exact hx
    rw [hX1 1 (by omega)]
    refine hst _ 1 (by omega) ?_
    rw [hX1 0 (by omega)]
    refine hst _ 0 (by omega) ?_
    rw [hX0]
    exact ⟨by decide, by simp, fun z hz => by cases hz⟩)
  have H := hide h
  have HX1 := hide hX1
  have HX2 := hide hX2
  have HX0 := hide hX0
  have HOK := hide hok
  generalize hR : openP D L = R at *
  have HR := hide hR
  clear h hX0 hX1 hX2 hok hR hL
  go_enter Tryd.func17, Tryd.ntmps17
  go_wp2_with fail
  refine (unhide HC).mono ?_
  rintro e w1 ⟨rfl, rfl⟩
  clear HC
  go_wp2_with fail
  go_loopw [6, 7, 8] (fun v6 v7 v8 wr => ∃ i : Nat, i ≤ 2 ∧ v8 = .int .i64 i ∧ Om w wr p L (X i) v6 v7) (fun _ _ v _ => 2 - (intOf v).toNat)
  case atStart =>
    refine ⟨0, by omega, rfl, ?_⟩
    rw [unhide HX0]
    exact ⟨heap_alloc_new _ _, rfl, ⟨none, 0, rfl, bs_nil _, fun hne => absurd rfl hne⟩, (Below.refl _ _).alloc (Nat.le_refl _) _⟩
  case round =>
    obtain ⟨i, hi, rfl, hom⟩ := hrel
    by_cases hlt : i < 2
    · have hrd := rread_yes i ((unhide H).below hom.below) (by omega) hd
      have hsec : Sec (D.rd i) := (unhide HOK).rd (by omega)
      have hxs := unhide HX1 i hlt
      have hmk : mark L (D.rd i) = if (openOut (D.rd i)).2.2 = 0 ∧ (openOut (D.rd i)).2.1.getD 0 0 ≤ 23 ∧ (∀ z ∈ numsOf (openOut (D.rd i)).2.1, z < L) then some ((openOut (D.rd i)).1, numsOf (openOut (D.rd i)).2.1) else none := rfl
      rw [hmk] at hxs
      have h24 := @open24 (D.rd i)
      have HRD := hide hrd
      have HOM := hide hom
      have HXS := hide hxs
      have H24 := hide h24
      have HSEC := hide hsec
      clear hrd hom hxs hmk h24 hsec
      go_wp2_with fail
      refine (unhide HRD).mono ?_
      rintro e w2 ⟨⟨v, rfl, hv⟩, rfl⟩
      obtain ⟨g, c, rfl, hSg, _, hbs⟩ := hv
      have hop := rOpen_any (some ⟨g, 0, none⟩) c (D.rd i) wr hbs
      rw [(unhide HSEC).1] at hop
      have HOP := hide hop
      clear hop hbs HRD HSEC
      generalize openOut (D.rd i) = o at *
      go_wp2_with fail
      refine (unhide HOP).mono ?_
      rintro e w3 ⟨a3, c3, rfl, hb3, hbel3⟩
      have HO3 := hide ((unhide HOM).step hbel3)
      have HB3 := hide hb3
      clear hb3 hbel3 HOM HOP
      by_cases hbad : o.2.2 = 0
      · have h24 := unhide H24 hbad
        obtain ⟨b3, off3, rfl, hc0⟩ := Bs.cell0 (unhide HB3) 0 (by omega)
        have hBy := (unhide HB3).1
        have hcells : ∀ t, t < 24 → w3.cell? ⟨b3, off3 + t, none⟩ = some (.int .u8 (o.2.1.getD t 0)) ∧ 0 ≤ o.2.1.getD t 0 ∧ o.2.1.getD t 0 ≤ 255 := fun t ht => by
          obtain ⟨b', o', e', hc⟩ := Bs.cell0 (unhide HB3) t (by omega)
          simp only [Option.some.injEq, Addr.mk.injEq, and_true] at e'
          obtain ⟨rfl, rfl⟩ := e'
          refine ⟨hc, ?_⟩
          have hm := hBy (o.2.1.getD t 0) (by rw [List.getD_eq_getElem?_getD, List.getElem?_eq_getElem (by omega)]; exact List.getElem_mem _)
          exact ⟨hm.1, by have := hm.2; omega⟩
        have HCL := hide hcells
        have hz0 := (hcells 0 (by omega)).2.1
        rw [hbad, h24]
        rw [Nat.add_zero] at hc0
        obtain ⟨K, hK⟩ : ∃ K : Nat, o.2.1.getD 0 0 = (K : Int) := ⟨(o.2.1.getD 0 0).toNat, by omega⟩
        rw [hK] at hc0
        have HK := hide hK
        clear hcells hBy hz0 hK
        by_cases hk23 : K ≤ 23
        · have hk0 : (K : Int) ≤ 23 := by omega
          go_wp2_with fail
          go_loopw [15, 16] (fun v15 v16 wx => ∃ j : Nat, j ≤ K ∧ v16 = .int .i64 ((j : Int) + 1) ∧ v15 = .bool (decide (∀ t, t < j → o.2.1.getD (t + 1) 0 < (L : Int))) ∧ wx = w3) (fun _ v _ => K + 1 - (intOf v).toNat)
          case atStart => exact ⟨0, by omega, rfl, by simp, rfl⟩
          case round =>
            obtain ⟨j, hj, rfl, rfl, rfl⟩ := hrel
            by_cases hjl : j < K
            · obtain ⟨hcj, zj0, zj1⟩ := unhide HCL (j + 1) (by omega)
              have hji : (j : Int) + 1 ≤ K := by omega
              by_cases hal : ∀ t, t < j → o.2.1.getD (t + 1) 0 < (L : Int)
              · rw [decide_eq_true hal]
                by_cases hnx : o.2.1.getD (j + 1) 0 < (L : Int)
                · have hde : (∀ t, t < j + 1 → o.2.1.getD (t + 1) 0 < (L : Int)) := fun t ht => by
                    rcases Nat.lt_or_ge t j with h1 | h1
                    · exact hal t h1
                    · obtain rfl : t = j := by omega
                      exact hnx
                  have HDE := hide hde
                  clear hde hal
                  generalize o.2.1.getD (j + 1) 0 = z at *
                  go_wp2
                  go_roundw
                  case rel => first | exact ⟨j + 1, by omega, by (first | go_num | exact congrArg (Value.int .i64) (by omega)), by rw [decide_eq_true (unhide HDE)], by trivial⟩ | ((repeat apply Exists.intro); exact ⟨⟨j + 1, by omega, by (first | go_num | exact congrArg (Value.int .i64) (by omega)), by rw [decide_eq_true (unhide HDE)], by trivial⟩, rfl⟩)
                  case measure => simp [intOf]; omega
                · have hde : ¬ (∀ t, t < j + 1 → o.2.1.getD (t + 1) 0 < (L : Int)) := fun hc => hnx (hc j (by omega))
                  have HDE := hide hde
                  clear hde hal
                  generalize o.2.1.getD (j + 1) 0 = z at *
                  go_wp2
                  go_roundw
                  case rel => first | exact ⟨j + 1, by omega, by (first | go_num | exact congrArg (Value.int .i64) (by omega)), by rw [decide_eq_false (unhide HDE)], by trivial⟩ | ((repeat apply Exists.intro); exact ⟨⟨j + 1, by omega, by (first | go_num | exact congrArg (Value.int .i64) (by omega)), by rw [decide_eq_false (unhide HDE)], by trivial⟩, rfl⟩)
                  case measure => simp [intOf]; omega
              · rw [decide_eq_false hal]
                have hde : ¬ (∀ t, t < j + 1 → o.2.1.getD (t + 1) 0 < (L : Int)) := fun hc => hal (fun t ht => hc t (by omega))
                have HDE := hide hde
                clear hde hal
                go_wp2
                go_roundw
                case rel => first | exact ⟨j + 1, by omega, by (first | go_num | exact congrArg (Value.int .i64) (by omega)), by rw [decide_eq_false (unhide HDE)], by trivial⟩ | ((repeat apply Exists.intro); exact ⟨⟨j + 1, by omega, by (first | go_num | exact congrArg (Value.int .i64) (by omega)), by rw [decide_eq_false (unhide HDE)], by trivial⟩, rfl⟩)
                case measure => simp [intOf]; omega
            · obtain rfl : j = K := by omega
              have hji : ¬ (j : Int) + 1 ≤ j := by omega
              have hnum : (∀ z ∈ numsOf o.2.1, z < (L : Int)) ↔ (∀ t, t < j → o.2.1.getD (t + 1) 0 < (L : Int)) := by
                unfold numsOf
                rw [unhide HK, Int.toNat_natCast]
                constructor
                · intro hz t ht
                  apply hz
                  rw [List.getD_eq_getElem?_getD, List.getElem?_eq_getElem (by omega)]
                  refine List.mem_iff_getElem.2 ⟨t, by simp; omega, ?_⟩
                  simp
                · intro hz z hm
                  obtain ⟨t, ht, rfl⟩ := List.mem_iff_getElem.1 hm
                  have htj : t < j := by simp at ht; omega
                  have := hz t htj
                  rw [List.getD_eq_getElem?_getD, List.getElem?_eq_getElem (by omega)] at this
                  simpa [Nat.add_comm] using this
              have HO4 := HO3
              obtain ⟨hpg, hat, ⟨al, cl, rfl, hbl, hfl⟩, hbw⟩ := unhide HO3
              have hp1 := hpg.c1
              have hpf := hpg.fr 1
              have HHB := hide hbl
              have HPG := hide hpg
              have HBW := hide hbw
              clear hbl hpg hbw hfl
              by_cases hal : ∀ t, t < j → o.2.1.getD (t + 1) 0 < (L : Int)
              · rw [decide_eq_true hal]
                have hx : X (i + 1) = if (X i).1 < o.1 then (o.1, i, numsOf o.2.1) else X i := by
                  rw [unhide HXS, if_pos ⟨hbad, by rw [unhide HK]; omega, hnum.2 hal⟩]; rfl
                by_cases hs : (X i).1 < o.1
                · rw [if_pos hs] at hx
                  obtain ⟨y, psl, hbsl⟩ := slice_some (P := Tryd.prog) (t := 41) Tryd.underlying41 size_u8 (unhide HB3) 1 (1 + j) (by omega) (by omega)
                  rw [h24, show 1 + j - 1 = j by omega, show ((1 : Nat) : Int) = 1 from rfl, show ((1 + j : Nat) : Int) = 1 + (j : Int) by omega] at psl
                  have hnl : numsOf o.2.1 = (o.2.1.drop 1).take j := by unfold numsOf; rw [unhide HK, Int.toNat_natCast]
                  rw [show 1 + j - 1 = j by omega, ← hnl] at hbsl
                  have hnlen : (numsOf o.2.1).length = j := by rw [hnl]; simp; omega
                  have hcp : ∀ wx, Qt (wr.setCell ⟨w.heap.size, 1, none⟩ (.int .i64 o.1)) wx → Calls Tryd.prog 46 #[.slice (some y) j (c3 - 1)] wx fun e w' => ∃ a c, e = .returned (.slice a j c) ∧ Om w w' p L (X (i + 1)) (.int .i64 i) (.slice a j c) := fun wx hq => by
                    have hc := copied_own y (c3 - 1) (numsOf o.2.1) wx ((hbsl.setCell (fun hne y hy => (unhide HPG).apart hbsl hne y hy) _).below hq.1)
                    rw [hnlen] at hc
                    refine hc.mono ?_
                    rintro e w' ⟨a, c, rfl, hbs, hfr, hbel⟩
                    refine ⟨a, c, rfl, ?_⟩
                    rw [hx]
                    refine ⟨(((unhide HPG).set o.1).below hq.1).below hbel, rfl, ⟨a, c, by rw [hnlen], hbs, fun hne y hy => ?_⟩, ?_⟩
                    · have h1 := hfr hne y hy
                      have h2 := hq.1.size
                      have h3 := (unhide HPG).lt
                      simp at h2
                      omega
                    · exact (below_set (unhide HBW) (Nat.le_refl _) _).trans (((hq.1.trans (hbel.mono hq.1.size))).mono (by have := (unhide HBW).size; simp; omega))
                  have HCP := hide hcp
                  clear hcp hnl hnlen hbsl hx hnum hal
                  go_wp2_with fail
                  refine (unhide HCP _ (Qt.refl _)).mono ?_
                  rintro e w5 ⟨a5, c5, rfl, hom5⟩
                  have HOM5 := hide hom5
                  clear hom5 HCP
                  go_wp2
                  go_roundw
                  case rel => first | exact ⟨i + 1, by omega, by go_num, unhide HOM5⟩ | ((repeat apply Exists.intro); exact ⟨⟨i + 1, by omega, by go_num, unhide HOM5⟩, rfl⟩)
                  case measure => simp [intOf]; omega
                · rw [if_neg hs] at hx
                  have HXX := hide hx
                  clear hx hnum hal
                  go_wp2
                  go_roundw
                  case rel => first | exact ⟨i + 1, by omega, by go_num, by rw [unhide HXX]; exact unhide HO4⟩ | ((repeat apply Exists.intro); exact ⟨⟨i + 1, by omega, by go_num, by rw [unhide HXX]; exact unhide HO4⟩, rfl⟩)
                  case measure => simp [intOf]; omega
              · rw [decide_eq_false hal]
                have hx : X (i + 1) = X i := by rw [unhide HXS, if_neg (fun hc => hal (hnum.1 hc.2.2))]; rfl
                have HXX := hide hx
                clear hx hnum hal
                go_wp2
                go_roundw
                case rel => first | exact ⟨i + 1, by omega, by go_num, by rw [unhide HXX]; exact unhide HO4⟩ | ((repeat apply Exists.intro); exact ⟨⟨i + 1, by omega, by go_num, by rw [unhide HXX]; exact unhide HO4⟩, rfl⟩)
                case measure => simp [intOf]; omega
        · have hx : X (i + 1) = X i := by rw [unhide HXS, if_neg (fun hc => by have := hc.2.1; rw [unhide HK] at this; omega)]; rfl
          have HXX := hide hx
          have hkk : (23 : Int) < K := by omega
          clear hx
          go_wp2
          go_roundw
          case rel => first | exact ⟨i + 1, by omega, by go_num, by rw [unhide HXX]; exact unhide HO3⟩ | ((repeat apply Exists.intro); exact ⟨⟨i + 1, by omega, by go_num, by rw [unhide HXX]; exact unhide HO3⟩, rfl⟩)
          case measure => simp [intOf]; omega
      · have hbb : (o.2.2 != 0) = true := by simp; exact hbad
        have hx : X (i + 1) = X i := by rw [unhide HXS, if_neg (fun hc => hbad hc.1)]; rfl
        have HXX := hide hx
        clear hx
        go_wp2
        go_roundw
        case rel => first | exact ⟨i + 1, by omega, by go_num, by rw [unhide HXX]; exact unhide HO3⟩ | ((repeat apply Exists.intro); exact ⟨⟨i + 1, by omega, by go_num, by rw [unhide HXX]; exact unhide HO3⟩, rfl⟩)
        case measure => simp [intOf]; omega
    · obtain rfl : i = 2 := by omega
      clear HX1 HX0
      obtain ⟨hpg, rfl, ⟨al, cl, rfl, hbl, hfl⟩, hbw⟩ := hom
      have hRR : R = if (X 2).1 = 0 then (D, 0, 5) else ((openRun D (X 2).2.1 (X 2).2.2).1, if (openRun D (X 2).2.1 (X 2).2.2).2 = 0 then (X 2).1 else 0, (openRun D (X 2).2.1 (X 2).2.2).2) := by
        rw [← unhide HR, unhide HX2]
        unfold openP
        rw [if_neg (by rw [hd]; exact Bool.false_ne_true)]
      obtain ⟨ha2, hn23, hnz⟩ := unhide HXF
      clear HR HX2 HXF
      generalize X 2 = x at *
      obtain ⟨s, a, l⟩ := x
      dsimp only at hpg hbl hfl hRR ha2 hn23 hnz ⊢
      have hp1 := hpg.c1
      by_cases hs : s = 0
      · rw [if_pos hs] at hRR
        rw [hs] at hp1
        have HRR := hide hRR
        have HBW := hide hbw
        clear hRR hpg hbl hfl hbw
        go_wp2
        go_ret2
        rw [unhide HRR]
        exact ⟨_, rfl, S, (unhide H).below (unhide HBW), Turn.of_below (unhide HBW), fun h => absurd h (show ¬ (5 : Int) = 0 by decide), fun _ => rfl⟩
      · rw [if_neg hs] at hRR
        have hsb : (s == 0) = false := by simp; exact hs
        obtain ⟨W, hW⟩ : ∃ W : Nat → DS × Int, W = wsF (D, 0) (fun i => (48 + l.getD i 0, D.rd (2 + 23 * a + i))) := ⟨_, rfl⟩
        have HW0 : Hid (W 0 = (D, 0)) := hide (by rw [hW]; rfl)
        have HWS : Hid (∀ k, W (k + 1) = andW (W k) (48 + l.getD k 0) (D.rd (2 + 23 * a + k))) := hide (fun k => by rw [hW]; rfl)
        have HWL : Hid (∀ k, (W k).1.secs.length = D.secs.length) := hide (fun k => by rw [hW, wsF_len])
        have HWT : Hid (∀ j k, (W k).2 ≠ 0 → W (k + j) = W k) := hide (fun j => by
          induction j with
          | zero => intro k h; rfl
          | succ j ih => intro k h; rw [← Nat.add_assoc, unhide HWS (k + j), ih k h]; exact andW_stick h _ _)
        have hrun : openRun D a l = andF (W l.length) := by rw [hW]; rfl
        rw [hrun] at hRR
        have HWR : Hid (∀ k, k ≤ l.length → (W k).2 = 0 → (W k).1.down = false ∧ ∀ t, t < 48 → (W k).1.rd t = D.rd t) := hide (fun k => by
          induction k with
          | zero => intro _ _; rw [unhide HW0]; exact ⟨hd, fun t _ => rfl⟩
          | succ k ih =>
            intro hk hz
            by_cases h0 : (W k).2 = 0
            · rw [unhide HWS k, andW_ok h0] at hz ⊢
              obtain ⟨i1, i2⟩ := ih (by omega) h0
              refine ⟨write_down hz, fun t ht => ?_⟩
              have hzk := hnz (l.getD k 0) (by rw [List.getD_eq_getElem?_getD, List.getElem?_eq_getElem (by omega)]; exact List.getElem_mem _)
              show ((W k).1.write _ _).rd t = _
              rw [rd_write hz, if_neg (by omega)]
              exact i2 t ht
            · rw [unhide HWS k, andW_stick h0] at hz
              exact absurd hz h0)
        have HRR := hide hRR
        have hol : Ol w wr p L s S (W 0) al cl l S := by
          rw [unhide HW0]
          exact ⟨(unhide H).below hbw, Turn.of_below hbw, hpg, fun hs => by have := (unhide H).lt _ hs; omega, hbl, fun hne y hy hs => by have := (unhide H).lt _ hs; have := hfl hne y hy; omega⟩
        have HOL := hide hol
        clear hW hrun hRR hol hpg hbl hfl hbw
        go_wp2_with fail
        go_loopw [17] (fun v wx => ∃ (k : Nat) (S3 : Nat → Prop), k ≤ l.length ∧ v = .int .i64 k ∧ (W k).2 = 0 ∧ Ol w wx p L s S (W k) al cl l S3) (fun v _ => l.length - (intOf v).toNat)
        case atStart => exact ⟨0, S, Nat.zero_le _, rfl, by rw [unhide HW0], unhide HOL⟩
        case round =>
          obtain ⟨k, S3, hk, rfl, hz, hol⟩ := hrel
          clear HOL
          by_cases hlt : k < l.length
          · obtain ⟨hdn, hrd⟩ := unhide HWR k hk hz
            have hred := rread_yes (2 + 23 * a + k) hol.ref (by rw [unhide HWL k]; omega) hdn
            rw [hrd (2 + 23 * a + k) (by omega), show ((2 + 23 * a + k : Nat) : Int) = 2 + 23 * (a : Int) + k by omega] at hred
            obtain ⟨bl, offl, rfl, hcl⟩ := Bs.cell0 hol.bs k hlt
            have hzk := hnz (l.getD k 0) (by rw [List.getD_eq_getElem?_getD, List.getElem?_eq_getElem (by omega)]; exact List.getElem_mem _)
            have hsec : (D.rd (2 + 23 * a + k)).length = 32 := ((unhide HOK).rd (by omega)).1
            have hW1 : W (k + 1) = ((W k).1.write (48 + l.getD k 0) (D.rd (2 + 23 * a + k)), (W k).1.writeE (48 + l.getD k 0) (D.rd (2 + 23 * a + k))) := by rw [unhide HWS k]; exact andW_ok hz _ _
            have hwl : 0 < (W k).1.secs.length := by rw [unhide HWL k]; omega
            obtain ⟨hz0, hz1⟩ := hzk
            have HRED := hide hred
            have HOL := hide hol
            have HW1 := hide hW1
            clear hred hol hrd hdn hW1 hnz
            generalize l.getD k 0 = z at *
            generalize D.rd (2 + 23 * a + k) = bd at *
            go_wp2_with fail
            refine (unhide HRED).mono ?_
            rintro e w2 ⟨⟨v, rfl, hv⟩, rfl⟩
            obtain ⟨g, c, rfl, hSg, _, hbs⟩ := hv
            have hwr := rwrite_any (48 + z) (some ⟨g, 0, none⟩) c bd (unhide HOL).ref hwl hbs
            rw [hsec, show (W k).1.write (48 + z) bd = (W (k + 1)).1 by rw [unhide HW1], show (W k).1.writeE (48 + z) bd = (W (k + 1)).2 by rw [unhide HW1]] at hwr
            have HWRT := hide hwr
            clear hwr hbs HRED
            go_wp2_with fail
            refine (unhide HWRT).mono ?_
            rintro e w3 ⟨rfl, S4, hr4, ht4⟩
            have HOL4 := hide ((unhide HOL).step (X' := W (k + 1)) hr4 ht4)
            clear hr4 ht4 HWRT HOL
            by_cases hE : (W (k + 1)).2 = 0
            · rw [hE]
              have HE := hide hE
              clear hE
              go_wp2
              go_roundw
              case rel => first | exact ⟨k + 1, S4, by omega, by go_num, unhide HE, unhide HOL4⟩ | ((repeat apply Exists.intro); exact ⟨⟨k + 1, S4, by omega, by go_num, unhide HE, unhide HOL4⟩, rfl⟩)
              case measure => simp [intOf]; omega
            · have hEb : ((W (k + 1)).2 != 0) = true := by simp; exact hE
              have hst : W l.length = W (k + 1) := by
                have := unhide HWT (l.length - (k + 1)) (k + 1) hE
                rwa [show k + 1 + (l.length - (k + 1)) = l.length by omega] at this
              have hRR : R = ((W (k + 1)).1, 0, (W (k + 1)).2) := by
                rw [unhide HRR, hst, andF_stick hE, if_neg hE]
              have HR2 := hide hRR
              clear hRR hst
              go_wp2
              go_ret2
              rw [unhide HR2]
              exact ⟨_, rfl, S4, (unhide HOL4).ref, (unhide HOL4).turn, fun h => absurd h hE, fun _ => rfl⟩
          · obtain rfl : k = l.length := by omega
            have hwl : 0 < (W l.length).1.secs.length := by rw [unhide HWL]; omega
            have HFL := hide (rflush_any hol.ref hwl)
            have HOL := hide hol
            have hRR : R = ((W l.length).1.doFlush, if (W l.length).1.flushE = 0 then s else 0, (W l.length).1.flushE) := by
              rw [unhide HRR, andF_ok hz]
            have HR2 := hide hRR
            clear hRR hol hnz
            go_wp2_with fail
            refine (unhide HFL).mono ?_
            rintro e w3 ⟨rfl, hr4, ht4⟩
            have HOL4 := hide ((unhide HOL).step (X' := ((W l.length).1.doFlush, (W l.length).1.flushE)) hr4 ht4)
            clear hr4 ht4 HFL HOL
            by_cases hF : (W l.length).1.flushE = 0
            · rw [hF]
              go_wp2
              go_ret2
              rw [unhide HR2, hF]
              exact ⟨_, rfl, S3, (unhide HOL4).ref, (unhide HOL4).turn, fun _ => ⟨w.heap.size, rfl, (unhide HOL4).pg, Nat.le_refl _, (unhide HOL4).out⟩, fun h => absurd rfl h⟩
            · have hFb : ((W l.length).1.flushE != 0) = true := by simp; exact hF
              go_wp2
              go_ret2
              rw [unhide HR2]
              exact ⟨_, rfl, S3, (unhide HOL4).ref, (unhide HOL4).turn, fun h => absurd h hF, fun _ => rfl⟩
end
end Go.Proofs.YtmphnhigohkaeaaDoor
/-! Both pages beside each other, each over its own device. (Part of the proof of PagesPlays.) -/
namespace Go.Proofs.YtmphnhigohkaeaaDoor
open Go.RowKit
set_option linter.unusedVariables false

/-- A row of numbers that is a variable of its own. -/
def VAt (w : World) (g : Nat) (l : List Int) : Prop := w.heap[g]? = some (.cells (cellsI l) 39 (0, 0))
theorem VAt.cell {w : World} {g : Nat} {l : List Int} (h : VAt w g l) (i : Nat) (hi : i < l.length) : w.cell? ⟨g, i, none⟩ = some (.int .i64 (l.getD i 0)) := by
  rw [cell_of_row w g i _ 39 (0, 0) h]; simp [cellsI, hi, List.getD]
theorem VAt.fr {w : World} {g : Nat} {l : List Int} (h : VAt w g l) (i : Nat) : w.frozen? ⟨g, i, none⟩ = false := frozen_of_row _ _ _ _ _ h
theorem VAt.lt {w : World} {g : Nat} {l : List Int} (h : VAt w g l) : g < w.heap.size := (Array.getElem?_eq_some_iff.1 h).1
theorem VAt.set {w : World} {g : Nat} {l : List Int} (h : VAt w g l) (i : Nat) (x : Int) (hi : i < l.length) : VAt (w.setCell ⟨g, i, none⟩ (.int .i64 x)) g (l.set i x) := by
  unfold VAt at *
  rw [heap_setCell_same w g i (cellsI l) 39 (.int .i64 x) h]
  simp [cellsI, List.map_set]

theorem commitB_len (x : DS × Int) (a : Int) (t : Int) (l : List (Int × List Int)) : (commitB x a t l).1.secs.length = x.1.secs.length := by
  unfold commitB
  rw [andF_len]
  split
  · split
    · rw [andW_len]
    · rfl
  · rfl
theorem commitOut_len (D : DS) (s : Int) (L : Nat) (l : List (Int × List Int)) : (commitOut D s L l).1.secs.length = D.secs.length := by
  have hr : (commitRun D s l).1.secs.length = D.secs.length := by
    unfold commitRun commitC
    rw [andF_len, wsF_len, commitB_len]
    unfold commitA
    rw [andF_len, wsF_len]
  unfold commitOut
  split
  · rfl
  · split
    · rfl
    · split
      · rfl
      · exact hr
theorem openP_len (D : DS) (L : Nat) : (openP D L).1.secs.length = D.secs.length := by
  unfold openP
  split
  · rfl
  · split
    · rfl
    · unfold openRun
      rw [andF_len, wsF_len]

/-- Both pages: the program's and the reference's, each over its own device, apart from each other; beside them a row of numbers. -/
structure Pp (w0 w : World) (p m q r : Nat) (S T : Nat → Prop) (D E : DS) (s t : Int) (L n g : Nat) (v : List Int) : Prop where
  live : Live w0 w p S D
  ref : Ref w m T E
  pg : PgAt w q p s
  rp : RpAt w r m t L
  qS : ¬ S q
  rT : ¬ T r
  apart : ∀ k, plus S q k → ¬ plus T r k
  base : ∀ k, plus T r k → w0.heap.size ≤ k
  qb : w0.heap.size ≤ q
  row : VAt w g v
  ng : ¬ plus S q g
  nt : ¬ plus T r g
  gb : w0.heap.size ≤ g
  dn : D.secs.length = n
  en : E.secs.length = n
  cnt : cntI n = L
  L1 : 1 ≤ L

section
variable {w0 w w' : World} {p m q r : Nat} {S S' T T' : Nat → Prop} {D D' E E' : DS} {s s' t t' : Int} {L n g : Nat} {v : List Int}
theorem Pp.lt2 (h : Pp w0 w p m q r S T D E s t L n g v) : ∀ k, plus T r k → k < w.heap.size := fun k hk => by
  rcases hk with hk | rfl
  · exact h.ref.lt k hk
  · exact h.rp.lt
theorem Pp.lt1 (h : Pp w0 w p m q r S T D E s t L n g v) : ∀ k, plus S q k → k < w.heap.size := fun k hk => by
  rcases hk with hk | rfl
  · exact h.live.dev.lt k hk
  · exact h.pg.lt
theorem Pp.one (h : Pp w0 w p m q r S T D E s t L n g v) (hl : Live w0 w' p S' D') (hp : PgAt w' q p s') (hq : ¬ S' q) (ht : Turn (plus S q) (plus S' q) w w') (hd : D'.secs.length = D.secs.length) : Pp w0 w' p m q r S' T D' E s' t L n g v :=
  ⟨hl, h.ref.turn ht (fun k hk hs => h.apart k hs (.inl hk)), hp, (h.rp.turn ht (fun hs => h.apart r hs (.inr rfl))).1, hq, h.rT, fun k hs hk => h.apart k (ht.foot k (h.lt2 k hk) hs) hk, h.base, h.qb, (ht.block g h.row.lt h.ng).trans h.row, fun hs => h.ng (ht.foot g h.row.lt hs), h.nt, h.gb, by rw [hd]; exact h.dn, h.en, h.cnt, h.L1⟩
theorem Pp.two (h : Pp w0 w p m q r S T D E s t L n g v) (hr : Ref w' m T' E') (hp : RpAt w' r m t' L) (hq : ¬ T' r) (ht : Turn (plus T r) (plus T' r) w w') (hd : E'.secs.length = E.secs.length) : Pp w0 w' p m q r S T' D E' s t' L n g v := by
  have hT' : ∀ k, plus T' r k → w0.heap.size ≤ k := fun k hk => by
    rcases Nat.lt_or_ge k w.heap.size with h1 | h1
    · exact h.base k (ht.foot k h1 hk)
    · exact Nat.le_trans h.live.bel.size h1
  exact ⟨⟨h.live.dev.turn ht (fun k hk => h.apart k (.inl hk)), h.live.bel.trans (ht.below h.base h.live.bel.size), h.live.base⟩, hr, (h.pg.turn ht (h.apart q (.inr rfl))).1, hp, h.qS, hq, fun k hs hk => h.apart k hs (ht.foot k (h.lt1 k hs) hk), hT', h.qb, (ht.block g h.row.lt h.nt).trans h.row, h.ng, fun hs => h.nt (ht.foot g h.row.lt hs), h.gb, h.dn, by rw [hd]; exact h.en, h.cnt, h.L1⟩
theorem Pp.below (h : Pp w0 w p m q r S T D E s t L n g v) (hb : Below w.heap.size w w') : Pp w0 w' p m q r S T D E s t L n g v :=
  ⟨h.live.below hb, h.ref.below hb, h.pg.below hb, h.rp.below hb, h.qS, h.rT, h.apart, h.base, h.qb, (hb.block g h.row.lt).trans h.row, h.ng, h.nt, h.gb, h.dn, h.en, h.cnt, h.L1⟩
theorem Pp.one' (h : Pp w0 w p m q r S T D E s t L n g v) (hl : Live w0 w' p S' D') (ht : Turn S S' w w') (hd : D'.secs.length = D.secs.length) : Pp w0 w' p m q r S' T D' E s t L n g v :=
  h.one hl (h.pg.turn ht h.qS).1 (h.pg.turn ht h.qS).2 (ht.plus q) hd
theorem Pp.two' (h : Pp w0 w p m q r S T D E s t L n g v) (hr : Ref w' m T' E') (ht : Turn T T' w w') (hd : E'.secs.length = E.secs.length) : Pp w0 w' p m q r S T' D E' s t L n g v :=
  h.two hr (h.rp.turn ht h.rT).1 (h.rp.turn ht h.rT).2 (ht.plus r) hd
theorem Pp.n1 (h : Pp w0 w p m q r S T D E s t L n g v) : 48 + L ≤ n ∧ L ≤ 200 := by
  have h1 := h.cnt
  have h2 := h.L1
  unfold cntI at h1
  split at h1 <;> omega

theorem Pp.commit1 (h : Pp w0 w p m q r S T D E s t L n g v) {a : Option Addr} {cap : Nat} {x : List (Int × List Int)} (hx : PgsO w S a cap x) (h0 : 0 ≤ s) (h1 : s < 1000) :
    Calls Tryd.prog 10 #[.pointer (some ⟨q, 0, none⟩), .slice a x.length cap] w fun e w' => e = .returned (errV (commitOut D s L x).2.2) ∧ ∃ S', Pp w0 w' p m q r S' T (commitOut D s L x).1 E (commitOut D s L x).2.1 t L n g v ∧ Turn (plus S q) (plus S' q) w w' :=
  (commit_any h.live h.pg h.qS h.qb a cap x hx (by rw [h.dn]; exact h.cnt) h0 (by omega)).mono fun e w' ⟨he, S', hl, hp, hq, ht⟩ => ⟨he, S', h.one hl hp hq ht (commitOut_len _ _ _ _), ht⟩
theorem Pp.commit2 (h : Pp w0 w p m q r S T D E s t L n g v) {a : Option Addr} {cap : Nat} {x : List (Int × List Int)} (hx : PgsO w T a cap x) (hr : x ≠ [] → ∀ y, a = some y → y.block ≠ r) (hm : x.length ≤ 140737488351232) (h0 : 0 ≤ t) (h1 : t < 1000) :
    Calls Tryd.prog 11 #[.pointer (some ⟨r, 0, none⟩), .slice a x.length cap] w fun e w' => e = .returned (.int .i64 (commitOut E t L x).2.2) ∧ ∃ T', Pp w0 w' p m q r S T' D (commitOut E t L x).1 s (commitOut E t L x).2.1 L n g v := by
  by_cases hn : 23 < x.length
  · have hc : commitOut E t L x = (E, t, 4) := by
      have he : commitE L x = 4 := by unfold commitE; rw [if_pos hn]
      unfold commitOut
      rw [if_pos (by rw [he]; decide), he]
    rw [hc]
    exact (rCommit_full a x.length cap hn hm).mono fun e w' ⟨he, hw⟩ => ⟨he, T, hw ▸ h⟩
  · by_cases hne : x = []
    · subst hne
      have hc : commitOut E t L [] = (E, t, if E.down then 9 else 0) := by
        unfold commitOut
        rw [if_neg (show ¬ commitE L [] ≠ 0 from fun hh => hh rfl)]
        split
        · rfl
        · rw [if_pos rfl]
      rw [hc]
      exact (rCommit_nil h.ref h.rp a cap).mono fun e w' ⟨he, hw⟩ => ⟨he, T, hw ▸ h⟩
    · obtain ⟨b, off, rfl, _⟩ := hx.2.2 hne
      exact (rCommit_some h.ref h.rp h.rT b off cap x hx (hr hne _ rfl) hne (by omega) (by rw [h.en]; exact h.n1.1) h.n1.2 h0 h1).mono fun e w' ⟨he, T', hl, hp, hq, ht⟩ => ⟨he, T', h.two hl hp hq ht (commitOut_len _ _ _ _)⟩

theorem Pp.fail1 (h : Pp w0 w p m q r S T D E s t L n g v) (i : Int) (hi : -9223372036854775808 ≤ i ∧ i ≤ 9223372036854775807) :
    Calls Tryd.prog 12 #[.pointer (some ⟨p, 0, none⟩), .int .i64 i] w fun e w' => e = .returned (.tuple #[]) ∧ ∃ S', Pp w0 w' p m q r S' T { D with left := i } E s t L n g v :=
  (h.live.fail i hi).mono fun e w' ⟨he, S', hl, ht⟩ => ⟨he, S', h.one' hl ht rfl⟩
theorem Pp.fail2 (h : Pp w0 w p m q r S T D E s t L n g v) (i : Int) (hi : -9223372036854775808 ≤ i ∧ i ≤ 9223372036854775807) :
    Calls Tryd.prog 13 #[.pointer (some ⟨m, 0, none⟩), .int .i64 i] w fun e w' => e = .returned (.tuple #[]) ∧ ∃ T', Pp w0 w' p m q r S T' D { E with left := i } s t L n g v :=
  (rfail_any i hi h.ref).mono fun e w' ⟨he, hl, ht⟩ => ⟨he, T, h.two' hl ht rfl⟩
theorem Pp.crash1 (h : Pp w0 w p m q r S T D E s t L n g v) (torn cut : Int) {a : Option Addr} {cap : Nat} {keep : List Bool} (hb : Bls w0 a cap keep) :
    Calls Tryd.prog 14 #[.pointer (some ⟨p, 0, none⟩), .slice a keep.length cap, .int .i64 torn, .int .i64 cut] w fun e w' => e = .returned (.int .i64 D.mem.length) ∧ ∃ S', Pp w0 w' p m q r S' T (D.crash keep torn (cutN cut)) E s t L n g v :=
  (h.live.crash torn cut (h.live.bls hb)).mono fun e w' ⟨he, S', hl, ht⟩ => ⟨he, S', h.one' hl ht (length_crashK _ _ _ _ _ _)⟩
theorem Pp.crash2 (h : Pp w0 w p m q r S T D E s t L n g v) (torn cut : Int) {a : Option Addr} {cap : Nat} {keep : List Bool} (hb : Bls w0 a cap keep) :
    Calls Tryd.prog 15 #[.pointer (some ⟨m, 0, none⟩), .slice a keep.length cap, .int .i64 torn, .int .i64 cut] w fun e w' => e = .returned (.int .i64 E.mem.length) ∧ ∃ T', Pp w0 w' p m q r S T' D (E.crash keep torn (cutN cut)) s t L n g v := by
  have hnt : keep ≠ [] → ∀ x, a = some x → ¬ T x.block := fun hne x hx hs => by
    obtain ⟨b, off, rfl, hc⟩ := hb.2.2 hne
    obtain rfl := Option.some.inj hx
    have h1 := block_lt_of_cell (hc 0 (by cases keep with | nil => exact absurd rfl hne | cons _ _ => simp))
    have h2 := h.base _ (.inl hs)
    simp at h1 h2; omega
  have hn := h.n1
  obtain ⟨sv, lv, left, hr⟩ := h.ref
  exact (rcrash_some a cap keep torn cut hr (by rw [h.en]; omega) (h.live.bls hb).1 hnt).mono fun e w' ⟨he, T', hl, ht⟩ => ⟨he, T', h.two' hl ht (length_crashK _ _ _ _ _ _)⟩

/-- Opened anew: by the program. -/
theorem Pp.open1 (h : Pp w0 w p m q r S T D E s t L n g v) (hd : D.down = false) :
    Calls Tryd.prog 16 #[.pointer (some ⟨p, 0, none⟩)] w fun e w' => ∃ u S', e = .returned (.tuple #[u, errV (openP D L).2.2]) ∧
      ((openP D L).2.2 = 0 → ∃ q', u = .pointer (some ⟨q', 0, none⟩) ∧ Pp w0 w' p m q' r S' T (openP D L).1 E (openP D L).2.1 t L n g v) ∧
      ((openP D L).2.2 ≠ 0 → u = .pointer none ∧ Pp w0 w' p m q r S' T (openP D L).1 E s t L n g v) := by
  refine (open_go h.live (by rw [h.dn]; exact h.cnt) h.L1 hd).mono fun e w' ⟨u, he, S', hl, ht, hok, hno⟩ => ⟨u, S', he, fun hz => ?_, fun hz => ⟨hno hz, h.one' hl ht (openP_len _ _)⟩⟩
  obtain ⟨q', hu, hpg, hlt, hout⟩ := hok hz
  refine ⟨q', hu, ?_⟩
  have h2 := h.one' hl ht (openP_len _ _)
  have hq2 : ∀ k, plus T r k → k ≠ q' := fun k hk e => by have := h.lt2 k hk; omega
  exact ⟨hl, h2.ref, hpg, h2.rp, hout, h2.rT, fun k hs hk => by
    rcases hs with hs | hs
    · exact h2.apart k (.inl hs) hk
    · exact hq2 k hk hs, h2.base, Nat.le_trans h.live.bel.size hlt, h2.row, fun hs => by
    rcases hs with hs | hs
    · exact h2.ng (.inl hs)
    · have := h.row.lt; omega, h2.nt, h2.gb, h2.dn, h2.en, h2.cnt, h2.L1⟩
/-- Opened anew: by the reference. -/
theorem Pp.open2 (h : Pp w0 w p m q r S T D E s t L n g v) (hd : E.down = false) :
    Calls Tryd.prog 17 #[.pointer (some ⟨m, 0, none⟩)] w fun e w' => ∃ u T', e = .returned (.tuple #[u, .int .i64 (openP E L).2.2]) ∧
      ((openP E L).2.2 = 0 → ∃ r', u = .pointer (some ⟨r', 0, none⟩) ∧ Pp w0 w' p m q r' S T' D (openP E L).1 s (openP E L).2.1 L n g v) ∧
      ((openP E L).2.2 ≠ 0 → u = .pointer none ∧ Pp w0 w' p m q r S T' D (openP E L).1 s t L n g v) := by
  have hok' : E.Ok := by obtain ⟨_, _, _, hr⟩ := h.ref; exact hr.ok
  refine (rOpenP_up h.ref hok' (by rw [h.en]; exact h.cnt) h.L1 hd).mono fun e w' ⟨u, he, T', hl, ht, hok, hno⟩ => ⟨u, T', he, fun hz => ?_, fun hz => ⟨hno hz, h.two' hl ht (openP_len _ _)⟩⟩
  obtain ⟨r', hu, hpg, hlt, hout⟩ := hok hz
  refine ⟨r', hu, ?_⟩
  have h2 := h.two' hl ht (openP_len _ _)
  exact ⟨h2.live, hl, h2.pg, hpg, h2.qS, hout, fun k hs hk => by
    rcases hk with hk | hk
    · exact h2.apart k hs (.inl hk)
    · have := h.lt1 k hs; omega, fun k hk => by
    rcases hk with hk | hk
    · exact h2.base k (.inl hk)
    · rw [hk]; exact Nat.le_trans h.live.bel.size hlt, h2.qb, h2.row, h2.ng, fun hs => by
    rcases hs with hs | hs
    · exact h2.nt (.inl hs)
    · have := h.row.lt; omega, h2.gb, h2.dn, h2.en, h2.cnt, h2.L1⟩

/-- What is read of a page. -/
def rdP (D : DS) (i : Int) : List Int := if pReadE D i = 0 then D.rd (48 + i.toNat) else []
theorem Pp.read1 (h : Pp w0 w p m q r S T D E s t L n g v) (i : Int) :
    Calls Tryd.prog 19 #[.pointer (some ⟨q, 0, none⟩), .int .i64 i] w fun e w' => ∃ a cap, e = .returned (.tuple #[.slice a (rdP D i).length cap, errV (pReadE D i)]) ∧ Bs w' a cap (rdP D i) ∧ Below w.heap.size w w' := by
  by_cases he : pReadE D i = 0
  · have hh : hasP D.secs.length i = true := by
      unfold pReadE at he
      cases hb : hasP D.secs.length i with
      | true => rfl
      | false => rw [hb] at he; simp at he
    have hd : D.down = false := by
      unfold pReadE at he
      rw [hh, if_pos rfl] at he
      cases hb : D.down with
      | false => rfl
      | true => rw [hb] at he; simp at he
    have hi : 0 ≤ i ∧ i < cntI D.secs.length := by unfold hasP at hh; exact of_decide_eq_true hh
    rw [h.dn, h.cnt] at hi
    obtain ⟨k, rfl⟩ : ∃ k : Nat, i = k := ⟨i.toNat, by omega⟩
    have hn := h.n1
    have hs : Sec (D.rd (48 + k)) := h.live.dev.ok.rd (by rw [h.dn]; omega)
    refine (pRead_yes h.live.dev h.pg k hh hd).mono fun e w' ⟨gr, he2, _, hb, hbel⟩ => ⟨some ⟨gr, 0, none⟩, 32, ?_, ?_, hbel⟩
    · rw [he2]; unfold rdP; rw [if_pos he, he, errV_zero, Int.toNat_natCast, hs.1]
    · unfold rdP; rw [if_pos he, Int.toNat_natCast]
      exact blk_bs hb hs
  · refine (pRead_no h.live.dev h.pg i he).mono fun e w' ⟨he2, hw⟩ => ⟨none, 0, ?_, ?_, hw ▸ Below.refl _ _⟩
    · rw [he2]; unfold rdP; rw [if_neg he]; rfl
    · unfold rdP; rw [if_neg he]; exact bs_nil _
theorem Pp.read2 (h : Pp w0 w p m q r S T D E s t L n g v) (i : Int) (h0 : 0 ≤ i) (h1 : i < L) :
    Calls Tryd.prog 18 #[.pointer (some ⟨m, 0, none⟩), .int .i64 (48 + i)] w fun e w' => ∃ a cap, e = .returned (.tuple #[.slice a (rdP E i).length cap, .int .i64 (pReadE E i)]) ∧ Bs w' a cap (rdP E i) ∧ w = w' := by
  have hn := h.n1
  have hh : hasP E.secs.length i = true := by unfold hasP; rw [h.en, h.cnt]; exact decide_eq_true ⟨h0, h1⟩
  obtain ⟨k, rfl⟩ : ∃ k : Nat, i = k := ⟨i.toNat, by omega⟩
  cases hd : E.down with
  | false =>
    have he : pReadE E (k : Int) = 0 := by unfold pReadE; rw [hh, if_pos rfl, hd]; rfl
    have hs : Sec (E.rd (48 + k)) := by obtain ⟨_, _, _, hr⟩ := h.ref; exact hr.ok.rd (by rw [h.en]; omega)
    have hc := rread_yes (48 + k) h.ref (by rw [h.en]; omega) hd
    rw [show ((48 + k : Nat) : Int) = 48 + (k : Int) by omega] at hc
    refine hc.mono fun e w' ⟨⟨v, he2, gv, cap, hv, _, _, hb⟩, hw⟩ => ⟨some ⟨gv, 0, none⟩, cap, ?_, ?_, hw⟩
    · rw [he2, hv]; unfold rdP; rw [if_pos he, he, Int.toNat_natCast, hs.1]
    · unfold rdP; rw [if_pos he, Int.toNat_natCast, ← hw]; exact hb
  | true =>
    have he : pReadE E (k : Int) = 9 := by unfold pReadE; rw [hh, if_pos rfl, hd]; rfl
    have hre : E.readE (48 + (k : Int)) = 9 := by unfold DS.readE; rw [if_neg (by rw [h.en]; omega), if_pos hd]
    refine (rread_no (48 + (k : Int)) h.ref (by rw [h.en]; omega) (by rw [hre]; decide)).mono fun e w' ⟨he2, hw⟩ => ⟨none, 0, ?_, ?_, hw⟩
    · rw [he2, hre]; unfold rdP; rw [he]; rfl
    · unfold rdP; rw [he]; exact bs_nil _
end
end Go.Proofs.YtmphnhigohkaeaaDoor
/-! No mark on a device has a greater stamp than B, wherever the power goes. (Part of the proof of PagesPlays.) -/
namespace Go.Proofs.YtmphnhigohkaeaaDoor
open Go.RowKit
set_option linter.unusedVariables false

/-- The number ahead in a sector is B at most, and a byte. -/
def Low (B : Int) (b : List Int) : Prop := b.length = 32 ∧ (0 ≤ b.getD 0 0 ∧ b.getD 0 0 ≤ B) ∧ b.getD 1 0 = 0 ∧ b.getD 2 0 = 0 ∧ b.getD 3 0 = 0
theorem Low.mono {B C : Int} {b : List Int} (h : Low B b) (hc : B ≤ C) : Low C b := ⟨h.1, ⟨h.2.1.1, by have := h.2.1.2; omega⟩, h.2.2⟩
theorem torn_getD {s b : List Int} (hs : s.length = 32) (hb : b.length = 32) (cut k : Nat) (hk : k < 32) : (torn1 s b cut).getD k 0 = if k < cut then b.getD k 0 else s.getD k 0 := by
  unfold torn1
  simp only [List.getD_eq_getElem?_getD]
  by_cases h : k < cut
  · rw [if_pos h, List.getElem?_append_left (by simp; omega), List.getElem?_take, if_pos h]
  · rw [if_neg h, List.getElem?_append_right (by simp; omega), List.getElem?_drop]
    congr 2
    simp
    omega
theorem Low.torn {B : Int} {s b : List Int} (hs : Low B s) (hb : Low B b) (cut : Nat) (hc : cut ≤ 32) : Low B (torn1 s b cut) := by
  obtain ⟨s1, s2, s3, s4, s5⟩ := hs
  obtain ⟨b1, b2, b3, b4, b5⟩ := hb
  refine ⟨by unfold torn1; simp; omega, ?_, ?_, ?_, ?_⟩
  · rw [torn_getD s1 b1 cut 0 (by omega)]; split <;> assumption
  · rw [torn_getD s1 b1 cut 1 (by omega)]; split <;> assumption
  · rw [torn_getD s1 b1 cut 2 (by omega)]; split <;> assumption
  · rw [torn_getD s1 b1 cut 3 (by omega)]; split <;> assumption
theorem low_secL {n : Int} {b : List Int} (h0 : 1 ≤ n) (h1 : n < 256) (hb : b.length ≤ 24) : Low n (secL n b) := by
  have hf := secL_front n b hb
  have hn := numOf_side n h0 (by omega)
  have hy := byt_side n
  have hl := length_side n
  match hs : side n, hl with
  | [c0, c1, c2, c3], _ =>
    rw [hs] at hf hn hy
    have g : ∀ k, k < 4 → (secL n b).getD k 0 = [c0, c1, c2, c3].getD k 0 := fun k hk => by
      rw [← hf]
      simp only [List.getD_eq_getElem?_getD, List.getElem?_take, if_pos hk]
    have y0 := hy c0 (by simp)
    have y1 := hy c1 (by simp)
    have y2 := hy c2 (by simp)
    have y3 := hy c3 (by simp)
    simp only [numOf] at hn
    have e0 := g 0 (by omega)
    have e1 := g 1 (by omega)
    have e2 := g 2 (by omega)
    have e3 := g 3 (by omega)
    simp only [List.getD_cons_zero, List.getD_cons_succ] at e0 e1 e2 e3
    unfold Low
    rw [e0, e1, e2, e3]
    exact ⟨length_secL n b hb, by omega, by omega, by omega, by omega⟩
theorem Low.val {B : Int} {b : List Int} (h : Low B b) : getV b 0 4 ≤ B := by
  obtain ⟨h1, h2, h3, h4, h5⟩ := h
  rw [getV_succ b 0 3 (by omega), getV_succ b 0 2 (by omega), getV_succ b 0 1 (by omega), getV_succ b 0 0 (by omega)]
  simp only [Nat.zero_add]
  rw [h3, h4, h5]
  unfold getV
  simp [numOf]
  exact h2.2

/-- No mark of the device has a greater stamp than B. -/
structure Cap (B : Int) (D : DS) : Prop where
  sec : ∀ i, i < 2 → Low B (D.secs.getD i [])
  mem : ∀ x ∈ D.mem, x.1 < 2 → Low B x.2
theorem Cap.mono {B C : Int} {D : DS} (h : Cap B D) (hc : B ≤ C) : Cap C D := ⟨fun i hi => (h.sec i hi).mono hc, fun x hx hi => (h.mem x hx hi).mono hc⟩
theorem memPut_mem {m : List (Nat × List Int)} {i : Nat} {b : List Int} {x : Nat × List Int} (h : x ∈ memPut m i b) : x = (i, b) ∨ x ∈ m := by
  induction m with
  | nil => unfold memPut at h; simp at h; exact .inl h
  | cons y r ih =>
    obtain ⟨j, c⟩ := y
    unfold memPut at h
    split at h
    · rcases List.mem_cons.1 h with h | h
      · exact .inl h
      · exact .inr (List.mem_cons_of_mem _ h)
    · rcases List.mem_cons.1 h with h | h
      · exact .inr (by rw [h]; exact List.mem_cons_self)
      · rcases ih h with h | h
        · exact .inl h
        · exact .inr (List.mem_cons_of_mem _ h)
theorem Cap.step {B : Int} {D : DS} (h : Cap B D) : Cap B D.step := by
  unfold DS.step
  split
  · exact ⟨h.sec, h.mem⟩
  · split
    · exact ⟨h.sec, h.mem⟩
    · exact h
theorem Cap.write {B : Int} {D : DS} (h : Cap B D) (i : Int) (b : List Int) (hb : i < 2 → Low B b) : Cap B (D.write i b) := by
  unfold DS.write
  split
  · exact h
  · rename_i hc
    refine Cap.step ⟨h.sec, fun x hx hi => ?_⟩
    rcases memPut_mem hx with rfl | hx
    · exact hb (by dsimp only at hi; omega)
    · exact h.mem x hx hi
theorem getD_setL (l : List (List Int)) (i j : Nat) (b : List Int) : (l.set i b).getD j [] = if i = j ∧ j < l.length then b else l.getD j [] := by
  simp only [List.getD_eq_getElem?_getD, List.getElem?_set]
  by_cases h : i = j
  · subst h
    by_cases h2 : i < l.length
    · simp [h2]
    · simp [h2]
  · simp [h]
theorem Cap.flush {B : Int} {D : DS} (h : Cap B D) : Cap B D.flush := by
  refine ⟨?_, fun x hx => by cases hx⟩
  have hk : ∀ k, k ≤ D.mem.length → ∀ i, i < 2 → Low B ((flushK D.secs D.mem k).getD i []) := fun k => by
    induction k with
    | zero => intro _ i hi; exact h.sec i hi
    | succ k ih =>
      intro hk i hi
      show Low B (((flushK D.secs D.mem k).set _ _).getD i [])
      rw [getD_setL]
      split
      · rename_i hc
        refine h.mem (D.mem.getD k (0, [])) ?_ (by rw [hc.1]; exact hi)
        rw [List.getD_eq_getElem?_getD, List.getElem?_eq_getElem (by omega)]
        exact List.getElem_mem _
      · exact ih (by omega) i hi
  exact hk _ (Nat.le_refl _)
theorem Cap.crash {B : Int} {D : DS} (h : Cap B D) (keep : List Bool) (torn : Int) (cut : Nat) (hc : cut ≤ 32) : Cap B (D.crash keep torn cut) := by
  refine ⟨?_, fun x hx => by cases hx⟩
  have hk : ∀ k, k ≤ D.mem.length → ∀ i, i < 2 → Low B ((crashK D.secs D.mem keep torn cut k).getD i []) := fun k => by
    induction k with
    | zero => intro _ i hi; exact h.sec i hi
    | succ k ih =>
      intro hk i hi
      show Low B (((crashK D.secs D.mem keep torn cut k).set _ _).getD i [])
      rw [getD_setL]
      split
      · rename_i hcc
        have hm : Low B (D.mem.getD k (0, [])).2 := h.mem (D.mem.getD k (0, [])) (by
          rw [List.getD_eq_getElem?_getD, List.getElem?_eq_getElem (by omega)]
          exact List.getElem_mem _) (by rw [hcc.1]; exact hi)
        have hs := ih (by omega) i hi
        unfold one
        rw [hcc.1]
        split
        · exact hs.torn hm cut hc
        · split
          · exact hm
          · exact hs
      · exact ih (by omega) i hi
  exact hk _ (Nat.le_refl _)
theorem Cap.doFlush {B : Int} {D : DS} (h : Cap B D) : Cap B D.doFlush := by
  unfold DS.doFlush
  split
  · exact h
  · split
    · exact ⟨h.sec, h.mem⟩
    · exact h.step.flush
theorem Cap.andW {B : Int} {x : DS × Int} (h : Cap B x.1) (i : Int) (b : List Int) (hb : i < 2 → Low B b) : Cap B (andW x i b).1 := by
  unfold Go.Proofs.YtmphnhigohkaeaaDoor.andW
  split
  · exact h.write i b hb
  · exact h
theorem Cap.andF {B : Int} {x : DS × Int} (h : Cap B x.1) : Cap B (andF x).1 := by
  unfold Go.Proofs.YtmphnhigohkaeaaDoor.andF
  split
  · exact h.doFlush
  · exact h
theorem Cap.wsF {B : Int} {x : DS × Int} (h : Cap B x.1) (f : Nat → Int × List Int) (n : Nat) (hf : ∀ k, k < n → 2 ≤ (f k).1) : ∀ k, k ≤ n → Cap B (wsF x f k).1 := fun k => by
  induction k with
  | zero => intro _; exact h
  | succ k ih => intro hk; exact (ih (by omega)).andW _ _ (fun h2 => by have := hf k (by omega); omega)

/-- A Commit: the stamp is one more at most. -/
theorem Cap.commit {B s : Int} {D : DS} {L : Nat} {l : List (Int × List Int)} (h : Cap B D) (h0 : 0 ≤ s) (h1 : s < 200) (hs : s ≤ B) (hL : 48 + L ≤ D.secs.length) : Cap (B + 1) (commitOut D s L l).1 ∧ s ≤ (commitOut D s L l).2.1 ∧ (commitOut D s L l).2.1 ≤ B + 1 := by
  have hC := h.mono (show B ≤ B + 1 by omega)
  by_cases he : commitE L l ≠ 0
  · rw [show commitOut D s L l = (D, s, commitE L l) by unfold commitOut; rw [if_pos he]]
    exact ⟨hC, Int.le_refl _, by show s ≤ B + 1; omega⟩
  · by_cases hd : D.down = true
    · rw [show commitOut D s L l = (D, s, 9) by unfold commitOut; rw [if_neg he, if_pos hd]]
      exact ⟨hC, Int.le_refl _, by show s ≤ B + 1; omega⟩
    · by_cases hl : l = []
      · rw [show commitOut D s L l = (D, s, 0) by unfold commitOut; rw [if_neg he, if_neg hd, if_pos hl]]
        exact ⟨hC, Int.le_refl _, by show s ≤ B + 1; omega⟩
      · have he0 : commitE L l = 0 := by
          by_cases h2 : commitE L l = 0
          · exact h2
          · exact absurd h2 he
        have hv := valid_of he0
        rw [show commitOut D s L l = ((commitRun D s l).1, if (commitRun D s l).2 = 0 then s + 1 else s, (commitRun D s l).2) by unfold commitOut; rw [if_neg he, if_neg hd, if_neg hl]]
        refine ⟨?_, by show s ≤ ite _ _ _; split <;> omega, by show ite _ _ _ ≤ B + 1; split <;> omega⟩
        show Cap (B + 1) (commitRun D s l).1
        unfold commitRun commitC
        refine Cap.andF (Cap.wsF ?_ _ l.length (fun k hk => ?_) _ (Nat.le_refl _))
        · unfold commitB
          refine Cap.andF ?_
          have hA : Cap (B + 1) (commitA D ((s + 1) % 2) l).1 := by
            unfold commitA
            exact Cap.andF (Cap.wsF hC _ l.length (fun k hk => by show 2 ≤ 2 + 23 * ((s + 1) % 2) + (k : Int); omega) _ (Nat.le_refl _))
          split
          · split
            · have hm : makeOut (s + 1) (markB l) = (secL (s + 1) (markB l), 0) := (mark_made hv (by omega) (by omega)).1
              rw [hm]
              exact hA.andW _ _ (fun _ => (low_secL (by omega) (by omega) (by rw [length_markB]; have := hv.len; omega)).mono (by omega))
            · exact hA
          · exact hA
        · have := hv.num k hk
          show 2 ≤ 48 + (l.getD k (0, [])).1
          omega
theorem mark_low {B : Int} {L : Nat} {b : List Int} {s : Int} {l : List Int} (h : Low B b) (hm : mark L b = some (s, l)) : s ≤ B := by
  unfold mark at hm
  split at hm
  · rename_i hc
    simp only [Option.some.injEq, Prod.mk.injEq] at hm
    have hv := h.val
    have h0 := hc.1
    rw [← hm.1]
    unfold openOut at h0 ⊢
    by_cases h1 : b.length ≠ 32
    · rw [if_pos h1] at h0; cases h0
    · rw [if_neg h1] at h0 ⊢
      by_cases h2 : getV b 0 4 ≠ getV b 28 4
      · rw [if_pos h2] at h0; cases h0
      · rw [if_neg h2] at h0 ⊢
        by_cases h3 : getV b 0 4 = 0
        · rw [if_pos h3] at h0; cases h0
        · rw [if_neg h3]; exact hv
  · cases hm
theorem Cap.rd {B : Int} {D : DS} (h : Cap B D) {i : Nat} (hi : i < 2) : Low B (D.rd i) := by
  unfold DS.rd
  cases e : D.mem.lookup i with
  | none => exact h.sec i hi
  | some b => exact h.mem _ (lookup_mem e) hi
/-- Opened anew: no mark is another, the stamp is that of a mark. -/
theorem Cap.openP {B : Int} {D : DS} {L : Nat} (h : Cap B D) (hok : D.Ok) (hl : 2 ≤ D.secs.length) (hB : 0 ≤ B) : Cap B (openP D L).1 ∧ 0 ≤ (openP D L).2.1 ∧ (openP D L).2.1 ≤ B := by
  have hst : ∀ (x : Int × Nat × List Int) (i : Nat), i < 2 → ((0 ≤ x.1 ∧ x.1 ≤ B) ∧ ∀ z ∈ x.2.2, 0 ≤ z) → ((0 ≤ (pick x i (mark L (D.rd i))).1 ∧ (pick x i (mark L (D.rd i))).1 ≤ B) ∧ ∀ z ∈ (pick x i (mark L (D.rd i))).2.2, 0 ≤ z) := fun x i hi hx => by
    unfold pick
    cases hm : mark L (D.rd i) with
    | none => exact hx
    | some y =>
      obtain ⟨s, l⟩ := y
      have hf := mark_facts (hok.rd (show i < D.secs.length by omega)).2 hm
      have hb := mark_low (h.rd hi) hm
      dsimp only
      split
      · exact ⟨⟨by show 0 ≤ s; omega, hb⟩, fun z hz => (hf.2.2.1 z hz).1⟩
      · exact hx
  have hbest : (0 ≤ (best L (D.rd 0) (D.rd 1)).1 ∧ (best L (D.rd 0) (D.rd 1)).1 ≤ B) ∧ ∀ z ∈ (best L (D.rd 0) (D.rd 1)).2.2, 0 ≤ z :=
    hst _ 1 (by omega) (hst _ 0 (by omega) ⟨⟨Int.le_refl _, hB⟩, fun z hz => by cases hz⟩)
  unfold Go.Proofs.YtmphnhigohkaeaaDoor.openP
  generalize best L (D.rd 0) (D.rd 1) = x at *
  split
  · exact ⟨h, Int.le_refl _, hB⟩
  · split
    · exact ⟨h, Int.le_refl _, hB⟩
    · refine ⟨?_, ?_, ?_⟩
      · show Cap B (openRun D x.2.1 x.2.2).1
        unfold openRun
        exact Cap.andF (Cap.wsF h _ x.2.2.length (fun k hk => by
          have := hbest.2 (x.2.2.getD k 0) (by rw [List.getD_eq_getElem?_getD, List.getElem?_eq_getElem hk]; exact List.getElem_mem _)
          show 2 ≤ 48 + x.2.2.getD k 0
          omega) _ (Nat.le_refl _))
      · show 0 ≤ ite _ _ _
        split
        · exact hbest.1.1
        · exact Int.le_refl _
      · show ite _ _ _ ≤ B
        split
        · exact hbest.1.2
        · exact hB
theorem low_zeros : Low 2 (zerosB 32) := by unfold Low; decide
theorem Cap.format {D : DS} (h : Cap 2 D) : Cap 2 (formatRun D).1 := by
  unfold formatRun
  exact Cap.andF (Cap.andW (Cap.andW (x := (D, 0)) h 0 _ (fun _ => low_secL (by decide) (by decide) (by decide))) 1 _ (fun _ => low_zeros))
theorem cap_new {n : Nat} (h : 2 ≤ n) : Cap 2 (ds0 (zsecs n) (-1)) := by
  refine ⟨fun i hi => ?_, fun x hx => by cases hx⟩
  have e : (zsecs n).getD i [] = zerosB 32 := by
    unfold zsecs
    rw [List.getD_eq_getElem?_getD, List.getElem?_replicate, if_pos (by omega)]
    rfl
  show Low 2 ((zsecs n).getD i [])
  rw [e]
  exact low_zeros

section
variable {w0 w w' : World} {p m q r : Nat} {S S' T T' : Nat → Prop} {D D' E E' : DS} {s s' t t' : Int} {L n g : Nat} {v : List Int}
theorem Pp.setV (h : Pp w0 w p m q r S T D E s t L n g v) (i : Nat) (x : Int) (hi : i < v.length) : Pp w0 (w.setCell ⟨g, i, none⟩ (.int .i64 x)) p m q r S T D E s t L n g (v.set i x) := by
  have hset : ∀ k, k ≠ g → (w.setCell ⟨g, i, none⟩ (.int .i64 x)).heap[k]? = w.heap[k]? := fun k hk => heap_setCell_other _ _ _ _ hk
  have hsz : w.heap.size ≤ (w.setCell ⟨g, i, none⟩ (.int .i64 x)).heap.size := by simp
  have ht : Turn (fun k => k = g) (fun k => k = g) w (w.setCell ⟨g, i, none⟩ (.int .i64 x)) := ⟨rfl, rfl, rfl, hsz, fun k _ hk => hset k hk, fun _ _ h => h⟩
  exact ⟨⟨h.live.dev.turn ht (fun k hk e => h.ng (.inl (e ▸ hk))), h.live.bel.trans (ht.below (fun k e => e ▸ h.gb) h.live.bel.size), h.live.base⟩, h.ref.turn ht (fun k hk e => h.nt (.inl (e ▸ hk))), (h.pg.turn ht (fun e => h.ng (.inr e.symm))).1, (h.rp.turn ht (fun e => h.nt (.inr e.symm))).1, h.qS, h.rT, h.apart, h.base, h.qb, h.row.set i x hi, h.ng, h.nt, h.gb, h.dn, h.en, h.cnt, h.L1⟩
/-- A new row of numbers in place of the old one. -/
theorem Pp.newV (h : Pp w0 w p m q r S T D E s t L n g v) {u : List Int} (hb : Below w.heap.size w w') (hv : VAt w' w.heap.size u) : Pp w0 w' p m q r S T D E s t L n w.heap.size u := by
  have h2 := h.below hb
  exact ⟨h2.live, h2.ref, h2.pg, h2.rp, h2.qS, h2.rT, h2.apart, h2.base, h2.qb, hv, fun hs => Nat.lt_irrefl _ (h.lt1 _ hs), fun hs => Nat.lt_irrefl _ (h.lt2 _ hs), h.live.bel.size, h2.dn, h2.en, h2.cnt, h2.L1⟩
end
end Go.Proofs.YtmphnhigohkaeaaDoor
/-! Both pages with no row beside them; pages that were picked out of a list, in a row that append made. (Part of the proof of PagesPlays.) -/
namespace Go.Proofs.YtmphnhigohkaeaaDoor
open Go.RowKit
set_option linter.unusedVariables false

/-- Both pages, each over its own device, apart from each other. -/
structure Pb (w0 w : World) (p m q r : Nat) (S T : Nat → Prop) (D E : DS) (s t : Int) (L n : Nat) : Prop where
  live : Live w0 w p S D
  ref : Ref w m T E
  pg : PgAt w q p s
  rp : RpAt w r m t L
  qS : ¬ S q
  rT : ¬ T r
  apart : ∀ k, plus S q k → ¬ plus T r k
  base : ∀ k, plus T r k → w0.heap.size ≤ k
  qb : w0.heap.size ≤ q
  dn : D.secs.length = n
  en : E.secs.length = n
  cnt : cntI n = L
  L1 : 1 ≤ L

section
variable {w0 w w' : World} {p m q r : Nat} {S S' T T' : Nat → Prop} {D D' E E' : DS} {s s' t t' : Int} {L n g : Nat} {v : List Int}
theorem Pp.both (h : Pp w0 w p m q r S T D E s t L n g v) : Pb w0 w p m q r S T D E s t L n :=
  ⟨h.live, h.ref, h.pg, h.rp, h.qS, h.rT, h.apart, h.base, h.qb, h.dn, h.en, h.cnt, h.L1⟩
theorem Pb.row (h : Pb w0 w p m q r S T D E s t L n) {u : List Int} (hb : Below w.heap.size w w') (hv : VAt w' w.heap.size u) : Pp w0 w' p m q r S T D E s t L n w.heap.size u := by
  have l1 : ∀ k, plus S q k → k < w.heap.size := fun k hk => by
    rcases hk with hk | rfl
    · exact h.live.dev.lt k hk
    · exact h.pg.lt
  have l2 : ∀ k, plus T r k → k < w.heap.size := fun k hk => by
    rcases hk with hk | rfl
    · exact h.ref.lt k hk
    · exact h.rp.lt
  exact ⟨h.live.below hb, h.ref.below hb, h.pg.below hb, h.rp.below hb, h.qS, h.rT, h.apart, h.base, h.qb, hv, fun hs => Nat.lt_irrefl _ (l1 _ hs), fun hs => Nat.lt_irrefl _ (l2 _ hs), h.live.bel.size, h.dn, h.en, h.cnt, h.L1⟩
theorem Pb.below (h : Pb w0 w p m q r S T D E s t L n) (hb : Below w.heap.size w w') : Pb w0 w' p m q r S T D E s t L n :=
  ⟨h.live.below hb, h.ref.below hb, h.pg.below hb, h.rp.below hb, h.qS, h.rT, h.apart, h.base, h.qb, h.dn, h.en, h.cnt, h.L1⟩
/-- What stands at B or behind is another. -/
theorem Pp.other {U U' : Nat → Prop} {B : Nat} (h : Pp w0 w p m q r S T D E s t L n g v) (ht : Turn U U' w w') (hU : ∀ k, U k → B ≤ k) (hB : w0.heap.size ≤ B) (h1 : ∀ k, plus S q k → k < B) (h2 : ∀ k, plus T r k → k < B) (h3 : g < B) : Pp w0 w' p m q r S T D E s t L n g v :=
  ⟨⟨h.live.dev.turn ht (fun k hk e => by have := h1 k (.inl hk); have := hU k e; omega), h.live.bel.trans (ht.below (fun k e => by have := hU k e; omega) h.live.bel.size), h.live.base⟩, h.ref.turn ht (fun k hk e => by have := h2 k (.inl hk); have := hU k e; omega), (h.pg.turn ht (fun e => by have := h1 q (.inr rfl); have := hU q e; omega)).1, (h.rp.turn ht (fun e => by have := h2 r (.inr rfl); have := hU r e; omega)).1, h.qS, h.rT, h.apart, h.base, h.qb, (ht.block g h.row.lt (fun e => by have := hU g e; omega)).trans h.row, h.ng, h.nt, h.gb, h.dn, h.en, h.cnt, h.L1⟩
/-- Both formatted. -/
theorem pb_made {w1 w2 w3 : World} (hl : Live w0 w1 p S D) (hr : Ref w1 m T E) (hap : ∀ k, S k → ¬ T k) (hbT : ∀ k, T k → w0.heap.size ≤ k)
    (hl2 : Live w0 w2 p S' D') (ht2 : Turn S S' w1 w2) (hpg : PgAt w2 q p s) (hq : w1.heap.size ≤ q) (hout : ¬ S' q)
    (hr3 : Ref w3 m T' E') (ht3 : Turn T T' w2 w3) (hrp : RpAt w3 r m t L) (hrr : ¬ T' r) (hw : w2.heap.size ≤ r)
    (hd : D'.secs.length = n) (he : E'.secs.length = n) (hc : cntI n = L) (hL : 1 ≤ L) : Pb w0 w3 p m q r S' T' D' E' s t L n := by
  have hTlt : ∀ k, T k → k < w1.heap.size := fun k hk => hr.lt k hk
  have hqT : ¬ T q := fun h => by have := hTlt q h; omega
  have hS'T : ∀ k, S' k → ¬ T k := fun k hs ht => hap k (ht2.foot k (hTlt k ht) hs) ht
  have hqlt := hpg.lt
  have hb3 : ∀ k, T' k → w0.heap.size ≤ k := fun k hk => by
    rcases Nat.lt_or_ge k w2.heap.size with h1 | h1
    · exact hbT k (ht3.foot k h1 hk)
    · exact Nat.le_trans hl2.bel.size h1
  have hsz1 := hl.bel.size
  have hsz2 := hl2.bel.size
  refine ⟨⟨hl2.dev.turn ht3 (fun k hk => hS'T k hk), hl2.bel.trans (ht3.below hbT hl2.bel.size), hl2.base⟩, hr3, (hpg.turn ht3 hqT).1, hrp, hout, hrr, ?_, ?_, by omega, hd, he, hc, hL⟩
  · intro k hk hk2
    have hk1 : k < w2.heap.size := by
      rcases hk with hk | rfl
      · exact hl2.dev.lt k hk
      · exact hqlt
    rcases hk2 with hk2 | rfl
    · have h5 := ht3.foot k hk1 hk2
      rcases hk with hk | rfl
      · exact hS'T k hk h5
      · exact hqT h5
    · omega
  · intro k hk
    rcases hk with hk | rfl
    · exact hb3 k hk
    · omega
end

theorem info_page3 : (Tryd.prog.info? 43).map (fun i => (i.zero, i.size, i.bytes)) = some (some (.agg #[.int .i64 0, .slice none 0 0]), 2, 32) := by kernel_rfl
/-- Pages x in a row of their own, which stands at B or behind; their bodies came in. -/
def Xs (w0 w : World) (B : Nat) (v : Value) (x : List (Int × List Int)) : Prop :=
  ∃ xs : List Value, w.ownsRow B 43 2 v x.length xs ∧ ∀ i, i < x.length → xs[i * 2]? = some (.int .i64 (x.getD i (0, [])).1) ∧ ∃ ab capb, xs[i * 2 + 1]? = some (.slice ab (x.getD i (0, [])).2.length capb) ∧ Bs w0 ab capb (x.getD i (0, [])).2 ∧ -9223372036854775808 ≤ (x.getD i (0, [])).1 ∧ (x.getD i (0, [])).1 ≤ 9223372036854775807

theorem Xs.nil (w0 w : World) (B : Nat) : Xs w0 w B (.slice none 0 0) [] := ⟨[], World.ownsRow_nil _ _ _ _, fun i hi => by cases hi⟩
theorem Xs.pgsO {w0 w : World} {B : Nat} {v : Value} {x : List (Int × List Int)} {S : Nat → Prop} (h : Xs w0 w B v x) (hw : Below w0.heap.size w0 w) (hx : x.length ≤ 1000) (hS : ∀ k, S k → w0.heap.size ≤ k ∧ k < B) :
    ∃ a cap, v = .slice a x.length cap ∧ PgsO w S a cap x ∧ (∀ y, a = some y → B ≤ y.block) := by
  obtain ⟨xs, ⟨hlen, hrow⟩, hc⟩ := h
  rcases hrow with ⟨rfl, h0⟩ | ⟨g, cap, cur, rfl, hB, hb, h3, h4, h5, h6⟩
  · refine ⟨none, 0, by rw [h0], ⟨by omega, by omega, fun hne => absurd (List.eq_nil_of_length_eq_zero h0) hne⟩, fun y hy => by cases hy⟩
  · refine ⟨some ⟨g, 0, none⟩, cap, rfl, ⟨h3, by omega, fun hne => ⟨g, 0, rfl, fun hs => by have := hS g hs; omega, fun i hi => ?_⟩⟩, fun y hy => by obtain rfl := Option.some.inj hy; exact hB⟩
    obtain ⟨c0, ab, capb, c1, hbs, hr1, hr2⟩ := hc i hi
    have hcell : ∀ j u, xs[j]? = some u → w.cell? ⟨g, 0 + j, none⟩ = some u := fun j u hj => by
      rw [cell_of_row _ _ _ _ _ _ hb, Nat.zero_add]
      rw [← h6, List.getElem?_take] at hj
      split at hj
      · simpa using hj
      · cases hj
    exact ⟨hcell _ _ c0, ab, capb, hcell _ _ c1, hbs.below hw, fun hne y hy hs => by have h7 := hbs.lt hne hy; have h8 := (hS _ hs).1; omega, hr1, hr2⟩
theorem Xs.same {w0 w w' : World} {B : Nat} {v : Value} {x : List (Int × List Int)} (h : Xs w0 w B v x) (hs : ∀ g, B ≤ g → g < w.heap.size → w'.heap[g]? = w.heap[g]?) : Xs w0 w' B v x := by
  obtain ⟨xs, ho, hc⟩ := h
  refine ⟨xs, ownsRow_same ho (fun g hg => ?_), hc⟩
  have := ho.lt g hg
  exact hs g this.1 this.2
theorem Xs.more {w0 w w' : World} {B : Nat} {v v' : Value} {x : List (Int × List Int)} {z : Int} {b : List Int} {ab : Option Addr} {capb : Nat} {xs : List Value}
    (hc : ∀ i, i < x.length → xs[i * 2]? = some (.int .i64 (x.getD i (0, [])).1) ∧ ∃ ab capb, xs[i * 2 + 1]? = some (.slice ab (x.getD i (0, [])).2.length capb) ∧ Bs w0 ab capb (x.getD i (0, [])).2 ∧ -9223372036854775808 ≤ (x.getD i (0, [])).1 ∧ (x.getD i (0, [])).1 ≤ 9223372036854775807)
    (hl : xs.length = x.length * 2) (hbs : Bs w0 ab capb b) (h1 : -9223372036854775808 ≤ z) (h2 : z ≤ 9223372036854775807) (ho : w'.ownsRow B 43 2 v' (x.length + 1) (xs ++ [.int .i64 z, .slice ab b.length capb])) : Xs w0 w' B v' (x ++ [(z, b)]) := by
  refine ⟨xs ++ [.int .i64 z, .slice ab b.length capb], by rw [List.length_append]; exact ho, fun i hi => ?_⟩
  rw [List.length_append] at hi
  simp only [List.length_cons, List.length_nil] at hi
  by_cases e : i < x.length
  · have eg : (x ++ [(z, b)]).getD i (0, []) = x.getD i (0, []) := by simp only [List.getD_eq_getElem?_getD]; rw [List.getElem?_append_left e]
    rw [eg, List.getElem?_append_left (by omega), List.getElem?_append_left (by omega)]
    exact hc i e
  · obtain rfl : i = x.length := by omega
    have eg : (x ++ [(z, b)]).getD x.length (0, []) = (z, b) := by simp only [List.getD_eq_getElem?_getD]; rw [List.getElem?_append_right (Nat.le_refl _)]; simp
    rw [eg, List.getElem?_append_right (by omega), List.getElem?_append_right (by omega), hl]
    simp only [Nat.sub_self, Nat.add_sub_cancel_left]
    exact ⟨rfl, ab, capb, rfl, hbs, h1, h2⟩
/-- The pages that are picked: from the v-th on, round and round. -/
def pick1 (l : List (Int × List Int)) (v k : Nat) : List (Int × List Int) := (List.range k).map (fun j => l.getD ((j + v) % l.length) (0, []))
theorem pick1_length (l : List (Int × List Int)) (v k : Nat) : (pick1 l v k).length = k := by unfold pick1; simp
theorem pick1_succ (l : List (Int × List Int)) (v k : Nat) : pick1 l v (k + 1) = pick1 l v k ++ [l.getD ((k + v) % l.length) (0, [])] := by unfold pick1; rw [List.range_succ, List.map_append]; rfl
theorem cell_two_new (w : World) (x y : Value) (t : TypeId) : ∀ j u, [x, y][j]? = some u → (w.alloc (.cells #[x, y] t)).cell? ((⟨w.heap.size, 0, none⟩ : Addr).add j) = some u := by
  intro j u hj
  match j, hj with
  | 0, hj => simp at hj; subst hj; simp [Addr.add]
  | 1, hj => simp at hj; subst hj; simp [Addr.add]
theorem one_page (z : Int) (a : Option Addr) (n c : Nat) : ∀ u ∈ [Value.int .i64 z, Value.slice a n c], u.oneCell' = true := by
  intro u hu
  rcases List.mem_cons.1 hu with rfl | hu
  · rfl
  · rcases List.mem_cons.1 hu with rfl | hu
    · rfl
    · cases hu
end Go.Proofs.YtmphnhigohkaeaaDoor
