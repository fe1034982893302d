/-
  How pages and a table beside them stand, while the power goes. (Part of the proof of PagesSafe.)
-/
import Derived.Test.YtidhbfondfclpaaDoorJTell
namespace Go.Proofs.YtidhbfondfclpaaDoor
open Go.RowKit
set_option linter.unusedVariables false

structure SafeB (w0 w : World) (p t n L : Nat) (S : Nat → Prop) (D : DS) (F : Nat → List Int) : Prop where
  live : Live w0 w p S D
  len : D.secs.length = n
  tbl : Tbl w S t L F
  tb : w0.heap.size ≤ t
structure SafeC (w0 w : World) (p q t n L : Nat) (S : Nat → Prop) (D : DS) (s : Int) (P F : Nat → List Int) : Prop where
  live : Live w0 w p S D
  pg : PgAt w q p s
  out : ¬ S q
  base : w0.heap.size ≤ q
  ready : Ready D L s P
  rd : ∀ i, i < L → D.rd (48 + i) = P i
  len : D.secs.length = n
  tbl : Tbl w (plus S q) t L F
  tb : w0.heap.size ≤ t

section
variable {w0 w w' : World} {p q t n L : Nat} {S : Nat → Prop} {D : DS} {s : Int} {P F : Nat → List Int}
theorem SafeB.below (h : SafeB w0 w p t n L S D F) (hb : Below w.heap.size w w') : SafeB w0 w' p t n L S D F := ⟨h.live.below hb, h.len, h.tbl.below hb, h.tb⟩
theorem SafeC.below (h : SafeC w0 w p q t n L S D s P F) (hb : Below w.heap.size w w') : SafeC w0 w' p q t n L S D s P F :=
  ⟨h.live.below hb, h.pg.below hb, h.out, h.base, h.ready, h.rd, h.len, h.tbl.below hb, h.tb⟩
theorem SafeC.drewN (h : SafeC w0 w p q t n L S D s P F) (m : Nat) : SafeC w0 (w.drewN m) p q t n L S D s P F := h.below (below_drewN (Below.refl _ _) m)

theorem SafeB.fail (h : SafeB w0 w p t n L S D F) (x : Int) (hx : -9223372036854775808 ≤ x ∧ x ≤ 9223372036854775807) :
    Calls Tryd.prog 14 #[.pointer (some ⟨p, 0, none⟩), .int .i64 x] w fun e w' => e = .returned (.tuple #[]) ∧ ∃ S', SafeB w0 w' p t n L S' { D with left := x } F :=
  (h.live.fail x hx).mono fun e w' ⟨he, S', hl, ht⟩ => ⟨he, S', hl, h.len, h.tbl.turn ht, h.tb⟩
theorem SafeC.fail (h : SafeC w0 w p q t n L S D s P F) (x : Int) (hx : -9223372036854775808 ≤ x ∧ x ≤ 9223372036854775807) :
    Calls Tryd.prog 14 #[.pointer (some ⟨p, 0, none⟩), .int .i64 x] w fun e w' => e = .returned (.tuple #[]) ∧ ∃ S', SafeC w0 w' p q t n L S' { D with left := x } s P F :=
  (h.live.fail x hx).mono fun e w' ⟨he, S', hl, ht⟩ => ⟨he, S', hl, (h.pg.turn ht h.out).1, (h.pg.turn ht h.out).2, h.base, h.ready.fail hx, h.rd, h.len, h.tbl.turn (ht.plus q), h.tb⟩
theorem SafeB.crash (h : SafeB w0 w p t n L S D F) (torn cut : Int) {a : Option Addr} {cap : Nat} {keep : List Bool} (hb : Bls w0 a cap keep) :
    Calls Tryd.prog 15 #[.pointer (some ⟨p, 0, none⟩), .slice a keep.length cap, .int .i64 torn, .int .i64 cut] w fun e w' => e = .returned (.int .i64 D.mem.length) ∧ ∃ S', SafeB w0 w' p t n L S' (D.crash keep torn (cutN cut)) F :=
  (h.live.crash torn cut (h.live.bls hb)).mono fun e w' ⟨he, S', hl, ht⟩ => ⟨he, S', hl, by
    show (crashK _ _ _ _ _ _).length = n
    rw [length_crashK]; exact h.len, h.tbl.turn ht, h.tb⟩

/-- What Open comes to, on a device that can be opened. -/
theorem SafeB.open (h : SafeB w0 w p t n L S D F) (hr : Ready D L s P) (hL : cntI n = L) (hL1 : 1 ≤ L) :
    Calls Tryd.prog 11 #[.pointer (some ⟨p, 0, none⟩)] w fun e w' =>
      (∃ q', e = .returned (.tuple #[.pointer (some ⟨q', 0, none⟩), .nilIface]) ∧ ∃ S' D', SafeC w0 w' p q' t n L S' D' s P F) ∨
      (e = .returned (.tuple #[.pointer none, errV 9]) ∧ ¬ D.left < 0 ∧ ∃ S' D', SafeB w0 w' p t n L S' D' F ∧ ∀ keep torn c, c ≤ 32 → Ready (D'.crash keep torn c) L s P) := by
  refine (open_go h.live (by rw [h.len]; exact hL) hL1 hr.down).mono ?_
  rintro e w' ⟨v, rfl, S', hlv, ht, hyes, hno⟩
  have hsz := h.live.bel.size
  rcases open_ready hr with ⟨r1, r2, r3, r4, r5⟩ | ⟨r1, r2, r3, r4, r5⟩
  · left
    obtain ⟨q', rfl, hpg, hq', hout⟩ := hyes r1
    rw [r2] at hpg
    rw [r1, errV_zero]
    refine ⟨q', rfl, S', _, hlv, hpg, hout, by omega, r4, fun i hi => ?_, by rw [r3.len]; exact h.len, ?_, h.tb⟩
    · rw [rd_img r3.mem]; exact r3.pages i hi
    · exact (h.tbl.more (q := q') hq').turn (ht.plus q')
  · right
    have hv := hno (by rw [r1]; decide)
    subst hv
    rw [r1]
    refine ⟨rfl, r2, S', _, ⟨hlv, ?_, h.tbl.turn ht, h.tb⟩, r5⟩
    have hmark := open_all hr.ok hr.mem hr.down hr.len hr.rec'
    obtain ⟨a, l, hb, hs, h2, hl, hn, hres⟩ := hmark
    have e0 : openP D L = ((openRun D a l).1, if (openRun D a l).2 = 0 then s else 0, (openRun D a l).2) := by
      unfold openP
      rw [rd_img hr.mem, rd_img hr.mem, hb, if_neg (by rw [hr.down]; exact Bool.false_ne_true), if_neg (show ¬ s = 0 by omega)]
    rw [e0] at r1 ⊢
    rcases hres with ⟨q1, _⟩ | ⟨_, _, q3, _⟩
    · have r1' : (openRun D a l).2 = 9 := r1
      rw [q1] at r1'; cases r1'
    · show (openRun D a l).1.secs.length = n
      rw [q3]; exact h.len

theorem SafeC.toB (h : SafeC w0 w p q t n L S D s P F) : SafeB w0 w p t n L S D F := ⟨h.live, h.len, h.tbl.less, h.tb⟩
/-- Opened once more nothing is another. -/
theorem SafeC.reopen (h : SafeC w0 w p q t n L S D s P F) (hl : D.left < 0) (hL : cntI n = L) (hL1 : 1 ≤ L) :
    Calls Tryd.prog 11 #[.pointer (some ⟨p, 0, none⟩)] w fun e w' => ∃ r, e = .returned (.tuple #[.pointer (some ⟨r, 0, none⟩), .nilIface]) ∧ PgAt w' r p s ∧ PgAt w' q p s ∧ Below w0.heap.size w0 w' := by
  refine (open_go h.live (by rw [h.len]; exact hL) hL1 h.ready.down).mono ?_
  rintro e w' ⟨v, rfl, S', hlv, ht, hyes, hno⟩
  rcases open_ready h.ready with ⟨r1, r2, r3, r4, r5⟩ | ⟨r1, r2, r3, r4, r5⟩
  · obtain ⟨q', rfl, hpg, hq', hout⟩ := hyes r1
    rw [r2] at hpg
    rw [r1, errV_zero]
    exact ⟨q', rfl, hpg, (h.pg.turn ht h.out).1, hlv.bel⟩
  · exact absurd hl r2

/-- What the second Commit comes to, whatever is kept. -/
theorem RowSt.second (h : RowSt w0 w p q t n L S D s P F) (x : Int) (hx : -9223372036854775808 ≤ x ∧ x ≤ 9223372036854775807) {S1 : Nat → Prop} {w1 : World} (hl1 : Live w0 w1 p S1 { D with left := x }) (ht1 : Turn S S1 w w1) (hL : cntI n = L) (hs : s ≤ 900) (hs0 : 0 ≤ s) (a : Option Addr) (cap : Nat) (l : List (Int × List Int)) (hl : PgsO w0 (fun _ => False) a cap l) :
    Calls Tryd.prog 10 #[.pointer (some ⟨q, 0, none⟩), .slice a l.length cap] w1 fun e w' => ∃ E : Int, e = .returned (errV E) ∧ ∃ S' D', SafeB w0 w' p t n L S' D' F ∧
      ∀ keep torn c, c ≤ 32 → (Ready (D'.crash keep torn c) L s P ∧ ¬ (E = 0 ∧ l ≠ [])) ∨ (Ready (D'.crash keep torn c) L (s + 1) (upd P l) ∧ l ≠ [] ∧ (E = 0 ∨ E = 9) ∧ Valid L l) := by
  obtain ⟨a0, nl, hn⟩ := h.neat
  have hn1 := hn.fail hx
  obtain ⟨hpg1, hout1⟩ := h.pg.turn ht1 h.out
  have hb : ∀ k, k < l.length → Byt (l.getD k (0, [])).2 := fun k hk => by
    obtain ⟨b, off, _, _, h6⟩ := hl.2.2 (List.length_pos_iff.1 (by omega))
    obtain ⟨_, _, _, _, hbs, _⟩ := h6 k hk
    exact hbs.1
  refine (commit_any hl1 hpg1 hout1 h.base a cap l (hl.live hl1) (by show cntI D.secs.length = L; rw [h.len]; exact hL) hs0 (by omega)).mono ?_
  rintro e w' ⟨rfl, S', hlv, hpg, hout, ht⟩
  refine ⟨_, rfl, S', _, ⟨hlv, ?_, ((h.tbl.turn (ht1.plus q)).turn ht).less, h.tb⟩, fun keep torn c hc => commit_crash hn1 (by omega) l hb keep torn c hc⟩
  unfold commitOut
  split
  · exact h.len
  · rename_i he
    split
    · exact h.len
    · split
      · exact h.len
      · have hv := valid_of (show commitE L l = 0 by omega)
        show (commitRun { D with left := x } s l).1.secs.length = n
        rcases commit_all hn1 (by omega) hv hb with ⟨_, _, r3⟩ | ⟨_, _, r3, _⟩
        · rw [r3]; exact h.len
        · rw [r3]; exact h.len
end
end Go.Proofs.YtidhbfondfclpaaDoor
