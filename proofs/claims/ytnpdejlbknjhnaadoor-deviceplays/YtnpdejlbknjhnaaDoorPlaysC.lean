/-
  Two devices side by side, and a row of four numbers beside them: what the steps of both come to. (Part of the proof of DevicePlays.)
-/
import Derived.Test.YtnpdejlbknjhnaaDoorPlaysB
namespace Go.Proofs.YtnpdejlbknjhnaaDoor
open Go.RowKit
set_option linter.unusedVariables false

theorem DS.secs_step (D : DS) : D.step.secs = D.secs := by
  unfold DS.step
  split
  · rfl
  · split <;> rfl
theorem DS.len_write (D : DS) (i : Int) (b : List Int) : (D.write i b).secs.length = D.secs.length := by
  unfold DS.write
  split
  · rfl
  · rw [DS.secs_step]; rfl
theorem DS.len_flush (D : DS) : D.doFlush.secs.length = D.secs.length := by
  unfold DS.doFlush
  split
  · rfl
  · split
    · rfl
    · show (flushK D.step.secs D.step.mem D.step.mem.length).length = _
      rw [length_flushK, DS.secs_step]
theorem DS.len_crash (D : DS) (keep : List Bool) (torn : Int) (cut : Nat) : (D.crash keep torn cut).secs.length = D.secs.length := length_crashK _ _ _ _ _ _

/-- A row of numbers that is a variable of its own. -/
def VAt (w : World) (g : Nat) (l : List Int) : Prop := w.heap[g]? = some (.cells (cellsI l) 33 (0, 0))
theorem VAt.cell {w : World} {g : Nat} {l : List Int} (h : VAt w g l) (i : Nat) (hi : i < l.length) : w.cell? ⟨g, i, none⟩ = some (.int .i64 (l.getD i 0)) := by
  rw [cell_of_row w g i _ 33 (0, 0) h]; simp [cellsI, hi, List.getD]
theorem VAt.fr {w : World} {g : Nat} {l : List Int} (h : VAt w g l) (i : Nat) : w.frozen? ⟨g, i, none⟩ = false := frozen_of_row _ _ _ _ _ h
theorem VAt.lt {w : World} {g : Nat} {l : List Int} (h : VAt w g l) : g < w.heap.size := (Array.getElem?_eq_some_iff.1 h).1
theorem VAt.set {w : World} {g : Nat} {l : List Int} (h : VAt w g l) (i : Nat) (x : Int) (hi : i < l.length) : VAt (w.setCell ⟨g, i, none⟩ (.int .i64 x)) g (l.set i x) := by
  unfold VAt at *
  rw [heap_setCell_same w g i (cellsI l) 33 (.int .i64 x) h]
  simp [cellsI, List.map_set]

/-- The first device is at D, the second at E. -/
structure Play (w0 w : World) (p m : Nat) (S T : Nat → Prop) (D E : DS) (n g : Nat) (l : List Int) : Prop where
  live : Live w0 w p S D
  ref : Ref w m T E
  apart : ∀ k, S k → ¬ T k
  base : ∀ k, T k → w0.heap.size ≤ k
  row : VAt w g l
  ns : ¬ S g
  nt : ¬ T g
  gb : w0.heap.size ≤ g
  dn : D.secs.length = n
  en : E.secs.length = n
  n1 : 1 ≤ n

section
variable {w0 w w' : World} {p m : Nat} {S S' T T' : Nat → Prop} {D D' E E' : DS} {n g : Nat} {l : List Int}

theorem Play.below (h : Play w0 w p m S T D E n g l) (hb : Below w.heap.size w w') : Play w0 w' p m S T D E n g l :=
  ⟨h.live.below hb, h.ref.below hb, h.apart, h.base, (hb.block g h.row.lt).trans h.row, h.ns, h.nt, h.gb, h.dn, h.en, h.n1⟩
theorem Play.drewN (h : Play w0 w p m S T D E n g l) (k : Nat) : Play w0 (w.drewN k) p m S T D E n g l := h.below (below_drewN (Below.refl _ _) k)
theorem Play.drew (h : Play w0 w p m S T D E n g l) : Play w0 w.drew p m S T D E n g l := h.below ⟨rfl, rfl, rfl, Nat.le_refl _, fun _ _ => rfl⟩
theorem Play.one (h : Play w0 w p m S T D E n g l) (hl : Live w0 w' p S' D') (ht : Turn S S' w w') (hd : D'.secs.length = n) : Play w0 w' p m S' T D' E n g l :=
  ⟨hl, h.ref.turn ht (fun k hk hs => h.apart k hs hk), fun k hs hk => h.apart k (ht.foot k (h.ref.lt k hk) hs) hk, h.base, (ht.block g h.row.lt h.ns).trans h.row, fun hs => h.ns (ht.foot g h.row.lt hs), h.nt, h.gb, hd, h.en, h.n1⟩
theorem Play.two (h : Play w0 w p m S T D E n g l) (hr : Ref w' m T' E') (ht : Turn T T' w w') (hd : E'.secs.length = n) : Play w0 w' p m S T' D E' n g l := by
  have hT' : ∀ k, T' k → w0.heap.size ≤ k := fun k hk => by
    rcases Nat.lt_or_ge k w.heap.size with h1 | h1
    · exact h.base k (ht.foot k h1 hk)
    · exact Nat.le_trans h.live.bel.size h1
  exact ⟨⟨h.live.dev.turn ht h.apart, h.live.bel.trans (ht.below h.base h.live.bel.size), h.live.base⟩, hr, fun k hs hk => h.apart k hs (ht.foot k (h.live.dev.lt k hs) hk), hT', (ht.block g h.row.lt h.nt).trans h.row, h.ns, fun hs => h.nt (ht.foot g h.row.lt hs), h.gb, h.dn, hd, h.n1⟩
theorem Play.setV (h : Play w0 w p m S T D E n g l) (i : Nat) (x : Int) (hi : i < l.length) : Play w0 (w.setCell ⟨g, i, none⟩ (.int .i64 x)) p m S T D E n g (l.set i x) := by
  have hset : ∀ k, k ≠ g → (w.setCell ⟨g, i, none⟩ (.int .i64 x)).heap[k]? = w.heap[k]? := fun k hk => heap_setCell_other _ _ _ _ hk
  have hsz : w.heap.size ≤ (w.setCell ⟨g, i, none⟩ (.int .i64 x)).heap.size := by simp
  have ht : Turn (fun k => k = g) (fun k => k = g) w (w.setCell ⟨g, i, none⟩ (.int .i64 x)) := ⟨rfl, rfl, rfl, hsz, fun k _ hk => hset k hk, fun _ _ h => h⟩
  exact ⟨⟨h.live.dev.turn ht (fun k hk e => h.ns (e ▸ hk)), h.live.bel.trans (ht.below (fun k e => e ▸ h.gb) h.live.bel.size), h.live.base⟩, h.ref.turn ht (fun k hk e => h.nt (e ▸ hk)), h.apart, h.base, h.row.set i x hi, h.ns, h.nt, h.gb, h.dn, h.en, h.n1⟩

/-- A new row of numbers beside both. -/
theorem Both.play (h : Both w0 w p m S T D) (hd : D.secs.length = n) (h1 : 1 ≤ n) (hb : Below w.heap.size w w') (hv : VAt w' w.heap.size l) : Play w0 w' p m S T D D n w.heap.size l :=
  ⟨h.live.below hb, h.ref.below hb, h.apart, h.base, hv, fun hs => Nat.lt_irrefl _ (h.live.dev.lt _ hs), fun hs => Nat.lt_irrefl _ (h.ref.lt _ hs), h.live.bel.size, hd, hd, h1⟩
theorem Play.both (h : Play w0 w p m S T D D n g l) : Both w0 w p m S T D := ⟨h.live, h.ref, h.apart, h.base⟩

/-- What was there at first is no part of the second. -/
theorem Play.bls2 (h : Play w0 w p m S T D E n g l) {a : Option Addr} {cap : Nat} {keep : List Bool} (hb : Bls w0 a cap keep) : Bls w a cap keep ∧ (keep ≠ [] → ∀ x, a = some x → ¬ T x.block) := by
  refine ⟨(h.live.bls hb).1, fun hne x hx hs => ?_⟩
  obtain ⟨b, off, rfl, hc⟩ := hb.2.2 hne
  obtain rfl := Option.some.inj hx
  have h1 := block_lt_of_cell (hc 0 (by cases keep with | nil => exact absurd rfl hne | cons _ _ => simp))
  have h2 := h.base _ hs
  simp at h1 h2; omega

theorem Play.write1 (h : Play w0 w p m S T D E n g l) (i : Int) {a : Option Addr} {cap : Nat} {b : List Int} (hb : Bs w0 a cap b) :
    Calls Tryd.prog 8 #[.pointer (some ⟨p, 0, none⟩), .int .i64 i, .slice a b.length cap] w fun e w' => e = .returned (errV (D.writeE i b)) ∧ (∃ S', Play w0 w' p m S' T (D.write i b) E n g l) :=
  (h.live.write i (h.live.bs hb)).mono fun e w' ⟨he, S', hl, ht⟩ => ⟨he, S', h.one hl ht (by rw [DS.len_write]; exact h.dn)⟩
theorem Play.write2 (h : Play w0 w p m S T D E n g l) (i : Int) {a : Option Addr} {cap : Nat} {b : List Int} (hb : Bs w0 a cap b) :
    Calls Tryd.prog 9 #[.pointer (some ⟨m, 0, none⟩), .int .i64 i, .slice a b.length cap] w fun e w' => e = .returned (.int .i64 (E.writeE i b)) ∧ (∃ T', Play w0 w' p m S T' D (E.write i b) n g l) :=
  (rwrite_any i a cap b h.ref (by rw [h.en]; exact h.n1) (h.live.bs hb).1).mono fun e w' ⟨he, T', hl, ht⟩ => ⟨he, T', h.two hl ht (by rw [DS.len_write]; exact h.en)⟩
theorem Play.flush1 (h : Play w0 w p m S T D E n g l) :
    Calls Tryd.prog 10 #[.pointer (some ⟨p, 0, none⟩)] w fun e w' => e = .returned (errV D.flushE) ∧ (∃ S', Play w0 w' p m S' T D.doFlush E n g l) :=
  h.live.flush.mono fun e w' ⟨he, S', hl, ht⟩ => ⟨he, S', h.one hl ht (by rw [DS.len_flush]; exact h.dn)⟩
theorem Play.flush2 (h : Play w0 w p m S T D E n g l) :
    Calls Tryd.prog 11 #[.pointer (some ⟨m, 0, none⟩)] w fun e w' => e = .returned (.int .i64 E.flushE) ∧ (∃ T', Play w0 w' p m S T' D E.doFlush n g l) :=
  (rflush_any h.ref (by rw [h.en]; exact h.n1)).mono fun e w' ⟨he, hl, ht⟩ => ⟨he, T, h.two hl ht (by rw [DS.len_flush]; exact h.en)⟩
theorem Play.fail1 (h : Play w0 w p m S T D E n g l) (i : Int) (hi : -9223372036854775808 ≤ i ∧ i ≤ 9223372036854775807) :
    Calls Tryd.prog 12 #[.pointer (some ⟨p, 0, none⟩), .int .i64 i] w fun e w' => e = .returned (.tuple #[]) ∧ (∃ S', Play w0 w' p m S' T { D with left := i } E n g l) :=
  (h.live.fail i hi).mono fun e w' ⟨he, S', hl, ht⟩ => ⟨he, S', h.one hl ht h.dn⟩
theorem Play.fail2 (h : Play w0 w p m S T D E n g l) (i : Int) (hi : -9223372036854775808 ≤ i ∧ i ≤ 9223372036854775807) :
    Calls Tryd.prog 13 #[.pointer (some ⟨m, 0, none⟩), .int .i64 i] w fun e w' => e = .returned (.tuple #[]) ∧ (∃ T', Play w0 w' p m S T' D { E with left := i } n g l) :=
  (rfail_any i hi h.ref).mono fun e w' ⟨he, hl, ht⟩ => ⟨he, T, h.two hl ht h.en⟩
theorem Play.crash1 (h : Play w0 w p m S T D E n g l) (torn cut : Int) {a : Option Addr} {cap : Nat} {keep : List Bool} (hb : Bls w0 a cap keep) :
    Calls Tryd.prog 14 #[.pointer (some ⟨p, 0, none⟩), .slice a keep.length cap, .int .i64 torn, .int .i64 cut] w fun e w' => e = .returned (.int .i64 D.mem.length) ∧ (∃ S', Play w0 w' p m S' T (D.crash keep torn (cutN cut)) E n g l) :=
  (h.live.crash torn cut (h.live.bls hb)).mono fun e w' ⟨he, S', hl, ht⟩ => ⟨he, S', h.one hl ht (by rw [DS.len_crash]; exact h.dn)⟩
theorem Play.crash2 (h : Play w0 w p m S T D E n g l) (torn cut : Int) {a : Option Addr} {cap : Nat} {keep : List Bool} (hb : Bls w0 a cap keep) :
    Calls Tryd.prog 15 #[.pointer (some ⟨m, 0, none⟩), .slice a keep.length cap, .int .i64 torn, .int .i64 cut] w fun e w' => e = .returned (.int .i64 E.mem.length) ∧ (∃ T', Play w0 w' p m S T' D (E.crash keep torn (cutN cut)) n g l) := by
  obtain ⟨sv, lv, left, hr⟩ := h.ref
  exact (rcrash_some a cap keep torn cut hr (by rw [h.en]; exact h.n1) (h.bls2 hb).1 (h.bls2 hb).2).mono fun e w' ⟨he, T', hl, ht⟩ => ⟨he, T', h.two hl ht (by rw [DS.len_crash]; exact h.en)⟩

/-- What is read: nothing, or a slice of just those bytes; by the first, and by the second. -/
def rdL (D : DS) (i : Int) : List Int := if D.readE i = 0 then D.rd i.toNat else []
theorem Play.read1 (h : Play w0 w p m S T D E n g l) (i : Int) :
    Calls Tryd.prog 17 #[.pointer (some ⟨p, 0, none⟩), .int .i64 i] w fun e w' => ∃ a cap, e = .returned (.tuple #[.slice a (rdL D i).length cap, errV (D.readE i)]) ∧ Bs w' a cap (rdL D i) ∧ Below w.heap.size w w' := by
  by_cases he : D.readE i = 0
  · have h1 : ¬ (i < 0 ∨ (D.secs.length : Int) ≤ i) := by intro hc; unfold DS.readE at he; rw [if_pos hc] at he; cases he
    have h2 : D.down = false := by
      unfold DS.readE at he; rw [if_neg h1] at he
      cases hd : D.down with
      | false => rfl
      | true => rw [hd] at he; simp at he
    obtain ⟨k, rfl⟩ : ∃ k : Nat, i = k := ⟨i.toNat, by omega⟩
    have hk : k < D.secs.length := by omega
    have hs := h.live.dev.ok.rd hk
    refine (h.live.read k hk h2).mono fun e w' ⟨gr, he2, _, hb, hbel⟩ => ⟨some ⟨gr, 0, none⟩, 32, ?_, ?_, hbel⟩
    · rw [he2]; unfold rdL; rw [if_pos he, he, errV_zero, Int.toNat_natCast, hs.1]
    · unfold rdL; rw [if_pos he, Int.toNat_natCast]
      have := hb.bs hs.2 (by rw [hs.1]; decide)
      rwa [hs.1] at this
  · refine (read_no i h.live.dev he).mono fun e w' ⟨he2, hw⟩ => ⟨none, 0, ?_, ?_, hw ▸ Below.refl _ _⟩
    · rw [he2]; unfold rdL; rw [if_neg he]; rfl
    · unfold rdL; rw [if_neg he]; exact ⟨fun z hz => (by cases hz), Nat.le_refl _, by decide, fun _ => rfl, fun h => absurd rfl h⟩
theorem Play.read2 (h : Play w0 w p m S T D E n g l) (i : Int) :
    Calls Tryd.prog 16 #[.pointer (some ⟨m, 0, none⟩), .int .i64 i] w fun e w' => ∃ a cap, e = .returned (.tuple #[.slice a (rdL E i).length cap, .int .i64 (E.readE i)]) ∧ Bs w' a cap (rdL E i) ∧ w = w' := by
  by_cases he : E.readE i = 0
  · have h1 : ¬ (i < 0 ∨ (E.secs.length : Int) ≤ i) := by intro hc; unfold DS.readE at he; rw [if_pos hc] at he; cases he
    have h2 : E.down = false := by
      unfold DS.readE at he; rw [if_neg h1] at he
      cases hd : E.down with
      | false => rfl
      | true => rw [hd] at he; simp at he
    obtain ⟨k, rfl⟩ : ∃ k : Nat, i = k := ⟨i.toNat, by omega⟩
    have hk : k < E.secs.length := by omega
    have hs : Sec (E.rd k) := by obtain ⟨_, _, _, hr⟩ := h.ref; exact hr.ok.rd hk
    refine (rread_yes k h.ref hk h2).mono fun e w' ⟨⟨v, he2, gv, cap, hv, _, _, hb⟩, hw⟩ => ⟨some ⟨gv, 0, none⟩, cap, ?_, ?_, hw⟩
    · rw [he2, hv]; unfold rdL; rw [if_pos he, he, Int.toNat_natCast, hs.1]
    · unfold rdL; rw [if_pos he, Int.toNat_natCast, ← hw]; exact hb
  · refine (rread_no i h.ref (by rw [h.en]; exact h.n1) he).mono fun e w' ⟨he2, hw⟩ => ⟨none, 0, ?_, ?_, hw⟩
    · rw [he2]; unfold rdL; rw [if_neg he]; rfl
    · unfold rdL; rw [if_neg he]; exact ⟨fun z hz => (by cases hz), Nat.le_refl _, by decide, fun _ => rfl, fun h => absurd rfl h⟩
end
end Go.Proofs.YtnpdejlbknjhnaaDoor
