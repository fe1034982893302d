/-
  A device that a call has made, while the call goes on: what its methods come to. (Part of the proofs over package device.)
-/
import Derived.Test.YtnpdejlbknjhnaaDoorDevF
namespace Go.Proofs.YtnpdejlbknjhnaaDoor
open Go.RowKit
set_option linter.unusedVariables false

/-- The device lies in blocks that are new since w0; of w0 nothing has turned. -/
structure Live (w0 w : World) (p : Nat) (S : Nat → Prop) (D : DS) : Prop where
  dev : Dev w p S D
  bel : Below w0.heap.size w0 w
  base : ∀ k, S k → w0.heap.size ≤ k

section
variable {w0 w w' : World} {p : Nat} {S S' : Nat → Prop} {D D' : DS}

theorem Live.turn (h : Live w0 w p S D) (hd : Dev w' p S' D') (ht : Turn S S' w w') : Live w0 w' p S' D' :=
  ⟨hd, h.bel.trans (ht.below h.base h.bel.size), fun k hk => by
    rcases Nat.lt_or_ge k w.heap.size with h1 | h1
    · exact h.base k (ht.foot k h1 hk)
    · exact Nat.le_trans h.bel.size h1⟩
theorem Live.below (h : Live w0 w p S D) (hb : Below w.heap.size w w') : Live w0 w' p S D := ⟨h.dev.below hb, h.bel.trans (hb.mono h.bel.size), h.base⟩

theorem Live.drew (h : Live w0 w p S D) : Live w0 w.drew p S D := h.below ⟨rfl, rfl, rfl, Nat.le_refl _, fun _ _ => rfl⟩
theorem Live.drewN (h : Live w0 w p S D) (n : Nat) : Live w0 (w.drewN n) p S D := h.below (below_drewN (Below.refl _ _) n)

/-- What was there at first is no part of it. -/
theorem Live.bs (h : Live w0 w p S D) {a : Option Addr} {cap : Nat} {l : List Int} (hb : Bs w0 a cap l) : Bs w a cap l ∧ (l ≠ [] → ∀ x, a = some x → ¬ S x.block) := by
  refine ⟨hb.below h.bel, fun hne x hx hs => ?_⟩
  obtain ⟨b, off, rfl, hc⟩ := hb.2.2.2.2 hne
  obtain rfl := Option.some.inj hx
  have h1 := block_lt_of_cell (hc 0 (by cases l with | nil => exact absurd rfl hne | cons _ _ => simp))
  have h2 := h.base _ hs
  simp at h1 h2; omega
theorem Live.bls (h : Live w0 w p S D) {a : Option Addr} {cap : Nat} {l : List Bool} (hb : Bls w0 a cap l) : Bls w a cap l ∧ (l ≠ [] → ∀ x, a = some x → ¬ S x.block) := by
  refine ⟨⟨hb.1, hb.2.1, fun hne => ?_⟩, fun hne x hx hs => ?_⟩
  · obtain ⟨b, off, rfl, hc⟩ := hb.2.2 hne
    exact ⟨b, off, rfl, fun i hi => (h.bel.cell (p := ⟨b, off + i, none⟩) (block_lt_of_cell (hc i hi))).trans (hc i hi)⟩
  · obtain ⟨b, off, rfl, hc⟩ := hb.2.2 hne
    obtain rfl := Option.some.inj hx
    have h1 := block_lt_of_cell (hc 0 (by cases l with | nil => exact absurd rfl hne | cons _ _ => simp))
    have h2 := h.base _ hs
    simp at h1 h2; omega

theorem Live.write (h : Live w0 w p S D) (i : Int) {a : Option Addr} {cap : Nat} {l : List Int} (hb : Bs w a cap l ∧ (l ≠ [] → ∀ x, a = some x → ¬ S x.block)) :
    Calls Tryd.prog 8 #[.pointer (some ⟨p, 0, none⟩), .int .i64 i, .slice a l.length cap] w fun e w' => e = .returned (errV (D.writeE i l)) ∧ (∃ S', Live w0 w' p S' (D.write i l) ∧ Turn S S' w w') :=
  (write_any i a cap l h.dev hb.1 hb.2).mono fun e w' ⟨he, S', hd, ht⟩ => ⟨he, S', h.turn hd ht, ht⟩
theorem Live.flush (h : Live w0 w p S D) :
    Calls Tryd.prog 10 #[.pointer (some ⟨p, 0, none⟩)] w fun e w' => e = .returned (errV D.flushE) ∧ (∃ S', Live w0 w' p S' D.doFlush ∧ Turn S S' w w') :=
  (flush_any h.dev).mono fun e w' ⟨he, S', hd, ht⟩ => ⟨he, S', h.turn hd ht, ht⟩
theorem Live.fail (h : Live w0 w p S D) (n : Int) (hn : -9223372036854775808 ≤ n ∧ n ≤ 9223372036854775807) :
    Calls Tryd.prog 12 #[.pointer (some ⟨p, 0, none⟩), .int .i64 n] w fun e w' => e = .returned (.tuple #[]) ∧ (∃ S', Live w0 w' p S' { D with left := n } ∧ Turn S S' w w') := by
  obtain ⟨sb, bm, pv, hd⟩ := h.dev
  exact (fail_any n hn hd).mono fun e w' ⟨he, hd, ht⟩ => ⟨he, S, h.turn ⟨sb, bm, pv, hd⟩ ht, ht⟩
theorem Live.crash (h : Live w0 w p S D) (torn cut : Int) {a : Option Addr} {cap : Nat} {keep : List Bool} (hb : Bls w a cap keep ∧ (keep ≠ [] → ∀ x, a = some x → ¬ S x.block)) :
    Calls Tryd.prog 14 #[.pointer (some ⟨p, 0, none⟩), .slice a keep.length cap, .int .i64 torn, .int .i64 cut] w fun e w' => e = .returned (.int .i64 D.mem.length) ∧ (∃ S', Live w0 w' p S' (D.crash keep torn (cutN cut)) ∧ Turn S S' w w') :=
  (crash_any a cap keep torn cut h.dev hb.1 hb.2).mono fun e w' ⟨he, S', hd, ht⟩ => ⟨he, S', h.turn hd ht, ht⟩
theorem Live.down (h : Live w0 w p S D) :
    Calls Tryd.prog 20 #[.pointer (some ⟨p, 0, none⟩)] w fun e w' => e = .returned (.bool D.down) ∧ w = w' := by
  obtain ⟨sb, bm, pv, hd⟩ := h.dev
  exact down_any hd
theorem Live.pending (h : Live w0 w p S D) :
    Calls Tryd.prog 19 #[.pointer (some ⟨p, 0, none⟩)] w fun e w' => ∃ g, e = .returned (.slice (some ⟨g, 0, none⟩) D.mem.length D.mem.length) ∧ w.heap.size ≤ g ∧ IBlk w' g (keysI D.mem) ∧ Below w.heap.size w w' := pending_any h.dev
theorem Live.read (h : Live w0 w p S D) (i : Nat) (hi : i < D.secs.length) (hd : D.down = false) :
    Calls Tryd.prog 17 #[.pointer (some ⟨p, 0, none⟩), .int .i64 i] w fun e w' => ∃ g, e = .returned (.tuple #[.slice (some ⟨g, 0, none⟩) 32 32, .nilIface]) ∧ w.heap.size ≤ g ∧ Blk w' g (D.rd i) ∧ Below w.heap.size w w' := read_yes i h.dev hi hd
theorem new_live (n : Nat) (w0 w : World) (hb : Below w0.heap.size w0 w) (h1 : 1 ≤ n) (h2 : n ≤ 300) :
    Calls Tryd.prog 5 #[.int .i64 n] w fun e w' => ∃ p S, e = .returned (.tuple #[.pointer (some ⟨p, 0, none⟩), .nilIface]) ∧ Live w0 w' p S (DS.new n) ∧ (∀ k, S k → w.heap.size ≤ k) ∧ Below w.heap.size w w' :=
  (new_yes n w h1 h2).mono fun e w' ⟨p, S, he, hd, hS, hb2⟩ => ⟨p, S, he, ⟨hd, hb.trans (hb2.mono hb.size), fun k hk => Nat.le_trans hb.size (hS k hk)⟩, hS, hb2⟩
end

/-! ### plain states -/
def ds0 (X : List (List Int)) (left : Int) : DS := ⟨X, [], left, false⟩
def zsecs (n : Nat) : List (List Int) := List.replicate n (List.replicate 32 0)
theorem length_zsecs (n : Nat) : (zsecs n).length = n := by simp [zsecs]
theorem new_ds0 (n : Nat) : DS.new n = ds0 (zsecs n) (-1) := rfl

theorem write_ds0 (X : List (List Int)) (k : Nat) (b : List Int) (hk : k < X.length) (hb : b.length = 32) : (ds0 X (-1)).write k b = ⟨X, [(k, b)], -1, false⟩ ∧ (ds0 X (-1)).writeE k b = 0 := by
  have h1 : ¬ ((k : Int) < 0 ∨ (X.length : Int) ≤ (k : Int)) := by omega
  have h2 : ¬ ((k : Int) < 0 ∨ (X.length : Int) ≤ (k : Int) ∨ b.length ≠ 32 ∨ false = true) := by
    rintro (h | h | h | h)
    · omega
    · omega
    · exact h hb
    · cases h
  constructor
  · unfold DS.write ds0
    rw [if_neg h2]
    simp [DS.put, DS.step, memPut]
  · unfold DS.writeE ds0
    rw [if_neg h1, if_neg (fun h => h hb), if_neg (by simp), if_neg (by simp)]
theorem write_dead (X : List (List Int)) (k : Nat) (b : List Int) (hk : k < X.length) (hb : b.length = 32) : (ds0 X 0).write k b = ⟨X, [(k, b)], 0, true⟩ ∧ (ds0 X 0).writeE k b = 9 := by
  have h1 : ¬ ((k : Int) < 0 ∨ (X.length : Int) ≤ (k : Int)) := by omega
  have h2 : ¬ ((k : Int) < 0 ∨ (X.length : Int) ≤ (k : Int) ∨ b.length ≠ 32 ∨ false = true) := by
    rintro (h | h | h | h)
    · omega
    · omega
    · exact h hb
    · cases h
  constructor
  · unfold DS.write ds0
    rw [if_neg h2]
    simp [DS.put, DS.step, memPut]
  · unfold DS.writeE ds0
    rw [if_neg h1, if_neg (fun h => h hb), if_neg (by simp), if_pos rfl]
theorem flush_one (X : List (List Int)) (k : Nat) (b : List Int) : (DS.doFlush ⟨X, [(k, b)], -1, false⟩) = ds0 (X.set k b) (-1) ∧ DS.flushE ⟨X, [(k, b)], -1, false⟩ = 0 := by
  constructor
  · simp [DS.doFlush, DS.step, DS.flush, flushK, ds0]
  · simp [DS.flushE]
theorem flush_ds0 (X : List (List Int)) (n : Int) (h : 0 < n) : (ds0 X n).doFlush = ds0 X (n - 1) ∧ (ds0 X n).flushE = 0 := by
  have h0 : ¬ n = 0 := by omega
  constructor
  · simp [DS.doFlush, DS.step, DS.flush, flushK, ds0, h, h0]
  · simp [DS.flushE, ds0, h0]
theorem flush_ever (X : List (List Int)) : (ds0 X (-1)).doFlush = ds0 X (-1) ∧ (ds0 X (-1)).flushE = 0 := by
  constructor
  · simp [DS.doFlush, DS.step, DS.flush, flushK, ds0]
  · simp [DS.flushE, ds0]
theorem crash_one (X : List (List Int)) (k : Nat) (b : List Int) (left : Int) (down : Bool) (torn : Int) (ht : torn < 0) (cut : Nat) : DS.crash ⟨X, [(k, b)], left, down⟩ [] torn cut = ds0 X (-1) := by
  have h0 : ¬ (0 : Int) = torn := by omega
  simp [DS.crash, crashK, ds0, one, h0]
  exact set_getD_self X k
end Go.Proofs.YtnpdejlbknjhnaaDoor
