/-
  Joined by program: PgA; PgB; PgC; PgD; PgE; PgF; PgG; PgH; PgI; PgJ; PgK; PgL; PgM; PgN. (Parts of the proofs over the packages of the program.)
-/
import Derived.Test.YtjipnjmnkfjmhaaGreatDoorJDev
import Derived.Test.YtjipnjmnkfjmhaaGreatDoorJStamp
import Derived.BigQuiet
import Derived.Maps.OwnSet
import Derived.Maps.AppendAt
import Derived.Deep.RegionHeld3
import Derived.Deep.QuietTactic
import Derived.Laws.ResultCell
/-! Contracts of package pages: how many pages there are, Stamp, Read, and where they stand. (Part of the proofs over package pages.) -/
namespace Go.Proofs.YtjipnjmnkfjmhaaGreatDoor
open Go.RowKit
set_option linter.unusedVariables false

/-- Block q is a Pages of the device at p, of stamp s. -/
def PgAt (w : World) (q p : Nat) (s : Int) : Prop := w.heap[q]? = some (.cells #[.pointer (some ⟨p, 0, none⟩), .int .i64 s] 56 (0, 0))
theorem PgAt.c0 {w : World} {q p : Nat} {s : Int} (h : PgAt w q p s) : w.cell? ⟨q, 0, none⟩ = some (.pointer (some ⟨p, 0, none⟩)) := by
  rw [cell_of_row w q 0 _ _ (0, 0) h]; rfl
theorem PgAt.c1 {w : World} {q p : Nat} {s : Int} (h : PgAt w q p s) : w.cell? ⟨q, 1, none⟩ = some (.int .i64 s) := by
  rw [cell_of_row w q 1 _ _ (0, 0) h]; rfl
theorem PgAt.lt {w : World} {q p : Nat} {s : Int} (h : PgAt w q p s) : q < w.heap.size := (Array.getElem?_eq_some_iff.1 h).1
theorem PgAt.fr {w : World} {q p : Nat} {s : Int} (h : PgAt w q p s) (i : Nat) : w.frozen? ⟨q, i, none⟩ = false := frozen_of_row w q i _ _ h
theorem PgAt.same {w w' : World} {q p : Nat} {s : Int} (h : PgAt w q p s) (e : w'.heap[q]? = w.heap[q]?) : PgAt w' q p s := e.trans h
theorem PgAt.below {w w' : World} {q p : Nat} {s : Int} (h : PgAt w q p s) (hb : Below w.heap.size w w') : PgAt w' q p s := h.same (hb.block q h.lt)
theorem PgAt.turn {w w' : World} {S S' : Nat → Prop} {q p : Nat} {s : Int} (h : PgAt w q p s) (ht : Turn S S' w w') (hn : ¬ S q) : PgAt w' q p s ∧ ¬ S' q := ⟨h.same (ht.block q h.lt hn), fun hs => hn (ht.foot q h.lt hs)⟩
theorem PgAt.set {w : World} {q p : Nat} {s : Int} (h : PgAt w q p s) (t : Int) : PgAt (w.setCell ⟨q, 1, none⟩ (.int .i64 t)) q p t := by
  unfold PgAt
  rw [heap_setCell_same _ _ _ _ _ _ h]
  rfl

/-- How many pages a device of so many sectors has; none, or fewer, if it is too small. -/
def cntI (n : Nat) : Int := if (n : Int) - 48 ≤ 200 then (n : Int) - 48 else 200

section
variable {w : World} {p q : Nat} {S : Nat → Prop} {D : DS} {s : Int}

theorem count_any (h : Dev w p S D) :
    Calls Tryz.prog 16 #[.pointer (some ⟨p, 0, none⟩)] w fun e w' => e = .returned (.int .i64 (cntI D.secs.length)) ∧ w = w' := by
  have hlen := h.ok.len
  have HL := hide (len_any h)
  clear h
  generalize D.secs.length = n at *
  unfold cntI
  by_cases hc : (n : Int) - 48 ≤ 200
  · rw [if_pos hc]
    go_enter Tryz.func16, Tryz.ntmps16
    go_wp2_with fail
    refine (unhide HL).mono ?_
    rintro e w1 ⟨rfl, rfl⟩
    go_wp2
    all_goals go_ret
    all_goals first | exact ⟨rfl, rfl⟩ | (exfalso; omega) | exact ⟨congrArg (fun z => Ending.returned (Value.int .i64 z)) (by omega), rfl⟩
  · rw [if_neg hc]
    go_enter Tryz.func16, Tryz.ntmps16
    go_wp2_with fail
    refine (unhide HL).mono ?_
    rintro e w1 ⟨rfl, rfl⟩
    go_wp2
    all_goals go_ret
    all_goals first | exact ⟨rfl, rfl⟩ | (exfalso; omega) | exact ⟨congrArg (fun z => Ending.returned (Value.int .i64 z)) (by omega), rfl⟩

theorem pLen_any (h : Dev w p S D) (hq : PgAt w q p s) :
    Calls Tryz.prog 8 #[.pointer (some ⟨q, 0, none⟩)] w fun e w' => e = .returned (.int .i64 (cntI D.secs.length)) ∧ w = w' := by
  have c0 := hq.c0
  have HC := hide (count_any h)
  clear h hq
  go_enter Tryz.func8, Tryz.ntmps8
  go_wp2_with fail
  refine (unhide HC).mono ?_
  rintro e w1 ⟨rfl, rfl⟩
  go_wp2
  go_ret
  exact ⟨rfl, rfl⟩

/-- Is there such a page? -/
def hasP (n : Nat) (i : Int) : Bool := decide (0 ≤ i ∧ i < cntI n)
theorem pHas_any (h : Dev w p S D) (hq : PgAt w q p s) (i : Int) :
    Calls Tryz.prog 38 #[.pointer (some ⟨q, 0, none⟩), .int .i64 i] w fun e w' => e = .returned (.bool (hasP D.secs.length i)) ∧ w = w' := by
  have HC := hide (pLen_any h hq)
  clear h hq
  unfold hasP
  generalize cntI D.secs.length = n at *
  by_cases h0 : 0 ≤ i
  · by_cases h1 : i < n
    · rw [decide_eq_true ⟨h0, h1⟩]
      go_enter Tryz.func38, Tryz.ntmps38
      go_wp2_with fail
      refine (unhide HC).mono ?_
      rintro e w1 ⟨rfl, rfl⟩
      go_wp2
      go_ret
      exact ⟨rfl, rfl⟩
    · rw [decide_eq_false (fun h : 0 ≤ i ∧ i < n => h1 h.2)]
      go_enter Tryz.func38, Tryz.ntmps38
      go_wp2_with fail
      refine (unhide HC).mono ?_
      rintro e w1 ⟨rfl, rfl⟩
      go_wp2
      go_ret
      exact ⟨congrArg (fun z => Ending.returned (Value.bool z)) (decide_eq_false (by omega)), rfl⟩
  · rw [decide_eq_false (fun h => h0 h.1)]
    go_enter Tryz.func38, Tryz.ntmps38
    go_wp2
    go_ret
    exact ⟨rfl, rfl⟩

theorem power_any (h : Dev w p S D) (hq : PgAt w q p s) :
    Calls Tryz.prog 45 #[.pointer (some ⟨q, 0, none⟩)] w fun e w' => e = .returned (errV (if D.down then 9 else 0)) ∧ w = w' := by
  have c0 := hq.c0
  obtain ⟨sb, bm, pv, h'⟩ := h
  have HC := hide (down_any h')
  clear h' hq
  cases hd : D.down
  · rw [hd] at HC
    go_enter Tryz.func45, Tryz.ntmps45
    go_wp2_with fail
    refine (unhide HC).mono ?_
    rintro e w1 ⟨rfl, rfl⟩
    go_wp2
    go_ret
    exact ⟨rfl, rfl⟩
  · rw [hd] at HC
    go_enter Tryz.func45, Tryz.ntmps45
    go_wp2_with fail
    refine (unhide HC).mono ?_
    rintro e w1 ⟨rfl, rfl⟩
    go_wp2
    go_ret
    exact ⟨rfl, rfl⟩

/-- What Read of a page answers. -/
def pReadE (D : DS) (i : Int) : Int := if hasP D.secs.length i then (if D.down then 9 else 0) else 1
theorem pRead_no (h : Dev w p S D) (hq : PgAt w q p s) (i : Int) (he : pReadE D i ≠ 0) :
    Calls Tryz.prog 20 #[.pointer (some ⟨q, 0, none⟩), .int .i64 i] w fun e w' => e = .returned (.tuple #[.slice none 0 0, errV (pReadE D i)]) ∧ w = w' := by
  have c0 := hq.c0
  have hhas := pHas_any h hq i
  have hok := h.ok.len
  unfold pReadE at *
  cases hb : hasP D.secs.length i
  · rw [hb] at hhas
    have HC := hide hhas
    clear hhas h hq
    go_enter Tryz.func20, Tryz.ntmps20
    go_wp2_with fail
    refine (unhide HC).mono ?_
    rintro e w1 ⟨rfl, rfl⟩
    go_wp2
    go_ret2
    exact ⟨rfl, rfl⟩
  · rw [hb] at hhas he
    have hb2 := of_decide_eq_true hb
    have hd : D.down = true := by
      cases hd : D.down
      · rw [hd] at he; exact absurd rfl he
      · rfl
    have hE : D.readE (48 + i) = 9 := by
      unfold DS.readE
      have h2 := hb2.2
      unfold cntI at h2
      rw [if_neg (by split at h2 <;> omega), if_pos hd]
    have hr := read_no (48 + i) h (by rw [hE]; decide)
    rw [hE] at hr
    have hi2 : i < 200 := by
      have h2 := hb2.2
      unfold cntI at h2
      split at h2 <;> omega
    have hi1 := hb2.1
    rw [if_pos rfl, if_pos hd]
    have HC := hide hhas
    have HR := hide hr
    clear hhas h hq hr hE hb2 hb he
    go_enter Tryz.func20, Tryz.ntmps20
    go_wp2_with fail
    refine (unhide HC).mono ?_
    rintro e w1 ⟨rfl, rfl⟩
    go_wp2_with fail
    refine (unhide HR).mono ?_
    rintro e w1 ⟨rfl, rfl⟩
    go_wp2
    go_ret2
    exact ⟨rfl, rfl⟩
theorem pRead_yes (h : Dev w p S D) (hq : PgAt w q p s) (i : Nat) (hi : hasP D.secs.length i = true) (hd : D.down = false) :
    Calls Tryz.prog 20 #[.pointer (some ⟨q, 0, none⟩), .int .i64 i] w fun e w' => ∃ g, e = .returned (.tuple #[.slice (some ⟨g, 0, none⟩) 32 32, .nilIface]) ∧ w.heap.size ≤ g ∧ Blk w' g (D.rd (48 + i)) ∧ Below w.heap.size w w' := by
  have c0 := hq.c0
  have hhas := pHas_any h hq i
  rw [hi] at hhas
  have hb2 := of_decide_eq_true hi
  have hlt : 48 + i < D.secs.length ∧ i < 200 := by
    have h2 := hb2.2
    unfold cntI at h2
    split at h2 <;> omega
  have hr := read_yes (48 + i) h hlt.1 hd
  have hi2 := hlt.2
  rw [show ((48 + i : Nat) : Int) = 48 + (i : Int) by omega] at hr
  have HC := hide hhas
  have HR := hide hr
  clear hhas h hq hr hb2 hi hlt
  go_enter Tryz.func20, Tryz.ntmps20
  go_wp2_with fail
  refine (unhide HC).mono ?_
  rintro e w1 ⟨rfl, rfl⟩
  go_wp2_with fail
  refine (unhide HR).mono ?_
  rintro e w1 ⟨g, rfl, h1, h2, h3⟩
  go_wp2
  go_ret2
  exact ⟨g, rfl, h1, h2, h3⟩

/-! ### where pages stand -/
theorem shelf1_any (g : Nat) (a : Int) (k : Nat) (w : World) (ha : a = 0 ∨ a = 1) (hk : k ≤ 1000) (hg : w.cell? ⟨g, 0, none⟩ = some (.int .i64 a)) :
    Calls Tryz.prog 53 #[.int .i64 k, .pointer (some ⟨g, 0, none⟩)] w fun e w' => e = .returned (.int .i64 (2 + 23 * a + k)) ∧ w = w' := by
  have h0 : 0 ≤ a := by omega
  have h1 : a ≤ 1 := by omega
  have e : 2 + a * 23 + (k : Int) = 2 + 23 * a + k := by omega
  clear ha
  rw [← e]
  clear e
  go_enter Tryz.func53, Tryz.ntmps53
  go_wp2
  go_ret
  exact ⟨rfl, rfl⟩
theorem home1_any (g : Nat) (b cap n : Nat) (k : Nat) (z : Int) (w : World) (hk : k < n) (hn : n ≤ 1000) (hz : 0 ≤ z ∧ z ≤ 1000) (hg : w.cell? ⟨g, 0, none⟩ = some (.slice (some ⟨b, 0, none⟩) n cap)) (hb : w.cell? ⟨b, k, none⟩ = some (.int .i64 z)) :
    Calls Tryz.prog 54 #[.int .i64 k, .pointer (some ⟨g, 0, none⟩)] w fun e w' => e = .returned (.int .i64 (48 + z)) ∧ w = w' := by
  obtain ⟨z0, z1⟩ := hz
  go_enter Tryz.func54, Tryz.ntmps54
  go_wp2
  go_ret
  exact ⟨rfl, rfl⟩
theorem commit1_any (g : Nat) (a : Int) (k : Int) (w : World) (hg : w.cell? ⟨g, 0, none⟩ = some (.int .i64 a)) :
    Calls Tryz.prog 48 #[.int .i64 k, .pointer (some ⟨g, 0, none⟩)] w fun e w' => e = .returned (.int .i64 a) ∧ w = w' := by
  go_enter Tryz.func48, Tryz.ntmps48
  go_wp2
  go_ret
  exact ⟨rfl, rfl⟩
theorem format1_any (k : Int) (w : World) :
    Calls Tryz.prog 19 #[.int .i64 k] w fun e w' => e = .returned (.int .i64 k) ∧ w = w' := by
  go_enter Tryz.func19, Tryz.ntmps19
  go_wp2
  go_ret
  exact ⟨rfl, rfl⟩
theorem shelf_any (a : Int) (w : World) :
    Calls Tryz.prog 32 #[.int .i64 a] w fun e w' => e = .returned (.func (.func 53) #[] #[.pointer (some ⟨w.heap.size, 0, none⟩)]) ∧ w' = w.alloc (.cells #[.int .i64 a] 3) := by
  go_enter Tryz.func32, Tryz.ntmps32
  go_wp2
  go_ret
  exact ⟨rfl, rfl⟩
theorem home_any (v : Option Addr) (n cap : Nat) (w : World) :
    Calls Tryz.prog 33 #[.slice v n cap] w fun e w' => e = .returned (.func (.func 54) #[] #[.pointer (some ⟨w.heap.size, 0, none⟩)]) ∧ w' = w.alloc (.cells #[.slice v n cap] 22) := by
  go_enter Tryz.func33, Tryz.ntmps33
  go_wp2
  go_ret
  exact ⟨rfl, rfl⟩
theorem side_any (t : Int) (nv : Value) (w : World) (h0 : 0 ≤ t) (h1 : t ≤ 4294967296) :
    Calls Tryz.prog 47 #[.agg #[.int .i64 t, nv]] w fun e w' => e = .returned (.int .i64 (t % 2)) ∧ Below w.heap.size w w' := by
  have hb := i64_and_one t h0 h1
  go_enter Tryz.func47, Tryz.ntmps47
  go_wp2
  go_ret
  refine ⟨?_, (Below.refl _ _).alloc (Nat.le_refl _) _⟩
  first | rfl | (rw [hb])
end
end Go.Proofs.YtjipnjmnkfjmhaaGreatDoor
/-! Contracts of package pages: bodies are written, and read. (Part of the proofs over package pages.) -/
namespace Go.Proofs.YtjipnjmnkfjmhaaGreatDoor
open Go.RowKit
set_option linter.unusedVariables false

/-- Block b holds n slices of bytes that read as B says; nothing of them is in S. -/
def Bods (w : World) (S : Nat → Prop) (b n : Nat) (B : Nat → List Int) : Prop :=
  ¬ S b ∧ ∀ k, k < n → ∃ ab capb, w.cell? ⟨b, k, none⟩ = some (.slice ab (B k).length capb) ∧ Bs w ab capb (B k) ∧ (B k ≠ [] → ∀ x, ab = some x → ¬ S x.block)

theorem Bs.lt {w : World} {a : Option Addr} {cap : Nat} {l : List Int} (h : Bs w a cap l) (hne : l ≠ []) {x : Addr} (hx : a = some x) : x.block < w.heap.size := by
  obtain ⟨b, off, rfl, hc⟩ := h.2.2.2.2 hne
  obtain rfl := Option.some.inj hx
  exact block_lt_of_cell (hc 0 (by cases l with | nil => exact absurd rfl hne | cons _ _ => simp))
/-- What a slice reads as, and that nothing of it is in the set, while other blocks turn. -/
theorem Bs.turns {w w' : World} {S S' : Nat → Prop} {a : Option Addr} {cap : Nat} {l : List Int} (h : Bs w a cap l) (hn : l ≠ [] → ∀ x, a = some x → ¬ S x.block) (ht : Turn S S' w w') : Bs w' a cap l ∧ (l ≠ [] → ∀ x, a = some x → ¬ S' x.block) := by
  by_cases h0 : l = []
  · subst h0
    exact ⟨⟨h.1, h.2.1, h.2.2.1, h.2.2.2.1, fun e => absurd rfl e⟩, fun e => absurd rfl e⟩
  · exact ⟨h.turn ht (hn h0), fun _ x hx hs => hn h0 x hx (ht.foot _ (h.lt h0 hx) hs)⟩
theorem Bods.turn {w w' : World} {S S' : Nat → Prop} {b n : Nat} {B : Nat → List Int} (h : Bods w S b n B) (ht : Turn S S' w w') (hb : b < w.heap.size) : Bods w' S' b n B := by
  refine ⟨fun hs => h.1 (ht.foot b hb hs), fun k hk => ?_⟩
  obtain ⟨ab, capb, h1, h2, h3⟩ := h.2 k hk
  obtain ⟨h4, h5⟩ := h2.turns h3 ht
  exact ⟨ab, capb, (World.cell?_of_block (a := ⟨b, k, none⟩) (ht.block b hb h.1)).trans h1, h4, h5⟩

section
variable {w0 w : World} {p : Nat} {S : Nat → Prop} {D : DS}

set_option maxRecDepth 100000 in
set_option maxHeartbeats 400000 in
theorem write_pages (F g b n cap : Nat) (B : Nat → List Int) (f : Nat → Int) (h : Live w0 w p S D) (hb : Bods w S b n B) (hbl : b < w.heap.size) (hn : n ≤ 300) (hnc : n ≤ cap)
    (hF : ∀ args w', (callFunc F args).run Tryz.prog w' = .ok (.enter F args) w')
    (hf : ∀ w' S', Turn S S' w w' → ∀ k : Nat, k < n → Calls Tryz.prog F #[.int .i64 k, .pointer (some ⟨g, 0, none⟩)] w' fun e w'' => e = .returned (.int .i64 (f k)) ∧ w' = w'') :
    Calls Tryz.prog 18 #[.pointer (some ⟨p, 0, none⟩), .slice (some ⟨b, 0, none⟩) n cap, .func (.func F) #[] #[.pointer (some ⟨g, 0, none⟩)]] w fun e w' =>
      e = .returned (errV (andF (wsF (D, 0) (fun i => (f i, B i)) n)).2) ∧ ∃ S', Live w0 w' p S' (andF (wsF (D, 0) (fun i => (f i, B i)) n)).1 ∧ Turn S S' w w' := by
  obtain ⟨W, hW⟩ : ∃ W : Nat → DS × Int, W = wsF (D, 0) (fun i => (f i, B i)) := ⟨_, rfl⟩
  have W0 : W 0 = (D, 0) := by rw [hW]; rfl
  have WS : ∀ k, W (k + 1) = andW (W k) (f k) (B k) := by intro k; rw [hW]; rfl
  have WL : ∀ k, (W k).2 ≠ 0 → ∀ m, k ≤ m → W m = W k := by intro k hk m hm; rw [hW] at hk ⊢; exact wsF_late hk m hm
  rw [← hW]
  have H := hide h
  have HB := hide hb
  have HF := hide hf
  have HFF := hide hF
  clear h hb hf hW hF
  have HW : Hid (W 0 = (D, 0) ∧ (∀ k, W (k + 1) = andW (W k) (f k) (B k)) ∧ ∀ k, (W k).2 ≠ 0 → ∀ m, k ≤ m → W m = W k) := hide ⟨W0, WS, WL⟩
  clear W0 WS WL
  go_enter Tryz.func18, Tryz.ntmps18
  go_wp2_with fail
  go_loopw [12] (fun v wr => ∃ k : Nat, k ≤ n ∧ v = .int .i64 k ∧ (W k).2 = 0 ∧ ∃ S1, Live w0 wr p S1 (W k).1 ∧ Turn S S1 w wr) (fun v _ => n - (intOf v).toNat)
  case atStart => exact ⟨0, Nat.zero_le _, rfl, by rw [(unhide HW).1], S, by rw [(unhide HW).1]; exact unhide H, Turn.refl _ _⟩
  case round =>
    obtain ⟨k, hk, rfl, hz, S1, hl, ht⟩ := hrel
    by_cases hlt : k < n
    · have hbk := (unhide HB).turn ht hbl
      obtain ⟨ab, capb, hc1, hc2, hc3⟩ := hbk.2 k hlt
      have hcf := unhide HF wr S1 ht k hlt
      have hwr := hl.write (f k) (a := ab) (cap := capb) (l := B k) ⟨hc2, hc3⟩
      have hstep := (unhide HW).2.1 k
      rw [andW_ok hz] at hstep
      have HC := hide hcf
      have HR := hide hwr
      have HT := hide ht
      have HS := hide hstep
      have hblen := hc2.2.2.1
      clear hcf hwr ht hc2 hc3 hbk hl hstep
      generalize (W k).1.writeE (f k) (B k) = E at HR HS
      generalize (W k).1.write (f k) (B k) = D2 at HR HS
      generalize (B k).length = bl at hc1 HR hblen
      generalize f k = fk at HR HC
      go_wp2_with fail
      rw [unhide HFF, Oper.upon_enter]
      refine (unhide HC).mono ?_
      rintro e w1 ⟨rfl, rfl⟩
      go_wp2_with fail
      refine (unhide HR).mono ?_
      rintro e w1 ⟨rfl, S2, hl2, ht2⟩
      by_cases hE0 : E = 0
      · subst hE0
        rw [errV_zero]
        go_wp2
        go_roundw
        case rel => exact ⟨k + 1, by omega, by go_num, by rw [unhide HS], S2, by rw [unhide HS]; exact hl2, (unhide HT).trans ht2⟩
        case measure => simp [intOf]; omega
      · rw [errV_pos _ hE0]
        go_wp2
        go_ret
        have he : W n = W (k + 1) := (unhide HW).2.2 (k + 1) (by rw [unhide HS]; exact hE0) n (by omega)
        have hx : andF (W n) = (D2, E) := by rw [he, unhide HS]; exact andF_stick hE0
        refine ⟨by rw [hx]; exact congrArg Ending.returned (errV_pos _ hE0).symm, S2, by rw [hx]; exact hl2, (unhide HT).trans ht2⟩
    · obtain rfl : k = n := by omega
      have hfl := hl.flush
      have HR := hide hfl
      have HT := hide ht
      clear hfl ht hl
      go_wp2_with fail
      refine (unhide HR).mono ?_
      rintro e w1 ⟨rfl, S2, hl2, ht2⟩
      go_wp2
      go_ret
      rw [andF_ok hz]
      exact ⟨rfl, S2, hl2, (unhide HT).trans ht2⟩

set_option maxRecDepth 100000 in
set_option maxHeartbeats 400000 in
theorem write_sides (F b n cap : Nat) (B : Nat → List Int) (f : Nat → Int) (h : Live w0 w p S D) (hb : Bods w S b n B) (hbl : b < w.heap.size) (hn : n ≤ 300) (hnc : n ≤ cap)
    (hF : ∀ args w', (callFunc F args).run Tryz.prog w' = .ok (.enter F args) w')
    (hf : ∀ w' S', Turn S S' w w' → ∀ k : Nat, k < n → Calls Tryz.prog F #[.int .i64 k] w' fun e w'' => e = .returned (.int .i64 (f k)) ∧ w' = w'') :
    Calls Tryz.prog 18 #[.pointer (some ⟨p, 0, none⟩), .slice (some ⟨b, 0, none⟩) n cap, .func (.func F) #[] #[]] w fun e w' =>
      e = .returned (errV (andF (wsF (D, 0) (fun i => (f i, B i)) n)).2) ∧ ∃ S', Live w0 w' p S' (andF (wsF (D, 0) (fun i => (f i, B i)) n)).1 ∧ Turn S S' w w' := by
  obtain ⟨W, hW⟩ : ∃ W : Nat → DS × Int, W = wsF (D, 0) (fun i => (f i, B i)) := ⟨_, rfl⟩
  have W0 : W 0 = (D, 0) := by rw [hW]; rfl
  have WS : ∀ k, W (k + 1) = andW (W k) (f k) (B k) := by intro k; rw [hW]; rfl
  have WL : ∀ k, (W k).2 ≠ 0 → ∀ m, k ≤ m → W m = W k := by intro k hk m hm; rw [hW] at hk ⊢; exact wsF_late hk m hm
  rw [← hW]
  have H := hide h
  have HB := hide hb
  have HF := hide hf
  have HFF := hide hF
  clear h hb hf hW hF
  have HW : Hid (W 0 = (D, 0) ∧ (∀ k, W (k + 1) = andW (W k) (f k) (B k)) ∧ ∀ k, (W k).2 ≠ 0 → ∀ m, k ≤ m → W m = W k) := hide ⟨W0, WS, WL⟩
  clear W0 WS WL
  go_enter Tryz.func18, Tryz.ntmps18
  go_wp2_with fail
  go_loopw [12] (fun v wr => ∃ k : Nat, k ≤ n ∧ v = .int .i64 k ∧ (W k).2 = 0 ∧ ∃ S1, Live w0 wr p S1 (W k).1 ∧ Turn S S1 w wr) (fun v _ => n - (intOf v).toNat)
  case atStart => exact ⟨0, Nat.zero_le _, rfl, by rw [(unhide HW).1], S, by rw [(unhide HW).1]; exact unhide H, Turn.refl _ _⟩
  case round =>
    obtain ⟨k, hk, rfl, hz, S1, hl, ht⟩ := hrel
    by_cases hlt : k < n
    · have hbk := (unhide HB).turn ht hbl
      obtain ⟨ab, capb, hc1, hc2, hc3⟩ := hbk.2 k hlt
      have hcf := unhide HF wr S1 ht k hlt
      have hwr := hl.write (f k) (a := ab) (cap := capb) (l := B k) ⟨hc2, hc3⟩
      have hstep := (unhide HW).2.1 k
      rw [andW_ok hz] at hstep
      have HC := hide hcf
      have HR := hide hwr
      have HT := hide ht
      have HS := hide hstep
      have hblen := hc2.2.2.1
      clear hcf hwr ht hc2 hc3 hbk hl hstep
      generalize (W k).1.writeE (f k) (B k) = E at HR HS
      generalize (W k).1.write (f k) (B k) = D2 at HR HS
      generalize (B k).length = bl at hc1 HR hblen
      generalize f k = fk at HR HC
      go_wp2_with fail
      rw [unhide HFF, Oper.upon_enter]
      refine (unhide HC).mono ?_
      rintro e w1 ⟨rfl, rfl⟩
      go_wp2_with fail
      refine (unhide HR).mono ?_
      rintro e w1 ⟨rfl, S2, hl2, ht2⟩
      by_cases hE0 : E = 0
      · subst hE0
        rw [errV_zero]
        go_wp2
        go_roundw
        case rel => exact ⟨k + 1, by omega, by go_num, by rw [unhide HS], S2, by rw [unhide HS]; exact hl2, (unhide HT).trans ht2⟩
        case measure => simp [intOf]; omega
      · rw [errV_pos _ hE0]
        go_wp2
        go_ret
        have he : W n = W (k + 1) := (unhide HW).2.2 (k + 1) (by rw [unhide HS]; exact hE0) n (by omega)
        have hx : andF (W n) = (D2, E) := by rw [he, unhide HS]; exact andF_stick hE0
        refine ⟨by rw [hx]; exact congrArg Ending.returned (errV_pos _ hE0).symm, S2, by rw [hx]; exact hl2, (unhide HT).trans ht2⟩
    · obtain rfl : k = n := by omega
      have hfl := hl.flush
      have HR := hide hfl
      have HT := hide ht
      clear hfl ht hl
      go_wp2_with fail
      refine (unhide HR).mono ?_
      rintro e w1 ⟨rfl, S2, hl2, ht2⟩
      go_wp2
      go_ret
      rw [andF_ok hz]
      exact ⟨rfl, S2, hl2, (unhide HT).trans ht2⟩
end
end Go.Proofs.YtjipnjmnkfjmhaaGreatDoor
/-! Contracts of package pages: what is wrong with pages that are to be committed. (Part of the proofs over package pages.) -/
namespace Go.Proofs.YtjipnjmnkfjmhaaGreatDoor
open Go.RowKit Go.MapKept Go.ChangeMaps
open Go.Maps (Keyed)
set_option linter.unusedVariables false

/-- A list of pages; nothing of it is in S. -/
def PgsO (w : World) (S : Nat → Prop) (a : Option Addr) (cap : Nat) (l : List (Int × List Int)) : Prop :=
  l.length ≤ cap ∧ l.length ≤ 140737488351232 ∧ (l ≠ [] → ∃ b off, a = some ⟨b, off, none⟩ ∧ ¬ S b ∧ ∀ i, i < l.length → w.cell? ⟨b, off + i * 2, none⟩ = some (.int .i64 (l.getD i (0, [])).1) ∧
    ∃ ab capb, w.cell? ⟨b, off + (i * 2 + 1), none⟩ = some (.slice ab (l.getD i (0, [])).2.length capb) ∧ Bs w ab capb (l.getD i (0, [])).2 ∧ ((l.getD i (0, [])).2 ≠ [] → ∀ x, ab = some x → ¬ S x.block) ∧ -9223372036854775808 ≤ (l.getD i (0, [])).1 ∧ (l.getD i (0, [])).1 ≤ 9223372036854775807)

/-- The map of the numbers of the first k pages. -/
def Plc (w : World) (m k : Nat) (l : List (Int × List Int)) : Prop :=
  ∃ Dm : DataW Unit, w.ownsMap Tryz.prog 3 (plainElem Tryz.prog 3) m k Dm ∧ ∀ z : Int, Maps.has Dm (.int .i64 z) = (List.range k).any (fun j => (l.getD j (0, [])).1 == z)

theorem Plc.made (w : World) (l : List (Int × List Int)) : Plc (w.alloc (.map #[] 0)) w.heap.size 0 l := ⟨.map [], World.ownsMap_made w _ _ _, fun z => rfl⟩
theorem Plc.lt {w : World} {m k : Nat} {l : List (Int × List Int)} (h : Plc w m k l) : m < w.heap.size := by
  obtain ⟨Dm, h1, _⟩ := h
  exact h1.lt
theorem Plc.same {w w' : World} {m k : Nat} {l : List (Int × List Int)} (h : Plc w m k l) (hs : w'.heap[m]? = w.heap[m]?) : Plc w' m k l := by
  obtain ⟨Dm, ⟨es, clock, hb, r⟩, h2⟩ := h
  exact ⟨Dm, ⟨es, clock, hs.trans hb, r⟩, h2⟩
theorem zero_int (w : World) : (zeroValue 3).run Tryz.prog w = .ok (.int .i64 0) w := by
  obtain ⟨i0, hi0, hz0, hz1, hz2⟩ := info_parts info_int
  simp [zeroValue, typeInfo, hi0, hz0]
theorem Plc.look {w : World} {m k : Nat} {l : List (Int × List Int)} (h : Plc w m k l) (z : Int) (hz : -9223372036854775808 ≤ z ∧ z ≤ 9223372036854775807) :
    ∃ v, (Instr.lookup 119 (.map (some m)) (.int .i64 z) true).run Tryz.prog w = .ok (.tuple #[.int .i64 v, .bool ((List.range k).any (fun j => (l.getD j (0, [])).1 == z))]) w := by
  obtain ⟨Dm, h1, h2⟩ := h
  have hwf : (Lit.int .i64 z).wf = true := WalkArith.wf_i64 hz
  have hkey := Maps.keyOf_int_mk (P := Tryz.prog) Tryz.underlying3 hwf
  obtain ⟨v, ps, hrun, hv⟩ := h1.look_ok (Maps.int_keyed Tryz.underlying3) Tryz.underlying119 (zero_int w) (plainElem_int Tryz.underlying3 (a := 0) (by decide)) hkey
  obtain ⟨a, rfl, _⟩ := plainElem_int_inv Tryz.underlying3 hv
  exact ⟨a, by rw [hrun, h2 z]⟩
theorem Plc.store {w : World} {m k : Nat} {l : List (Int × List Int)} (h : Plc w m k l) (hk : k ≤ 300) (hz : -9223372036854775808 ≤ (l.getD k (0, [])).1 ∧ (l.getD k (0, [])).1 ≤ 9223372036854775807) :
    ∃ w', (Instr.mapUpdate 119 (.map (some m)) (.int .i64 (l.getD k (0, [])).1) (.int .i64 k)).run Tryz.prog w = .ok () w' ∧ Plc w' m (k + 1) l ∧ w.mapTurned w' m := by
  obtain ⟨Dm, h1, h2⟩ := h
  have hwf : (Lit.int .i64 (l.getD k (0, [])).1).wf = true := WalkArith.wf_i64 hz
  have hkey := Maps.keyOf_int_mk (P := Tryz.prog) Tryz.underlying3 hwf
  obtain ⟨w', hrun, hown', ht⟩ := h1.store (Maps.int_keyed Tryz.underlying3) Tryz.underlying119 (by unfold maxLen; omega) hkey (plainElem_int Tryz.underlying3 (a := (k : Int)) (WalkArith.wf_i64 (by omega)))
  have hlit : WideAt.IsKeyLit (.int .i64 (l.getD k (0, [])).1) := (Maps.int_keyed Tryz.underlying3).key hkey
  refine ⟨w', hrun, ⟨_, hown', fun z => ?_⟩, ht⟩
  rw [List.range_succ, List.any_append]
  by_cases hj : z = (l.getD k (0, [])).1
  · subst hj
    rw [Maps.has_put_same h1.isMap hlit]
    simp
  · have hne : Lit.int .i64 z ≠ Lit.int .i64 (l.getD k (0, [])).1 := by
      intro e; simp only [Lit.int.injEq, true_and] at e; exact hj e
    rw [Maps.has_put_other hne, h2 z]
    have e0 : ((l.getD k (0, [])).1 == z) = false := by
      rw [beq_eq_false_iff_ne]
      exact fun e => hj e.symm
    rw [List.any_cons, List.any_nil, e0, Bool.or_false, Bool.or_false]

theorem chkK_late {L : Int} {l : List (Int × List Int)} {k : Nat} (h : chkK L l k ≠ 0) : ∀ m, k ≤ m → chkK L l m = chkK L l k
  | 0, hm => by rw [show k = 0 by omega]
  | m + 1, hm => by
    by_cases e : k = m + 1
    · rw [e]
    · show (if chkK L l m = 0 then _ else _) = _
      rw [chkK_late h m (by omega), if_neg h]

section
variable {w : World} {p q : Nat} {S : Nat → Prop} {D : DS} {s : Int}

theorem check_full (hq : PgAt w q p s) (a : Option Addr) (n cap : Nat) (hn : 23 < n) (hm : n ≤ 140737488351232) :
    Calls Tryz.prog 44 #[.pointer (some ⟨q, 0, none⟩), .slice a n cap] w fun e w' => e = .returned (errV 4) ∧ w = w' := by
  go_enter Tryz.func44, Tryz.ntmps44
  go_wp2
  go_ret
  exact ⟨rfl, rfl⟩

set_option maxRecDepth 100000 in
set_option maxHeartbeats 400000 in
theorem check_some (h : Dev w p S D) (hq : PgAt w q p s) (b off cap : Nat) (l : List (Int × List Int)) (hl : PgsO w S (some ⟨b, off, none⟩) cap l) (hne : l ≠ []) (hn : l.length ≤ 23) :
    Calls Tryz.prog 44 #[.pointer (some ⟨q, 0, none⟩), .slice (some ⟨b, off, none⟩) l.length cap] w fun e w' => e = .returned (errV (chkK (cntI D.secs.length) l l.length)) ∧ Below w.heap.size w w' := by
  obtain ⟨hl1, hl2, hl3⟩ := hl
  obtain ⟨b', off', e', hSb, hcell⟩ := hl3 hne
  simp only [Option.some.injEq, Addr.mk.injEq, and_true] at e'
  obtain ⟨rfl, rfl⟩ := e'
  have hmm := @run_makeMap Tryz.prog
  generalize hL : cntI D.secs.length = L at *
  have H := hide h
  have HQ := hide hq
  have HC := hide hcell
  have HL := hide hL
  clear h hq hcell hl3 hL hne
  generalize hN : l.length = N at *
  have HN := hide hN
  clear hN
  go_enter Tryz.func44, Tryz.ntmps44
  go_wp2_with fail
  go_loopw [17] (fun v wr => ∃ k : Nat, k ≤ N ∧ v = .int .i64 k ∧ Plc wr w.heap.size k l ∧ Below w.heap.size w wr ∧ chkK L l k = 0) (fun v _ => N - (intOf v).toNat)
  case atStart => exact ⟨0, Nat.zero_le _, rfl, Plc.made w l, (Below.refl _ _).alloc (Nat.le_refl _) _, rfl⟩
  case round =>
    obtain ⟨k, hk, rfl, hplc, hbel, hz⟩ := hrel
    by_cases hlt : k < N
    · obtain ⟨c0, ab, capb, c1, hbs, _, hr1, hr2⟩ := unhide HC k hlt
      rw [← hbel.cell (block_lt_of_cell c0)] at c0
      rw [← hbel.cell (block_lt_of_cell c1)] at c1
      rw [← Nat.add_assoc] at c1
      have hblen := hbs.2.2.1
      have hb1 : Below w.heap.size w (wr.alloc (.cells #[.int .i64 (l.getD k (0, [])).1, .slice ab (l.getD k (0, [])).2.length capb] 76)) := hbel.alloc hbel.size _
      have hp1 : Plc (wr.alloc (.cells #[.int .i64 (l.getD k (0, [])).1, .slice ab (l.getD k (0, [])).2.length capb] 76)) w.heap.size k l := hplc.same (heap_alloc_old _ _ hplc.lt)
      have hhas := pHas_any ((unhide H).same hb1.size (fun j hj => hb1.block j ((unhide H).lt j hj))) ((unhide HQ).same (hb1.block q (unhide HQ).lt)) (l.getD k (0, [])).1
      obtain ⟨v, hlook⟩ := hp1.look (l.getD k (0, [])).1 ⟨hr1, hr2⟩
      obtain ⟨w2, hst, hp2, htn⟩ := hp1.store (by omega) ⟨hr1, hr2⟩
      have hbel2 : Below w.heap.size w w2 := hb1.grown htn.grown hb1.size (fun j hj => by cases hj; exact Nat.le_refl _)
      have hch : chkK L l (k + 1) = pgFault L l k := by show (if chkK L l k = 0 then _ else _) = _; rw [if_pos hz]
      have hlate : pgFault L l k ≠ 0 → chkK L l N = pgFault L l k := fun hp => by rw [chkK_late (k := k + 1) (by rw [hch]; exact hp) N (by omega), hch]
      unfold pgFault at hch hlate
      unfold hasP at hhas
      rw [unhide HL] at hhas
      have HH := hide hhas
      have HP2 := hide hp2
      have HB2 := hide hbel2
      have HB1 := hide hb1
      have HCH := hide hch
      have HLT := hide hlate
      clear hhas hp2 hp1 hbel2 hb1 htn hbel hplc hz hbs hch hlate
      generalize (l.getD k (0, [])).1 = z at *
      generalize (l.getD k (0, [])).2.length = bl at *
      generalize (List.range k).any (fun j => (l.getD j (0, [])).1 == z) = A at *
      by_cases hc1 : z < 0 ∨ L ≤ z
      · rw [decide_eq_false (by omega)] at HH
        have HE : Hid (chkK L l N = 1) := hide (by have := unhide HLT; rw [if_pos hc1] at this; exact this (by decide))
        clear HLT HCH hlook hst hc1
        go_wp2_with fail
        refine (unhide HH).mono ?_
        rintro e w1 ⟨rfl, rfl⟩
        go_wp2
        go_ret
        exact ⟨by rw [unhide HE]; rfl, unhide HB1⟩
      · rw [decide_eq_true (by omega)] at HH
        have HLT2 := HLT
        have HCH2 := HCH
        rw [if_neg hc1] at HLT2 HCH2
        by_cases hc2 : bl ≠ 32
        · have HE : Hid (chkK L l N = 3) := hide (by have := unhide HLT2; rw [if_pos hc2] at this; exact this (by decide))
          have hc2' : ¬ (bl : Int) = 32 := by omega
          clear HLT HCH HLT2 HCH2 hlook hst hc1 hc2
          go_wp2_with fail
          refine (unhide HH).mono ?_
          rintro e w1 ⟨rfl, rfl⟩
          go_wp2
          go_ret
          exact ⟨by rw [unhide HE]; rfl, unhide HB1⟩
        · rw [if_neg hc2] at HLT2 HCH2
          obtain rfl : bl = 32 := by omega
          cases A
          · have HE : Hid (chkK L l (k + 1) = 0) := hide (by have := unhide HCH2; rw [if_neg (by decide)] at this; exact this)
            clear HLT HCH HLT2 HCH2 hc1 hc2
            go_wp2_with fail
            refine (unhide HH).mono ?_
            rintro e w1 ⟨rfl, rfl⟩
            go_wp2
            go_roundw
            case rel => exact ⟨k + 1, by omega, by go_num, unhide HP2, unhide HB2, unhide HE⟩
            case measure => simp [intOf]; omega
          · have HE : Hid (chkK L l N = 7) := hide (by have := unhide HLT2; rw [if_pos rfl] at this; exact this (by decide))
            clear HLT HCH HLT2 HCH2 hc1 hc2 hst
            go_wp2_with fail
            refine (unhide HH).mono ?_
            rintro e w1 ⟨rfl, rfl⟩
            go_wp2
            go_ret
            exact ⟨by rw [unhide HE]; rfl, unhide HB1⟩
    · obtain rfl : k = N := by omega
      go_wp2
      go_ret
      exact ⟨by rw [hz]; rfl, hbel⟩
end
end Go.Proofs.YtjipnjmnkfjmhaaGreatDoor
/-! Contracts of package pages: check as a whole; the numbers and bodies of pages; the sector of a mark. (Part of the proofs over package pages.) -/
namespace Go.Proofs.YtjipnjmnkfjmhaaGreatDoor
open Go.RowKit
set_option linter.unusedVariables false

section
variable {w : World} {p q : Nat} {S : Nat → Prop} {D : DS} {s : Int}

theorem check_nil (a : Option Addr) (cap : Nat) :
    Calls Tryz.prog 44 #[.pointer (some ⟨q, 0, none⟩), .slice a 0 cap] w fun e w' => e = .returned (errV 0) ∧ Below w.heap.size w w' := by
  have hmm := @run_makeMap Tryz.prog
  go_enter Tryz.func44, Tryz.ntmps44
  go_wp2_with fail
  go_loop [17] (fun v => v = .int .i64 0) (fun _ => 0)
  case atStart => rfl
  case round =>
    subst hrel
    go_wp2
    go_ret
    exact ⟨rfl, (Below.refl _ _).alloc (Nat.le_refl _) _⟩

theorem check_any (h : Dev w p S D) (hq : PgAt w q p s) (a : Option Addr) (cap : Nat) (l : List (Int × List Int)) (hl : PgsO w S a cap l) :
    Calls Tryz.prog 44 #[.pointer (some ⟨q, 0, none⟩), .slice a l.length cap] w fun e w' => e = .returned (errV (commitE (cntI D.secs.length) l)) ∧ Below w.heap.size w w' := by
  unfold commitE
  by_cases h1 : 23 < l.length
  · rw [if_pos h1]
    exact (check_full hq a l.length cap h1 hl.2.1).mono fun e w' ⟨he, hw⟩ => ⟨he, by rw [hw]; exact Below.refl _ _⟩
  · rw [if_neg h1]
    by_cases h0 : l = []
    · subst h0
      exact check_nil a cap
    · obtain ⟨b, off, rfl, _⟩ := hl.2.2 h0
      exact check_some h hq b off cap l hl h0 (by omega)

theorem info_page : (Tryz.prog.info? 76).map (fun i => (i.size, i.bytes)) = some (2, 32) := by kernel_rfl

/-- The slice values of the bodies of pages. -/
def bodV (w : World) (b off i : Nat) : Value := (w.cell? ⟨b, off + (i * 2 + 1), none⟩).getD undef

theorem one_slice (v : Option Addr) (n c : Nat) : ∀ u ∈ [Value.slice v n c], u.oneCell' = true := by
  intro u hu
  simp at hu
  subst hu; rfl

theorem own_block {base e size : Nat} {v : Value} {n : Nat} {xs : List Value} (h : w.ownsRow base e size v n xs) : ∀ k, v.ownBlock = some k → base ≤ k := by
  intro k hk
  rcases h.2 with ⟨rfl, _⟩ | ⟨g, cap, cur, rfl, hB, _⟩
  · cases hk
  · simp [Value.ownBlock] at hk
    omega
theorem own_apart {base e size base' e' size' : Nat} {v v' : Value} {n n' : Nat} {xs xs' : List Value} (h : w.ownsRow base e size v n xs) (h' : w.ownsRow base' e' size' v' n' xs') (he : e ≠ e') : ∀ g, v.ownBlock = some g → v'.ownBlock ≠ some g := by
  intro g hg hg'
  obtain ⟨cur, h1⟩ := ownsRow_block h hg
  obtain ⟨cur', h2⟩ := ownsRow_block h' hg'
  rw [h1] at h2
  simp at h2
  exact he h2.2
theorem own_kept {w' : World} {base e size : Nat} {v : Value} {n : Nat} {xs : List Value} {row : Option Nat} (h : w.ownsRow base e size v n xs) (hg : w.grownBy w' row) (hn : ∀ g, v.ownBlock = some g → row ≠ some g) : w'.ownsRow base e size v n xs :=
  ownsRow_same h (fun g hg' => hg.block g (by
    obtain ⟨cur, h1⟩ := ownsRow_block h hg'
    exact (Array.getElem?_eq_some_iff.1 h1).1) (fun e => hn g hg' e.symm))

theorem own_lt {base e size : Nat} {v : Value} {n : Nat} {xs : List Value} (h : w.ownsRow base e size v n xs) : ∀ g, v.ownBlock = some g → g < w.heap.size := by
  intro g hg
  obtain ⟨cur, h1⟩ := ownsRow_block h hg
  exact (Array.getElem?_eq_some_iff.1 h1).1
theorem cell_one1 (w : World) (x : Value) (t : TypeId) : ∀ j u, ([x] : List Value)[j]? = some u → (w.alloc (.cells #[x] t)).cell? (Addr.add ⟨w.heap.size, 0, none⟩ j) = some u := by
  intro j u hj
  cases j with
  | zero =>
    simp at hj
    subst hj
    rw [addr_add, cell_of_row _ _ _ _ _ (0, 0) (heap_alloc_new w _)]
    rfl
  | succ j => simp at hj

/-- The numbers, and the bodies' slice values, of the first k pages. -/
def numV (l : List (Int × List Int)) (k : Nat) : List Value := (List.range k).map (fun i => .int .i64 (l.getD i (0, [])).1)
def bodVs (w : World) (b off k : Nat) : List Value := (List.range k).map (bodV w b off)
theorem numV_succ (l : List (Int × List Int)) (k : Nat) : numV l (k + 1) = numV l k ++ [.int .i64 (l.getD k (0, [])).1] := by simp [numV, List.range_succ]
theorem bodVs_succ (w : World) (b off k : Nat) : bodVs w b off (k + 1) = bodVs w b off k ++ [bodV w b off k] := by simp [bodVs, List.range_succ]

set_option maxRecDepth 100000 in
set_option maxHeartbeats 400000 in
theorem parts_any (b off cap : Nat) (l : List (Int × List Int)) (hl : PgsO w S (some ⟨b, off, none⟩) cap l) (hne : l ≠ []) (hn : l.length ≤ 23) :
    Calls Tryz.prog 46 #[.slice (some ⟨b, off, none⟩) l.length cap] w fun e w' => ∃ nv bv, e = .returned (.tuple #[nv, bv]) ∧ w'.ownsRow w.heap.size 3 1 nv l.length (numV l l.length) ∧ w'.ownsRow w.heap.size 36 1 bv l.length (bodVs w b off l.length) ∧ Below w.heap.size w w' := by
  obtain ⟨hl1, hl2, hl3⟩ := hl
  obtain ⟨b', off', e', hSb, hcell⟩ := hl3 hne
  simp only [Option.some.injEq, Addr.mk.injEq, and_true] at e'
  obtain ⟨rfl, rfl⟩ := e'
  have HC := hide hcell
  clear hcell hl3 hne
  generalize hN : l.length = N at *
  have HN := hide hN
  clear hN
  obtain ⟨i0, hi0, hz0, hz1, hz2⟩ := info_parts info_int
  obtain ⟨i1, hi1, hy0, hy1, hy2⟩ := info_parts info_bytes
  go_enter Tryz.func46, Tryz.ntmps46
  go_wp2_with fail
  go_loopw [2, 3, 8] (fun nv bv v wr => ∃ k : Nat, k ≤ N ∧ v = .int .i64 k ∧ wr.ownsRow w.heap.size 3 1 nv k (numV l k) ∧ wr.ownsRow w.heap.size 36 1 bv k (bodVs w b off k) ∧ Below w.heap.size w wr) (fun _ _ v _ => N - (intOf v).toNat)
  case atStart => exact ⟨0, Nat.zero_le _, rfl, World.ownsRow_nil _ _ _ _, World.ownsRow_nil _ _ _ _, Below.refl _ _⟩
  case round =>
    obtain ⟨k, hk, rfl, hnv, hbv, hbel⟩ := hrel
    by_cases hlt : k < N
    · obtain ⟨c0, ab, capb, c1, hbs, _, hr1, hr2⟩ := unhide HC k hlt
      have hV : bodV w b off k = .slice ab (l.getD k (0, [])).2.length capb := by unfold bodV; rw [c1]; rfl
      rw [← hbel.cell (block_lt_of_cell c0)] at c0
      rw [← hbel.cell (block_lt_of_cell c1)] at c1
      rw [← Nat.add_assoc] at c1
      have hblen := hbs.2.2.1
      have hsz := hbel.size
      have HO1 := hide (World.ownsRow.alloc (World.ownsRow.alloc hnv (.cells #[.int .i64 (l.getD k (0, [])).1, .slice ab (l.getD k (0, [])).2.length capb] 76)) (.cells #[.int .i64 (l.getD k (0, [])).1] 3))
      have HO2 := hide (World.ownsRow.alloc (World.ownsRow.alloc hbv (.cells #[.int .i64 (l.getD k (0, [])).1, .slice ab (l.getD k (0, [])).2.length capb] 76)) (.cells #[.int .i64 (l.getD k (0, [])).1] 3))
      have HB1 := hide ((hbel.alloc hsz (.cells #[.int .i64 (l.getD k (0, [])).1, .slice ab (l.getD k (0, [])).2.length capb] 76)).alloc (by simp; omega) (.cells #[.int .i64 (l.getD k (0, [])).1] 3))
      have HBK := hide (own_block hnv)
      have HBK2 := hide (own_block hbv)
      have HAP := hide (own_apart hnv hbv (by decide))
      have HNS := hide (numV_succ l k)
      have HBS := hide (bodVs_succ w b off k)
      rw [hV] at HBS
      have HLT := hide (own_lt hnv)
      have HPG : Hid (∀ o : Obj, (wr.alloc o).heap[wr.heap.size]? = some o) := hide (fun o => heap_alloc_new wr o)
      clear hnv hbv hbel hbs hV
      generalize (l.getD k (0, [])).1 = z at *
      generalize (l.getD k (0, [])).2.length = bl at *
      go_wp2_with (at_builtin; refine wpList_append_own_at _ rfl _ _ 22 rfl w.heap.size 3 i0 (.int .i64 0) 1 8 Tryz.underlying22 hi0 hz0 hz1 hz2 rfl (by decide) _ _ _ rfl (unhide HO1) ⟨wr.heap.size + 1, 0, none⟩ 1 1 [.int .i64 z] rfl rfl (cell_one_new' _ _ _ _) (one_int _) (by unfold maxLen; omega) (by omega) (by simp; omega) ?_)
      intro v9 w9 hown9 hgrow9 _ _
      rw [← unhide HNS] at hown9
      have hpg : w9.heap[wr.heap.size]? = some (.cells #[.int .i64 z, .slice ab bl capb] 76 (0, 0)) := by
        rw [hgrow9.block wr.heap.size (by simp; omega) (fun e => by have := unhide HLT wr.heap.size e.symm; omega), heap_alloc_old _ _ (by simp), heap_alloc_new]
      have c3 : w9.cell? ⟨wr.heap.size, 1, none⟩ = some (.slice ab bl capb) := by rw [cell_of_row w9 _ 1 _ _ (0, 0) hpg]; rfl
      have hb9 := (unhide HB1).grown hgrow9 (by simp; omega) (unhide HBK)
      have HB9 := hide (hb9.alloc hb9.size (.cells #[.slice ab bl capb] 36))
      have hsz9 := hb9.size
      have HN9 := hide (World.ownsRow.alloc hown9 (.cells #[.slice ab bl capb] 36))
      have hbv9 := own_kept (unhide HO2) hgrow9 (fun g hg e => unhide HAP g e hg)
      have HAP2 := hide (own_apart hbv9 hown9 (by decide))
      have HO3 := hide (World.ownsRow.alloc hbv9 (.cells #[.slice ab bl capb] 36))
      clear hown9 hgrow9 hpg hb9 hbv9 HB1 HO1 HO2 HAP HNS HPG
      go_wp2_with (at_builtin; refine wpList_append_own_at _ rfl _ _ 23 rfl w.heap.size 36 i1 (.slice none 0 0) 1 24 Tryz.underlying23 hi1 hy0 hy1 hy2 rfl (by decide) _ _ _ rfl (unhide HO3) ⟨w9.heap.size, 0, none⟩ 1 1 [.slice ab bl capb] rfl rfl (cell_one1 _ _ _) (one_slice _ _ _) (by unfold maxLen; omega) (by omega) (by simp; omega) ?_)
      intro v10 w10 hown10 hgrow10 _ _
      rw [← unhide HBS] at hown10
      have HB10 := hide ((unhide HB9).grown hgrow10 (by simp; omega) (unhide HBK2))
      have HN10 := hide (own_kept (unhide HN9) hgrow10 (fun g hg e => unhide HAP2 g e hg))
      have HO10 := hide hown10
      clear hown10 hgrow10 HB9 HN9 HO3 HAP2 HBS
      go_wp2
      go_roundw
      case rel => exact ⟨k + 1, by omega, by go_num, unhide HN10, unhide HO10, unhide HB10⟩
      case measure => simp [intOf]; omega
    · obtain rfl : k = N := by omega
      go_wp2
      go_ret2
      exact ⟨_, _, rfl, hnv, hbv, hbel⟩
end
end Go.Proofs.YtjipnjmnkfjmhaaGreatDoor
/-! Contracts of package pages: the sector of a mark; Format. (Part of the proofs over package pages.) -/
namespace Go.Proofs.YtjipnjmnkfjmhaaGreatDoor
open Go.RowKit
set_option linter.unusedVariables false

/-- A slice of ints, each of which is a byte. -/
def Nums (w : World) (v : Value) (l : List Int) : Prop := Byt l ∧ ∃ a cap, v = .slice a l.length cap ∧ (l ≠ [] → ∃ g, a = some ⟨g, 0, none⟩ ∧ ∀ i, i < l.length → w.cell? ⟨g, i, none⟩ = some (.int .i64 (l.getD i 0)))
theorem Nums.nil (w : World) : Nums w (.slice none 0 0) [] := ⟨fun z hz => (by cases hz), none, 0, rfl, fun h => absurd rfl h⟩
theorem Nums.below {w w' : World} {v : Value} {l : List Int} (h : Nums w v l) (hb : Below w.heap.size w w') : Nums w' v l := by
  obtain ⟨h1, a, cap, h2, h3⟩ := h
  refine ⟨h1, a, cap, h2, fun hne => ?_⟩
  obtain ⟨g, h4, h5⟩ := h3 hne
  exact ⟨g, h4, fun i hi => (hb.cell (block_lt_of_cell (h5 i hi))).trans (h5 i hi)⟩

def markL (l : List Int) (k : Nat) : List Int := (l.length : Int) :: l.take k
theorem markL_succ {l : List Int} {k : Nat} (h : k < l.length) : markL l (k + 1) = markL l k ++ [l.getD k 0] := by
  unfold markL
  rw [List.take_succ_eq_append_getElem h]
  simp [List.getD, h]
theorem own_byte {w : World} {B g : Nat} {x : Int} (hB : B ≤ g) (h : w.heap[g]? = some (.cells #[.int .u8 x] 5 (0, 0))) : OwnV w B (.slice (some ⟨g, 0, none⟩) 1 1) [x] :=
  ⟨rfl, .inr ⟨g, 1, #[.int .u8 x], rfl, hB, h, Nat.le_refl _, by decide, rfl, rfl⟩⟩

section
variable {w : World}
set_option maxRecDepth 100000 in
set_option maxHeartbeats 400000 in
theorem sector_yes (t : Int) (nv : Value) (l : List Int) (hn : Nums w nv l) (hl : l.length ≤ 23) (ht1 : ¬ t < 1) (ht2 : ¬ 4294967295 < t) :
    Calls Tryz.prog 17 #[.agg #[.int .i64 t, nv]] w fun e w' => ∃ g, e = .returned (.tuple #[.slice (some ⟨g, 0, none⟩) 32 32, .nilIface]) ∧ w.heap.size ≤ g ∧ Blk w' g (secL t (markL l l.length)) ∧ Below w.heap.size w w' := by
  obtain ⟨hbyt, a, cap, rfl, hcell⟩ := hn
  have HC := hide hcell
  have HBY := hide hbyt
  have HM : Hid (∀ (w1 : World) a1 c1, Bs w1 a1 c1 (markL l l.length) → Calls Tryz.prog 35 #[.int .i64 t, .slice a1 (l.length + 1) c1] w1 fun e w' => ∃ g, e = .returned (.tuple #[.slice (some ⟨g, 0, none⟩) 32 32, .nilIface]) ∧ w1.heap.size ≤ g ∧ Blk w' g (secL t (markL l l.length)) ∧ Below w1.heap.size w1 w') := hide (fun w1 a1 c1 h => by
    have := make_yes t a1 c1 (markL l l.length) w1 h ht1 ht2 (by simp [markL]; omega)
    rwa [show (markL l l.length).length = l.length + 1 by simp [markL]] at this)
  generalize secL t (markL l l.length) = Z at *
  clear hcell hbyt
  obtain ⟨i0, hi0, hz0, hz1, hz2⟩ := info_parts info_u8
  have hlb : (l.length : Int) ≤ 255 := by omega
  go_enter Tryz.func17, Tryz.ntmps17
  go_wp2_with fail
  obtain ⟨w1, hw1⟩ : ∃ w1, w1 = w.alloc (.cells #[.int .i64 t, .slice a l.length cap] 51) := ⟨_, rfl⟩
  have hs1 : w1.heap.size = w.heap.size + 1 := by rw [hw1]; simp
  have hb1 : Below w.heap.size w w1 := by rw [hw1]; exact (Below.refl _ _).alloc (Nat.le_refl _) _
  have hm1 : w1.heap[w.heap.size]? = some (.cells #[.int .i64 t, .slice a l.length cap] 51 (0, 0)) := by rw [hw1]; exact heap_alloc_new _ _
  rw [← hw1]
  clear hw1
  have HS1 := hide hs1
  have HB1 := hide hb1
  have HM1 := hide hm1
  clear hs1 hb1 hm1
  go_loopw [4, 15] (fun bv v wr => ∃ k : Nat, k ≤ l.length ∧ v = .int .i64 k ∧ OwnV wr (w.heap.size + 1) bv (markL l k) ∧ Below (w.heap.size + 1) w1 wr) (fun _ v _ => l.length - (intOf v).toNat)
  case atStart =>
    refine ⟨0, Nat.zero_le _, rfl, ?_, ?_⟩
    · refine own_byte (Nat.le_refl _) ?_
      rw [← unhide HS1]
      exact heap_alloc_new _ _
    · rw [← unhide HS1]
      exact (Below.refl _ _).alloc (Nat.le_refl _) _
  case round =>
    obtain ⟨k, hk, rfl, hown, hbel⟩ := hrel
    have hm := (hbel.block w.heap.size (by omega)).trans (unhide HM1)
    have hsz := hbel.size
    rw [unhide HS1] at hsz
    by_cases hlt : k < l.length
    · obtain ⟨g, rfl, hc⟩ := unhide HC (by intro e; rw [e] at hlt; cases hlt)
      have hc0 := hc k hlt
      have hblt := block_lt_of_cell hc0
      rw [← (unhide HB1).cell hblt, ← (hbel.mono (by omega : w.heap.size ≤ w.heap.size + 1)).cell (Nat.lt_of_lt_of_le hblt (by have := unhide HS1; omega))] at hc0
      obtain ⟨z0, z1⟩ := (unhide HBY).getD k
      have HSU := hide (markL_succ hlt)
      unfold OwnV at hown
      rw [show (markL l k).length = k + 1 by simp [markL]; omega] at hown
      have HO := hide (World.ownsRow.alloc hown (.cells #[.int .u8 (l.getD k 0)] 5))
      have HB2 := hide (hbel.alloc hsz (.cells #[.int .u8 (l.getD k 0)] 5))
      have HBK := hide (own_block hown)
      clear hown hbel hm hc hblt
      generalize l.getD k 0 = z at *
      go_wp2_with (at_builtin; refine wpList_append_own_at _ rfl _ _ 36 rfl (w.heap.size + 1) 5 i0 (.int .u8 0) 1 1 Tryz.underlying36 hi0 hz0 hz1 hz2 rfl (by decide) _ _ _ rfl (unhide HO) ⟨wr.heap.size, 0, none⟩ 1 1 [.int .u8 z] rfl rfl (cell_one1 _ _ _) (oneCell_u8 [z]) (by unfold maxLen; omega) (by omega) (by simp; omega) ?_)
      intro v9 w9 hown9 hgrow9 _ _
      have HO9 : Hid (OwnV w9 (w.heap.size + 1) v9 (markL l (k + 1))) := hide (by
        unfold OwnV
        rw [unhide HSU, List.map_append]
        rw [show (markL l k ++ [z]).length = k + 1 + 1 by simp [markL]; omega]
        exact hown9)
      have HB9 := hide ((unhide HB2).grown hgrow9 (by simp; omega) (unhide HBK))
      clear hown9 hgrow9 HO HB2 HBK HSU
      go_wp2
      go_roundw
      case rel => exact ⟨k + 1, by omega, by go_num, unhide HO9, unhide HB9⟩
      case measure => simp [intOf]; omega
    · obtain rfl : k = l.length := by omega
      have hbyt : Byt (markL l l.length) := by
        intro z hz
        unfold markL at hz
        rcases List.mem_cons.1 hz with rfl | hz
        · omega
        · exact unhide HBY z (List.mem_of_mem_take hz)
      have hmlen : (markL l l.length).length = l.length + 1 := by simp [markL]
      obtain ⟨a1, c1, rfl, hbs⟩ := hown.bs hbyt (by omega)
      have hmk := unhide HM wr a1 c1 hbs
      rw [hmlen]
      have c0 : wr.cell? ⟨w.heap.size, 0, none⟩ = some (.int .i64 t) := by rw [cell_of_row _ _ _ _ _ _ hm]; rfl
      have HMK := hide hmk
      have HBEL := hide ((unhide HB1).trans (hbel.mono (by omega : w.heap.size ≤ w.heap.size + 1)))
      clear hmk hbs hown hbel hm HM hbyt hmlen
      go_wp2_with fail
      refine (unhide HMK).mono ?_
      rintro e w2 ⟨g2, rfl, hg2, h2, h3⟩
      go_wp2
      go_ret2
      exact ⟨g2, rfl, Nat.le_trans (unhide HBEL).size hg2, h2, (unhide HBEL).trans (h3.mono (unhide HBEL).size)⟩
end
end Go.Proofs.YtjipnjmnkfjmhaaGreatDoor
/-! Contracts of package pages: Format. (Part of the proofs over package pages.) -/
namespace Go.Proofs.YtjipnjmnkfjmhaaGreatDoor
open Go.RowKit
set_option linter.unusedVariables false

/-- A set with one block more. -/
def plus (S : Nat → Prop) (q : Nat) : Nat → Prop := fun k => S k ∨ k = q
theorem Turn.plus {S S' : Nat → Prop} {w w' : World} (h : Turn S S' w w') (q : Nat) : Turn (plus S q) (plus S' q) w w' :=
  ⟨h.os, h.tape, h.output, h.size, fun k hk hn => h.block k hk (fun hs => hn (.inl hs)), fun k hk hs => by
    rcases hs with hs | hs
    · exact .inl (h.foot k hk hs)
    · exact .inr hs⟩

theorem secL_two : secL 2 [0] = secL 2 [] := by decide
theorem wsF_one (x : DS × Int) (f : Nat → Int × List Int) : wsF x f 1 = andW x (f 0).1 (f 0).2 := rfl
theorem wsF_two (x : DS × Int) (f : Nat → Int × List Int) : wsF x f 2 = andW (andW x (f 0).1 (f 0).2) (f 1).1 (f 1).2 := rfl

def fmtB (i : Nat) : List Int := if i = 0 then secL 2 [] else zerosB 32

section
variable {w0 w : World} {p : Nat} {S : Nat → Prop} {D : DS}

theorem format_no (h : Live w0 w p S D) (hc : cntI D.secs.length < 1) :
    Calls Tryz.prog 5 #[.pointer (some ⟨p, 0, none⟩)] w fun e w' => e = .returned (.tuple #[.pointer none, errV 1]) ∧ w = w' := by
  have HC := hide (count_any h.dev)
  generalize cntI D.secs.length = L at *
  clear h
  go_enter Tryz.func5, Tryz.ntmps5
  go_wp2_with fail
  refine (unhide HC).mono ?_
  rintro e w1 ⟨rfl, rfl⟩
  go_wp2
  go_ret2
  exact ⟨rfl, rfl⟩

set_option maxRecDepth 100000 in
set_option maxHeartbeats 400000 in
theorem format_yes (h : Live w0 w p S D) (hc : ¬ cntI D.secs.length < 1) :
    Calls Tryz.prog 5 #[.pointer (some ⟨p, 0, none⟩)] w fun e w' => ∃ v S', e = .returned (.tuple #[v, errV (formatRun D).2]) ∧ Live w0 w' p S' (formatRun D).1 ∧ Turn S S' w w' ∧
      ((formatRun D).2 = 0 → ∃ q, v = .pointer (some ⟨q, 0, none⟩) ∧ PgAt w' q p 2 ∧ w.heap.size ≤ q ∧ ¬ S' q) ∧ ((formatRun D).2 ≠ 0 → v = .pointer none) := by
  have HC := hide (count_any h.dev)
  have hsec := sector_yes 2 (.slice none 0 0) [] (Nums.nil w) (by decide) (by decide) (by decide)
  have hmo : secL 2 (markL [] ([] : List Int).length) = secL 2 [] := secL_two
  rw [hmo] at hsec
  have HSEC := hide hsec
  have H := hide h
  obtain ⟨i0, hi0, hz0, hz1, hz2⟩ := info_parts info_u8
  generalize cntI D.secs.length = L at *
  clear h hsec hmo
  generalize hX : formatRun D = X
  have HX := hide hX
  clear hX
  go_enter Tryz.func5, Tryz.ntmps5
  go_wp2_with fail
  refine (unhide HC).mono ?_
  rintro e w1 ⟨rfl, rfl⟩
  go_wp2_with fail
  refine (unhide HSEC).mono ?_
  rintro e w1 ⟨g1, rfl, hg1, hb1, hbel1⟩
  have HB1 := hide hb1
  have HBEL1 := hide hbel1
  clear hb1 hbel1 HSEC HC
  go_wp2_with (at_make; refine wpList_make_u8 rfl _ _ 36 rfl i0 Tryz.underlying36 hi0 hz0 hz1 hz2 _ _ _ _ 32 rfl rfl rfl rfl (by omega) ?_)
  intro w2 hk2 hs2 hbel2
  have hw1 : w.heap.size ≤ w1.heap.size := (unhide HBEL1).size
  have hbelA : Below w.heap.size w (w2.alloc (.cells #[.slice (some ⟨g1, 0, none⟩) 32 32, .slice (some ⟨w1.heap.size, 0, none⟩) 32 32] 36)) := ((unhide HBEL1).trans (hbel2.mono hw1)).alloc (by omega) _
  have hlA := (unhide H).below hbelA
  have hrow := heap_alloc_new w2 (.cells #[.slice (some ⟨g1, 0, none⟩) 32 32, .slice (some ⟨w1.heap.size, 0, none⟩) 32 32] 36)
  have hbods : Bods (w2.alloc (.cells #[.slice (some ⟨g1, 0, none⟩) 32 32, .slice (some ⟨w1.heap.size, 0, none⟩) 32 32] 36)) S (w1.heap.size + 1) 2 fmtB := by
    rw [hs2] at hrow
    refine ⟨fun hs => by have := (unhide H).dev.lt _ hs; omega, fun k hk => ?_⟩
    have hk2' : k = 0 ∨ k = 1 := by omega
    rcases hk2' with rfl | rfl
    · refine ⟨some ⟨g1, 0, none⟩, 32, ?_, ?_, fun _ x hx hs => ?_⟩
      · rw [cell_of_row _ _ _ _ _ _ hrow, show fmtB 0 = secL 2 [] from rfl, sec_two.1]; rfl
      · rw [show fmtB 0 = secL 2 [] from rfl]
        exact (blk_bs ((unhide HB1).below hbel2) sec_two).below ((Below.refl _ _).alloc (Nat.le_refl _) _)
      · obtain rfl := Option.some.inj hx
        have := (unhide H).dev.lt _ hs
        dsimp only at this
        omega
    · refine ⟨some ⟨w1.heap.size, 0, none⟩, 32, ?_, ?_, fun _ x hx hs => ?_⟩
      · rw [cell_of_row _ _ _ _ _ _ hrow, show fmtB 1 = zerosB 32 from rfl, length_zerosB]; rfl
      · rw [show fmtB 1 = zerosB 32 from rfl]
        exact (blk_bs hk2 sec_zeros).below ((Below.refl _ _).alloc (Nat.le_refl _) _)
      · obtain rfl := Option.some.inj hx
        have := (unhide H).dev.lt _ hs
        dsimp only at this
        omega
  have hwr := write_sides 19 (w1.heap.size + 1) 2 2 fmtB (fun i => (i : Int)) hlA hbods (by rw [size_alloc]; omega) (by decide) (by decide) Tryz.call19 (fun w' S' ht k hk => format1_any k w')
  rw [wsF_two] at hwr
  have hrun : andF (andW (andW (D, 0) ((0 : Nat) : Int) (fmtB 0)) ((1 : Nat) : Int) (fmtB 1)) = formatRun D := rfl
  rw [hrun, unhide HX] at hwr
  have HWR := hide hwr
  have HBELA := hide hbelA
  clear hwr hbods hrow hlA hbelA hrun HB1 HBEL1 hk2 hbel2
  go_wp2_with fail
  refine (unhide HWR).mono ?_
  rintro e w3 ⟨rfl, S3, hl3, ht3⟩
  have HL3 := hide hl3
  have HT3 := hide ((Turn.of_below (S := S) (unhide HBELA)).trans ht3)
  clear hl3 ht3 HWR HBELA
  by_cases hE : X.2 = 0
  · rw [hE, errV_zero]
    go_wp2
    go_ret2
    have hq := heap_alloc_new w3 (.cells #[.pointer (some ⟨p, 0, none⟩), .int .i64 2] 56)
    refine ⟨_, S3, by rw [hE]; rfl, (unhide HL3).below ((Below.refl _ _).alloc (Nat.le_refl _) _), (unhide HT3).trans (Turn.alloc S3 _ _), fun _ => ⟨w3.heap.size, rfl, hq, (unhide HT3).size, fun hs => ?_⟩, fun h => absurd hE h⟩
    have := (unhide HL3).dev.lt _ hs
    omega
  · rw [errV_pos _ hE]
    go_wp2
    go_ret2
    exact ⟨_, S3, by rw [errV_pos _ hE]; rfl, unhide HL3, unhide HT3, fun h => absurd h hE, fun _ => rfl⟩
end
end Go.Proofs.YtjipnjmnkfjmhaaGreatDoor
/-! Contracts of package pages: Commit. (Part of the proofs over package pages.) -/
namespace Go.Proofs.YtjipnjmnkfjmhaaGreatDoor
open Go.RowKit
set_option linter.unusedVariables false

theorem PgsO.turn {w w' : World} {S S' : Nat → Prop} {a : Option Addr} {cap : Nat} {l : List (Int × List Int)} (h : PgsO w S a cap l) (ht : Turn S S' w w') : PgsO w' S' a cap l := by
  obtain ⟨h1, h2, h3⟩ := h
  refine ⟨h1, h2, fun hne => ?_⟩
  obtain ⟨b, off, h4, h5, h6⟩ := h3 hne
  have hpos : 0 < l.length := List.length_pos_iff.2 hne
  have hlt : b < w.heap.size := block_lt_of_cell (h6 0 hpos).1
  refine ⟨b, off, h4, fun hs => h5 (ht.foot b hlt hs), fun i hi => ?_⟩
  obtain ⟨c0, ab, capb, c1, hbs, hn, hr⟩ := h6 i hi
  obtain ⟨q1, q2⟩ := hbs.turns hn ht
  exact ⟨(World.cell?_of_block (a := ⟨b, off + i * 2, none⟩) (ht.block b hlt h5)).trans c0, ab, capb, (World.cell?_of_block (a := ⟨b, off + (i * 2 + 1), none⟩) (ht.block b hlt h5)).trans c1, q1, q2, hr⟩
theorem PgsO.below {w w' : World} {S : Nat → Prop} {a : Option Addr} {cap : Nat} {l : List (Int × List Int)} (h : PgsO w S a cap l) (hb : Below w.heap.size w w') : PgsO w' S a cap l := h.turn (Turn.of_below hb)

theorem own_slice {w : World} {base e : Nat} {v : Value} {n : Nat} {xs : List Value} (h : w.ownsRow base e 1 v n xs) (hn : 0 < n) : ∃ g cap, v = .slice (some ⟨g, 0, none⟩) n cap ∧ base ≤ g ∧ n ≤ cap ∧ g < w.heap.size ∧ ∀ i, i < n → w.cell? ⟨g, i, none⟩ = xs[i]? := by
  rcases h.2 with ⟨_, h0⟩ | ⟨g, cap, cur, rfl, hB, hc, h3, h4, h5, h6⟩
  · omega
  · refine ⟨g, cap, rfl, hB, h3, (Array.getElem?_eq_some_iff.1 hc).1, fun i hi => ?_⟩
    rw [cell_of_row _ _ _ _ _ _ hc, ← h6, List.getElem?_take, if_pos (by omega)]
    simp

/-- What a Commit has laid aside, and nothing of which is in S. -/
structure Kit (w : World) (S : Nat → Prop) (q p : Nat) (s : Int) (m : Nat) (t : Int) (nv : Value) (gn n : Nat) (num : Nat → Int) (gb : Nat) (B : Nat → List Int) (gs : Nat) (X : List Int) (sb : Nat) (sd : Int) : Prop where
  pg : PgAt w q p s
  npg : ¬ S q
  mrk : w.heap[m]? = some (.cells #[.int .i64 t, nv] 51 (0, 0))
  nm : ¬ S m
  nums : ∀ i, i < n → w.cell? ⟨gn, i, none⟩ = some (.int .i64 (num i))
  nn : ¬ S gn
  ln : gn < w.heap.size
  bods : Bods w S gb n B
  lb : gb < w.heap.size
  sec : Blk w gs X
  ns : ¬ S gs
  sid : w.cell? ⟨sb, 0, none⟩ = some (.int .i64 sd)
  nsb : ¬ S sb

section
variable {w w' : World} {S S' : Nat → Prop} {q p : Nat} {s : Int} {m : Nat} {t : Int} {nv : Value} {gn n : Nat} {num : Nat → Int} {gb : Nat} {B : Nat → List Int} {gs : Nat} {X : List Int} {sb : Nat} {sd : Int}
theorem Kit.turn (h : Kit w S q p s m t nv gn n num gb B gs X sb sd) (ht : Turn S S' w w') : Kit w' S' q p s m t nv gn n num gb B gs X sb sd := by
  have lm : m < w.heap.size := (Array.getElem?_eq_some_iff.1 h.mrk).1
  have lsb : sb < w.heap.size := block_lt_of_cell h.sid
  exact ⟨(h.pg.turn ht h.npg).1, (h.pg.turn ht h.npg).2, (ht.block m lm h.nm).trans h.mrk, fun hs => h.nm (ht.foot m lm hs), fun i hi => (World.cell?_of_block (a := ⟨gn, i, none⟩) (ht.block gn h.ln h.nn)).trans (h.nums i hi),
    fun hs => h.nn (ht.foot gn h.ln hs), Nat.lt_of_lt_of_le h.ln ht.size, h.bods.turn ht h.lb, Nat.lt_of_lt_of_le h.lb ht.size, h.sec.same (ht.block gs h.sec.lt h.ns), fun hs => h.ns (ht.foot gs h.sec.lt hs), (World.cell?_of_block (a := ⟨sb, 0, none⟩) (ht.block sb lsb h.nsb)).trans h.sid, fun hs => h.nsb (ht.foot sb lsb hs)⟩
theorem Kit.below (h : Kit w S q p s m t nv gn n num gb B gs X sb sd) (hb : Below w.heap.size w w') : Kit w' S q p s m t nv gn n num gb B gs X sb sd := h.turn (Turn.of_below hb)
theorem Kit.m0 (h : Kit w S q p s m t nv gn n num gb B gs X sb sd) : w.cell? ⟨m, 0, none⟩ = some (.int .i64 t) := by rw [cell_of_row _ _ _ _ _ _ h.mrk]; rfl
theorem Kit.m1 (h : Kit w S q p s m t nv gn n num gb B gs X sb sd) : w.cell? ⟨m, 1, none⟩ = some nv := by rw [cell_of_row _ _ _ _ _ _ h.mrk]; rfl
end

section
variable {w0 w : World} {p q : Nat} {S : Nat → Prop} {D : DS} {s : Int}

theorem commit_bad (h : Live w0 w p S D) (hq : PgAt w q p s) (a : Option Addr) (cap : Nat) (l : List (Int × List Int)) (hl : PgsO w S a cap l) (he : commitE (cntI D.secs.length) l ≠ 0) :
    Calls Tryz.prog 28 #[.pointer (some ⟨q, 0, none⟩), .slice a l.length cap] w fun e w' => e = .returned (errV (commitE (cntI D.secs.length) l)) ∧ Below w.heap.size w w' := by
  have HC := hide (check_any h.dev hq a cap l hl)
  clear h hq hl
  generalize commitE (cntI D.secs.length) l = E at *
  generalize l.length = N at *
  rw [errV_pos _ he] at *
  go_enter Tryz.func28, Tryz.ntmps28
  go_wp2_with fail
  refine (unhide HC).mono ?_
  rintro e w1 ⟨rfl, hb⟩
  go_wp2
  go_ret
  exact ⟨rfl, hb⟩

theorem commit_none (h : Live w0 w p S D) (hq : PgAt w q p s) (a : Option Addr) (cap : Nat) :
    Calls Tryz.prog 28 #[.pointer (some ⟨q, 0, none⟩), .slice a 0 cap] w fun e w' => e = .returned (errV (if D.down then 9 else 0)) ∧ Below w.heap.size w w' := by
  have HC := hide (check_nil (w := w) (q := q) a cap)
  rw [errV_zero] at HC
  have HP : Hid (∀ w1, Below w.heap.size w w1 → Calls Tryz.prog 45 #[.pointer (some ⟨q, 0, none⟩)] w1 fun e w' => e = .returned (errV (if D.down then 9 else 0)) ∧ w1 = w') := hide (fun w1 hb => power_any (h.below hb).dev (hq.below hb))
  clear h hq
  generalize (if D.down = true then (9 : Int) else 0) = E at *
  go_enter Tryz.func28, Tryz.ntmps28
  go_wp2_with fail
  refine (unhide HC).mono ?_
  rintro e w1 ⟨rfl, hb⟩
  have HB := hide hb
  have HP1 := hide (unhide HP w1 hb)
  clear hb HP
  go_wp2_with fail
  refine (unhide HP1).mono ?_
  rintro e w2 ⟨rfl, rfl⟩
  go_wp2
  go_ret
  exact ⟨rfl, unhide HB⟩
end
end Go.Proofs.YtjipnjmnkfjmhaaGreatDoor
/-! Contracts of package pages: Commit, where pages are written. (Part of the proofs over package pages.) -/
namespace Go.Proofs.YtjipnjmnkfjmhaaGreatDoor
open Go.RowKit
set_option linter.unusedVariables false

/-- What the three writes of a Commit come to. -/
theorem commitOut_steps {D : DS} {s : Int} {L : Nat} {l : List (Int × List Int)} (hv : commitE L l = 0) (hl : l ≠ []) (hL : 48 ≤ D.secs.length) (h0 : 0 ≤ s) (h1 : s < 4294967295) {X1 X2 X3 : DS × Int}
    (e1 : X1 = andF (wsF (D, 0) (fun i => (2 + 23 * ((s + 1) % 2) + i, (l.getD i (0, [])).2)) l.length))
    (e2 : X2 = andF (wsF (X1.1, 0) (fun i => ((s + 1) % 2, secL (s + 1) (markB l))) 1))
    (e3 : X3 = andF (wsF (X2.1, 0) (fun i => (48 + (l.getD i (0, [])).1, (l.getD i (0, [])).2)) l.length)) :
    (X1.2 ≠ 0 → commitOut D s L l = (X1.1, s, X1.2)) ∧ (X1.2 = 0 → X2.2 ≠ 0 → commitOut D s L l = (X2.1, s, X2.2)) ∧ (X1.2 = 0 → X2.2 = 0 → X3.2 ≠ 0 → commitOut D s L l = (X3.1, s, X3.2)) ∧ (X1.2 = 0 → X2.2 = 0 → X3.2 = 0 → commitOut D s L l = (X3.1, s + 1, 0)) := by
  have hval := valid_of hv
  have hm : makeOut (s + 1) (markB l) = (secL (s + 1) (markB l), 0) := (mark_made hval (by omega) (by omega)).1
  have hA : commitA D ((s + 1) % 2) l = X1 := e1.symm
  have hB : X1.2 = 0 → commitB X1 ((s + 1) % 2) (s + 1) l = X2 := fun hx => by
    unfold commitB
    rw [if_pos hx, hm, if_pos rfl, e2, wsF_one, ← pair_ok hx]
  have hB2 : X1.2 ≠ 0 → commitB X1 ((s + 1) % 2) (s + 1) l = X1 := fun hx => by
    unfold commitB
    rw [if_neg hx, andF_stick hx]
  have hC : X2.2 = 0 → commitC X2 l = X3 := fun hx => by
    unfold commitC
    rw [e3, ← pair_ok hx]
  have hC2 : ∀ X : DS × Int, X.2 ≠ 0 → commitC X l = X := fun X hx => by
    unfold commitC
    rw [wsF_stick hx, andF_stick hx]
  rw [commitOut_run hv hl hL (by omega)]
  unfold commitRun
  rw [hA]
  refine ⟨fun hx => ?_, fun hx hy => ?_, fun hx hy hz => ?_, fun hx hy hz => ?_⟩
  · rw [hB2 hx, hC2 _ hx, if_neg hx]
  · rw [hB hx, hC2 _ hy, if_neg hy]
  · rw [hB hx, hC hy, if_neg hz]
  · rw [hB hx, hC hy, if_pos hz, hz]

theorem byt_markB {L : Nat} {l : List (Int × List Int)} (hv : Valid L l) (hL : L ≤ 200) : Byt (markB l) := by
  intro z hz
  unfold markB at hz
  rcases List.mem_cons.1 hz with rfl | hz
  · have := hv.len; omega
  · obtain ⟨x, hx, rfl⟩ := List.mem_map.1 hz
    obtain ⟨j, hj, hje⟩ := List.getElem_of_mem hx
    have := hv.num j hj
    have hg : l.getD j (0, []) = x := by simp [List.getD, hj, hje]
    rw [hg] at this
    omega

section
variable {w0 w : World} {p q : Nat} {S : Nat → Prop} {D : DS} {s : Int}

set_option maxRecDepth 100000 in
set_option maxHeartbeats 1000000 in
theorem commit_go {L : Nat} (h : Live w0 w p S D) (hq : PgAt w q p s) (hqS : ¬ S q) (hq0 : w0.heap.size ≤ q) (b off cap : Nat) (l : List (Int × List Int)) (hl : PgsO w S (some ⟨b, off, none⟩) cap l) (hL : cntI D.secs.length = L) (hne : l ≠ []) (he : commitE L l = 0) (h0 : 0 ≤ s) (h1 : s < 4294967295) :
    Calls Tryz.prog 28 #[.pointer (some ⟨q, 0, none⟩), .slice (some ⟨b, off, none⟩) l.length cap] w fun e w' => e = .returned (errV (commitOut D s L l).2.2) ∧ ∃ S', Live w0 w' p S' (commitOut D s L l).1 ∧ PgAt w' q p (commitOut D s L l).2.1 ∧ ¬ S' q ∧ Turn (plus S q) (plus S' q) w w' := by
  have hval := valid_of he
  have hlen := hval.len
  have hpos : 0 < l.length := List.length_pos_iff.2 hne
  have hL48 : 48 ≤ D.secs.length ∧ L ≤ 200 := by
    unfold cntI at hL
    split at hL <;> omega
  obtain ⟨X1, e1⟩ : ∃ X1, X1 = andF (wsF (D, 0) (fun i => (2 + 23 * ((s + 1) % 2) + i, (l.getD i (0, [])).2)) l.length) := ⟨_, rfl⟩
  obtain ⟨X2, e2⟩ : ∃ X2, X2 = andF (wsF (X1.1, 0) (fun i => ((s + 1) % 2, secL (s + 1) (markB l))) 1) := ⟨_, rfl⟩
  obtain ⟨X3, e3⟩ : ∃ X3, X3 = andF (wsF (X2.1, 0) (fun i => (48 + (l.getD i (0, [])).1, (l.getD i (0, [])).2)) l.length) := ⟨_, rfl⟩
  have HSTEPS := hide (commitOut_steps he hne hL48.1 h0 h1 e1 e2 e3)
  generalize hR : commitOut D s L l = R at *
  clear hR
  have hck := check_any h.dev hq (some ⟨b, off, none⟩) cap l hl
  rw [hL, he, errV_zero] at hck
  have HCK := hide hck
  have HPT : Hid (∀ w1, Below w.heap.size w w1 → Calls Tryz.prog 46 #[.slice (some ⟨b, off, none⟩) l.length cap] w1 fun e w' => ∃ nv bv, e = .returned (.tuple #[nv, bv]) ∧ w'.ownsRow w1.heap.size 3 1 nv l.length (numV l l.length) ∧ w'.ownsRow w1.heap.size 36 1 bv l.length (bodVs w1 b off l.length) ∧ Below w1.heap.size w1 w') := hide (fun w1 hb => parts_any b off cap l (hl.below hb) hne hlen)
  have H := hide h
  have HQ := hide hq
  have HL := hide hl
  have HVAL := hide hval
  have E1 := hide e1
  have E2 := hide e2
  have E3 := hide e3
  clear h hq hl hval hck hL e1 e2 e3
  generalize hN : l.length = N at *
  have HN := hide hN
  clear hN
  go_enter Tryz.func28, Tryz.ntmps28
  go_wp2_with fail
  refine (unhide HCK).mono ?_
  rintro e w1 ⟨rfl, hb1⟩
  have HP1 := hide (unhide HPT w1 hb1)
  have HB1 := hide hb1
  clear hb1 HPT HCK
  go_wp2_with fail
  refine (unhide HP1).mono ?_
  rintro e w2 ⟨nv, bv, rfl, hnv, hbv, hb2⟩
  obtain ⟨gn, cn, rfl, hgn, hcn, hgnl, hnc⟩ := own_slice hnv hpos
  obtain ⟨gb, cb, rfl, hgb, hcb, hgbl, hbc⟩ := own_slice hbv hpos
  have hpq := ((unhide HQ).below (unhide HB1)).below hb2
  have c1 := hpq.c1
  have hs1 := (unhide HB1).size
  have hs2 := hb2.size
  have HPQ := hide hpq
  have HB2 := hide ((unhide HB1).trans (hb2.mono (unhide HB1).size))
  have HB12 := hide hb2
  have HNC := hide hnc
  have HBC := hide hbc
  have hsp : s + 1 ≤ 4294967295 := by omega
  clear hnv hbv hb2 hpq hnc hbc HP1
  go_wp2_with fail
  have hb3 : Below w2.heap.size w2 (w2.alloc (.cells #[.int .i64 (s + 1), .slice (some ⟨gn, 0, none⟩) N cn] 51)) := (Below.refl _ _).alloc (Nat.le_refl _) _
  have hm3 := heap_alloc_new w2 (.cells #[.int .i64 (s + 1), .slice (some ⟨gn, 0, none⟩) N cn] 51)
  have hs3 : (w2.alloc (.cells #[.int .i64 (s + 1), .slice (some ⟨gn, 0, none⟩) N cn] 51)).heap.size = w2.heap.size + 1 := by simp
  have hnum : ∀ i, i < N → w2.cell? ⟨gn, i, none⟩ = some (.int .i64 (l.getD i (0, [])).1) := fun i hi => by
    rw [unhide HNC i hi]
    simp [numV, hi]
  generalize w2.alloc (.cells #[.int .i64 (s + 1), .slice (some ⟨gn, 0, none⟩) N cn] 51) = w3 at *
  have hnums : Nums w3 (.slice (some ⟨gn, 0, none⟩) N cn) (l.map (·.1)) := by
    refine ⟨fun z hz => ?_, some ⟨gn, 0, none⟩, cn, by rw [List.length_map, unhide HN], fun _ => ⟨gn, rfl, fun i hi => ?_⟩⟩
    · obtain ⟨x, hx, rfl⟩ := List.mem_map.1 hz
      obtain ⟨j, hj, hje⟩ := List.getElem_of_mem hx
      have := (unhide HVAL).num j hj
      have hg : l.getD j (0, []) = x := by simp [List.getD, hj, hje]
      rw [hg] at this
      omega
    · rw [List.length_map, unhide HN] at hi
      have e := hnum i hi
      rw [hb3.cell (block_lt_of_cell e), e, getD_nums l (by rw [unhide HN]; exact hi)]
  have hsec := sector_yes (s + 1) _ _ hnums (by rw [List.length_map, unhide HN]; exact hlen) (by omega) (by omega)
  have hmk : markL (l.map (·.1)) (l.map (·.1)).length = markB l := by
    unfold markL markB
    rw [List.take_of_length_le (Nat.le_refl _), List.length_map]
  rw [hmk] at hsec
  have HSEC := hide hsec
  have HM3 := hide hm3
  have HNUM := hide hnum
  have HB3 := hide hb3
  clear hsec hm3 hnums hmk hnum hb3 HNC
  refine (unhide HSEC).mono ?_
  rintro e w4 ⟨g4, rfl, hg4, hk4, hb4⟩
  have hm4 := (hb4.block w2.heap.size (by omega)).trans (unhide HM3)
  have m0 : w4.cell? ⟨w2.heap.size, 0, none⟩ = some (.int .i64 (s + 1)) := by rw [cell_of_row _ _ _ _ _ _ hm4]; rfl
  have m1 : w4.cell? ⟨w2.heap.size, 1, none⟩ = some (.slice (some ⟨gn, 0, none⟩) N cn) := by rw [cell_of_row _ _ _ _ _ _ hm4]; rfl
  have HM4 := hide hm4
  have HK4 := hide hk4
  have hs4 := hb4.size
  have HB4 := hide ((unhide HB3).trans (hb4.mono (by omega)))
  clear hm4 hk4 hb4 HSEC HM3 HB3
  go_wp2_with fail
  refine (side_any (s + 1) _ w4 (by omega) (by omega)).mono ?_
  rintro e w5 ⟨rfl, hb5⟩
  have hsd2 : (s + 1) % 2 = 0 ∨ (s + 1) % 2 = 1 := by omega
  generalize (s + 1) % 2 = sd at *
  clear m0 m1
  have hs5 := hb5.size
  -- all that is laid aside
  have hb6 : Below w4.heap.size w4 (w5.alloc (.cells #[.int .i64 sd] 3)) := hb5.alloc hb5.size _
  have hb46 : Below w2.heap.size w2 (w5.alloc (.cells #[.int .i64 sd] 3)) := (unhide HB4).trans (hb6.mono (by omega))
  have hbA : Below w.heap.size w (w5.alloc (.cells #[.int .i64 sd] 3)) := (unhide HB2).trans (hb46.mono (by omega))
  have hout : ∀ k, w.heap.size ≤ k → ¬ S k := fun k hk hs => by have := (unhide H).dev.lt k hs; omega
  have hkit : Kit (w5.alloc (.cells #[.int .i64 sd] 3)) S q p s w2.heap.size (s + 1) (.slice (some ⟨gn, 0, none⟩) N cn) gn N (fun i => (l.getD i (0, [])).1) gb (fun i => (l.getD i (0, [])).2) g4 (secL (s + 1) (markB l)) w5.heap.size sd := by
    refine ⟨(unhide HPQ).below hb46, hqS, (hb6.block _ (by omega)).trans (unhide HM4), hout _ (by omega), fun i hi => ?_, hout _ (by omega), by simp; omega, ⟨hout _ (by omega), fun i hi => ?_⟩, by simp; omega, (unhide HK4).below hb6, hout _ (by omega), ?_, hout _ (by omega)⟩
    · have e := unhide HNUM i hi
      rw [hb46.cell (block_lt_of_cell e), e]
    · have hpl := ((unhide HL).below (unhide HB1))
      obtain ⟨b', off', e', hSb, hcell⟩ := hpl.2.2 hne
      simp only [Option.some.injEq, Addr.mk.injEq, and_true] at e'
      obtain ⟨rfl, rfl⟩ := e'
      obtain ⟨_, ab, capb, d1, hbs, hn, _⟩ := hcell i (by rw [unhide HN]; exact hi)
      have e := unhide HBC i hi
      have e2 : (bodVs w1 b off N)[i]? = some (.slice ab (l.getD i (0, [])).2.length capb) := by
        simp only [bodVs, List.getElem?_map, List.getElem?_range hi, Option.map_some]
        unfold bodV
        rw [d1]; rfl
      rw [e2] at e
      have hbw : Below w1.heap.size w1 (w5.alloc (.cells #[.int .i64 sd] 3)) := by
        have h12 : Below w1.heap.size w1 w2 := unhide HB12
        exact h12.trans (hb46.mono h12.size)
      exact ⟨ab, capb, (hb46.cell (block_lt_of_cell e)).trans e, hbs.below hbw, hn⟩
    · rw [cell_of_row _ _ _ _ _ _ (heap_alloc_new _ _)]; rfl
  have HKIT := hide hkit
  have HBA := hide hbA
  have HLV := hide ((unhide H).below hbA)
  have c0 := hkit.pg.c0
  have c5 := hkit.sid
  clear hb5 hb6 hb46 hbA hkit HB4 HK4 HM4 HPQ HNUM HBC HB12 c1
  go_wp2_with fail
  generalize w5.alloc (.cells #[.int .i64 sd] 3) = w6 at *
  have HW1 : Hid (∀ wx g, Below w6.heap.size w6 wx → w6.heap.size ≤ g → wx.cell? ⟨g, 0, none⟩ = some (.int .i64 sd) → Calls Tryz.prog 18 #[.pointer (some ⟨p, 0, none⟩), .slice (some ⟨gb, 0, none⟩) N cb, .func (.func 53) #[] #[.pointer (some ⟨g, 0, none⟩)]] wx fun e w' => e = .returned (errV X1.2) ∧ ∃ S', Live w0 w' p S' X1.1 ∧ Turn S S' w6 w') := hide (fun wx g hbx hg hc => by
    have hk := (unhide HKIT).below hbx
    have hgl := block_lt_of_cell hc
    have hgs : ¬ S g := fun hs => by have := (unhide HLV).dev.lt g hs; omega
    have := write_pages 53 g gb N cb (fun i => (l.getD i (0, [])).2) (fun i => 2 + 23 * sd + i) ((unhide HLV).below hbx) hk.bods hk.lb (by omega) hcb Tryz.call53 (fun w' S' ht k hk => shelf1_any g sd k w' hsd2 (by omega) ((World.cell?_of_block (a := ⟨g, 0, none⟩) (ht.block g hgl hgs)).trans hc))
    rw [← unhide E1] at this
    exact this.mono fun e w' ⟨he, S', hl, ht⟩ => ⟨he, S', hl, (Turn.of_below hbx).trans ht⟩)
  have hq6 : q < w6.heap.size := (unhide HKIT).pg.lt
  have hsb6 : w5.heap.size < w6.heap.size := block_lt_of_cell c5
  go_region_held3 (fun w' => w'.cell? ⟨q, 0, none⟩ = some (.pointer (some ⟨p, 0, none⟩)) ∧ w'.cell? ⟨w5.heap.size, 0, none⟩ = some (.int .i64 sd)) (first | go_keep | (go_split_ands; refine ⟨?_, ?_⟩ <;> go_keep))
    (first
      | (go_at_call 32; refine (shelf_any _ _).mono ?_; rintro e wa ⟨rfl, hwa⟩; have hba : Below w6.heap.size w6 wa := (by rw [hwa]; exact (below_drewN (Below.refl _ _) _).alloc (Nat.le_refl _) _); have hca : wa.cell? ⟨w6.heap.size, 0, none⟩ = some (.int .i64 sd) := (by rw [hwa]; exact cell_of_row _ _ _ _ _ _ (heap_alloc_new _ _)); clear hwa; have hka := (unhide HKIT).below hba; have ra1 := hka.pg.c0; have ra2 := hka.sid)
      | (go_at_call 18; refine (unhide HW1 _ _ (by exact ⟨hba.os, hba.tape, hba.output, hba.size, hba.block⟩) (by exact Nat.le_refl _) (by exact hca)).mono ?_; rintro e wb ⟨rfl, S7, hl7, ht7⟩; have hk7 := (unhide HKIT).turn ht7; have rb1 := hk7.pg.c0; have rb2 := hk7.sid))
  all_goals
    have HT7 := hide ((Turn.of_below (S := S) (unhide HBA)).trans ht7)
    have HL7 := hide hl7
    have HK7 := hide hk7
    have hSEC : Sec (secL (s + 1) (markB l)) := ⟨length_secL _ _ (by rw [length_markB, unhide HN]; omega), byt_secL _ _ (byt_markB (unhide HVAL) (by omega))⟩
    clear hl7 hk7 ht7 hka hba hca ra1 ra2 HW1 HLV HKIT HBA HB1 HB2 rb2 c0 c5 hq6 hsb6
    by_cases hX1 : X1.2 = 0
    · rw [hX1, errV_zero]
      have hb8 : Below wb.heap.size wb (wb.alloc (.cells #[.slice (some ⟨g4, 0, none⟩) 32 32] 36)) := (Below.refl _ _).alloc (Nat.le_refl _) _
      have hk8 := (unhide HK7).below hb8
      have hl8 := (unhide HL7).below hb8
      have hbods : Bods (wb.alloc (.cells #[.slice (some ⟨g4, 0, none⟩) 32 32] 36)) S7 wb.heap.size 1 (fun _ => secL (s + 1) (markB l)) := by
        refine ⟨fun hs => by have := (unhide HL7).dev.lt _ hs; omega, fun k hk => ?_⟩
        obtain rfl : k = 0 := by omega
        refine ⟨some ⟨g4, 0, none⟩, 32, ?_, blk_bs hk8.sec hSEC, fun _ x hx hs => ?_⟩
        · rw [cell_of_row _ _ _ _ _ _ (heap_alloc_new _ _), hSEC.1]; rfl
        · obtain rfl := Option.some.inj hx
          exact hk8.ns hs
      have hsid := hk8.sid
      have hnsb := hk8.nsb
      have hwr := write_pages 48 w5.heap.size wb.heap.size 1 1 (fun _ => secL (s + 1) (markB l)) (fun _ => sd) hl8 hbods (by rw [size_alloc]; omega) (by decide) (by decide) Tryz.call48 (fun w' S' ht k hk => commit1_any w5.heap.size sd k w' ((World.cell?_of_block (a := ⟨w5.heap.size, 0, none⟩) (ht.block _ (block_lt_of_cell hsid) hnsb)).trans hsid))
      rw [← unhide E2] at hwr
      have HWR := hide hwr
      have HK8 := hide hk8
      clear hwr hk8 hl8 hbods hsid hnsb hb8 hSEC
      go_wp2_with fail
      refine (unhide HWR).mono ?_
      rintro e w9 ⟨rfl, S9, hl9, ht9⟩
      have hk9 := (unhide HK8).turn ht9
      have HT9 := hide (((unhide HT7).trans (Turn.alloc S7 _ _)).trans ht9)
      have HL9 := hide hl9
      have HK9 := hide hk9
      have rq := hk9.pg.c0
      clear hl9 hk9 ht9 HWR HK8 HT7 HL7 HK7 rb1
      by_cases hX2 : X2.2 = 0
      · rw [hX2, errV_zero]
        have HW3 : Hid (∀ wx g, Below w9.heap.size w9 wx → w9.heap.size ≤ g → wx.cell? ⟨g, 0, none⟩ = some (.slice (some ⟨gn, 0, none⟩) N cn) → Calls Tryz.prog 18 #[.pointer (some ⟨p, 0, none⟩), .slice (some ⟨gb, 0, none⟩) N cb, .func (.func 54) #[] #[.pointer (some ⟨g, 0, none⟩)]] wx fun e w' => e = .returned (errV X3.2) ∧ ∃ S', Live w0 w' p S' X3.1 ∧ Turn S9 S' w9 w') := hide (fun wx g hbx hg hc => by
          have hk := (unhide HK9).below hbx
          have hgl := block_lt_of_cell hc
          have hgs : ¬ S9 g := fun hs => by have := (unhide HL9).dev.lt g hs; omega
          have := write_pages 54 g gb N cb (fun i => (l.getD i (0, [])).2) (fun i => 48 + (l.getD i (0, [])).1) ((unhide HL9).below hbx) hk.bods hk.lb (by omega) hcb Tryz.call54 (fun w' S' ht k hkk => home1_any g gn cn N k (l.getD k (0, [])).1 w' hkk (by omega) (by have := (unhide HVAL).num k (by rw [unhide HN]; exact hkk); omega) ((World.cell?_of_block (a := ⟨g, 0, none⟩) (ht.block g hgl hgs)).trans hc) ((World.cell?_of_block (a := ⟨gn, k, none⟩) (ht.block gn hk.ln hk.nn)).trans (hk.nums k hkk)))
          rw [← unhide E3] at this
          exact this.mono fun e w' ⟨he, S', hl, ht⟩ => ⟨he, S', hl, (Turn.of_below hbx).trans ht⟩)
        go_wp2_with fail
        go_region_held3 (fun w' => w'.cell? ⟨q, 0, none⟩ = some (.pointer (some ⟨p, 0, none⟩))) (go_keep)
          (first
            | (go_at_call 33; refine (home_any _ _ _ _).mono ?_; rintro e wa ⟨rfl, hwa⟩; have hba : Below w9.heap.size w9 wa := (by rw [hwa]; exact (below_drewN (Below.refl _ _) _).alloc (Nat.le_refl _) _); have hca : wa.cell? ⟨w9.heap.size, 0, none⟩ = some (.slice (some ⟨gn, 0, none⟩) N cn) := (by rw [hwa]; exact cell_of_row _ _ _ _ _ _ (heap_alloc_new _ _)); clear hwa; have hka := (unhide HK9).below hba; have ra1 := hka.pg.c0)
            | (go_at_call 18; refine (unhide HW3 _ _ (by exact ⟨hba.os, hba.tape, hba.output, hba.size, hba.block⟩) (by exact Nat.le_refl _) (by exact hca)).mono ?_; rintro e wc ⟨rfl, S11, hl11, ht11⟩; have hk11 := (unhide HK9).turn ht11; have rc1 := hk11.pg.c0))
        all_goals
          have HT11 := hide ((unhide HT9).trans ht11)
          have HL11 := hide hl11
          have HK11 := hide hk11
          have m0 := hk11.m0
          have q1 := hk11.pg.c1
          have qf := hk11.pg.fr 1
          clear hl11 hk11 ht11 hka hba hca ra1 HW3 HT9 HL9 HK9 rc1 rq
          by_cases hX3 : X3.2 = 0
          · rw [hX3, errV_zero]
            go_wp2
            go_ret
            have hR := (unhide HSTEPS).2.2.2 hX1 hX2 hX3
            rw [hR]
            exact ⟨rfl, S11, (unhide HL11).setOther (unhide HK11).npg hq0, (unhide HK11).pg.set _, (unhide HK11).npg, ((unhide HT11).plus q).trans (Turn.setCell (S := plus S11 q) wc _ (.inr rfl))⟩
          · rw [errV_pos _ hX3]
            go_wp2
            go_ret
            have hR := (unhide HSTEPS).2.2.1 hX1 hX2 hX3
            rw [hR]
            exact ⟨by rw [errV_pos _ hX3]; rfl, S11, unhide HL11, (unhide HK11).pg, (unhide HK11).npg, (unhide HT11).plus q⟩
      · rw [errV_pos _ hX2]
        go_wp2
        go_ret
        have hR := (unhide HSTEPS).2.1 hX1 hX2
        rw [hR]
        exact ⟨by rw [errV_pos _ hX2]; rfl, S9, unhide HL9, (unhide HK9).pg, (unhide HK9).npg, (unhide HT9).plus q⟩
    · rw [errV_pos _ hX1]
      go_wp2
      go_ret
      have hR := (unhide HSTEPS).1 hX1
      rw [hR]
      exact ⟨by rw [errV_pos _ hX1]; rfl, S7, unhide HL7, (unhide HK7).pg, (unhide HK7).npg, (unhide HT7).plus q⟩
end
end Go.Proofs.YtjipnjmnkfjmhaaGreatDoor
/-! Contracts of package pages: Commit as a whole; whether a sector is a right mark. (Part of the proofs over package pages.) -/
namespace Go.Proofs.YtjipnjmnkfjmhaaGreatDoor
open Go.RowKit
set_option linter.unusedVariables false

theorem commit_any {w0 w : World} {p q : Nat} {S : Nat → Prop} {D : DS} {s : Int} {L : Nat} (h : Live w0 w p S D) (hq : PgAt w q p s) (hqS : ¬ S q) (hq0 : w0.heap.size ≤ q) (a : Option Addr) (cap : Nat) (l : List (Int × List Int)) (hl : PgsO w S a cap l) (hL : cntI D.secs.length = L) (h0 : 0 ≤ s) (h1 : s < 4294967295) :
    Calls Tryz.prog 28 #[.pointer (some ⟨q, 0, none⟩), .slice a l.length cap] w fun e w' => e = .returned (errV (commitOut D s L l).2.2) ∧ ∃ S', Live w0 w' p S' (commitOut D s L l).1 ∧ PgAt w' q p (commitOut D s L l).2.1 ∧ ¬ S' q ∧ Turn (plus S q) (plus S' q) w w' := by
  by_cases he : commitE L l = 0
  · by_cases hne : l = []
    · subst hne
      have e : commitOut D s L [] = (D, s, if D.down then 9 else 0) := by
        unfold commitOut
        rw [if_neg (by rw [he]; exact fun h => h rfl)]
        cases D.down <;> rfl
      rw [e]
      exact (commit_none h hq a cap).mono fun e w' ⟨he, hb⟩ => ⟨he, S, h.below hb, hq.below hb, hqS, (Turn.of_below hb).plus q⟩
    · obtain ⟨b, off, rfl, _⟩ := hl.2.2 hne
      exact commit_go h hq hqS hq0 b off cap l hl hL hne he h0 h1
  · have e : commitOut D s L l = (D, s, commitE L l) := by unfold commitOut; rw [if_pos he]
    rw [e]
    have := commit_bad h hq a cap l hl (by rw [hL]; exact he)
    rw [hL] at this
    exact this.mono fun e w' ⟨he, hb⟩ => ⟨he, S, h.below hb, hq.below hb, hqS, (Turn.of_below hb).plus q⟩

/-! ### a mark -/
theorem mark1_any (g : Nat) (L z : Int) (w : World) (hz : 0 ≤ z ∧ z ≤ 255) (hg : w.cell? ⟨g, 0, none⟩ = some (.int .i64 L)) :
    Calls Tryz.prog 71 #[.int .u8 z, .pointer (some ⟨g, 0, none⟩)] w fun e w' => e = .returned (.bool (decide (L ≤ z))) ∧ w = w' := by
  obtain ⟨z0, z1⟩ := hz
  go_enter Tryz.func71, Tryz.ntmps71
  go_wp2
  go_ret
  exact ⟨rfl, rfl⟩

/-- The first place at which a byte is no page; -1: at none. -/
def badAt (L : Int) : List Int → Int → Int
  | [], _ => -1
  | z :: r, i => if L ≤ z then i else badAt L r (i + 1)
theorem badAt_neg {L : Int} : ∀ {l : List Int} {i : Int}, 0 ≤ i → (0 ≤ badAt L l i ↔ ∃ z ∈ l, L ≤ z)
  | [], i, h => by simp [badAt]
  | z :: r, i, h => by
    unfold badAt
    by_cases hz : L ≤ z
    · rw [if_pos hz]
      exact ⟨fun _ => ⟨z, by simp, hz⟩, fun _ => h⟩
    · rw [if_neg hz, badAt_neg (by omega)]
      constructor
      · rintro ⟨x, hx, hx2⟩; exact ⟨x, by simp [hx], hx2⟩
      · rintro ⟨x, hx, hx2⟩
        rcases List.mem_cons.1 hx with rfl | hx
        · exact absurd hx2 hz
        · exact ⟨x, hx, hx2⟩

section
variable {w : World}
set_option maxRecDepth 100000 in
set_option maxHeartbeats 400000 in
theorem index_any (g : Nat) (L : Int) (a : Option Addr) (cap : Nat) (l : List Int) (hb : Bs w a cap l) (hg : w.cell? ⟨g, 0, none⟩ = some (.int .i64 L)) :
    Calls Tryz.prog 91 #[.slice a l.length cap, .func (.func 71) #[] #[.pointer (some ⟨g, 0, none⟩)]] w fun e w' => e = .returned (.int .i64 (badAt L l 0)) ∧ w = w' := by
  have hl := hb.2.2.1
  have HB := hide hb
  have HK : Hid (∀ k, k < l.length → 0 ≤ l.getD k 0 ∧ l.getD k 0 ≤ 255) := hide (fun k hk => hb.1.getD k)
  have HD : Hid (∀ k, k < l.length → badAt L (l.drop k) k = if L ≤ l.getD k 0 then (k : Int) else badAt L (l.drop (k + 1)) (k + 1)) := hide (fun k hk => by
    rw [List.drop_eq_getElem_cons hk]
    show (if L ≤ l[k] then (k : Int) else badAt L (l.drop (k + 1)) (k + 1)) = _
    simp [List.getD, hk])
  clear hb
  go_enter Tryz.func91, Tryz.ntmps91
  go_wp2_with fail
  go_loop [8] (fun i => ∃ k : Nat, k ≤ l.length ∧ i = .int .i64 k ∧ badAt L l 0 = badAt L (l.drop k) k) (fun i => l.length - (intOf i).toNat)
  case atStart => exact ⟨0, by omega, rfl, rfl⟩
  case round =>
    obtain ⟨k, hk, rfl, hall⟩ := hrel
    by_cases hlt : k < l.length
    · obtain ⟨b, off, rfl, hc⟩ := (unhide HB).2.2.2.2 (by intro e; rw [e] at hlt; cases hlt)
      have hck := hc k hlt
      have HC := hide (mark1_any g L (l.getD k 0) w (unhide HK k hlt) hg)
      rw [unhide HD k hlt] at hall
      obtain ⟨z0, z1⟩ := unhide HK k hlt
      clear hc
      generalize l.getD k 0 = z at *
      by_cases hz : L ≤ z
      · rw [if_pos hz] at hall
        rw [decide_eq_true hz] at HC
        have HA := hide hall
        clear hall hz
        go_wp2_with (go_at_call 71; refine (unhide HC).mono ?_; rintro e w' ⟨rfl, rfl⟩)
        go_ret
        exact ⟨by rw [unhide HA]; rfl, rfl⟩
      · rw [if_neg hz] at hall
        rw [decide_eq_false hz] at HC
        have HA := hide hall
        clear hall hz
        go_wp2_with (go_at_call 71; refine (unhide HC).mono ?_; rintro e w' ⟨rfl, rfl⟩)
        go_round
        case rel => exact ⟨k + 1, by omega, by go_num, by rw [unhide HA]; rfl⟩
        case measure => simp [intOf]; omega
    · obtain rfl : k = l.length := by omega
      have hd : l.drop l.length = [] := List.drop_eq_nil_of_le (Nat.le_refl _)
      rw [hd] at hall
      go_wp2
      go_ret
      exact ⟨rfl, rfl⟩

theorem contains_any (g : Nat) (L : Int) (a : Option Addr) (cap : Nat) (l : List Int) (hb : Bs w a cap l) (hg : w.cell? ⟨g, 0, none⟩ = some (.int .i64 L)) :
    Calls Tryz.prog 70 #[.slice a l.length cap, .func (.func 71) #[] #[.pointer (some ⟨g, 0, none⟩)]] w fun e w' => e = .returned (.bool (decide (0 ≤ badAt L l 0))) ∧ w = w' := by
  have HC := hide (index_any g L a cap l hb hg)
  clear hb
  generalize badAt L l 0 = r at *
  generalize l.length = n at *
  go_enter Tryz.func70, Tryz.ntmps70
  go_wp2_with fail
  refine (unhide HC).mono ?_
  rintro e w1 ⟨rfl, rfl⟩
  go_wp2
  go_ret
  exact ⟨rfl, rfl⟩
end
end Go.Proofs.YtjipnjmnkfjmhaaGreatDoor
/-! Contracts of package pages: whether a sector is a right mark. (Part of the proofs over package pages.) -/
namespace Go.Proofs.YtjipnjmnkfjmhaaGreatDoor
open Go.RowKit
set_option linter.unusedVariables false

/-- The numbers of a mark that was opened, as a value. -/
def NumR (w : World) (base : Nat) (v : Value) (l : List Int) : Prop := w.ownsRow base 3 1 v l.length (l.map (Value.int .i64))
/-- What openMark gives: the mark's value. -/
def MkV (w : World) (base : Nat) (m : Option (Int × List Int)) (v : Value) : Prop :=
  match m with
  | some (s, l) => ∃ nv, v = .agg #[.int .i64 s, nv] ∧ NumR w base nv l
  | none => v = .agg #[.int .i64 0, .slice none 0 0]

/-- The first j numbers, as values. -/
def numK (l : List Int) (j : Nat) : List Value := (l.take j).map (Value.int .i64)
theorem numK_succ {l : List Int} {j : Nat} (h : j < l.length) : numK l (j + 1) = numK l j ++ [.int .i64 (l.getD j 0)] := by
  have e : l.getD j 0 = l[j] := by simp [List.getD, h]
  unfold numK
  rw [List.take_succ_eq_append_getElem h, List.map_append, e]
  rfl
theorem numK_all (l : List Int) : numK l l.length = l.map (Value.int .i64) := by unfold numK; rw [List.take_of_length_le (Nat.le_refl _)]
theorem numsOf_len {b : List Int} (h : b.length = 24) (h0 : 0 ≤ b.getD 0 0) (h1 : b.getD 0 0 ≤ 23) : (numsOf b).length = (b.getD 0 0).toNat := by
  unfold numsOf
  rw [List.length_take, List.length_drop]
  omega
theorem mark_bad {L : Nat} {b : List Int} (h : (openOut b).2.2 ≠ 0) : mark L b = none := by
  unfold mark
  rw [if_neg]
  rintro ⟨h1, _⟩; exact h h1
theorem mark_many {L : Nat} {b : List Int} (h : ¬ (openOut b).2.1.getD 0 0 ≤ 23) : mark L b = none := by
  unfold mark
  rw [if_neg]
  rintro ⟨_, h1, _⟩; exact h h1
theorem mark_page {L : Nat} {b : List Int} (h : 0 ≤ badAt L (numsOf (openOut b).2.1) 0) : mark L b = none := by
  unfold mark
  rw [if_neg]
  rintro ⟨_, _, h1⟩
  obtain ⟨z, hz, hz2⟩ := (badAt_neg (Int.le_refl 0)).1 h
  have := h1 z hz
  omega
theorem mark_right {L : Nat} {b : List Int} (h0 : (openOut b).2.2 = 0) (h1 : (openOut b).2.1.getD 0 0 ≤ 23) (h2 : ¬ 0 ≤ badAt L (numsOf (openOut b).2.1) 0) : mark L b = some ((openOut b).1, numsOf (openOut b).2.1) := by
  unfold mark
  rw [if_pos]
  refine ⟨h0, h1, fun z hz => ?_⟩
  rcases Int.lt_or_le z L with h | h
  · exact h
  · exact absurd ((badAt_neg (Int.le_refl 0)).2 ⟨z, hz, h⟩) h2
theorem openOut_len {b : List Int} (h : (openOut b).2.2 = 0) : (openOut b).2.1.length = 24 := by
  unfold openOut at h ⊢
  by_cases h1 : b.length ≠ 32
  · rw [if_pos h1] at h; cases h
  · rw [if_neg h1] at h ⊢
    by_cases h2 : getV b 0 4 ≠ getV b 28 4
    · rw [if_pos h2] at h; cases h
    · rw [if_neg h2] at h ⊢
      by_cases h3 : getV b 0 4 = 0
      · rw [if_pos h3] at h; cases h
      · rw [if_neg h3]
        simp; omega
/-- 'b[:i]', i a byte. -/
theorem slice_hi8 {P : Program} {t : TypeId} (hu : P.underlying t = some (.slice 5)) (hsz : (P.info? 5).map (·.size) = some 1) {w : World} {a : Option Addr} {cap : Nat} {l : List Int} (hb : Bs w a cap l) (i : Nat) (hi : i ≤ l.length) :
    ∃ a', (∀ w', (Instr.slice t (.slice a l.length cap) none (some (.int .u8 i)) none).run P w' = .ok (.slice a' i cap) w') ∧ Bs w a' cap (l.take i) := by
  have he := elem_u8 hu
  have hcap := hb.2.1
  refine ⟨a, fun w' => ?_, hb.take i⟩
  rw [run_slice_h (P := P) (w := w') t a l.length cap (by rw [he]; exact hu) .u8 i (by omega) (by omega), he, run_size_u8 w' hsz]
  simp only [Result.andThen, sliced]
  by_cases h0 : cap = 0
  · simp [h0]
  · rw [if_neg h0]
    cases a with
    | none => exact absurd (hb.2.2.2.1 rfl) h0
    | some x => simp [Addr.add]
theorem Bs.cell0 {w : World} {a : Option Addr} {cap : Nat} {l : List Int} (hb : Bs w a cap l) (i : Nat) (hi : i < l.length) : ∃ b off, a = some ⟨b, off, none⟩ ∧ w.cell? ⟨b, off + i, none⟩ = some (.int .u8 (l.getD i 0)) := by
  obtain ⟨b, off, rfl, hc⟩ := hb.2.2.2.2 (by intro h; subst h; simp at hi)
  exact ⟨b, off, rfl, hc i hi⟩

theorem size_mark : (Tryz.prog.info? 51).map (·.size) = some 2 := by kernel_rfl
theorem results_mark {fn : Func} {p u : Tmp} (h : fn.results = #[.cell p 51, .tmp u]) (tmps : Array Value) (w : World) (g : Nat) (cs : Array Value)
    (hp : tmps.getD p undef = .pointer (some ⟨g, 0, none⟩)) (hg : w.heap[g]? = some (.cells cs 51 (0, 0))) (hcs : cs.size = 2) :
    (results fn tmps).run Tryz.prog w = .ok (.tuple #[.agg cs, tmps.getD u undef]) w := by
  rw [results_cell_tmp h, hp]
  have := run_loadVar_row (P := Tryz.prog) w g 51 51 cs (0, 0) _ hg Tryz.underlying51 rfl (by rw [size_mark, hcs])
  simp [asAddr, this, Result.andThen]
theorem mark_set {W : World} {g : Nat} {x y : Value} (h : W.heap[g]? = some (.cells #[x, y] 51 (0, 0))) (a b : Value) : ((W.setCell ⟨g, 0, none⟩ a).setCell ⟨g, 1, none⟩ b).heap[g]? = some (.cells #[a, b] 51 (0, 0)) := by
  rw [heap_setCell_same _ _ _ _ _ _ (heap_setCell_same _ _ _ _ _ _ h)]; rfl
theorem own_shape {w : World} {base e size : Nat} {v : Value} {n : Nat} {xs : List Value} (h : w.ownsRow base e size v n xs) : ∃ a m c, v = .slice a m c := by
  rcases h.2 with ⟨rfl, _⟩ | ⟨g, cap, cur, rfl, _⟩
  · exact ⟨_, _, _, rfl⟩
  · exact ⟨_, _, _, rfl⟩
theorem own_mono {w : World} {base base' e size : Nat} {v : Value} {n : Nat} {xs : List Value} (h : w.ownsRow base e size v n xs) (hb : base' ≤ base) : w.ownsRow base' e size v n xs := by
  refine ⟨h.1, ?_⟩
  rcases h.2 with h0 | ⟨g, cap, cur, h1, h2, h3⟩
  · exact .inl h0
  · exact .inr ⟨g, cap, cur, h1, Nat.le_trans hb h2, h3⟩
theorem own_setCell {w : World} {base e size : Nat} {v : Value} {n : Nat} {xs : List Value} (h : w.ownsRow base e size v n xs) {a : Addr} (hn : v.ownBlock ≠ some a.block) (x : Value) : (w.setCell a x).ownsRow base e size v n xs :=
  ownsRow_same h (fun g hg => heap_setCell_other _ _ _ _ (fun e => hn (by rw [hg, e])))
theorem own_ne {w : World} {base e size : Nat} {v : Value} {n : Nat} {xs : List Value} (h : w.ownsRow base e size v n xs) {g t : Nat} {cs : Array Value} (hg : w.heap[g]? = some (.cells cs t (0, 0))) (ht : e ≠ t) : v.ownBlock ≠ some g := by
  intro e2
  obtain ⟨cur, h1⟩ := ownsRow_block h e2
  rw [hg] at h1
  simp at h1
  exact ht h1.2.symm

section
variable {w : World}
set_option maxRecDepth 100000 in
set_option maxHeartbeats 400000 in
theorem openMark_any (L : Nat) (a : Option Addr) (cap : Nat) (l : List Int) (hb : Bs w a cap l) (hL : L ≤ 200) :
    Calls Tryz.prog 49 #[.slice a l.length cap, .int .i64 L] w fun e w' => ∃ v, e = .returned (.tuple #[v, .bool (mark L l).isSome]) ∧ MkV w' w.heap.size (mark L l) v ∧ Below w.heap.size w w' := by
  have hl := hb.2.2.1
  obtain ⟨w1, hw1⟩ : ∃ w1, w1 = (w.alloc (.cells #[.int .i64 (L : Int)] 3)).alloc (.cells #[.int .i64 0, .slice none 0 0] 51) := ⟨_, rfl⟩
  have hb1 : Below w.heap.size w w1 := by rw [hw1]; exact ((Below.refl _ _).alloc (Nat.le_refl _) _).alloc (by simp) _
  have hs1 : w1.heap.size = w.heap.size + 2 := by rw [hw1]; simp
  have hg1 : w1.heap[w.heap.size]? = some (.cells #[.int .i64 (L : Int)] 3 (0, 0)) := by rw [hw1, heap_alloc_old _ _ (by simp)]; exact heap_alloc_new _ _
  have hm1 : w1.heap[w.heap.size + 1]? = some (.cells #[.int .i64 0, .slice none 0 0] 51 (0, 0)) := by
    rw [hw1]
    have := heap_alloc_new (w.alloc (.cells #[.int .i64 (L : Int)] 3)) (.cells #[.int .i64 0, .slice none 0 0] 51)
    rw [size_alloc] at this
    exact this
  have hop := open_any a cap l w1 (hb.below hb1)
  have HOP := hide hop
  have HB1 := hide hb1
  have HG1 := hide hg1
  have HM1 := hide hm1
  have HL := hide (@openOut_len l)
  have M1 := hide (@mark_bad L l)
  have M2 := hide (@mark_many L l)
  have M3 := hide (@mark_page L l)
  have M4 := hide (@mark_right L l)
  clear hop hb1 hg1 hm1 hb
  generalize openOut l = O at *
  generalize mark L l = M at *
  obtain ⟨i0, hi0, hz0, hz1, hz2⟩ := info_parts info_int
  go_enter Tryz.func49, Tryz.ntmps49
  go_wp2_with fail
  rw [← hw1]
  clear hw1
  refine (unhide HOP).mono ?_
  rintro e w2 ⟨a2, c2, rfl, hb2, hbel2⟩
  obtain ⟨n, B, E⟩ := O
  dsimp only at *
  have HBEL := hide ((unhide HB1).trans (hbel2.mono (unhide HB1).size))
  have hg2 := (hbel2.block _ (by omega)).trans (unhide HG1)
  have hm2 := (hbel2.block _ (by omega)).trans (unhide HM1)
  have hs2 := hbel2.size
  have r0 : w2.cell? ⟨w.heap.size + 1, 0, none⟩ = some (.int .i64 0) := by rw [cell_of_row _ _ _ _ _ _ hm2]; rfl
  have r1 : w2.cell? ⟨w.heap.size + 1, 1, none⟩ = some (.slice none 0 0) := by rw [cell_of_row _ _ _ _ _ _ hm2]; rfl
  have f0 := frozen_of_row _ _ 0 _ _ hm2
  have f1 := frozen_of_row _ _ 1 _ _ hm2
  have HG2 := hide hg2
  have HM2 := hide hm2
  have HB2 := hide hb2
  clear hbel2 hg2 hm2 hb2 HOP HB1 HG1 HM1
  by_cases hE : E = 0
  · subst hE
    rw [errV_zero]
    have hB := unhide HL rfl
    obtain ⟨b, off, rfl, hc0⟩ := (unhide HB2).cell0 0 (by omega)
    rw [Nat.add_zero] at hc0
    obtain ⟨z0, z1⟩ := (unhide HB2).1.getD 0
    by_cases hz : B.getD 0 0 ≤ 23
    · obtain ⟨a3, hlo, hb3⟩ := slice_lo (P := Tryz.prog) (t := 36) Tryz.underlying36 size_u8 (unhide HB2) 1 (by omega)
      obtain ⟨k, hk⟩ : ∃ k : Nat, B.getD 0 0 = k := ⟨(B.getD 0 0).toNat, by omega⟩
      have hl3 : (B.drop 1).length = 23 := by simp; omega
      obtain ⟨a4, hhi, hb4⟩ := slice_hi8 (P := Tryz.prog) (t := 36) Tryz.underlying36 size_u8 hb3 k (by omega)
      have hnum : numsOf B = (B.drop 1).take k := by unfold numsOf; rw [hk, Int.toNat_natCast]
      have hnl : ((B.drop 1).take k).length = k := by simp; omega
      rw [← hnum] at hb4 hnl
      rw [hl3] at hhi
      rw [hB] at hlo ⊢
      rw [hk] at hc0 hz z0 z1
      rw [show ((1 : Nat) : Int) = 1 from rfl] at hlo
      have hgc : w2.cell? ⟨w.heap.size, 0, none⟩ = some (.int .i64 (L : Int)) := by rw [cell_of_row _ _ _ _ _ _ (unhide HG2)]; rfl
      have hcon : ∀ n, Calls Tryz.prog 70 #[.slice a4 k (c2 - 1), .func (.func 71) #[] #[.pointer (some ⟨w.heap.size, 0, none⟩)]] (w2.drewN n) fun e w' => e = .returned (.bool (decide (0 ≤ badAt L (numsOf B) 0))) ∧ w2.drewN n = w' := fun n => by
        have := contains_any (w := w2.drewN n) w.heap.size L a4 (c2 - 1) (numsOf B) (bs_drewN hb4 n) hgc
        rwa [hnl] at this
      have HBN := hide hb4
      have HNL := hide hnl
      have M4' := hide (unhide M4 rfl (by rw [hk]; omega))
      clear hb3 hb4 hnl hl3 hnum hB HB2 HL M1 M2 M4 hk
      have hk23 : k ≤ 23 := by omega
      clear hgc
      by_cases hbad : 0 ≤ badAt (L : Int) (numsOf B) 0
      · rw [decide_eq_true hbad] at hcon
        have HCON := hide hcon
        have hM := unhide M3 hbad
        subst hM
        clear hcon M3 M4' hbad
        go_wp2_with fail
        go_quiet (fail)
        go_wp2_with fail
        refine (unhide HCON _).mono ?_
        rintro e w3 ⟨rfl, rfl⟩
        go_wp2
        have hbel := unhide HBEL
        refine bodyPost_ret (results_mark Tryz.results49 _ _ (w.heap.size + 1) _ rfl (mark_set (W := w2.drewN nq) (unhide HM2) _ _) rfl) rfl ?_
        exact ⟨_, rfl, rfl, ((below_drewN hbel nq).setCell (by exact Nat.le_succ _) _).setCell (by exact Nat.le_succ _) _⟩
      · have hM := unhide M4' (by omega)
        subst hM
        rw [decide_eq_false hbad] at hcon
        have HCON := hide hcon
        clear hcon M3 M4' hbad
        obtain ⟨nums, hnums⟩ : ∃ nums, numsOf B = nums := ⟨_, rfl⟩
        rw [hnums] at HBN HNL
        have HNU := hide hnums
        clear hnums
        go_wp2_with fail
        go_quiet (fail)
        go_wp2_with fail
        refine (unhide HCON _).mono ?_
        rintro e w3 ⟨rfl, hw3⟩
        have hm3 : w3.heap[w.heap.size + 1]? = some (.cells #[.int .i64 0, .slice none 0 0] 51 (0, 0)) := by rw [← hw3]; exact unhide HM2
        have hb3 : Bs w3 a4 (c2 - 1) nums := by rw [← hw3]; exact unhide HBN
        have hbel3 : Below w.heap.size w w3 := by rw [← hw3]; exact below_drewN (unhide HBEL) nq
        have hs3 : w.heap.size + 2 ≤ w3.heap.size := by rw [← hw3]; show _ ≤ w2.heap.size; omega
        have HM3 := hide hm3
        have HB3 := hide hb3
        have HBEL3 := hide hbel3
        clear hw3 hm3 hb3 hbel3 HCON HM2 HBN HBEL HG2 hlo hhi hc0 r0 r1 f0 f1
        go_wp2_with fail
        have hgm := heap_alloc_new w3 (.cells #[.int .i64 n, .slice none 0 0] 51)
        have HGM := hide hgm
        clear hgm
        have hnl := unhide HNL
        go_loopw [42] (fun v wr => ∃ (j : Nat) (nv : Value), j ≤ k ∧ v = .int .i64 j ∧ wr.heap[w3.heap.size]? = some (.cells #[.int .i64 n, nv] 51 (0, 0)) ∧ wr.ownsRow w3.heap.size 3 1 nv j (numK nums j) ∧ Below w3.heap.size w3 wr) (fun v _ => k - (intOf v).toNat)
        case atStart => exact ⟨0, _, Nat.zero_le _, rfl, unhide HGM, World.ownsRow_nil _ _ _ _, (Below.refl _ _).alloc (Nat.le_refl _) _⟩
        case round =>
          obtain ⟨j, nv, hj, rfl, hgm, hown, hbel⟩ := hrel
          obtain ⟨na, nl, nc, rfl⟩ := own_shape hown
          have m1 : wr.cell? ⟨w3.heap.size, 1, none⟩ = some (.slice na nl nc) := by rw [cell_of_row _ _ _ _ _ _ hgm]; rfl
          by_cases hlt : j < k
          · have hb4 := (unhide HB3).below hbel
            obtain ⟨bb, ob, rfl, hcj⟩ := hb4.cell0 j (by omega)
            obtain ⟨z0, z1⟩ := hb4.1.getD j
            have hsz := hbel.size
            have hne := own_ne hown hgm (by decide)
            have HO := hide (World.ownsRow.alloc hown (.cells #[.int .i64 (nums.getD j 0)] 3))
            have HB5 := hide (hbel.alloc hsz (.cells #[.int .i64 (nums.getD j 0)] 3))
            have HBK := hide (own_block hown)
            have HTK := hide (numK_succ (l := nums) (j := j) (by omega))
            have HGM2 := hide (show (wr.alloc (.cells #[.int .i64 (nums.getD j 0)] 3)).heap[w3.heap.size]? = _ from (heap_alloc_old _ _ ((Array.getElem?_eq_some_iff.1 hgm).1)).trans hgm)
            have HNE := hide hne
            have hgl : w3.heap.size < wr.heap.size := (Array.getElem?_eq_some_iff.1 hgm).1
            clear hb4 hown hbel hgm HGM hne
            generalize nums.getD j 0 = z at *
            go_wp2_with (at_builtin; refine wpList_append_own_at _ rfl _ _ 22 rfl w3.heap.size 3 i0 (.int .i64 0) 1 8 Tryz.underlying22 hi0 hz0 hz1 hz2 rfl (by decide) _ _ _ rfl (unhide HO) ⟨wr.heap.size, 0, none⟩ 1 1 [.int .i64 z] rfl rfl (cell_one1 _ _ _) (one_int _) (by unfold maxLen; omega) (by omega) (by simp; omega) ?_)
            intro v9 w9 hown9 hgrow9 _ _
            have hgm9 := (hgrow9.block w3.heap.size (by simp; omega) (fun e => unhide HNE e.symm)).trans (unhide HGM2)
            have m19 : w9.cell? ⟨w3.heap.size, 1, none⟩ = some (.slice na nl nc) := by rw [cell_of_row _ _ _ _ _ _ hgm9]; rfl
            have fr9 := frozen_of_row _ _ 1 _ _ hgm9
            obtain ⟨va, vl, vc, rfl⟩ := own_shape hown9
            have HGM9 : Hid ((w9.setCell ⟨w3.heap.size, 1, none⟩ (.slice va vl vc)).heap[w3.heap.size]? = some (.cells #[.int .i64 n, .slice va vl vc] 51 (0, 0))) := hide (by rw [heap_setCell_same _ _ _ _ _ _ hgm9]; rfl)
            have HO9 := hide (own_setCell hown9 (a := ⟨w3.heap.size, 1, none⟩) (own_ne hown9 hgm9 (by decide)) (.slice va vl vc))
            rw [← unhide HTK] at HO9
            have hb9 := (unhide HB5).grown hgrow9 (by simp; omega) (unhide HBK)
            have HB9 : Hid (Below w3.heap.size w3 (w9.setCell ⟨w3.heap.size, 1, none⟩ (.slice va vl vc))) := hide (hb9.setCell (Nat.le_refl _) _)
            clear hb9
            clear hown9 hgrow9 hgm9 HO HB5 HBK HGM2 HNE HTK
            go_wp2
            go_roundw
            case rel => exact ⟨j + 1, _, by omega, by go_num, unhide HGM9, unhide HO9, unhide HB9⟩
            case measure => simp [intOf]; omega
          · obtain rfl : j = k := by omega
            have hall := numK_all nums
            rw [hnl] at hall
            rw [hall] at hown
            have m0 : wr.cell? ⟨w3.heap.size, 0, none⟩ = some (.int .i64 n) := by rw [cell_of_row _ _ _ _ _ _ hgm]; rfl
            have hm := (hbel.block _ (by omega)).trans (unhide HM3)
            have r0 : wr.cell? ⟨w.heap.size + 1, 0, none⟩ = some (.int .i64 0) := by rw [cell_of_row _ _ _ _ _ _ hm]; rfl
            have r1 : wr.cell? ⟨w.heap.size + 1, 1, none⟩ = some (.slice none 0 0) := by rw [cell_of_row _ _ _ _ _ _ hm]; rfl
            have f0 := frozen_of_row _ _ 0 _ _ hm
            have f1 := frozen_of_row _ _ 1 _ _ hm
            have HM := hide hm
            have HO := hide hown
            have HBW := hide ((unhide HBEL3).trans (hbel.mono (by omega)))
            have HNE := hide (own_ne hown hm (by decide))
            clear hm hown hbel hgm HGM
            go_wp2
            refine bodyPost_ret (results_mark Tryz.results49 _ _ (w.heap.size + 1) _ rfl (mark_set (W := wr) (unhide HM) _ _) rfl) rfl ?_
            refine ⟨_, rfl, ⟨_, rfl, ?_⟩, ((unhide HBW).setCell (by exact Nat.le_succ _) _).setCell (by exact Nat.le_succ _) _⟩
            have := own_setCell (own_setCell (own_mono (unhide HO) (by omega : w.heap.size ≤ w3.heap.size)) (a := ⟨w.heap.size + 1, 0, none⟩) (unhide HNE) (.int .i64 n)) (a := ⟨w.heap.size + 1, 1, none⟩) (unhide HNE) (.slice na nl nc)
            unfold NumR
            rw [unhide HNU, hnl]
            exact this
    · have hM := unhide M2 (by omega)
      subst hM
      generalize B.getD 0 0 = z at *
      rw [hB]
      have hz' : 23 < z := by omega
      clear M1 M2 M3 M4 HL hB hz
      go_wp2
      have hbel := unhide HBEL
      refine bodyPost_ret (results_mark Tryz.results49 _ _ (w.heap.size + 1) _ rfl (mark_set (W := w2) (unhide HM2) _ _) rfl) rfl ?_
      exact ⟨_, rfl, rfl, (hbel.setCell (by exact Nat.le_succ _) _).setCell (by exact Nat.le_succ _) _⟩
  · have hM := unhide M1 hE
    subst hM
    rw [errV_pos _ hE]
    clear M1 M2 M3 M4 HL
    generalize B.length = bl at *
    go_wp2
    have hbel := unhide HBEL
    refine bodyPost_ret (results_mark Tryz.results49 _ _ (w.heap.size + 1) _ rfl (mark_set (W := w2) (unhide HM2) _ _) rfl) rfl ?_
    exact ⟨_, rfl, rfl, (hbel.setCell (by exact Nat.le_succ _) _).setCell (by exact Nat.le_succ _) _⟩
end
end Go.Proofs.YtjipnjmnkfjmhaaGreatDoor
/-! Contracts of package pages: the map of the right marks; which one is newest; bodies are read. (Part of the proofs over package pages.) -/
namespace Go.Proofs.YtjipnjmnkfjmhaaGreatDoor
open Go.RowKit Go.MapKept Go.ChangeMaps
open Go.Maps (Keyed)
set_option linter.unusedVariables false

def litI (n : Int) : DataW Unit := .lit (.int .i64 n)
/-- How a mark reads, as an element of a map. -/
def markR : Value → Option (DataW Unit × List MemPlace)
  | .agg cs => match cs.toList with
    | [.int .i64 s, .slice none n c] => some (.agg [litI s, litI n, litI c], [])
    | [.int .i64 s, .slice (some ⟨b, off, none⟩) n c] => some (.agg [litI s, litI n, litI c, litI b, litI off], [])
    | _ => none
  | _ => none
theorem markR_inj {v v' : Value} {d : DataW Unit} {ps ps' : List MemPlace} (h : markR v = some (d, ps)) (h' : markR v' = some (d, ps')) : v = v' := by
  unfold markR at h h'
  split at h
  · rename_i cs
    split at h
    · rename_i s n c e
      split at h'
      · rename_i cs'
        split at h'
        · rename_i s' n' c' e'
          simp only [Option.some.injEq, Prod.mk.injEq] at h h'
          have := h.1.trans h'.1.symm
          simp [litI] at this
          obtain ⟨rfl, h1, h2⟩ := this
          obtain rfl : n = n' := by omega
          obtain rfl : c = c' := by omega
          rw [← e'] at e
          congr 1
          exact Array.ext' e
        · rename_i s' b' o' n' c' e'
          simp only [Option.some.injEq, Prod.mk.injEq] at h h'
          have := h.1.trans h'.1.symm
          simp at this
        · cases h'
      · cases h'
    · rename_i s b o n c e
      split at h'
      · rename_i cs'
        split at h'
        · rename_i s' n' c' e'
          simp only [Option.some.injEq, Prod.mk.injEq] at h h'
          have := h.1.trans h'.1.symm
          simp at this
        · rename_i s' b' o' n' c' e'
          simp only [Option.some.injEq, Prod.mk.injEq] at h h'
          have := h.1.trans h'.1.symm
          simp [litI] at this
          obtain ⟨rfl, h1, h2, h3, h4⟩ := this
          obtain rfl : n = n' := by omega
          obtain rfl : c = c' := by omega
          obtain rfl : b = b' := by omega
          obtain rfl : o = o' := by omega
          rw [← e'] at e
          congr 1
          exact Array.ext' e
        · cases h'
      · cases h'
    · cases h
  · cases h
def mark0 : Value := .agg #[.int .i64 0, .slice none 0 0]
theorem markR_zero : markR mark0 = some (.agg [litI 0, litI 0, litI 0], []) := rfl
theorem zero_mark (w : World) : (zeroValue 51).run Tryz.prog w = .ok mark0 w := by
  have h : (Tryz.prog.info? 51).map (fun i => i.zero) = some (some mark0) := by kernel_rfl
  cases hi : Tryz.prog.info? 51 with
  | none => rw [hi] at h; cases h
  | some i =>
    rw [hi] at h
    simp at h
    simp [zeroValue, typeInfo, hi, h]
/-- The value of a mark can be read. -/
def Okv (v : Value) : Prop := ∃ d ps, markR v = some (d, ps)
theorem okv_slice (s : Int) {w : World} {base e size : Nat} {v : Value} {n : Nat} {xs : List Value} (h : w.ownsRow base e size v n xs) : Okv (.agg #[.int .i64 s, v]) := by
  rcases h.2 with ⟨rfl, _⟩ | ⟨g, cap, cur, rfl, _⟩
  · exact ⟨_, _, rfl⟩
  · exact ⟨_, _, rfl⟩

/-- Block m is the map of the marks f, of the sides 0 and 1. -/
def RM (w : World) (m n : Nat) (f : Nat → Option Value) : Prop :=
  ∃ Dm, w.ownsMap Tryz.prog 3 markR m n Dm ∧ ∀ i : Nat, i < 2 → Maps.has Dm (.int .i64 i) = (f i).isSome ∧ ∀ v, f i = some v → ∃ d ps, markR v = some (d, ps) ∧ Dm.atKey (.int .i64 i) (.agg [litI 0, litI 0, litI 0]) = d
theorem RM.lt {w : World} {m n : Nat} {f : Nat → Option Value} (h : RM w m n f) : m < w.heap.size := by
  obtain ⟨Dm, h1, _⟩ := h
  exact h1.lt
theorem RM.same {w w' : World} {m n : Nat} {f : Nat → Option Value} (h : RM w m n f) (hs : w'.heap[m]? = w.heap[m]?) : RM w' m n f := by
  obtain ⟨Dm, ⟨es, clock, hb, r⟩, h2⟩ := h
  exact ⟨Dm, ⟨es, clock, hs.trans hb, r⟩, h2⟩
theorem RM.below {w w' : World} {m n : Nat} {f : Nat → Option Value} (h : RM w m n f) (hb : Below w.heap.size w w') : RM w' m n f := h.same (hb.block m h.lt)
theorem RM.made (w : World) : RM (w.alloc (.map #[] 0)) w.heap.size 0 (fun _ => none) := ⟨.map [], World.ownsMap_made w _ _ _, fun i _ => ⟨rfl, fun v hv => by cases hv⟩⟩
theorem RM.look {w : World} {m n : Nat} {f : Nat → Option Value} (h : RM w m n f) (c : Bool) {i : Nat} (hi : i < 2) :
    (Instr.lookup 78 (.map (some m)) (.int .i64 i) c).run Tryz.prog w = .ok (if c then .tuple #[(f i).getD mark0, .bool (f i).isSome] else (f i).getD mark0) w := by
  obtain ⟨Dm, hown, hD⟩ := h
  have hkey := Maps.keyOf_int_mk (P := Tryz.prog) Tryz.underlying3 (wf_small i (by omega))
  have hval : ∀ v ps, markR v = some (Dm.atKey (.int .i64 i) (.agg [litI 0, litI 0, litI 0]), ps) → v = (f i).getD mark0 := by
    intro v ps hv
    cases hm : f i with
    | none =>
      have hno : Maps.has Dm (.int .i64 i) = false := by rw [(hD i hi).1, hm]; rfl
      rw [Maps.atKey_of_not_has hno] at hv
      exact markR_inj hv markR_zero
    | some b =>
      obtain ⟨d, ps', h1, h2⟩ := (hD i hi).2 b hm
      rw [h2] at hv
      exact markR_inj hv h1
  cases c with
  | true =>
    obtain ⟨v, ps, hrun, hv⟩ := hown.look_ok (Maps.int_keyed Tryz.underlying3) Tryz.underlying78 (zero_mark w) markR_zero hkey
    rw [hrun, hval v ps hv, (hD i hi).1]; rfl
  | false =>
    obtain ⟨v, ps, hrun, hv⟩ := hown.lookup (Maps.int_keyed Tryz.underlying3) Tryz.underlying78 (zero_mark w) markR_zero hkey
    rw [hrun, hval v ps hv]; rfl
def setF (f : Nat → Option Value) (i : Nat) (v : Value) : Nat → Option Value := fun j => if j = i then some v else f j
theorem RM.store {w : World} {m n : Nat} {f : Nat → Option Value} (h : RM w m n f) {i : Nat} (hi : i < 2) {v : Value} (hv : Okv v) (hn : n ≤ 300) :
    ∃ w', (Instr.mapUpdate 78 (.map (some m)) (.int .i64 i) v).run Tryz.prog w = .ok () w' ∧ RM w' m (n + 1) (setF f i v) ∧ w.mapTurned w' m := by
  obtain ⟨Dm, hown, hD⟩ := h
  obtain ⟨d, ps, hv⟩ := hv
  have hkey := Maps.keyOf_int_mk (P := Tryz.prog) Tryz.underlying3 (wf_small i (by omega))
  obtain ⟨w', hrun, hown', ht⟩ := hown.store (Maps.int_keyed Tryz.underlying3) Tryz.underlying78 (by unfold maxLen; omega) hkey hv
  have hlit : WideAt.IsKeyLit (.int .i64 (i : Int)) := (Maps.int_keyed Tryz.underlying3).key hkey
  refine ⟨w', hrun, ⟨_, hown', fun j hj => ?_⟩, ht⟩
  unfold setF
  by_cases e : j = i
  · subst e
    rw [if_pos rfl]
    refine ⟨by rw [Maps.has_put_same hown.isMap hlit]; rfl, fun u hu => ?_⟩
    obtain rfl := Option.some.inj hu
    exact ⟨d, ps, hv, Maps.atKey_put_same hown.isMap hlit _ _⟩
  · have hne : Lit.int .i64 (j : Int) ≠ Lit.int .i64 (i : Int) := by
      intro e2; simp only [Lit.int.injEq, true_and] at e2; omega
    rw [if_neg e, Maps.has_put_other hne, Maps.atKey_put_other hne]
    exact hD j hj

/-! ### which one is newest -/
theorem nan_any (x : Int) (w : World) : Calls Tryz.prog 72 #[.int .i64 x] w fun e w' => e = .returned (.bool false) ∧ w = w' := by
  go_enter Tryz.func72, Tryz.ntmps72
  go_wp2
  go_ret
  exact ⟨by simp, rfl⟩
def cmpI (x y : Int) : Int := if x < y then -1 else if y < x then 1 else 0
theorem compare_any (x y : Int) (w : World) : Calls Tryz.prog 52 #[.int .i64 x, .int .i64 y] w fun e w' => e = .returned (.int .i64 (cmpI x y)) ∧ w = w' := by
  unfold cmpI
  by_cases h1 : x < y
  · rw [if_pos h1]
    go_enter Tryz.func52, Tryz.ntmps52
    go_wp2_with (go_at_call 72; refine (nan_any _ _).mono ?_; rintro e w' ⟨rfl, rfl⟩)
    go_ret
    exact ⟨rfl, rfl⟩
  · rw [if_neg h1]
    by_cases h2 : y < x
    · rw [if_pos h2]
      go_enter Tryz.func52, Tryz.ntmps52
      go_wp2_with (go_at_call 72; refine (nan_any _ _).mono ?_; rintro e w' ⟨rfl, rfl⟩)
      go_ret
      exact ⟨rfl, rfl⟩
    · rw [if_neg h2]
      go_enter Tryz.func52, Tryz.ntmps52
      go_wp2_with (go_at_call 72; refine (nan_any _ _).mono ?_; rintro e w' ⟨rfl, rfl⟩)
      go_ret
      exact ⟨rfl, rfl⟩
/-- The stamp of a mark in the map. -/
def Stp (f : Nat → Option Value) (i : Nat) (s : Int) : Prop := ∃ nv, (f i).getD mark0 = .agg #[.int .i64 s, nv]
theorem field_stamp (x : Int) (nv : Value) (w : World) : (Instr.field 51 (.agg #[.int .i64 x, nv]) 0).run Tryz.prog w = .ok (.int .i64 x) w := by
  simp [Instr.field, run_underlying Tryz.underlying51, run_underlying Tryz.underlying3, part, isAgg, asAgg, go_sem]
set_option maxRecDepth 100000 in
theorem newest1_any {w : World} {m n g : Nat} {f : Nat → Option Value} (h : RM w m n f) (hg : w.cell? ⟨g, 0, none⟩ = some (.map (some m))) {i j : Nat} (hi : i < 2) (hj : j < 2) {x y : Int} (hx : Stp f i x) (hy : Stp f j y) :
    Calls Tryz.prog 51 #[.int .i64 i, .int .i64 j, .pointer (some ⟨g, 0, none⟩)] w fun e w' => e = .returned (.int .i64 (cmpI x y)) ∧ w = w' := by
  obtain ⟨nx, hx⟩ := hx
  obtain ⟨ny, hy⟩ := hy
  have l1 := h.look false hi
  have l2 := h.look false hj
  rw [hx] at l1
  rw [hy] at l2
  simp only [Bool.false_eq_true, if_false] at l1 l2
  have hf := field_stamp
  clear h hx hy
  go_enter Tryz.func51, Tryz.ntmps51
  go_wp2_with fail
  refine (compare_any x y w).mono ?_
  rintro e w' ⟨rfl, rfl⟩
  go_wp2
  go_ret
  exact ⟨rfl, rfl⟩
set_option maxRecDepth 100000 in
theorem max_any {w : World} {m n g b : Nat} {f : Nat → Option Value} (h : RM w m n f) (hg : w.cell? ⟨g, 0, none⟩ = some (.map (some m))) {x y : Int} (hx : Stp f 0 x) (hy : Stp f 1 y) (hb : w.heap[b]? = some (.cells #[.int .i64 0, .int .i64 1] 3 (0, 0))) :
    Calls Tryz.prog 50 #[.slice (some ⟨b, 0, none⟩) 2 2, .func (.func 51) #[] #[.pointer (some ⟨g, 0, none⟩)]] w fun e w' => e = .returned (.int .i64 (if x < y then 1 else 0)) ∧ w = w' := by
  have HN := hide (newest1_any h hg (i := 1) (j := 0) (by decide) (by decide) hy hx)
  have b0 : w.cell? ⟨b, 0, none⟩ = some (.int .i64 0) := by rw [cell_of_row _ _ _ _ _ _ hb]; rfl
  have b1 : w.cell? ⟨b, 1, none⟩ = some (.int .i64 1) := by rw [cell_of_row _ _ _ _ _ _ hb]; rfl
  rw [show ((1 : Nat) : Int) = 1 from rfl, show ((0 : Nat) : Int) = 0 from rfl] at HN
  clear h hg hx hy hb
  obtain ⟨r, hr⟩ : ∃ r : Int, r = if x < y then 1 else 0 := ⟨_, rfl⟩
  rw [← hr]
  have HR := hide hr
  clear hr
  go_enter Tryz.func50, Tryz.ntmps50
  go_wp2_with fail
  go_loop [5, 6] (fun v i => (i = .int .i64 1 ∧ v = .int .i64 0) ∨ (i = .int .i64 2 ∧ v = .int .i64 r)) (fun _ i => 2 - (intOf i).toNat)
  case atStart => exact .inl ⟨rfl, rfl⟩
  case round =>
    rcases hrel with ⟨rfl, rfl⟩ | ⟨rfl, rfl⟩
    · by_cases hxy : x < y
      · have hc : cmpI y x = 1 := by unfold cmpI; rw [if_neg (by omega), if_pos hxy]
        rw [hc] at HN
        rw [if_pos hxy] at HR
        clear hc hxy
        go_wp2_with (go_at_call 51; refine (unhide HN).mono ?_; rintro e w' ⟨rfl, rfl⟩)
        go_round
        case rel => exact .inr ⟨rfl, by rw [unhide HR]⟩
        case measure => simp [intOf]
      · have hc : cmpI y x ≤ 0 := by unfold cmpI; split <;> (try split) <;> omega
        rw [if_neg hxy] at HR
        generalize cmpI y x = c at *
        clear hxy
        go_wp2_with (go_at_call 51; refine (unhide HN).mono ?_; rintro e w' ⟨rfl, rfl⟩)
        go_round
        case rel => exact .inr ⟨rfl, by rw [unhide HR]⟩
        case measure => simp [intOf]
    · go_wp2
      go_ret
      exact ⟨rfl, rfl⟩
theorem newest_any {w : World} {m n : Nat} {f : Nat → Option Value} (h : RM w m n f) {x y : Int} (hx : Stp f 0 x) (hy : Stp f 1 y) :
    Calls Tryz.prog 30 #[.map (some m)] w fun e w' => e = .returned (.int .i64 (if x < y then 1 else 0)) ∧ Below w.heap.size w w' := by
  have hb : Below w.heap.size w ((w.alloc (.cells #[.map (some m)] 78)).alloc (.cells #[.int .i64 0, .int .i64 1] 3)) := ((Below.refl _ _).alloc (Nat.le_refl _) _).alloc (by simp) _
  have hg : ((w.alloc (.cells #[.map (some m)] 78)).alloc (.cells #[.int .i64 0, .int .i64 1] 3)).cell? ⟨w.heap.size, 0, none⟩ = some (.map (some m)) := by
    have e : ((w.alloc (.cells #[.map (some m)] 78)).alloc (.cells #[.int .i64 0, .int .i64 1] 3)).heap[w.heap.size]? = _ := (heap_alloc_old _ _ (by simp)).trans (heap_alloc_new _ _)
    rw [cell_of_row _ _ _ _ _ _ e]; rfl
  have HM := hide (max_any (h.below hb) hg hx hy (b := w.heap.size + 1) (heap_alloc2_new w _ _))
  generalize (if x < y then (1 : Int) else 0) = r at *
  have HB := hide hb
  clear h hx hy hb hg
  go_enter Tryz.func30, Tryz.ntmps30
  go_wp2_with fail
  refine (unhide HM).mono ?_
  rintro e w' ⟨rfl, rfl⟩
  go_wp2
  go_ret
  exact ⟨rfl, unhide HB⟩
end Go.Proofs.YtjipnjmnkfjmhaaGreatDoor
/-! Contracts of package pages: bodies are read; the right marks of a device. (Part of the proofs over package pages.) -/
namespace Go.Proofs.YtjipnjmnkfjmhaaGreatDoor
open Go.RowKit
set_option linter.unusedVariables false

theorem own_below {w w' : World} {base e size : Nat} {v : Value} {n : Nat} {xs : List Value} (h : w.ownsRow base e size v n xs) (hb : Below w.heap.size w w') : w'.ownsRow base e size v n xs :=
  ownsRow_same h (fun g hg => hb.block g (own_lt h g hg))
/-- A mark, as it stands in the map. -/
def Good (w : World) (base : Nat) (mk : Option (Int × List Int)) (fv : Option Value) : Prop :=
  match mk with
  | none => fv = none
  | some (s, l) => ∃ nv, fv = some (.agg #[.int .i64 s, nv]) ∧ NumR w base nv l
theorem Good.below {w w' : World} {base : Nat} {mk : Option (Int × List Int)} {fv : Option Value} (h : Good w base mk fv) (hb : Below w.heap.size w w') : Good w' base mk fv := by
  cases mk with
  | none => exact h
  | some q =>
    obtain ⟨s, l⟩ := q
    obtain ⟨nv, h1, h2⟩ := h
    exact ⟨nv, h1, own_below h2 hb⟩

section
variable {w0 w : World} {p : Nat} {S : Nat → Prop} {D : DS}

set_option maxRecDepth 100000 in
set_option maxHeartbeats 400000 in
theorem read_pages (F g n : Nat) (f : Nat → Nat) (h : Live w0 w p S D) (hd : D.down = false) (hn : n ≤ 300) (hr : ∀ k, k < n → f k < D.secs.length)
    (hF : ∀ args w', (callFunc F args).run Tryz.prog w' = .ok (.enter F args) w')
    (hf : ∀ w', Below w.heap.size w w' → ∀ k : Nat, k < n → Calls Tryz.prog F #[.int .i64 k, .pointer (some ⟨g, 0, none⟩)] w' fun e w'' => e = .returned (.int .i64 (f k)) ∧ w' = w'') :
    Calls Tryz.prog 31 #[.pointer (some ⟨p, 0, none⟩), .int .i64 n, .func (.func F) #[] #[.pointer (some ⟨g, 0, none⟩)]] w fun e w' =>
      ∃ t, e = .returned (.tuple #[.slice (some ⟨t, 0, none⟩) n n, .nilIface]) ∧ Bods w' S t n (fun k => D.rd (f k)) ∧ t < w'.heap.size ∧ Below w.heap.size w w' := by
  obtain ⟨i1, hi1, hy0, hy1, hy2⟩ := info_parts info_bytes
  have hS : ∀ k, w.heap.size ≤ k → ¬ S k := fun k hk hs => by have := h.dev.lt k hs; omega
  have H := hide h
  have HF := hide hf
  have HFF := hide hF
  have HR := hide hr
  have hok := h.dev.ok
  clear h hf hF hr
  go_enter Tryz.func31, Tryz.ntmps31
  go_wp2_with (at_make; refine wpList_make_tab rfl _ _ 23 rfl i1 Tryz.underlying23 hi1 hy0 hy1 hy2 _ _ _ _ n rfl rfl rfl rfl (by omega) ?_)
  intro w1 htab hb1
  have HT1 := hide (htab S (fun k => D.rd (f k)) (hS _ (Nat.le_refl _)))
  have HB1 := hide hb1
  clear htab hb1
  go_wp2_with fail
  go_loopw [16] (fun v wr => ∃ k : Nat, k ≤ n ∧ v = .int .i64 k ∧ Tab wr S w.heap.size n (fun k => D.rd (f k)) k ∧ Below w.heap.size w wr) (fun v _ => n - (intOf v).toNat)
  case atStart => exact ⟨0, Nat.zero_le _, rfl, unhide HT1, unhide HB1⟩
  case round =>
    obtain ⟨k, hk, rfl, htab, hbel⟩ := hrel
    by_cases hlt : k < n
    · have HC := hide (unhide HF wr hbel k hlt)
      have hrd := ((unhide H).below hbel).read (f k) (unhide HR k hlt) hd
      have HRD := hide hrd
      have HTAB := hide htab
      have HBEL := hide hbel
      have hsz := hbel.size
      clear hrd htab hbel
      generalize hfk : f k = fk at *
      have HFK := hide hfk
      clear hfk
      go_wp2_with fail
      rw [unhide HFF, Oper.upon_enter]
      refine (unhide HC).mono ?_
      rintro e w2 ⟨rfl, rfl⟩
      go_wp2_with fail
      refine (unhide HRD).mono ?_
      rintro e w3 ⟨g3, rfl, hg3, hk3, hb3⟩
      have htab3 := (unhide HTAB).below hb3
      obtain ⟨rv, hroom⟩ := htab3.room k hlt
      have hfr := htab3.fr k
      have HP : Hid (Tab (w3.setCell ⟨w.heap.size, k, none⟩ (.slice (some ⟨g3, 0, none⟩) 32 32)) S w.heap.size n (fun k => D.rd (f k)) (k + 1)) := hide (htab3.put hlt (by show Blk w3 g3 (D.rd (f k)); rw [unhide HFK]; exact hk3) (hS g3 (by omega)))
      have HB3 : Hid (Below w.heap.size w (w3.setCell ⟨w.heap.size, k, none⟩ (.slice (some ⟨g3, 0, none⟩) 32 32))) := hide (((unhide HBEL).trans (hb3.mono hsz)).setCell (Nat.le_refl _) _)
      clear htab3 hk3 hb3 HTAB HBEL HRD HC
      go_wp2
      go_roundw
      case rel => exact ⟨k + 1, by omega, by go_num, unhide HP, unhide HB3⟩
      case measure => simp [intOf]; omega
    · obtain rfl : k = n := by omega
      go_wp2
      go_ret2
      refine ⟨_, rfl, ⟨hS _ (Nat.le_refl _), fun j hj => ?_⟩, htab.lt, hbel⟩
      obtain ⟨cur, h1, h2, h3, h4⟩ := htab
      obtain ⟨g', h5, h6, h7⟩ := h4 j hj
      have hsec : Sec (D.rd (f j)) := hok.rd (unhide HR j hj)
      refine ⟨some ⟨g', 0, none⟩, 32, ?_, blk_bs h6 hsec, fun _ x hx => ?_⟩
      · rw [cell_of_row _ _ _ _ _ _ h1, h5, hsec.1]
      · obtain rfl := Option.some.inj hx
        exact h7

theorem marks_down (h : Live w0 w p S D) (hd : D.down = true) (hl : 2 ≤ D.secs.length) :
    Calls Tryz.prog 29 #[.pointer (some ⟨p, 0, none⟩)] w fun e w' => e = .returned (.tuple #[.map none, errV 9]) ∧ Below w.heap.size w w' := by
  have hE : D.readE 0 = 9 := by unfold DS.readE; rw [if_neg (by omega), if_pos hd]
  have hmm := @run_makeMap Tryz.prog
  have hb1 : Below w.heap.size w (w.alloc (.map #[] 0)) := (Below.refl _ _).alloc (Nat.le_refl _) _
  have hr := read_no 0 (h.below hb1).dev (by rw [hE]; decide)
  rw [hE] at hr
  have HR := hide hr
  have HB := hide hb1
  clear hr hb1 h hE
  go_enter Tryz.func29, Tryz.ntmps29
  go_wp2_with fail
  go_loopw [11] (fun v wr => v = .int .i64 0 ∧ wr = w.alloc (.map #[] 0)) (fun _ _ => 0)
  case atStart => exact ⟨rfl, rfl⟩
  case round =>
    obtain ⟨rfl, rfl⟩ := hrel
    go_wp2_with fail
    refine (unhide HR).mono ?_
    rintro e w2 ⟨rfl, rfl⟩
    rw [errV_pos 9 (by decide)]
    go_wp2
    go_ret2
    exact ⟨rfl, unhide HB⟩

set_option maxRecDepth 100000 in
set_option maxHeartbeats 400000 in
theorem marks_up {L : Nat} (h : Live w0 w p S D) (hd : D.down = false) (hl : 2 ≤ D.secs.length) (hL : cntI D.secs.length = L) (hL2 : L ≤ 200) :
    Calls Tryz.prog 29 #[.pointer (some ⟨p, 0, none⟩)] w fun e w' => ∃ m n f, e = .returned (.tuple #[.map (some m), .nilIface]) ∧ RM w' m n f ∧ (∀ i, i < 2 → Good w' w.heap.size (mark L (D.rd i)) (f i)) ∧ Below w.heap.size w w' := by
  have hmm := @run_makeMap Tryz.prog
  have H := hide h
  have hok := h.dev.ok
  clear h
  go_enter Tryz.func29, Tryz.ntmps29
  go_wp2_with fail
  go_loopw [11] (fun v wr => ∃ (k : Nat) (f : Nat → Option Value), k ≤ 2 ∧ v = .int .i64 k ∧ (∃ n, n ≤ k ∧ RM wr w.heap.size n f) ∧ (∀ i, i < k → Good wr w.heap.size (mark L (D.rd i)) (f i)) ∧ (∀ i, k ≤ i → f i = none) ∧ Below w.heap.size w wr) (fun v _ => 2 - (intOf v).toNat)
  case atStart => exact ⟨0, _, by omega, rfl, ⟨0, Nat.le_refl _, RM.made w⟩, fun i hi => absurd hi (Nat.not_lt_zero i), fun i _ => rfl, (Below.refl _ _).alloc (Nat.le_refl _) _⟩
  case round =>
    obtain ⟨k, f, hk, rfl, ⟨n, hn, hrm⟩, hgood, hnone, hbel⟩ := hrel
    by_cases hlt : k < 2
    · have hlv := (unhide H).below hbel
      have hrd := hlv.read k (by omega) hd
      have hsec : Sec (D.rd k) := hok.rd (by omega)
      have HRD := hide hrd
      have HLV := hide hlv
      have HRM := hide hrm
      have HGOOD := hide hgood
      have HNONE := hide hnone
      have HBEL := hide hbel
      have hsz := hbel.size
      clear hrd hlv hrm hgood hnone hbel
      go_wp2_with fail
      refine (unhide HRD).mono ?_
      rintro e w2 ⟨g2, rfl, hg2, hk2, hb2⟩
      have hcnt := count_any ((unhide HLV).below hb2).dev
      rw [hL] at hcnt
      have hom := openMark_any L (some ⟨g2, 0, none⟩) 32 (D.rd k) (blk_bs hk2 hsec) hL2
      rw [hsec.1] at hom
      have HCNT := hide hcnt
      have HOM := hide hom
      have HB2 := hide hb2
      have hs2 := hb2.size
      clear hcnt hom hb2 hk2 HRD HLV
      go_wp2_with fail
      refine (unhide HCNT).mono ?_
      rintro e w3 ⟨rfl, rfl⟩
      go_wp2_with fail
      refine (unhide HOM).mono ?_
      rintro e w3 ⟨v, rfl, hmk, hb3⟩
      have hs3 := hb3.size
      have hb13 : Below wr.heap.size wr w3 := (unhide HB2).trans (hb3.mono hs2)
      cases hM : mark L (D.rd k) with
      | none =>
        rw [hM] at hmk
        have hv : v = .agg #[.int .i64 0, .slice none 0 0] := hmk
        subst hv
        have hb14 : Below wr.heap.size wr (w3.alloc (.cells #[.int .i64 0, .slice none 0 0] 51)) := hb13.alloc hb13.size _
        have HE : Hid (∃ n, n ≤ k + 1 ∧ RM (w3.alloc (.cells #[.int .i64 0, .slice none 0 0] 51)) w.heap.size n f) := hide ⟨n, by omega, (unhide HRM).below hb14⟩
        have HG : Hid (∀ i, i < k + 1 → Good (w3.alloc (.cells #[.int .i64 0, .slice none 0 0] 51)) w.heap.size (mark L (D.rd i)) (f i)) := hide (fun i hi => by
          by_cases e : i = k
          · subst e; rw [hM]; exact unhide HNONE i (Nat.le_refl _)
          · exact (unhide HGOOD i (by omega)).below hb14)
        have HN : Hid (∀ i, k + 1 ≤ i → f i = none) := hide (fun i hi => unhide HNONE i (by omega))
        have HBB := hide ((unhide HBEL).trans (hb14.mono hsz))
        clear hmk hb13 hb14 hb3 HOM HCNT HB2 HRM HGOOD HNONE hM HBEL
        simp only [Option.isSome_none]
        go_wp2
        go_roundw
        case rel => exact ⟨k + 1, f, by omega, by go_num, unhide HE, unhide HG, unhide HN, unhide HBB⟩
        case measure => simp [intOf]; omega
      | some q =>
        obtain ⟨s, l⟩ := q
        rw [hM] at hmk
        obtain ⟨nv, rfl, hnum⟩ := hmk
        obtain ⟨na, nl, nc, rfl⟩ := own_shape hnum
        have hb14 : Below wr.heap.size wr (w3.alloc (.cells #[.int .i64 s, .slice na nl nc] 51)) := hb13.alloc hb13.size _
        have hr4 := (unhide HRM).below hb14
        obtain ⟨w5, hst, hr5, ht5⟩ := hr4.store (i := k) hlt (okv_slice s hnum) (by omega)
        have hbW : Below w3.heap.size w3 (w3.alloc (.cells #[.int .i64 s, .slice na nl nc] 51)) := (Below.refl _ _).alloc (Nat.le_refl _) _
        have hn5 := own_kept (own_mono (own_below hnum hbW) (by omega : w.heap.size ≤ w2.heap.size)) ht5.grown (fun g hg e => by
          have e2 := Option.some.inj e
          subst e2
          obtain ⟨cur, hc⟩ := ownsRow_block (own_below hnum hbW) hg
          obtain ⟨Dm, ⟨es, clock, hbm, _⟩, _⟩ := hr4
          rw [hc] at hbm
          cases hbm)
        have HE : Hid (∃ n, n ≤ k + 1 ∧ RM w5 w.heap.size n (setF f k (.agg #[.int .i64 s, .slice na nl nc]))) := hide ⟨n + 1, by omega, hr5⟩
        have HG : Hid (∀ i, i < k + 1 → Good w5 w.heap.size (mark L (D.rd i)) (setF f k (.agg #[.int .i64 s, .slice na nl nc]) i)) := hide (fun i hi => by
          unfold setF
          by_cases e : i = k
          · subst e
            rw [hM, if_pos rfl]
            exact ⟨_, rfl, hn5⟩
          · rw [if_neg e]
            have hg4 := (unhide HGOOD i (by omega)).below hb14
            cases hMi : mark L (D.rd i) with
            | none => rw [hMi] at hg4; exact hg4
            | some q =>
              obtain ⟨s', l'⟩ := q
              rw [hMi] at hg4
              obtain ⟨nv', h1, h2⟩ := hg4
              refine ⟨nv', h1, own_kept h2 ht5.grown (fun g hg e => ?_)⟩
              have e2 := Option.some.inj e
              subst e2
              obtain ⟨cur, hc⟩ := ownsRow_block h2 hg
              obtain ⟨Dm, ⟨es, clock, hbm, _⟩, _⟩ := hr4
              rw [hc] at hbm
              cases hbm)
        have HN : Hid (∀ i, k + 1 ≤ i → setF f k (.agg #[.int .i64 s, .slice na nl nc]) i = none) := hide (fun i hi => by unfold setF; rw [if_neg (by omega)]; exact unhide HNONE i (by omega))
        have hb24 := (unhide HBEL).trans (hb14.mono hsz)
        have HBB := hide (hb24.grown ht5.grown hb24.size (fun j hj => by cases hj; exact Nat.le_refl _))
        clear hb13 hb14 hb3 HOM HCNT HB2 HRM HGOOD HNONE hM hr4 hr5 ht5 hn5 hb24 hbW hnum HBEL
        simp only [Option.isSome_some]
        go_wp2
        go_roundw
        case rel => exact ⟨k + 1, _, by omega, by go_num, unhide HE, unhide HG, unhide HN, unhide HBB⟩
        case measure => simp [intOf]; omega
    · obtain rfl : k = 2 := by omega
      go_wp2
      go_ret2
      exact ⟨_, _, _, rfl, hrm, hgood, hbel⟩
end
end Go.Proofs.YtjipnjmnkfjmhaaGreatDoor
/-! Contracts of package pages: Open. (Part of the proofs over package pages.) -/
namespace Go.Proofs.YtjipnjmnkfjmhaaGreatDoor
open Go.RowKit
set_option linter.unusedVariables false

def stampOf (m : Option (Int × List Int)) : Int := match m with | some (s, _) => s | none => 0
theorem Good.stp {w : World} {base : Nat} {mk : Option (Int × List Int)} {f : Nat → Option Value} {i : Nat} (h : Good w base mk (f i)) : Stp f i (stampOf mk) := by
  cases mk with
  | none => exact ⟨.slice none 0 0, by rw [show f i = none from h]; rfl⟩
  | some q =>
    obtain ⟨s, l⟩ := q
    obtain ⟨nv, h1, _⟩ := h
    exact ⟨nv, by rw [h1]; rfl⟩
/-- Which side counts. -/
theorem best_side {L : Nat} {v : Nat → List Int} (hp : ∀ i s l, mark L (v i) = some (s, l) → 0 < s) :
    ∃ a : Nat, a < 2 ∧ (if stampOf (mark L (v 0)) < stampOf (mark L (v 1)) then (1 : Int) else 0) = a ∧ best L (v 0) (v 1) = (match mark L (v a) with | some (s, l) => (s, a, l) | none => (0, 0, [])) := by
  have h0 := hp 0
  have h1 := hp 1
  unfold best
  cases e0 : mark L (v 0) with
  | none =>
    cases e1 : mark L (v 1) with
    | none => exact ⟨0, by decide, rfl, by rw [e0]; rfl⟩
    | some q =>
      obtain ⟨s, l⟩ := q
      have := h1 s l e1
      refine ⟨1, by decide, by show (if (0 : Int) < s then (1 : Int) else 0) = _; rw [if_pos this]; rfl, ?_⟩
      rw [e1]
      show (if (0 : Int) < s then (s, 1, l) else (0, 0, [])) = _
      rw [if_pos this]
  | some q0 =>
    obtain ⟨s0, l0⟩ := q0
    have hs0 := h0 s0 l0 e0
    have ep : pick (0, 0, []) 0 (some (s0, l0)) = (s0, 0, l0) := by
      show (if (0 : Int) < s0 then (s0, 0, l0) else (0, 0, [])) = _
      rw [if_pos hs0]
    rw [ep]
    cases e1 : mark L (v 1) with
    | none =>
      refine ⟨0, by decide, by show (if s0 < (0 : Int) then (1 : Int) else 0) = _; rw [if_neg (by omega)]; rfl, ?_⟩
      rw [e0]; rfl
    | some q =>
      obtain ⟨s, l⟩ := q
      by_cases hlt : s0 < s
      · refine ⟨1, by decide, by show (if s0 < s then (1 : Int) else 0) = _; rw [if_pos hlt]; rfl, ?_⟩
        rw [e1]
        show (if s0 < s then (s, 1, l) else (s0, 0, l0)) = _
        rw [if_pos hlt]
      · refine ⟨0, by decide, by show (if s0 < s then (1 : Int) else 0) = _; rw [if_neg hlt]; rfl, ?_⟩
        rw [e0]
        show (if s0 < s then (s, 1, l) else (s0, 0, l0)) = _
        rw [if_neg hlt]
theorem own_shape2 {w : World} {base e size : Nat} {v : Value} {n : Nat} {xs : List Value} (h : w.ownsRow base e size v n xs) : ∃ a c, v = .slice a n c := by
  rcases h.2 with ⟨rfl, rfl⟩ | ⟨g, cap, cur, rfl, _⟩
  · exact ⟨_, _, rfl⟩
  · exact ⟨_, _, rfl⟩

section
variable {w0 w : World} {p : Nat} {S : Nat → Prop} {D : DS}

theorem open_small (h : Live w0 w p S D) (hc : cntI D.secs.length < 1) :
    Calls Tryz.prog 15 #[.pointer (some ⟨p, 0, none⟩)] w fun e w' => e = .returned (.tuple #[.pointer none, errV 1]) ∧ w = w' := by
  have HC := hide (count_any h.dev)
  generalize cntI D.secs.length = L at *
  clear h
  go_enter Tryz.func15, Tryz.ntmps15
  go_wp2_with fail
  refine (unhide HC).mono ?_
  rintro e w1 ⟨rfl, rfl⟩
  go_wp2
  go_ret2
  exact ⟨rfl, rfl⟩
theorem open_down (h : Live w0 w p S D) (hc : ¬ cntI D.secs.length < 1) (hd : D.down = true) :
    Calls Tryz.prog 15 #[.pointer (some ⟨p, 0, none⟩)] w fun e w' => e = .returned (.tuple #[.pointer none, errV 9]) ∧ Below w.heap.size w w' := by
  have HC := hide (count_any h.dev)
  have HM := hide (marks_down h hd (by unfold cntI at hc; split at hc <;> omega))
  generalize cntI D.secs.length = L at *
  rw [errV_pos 9 (by decide)] at *
  clear h
  go_enter Tryz.func15, Tryz.ntmps15
  go_wp2_with fail
  refine (unhide HC).mono ?_
  rintro e w1 ⟨rfl, rfl⟩
  go_wp2_with fail
  refine (unhide HM).mono ?_
  rintro e w1 ⟨rfl, hb⟩
  go_wp2
  go_ret2
  exact ⟨rfl, hb⟩

set_option maxRecDepth 100000 in
set_option maxHeartbeats 1000000 in
theorem open_go {L : Nat} (h : Live w0 w p S D) (hL : cntI D.secs.length = L) (hL1 : 1 ≤ L) (hd : D.down = false) :
    Calls Tryz.prog 15 #[.pointer (some ⟨p, 0, none⟩)] w fun e w' => ∃ v, e = .returned (.tuple #[v, errV (openP D L).2.2]) ∧ ∃ S', Live w0 w' p S' (openP D L).1 ∧ Turn S S' w w' ∧
      ((openP D L).2.2 = 0 → ∃ q, v = .pointer (some ⟨q, 0, none⟩) ∧ PgAt w' q p (openP D L).2.1 ∧ w.heap.size ≤ q ∧ ¬ S' q) ∧ ((openP D L).2.2 ≠ 0 → v = .pointer none) := by
  have hL2 : L ≤ 200 ∧ 48 + L ≤ D.secs.length := by
    unfold cntI at hL
    split at hL <;> omega
  have hok := h.dev.ok
  have HC := hide (count_any h.dev)
  rw [hL] at HC
  have HM := hide (marks_up h hd (by omega) hL hL2.1)
  have hS : ∀ k, w.heap.size ≤ k → ¬ S k := fun k hk hs => by have := h.dev.lt k hs; omega
  obtain ⟨a, ha, hai, hbest⟩ := best_side (L := L) (v := fun i => D.rd i) (fun i s l hm => by
    rcases Nat.lt_or_ge i D.secs.length with h1 | h1
    · exact (mark_facts (hok.rd h1).2 hm).1
    · exfalso
      have hb : Byt (D.rd i) := by
        unfold DS.rd
        cases e : D.mem.lookup i with
        | none =>
          intro z hz
          simp [List.getD, List.getElem?_eq_none h1] at hz
        | some b => exact (hok.mem _ (lookup_mem e)).2.2
      have := (mark_facts hb hm).2.2.2.2.2
      unfold DS.rd at this
      cases e : D.mem.lookup i with
      | none => rw [e] at this; simp [List.getD, List.getElem?_eq_none h1] at this
      | some b => have := (hok.mem _ (lookup_mem e)).1; omega)
  have HF : Hid (∀ s l, mark L (D.rd a) = some (s, l) → l.length ≤ 23 ∧ ∀ z ∈ l, 0 ≤ z ∧ z < L) := hide (fun s l hm => by
    have := mark_facts (hok.rd (show a < D.secs.length by omega)).2 hm
    exact ⟨this.2.1, this.2.2.1⟩)
  have HP0 : Hid (∀ s l, mark L (D.rd a) = some (s, l) → openP D L = ((openRun D a l).1, if (openRun D a l).2 = 0 then s else 0, (openRun D a l).2)) := hide (fun s l hm => by
    rw [hm] at hbest
    dsimp only at hbest
    have hpos := (mark_facts (hok.rd (show a < D.secs.length by omega)).2 hm).1
    unfold openP
    rw [hbest, if_neg (by rw [hd]; exact Bool.false_ne_true), if_neg (show ¬ s = 0 by omega)])
  have HP1 : Hid (mark L (D.rd a) = none → openP D L = (D, 0, 5)) := hide (fun hm => by
    rw [hm] at hbest
    dsimp only at hbest
    unfold openP
    rw [hbest, if_neg (by rw [hd]; exact Bool.false_ne_true), if_pos rfl])
  have H := hide h
  generalize hR : openP D L = R at *
  clear hR h hbest hL
  go_enter Tryz.func15, Tryz.ntmps15
  go_wp2_with fail
  refine (unhide HC).mono ?_
  rintro e w1 ⟨rfl, rfl⟩
  go_wp2_with fail
  refine (unhide HM).mono ?_
  rintro e w1 ⟨m, n, f, rfl, hrm, hgood, hb1⟩
  have hnew := newest_any hrm (hgood 0 (by decide)).stp (hgood 1 (by decide)).stp
  rw [hai] at hnew
  have HNEW := hide hnew
  have HRM := hide hrm
  have HGOOD := hide (hgood a ha)
  have HB1 := hide hb1
  have hs1 := hb1.size
  clear hnew hrm hgood hb1 HC HM hai
  go_wp2_with fail
  refine (unhide HNEW).mono ?_
  rintro e w2 ⟨rfl, hb2⟩
  have hlook := ((unhide HRM).below hb2).look true ha
  rw [if_pos rfl] at hlook
  have hgood := (unhide HGOOD).below hb2
  have HB2 := hide ((unhide HB1).trans (hb2.mono hs1))
  have hs2 := hb2.size
  clear hb2 HRM HGOOD HNEW HB1
  cases hM : mark L (D.rd a) with
  | none =>
    rw [hM] at hgood
    rw [show f a = none from hgood] at hlook
    unfold mark0 at hlook
    simp only [Option.getD_none, Option.isSome_none] at hlook
    have HRR := hide (unhide HP1 hM)
    clear hM HP0 HP1 HF hgood
    go_wp2
    go_ret2
    rw [unhide HRR]
    exact ⟨_, rfl, S, (unhide H).below ((unhide HB2).alloc (unhide HB2).size _), Turn.of_below ((unhide HB2).alloc (unhide HB2).size _), fun h => absurd (show (5 : Int) = 0 from h) (by decide), fun _ => rfl⟩
  | some q =>
    obtain ⟨s, l⟩ := q
    rw [hM] at hgood
    obtain ⟨nv, hfa, hnum⟩ := hgood
    obtain ⟨na, nc, rfl⟩ := own_shape2 hnum
    rw [hfa] at hlook
    simp only [Option.getD_some, Option.isSome_some] at hlook
    have hRR := unhide HP0 s l hM
    obtain ⟨hl23, hlz⟩ := unhide HF s l hM
    obtain ⟨X, hX⟩ : ∃ X, X = openRun D a l := ⟨_, rfl⟩
    rw [← hX] at hRR
    have HRR := hide hRR
    have HX := hide hX
    have HNUM := hide hnum
    have HLZ := hide hlz
    clear hM HP0 HP1 HF hnum hfa hX hlz hRR
    go_wp2_with fail
    have hb3 : Below w.heap.size w (w2.alloc (.cells #[.int .i64 s, .slice na l.length nc] 51)) := (unhide HB2).alloc (unhide HB2).size _
    have hm3 := heap_alloc_new w2 (.cells #[.int .i64 s, .slice na l.length nc] 51)
    have hn3 := own_below (unhide HNUM) (w' := w2.alloc (.cells #[.int .i64 s, .slice na l.length nc] 51)) ((Below.refl _ _).alloc (Nat.le_refl _) _)
    have hs3 : w2.heap.size < (w2.alloc (.cells #[.int .i64 s, .slice na l.length nc] 51)).heap.size := by simp
    generalize w2.alloc (.cells #[.int .i64 s, .slice na l.length nc] 51) = w3 at *
    have c1 : w3.cell? ⟨w2.heap.size, 1, none⟩ = some (.slice na l.length nc) := by rw [cell_of_row _ _ _ _ _ _ hm3]; rfl
    have HLV := hide ((unhide H).below hb3)
    have HRD : Hid (∀ wx g, Below w3.heap.size w3 wx → w3.heap.size ≤ g → wx.cell? ⟨g, 0, none⟩ = some (.int .i64 (a : Int)) → Calls Tryz.prog 31 #[.pointer (some ⟨p, 0, none⟩), .int .i64 (l.length : Nat), .func (.func 53) #[] #[.pointer (some ⟨g, 0, none⟩)]] wx fun e w' => ∃ t, e = .returned (.tuple #[.slice (some ⟨t, 0, none⟩) l.length l.length, .nilIface]) ∧ Bods w' S t l.length (fun k => D.rd (2 + 23 * a + k)) ∧ t < w'.heap.size ∧ Below w3.heap.size w3 w') := hide (fun wx g hbx hg hc => by
      have hgl := block_lt_of_cell hc
      have := read_pages 53 g l.length (fun k => 2 + 23 * a + k) ((unhide HLV).below hbx) hd (by omega) (fun k hk => by omega) Tryz.call53 (fun w' hb' k hk => by
        have := shelf1_any g a k w' (by omega) (by omega) ((hb'.cell hgl).trans hc)
        rw [show (2 + 23 * (a : Int) + (k : Int)) = ((2 + 23 * a + k : Nat) : Int) by omega] at this
        exact this)
      exact this.mono fun e w' ⟨t, he, hbo, htl, hb⟩ => ⟨t, he, hbo, htl, hbx.trans (hb.mono hbx.size)⟩)
    have HM3 := hide hm3
    have HN3 := hide hn3
    have HB3 := hide hb3
    clear hm3 hn3 hb3 HNUM HB2 hlook
    go_region_held3 (fun w' => w'.cell? ⟨w2.heap.size, 1, none⟩ = some (.slice na l.length nc)) (go_keep)
      (first
        | (go_at_call 32; refine (shelf_any _ _).mono ?_; rintro e wa ⟨rfl, hwa⟩; have hba : Below w3.heap.size w3 wa := (by rw [hwa]; exact (below_drewN (Below.refl _ _) _).alloc (Nat.le_refl _) _); have hca : wa.cell? ⟨w3.heap.size, 0, none⟩ = some (.int .i64 (a : Int)) := (by rw [hwa]; exact cell_of_row _ _ _ _ _ _ (heap_alloc_new _ _)); clear hwa; have ra1 : wa.cell? ⟨w2.heap.size, 1, none⟩ = some (.slice na l.length nc) := (hba.cell (by show w2.heap.size < w3.heap.size; omega)).trans c1)
        | (go_at_call 31; refine (unhide HRD _ _ (by exact ⟨hba.os, hba.tape, hba.output, hba.size, hba.block⟩) (by exact Nat.le_refl _) (by exact hca)).mono ?_; rintro e wb ⟨tb, rfl, hbo, htl, hbb⟩; have rb1 : wb.cell? ⟨w2.heap.size, 1, none⟩ = some (.slice na l.length nc) := (hbb.cell (by show w2.heap.size < w3.heap.size; omega)).trans c1))
    all_goals
      have hbA : Below w.heap.size w wb := (unhide HB3).trans (hbb.mono (unhide HB3).size)
      have hm4 := (hbb.block _ hs3).trans (unhide HM3)
      have m0 : wb.cell? ⟨w2.heap.size, 0, none⟩ = some (.int .i64 s) := by rw [cell_of_row _ _ _ _ _ _ hm4]; rfl
      have hn4 := own_below (unhide HN3) hbb
      have hbs4 : Below wb.heap.size wb (wb.alloc (.cells #[.slice na l.length nc] 22)) := (Below.refl _ _).alloc (Nat.le_refl _) _
      have hgs : ¬ S wb.heap.size := hS _ hbA.size
      have hn5 := own_below hn4 hbs4
      have hml : w2.heap.size < wb.heap.size := (Array.getElem?_eq_some_iff.1 hm4).1
      have hwr := write_pages 54 wb.heap.size tb l.length l.length (fun k => D.rd (2 + 23 * a + k)) (fun k => 48 + l.getD k 0) (((unhide H).below hbA).below hbs4) (hbo.turn (Turn.of_below hbs4) htl) (Nat.lt_of_lt_of_le htl hbs4.size) (by omega) (Nat.le_refl _) Tryz.call54 (fun w' S' ht k hk => by
        obtain ⟨gn, cn, e, hgb, _, hgl, hcell⟩ := own_slice hn5 (by omega)
        simp only [Value.slice.injEq] at e
        obtain ⟨rfl, _, rfl⟩ := e
        have hz := unhide HLZ _ (mem_getD hk)
        have hck : (wb.alloc (.cells #[.slice (some ⟨gn, 0, none⟩) l.length nc] 22)).cell? ⟨gn, k, none⟩ = some (.int .i64 (l.getD k 0)) := by
          rw [hcell k hk]
          simp [List.getD, hk]
        have hnS : ¬ S gn := hS _ hgb
        refine home1_any wb.heap.size gn nc l.length k (l.getD k 0) w' hk (by omega) (by omega) ((World.cell?_of_block (a := ⟨wb.heap.size, 0, none⟩) (ht.block _ (by simp) hgs)).trans ?_) ((World.cell?_of_block (a := ⟨gn, k, none⟩) (ht.block _ hgl hnS)).trans hck)
        rw [cell_of_row _ _ _ _ _ _ (heap_alloc_new _ _)]; rfl)
      have hXe : andF (wsF (D, 0) (fun i => (48 + l.getD i 0, D.rd (2 + 23 * a + i))) l.length) = X := (unhide HX).symm
      rw [hXe] at hwr
      have HWR := hide hwr
      have HM4 : Hid (∀ w' S', Turn S S' (wb.alloc (.cells #[.slice na l.length nc] 22)) w' → w'.cell? ⟨w2.heap.size, 0, none⟩ = some (.int .i64 s)) := hide (fun w' S' ht => by
        have e1 : (wb.alloc (.cells #[.slice na l.length nc] 22)).heap[w2.heap.size]? = _ := (hbs4.block _ hml).trans hm4
        have e2 := (ht.block _ (Nat.lt_of_lt_of_le hml hbs4.size) (hS _ (by omega))).trans e1
        rw [cell_of_row _ _ _ _ _ _ e2]; rfl)
      have HTA := hide ((Turn.of_below (S := S) hbA).trans (Turn.of_below hbs4))
      clear hwr hXe hn5 hn4 hm4 hbb hbo hbA hbs4 HRD HLV HM3 HN3 HB3 hba hca ra1 m0
      go_wp2_with fail
      refine (home_any _ _ _ _).mono ?_
      rintro e wc ⟨rfl, rfl⟩
      go_wp2_with fail
      refine (unhide HWR).mono ?_
      rintro e w6 ⟨rfl, S6, hl6, ht6⟩
      have m0 := unhide HM4 w6 S6 ht6
      have HL6 := hide hl6
      have HT6 := hide ((unhide HTA).trans ht6)
      clear hl6 ht6 HWR HM4 HTA
      by_cases hE : X.2 = 0
      · rw [hE, errV_zero]
        go_wp2
        go_ret2
        have hq := heap_alloc_new w6 (.cells #[.pointer (some ⟨p, 0, none⟩), .int .i64 s] 56)
        rw [unhide HRR, if_pos hE, hE]
        refine ⟨_, rfl, S6, (unhide HL6).below ((Below.refl _ _).alloc (Nat.le_refl _) _), (unhide HT6).trans (Turn.alloc S6 _ _), fun _ => ⟨w6.heap.size, rfl, hq, (unhide HT6).size, fun hs => ?_⟩, fun h => absurd rfl h⟩
        have := (unhide HL6).dev.lt _ hs
        omega
      · rw [errV_pos _ hE]
        go_wp2
        go_ret2
        rw [unhide HRR, if_neg hE]
        exact ⟨_, by rw [errV_pos _ hE]; rfl, S6, unhide HL6, unhide HT6, fun h => absurd h hE, fun _ => rfl⟩
end
end Go.Proofs.YtjipnjmnkfjmhaaGreatDoor
/-! Package pages, as laws use it: a table of byte slices; lists of pages that came in; the pages behind the first k of a Commit. (Part of the proofs over package pages.) -/
namespace Go.Proofs.YtjipnjmnkfjmhaaGreatDoor
open Go.RowKit
set_option linter.unusedVariables false

theorem format_left (n : Nat) : (formatRun (DS.new n)).1.left < 0 := by
  have h0 : Ever (DS.new n, 0) := ⟨by show (-1 : Int) < 0; decide, fun _ => rfl, by show (0 : Int) ≠ 9; decide⟩
  exact ((h0.w _ _).w _ _).f.1
theorem cnt_new {n : Nat} (h1 : 49 ≤ n) (h2 : n ≤ 300) : ∃ L : Nat, cntI n = L ∧ 1 ≤ L ∧ L ≤ 200 ∧ 48 + L ≤ n := by
  refine ⟨(cntI n).toNat, ?_⟩
  unfold cntI
  split <;> omega

/-- A new device, formatted. -/
theorem format_made {w0 w : World} {p : Nat} {S : Nat → Prop} {n L : Nat} (h : Live w0 w p S (DS.new n)) (h1 : 49 ≤ n) (h2 : n ≤ 300) (hL : cntI n = L) (hL1 : 1 ≤ L) (hL2 : L ≤ 200) (hL3 : 48 + L ≤ n) :
    Calls Tryz.prog 5 #[.pointer (some ⟨p, 0, none⟩)] w fun e w' => ∃ q, e = .returned (.tuple #[.pointer (some ⟨q, 0, none⟩), .nilIface]) ∧ ∃ S' D', Live w0 w' p S' D' ∧ PgAt w' q p 2 ∧ ¬ S' q ∧ w0.heap.size ≤ q ∧ Neat D' L 2 (fun _ => zerosB 32) 0 [] ∧ D'.left < 0 ∧ D'.secs.length = n := by
  obtain ⟨hf1, hf2, hf3⟩ := format_new n (by omega) h2 L hL3 hL2
  refine (format_yes h (by rw [show (DS.new n).secs.length = n by simp [DS.new], hL]; omega)).mono ?_
  rintro e w' ⟨v, S', rfl, hl, _, hyes, _⟩
  obtain ⟨q, rfl, hpg, hq, hout⟩ := hyes hf1
  have hsz := h.bel.size
  refine ⟨q, by rw [hf1]; rfl, S', _, hl, hpg, hout, by omega, hf2, format_left n, hf3⟩

/-- What came in is none of the device's. -/
theorem PgsO.live {w0 w : World} {p : Nat} {S : Nat → Prop} {D : DS} {a : Option Addr} {cap : Nat} {l : List (Int × List Int)} (h : PgsO w0 (fun _ => False) a cap l) (hl : Live w0 w p S D) : PgsO w S a cap l := by
  have h1 := h.below hl.bel
  refine ⟨h1.1, h1.2.1, fun hne => ?_⟩
  obtain ⟨b, off, h4, _, h6⟩ := h1.2.2 hne
  obtain ⟨b', off', h4', _, h6'⟩ := h.2.2 hne
  rw [h4] at h4'
  simp only [Option.some.injEq, Addr.mk.injEq, and_true] at h4'
  obtain ⟨rfl, rfl⟩ := h4'
  have hlt : b < w0.heap.size := block_lt_of_cell (h6' 0 (List.length_pos_iff.2 hne)).1
  refine ⟨b, off, h4, fun hs => by have := hl.base b hs; omega, fun i hi => ?_⟩
  obtain ⟨c0, ab, capb, c1, hbs, _, hr⟩ := h6 i hi
  obtain ⟨_, ab', capb', c1', hbs', _, _⟩ := h6' i hi
  have e := (hl.bel.cell (block_lt_of_cell c1')).trans c1'
  rw [c1] at e
  simp only [Option.some.injEq, Value.slice.injEq] at e
  obtain ⟨rfl, _, rfl⟩ := e
  exact ⟨c0, ab, capb, c1, hbs, fun hne2 x hx hs => by have h7 := hbs'.lt hne2 hx; have h8 := hl.base _ hs; omega, hr⟩

/-- A table of byte slices of its own: the first n stand as F says; nothing of them is in S. -/
def Tbl (w : World) (S : Nat → Prop) (t n : Nat) (F : Nat → List Int) : Prop :=
  Bods w S t n F ∧ ∃ cur : Array Value, w.heap[t]? = some (.cells cur 36 (0, 0)) ∧ cur.size = n
section
variable {w w' : World} {S S' : Nat → Prop} {t n : Nat} {F : Nat → List Int}
theorem Tbl.lt (h : Tbl w S t n F) : t < w.heap.size := by
  obtain ⟨_, cur, h1, _⟩ := h
  exact (Array.getElem?_eq_some_iff.1 h1).1
theorem Tbl.turn (h : Tbl w S t n F) (ht : Turn S S' w w') : Tbl w' S' t n F := by
  have hlt := h.lt
  obtain ⟨h1, cur, h2, h3⟩ := h
  exact ⟨h1.turn ht hlt, cur, (ht.block t hlt h1.1).trans h2, h3⟩
theorem Tbl.below (h : Tbl w S t n F) (hb : Below w.heap.size w w') : Tbl w' S t n F := h.turn (Turn.of_below hb)
theorem Tbl.congr {G : Nat → List Int} (h : Tbl w S t n F) (e : ∀ i, i < n → F i = G i) : Tbl w S t n G := by
  obtain ⟨⟨h1, h2⟩, h3⟩ := h
  refine ⟨⟨h1, fun k hk => ?_⟩, h3⟩
  rw [← e k hk]
  exact h2 k hk
theorem Tbl.cell (h : Tbl w S t n F) (i : Nat) (hi : i < n) : ∃ ab cb, w.cell? ⟨t, i, none⟩ = some (.slice ab (F i).length cb) ∧ Bs w ab cb (F i) := by
  obtain ⟨ab, cb, h1, h2, _⟩ := h.1.2 i hi
  exact ⟨ab, cb, h1, h2⟩
theorem Tbl.fr (h : Tbl w S t n F) (i : Nat) : w.frozen? ⟨t, i, none⟩ = false := by
  obtain ⟨_, cur, h1, _⟩ := h
  exact frozen_of_row _ _ _ _ _ h1
/-- Bytes do not stand in the table itself. -/
theorem Tbl.apart (h : Tbl w S t n F) {a : Option Addr} {c : Nat} {l : List Int} (hb : Bs w a c l) (hne : l ≠ []) : ∀ x, a = some x → x.block ≠ t := by
  intro x hx e
  obtain ⟨b, off, rfl, hc⟩ := hb.2.2.2.2 hne
  obtain rfl := Option.some.inj hx
  have e' : b = t := e
  subst e'
  have h0 := hc 0 (List.length_pos_iff.2 hne)
  obtain ⟨⟨_, h2⟩, cur, h3, h4⟩ := h
  rw [cell_of_row _ _ _ _ _ _ h3] at h0
  have hlt : off + 0 < cur.size := (Array.getElem?_eq_some_iff.1 h0).1
  obtain ⟨ab, cb, h5, _⟩ := h2 (off + 0) (by omega)
  rw [cell_of_row _ _ _ _ _ _ h3] at h5
  rw [h0] at h5
  cases h5
theorem Bs.setCell {a : Option Addr} {c : Nat} {l : List Int} (hb : Bs w a c l) {x : Addr} (hx : l ≠ [] → ∀ y, a = some y → y.block ≠ x.block) (v : Value) : Bs (w.setCell x v) a c l := by
  obtain ⟨h1, h2, h3, h4, h5⟩ := hb
  refine ⟨h1, h2, h3, h4, fun hne => ?_⟩
  obtain ⟨b, off, rfl, hc⟩ := h5 hne
  refine ⟨b, off, rfl, fun i hi => ?_⟩
  rw [← hc i hi]
  exact World.cell?_of_block (a := ⟨b, off + i, none⟩) (heap_setCell_other _ _ _ _ (hx hne ⟨b, off, none⟩ rfl))
def putF (F : Nat → List Int) (i : Nat) (b : List Int) : Nat → List Int := fun j => if j = i then b else F j
theorem Tbl.put (h : Tbl w S t n F) {i : Nat} (hi : i < n) {a : Option Addr} {c : Nat} {l : List Int} (hb : Bs w a c l) (hn : l ≠ [] → ∀ x, a = some x → ¬ S x.block) : Tbl (w.setCell ⟨t, i, none⟩ (.slice a l.length c)) S t n (putF F i l) := by
  have hap : ∀ {a : Option Addr} {c : Nat} {l : List Int}, Bs w a c l → l ≠ [] → ∀ x, a = some x → x.block ≠ t := fun hb hne => h.apart hb hne
  obtain ⟨⟨h1, h2⟩, cur, h3, h4⟩ := h
  have h5 := heap_setCell_same w t i cur 36 (.slice a l.length c) h3
  refine ⟨⟨h1, fun k hk => ?_⟩, _, h5, by simp [h4]⟩
  unfold putF
  by_cases e : k = i
  · subst e
    rw [if_pos rfl]
    refine ⟨a, c, ?_, hb.setCell (fun hne y hy => hap hb hne y hy) _, hn⟩
    rw [cell_of_row _ _ _ _ _ _ h5, Array.getElem?_setIfInBounds_self_of_lt (by omega)]
  · rw [if_neg e]
    obtain ⟨ab, cb, h6, h7, h8⟩ := h2 k hk
    refine ⟨ab, cb, ?_, h7.setCell (fun hne y hy => hap h7 hne y hy) _, h8⟩
    rw [cell_of_row _ _ _ _ _ _ h5, Array.getElem?_setIfInBounds_ne (fun e' => e e'.symm)]
    rw [cell_of_row _ _ _ _ _ _ h3] at h6
    exact h6
theorem Tab.tbl (h : Tab w S t n F n) (hs : ∀ i, i < n → Sec (F i)) : Tbl w S t n F := by
  obtain ⟨cur, h1, h2, h3, h4⟩ := h
  refine ⟨⟨h3, fun k hk => ?_⟩, cur, h1, h2⟩
  obtain ⟨g, h5, h6, h7⟩ := h4 k hk
  refine ⟨some ⟨g, 0, none⟩, 32, ?_, blk_bs h6 (hs k hk), fun _ x hx => ?_⟩
  · rw [cell_of_row _ _ _ _ _ _ h1, h5, (hs k hk).1]
  · obtain rfl := Option.some.inj hx
    exact h7
/-- The set grows by a new block. -/
theorem Tbl.more (h : Tbl w S t n F) {q : Nat} (hq : w.heap.size ≤ q) : Tbl w (Go.Proofs.YtjipnjmnkfjmhaaGreatDoor.plus S q) t n F := by
  have hlt := h.lt
  obtain ⟨⟨h1, h2⟩, h3⟩ := h
  refine ⟨⟨fun hs => ?_, fun k hk => ?_⟩, h3⟩
  · rcases hs with hs | hs
    · exact h1 hs
    · omega
  · obtain ⟨ab, cb, h4, h5, h6⟩ := h2 k hk
    refine ⟨ab, cb, h4, h5, fun hne x hx hs => ?_⟩
    rcases hs with hs | hs
    · exact h6 hne x hx hs
    · have := h5.lt hne hx; omega
theorem Tbl.less {q : Nat} (h : Tbl w (Go.Proofs.YtjipnjmnkfjmhaaGreatDoor.plus S q) t n F) : Tbl w S t n F := by
  obtain ⟨⟨h1, h2⟩, h3⟩ := h
  refine ⟨⟨fun hs => h1 (.inl hs), fun k hk => ?_⟩, h3⟩
  obtain ⟨ab, cb, h4, h5, h6⟩ := h2 k hk
  exact ⟨ab, cb, h4, h5, fun hne x hx hs => h6 hne x hx (.inl hs)⟩
end

/-- The pages behind the first k of a Commit. -/
def updK (P : Nat → List Int) (l : List (Int × List Int)) : Nat → Nat → List Int
  | 0 => P
  | k + 1 => putF (updK P l k) (l.getD k (0, [])).1.toNat (l.getD k (0, [])).2
theorem updK_at {P : Nat → List Int} {L : Nat} {l : List (Int × List Int)} (hv : Valid L l) : ∀ k, k ≤ l.length → ∀ i : Nat, (∃ j, j < k ∧ (l.getD j (0, [])).1 = i ∧ updK P l k i = (l.getD j (0, [])).2) ∨ ((∀ j, j < k → (l.getD j (0, [])).1 ≠ i) ∧ updK P l k i = P i)
  | 0, _, i => .inr ⟨fun j hj => absurd hj (Nat.not_lt_zero j), rfl⟩
  | k + 1, hk, i => by
    have hn := hv.num k (by omega)
    show (∃ j, j < k + 1 ∧ _ ∧ putF _ _ _ i = _) ∨ (_ ∧ putF _ _ _ i = _)
    unfold putF
    by_cases e : i = (l.getD k (0, [])).1.toNat
    · rw [if_pos e]
      exact .inl ⟨k, by omega, by omega, rfl⟩
    · rw [if_neg e]
      rcases updK_at hv k (by omega) i with ⟨j, h1, h2, h3⟩ | ⟨h1, h2⟩
      · exact .inl ⟨j, by omega, h2, h3⟩
      · refine .inr ⟨fun j hj => ?_, h2⟩
        by_cases e2 : j = k
        · subst e2; omega
        · exact h1 j (by omega)
theorem updK_all {P : Nat → List Int} {L : Nat} {l : List (Int × List Int)} (hv : Valid L l) (i : Nat) : updK P l l.length i = upd P l i := by
  rcases updK_at hv l.length (Nat.le_refl _) i (P := P) with ⟨j, h1, h2, h3⟩ | ⟨h1, h2⟩
  · have := upd_at (P := P) hv h1
    rw [h2, Int.toNat_natCast] at this
    rw [h3, this]
  · rw [h2, upd_other]
    intro hm
    obtain ⟨x, hx, hxe⟩ := List.mem_map.1 hm
    obtain ⟨j, hj, hje⟩ := List.getElem_of_mem hx
    exact h1 j hj (by rw [show l.getD j (0, []) = x by simp [List.getD, hj, hje]]; exact hxe)
end Go.Proofs.YtjipnjmnkfjmhaaGreatDoor
