/-
  Parts of the proofs, joined by program.
-/
import Derived.Test.YtifmemombecoaaaGreatDoorJIn
import Derived.Test.YtifmemombecoaaaGreatDoorJRef
import Derived.Test.YtifmemombecoaaaGreatDoorJIm
import Derived.Test.YtifmemombecoaaaGreatDoorJOr
namespace Go.Proofs.YtifmemombecoaaaGreatDoor
open Go.RowKit
set_option linter.unusedVariables false
theorem rImage_any (n : Int) (w : World) :
  Calls Tryz.prog 4 #[.int .i64 n] w fun e w' => e = .returned (.bool (lenB n)) /\ w = w' := by
 unfold lenB
 by_cases h1 : 288 <= n
 ·rw [decide_eq_true h1, Bool.true_and]
  go_enter Tryz.func4, Tryz.ntmps4
  go_wp2
  go_ret
  exact ⟨rfl, rfl⟩
 ·rw [decide_eq_false h1, Bool.false_and]
  go_enter Tryz.func4, Tryz.ntmps4
  go_wp2
  go_ret
  exact ⟨rfl, rfl⟩
theorem rHandle_any (n : Int) (w : World) :
  Calls Tryz.prog 38 #[.int .i64 n] w fun e w' => e = .returned (.bool (hndB n)) /\ w = w' := by
 unfold hndB
 by_cases h1 : 1 <= n
 ·rw [decide_eq_true h1, Bool.true_and]
  go_enter Tryz.func38, Tryz.ntmps38
  go_wp2
  go_ret
  exact ⟨rfl, rfl⟩
 ·rw [decide_eq_false h1, Bool.false_and]
  go_enter Tryz.func38, Tryz.ntmps38
  go_wp2
  go_ret
  exact ⟨rfl, rfl⟩
set_option maxHeartbeats 1000000 in
theorem rEntry_any (a : Option Addr) (cap : Nat) (l : List Int) (h : Int) (w : World) (hb : Bs w a cap l) (hl : 288 <= l.length) (h1 : 1 <= h) (h2 : h <= 40) :
  Calls Tryz.prog 34 #[.slice a l.length cap, .int .i64 h] w fun e w' => e = .returned (.tuple #[entV (entOf l h), .bool (tagAt l h != 0)]) /\ Below w.heap.size w w' := by
 have hp := plc_le h1 h2
 have hpe : ((plc h : Nat) : Int) = 5 * (h - 1) := by unfold plc; omega
 obtain ⟨a1, hs1, hb1⟩ := slice_lohi (P := Tryz.prog) (t := 22) Tryz.underlying22 size_u8 hb (plc h + 1) (plc h + 3) (by omega) (by omega)
 obtain ⟨a2, hs2, hb2⟩ := slice_lohi (P := Tryz.prog) (t := 22) Tryz.underlying22 size_u8 hb (plc h + 3) (plc h + 5) (by omega) (by omega)
 have e1 : plc h + 3 - (plc h + 1) = 2 := by omega
 have e2 : plc h + 5 - (plc h + 3) = 2 := by omega
 rw [e1] at hs1 hb1
 rw [e2] at hs2 hb2
 have l1 : ((l.drop (plc h + 1)).take 2).length = 2 := by simp; omega
 have l2 : ((l.drop (plc h + 3)).take 2).length = 2 := by simp; omega
 have HN1 := hide (fun (W : World) (hW : Below w.heap.size w W) => rNumber a1 _ _ W (hb1.below hW) (by omega))
 have HN2 := hide (fun (W : World) (hW : Below w.heap.size w W) => rNumber a2 _ _ W (hb2.below hW) (by omega))
 rw [l1] at HN1
 rw [l2] at HN2
 have g1 : numOf ((l.drop (plc h + 1)).take 2) = getV l (plc h + 1) 2 := rfl
 have g2 : numOf ((l.drop (plc h + 3)).take 2) = getV l (plc h + 3) 2 := rfl
 rw [g1] at HN1
 rw [g2] at HN2
 obtain ⟨b, off, rfl, hcell⟩ := hb.at (plc h) (by omega)
 have hblt := block_lt_of_cell hcell
 dsimp only at hblt
 have h3 := hb.2.2.1
 have hbd : 0 <= tagAt l h /\ tagAt l h <= 255 := hb.1.getD (plc h)
 have ht : l.getD (plc h) 0 = tagAt l h := rfl
 rw [ht] at hcell
 have hcell' : w.cell? ⟨b, off + (5 * (h - 1)).toNat, none⟩ = some (.int .u8 (tagAt l h)) := hcell
 unfold entOf
 have q1 : ((plc h + 1 : Nat) : Int) = (plc h : Int) + 1 := by omega
 have q3 : ((plc h + 3 : Nat) : Int) = (plc h : Int) + 3 := by omega
 have q5 : ((plc h + 5 : Nat) : Int) = (plc h : Int) + 5 := by omega
 rw [q1, q3, hpe] at hs1
 rw [q3, q5, hpe] at hs2
 have hmore : 5 * (h - 1) < (l.length : Int) := by omega
 clear hcell hb hb1 hb2 l1 l2 g1 g2 e1 e2 ht q1 q3 q5
 generalize getV l (plc h + 1) 2 = x at *
 generalize getV l (plc h + 3) 2 = y at *
 generalize tagAt l h = t at *
 generalize plc h = p at *
 generalize l.length = N at *
 go_enter Tryz.func34, Tryz.ntmps34
 go_wp2_with fail
 refine (unhide HN1 _ (((Below.refl _ w).alloc (Nat.le_refl _) _).alloc (by simp) _)).mono ?_
 rintro e w1 ⟨rfl, hw1⟩
 subst hw1
 go_wp2_with fail
 refine (unhide HN2 _ (((Below.refl _ w).alloc (Nat.le_refl _) _).alloc (by simp) _)).mono ?_
 rintro e w1 ⟨rfl, hw1⟩
 subst hw1
 go_wp2_with fail
 go_region
 go_wp2
 have hbl : Below (w.alloc (.cells #[.int .i64 h, .int .i64 x, .int .i64 y, .int .i64 (t - 1)] 60)).heap.size (w.alloc (.cells #[.int .i64 h, .int .i64 x, .int .i64 y, .int .i64 (t - 1)] 60)) (((w.alloc (.cells #[.int .i64 h, .int .i64 x, .int .i64 y, .int .i64 (t - 1)] 60)).alloc (.cells #[.int .i64 h, .int .i64 x, .int .i64 y, .int .i64 (t - 1)] 60)).drew) := ((Below.refl _ _).alloc (Nat.le_refl _) _).drew
 refine bodyPost_ret (results_ent Tryz.results34 _ _ w.heap.size (h, x, y, t - 1) rfl ((EnB.new w (h, x, y, t - 1)).below hbl (by simp))) rfl ?_
 exact ⟨rfl, ((Below.refl _ w).alloc (Nat.le_refl _) _).trans (hbl.mono (by simp))⟩
theorem rCopied_any (a : Option Addr) (cap : Nat) (l : List Int) (w : World) (hb : Bs w a cap l) (hne : l ≠ []) :
  Calls Tryz.prog 81 #[.slice a l.length cap] w fun e w' => ∃ g c, e = .returned (.slice (some ⟨g, 0, none⟩) l.length c) /\ Own w' w.heap.size g c l /\ Below w.heap.size w w' := by
 obtain ⟨i0, hi, hz0, hz1, hz2⟩ := info_parts info_u8
 have HB := hide hb
 clear hb
 go_enter Tryz.func81, Tryz.ntmps81
 go_wp2_with (at_builtin; refine wpList_append_new rfl _ _ 22 rfl i0 Tryz.underlying22 hi hz0 hz1 hz2 _ _ l rfl rfl (unhide HB) hne ?_)
 intro g c w1 hown hbel
 go_wp2
 go_ret
 exact ⟨g, c, rfl, hown, hbel⟩
def wipeK (l : List Int) (p : Nat) : Nat -> List Int
 | 0 => l
 | k + 1 => (wipeK l p k).set (p + k) 0
theorem length_wipeK (l : List Int) (p k : Nat) : (wipeK l p k).length = l.length := by
 induction k with
 | zero => rfl
 | succ k ih => simp [wipeK, ih]
theorem wipeK_in (l : List Int) (p : Nat) : ∀ k j, j < k -> p + k <= l.length -> (wipeK l p k).getD (p + j) 0 = 0 := by
 intro k
 induction k with
 | zero => intro j hj; omega
 | succ k ih =>
  intro j hj hk
  have hlen := length_wipeK l p k
  by_cases h : j = k
  ·subst h
   simp only [wipeK, List.getD]
   rw [List.getElem?_set_self (by omega)]
   rfl
  ·have h1 := ih j (by omega) (by omega)
   simp only [wipeK, List.getD]
   rw [List.getElem?_set_ne (by omega)]
   exact h1
theorem wipeK_out (l : List Int) (p : Nat) : ∀ k j, (j < p \/ p + k <= j) -> (wipeK l p k).getD j 0 = l.getD j 0 := by
 intro k
 induction k with
 | zero => intro j _; rfl
 | succ k ih =>
  intro j hj
  rw [<- ih j (by omega)]
  simp [wipeK, List.getD]
  rw [List.getElem?_set_ne (by omega)]
theorem zerosB_getD (n j : Nat) : (zerosB n).getD j 0 = 0 := by
 have := zeros_getD n 0 j
 rwa [List.drop_zero] at this
theorem wipeK_splice (l : List Int) (p n : Nat) (h : p + n <= l.length) : wipeK l p n = splice l p (zerosB n) := by
 have hz := length_zerosB n
 have hs := length_splice (z := l) (l := zerosB n) (off := p) (by omega)
 apply ext_getD
 ·rw [length_wipeK, hs]
 ·intro j hj
  rw [length_wipeK] at hj
  by_cases h1 : j < p \/ p + n <= j
  ·rw [wipeK_out l p n j h1, splice_out (by omega) (by omega)]
  ·obtain ⟨i, rfl⟩ : ∃ i, j = p + i := ⟨j - p, by omega⟩
   rw [wipeK_in l p n i (by omega) h, splice_in (by omega) (by omega), zerosB_getD]
set_option maxHeartbeats 1000000 in
theorem rWipe_any (a : Option Addr) (cap : Nat) (l : List Int) (p n : Nat) (w : World) (hb : Bs w a cap l) (hfit : p + n <= l.length) (hl : l.length <= 6400) (h0 : 0 < l.length) :
  Calls Tryz.prog 51 #[.slice a l.length cap, .int .i64 p, .int .i64 n] w fun e w' => ∃ g c, e = .returned (.slice (some ⟨g, 0, none⟩) l.length c) /\ Own w' w.heap.size g c (splice l p (zerosB n)) /\ Below w.heap.size w w' := by
 rw [<- wipeK_splice l p n hfit]
 have HC := hide (rCopied_any a cap l w hb (by intro e; rw [e] at h0; simp at h0))
 clear hb
 go_enter Tryz.func51, Tryz.ntmps51
 go_wp2_with fail
 refine (unhide HC).mono ?_
 rintro e w1 ⟨g, c, rfl, hown, hbel⟩
 have HO := hide hown
 have HB := hide hbel
 have hgb := hown.base
 clear hown hbel HC
 go_wp2_with fail
 go_loopw [8] (fun v wr => ∃ k : Nat, k <= n /\ v = .int .i64 k /\ Own wr w.heap.size g c (wipeK l p k) /\ Below w.heap.size w wr) (fun v _ => n - (intOf v).toNat)
 case atStart => exact ⟨0, Nat.zero_le _, rfl, unhide HO, unhide HB⟩
 case round =>
  obtain ⟨k, hk, rfl, hown, hbel⟩ := hrel
  by_cases hlt : k < n
  ·have hcl := hown.cell (p + k) (by rw [length_wipeK]; omega)
   have hfz := hown.frozen (p + k)
   have HO2 := hide (hown.set (p + k) 0)
   have HB2 := hide (hbel.setCell (p := ⟨g, p + k, none⟩) hgb (.int .u8 0))
   clear hown hbel HO HB
   generalize (wipeK l p k).getD (p + k) 0 = x at *
   go_wp2
   go_roundw
   case rel => exact ⟨k + 1, by omega, by go_num, unhide HO2, unhide HB2⟩
   case measure => simp [intOf]; omega
  ·obtain rfl : k = n := by omega
   have HO2 := hide hown
   have HB2 := hide hbel
   clear hown hbel HO HB
   go_wp2
   go_ret
   exact ⟨g, c, rfl, unhide HO2, unhide HB2⟩
theorem putK_rowE (L : List Int) (p : Nat) (x a l t : Int) (h : p + 5 <= L.length) : putK (putK (putK L p (t + 1) 1) (p + 1) a 2) (p + 3) l 2 = splice L p (rowE (x, a, l, t)) := by
 have hr : (rowE (x, a, l, t)).length = 5 := rfl
 have hs := length_splice (z := L) (l := rowE (x, a, l, t)) (off := p) (by omega)
 have l1 : (putK L p (t + 1) 1).length = L.length := length_putK _ _ _ _
 have l2 : (putK (putK L p (t + 1) 1) (p + 1) a 2).length = L.length := by rw [length_putK, l1]
 apply ext_getD
 ·rw [length_putK, l2, hs]
 ·intro j hj
  rw [length_putK, l2] at hj
  by_cases h1 : j < p \/ p + 5 <= j
  ·rw [putK_out _ _ _ _ _ (by omega), putK_out _ _ _ _ _ (by omega), putK_out _ _ _ _ _ (by omega), splice_out (by omega) (by omega)]
  ·rcases (show j = p \/ j = p + 1 \/ j = p + 2 \/ j = p + 3 \/ j = p + 4 by omega) with rfl | rfl | rfl | rfl | rfl
   ·have := putK_in L j (t + 1) 1 0 (by omega) (by omega)
    rw [putK_out _ _ _ _ _ (by omega), putK_out _ _ _ _ _ (by omega)]
    rw [Nat.add_zero] at this
    rw [this]
    have e := splice_in (z := L) (l := rowE (x, a, l, t)) (off := j) (j := 0) (by omega) (by omega)
    rw [Nat.add_zero] at e
    rw [e]
    simp [rowE]
   ·have := putK_in (putK L p (t + 1) 1) (p + 1) a 2 0 (by omega) (by omega)
    rw [putK_out _ _ _ _ _ (by omega)]
    rw [Nat.add_zero] at this
    rw [this, splice_in (by omega) (by omega)]
    simp [rowE]
   ·have := putK_in (putK L p (t + 1) 1) (p + 1) a 2 1 (by omega) (by omega)
    rw [putK_out _ _ _ _ _ (by omega)]
    rw [show p + 1 + 1 = p + 2 by omega] at this
    rw [this, splice_in (by omega) (by omega)]
    simp [rowE]
   ·have := putK_in (putK (putK L p (t + 1) 1) (p + 1) a 2) (p + 3) l 2 0 (by omega) (by omega)
    rw [Nat.add_zero] at this
    rw [this, splice_in (by omega) (by omega)]
    simp [rowE]
   ·have := putK_in (putK (putK L p (t + 1) 1) (p + 1) a 2) (p + 3) l 2 1 (by omega) (by omega)
    rw [show p + 3 + 1 = p + 4 by omega] at this
    rw [this, splice_in (by omega) (by omega)]
    simp [rowE]
theorem rPE_range (b : Option Addr) (len cap : Nat) (x a l t : Int) (w : World) (hr : hndB x = false \/ (hndB x = true /\ t < 0) \/ (hndB x = true /\ ¬ t < 0 /\ 15 < t) \/ (hndB x = true /\ ¬ t < 0 /\ ¬ 15 < t /\ l < 1) \/ (hndB x = true /\ ¬ t < 0 /\ ¬ 15 < t /\ ¬ l < 1 /\ 1000 < l)) :
  Calls Tryz.prog 21 #[.slice b len cap, .agg #[.int .i64 x, .int .i64 a, .int .i64 l, .int .i64 t]] w (Ends w [] (.int .i64 1)) := by
 have HH := hide (fun W => rHandle_any x W)
 rcases hr with h1 | ⟨h1, h2⟩ | ⟨h1, h2, h3⟩ | ⟨h1, h2, h3, h4⟩ | ⟨h1, h2, h3, h4, h5⟩
 all_goals
  rw [h1] at HH
  clear h1
  go_enter Tryz.func21, Tryz.ntmps21
  go_wp2_with (go_at_call 38; refine (unhide HH _).mono ?_; rintro e w1 ⟨rfl, rfl⟩)
  go_ret2
  exact ⟨none, 0, rfl, bs_nil _, (Below.refl _ _).alloc (Nat.le_refl _) _⟩
set_option maxHeartbeats 2000000 in
theorem rPE_shape (b : Option Addr) (len cap : Nat) (x a l t : Int) (w : World) (hlen : 288 <= (len : Int) /\ (len : Int) <= 6400) (h1 : hndB x = true) (h2 : 0 <= t /\ t <= 15) (h3 : 1 <= l /\ l <= 1000) (hr : a < 288 \/ (¬ a < 288 /\ (len : Int) < a) \/ (¬ a < 288 /\ ¬ (len : Int) < a /\ (len : Int) - a < l)) :
  Calls Tryz.prog 21 #[.slice b len cap, .agg #[.int .i64 x, .int .i64 a, .int .i64 l, .int .i64 t]] w (Ends w [] (.int .i64 3)) := by
 have HH := hide (fun W => rHandle_any x W)
 rw [h1] at HH
 obtain ⟨t1, t2⟩ := h2
 obtain ⟨t3, t4⟩ := h3
 obtain ⟨t5, t6⟩ := hlen
 have g1 : ¬ t < 0 := by omega
 have g2 : ¬ 15 < t := by omega
 have g3 : ¬ l < 1 := by omega
 have g4 : ¬ 1000 < l := by omega
 clear h1
 rcases hr with q1 | ⟨q1, q2⟩ | ⟨q1, q2, q3⟩
 all_goals
  go_enter Tryz.func21, Tryz.ntmps21
  go_wp2_with (go_at_call 38; refine (unhide HH _).mono ?_; rintro e w1 ⟨rfl, rfl⟩)
  go_ret2
  exact ⟨none, 0, rfl, bs_nil _, (Below.refl _ _).alloc (Nat.le_refl _) _⟩
theorem putOut_ok {l : List Int} {p n s : Int} (h1 : 1 <= s /\ s <= 4) (h2 : 0 <= n /\ n <= most s) (h3 : 0 <= p /\ p <= l.length - s) : putOut l p n s = (putK l p.toNat n s.toNat, 0) := by
 unfold putOut
 rw [if_neg (fun h => h.elim (fun h => h h1) (fun h => by omega)), if_neg (fun h => h h3)]
set_option maxHeartbeats 2000000 in
theorem rPE_yes (b : Option Addr) (cap : Nat) (L : List Int) (x a l t : Int) (w : World) (hbs : Bs w b cap L) (hlen : 288 <= (L.length : Int) /\ (L.length : Int) <= 6400) (h1 : hndB x = true) (h2 : 0 <= t /\ t <= 15) (h3 : 1 <= l /\ l <= 1000) (h4 : 288 <= a /\ l <= L.length - a) :
  Calls Tryz.prog 21 #[.slice b L.length cap, .agg #[.int .i64 x, .int .i64 a, .int .i64 l, .int .i64 t]] w (Ends w (splice L (plc x) (rowE (x, a, l, t))) (.int .i64 0)) := by
 have HH := hide (fun W => rHandle_any x W)
 have hx := hndB_iff.1 h1
 have hp := plc_le hx.1 hx.2
 have hpe : ((plc x : Nat) : Int) = 5 * (x - 1) := by unfold plc; omega
 rw [h1] at HH
 obtain ⟨t1, t2⟩ := h2
 obtain ⟨t3, t4⟩ := h3
 obtain ⟨t5, t6⟩ := hlen
 obtain ⟨t7, t8⟩ := h4
 have g1 : ¬ t < 0 := by omega
 have g2 : ¬ 15 < t := by omega
 have g3 : ¬ l < 1 := by omega
 have g4 : ¬ 1000 < l := by omega
 have g5 : ¬ a < 288 := by omega
 have g6 : ¬ (L.length : Int) < a := by omega
 have g7 : ¬ (L.length : Int) - a < l := by omega
 have HF := hide (putK_rowE L (plc x) x a l t (by omega))
 have l1 : (putK L (plc x) (t + 1) 1).length = L.length := length_putK _ _ _ _
 have l2 : (putK (putK L (plc x) (t + 1) 1) (plc x + 1) a 2).length = L.length := by rw [length_putK, l1]
 have l3 : (putK (putK (putK L (plc x) (t + 1) 1) (plc x + 1) a 2) (plc x + 3) l 2).length = L.length := by rw [length_putK, l2]
 have m1 : most (1 : Int) = 255 := rfl
 have m2 : most (2 : Int) = 65535 := rfl
 have o1 : putOut L (5 * (x - 1)) (t + 1) 1 = (putK L (plc x) (t + 1) 1, 0) := by
  rw [putOut_ok (by omega) (by omega) (by omega), <- hpe]; rfl
 have o2 : putOut (putK L (plc x) (t + 1) 1) (5 * (x - 1) + 1) a 2 = (putK (putK L (plc x) (t + 1) 1) (plc x + 1) a 2, 0) := by
  rw [putOut_ok (by omega) (by omega) (by omega), <- hpe]; rfl
 have o3 : putOut (putK (putK L (plc x) (t + 1) 1) (plc x + 1) a 2) (5 * (x - 1) + 3) l 2 = (putK (putK (putK L (plc x) (t + 1) 1) (plc x + 1) a 2) (plc x + 3) l 2, 0) := by
  rw [putOut_ok (by omega) (by omega) (by omega), <- hpe]; rfl
 have HP1 := hide (fun (W : World) (hW : Bs W b cap L) => rPut_any b cap L (5 * (x - 1)) (t + 1) 1 W hW (by omega))
 have HP2 := hide (fun (W : World) (q : Option Addr) (c : Nat) (hW : Bs W q c (putK L (plc x) (t + 1) 1)) => rPut_any q c (putK L (plc x) (t + 1) 1) (5 * (x - 1) + 1) a 2 W hW (by omega))
 have HP3 := hide (fun (W : World) (q : Option Addr) (c : Nat) (hW : Bs W q c (putK (putK L (plc x) (t + 1) 1) (plc x + 1) a 2)) => rPut_any q c (putK (putK L (plc x) (t + 1) 1) (plc x + 1) a 2) (5 * (x - 1) + 3) l 2 W hW (by omega))
 rw [o1] at HP1
 rw [o2, l1] at HP2
 rw [o3, l2] at HP3
 have HBS := hide hbs
 have HEN := hide (EnB.new w (x, a, l, t))
 have HB0 : Hid (Below w.heap.size w (w.alloc (.cells #[.int .i64 x, .int .i64 a, .int .i64 l, .int .i64 t] 60))) := hide ((Below.refl _ _).alloc (Nat.le_refl _) _)
 clear h1 hbs o1 o2 o3 hpe
 rw [<- unhide HF]
 have HLL := hide l3
 clear l3 HF
 generalize putK L (plc x) (t + 1) 1 = L1 at *
 generalize putK L1 (plc x + 1) a 2 = L2 at *
 generalize putK L2 (plc x + 3) l 2 = L3 at *
 dsimp only at HP1 HP2 HP3
 go_enter Tryz.func21, Tryz.ntmps21
 go_wp2_with (go_at_call 38; refine (unhide HH _).mono ?_; rintro e w1 ⟨rfl, rfl⟩)
 refine (unhide HP1 _ ((unhide HBS).below (unhide HB0))).mono ?_
 rintro e w1 ⟨a1, c1, rfl, hb1, hbl1⟩
 have hen1 := (unhide HEN).below hbl1 (by simp)
 obtain ⟨d0, d1, d2, d3⟩ := hen1.cells
 have HB1 := hide ((unhide HB0).trans (hbl1.mono (unhide HB0).size))
 have HEN1 := hide hen1
 have HP2' := hide (unhide HP2 w1 a1 c1 hb1)
 rw [l1]
 clear hb1 hbl1 hen1 HP1 HP2 HB0 HEN HBS
 go_wp2_with fail
 refine (unhide HP2').mono ?_
 rintro e w2 ⟨a2, c2, rfl, hb2, hbl2⟩
 have hen2 := (unhide HEN1).below hbl2 (unhide HEN1).lt
 clear d0 d1 d2 d3
 obtain ⟨d0, d1, d2, d3⟩ := hen2.cells
 have HB2 := hide ((unhide HB1).trans (hbl2.mono (unhide HB1).size))
 have HP3' := hide (unhide HP3 w2 a2 c2 hb2)
 rw [l2]
 clear hb2 hbl2 hen2 HP2' HP3 HB1 HEN1
 go_wp2_with fail
 refine (unhide HP3').mono ?_
 rintro e w3 ⟨a3, c3, rfl, hb3, hbl3⟩
 have HB3 := hide ((unhide HB2).trans (hbl3.mono (unhide HB2).size))
 have HBS3 := hide hb3
 clear hb3 hbl3 HP3' HB2 d0 d1 d2 d3
 go_wp2
 go_ret2
 exact ⟨a3, c3, rfl, unhide HBS3, unhide HB3⟩
theorem rPutEntry_any (b : Option Addr) (cap : Nat) (L : List Int) (e : (Int × Int × Int × Int)) (w : World) (hbs : Bs w b cap L) (hq : lenB L.length = true) :
  Calls Tryz.prog 21 #[.slice b L.length cap, entV e] w (Ends w (putL L e) (.int .i64 (putE L e))) := by
 obtain ⟨x, a, l, t⟩ := e
 have hl := lenB_iff.1 hq
 unfold entV
 dsimp only
 have h1 : ¬ lenB L.length = false := by rw [hq]; simp
 by_cases h0 : putE L (x, a, l, t) = 0
 ·have hL : putL L (x, a, l, t) = splice L (plc x) (rowE (x, a, l, t)) := by unfold putL; rw [if_pos h0]
  obtain ⟨_, h2, h3⟩ := putE_zero.1 h0
  dsimp only at h2 h3
  rw [hL, h0]
  exact rPE_yes b cap L x a l t w hbs hl h2 (by omega) (by omega) (by omega)
 ·have hL : putL L (x, a, l, t) = [] := by unfold putL; rw [if_neg h0]
  rw [hL]
  by_cases h2 : hndB x = false \/ t < 0 \/ 15 < t \/ l < 1 \/ 1000 < l
  ·have e : putE L (x, a, l, t) = 1 := by unfold putE; rw [if_neg h1, if_pos h2]
   rw [e]
   refine rPE_range b L.length cap x a l t w ?_
   cases e1 : hndB x with
   | false => exact .inl rfl
   | true =>
    rw [e1] at h2
    right
    have h2' : t < 0 \/ 15 < t \/ l < 1 \/ 1000 < l := h2.elim (fun h => by cases h) id
    simp only [true_and]
    omega
  ·have h2' : hndB x = true := by
    cases e : hndB x with
    | true => rfl
    | false => exact absurd (.inl e) h2
   have h3' : ¬ (t < 0 \/ 15 < t \/ l < 1 \/ 1000 < l) := fun h => h2 (.inr h)
   by_cases h4 : a < 288 \/ L.length - a < l
   ·have e : putE L (x, a, l, t) = 3 := by unfold putE; rw [if_neg h1, if_neg h2, if_pos h4]
    rw [e]
    exact rPE_shape b L.length cap x a l t w hl h2' (by omega) (by omega) (by omega)
   ·exact absurd (by unfold putE; rw [if_neg h1, if_neg h2, if_neg h4]) h0
theorem rRootAt_any (a : Option Addr) (cap : Nat) (l : List Int) (k : Nat) (w : World) (hb : Bs w a cap l) (hl : 288 <= l.length) (hl2 : l.length <= 6400) (hk : k < 8) :
  Calls Tryz.prog 35 #[.slice a l.length cap, .int .i64 k] w fun e w' => ∃ a' c', e = .returned (.slice a' 11 c') /\ Bs w a' c' (rowAt l k) /\ w = w' := by
 obtain ⟨a', hs, hb'⟩ := slice_lohi (P := Tryz.prog) (t := 22) Tryz.underlying22 size_u8 hb (200 + 11 * k) (211 + 11 * k) (by omega) (by omega)
 have e1 : 211 + 11 * k - (200 + 11 * k) = 11 := by omega
 rw [e1] at hs hb'
 have q1 : ((200 + 11 * k : Nat) : Int) = 200 + 11 * (k : Int) := by omega
 have q2 : ((211 + 11 * k : Nat) : Int) = 211 + 11 * (k : Int) := by omega
 rw [q1, q2] at hs
 have HB := hide hb'
 clear hb hb' q1 q2 e1
 go_enter Tryz.func35, Tryz.ntmps35
 go_wp2
 go_ret
 exact ⟨a', _, rfl, unhide HB, rfl⟩
theorem isRoot_at {l : List Int} {k : Nat} (hk : k < l.length) (h : l.getD k 0 ≠ 0) : isRoot l = true := by
 unfold isRoot
 refine List.any_eq_true.2 ⟨l.getD k 0, ?_, bne_iff_ne.2 h⟩
 have : l.getD k 0 = l[k] := by simp [List.getD, hk]
 rw [this]
 exact List.getElem_mem hk
theorem isRoot_not {l : List Int} (h : ∀ j, j < l.length -> l.getD j 0 = 0) : isRoot l = false := by
 unfold isRoot
 rw [List.any_eq_false]
 intro x hx
 obtain ⟨j, hj, rfl⟩ := List.getElem_of_mem hx
 have := h j hj
 rw [show l.getD j 0 = l[j] by simp [List.getD, hj]] at this
 rw [this]; simp
theorem rZero_any (a : Option Addr) (cap : Nat) (l : List Int) (w : World) (hb : Bs w a cap l) :
  Calls Tryz.prog 36 #[.slice a l.length cap] w fun e w' => e = .returned (.bool (!isRoot l)) /\ w = w' := by
 have hn : l.length <= 140737488351232 := hb.2.2.1
 have HB := hide hb
 have HY := hide (fun k => isRoot_at (l := l) (k := k))
 have HN := hide (isRoot_not (l := l))
 generalize isRoot l = R at *
 clear hb
 go_enter Tryz.func36, Tryz.ntmps36
 go_wp2_with fail
 go_loop [3] (fun v => ∃ k : Nat, k <= l.length /\ v = .int .i64 k /\ ∀ j, j < k -> l.getD j 0 = 0) (fun v => l.length - (intOf v).toNat)
 case atStart => exact ⟨0, by omega, rfl, fun j hj => absurd hj (Nat.not_lt_zero j)⟩
 case round =>
  obtain ⟨k, hk, rfl, hall⟩ := hrel
  by_cases hlt : k < l.length
  ·obtain ⟨b, off, rfl, hc⟩ := (unhide HB).at k hlt
   have HA := hide (fun (h : l.getD k 0 = 0) (j : Nat) (hj : j < k + 1) => show l.getD j 0 = 0 from by
    by_cases e : j = k
    ·rw [e]; exact h
    ·exact hall j (by omega))
   have HY2 := hide (unhide HY k hlt)
   clear hall HY
   generalize l.getD k 0 = c at *
   by_cases hz : c = 0
   ·subst hz
    go_wp2
    go_round
    case rel => exact ⟨k + 1, by omega, by go_num, unhide HA rfl⟩
    case measure => simp [intOf]; omega
   ·have HR := hide (unhide HY2 hz)
    go_wp2
    go_ret
    exact ⟨by rw [unhide HR]; rfl, rfl⟩
  ·obtain rfl : k = l.length := by omega
   have HR := hide (unhide HN hall)
   clear hall
   go_wp2
   go_ret
   exact ⟨by rw [unhide HR]; rfl, rfl⟩
set_option maxRecDepth 100000 in
set_option maxHeartbeats 2000000 in
theorem rRoots_any (a : Option Addr) (cap : Nat) (l : List Int) (w : World) (hb : Bs w a cap l) (hl : 288 <= l.length) (hl2 : l.length <= 6400) :
  Calls Tryz.prog 22 #[.slice a l.length cap] w fun e w' => ∃ v, e = .returned v /\ Lst roC 2 65 w' w.heap.size v (rootsK l 8) /\ Below w.heap.size w w' := by
 obtain ⟨i0, hi0, hz0, hz1, hz2⟩ := info_parts info_root
 have HB := hide hb
 have hbl := hb.2.2.1
 clear hb
 go_enter Tryz.func22, Tryz.ntmps22
 go_wp2_with fail
 go_loopw [3, 4] (fun v hv wr => ∃ k : Nat, k <= 8 /\ hv = .int .i64 k /\ Lst roC 2 65 wr w.heap.size v (rootsK l k) /\ Below w.heap.size w wr) (fun _ hv _ => 8 - (intOf hv).toNat)
 case atStart => exact ⟨0, by omega, rfl, Lst.nil _ _, Below.refl _ _⟩
 case round =>
  obtain ⟨k, hk, rfl, hown, hbel⟩ := hrel
  obtain ⟨va, vm, vc, rfl⟩ := hown.shape
  by_cases hlt : k < 8
  ·have hbs := (unhide HB).below hbel
   have HG := hide (rRootAt_any a cap l k wr hbs hl hl2 hlt)
   have hr11 : (rowAt l k).length = 11 := rowAt_len (by omega)
   have HEY := hide (fun ht => rootsK_yes (l := l) (k := k) ht)
   have HEN := hide (fun ht => rootsK_no (l := l) (k := k) ht)
   have HLN := hide (rootsK_len l k)
   have HO := hide hown
   have HBEL := hide hbel
   have hsz := (unhide HBEL).size
   clear hown hbel hbs
   generalize rowAt l k = r at *
   go_wp2_with fail
   refine (unhide HG).mono ?_
   rintro e w1 ⟨a1, c1, rfl, hb1, hw1⟩
   subst hw1
   have HZ := hide (rZero_any a1 c1 r wr hb1)
   rw [hr11] at HZ
   have HB1 := hide hb1
   clear hb1 HG
   by_cases ht : isRoot r = true
   ·have HE := hide (unhide HEY ht)
    rw [ht] at HZ
    obtain ⟨a2, hhi, hb2⟩ := slice_hi (P := Tryz.prog) (t := 22) Tryz.underlying22 size_u8 (unhide HB1) 8 (by omega)
    rw [hr11, show ((8 : Nat) : Int) = 8 from rfl] at hhi
    have h8 : (r.take 8).length = 8 := by rw [List.length_take]; omega
    have HRD := hide (rRead_any a2 c1 (r.take 8) wr hb2)
    rw [h8] at HRD
    obtain ⟨b, off, rfl, hcell⟩ := (unhide HB1).at 10 (by omega)
    have hbd := (unhide HB1).1.getD 10
    unfold rootOf at HE
    clear ht HEY HEN hb2 h8 HB1
    generalize (readOut (r.take 8)).1 = s at *
    generalize (readOut (r.take 8)).2 = cc at *
    generalize r.getD 10 0 = x at *
    have HB3 := hide ((unhide HBEL).alloc (unhide HBEL).size (.cells #[.string s, .int .i64 x] 65))
    have HO3 := hide ((unhide HO).below ((Below.refl _ _).alloc (Nat.le_refl _) (.cells #[.string s, .int .i64 x] 65)))
    have HGN : Hid ((wr.alloc (.cells #[.string s, .int .i64 x] 65)).heap[wr.heap.size]? = some (.cells (roC (s, x)).toArray 65 (0, 0))) := hide (heap_alloc_new wr _)
    clear HO HBEL
    go_wp2_with (first | (go_at_call 36; refine (unhide HZ).mono ?_; rintro e w2 ⟨rfl, hw2⟩; subst hw2) | (go_at_call 37; refine (unhide HRD).mono ?_; rintro e w2 ⟨rfl, hw2⟩; subst hw2) | (at_builtin; refine wpList_append_lst rfl _ _ 62 rfl w.heap.size i0 (.agg #[.string ByteArray.empty, .int .i64 0]) 24 Tryz.underlying62 hi0 hz0 hz1 hz2 rfl (by decide) (by decide) _ _ rfl (unhide HO3) wr.heap.size (s, x) rfl (unhide HGN) rfl (roC_one _) (Nat.le_trans (unhide HLN) (by omega)) (by simp; omega) ?_))
    intro v9 w9 hown9 hbel9
    have HO9 := hide hown9
    have HB9 := hide ((unhide HB3).trans hbel9)
    obtain ⟨a9, m9, c9, rfl⟩ := hown9.shape
    clear hown9 hbel9 HO3 HB3 HGN
    go_wp2
    go_roundw
    case rel => exact ⟨k + 1, by omega, by go_num, by rw [unhide HE]; exact unhide HO9, unhide HB9⟩
    case measure => simp [intOf]; omega
   ·have ht' : isRoot r = false := by simpa using ht
    have HE := hide (unhide HEN ht')
    rw [ht'] at HZ
    clear ht ht' HEY HEN HB1
    go_wp2_with (go_at_call 36; refine (unhide HZ).mono ?_; rintro e w2 ⟨rfl, hw2⟩; subst hw2)
    go_roundw
    case rel => exact ⟨k + 1, by omega, by go_num, by rw [unhide HE]; exact unhide HO, unhide HBEL⟩
    case measure => simp [intOf]; omega
  ·obtain rfl : k = 8 := by omega
   have HO := hide hown
   have HBEL := hide hbel
   clear hown hbel
   go_wp2
   go_ret
   exact ⟨_, rfl, unhide HO, unhide HBEL⟩
def nmK (l : List Int) (p : Nat) (s : ByteArray) : Nat -> List Int
 | 0 => l
 | k + 1 => (nmK l p s k).set (p + k) ((strL s).getD k 0)
theorem length_nmK (l : List Int) (p : Nat) (s : ByteArray) (k : Nat) : (nmK l p s k).length = l.length := by
 induction k with
 | zero => rfl
 | succ k ih => simp [nmK, ih]
theorem nmK_in (l : List Int) (p : Nat) (s : ByteArray) : ∀ k j, j < k -> p + k <= l.length -> (nmK l p s k).getD (p + j) 0 = (strL s).getD j 0 := by
 intro k
 induction k with
 | zero => intro j hj; omega
 | succ k ih =>
  intro j hj hk
  have hlen := length_nmK l p s k
  by_cases h : j = k
  ·subst h
   simp only [nmK, List.getD]
   rw [List.getElem?_set_self (by omega)]
   rfl
  ·have h1 := ih j (by omega) (by omega)
   simp only [nmK]
   rw [<- h1]
   simp only [List.getD]
   rw [List.getElem?_set_ne (by omega)]
theorem nmK_out (l : List Int) (p : Nat) (s : ByteArray) : ∀ k j, (j < p \/ p + k <= j) -> (nmK l p s k).getD j 0 = l.getD j 0 := by
 intro k
 induction k with
 | zero => intro j _; rfl
 | succ k ih =>
  intro j hj
  rw [<- ih j (by omega)]
  simp only [nmK, List.getD]
  rw [List.getElem?_set_ne (by omega)]
theorem set_getD {l : List Int} {i j : Nat} {c : Int} (hi : i < l.length) : (l.set i c).getD j 0 = if j = i then c else l.getD j 0 := by
 by_cases h : j = i
 ·subst h
  rw [if_pos rfl, List.getD, List.getElem?_set_self hi]
  rfl
 ·rw [if_neg h, List.getD, List.getElem?_set_ne (fun e => h e.symm)]
  rfl
theorem nmK_row (L : List Int) (p : Nat) (s : ByteArray) (h : Int) (hfit : p + 11 <= L.length) (hn : NameOk s) (h1 : 1 <= h) (h2 : h <= 40) :
  (nmK (splice L p (zerosB 11)) p s s.size).set (p + 10) h = splice L p (rowR (s, h)) := by
 have hz := length_zerosB 11
 have hs8 := hn.2.1
 have hne : ¬ noRoot (s, h) = true := by
  rw [noRoot_iff]
  rintro ⟨_, h0⟩
  dsimp only at h0
  omega
 have hrr : rowR (s, h) = nameL s ++ [0, 0, h % 256] := by unfold rowR; rw [if_neg hne]
 have hnl := length_nameL s hs8
 have hrl : (rowR (s, h)).length = 11 := by rw [hrr, List.length_append, hnl]; rfl
 have l0 : (splice L p (zerosB 11)).length = L.length := length_splice (by omega)
 have l1 : (nmK (splice L p (zerosB 11)) p s s.size).length = L.length := by rw [length_nmK, l0]
 have l2 : (splice L p (rowR (s, h))).length = L.length := length_splice (by omega)
 have hm : h % 256 = h := by omega
 apply ext_getD
 ·rw [List.length_set, l1, l2]
 ·intro j hj
  rw [List.length_set, l1] at hj
  rw [set_getD (by omega)]
  by_cases e10 : j = p + 10
  ·rw [if_pos e10, e10, splice_in (by omega) (by omega), hrr, List.getD, List.getElem?_append_right (by omega), hnl]
   show h = h % 256
   omega
  ·rw [if_neg e10]
   by_cases ho : j < p \/ p + 11 <= j
   ·rw [nmK_out _ _ _ _ _ (by omega), splice_out (by omega) (by omega), splice_out (by omega) (by omega)]
   ·obtain ⟨i, rfl⟩ : ∃ i, j = p + i := ⟨j - p, by omega⟩
    rw [splice_in (l := rowR (s, h)) (by omega) (by omega), hrr]
    by_cases hi : i < s.size
    ·rw [nmK_in _ _ _ _ i hi (by omega), List.getD, List.getD, List.getElem?_append_left (by omega)]
     have := nameL_lo s i hi
     simp only [List.getD] at this
     exact this.symm
    ·rw [nmK_out _ _ _ _ _ (by omega), splice_in (by omega) (by omega), zerosB_getD]
     by_cases h8 : i < 8
     ·rw [List.getD, List.getElem?_append_left (by omega)]
      have := nameL_hi s i (by omega)
      simp only [List.getD] at this
      exact this.symm
     ·rcases (show i = 8 \/ i = 9 by omega) with rfl | rfl
      ·rw [List.getD, List.getElem?_append_right (by omega), hnl]; rfl
      ·rw [List.getD, List.getElem?_append_right (by omega), hnl]; rfl
theorem rPR_range (b : Option Addr) (len cap : Nat) (i : Int) (s : ByteArray) (h : Int) (w : World) (hi : i < 0 \/ 7 < i) :
  Calls Tryz.prog 25 #[.slice b len cap, .int .i64 i, .agg #[.string s, .int .i64 h]] w (EndsF w [] (.int .i64 1)) := by
 by_cases h1 : i < 0
 ·clear hi
  go_enter Tryz.func25, Tryz.ntmps25
  go_wp2
  go_ret2
  exact ⟨none, 0, rfl, bs_nil _, (Below.refl _ _).alloc (Nat.le_refl _) _, Fr.nil _⟩
 ·have h2 : 7 < i := by omega
  clear hi
  go_enter Tryz.func25, Tryz.ntmps25
  go_wp2
  go_ret2
  exact ⟨none, 0, rfl, bs_nil _, (Below.refl _ _).alloc (Nat.le_refl _) _, Fr.nil _⟩
theorem rPR_wiped (b : Option Addr) (cap : Nat) (L : List Int) (i : Nat) (s : ByteArray) (h : Int) (w : World) (hbs : Bs w b cap L) (hl : 288 <= L.length) (hl2 : L.length <= 6400) (hi : i <= 7) :
  Calls Tryz.prog 51 #[.slice b L.length cap, .int .i64 (200 + 11 * (i : Int)), .int .i64 11] (w.alloc (.cells #[.string s, .int .i64 h] 65)) fun e w' => ∃ g c, e = .returned (.slice (some ⟨g, 0, none⟩) L.length c) /\ Own w' (w.heap.size + 1) g c (splice L (200 + 11 * i) (zerosB 11)) /\ Below (w.heap.size + 1) (w.alloc (.cells #[.string s, .int .i64 h] 65)) w' := by
 have hb0 : Below w.heap.size w (w.alloc (.cells #[.string s, .int .i64 h] 65)) := (Below.refl _ _).alloc (Nat.le_refl _) _
 have := rWipe_any b cap L (200 + 11 * i) 11 _ (hbs.below hb0) (by omega) hl2 (by omega)
 rw [sz_alloc] at this
 exact this
set_option maxRecDepth 100000 in
set_option maxHeartbeats 1000000 in
theorem rPR_none (b : Option Addr) (cap : Nat) (L : List Int) (i : Nat) (s : ByteArray) (h : Int) (w : World) (hbs : Bs w b cap L) (hl : 288 <= L.length) (hl2 : L.length <= 6400) (hi : i <= 7) (h0 : s.size = 0) (hh : h = 0) :
  Calls Tryz.prog 25 #[.slice b L.length cap, .int .i64 i, .agg #[.string s, .int .i64 h]] w (EndsF w (splice L (200 + 11 * i) (zerosB 11)) (.int .i64 0)) := by
 subst hh
 have HW := hide (rPR_wiped b cap L i s 0 w hbs hl hl2 hi)
 have he : s.toList.isEmpty = true := empty_yes s h0
 have HEN := hide (RoB.new w (s, 0))
 have HBY := hide (byt_splice (off := 200 + 11 * i) hbs.1 (byt_zerosB 11))
 have HLN := hide (length_splice (z := L) (l := zerosB 11) (off := 200 + 11 * i) (by rw [length_zerosB]; omega))
 have g1 : ¬ (i : Int) < 0 := by omega
 have g2 : ¬ (7 : Int) < i := by omega
 clear hbs
 generalize splice L (200 + 11 * i) (zerosB 11) = X at *
 go_enter Tryz.func25, Tryz.ntmps25
 go_wp2_with fail
 refine (unhide HW).mono ?_
 rintro e w1 ⟨g, c, rfl, hown, hb1⟩
 have hro := (unhide HEN).below hb1 (by omega)
 obtain ⟨c0, c1⟩ := hro.cells
 have HO := hide hown
 have HB1 : Hid (Below w.heap.size w w1) := hide (((Below.refl _ w).alloc (Nat.le_refl _) _).trans (hb1.mono (by omega)))
 dsimp only at c0 c1
 clear hro hown hb1 HW HEN
 go_wp2
 go_ret2
 exact ⟨some ⟨g, 0, none⟩, c, by rw [unhide HLN]; rfl, (unhide HO).bs (unhide HBY) (by rw [unhide HLN]; omega), unhide HB1, Fr.at (by have := (unhide HO).base; omega)⟩
set_option maxRecDepth 100000 in
set_option maxHeartbeats 1000000 in
theorem rPR_hand (b : Option Addr) (cap : Nat) (L : List Int) (i : Nat) (s : ByteArray) (h : Int) (w : World) (hbs : Bs w b cap L) (hl : 288 <= L.length) (hl2 : L.length <= 6400) (hi : i <= 7) (h0 : ¬ (s.size = 0 /\ h = 0)) (hh : hndB h = false) :
  Calls Tryz.prog 25 #[.slice b L.length cap, .int .i64 i, .agg #[.string s, .int .i64 h]] w (EndsF w [] (.int .i64 1)) := by
 have HW := hide (rPR_wiped b cap L i s h w hbs hl hl2 hi)
 have HEN := hide (RoB.new w (s, h))
 have HH := hide (fun W => rHandle_any h W)
 rw [hh] at HH
 have g1 : ¬ (i : Int) < 0 := by omega
 have g2 : ¬ (7 : Int) < i := by omega
 clear hbs hh
 generalize splice L (200 + 11 * i) (zerosB 11) = X at *
 have hcase : (s.toList.isEmpty = true /\ ¬ h = 0) \/ s.toList.isEmpty = false := by
  by_cases hs : s.size = 0
  ·exact .inl ⟨empty_yes s hs, fun e => h0 ⟨hs, e⟩⟩
  ·exact .inr (empty_no s (by omega))
 clear h0
 rcases hcase with ⟨he, hne⟩ | he
 all_goals
  go_enter Tryz.func25, Tryz.ntmps25
  go_wp2_with fail
  refine (unhide HW).mono ?_
  rintro e w1 ⟨g, c, rfl, hown, hb1⟩
  have hro := (unhide HEN).below hb1 (by omega)
  obtain ⟨c0, c1⟩ := hro.cells
  have HB1 : Hid (Below w.heap.size w w1) := hide (((Below.refl _ w).alloc (Nat.le_refl _) _).trans (hb1.mono (by omega)))
  dsimp only at c0 c1
  clear hro hown hb1 HW HEN
  go_wp2_with (go_at_call 38; refine (unhide HH _).mono ?_; rintro e w2 ⟨rfl, hw2⟩; subst hw2)
  go_ret2
  exact ⟨none, 0, rfl, bs_nil _, unhide HB1, Fr.nil _⟩
set_option maxRecDepth 100000 in
set_option maxHeartbeats 1000000 in
theorem rPR_name (b : Option Addr) (cap : Nat) (L : List Int) (i : Nat) (s : ByteArray) (h : Int) (w : World) (hbs : Bs w b cap L) (hl : 288 <= L.length) (hl2 : L.length <= 6400) (hi : i <= 7) (hs : s.size <= 140737488351232) (hh : hndB h = true) (hn : ¬ NameOk s) :
  Calls Tryz.prog 25 #[.slice b L.length cap, .int .i64 i, .agg #[.string s, .int .i64 h]] w (EndsF w [] (.int .i64 2)) := by
 have HW := hide (rPR_wiped b cap L i s h w hbs hl hl2 hi)
 have HEN := hide (RoB.new w (s, h))
 have HH := hide (fun W => rHandle_any h W)
 have HNM := hide (fun W => rName_fail s W hs hn)
 have hh1 := hndB_iff.1 hh
 have hne : ¬ h = 0 := by omega
 rw [hh] at HH
 have g1 : ¬ (i : Int) < 0 := by omega
 have g2 : ¬ (7 : Int) < i := by omega
 clear hbs hh hn
 generalize splice L (200 + 11 * i) (zerosB 11) = X at *
 have hcase : s.toList.isEmpty = true \/ s.toList.isEmpty = false := by cases s.toList.isEmpty <;> simp
 rcases hcase with he | he
 all_goals
  go_enter Tryz.func25, Tryz.ntmps25
  go_wp2_with fail
  refine (unhide HW).mono ?_
  rintro e w1 ⟨g, c, rfl, hown, hb1⟩
  have hro := (unhide HEN).below hb1 (by omega)
  obtain ⟨c0, c1⟩ := hro.cells
  have HB1 : Hid (Below w.heap.size w w1) := hide (((Below.refl _ w).alloc (Nat.le_refl _) _).trans (hb1.mono (by omega)))
  dsimp only at c0 c1
  clear hro hown hb1 HW HEN
  go_wp2_with (first | (go_at_call 38; refine (unhide HH _).mono ?_; rintro e w2 ⟨rfl, hw2⟩; subst hw2) | (go_at_call 52; refine (unhide HNM _).mono ?_; rintro e w2 ⟨rfl, hw2⟩; subst hw2))
  go_ret2
  exact ⟨none, 0, rfl, bs_nil _, unhide HB1, Fr.nil _⟩
set_option maxRecDepth 100000 in
set_option maxHeartbeats 2000000 in
theorem rPR_yes (b : Option Addr) (cap : Nat) (L : List Int) (i : Nat) (s : ByteArray) (h : Int) (w : World) (hbs : Bs w b cap L) (hl : 288 <= L.length) (hl2 : L.length <= 6400) (hi : i <= 7) (hh : hndB h = true) (hn : NameOk s) :
  Calls Tryz.prog 25 #[.slice b L.length cap, .int .i64 i, .agg #[.string s, .int .i64 h]] w (EndsF w (splice L (200 + 11 * i) (rowR (s, h))) (.int .i64 0)) := by
 have HW := hide (rPR_wiped b cap L i s h w hbs hl hl2 hi)
 have HEN := hide (RoB.new w (s, h))
 have HH := hide (fun W => rHandle_any h W)
 have HNM := hide (fun W => rName_yes s W hn)
 have hh1 := hndB_iff.1 hh
 have hne : ¬ h = 0 := by omega
 have he : s.toList.isEmpty = false := empty_no s hn.1
 have hs8 := hn.2.1
 have HROW := hide (nmK_row L (200 + 11 * i) s h (by omega) hn hh1.1 hh1.2)
 have HBY := hide (byt_splice (z := L) (off := 200 + 11 * i) hbs.1 (byt_rowR (s, h)))
 have hXl : (splice L (200 + 11 * i) (zerosB 11)).length = L.length := length_splice (by rw [length_zerosB]; omega)
 rw [hh] at HH
 have g1 : ¬ (i : Int) < 0 := by omega
 have g2 : ¬ (7 : Int) < i := by omega
 clear hbs hh hn
 generalize splice L (200 + 11 * i) (zerosB 11) = X at *
 generalize splice L (200 + 11 * i) (rowR (s, h)) = Y at *
 go_enter Tryz.func25, Tryz.ntmps25
 go_wp2_with fail
 refine (unhide HW).mono ?_
 rintro e w1 ⟨g, c, rfl, hown, hb1⟩
 have hro := (unhide HEN).below hb1 (by omega)
 obtain ⟨c0, c1⟩ := hro.cells
 have HRO := hide hro
 have HO := hide hown
 have hgb := hown.base
 have HB1 := hide hb1
 have hs1 := hb1.size
 rw [sz_alloc] at hs1
 dsimp only at c0 c1
 clear hro hown hb1 HW
 go_wp2_with (first | (go_at_call 38; refine (unhide HH _).mono ?_; rintro e w2 ⟨rfl, hw2⟩; subst hw2) | (go_at_call 52; refine (unhide HNM _).mono ?_; rintro e w2 ⟨rfl, hw2⟩; subst hw2))
 go_loopw [11] (fun v wr => ∃ k : Nat, k <= s.size /\ v = .int .i64 k /\ Own wr (w.heap.size + 1) g c (nmK X (200 + 11 * i) s k) /\ Below (w.heap.size + 1) w1 wr) (fun v _ => s.size - (intOf v).toNat)
 case atStart => exact ⟨0, Nat.zero_le _, rfl, unhide HO, Below.refl _ _⟩
 case round =>
  obtain ⟨k, hk, rfl, hown, hbel⟩ := hrel
  have hro := (unhide HRO).below hbel (by omega)
  clear c0 c1
  obtain ⟨c0, c1⟩ := hro.cells
  dsimp only at c0 c1
  have hglt : w.heap.size < g := by omega
  by_cases hlt : k < s.size
  ·have hcl := hown.cell (200 + 11 * i + k) (by rw [length_nmK]; omega)
   have hfz := hown.frozen (200 + 11 * i + k)
   have HO2 : Hid (Own (wr.setCell ⟨g, 200 + 11 * i + k, none⟩ (.int .u8 (s[k].toNat : Int))) (w.heap.size + 1) g c (nmK X (200 + 11 * i) s (k + 1))) := hide (by
    have := hown.set (200 + 11 * i + k) ((strL s).getD k 0)
    rw [strL_getD s k hlt] at this
    unfold nmK
    rw [strL_getD s k hlt]
    exact this)
   have HB2 : Hid (Below (w.heap.size + 1) w1 (wr.setCell ⟨g, 200 + 11 * i + k, none⟩ (.int .u8 (s[k].toNat : Int)))) := hide (hbel.setCell hgb _)
   clear hown hbel HO HB1 hro HRO HROW HBY
   generalize (nmK X (200 + 11 * i) s k).getD (200 + 11 * i + k) 0 = x0 at *
   go_wp2
   go_roundw
   case rel => exact ⟨k + 1, by omega, by go_num, unhide HO2, unhide HB2⟩
   case measure => simp [intOf]; omega
  ·obtain rfl : k = s.size := by omega
   have hcl := hown.cell (200 + 11 * i + 10) (by rw [length_nmK]; omega)
   have hfz := hown.frozen (200 + 11 * i + 10)
   have e210 : 200 + 11 * i + 10 = 210 + 11 * i := by omega
   have HO2 := hide (hown.set (200 + 11 * i + 10) h)
   rw [unhide HROW, e210] at HO2
   rw [e210] at hcl hfz
   have HYL : Hid (Y.length = L.length) := hide (by rw [<- unhide HROW, List.length_set, length_nmK, hXl])
   have HB2 : Hid (Below (w.heap.size + 1) w1 (wr.setCell ⟨g, 210 + 11 * i, none⟩ (.int .u8 h))) := hide (hbel.setCell hgb _)
   clear hown hbel HO hro HRO HROW e210
   generalize (nmK X (200 + 11 * i) s s.size).getD (210 + 11 * i) 0 = x0 at *
   go_wp2
   go_ret2
   refine ⟨some ⟨g, 0, none⟩, c, by rw [unhide HYL]; rfl, (unhide HO2).bs (unhide HBY) (by rw [unhide HYL]; omega), ?_, Fr.at (by omega)⟩
   exact ((Below.refl _ w).alloc (Nat.le_refl _) _).trans ((unhide HB1).mono (by omega)) |>.trans ((unhide HB2).mono (by omega))
theorem rPutRootF_any (b : Option Addr) (cap : Nat) (L : List Int) (i : Int) (r : (ByteArray × Int)) (w : World) (hbs : Bs w b cap L) (hq : lenB L.length = true) (hs : r.1.size <= 140737488351232) :
  Calls Tryz.prog 25 #[.slice b L.length cap, .int .i64 i, rootV r] w (EndsF w (prL L i r) (.int .i64 (prE L i r))) := by
 obtain ⟨s, h⟩ := r
 have hl := lenB_iff.1 hq
 dsimp only at hs
 unfold rootV
 dsimp only
 by_cases hi : i < 0 \/ 7 < i
 ·have e : prE L i (s, h) = 1 := by unfold prE; rw [if_neg (by rw [hq]; simp), if_pos hi]
  have e2 : prL L i (s, h) = [] := by unfold prL; rw [e, if_neg (by decide)]
  rw [e, e2]
  exact rPR_range b L.length cap i s h w hi
 ·have e : prE L i (s, h) = rowRE (s, h) := by unfold prE; rw [if_neg (by rw [hq]; simp), if_neg hi]
  obtain ⟨I, rfl⟩ := Int.eq_ofNat_of_zero_le (show 0 <= i by omega)
  unfold prL
  rw [e, Int.toNat_natCast]
  by_cases h0 : noRoot (s, h) = true
  ·have e1 : rowRE (s, h) = 0 := by unfold rowRE; rw [if_pos h0]
   have e2 : rowR (s, h) = zerosB 11 := by unfold rowR; rw [if_pos h0]
   rw [e1, if_pos rfl, e2]
   have := noRoot_iff.1 h0
   exact rPR_none b cap L I s h w hbs (by omega) (by omega) (by omega) this.1 this.2
  ·have h0' : ¬ (s.size = 0 /\ h = 0) := fun h => h0 (noRoot_iff.2 h)
   cases hh : hndB h with
   | false =>
    have e1 : rowRE (s, h) = 1 := by unfold rowRE; rw [if_neg h0, if_pos hh]
    rw [e1, if_neg (by decide)]
    exact rPR_hand b cap L I s h w hbs (by omega) (by omega) (by omega) h0' hh
   | true =>
    by_cases hn : nameB s = true
    ·have e1 : rowRE (s, h) = 0 := by unfold rowRE; rw [if_neg h0, if_neg (by dsimp only; rw [hh]; simp), if_pos hn]
     rw [e1, if_pos rfl]
     exact rPR_yes b cap L I s h w hbs (by omega) (by omega) (by omega) hh (nameB_iff.1 hn)
    ·have e1 : rowRE (s, h) = 2 := by unfold rowRE; rw [if_neg h0, if_neg (by dsimp only; rw [hh]; simp), if_neg hn]
     rw [e1, if_neg (by decide)]
     exact rPR_name b cap L I s h w hbs (by omega) (by omega) (by omega) hs hh (fun h => hn (nameB_iff.2 h))
theorem rPutRoot_any (b : Option Addr) (cap : Nat) (L : List Int) (i : Int) (r : (ByteArray × Int)) (w : World) (hbs : Bs w b cap L) (hq : lenB L.length = true) (hs : r.1.size <= 140737488351232) :
  Calls Tryz.prog 25 #[.slice b L.length cap, .int .i64 i, rootV r] w (Ends w (prL L i r) (.int .i64 (prE L i r))) := (rPutRootF_any b cap L i r w hbs hq hs).mono fun e w' h => h.ends
theorem Own.low {w : World} {B B' g c : Nat} {l : List Int} (h : Own w B' g c l) (hB : B <= B') : Own w B g c l := by
 refine ⟨h.1, ?_⟩
 rcases h.2 with h0 | ⟨g, cap, cur, hv, hb, h3⟩
 ·exact .inl h0
 ·exact .inr ⟨g, cap, cur, hv, Nat.le_trans hB hb, h3⟩
set_option maxHeartbeats 2000000 in
theorem rPE_own (b : Option Addr) (cap : Nat) (L : List Int) (x a l t : Int) (w : World) (hbs : Bs w b cap L) (h0 : putE L (x, a, l, t) = 0) :
  Calls Tryz.prog 21 #[.slice b L.length cap, .agg #[.int .i64 x, .int .i64 a, .int .i64 l, .int .i64 t]] w fun e w' => ∃ g c, e = .returned (.tuple #[.slice (some ⟨g, 0, none⟩) L.length c, .int .i64 0]) /\ Own w' w.heap.size g c (putL L (x, a, l, t)) /\ Below w.heap.size w w' := by
 have hL : putL L (x, a, l, t) = splice L (plc x) (rowE (x, a, l, t)) := by unfold putL; rw [if_pos h0]
 obtain ⟨z0, h1, z2⟩ := putE_zero.1 h0
 dsimp only at h1 z2
 have hlen := lenB_iff.1 z0
 obtain ⟨t1, t2, t3, t4, t7, t8⟩ := z2
 rw [hL]
 have HH := hide (fun W => rHandle_any x W)
 have hx := hndB_iff.1 h1
 have hp := plc_le hx.1 hx.2
 have hpe : ((plc x : Nat) : Int) = 5 * (x - 1) := by unfold plc; omega
 rw [h1] at HH
 obtain ⟨t5, t6⟩ := hlen
 have g1 : ¬ t < 0 := by omega
 have g2 : ¬ 15 < t := by omega
 have g3 : ¬ l < 1 := by omega
 have g4 : ¬ 1000 < l := by omega
 have g5 : ¬ a < 288 := by omega
 have g6 : ¬ (L.length : Int) < a := by omega
 have g7 : ¬ (L.length : Int) - a < l := by omega
 have HF := hide (putK_rowE L (plc x) x a l t (by omega))
 have l1 : (putK L (plc x) (t + 1) 1).length = L.length := length_putK _ _ _ _
 have l2 : (putK (putK L (plc x) (t + 1) 1) (plc x + 1) a 2).length = L.length := by rw [length_putK, l1]
 have l3 : (putK (putK (putK L (plc x) (t + 1) 1) (plc x + 1) a 2) (plc x + 3) l 2).length = L.length := by rw [length_putK, l2]
 have m1 : most (1 : Int) = 255 := rfl
 have m2 : most (2 : Int) = 65535 := rfl
 have o1 : putOut L (5 * (x - 1)) (t + 1) 1 = (putK L (plc x) (t + 1) 1, 0) := by
  rw [putOut_ok (by omega) (by omega) (by omega), <- hpe]; rfl
 have o2 : putOut (putK L (plc x) (t + 1) 1) (5 * (x - 1) + 1) a 2 = (putK (putK L (plc x) (t + 1) 1) (plc x + 1) a 2, 0) := by
  rw [putOut_ok (by omega) (by omega) (by omega), <- hpe]; rfl
 have HP1 := hide (fun (W : World) (hW : Bs W b cap L) => rPut_any b cap L (5 * (x - 1)) (t + 1) 1 W hW (by omega))
 have HP2 := hide (fun (W : World) (q : Option Addr) (c : Nat) (hW : Bs W q c (putK L (plc x) (t + 1) 1)) => rPut_any q c (putK L (plc x) (t + 1) 1) (5 * (x - 1) + 1) a 2 W hW (by omega))
 have h256 : (256 : Int) ^ 2 = 65536 := rfl
 have HP3 : Hid (∀ (W : World) (q : Option Addr) (c : Nat), Bs W q c (putK (putK L (plc x) (t + 1) 1) (plc x + 1) a 2) -> Calls Tryz.prog 50 #[.slice q (putK (putK L (plc x) (t + 1) 1) (plc x + 1) a 2).length c, .int .i64 (5 * (x - 1) + 3), .int .i64 l, .int .i64 2] W fun e w' => ∃ g c', e = .returned (.tuple #[.slice (some ⟨g, 0, none⟩) (putK (putK L (plc x) (t + 1) 1) (plc x + 1) a 2).length c', .int .i64 0]) /\ Own w' W.heap.size g c' (putK (putK (putK L (plc x) (t + 1) 1) (plc x + 1) a 2) (plc x + 3) l 2) /\ Below W.heap.size W w') := hide (fun W q c hW => rPut_nat q c _ (5 * (x - 1) + 3) l 2 W hW (by omega) (by omega) (by omega) (plc x + 3) (by omega) (by omega) (by omega) (by omega))
 rw [o1] at HP1
 rw [o2, l1] at HP2
 rw [l2] at HP3
 have HBS := hide hbs
 have HEN := hide (EnB.new w (x, a, l, t))
 have HB0 : Hid (Below w.heap.size w (w.alloc (.cells #[.int .i64 x, .int .i64 a, .int .i64 l, .int .i64 t] 60))) := hide ((Below.refl _ _).alloc (Nat.le_refl _) _)
 clear h1 hbs o1 o2 hpe h0 z0 hL h256
 rw [<- unhide HF]
 clear l3 HF
 generalize putK L (plc x) (t + 1) 1 = L1 at *
 generalize putK L1 (plc x + 1) a 2 = L2 at *
 generalize putK L2 (plc x + 3) l 2 = L3 at *
 dsimp only at HP1 HP2 HP3
 go_enter Tryz.func21, Tryz.ntmps21
 go_wp2_with (go_at_call 38; refine (unhide HH _).mono ?_; rintro e w1 ⟨rfl, rfl⟩)
 refine (unhide HP1 _ ((unhide HBS).below (unhide HB0))).mono ?_
 rintro e w1 ⟨a1, c1, rfl, hb1, hbl1⟩
 have hen1 := (unhide HEN).below hbl1 (by simp)
 obtain ⟨d0, d1, d2, d3⟩ := hen1.cells
 have HB1 := hide ((unhide HB0).trans (hbl1.mono (unhide HB0).size))
 have HEN1 := hide hen1
 have HP2' := hide (unhide HP2 w1 a1 c1 hb1)
 rw [l1]
 clear hb1 hbl1 hen1 HP1 HP2 HB0 HEN HBS
 go_wp2_with fail
 refine (unhide HP2').mono ?_
 rintro e w2 ⟨a2, c2, rfl, hb2, hbl2⟩
 have hen2 := (unhide HEN1).below hbl2 (unhide HEN1).lt
 clear d0 d1 d2 d3
 obtain ⟨d0, d1, d2, d3⟩ := hen2.cells
 have HB2 := hide ((unhide HB1).trans (hbl2.mono (unhide HB1).size))
 have HP3' := hide (unhide HP3 w2 a2 c2 hb2)
 rw [l2]
 clear hb2 hbl2 hen2 HP2' HP3 HB1 HEN1
 go_wp2_with fail
 refine (unhide HP3').mono ?_
 rintro e w3 ⟨g3, c3, rfl, hb3, hbl3⟩
 have HB3 := hide ((unhide HB2).trans (hbl3.mono (unhide HB2).size))
 have HBS3 := hide (hb3.low (unhide HB2).size)
 clear hb3 hbl3 HP3' HB2 d0 d1 d2 d3
 go_wp2
 go_ret2
 exact ⟨g3, c3, rfl, unhide HBS3, unhide HB3⟩
end Go.Proofs.YtifmemombecoaaaGreatDoor
