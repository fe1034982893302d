/-
  Contracts of the reference: an image with an entry; bytes that are wiped. (Part of the proofs over package image.)
-/
import Derived.Test.YtcppejlcjooliaaGreatIrA
import Derived.Test.YtcppejlcjooliaaGreatImE
namespace Go.Proofs.YtcppejlcjooliaaGreat
open Go.RowKit
set_option linter.unusedVariables false

theorem rCopied_any (a : Option Addr) (cap : Nat) (l : List Int) (w : World) (hb : Bs w a cap l) (hne : l ≠ []) :
    Calls Tryz.prog 51 #[.slice a l.length cap] w fun e w' => ∃ g c, e = .returned (.slice (some ⟨g, 0, none⟩) l.length c) ∧ Own w' w.heap.size g c l ∧ Below w.heap.size w w' := by
  obtain ⟨i0, hi, hz0, hz1, hz2⟩ := info_parts info_u8
  have HB := hide hb
  clear hb
  go_enter Tryz.func51, Tryz.ntmps51
  go_wp2_with (at_builtin; refine wpList_append_new rfl _ _ 22 rfl i0 Tryz.underlying22 hi hz0 hz1 hz2 _ _ l rfl rfl (unhide HB) hne ?_)
  intro g c w1 hown hbel
  go_wp2
  go_ret
  exact ⟨g, c, rfl, hown, hbel⟩

/-- Bytes of which so many from a place on are 0. -/
def wipeK (l : List Int) (p : Nat) : Nat → List Int
  | 0 => l
  | k + 1 => (wipeK l p k).set (p + k) 0
theorem length_wipeK (l : List Int) (p k : Nat) : (wipeK l p k).length = l.length := by
  induction k with
  | zero => rfl
  | succ k ih => simp [wipeK, ih]
theorem wipeK_in (l : List Int) (p : Nat) : ∀ k j, j < k → p + k ≤ l.length → (wipeK l p k).getD (p + j) 0 = 0 := by
  intro k
  induction k with
  | zero => intro j hj; omega
  | succ k ih =>
    intro j hj hk
    have hlen := length_wipeK l p k
    by_cases h : j = k
    · subst h
      simp only [wipeK, List.getD]
      rw [List.getElem?_set_self (by omega)]
      rfl
    · have h1 := ih j (by omega) (by omega)
      simp only [wipeK, List.getD]
      rw [List.getElem?_set_ne (by omega)]
      exact h1
theorem wipeK_out (l : List Int) (p : Nat) : ∀ k j, (j < p ∨ p + k ≤ j) → (wipeK l p k).getD j 0 = l.getD j 0 := by
  intro k
  induction k with
  | zero => intro j _; rfl
  | succ k ih =>
    intro j hj
    rw [← ih j (by omega)]
    simp [wipeK, List.getD]
    rw [List.getElem?_set_ne (by omega)]
theorem zerosB_getD (n j : Nat) : (zerosB n).getD j 0 = 0 := by
  have := zeros_getD n 0 j
  rwa [List.drop_zero] at this
theorem wipeK_splice (l : List Int) (p n : Nat) (h : p + n ≤ l.length) : wipeK l p n = splice l p (zerosB n) := by
  have hz := length_zerosB n
  have hs := length_splice (z := l) (l := zerosB n) (off := p) (by omega)
  apply ext_getD
  · rw [length_wipeK, hs]
  · intro j hj
    rw [length_wipeK] at hj
    by_cases h1 : j < p ∨ p + n ≤ j
    · rw [wipeK_out l p n j h1, splice_out (by omega) (by omega)]
    · obtain ⟨i, rfl⟩ : ∃ i, j = p + i := ⟨j - p, by omega⟩
      rw [wipeK_in l p n i (by omega) h, splice_in (by omega) (by omega), zerosB_getD]

set_option maxHeartbeats 1000000 in
theorem rWipe_any (a : Option Addr) (cap : Nat) (l : List Int) (p n : Nat) (w : World) (hb : Bs w a cap l) (hfit : p + n ≤ l.length) (hl : l.length ≤ 6400) (h0 : 0 < l.length) :
    Calls Tryz.prog 35 #[.slice a l.length cap, .int .i64 p, .int .i64 n] w fun e w' => ∃ g c, e = .returned (.slice (some ⟨g, 0, none⟩) l.length c) ∧ Own w' w.heap.size g c (splice l p (zerosB n)) ∧ Below w.heap.size w w' := by
  rw [← wipeK_splice l p n hfit]
  have HC := hide (rCopied_any a cap l w hb (by intro e; rw [e] at h0; simp at h0))
  clear hb
  go_enter Tryz.func35, Tryz.ntmps35
  go_wp2_with fail
  refine (unhide HC).mono ?_
  rintro e w1 ⟨g, c, rfl, hown, hbel⟩
  have HO := hide hown
  have HB := hide hbel
  have hgb := hown.base
  clear hown hbel HC
  go_wp2_with fail
  go_loopw [8] (fun v wr => ∃ k : Nat, k ≤ n ∧ v = .int .i64 k ∧ Own wr w.heap.size g c (wipeK l p k) ∧ Below w.heap.size w wr) (fun v _ => n - (intOf v).toNat)
  case atStart => exact ⟨0, Nat.zero_le _, rfl, unhide HO, unhide HB⟩
  case round =>
    obtain ⟨k, hk, rfl, hown, hbel⟩ := hrel
    by_cases hlt : k < n
    · have hcl := hown.cell (p + k) (by rw [length_wipeK]; omega)
      have hfz := hown.frozen (p + k)
      have HO2 := hide (hown.set (p + k) 0)
      have HB2 := hide (hbel.setCell (p := ⟨g, p + k, none⟩) hgb (.int .u8 0))
      clear hown hbel HO HB
      generalize (wipeK l p k).getD (p + k) 0 = x at *
      go_wp2
      go_roundw
      case rel => exact ⟨k + 1, by omega, by go_num, unhide HO2, unhide HB2⟩
      case measure => simp [intOf]; omega
    · obtain rfl : k = n := by omega
      have HO2 := hide hown
      have HB2 := hide hbel
      clear hown hbel HO HB
      go_wp2
      go_ret
      exact ⟨g, c, rfl, unhide HO2, unhide HB2⟩

/-! ### an image with an entry -/
theorem putK_rowE (L : List Int) (p : Nat) (x a l t : Int) (h : p + 5 ≤ L.length) : putK (putK (putK L p (t + 1) 1) (p + 1) a 2) (p + 3) l 2 = splice L p (rowE (x, a, l, t)) := by
  have hr : (rowE (x, a, l, t)).length = 5 := rfl
  have hs := length_splice (z := L) (l := rowE (x, a, l, t)) (off := p) (by omega)
  have l1 : (putK L p (t + 1) 1).length = L.length := length_putK _ _ _ _
  have l2 : (putK (putK L p (t + 1) 1) (p + 1) a 2).length = L.length := by rw [length_putK, l1]
  apply ext_getD
  · rw [length_putK, l2, hs]
  · intro j hj
    rw [length_putK, l2] at hj
    by_cases h1 : j < p ∨ p + 5 ≤ j
    · rw [putK_out _ _ _ _ _ (by omega), putK_out _ _ _ _ _ (by omega), putK_out _ _ _ _ _ (by omega), splice_out (by omega) (by omega)]
    · rcases (show j = p ∨ j = p + 1 ∨ j = p + 2 ∨ j = p + 3 ∨ j = p + 4 by omega) with rfl | rfl | rfl | rfl | rfl
      · have := putK_in L j (t + 1) 1 0 (by omega) (by omega)
        rw [putK_out _ _ _ _ _ (by omega), putK_out _ _ _ _ _ (by omega)]
        rw [Nat.add_zero] at this
        rw [this]
        have e := splice_in (z := L) (l := rowE (x, a, l, t)) (off := j) (j := 0) (by omega) (by omega)
        rw [Nat.add_zero] at e
        rw [e]
        simp [rowE]
      · have := putK_in (putK L p (t + 1) 1) (p + 1) a 2 0 (by omega) (by omega)
        rw [putK_out _ _ _ _ _ (by omega)]
        rw [Nat.add_zero] at this
        rw [this, splice_in (by omega) (by omega)]
        simp [rowE]
      · have := putK_in (putK L p (t + 1) 1) (p + 1) a 2 1 (by omega) (by omega)
        rw [putK_out _ _ _ _ _ (by omega)]
        rw [show p + 1 + 1 = p + 2 by omega] at this
        rw [this, splice_in (by omega) (by omega)]
        simp [rowE]
      · have := putK_in (putK (putK L p (t + 1) 1) (p + 1) a 2) (p + 3) l 2 0 (by omega) (by omega)
        rw [Nat.add_zero] at this
        rw [this, splice_in (by omega) (by omega)]
        simp [rowE]
      · have := putK_in (putK (putK L p (t + 1) 1) (p + 1) a 2) (p + 3) l 2 1 (by omega) (by omega)
        rw [show p + 3 + 1 = p + 4 by omega] at this
        rw [this, splice_in (by omega) (by omega)]
        simp [rowE]

theorem rPE_range (b : Option Addr) (len cap : Nat) (x a l t : Int) (w : World) (hr : hndB x = false ∨ (hndB x = true ∧ t < 0) ∨ (hndB x = true ∧ ¬ t < 0 ∧ 15 < t) ∨ (hndB x = true ∧ ¬ t < 0 ∧ ¬ 15 < t ∧ l < 1) ∨ (hndB x = true ∧ ¬ t < 0 ∧ ¬ 15 < t ∧ ¬ l < 1 ∧ 1000 < l)) :
    Calls Tryz.prog 39 #[.slice b len cap, .agg #[.int .i64 x, .int .i64 a, .int .i64 l, .int .i64 t]] w (Ends w [] (.int .i64 1)) := by
  have HH := hide (fun W => rHandle_any x W)
  rcases hr with h1 | ⟨h1, h2⟩ | ⟨h1, h2, h3⟩ | ⟨h1, h2, h3, h4⟩ | ⟨h1, h2, h3, h4, h5⟩
  all_goals
    rw [h1] at HH
    clear h1
    go_enter Tryz.func39, Tryz.ntmps39
    go_wp2_with (go_at_call 42; refine (unhide HH _).mono ?_; rintro e w1 ⟨rfl, rfl⟩)
    go_ret2
    exact ⟨none, 0, rfl, bs_nil _, (Below.refl _ _).alloc (Nat.le_refl _) _⟩
set_option maxHeartbeats 2000000 in
theorem rPE_shape (b : Option Addr) (len cap : Nat) (x a l t : Int) (w : World) (hlen : 288 ≤ (len : Int) ∧ (len : Int) ≤ 6400) (h1 : hndB x = true) (h2 : 0 ≤ t ∧ t ≤ 15) (h3 : 1 ≤ l ∧ l ≤ 1000) (hr : a < 288 ∨ (¬ a < 288 ∧ (len : Int) < a) ∨ (¬ a < 288 ∧ ¬ (len : Int) < a ∧ (len : Int) - a < l)) :
    Calls Tryz.prog 39 #[.slice b len cap, .agg #[.int .i64 x, .int .i64 a, .int .i64 l, .int .i64 t]] w (Ends w [] (.int .i64 3)) := by
  have HH := hide (fun W => rHandle_any x W)
  rw [h1] at HH
  obtain ⟨t1, t2⟩ := h2
  obtain ⟨t3, t4⟩ := h3
  obtain ⟨t5, t6⟩ := hlen
  have g1 : ¬ t < 0 := by omega
  have g2 : ¬ 15 < t := by omega
  have g3 : ¬ l < 1 := by omega
  have g4 : ¬ 1000 < l := by omega
  clear h1
  rcases hr with q1 | ⟨q1, q2⟩ | ⟨q1, q2, q3⟩
  all_goals
    go_enter Tryz.func39, Tryz.ntmps39
    go_wp2_with (go_at_call 42; refine (unhide HH _).mono ?_; rintro e w1 ⟨rfl, rfl⟩)
    go_ret2
    exact ⟨none, 0, rfl, bs_nil _, (Below.refl _ _).alloc (Nat.le_refl _) _⟩
theorem putOut_ok {l : List Int} {p n s : Int} (h1 : 1 ≤ s ∧ s ≤ 4) (h2 : 0 ≤ n ∧ n ≤ most s) (h3 : 0 ≤ p ∧ p ≤ l.length - s) : putOut l p n s = (putK l p.toNat n s.toNat, 0) := by
  unfold putOut
  rw [if_neg (fun h => h.elim (fun h => h h1) (fun h => by omega)), if_neg (fun h => h h3)]
set_option maxHeartbeats 2000000 in
theorem rPE_yes (b : Option Addr) (cap : Nat) (L : List Int) (x a l t : Int) (w : World) (hbs : Bs w b cap L) (hlen : 288 ≤ (L.length : Int) ∧ (L.length : Int) ≤ 6400) (h1 : hndB x = true) (h2 : 0 ≤ t ∧ t ≤ 15) (h3 : 1 ≤ l ∧ l ≤ 1000) (h4 : 288 ≤ a ∧ l ≤ L.length - a) :
    Calls Tryz.prog 39 #[.slice b L.length cap, .agg #[.int .i64 x, .int .i64 a, .int .i64 l, .int .i64 t]] w (Ends w (splice L (plc x) (rowE (x, a, l, t))) (.int .i64 0)) := by
  have HH := hide (fun W => rHandle_any x W)
  have hx := hndB_iff.1 h1
  have hp := plc_le hx.1 hx.2
  have hpe : ((plc x : Nat) : Int) = 5 * (x - 1) := by unfold plc; omega
  rw [h1] at HH
  obtain ⟨t1, t2⟩ := h2
  obtain ⟨t3, t4⟩ := h3
  obtain ⟨t5, t6⟩ := hlen
  obtain ⟨t7, t8⟩ := h4
  have g1 : ¬ t < 0 := by omega
  have g2 : ¬ 15 < t := by omega
  have g3 : ¬ l < 1 := by omega
  have g4 : ¬ 1000 < l := by omega
  have g5 : ¬ a < 288 := by omega
  have g6 : ¬ (L.length : Int) < a := by omega
  have g7 : ¬ (L.length : Int) - a < l := by omega
  have HF := hide (putK_rowE L (plc x) x a l t (by omega))
  have l1 : (putK L (plc x) (t + 1) 1).length = L.length := length_putK _ _ _ _
  have l2 : (putK (putK L (plc x) (t + 1) 1) (plc x + 1) a 2).length = L.length := by rw [length_putK, l1]
  have l3 : (putK (putK (putK L (plc x) (t + 1) 1) (plc x + 1) a 2) (plc x + 3) l 2).length = L.length := by rw [length_putK, l2]
  have m1 : most (1 : Int) = 255 := rfl
  have m2 : most (2 : Int) = 65535 := rfl
  have o1 : putOut L (5 * (x - 1)) (t + 1) 1 = (putK L (plc x) (t + 1) 1, 0) := by
    rw [putOut_ok (by omega) (by omega) (by omega), ← hpe]; rfl
  have o2 : putOut (putK L (plc x) (t + 1) 1) (5 * (x - 1) + 1) a 2 = (putK (putK L (plc x) (t + 1) 1) (plc x + 1) a 2, 0) := by
    rw [putOut_ok (by omega) (by omega) (by omega), ← hpe]; rfl
  have o3 : putOut (putK (putK L (plc x) (t + 1) 1) (plc x + 1) a 2) (5 * (x - 1) + 3) l 2 = (putK (putK (putK L (plc x) (t + 1) 1) (plc x + 1) a 2) (plc x + 3) l 2, 0) := by
    rw [putOut_ok (by omega) (by omega) (by omega), ← hpe]; rfl
  have HP1 := hide (fun (W : World) (hW : Bs W b cap L) => rPut_any b cap L (5 * (x - 1)) (t + 1) 1 W hW (by omega))
  have HP2 := hide (fun (W : World) (q : Option Addr) (c : Nat) (hW : Bs W q c (putK L (plc x) (t + 1) 1)) => rPut_any q c (putK L (plc x) (t + 1) 1) (5 * (x - 1) + 1) a 2 W hW (by omega))
  have HP3 := hide (fun (W : World) (q : Option Addr) (c : Nat) (hW : Bs W q c (putK (putK L (plc x) (t + 1) 1) (plc x + 1) a 2)) => rPut_any q c (putK (putK L (plc x) (t + 1) 1) (plc x + 1) a 2) (5 * (x - 1) + 3) l 2 W hW (by omega))
  rw [o1] at HP1
  rw [o2, l1] at HP2
  rw [o3, l2] at HP3
  have HBS := hide hbs
  have HEN := hide (EnB.new w (x, a, l, t))
  have HB0 : Hid (Below w.heap.size w (w.alloc (.cells #[.int .i64 x, .int .i64 a, .int .i64 l, .int .i64 t] 56))) := hide ((Below.refl _ _).alloc (Nat.le_refl _) _)
  clear h1 hbs o1 o2 o3 hpe
  rw [← unhide HF]
  have HLL := hide l3
  clear l3 HF
  generalize putK L (plc x) (t + 1) 1 = L1 at *
  generalize putK L1 (plc x + 1) a 2 = L2 at *
  generalize putK L2 (plc x + 3) l 2 = L3 at *
  dsimp only at HP1 HP2 HP3
  go_enter Tryz.func39, Tryz.ntmps39
  go_wp2_with (go_at_call 42; refine (unhide HH _).mono ?_; rintro e w1 ⟨rfl, rfl⟩)
  refine (unhide HP1 _ ((unhide HBS).below (unhide HB0))).mono ?_
  rintro e w1 ⟨a1, c1, rfl, hb1, hbl1⟩
  have hen1 := (unhide HEN).below hbl1 (by simp)
  obtain ⟨d0, d1, d2, d3⟩ := hen1.cells
  have HB1 := hide ((unhide HB0).trans (hbl1.mono (unhide HB0).size))
  have HEN1 := hide hen1
  have HP2' := hide (unhide HP2 w1 a1 c1 hb1)
  rw [l1]
  clear hb1 hbl1 hen1 HP1 HP2 HB0 HEN HBS
  go_wp2_with fail
  refine (unhide HP2').mono ?_
  rintro e w2 ⟨a2, c2, rfl, hb2, hbl2⟩
  have hen2 := (unhide HEN1).below hbl2 (unhide HEN1).lt
  clear d0 d1 d2 d3
  obtain ⟨d0, d1, d2, d3⟩ := hen2.cells
  have HB2 := hide ((unhide HB1).trans (hbl2.mono (unhide HB1).size))
  have HP3' := hide (unhide HP3 w2 a2 c2 hb2)
  rw [l2]
  clear hb2 hbl2 hen2 HP2' HP3 HB1 HEN1
  go_wp2_with fail
  refine (unhide HP3').mono ?_
  rintro e w3 ⟨a3, c3, rfl, hb3, hbl3⟩
  have HB3 := hide ((unhide HB2).trans (hbl3.mono (unhide HB2).size))
  have HBS3 := hide hb3
  clear hb3 hbl3 HP3' HB2 d0 d1 d2 d3
  go_wp2
  go_ret2
  exact ⟨a3, c3, rfl, unhide HBS3, unhide HB3⟩
theorem rPutEntry_any (b : Option Addr) (cap : Nat) (L : List Int) (e : (Int × Int × Int × Int)) (w : World) (hbs : Bs w b cap L) (hq : lenB L.length = true) :
    Calls Tryz.prog 39 #[.slice b L.length cap, entV e] w (Ends w (putL L e) (.int .i64 (putE L e))) := by
  obtain ⟨x, a, l, t⟩ := e
  have hl := lenB_iff.1 hq
  unfold entV
  dsimp only
  have h1 : ¬ lenB L.length = false := by rw [hq]; simp
  by_cases h0 : putE L (x, a, l, t) = 0
  · have hL : putL L (x, a, l, t) = splice L (plc x) (rowE (x, a, l, t)) := by unfold putL; rw [if_pos h0]
    obtain ⟨_, h2, h3⟩ := putE_zero.1 h0
    dsimp only at h2 h3
    rw [hL, h0]
    exact rPE_yes b cap L x a l t w hbs hl h2 (by omega) (by omega) (by omega)
  · have hL : putL L (x, a, l, t) = [] := by unfold putL; rw [if_neg h0]
    rw [hL]
    by_cases h2 : hndB x = false ∨ t < 0 ∨ 15 < t ∨ l < 1 ∨ 1000 < l
    · have e : putE L (x, a, l, t) = 1 := by unfold putE; rw [if_neg h1, if_pos h2]
      rw [e]
      refine rPE_range b L.length cap x a l t w ?_
      cases e1 : hndB x with
      | false => exact .inl rfl
      | true =>
        rw [e1] at h2
        right
        have h2' : t < 0 ∨ 15 < t ∨ l < 1 ∨ 1000 < l := h2.elim (fun h => by cases h) id
        simp only [true_and]
        omega
    · have h2' : hndB x = true := by
        cases e : hndB x with
        | true => rfl
        | false => exact absurd (.inl e) h2
      have h3' : ¬ (t < 0 ∨ 15 < t ∨ l < 1 ∨ 1000 < l) := fun h => h2 (.inr h)
      by_cases h4 : a < 288 ∨ L.length - a < l
      · have e : putE L (x, a, l, t) = 3 := by unfold putE; rw [if_neg h1, if_neg h2, if_pos h4]
        rw [e]
        exact rPE_shape b L.length cap x a l t w hl h2' (by omega) (by omega) (by omega)
      · exact absurd (by unfold putE; rw [if_neg h1, if_neg h2, if_neg h4]) h0
end Go.Proofs.YtcppejlcjooliaaGreat
