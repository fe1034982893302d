/-
  Contracts of package image: Put. (Part of the proofs over package image.)
-/
import Derived.Test.YtllpeknpplpgeaaGreatDoorImD
import Derived.Test.YtllpeknpplpgeaaGreatDoorImK
namespace Go.Proofs.YtllpeknpplpgeaaGreatDoor
open Go.RowKit
set_option linter.unusedVariables false

theorem iPut_no (b : Option Addr) (cap : Nat) (L : List Int) (e : (Int × Int × Int × Int)) (w : World) (hbs : Bs w b cap L) (h0 : putE L e ≠ 0) (ha : -9223372036854775808 ≤ e.2.1 ∧ e.2.1 ≤ 9223372036854775807) :
    Calls Tryz.prog 42 #[.slice b L.length cap, entV e] w (Ends w [] (errV (putE L e))) := by
  obtain ⟨x, a, l, t⟩ := e
  have hl := hbs.2.2.1
  have HC := hide (ckEnt_any L (x, a, l, t) (w.alloc (.cells #[.int .i64 x, .int .i64 a, .int .i64 l, .int .i64 t] 47)) hl ha)
  rw [errV_pos _ h0] at HC ⊢
  unfold entV at HC ⊢
  dsimp only at HC ⊢
  clear h0 hbs ha
  generalize putE L (x, a, l, t) = c at *
  go_enter Tryz.func42, Tryz.ntmps42
  go_wp2_with fail
  refine (unhide HC).mono ?_
  rintro e w1 ⟨rfl, hb1⟩
  have HB1 := hide hb1
  clear hb1
  go_wp2
  go_ret2
  exact ⟨none, 0, rfl, bs_nil _, ((Below.refl _ w).alloc (Nat.le_refl _) _).trans ((unhide HB1).mono (by simp))⟩

set_option maxHeartbeats 1000000 in
theorem iPut_yes (b : Option Addr) (cap : Nat) (L : List Int) (x a l t : Int) (w : World) (hbs : Bs w b cap L) (h0 : putE L (x, a, l, t) = 0) :
    Calls Tryz.prog 42 #[.slice b L.length cap, .agg #[.int .i64 x, .int .i64 a, .int .i64 l, .int .i64 t]] w (Ends w (splice L (plc x) (rowE (x, a, l, t))) .nilIface) := by
  obtain ⟨q1, q2, q3⟩ := putE_zero.1 h0
  dsimp only at q2 q3
  have hlen := lenB_iff.1 q1
  have hx := hndB_iff.1 q2
  have hp := plc_le hx.1 hx.2
  have HC := hide (ckEnt_any L (x, a, l, t) (w.alloc (.cells #[.int .i64 x, .int .i64 a, .int .i64 l, .int .i64 t] 47)) hbs.2.2.1 (by dsimp only; omega))
  rw [h0, errV_zero] at HC
  unfold entV at HC
  dsimp only at HC
  have HE := hide (fun W => entryRow_any x a l t W ⟨q3.1, q3.2.1⟩ (by omega) (by omega))
  have HP := hide (fun W => entryAt_any x W hx.1 hx.2)
  have hrl : (rowE (x, a, l, t)).length = 5 := rfl
  have HW := hide (fun (W : World) (g : Nat) (h5 : Bs W b cap L) (h6 : Bs W (some ⟨g, 0, none⟩) 5 (rowE (x, a, l, t))) => with_any b cap L (plc x) (some ⟨g, 0, none⟩) 5 (rowE (x, a, l, t)) W h5 h6 (by intro e; cases e) (by omega))
  rw [hrl] at HW
  have HN := hide (EnB.new w (x, a, l, t))
  have HLEN := hide (length_splice (z := L) (l := rowE (x, a, l, t)) (off := plc x) (by omega))
  have HBS := hide hbs
  have hb3 := hbs.2.2.1
  clear h0 q1 q2 q3 hbs hrl
  generalize rowE (x, a, l, t) = R at *
  go_enter Tryz.func42, Tryz.ntmps42
  go_wp2_with fail
  refine (unhide HC).mono ?_
  rintro e w1 ⟨rfl, hb1⟩
  have hB1 : Below w.heap.size w w1 := ((Below.refl _ w).alloc (Nat.le_refl _) _).trans (hb1.mono (by simp))
  have hen1 := (unhide HN).below hb1 (by simp)
  obtain ⟨c0, c1, c2, c3⟩ := hen1.cells
  have HEN1 := hide hen1
  have HB1 := hide hB1
  clear hb1 hB1 hen1 HC HN
  go_wp2_with fail
  refine (unhide HE _).mono ?_
  rintro e w2 ⟨g, rfl, hbr, hb2⟩
  have hen2 := (unhide HEN1).below hb2 (unhide HEN1).lt
  obtain ⟨d0, d1, d2, d3⟩ := hen2.cells
  have HB2 := hide ((unhide HB1).trans (hb2.mono (unhide HB1).size))
  have HW2 := hide (unhide HW w2 g ((unhide HBS).below (unhide HB2)) hbr)
  clear hb2 hen2 hbr HEN1 HB1 HW HE c0 c1 c2 c3
  go_wp2_with fail
  refine (unhide HP _).mono ?_
  rintro e w3 ⟨rfl, hw3⟩
  subst hw3
  go_wp2_with fail
  refine (unhide HW2).mono ?_
  rintro e w4 ⟨a4, c4, rfl, hbs4, hb4⟩
  have HB4 := hide ((unhide HB2).trans (hb4.mono (unhide HB2).size))
  have HBS4 := hide hbs4
  clear hbs4 hb4 HB2 HW2 d0 d1 d2 d3
  go_wp2
  go_ret2
  exact ⟨a4, c4, by rw [unhide HLEN]; rfl, unhide HBS4, unhide HB4⟩

theorem iPut_any (b : Option Addr) (cap : Nat) (L : List Int) (e : (Int × Int × Int × Int)) (w : World) (hbs : Bs w b cap L) (ha : -9223372036854775808 ≤ e.2.1 ∧ e.2.1 ≤ 9223372036854775807) :
    Calls Tryz.prog 42 #[.slice b L.length cap, entV e] w (Ends w (putL L e) (errV (putE L e))) := by
  by_cases h0 : putE L e = 0
  · have hL : putL L e = splice L (plc e.1) (rowE e) := by unfold putL; rw [if_pos h0]
    rw [hL, h0, errV_zero]
    exact iPut_yes b cap L e.1 e.2.1 e.2.2.1 e.2.2.2 w hbs h0
  · have hL : putL L e = [] := by unfold putL; rw [if_neg h0]
    rw [hL]
    exact iPut_no b cap L e w hbs h0 ha
end Go.Proofs.YtllpeknpplpgeaaGreatDoor
