/-
  The walk of ReachTells. (Part of the proof of ReachTells.)
-/
import Derived.Test.YtmkkiedohphpcaaGreatDoorJRh
import Derived.Test.YtmkkiedohphpcaaGreatDoorJWy
import Derived.Test.YtmkkiedohphpcaaGreatDoorJRc
import Derived.Test.YtmkkiedohphpcaaGreatDoorErrSame
namespace Go.Proofs.YtmkkiedohphpcaaGreatDoor
open Go.RowKit
set_option linter.unusedVariables false

theorem sls_nil (w : World) : Sls inC 1 w none 0 [] := ⟨Nat.le_refl _, fun _ => rfl, by simp, fun h => absurd rfl h⟩
theorem wy_len {L : List Int} (hf : Fine L) (x : Int) : (wyL L x).length ≤ 1000 := by
  by_cases hx : wyL L x = []
  · rw [hx]; simp
  · exact Nat.le_trans (way_len40 hf hx) (by decide)
set_option maxRecDepth 100000 in
set_option maxHeartbeats 4000000 in
theorem reTells_no (a : Option Addr) (cap : Nat) (l : List Int) (h : Int) (w : World) (hg : ErrT w) (hb : Bs w a cap l) (hc : chkE (ldL l) h ≠ 0) :
    Calls Tryz.prog 3 #[.slice a l.length cap, .int .i64 h] w fun e w' => e = .returned (.bool true) ∧ Below w.heap.size w w' := by
  have hf := ldL_fine l
  have HL := hide (loaded_any a cap l w hb)
  have hml := hf.len
  have hyn : wyL (ldL l) h = [] := Classical.byContradiction fun hn => hc (wyL_there hf hn)
  have hph : phE (ldL l) h = chkE (ldL l) h := by unfold phE; rw [if_pos hc]
  have hrf : rfL (ldL l) h = [] := by unfold rfL; rw [if_neg hc]
  have hcb : (chkE (ldL l) h == 0) = false := beq_eq_false_iff_ne.2 hc
  have HSH := hide (fun (W : World) (am : Option Addr) (cm : Nat) (hm : Bs W am cm (ldL l)) => sHandle_any am cm (ldL l) h W hm hf.len0)
  have HRF := hide (fun (W : World) (p g c : Nat) (hh : Hp W w.heap.size p g c (ldL l)) => rhRefs_any p g c w.heap.size (ldL l) h W hh)
  have HPA := hide (fun (W : World) (p g c : Nat) (hh : Hp W w.heap.size p g c (ldL l)) => rhPath_any hh h)
  have HLV := hide (fun (W : World) (p g c : Nat) (hh : Hp W w.heap.size p g c (ldL l)) => rhLive_any hh)
  have HDD := hide (fun (W : World) (p g c : Nat) (hh : Hp W w.heap.size p g c (ldL l)) => rhDead_any hh)
  have HSL := hide (fun (W : World) (am : Option Addr) (cm : Nat) (hm : Bs W am cm (ldL l)) => sLive_any am cm (ldL l) W hm hf)
  have HER := hide (fun (x : Int) (W : World) (hW : Below w.heap.size w W) => error_same x W (hg.below hW))
  have HSM := hide (fun (W : World) (a1 a2 : Option Addr) (c1 c2 : Nat) (x : List Int) (h1 : Sls inC 1 W a1 c1 x) (h2 : Sls inC 1 W a2 c2 x) => insame_any a1 a2 c1 c2 x W h1 h2)
  rw [hrf] at HRF
  have HE0 := hide (fun W hW => unhide HER (chkE (ldL l) h) W hW)
  rw [hph] at HPA
  rw [hyn] at HPA
  have HE1 := HE0
  generalize errV (chkE (ldL l) h) = FV at *
  have hll := lvK_len (ldL l)
  have hdl := ddK_len (ldL l) 40
  have hbl := hb.2.2.1
  clear hb hg hf hc hyn hph hrf HER
  generalize chkE (ldL l) h = E at *
  generalize lvK (ldL l) 40 = LV at *
  generalize ddK (ldL l) 40 = DD at *
  generalize ldL l = M at *
  generalize l.length = nl at *
  generalize hml2 : M.length = N at *
  clear hml2
  go_enter Tryz.func3, Tryz.ntmps3
  go_wp2_with fail
  refine (unhide HL).mono ?_
  rintro e w1 ⟨p, g, c, am, cm, rfl, hh1, hbm1, hb1⟩
  have HH := hide hh1
  have HM := hide hbm1
  have HB := hide hb1
  have HC1 := hide (unhide HSH w1 am cm hbm1)
  clear hh1 hbm1 hb1 HL HSH
  go_wp2_with fail
  refine (unhide HC1).mono ?_
  rintro e w2 ⟨rfl, hb2⟩
  have HH2 := hide ((unhide HH).below hb2)
  have HM2 := hide ((unhide HM).below hb2)
  have HB2 := hide ((unhide HB).trans (hb2.mono (unhide HB).size))
  have HC2 := hide (unhide HRF w2 p g c (unhide HH2))
  clear hb2 HC1 HH HM HB
  clear HRF
  go_wp2_with fail
  refine (unhide HC2).mono ?_
  rintro e w3 ⟨vl, rfl, hll1, hb3⟩
  have HH3 := hide ((unhide HH2).below hb3)
  have HM3 := hide ((unhide HM2).below hb3)
  have HB3 := hide ((unhide HB2).trans (hb3.mono (unhide HB2).size))
  obtain ⟨ax, cx, rfl, hsx⟩ := hll1.sls inC_len (by simp)
  have HLX := hide hsx
  have HC5 := hide (unhide HE0 w3 (unhide HB3))
  clear hb3 HC2 HH2 HM2 HB2
  clear hll1 hsx
  go_wp2_with fail
  refine (unhide HC5).mono ?_
  rintro e w4 ⟨rfl, hb4⟩
  have HH4 := hide ((unhide HH3).below hb4)
  have HM4 := hide ((unhide HM3).below hb4)
  have HB4 := hide ((unhide HB3).trans (hb4.mono (unhide HB3).size))
  have HLX4 := hide ((unhide HLX).below hb4)
  have HC6 := hide (unhide HPA w4 p g c (unhide HH4))
  clear hb4 HC5 HH3 HM3 HB3 HLX
  clear HPA
  go_wp2_with fail
  refine (unhide HC6).mono ?_
  rintro e w5 ⟨vp, rfl, hlp, hb5⟩
  have HH5 := hide ((unhide HH4).below hb5)
  have HM5 := hide ((unhide HM4).below hb5)
  have HB5 := hide ((unhide HB4).trans (hb5.mono (unhide HB4).size))
  have HLX5 := hide ((unhide HLX4).below hb5)
  obtain ⟨ap, cp, rfl, hsp⟩ := hlp.sls inC_len (by simp)
  have HPX := hide hsp
  have HC7 := hide (unhide HE1 w5 (unhide HB5))
  clear hb5 HC6 HH4 HM4 HB4 HLX4
  clear hlp hsp
  go_wp2_with fail
  refine (unhide HC7).mono ?_
  rintro e w6 ⟨rfl, hb6⟩
  have HH6 := hide ((unhide HH5).below hb6)
  have HM6 := hide ((unhide HM5).below hb6)
  have HB6 := hide ((unhide HB5).trans (hb6.mono (unhide HB5).size))
  have HLX6 := hide ((unhide HLX5).below hb6)
  have HPX6 := hide ((unhide HPX).below hb6)
  have HC8 := hide (unhide HSL w6 am cm (unhide HM6))
  clear hb6 HC7 HH5 HM5 HB5 HLX5 HPX
  clear HSL
  go_wp2_with fail
  refine (unhide HC8).mono ?_
  rintro e w7 ⟨v1, v2, rfl, hl1, hl2, hb7⟩
  have HH7 := hide ((unhide HH6).below hb7)
  have HM7 := hide ((unhide HM6).below hb7)
  have HB7 := hide ((unhide HB6).trans (hb7.mono (unhide HB6).size))
  have HLX7 := hide ((unhide HLX6).below hb7)
  have HPX7 := hide ((unhide HPX6).below hb7)
  obtain ⟨al, cl, rfl, hsl⟩ := hl1.sls inC_len (by omega)
  obtain ⟨ad, cd, rfl, hsd⟩ := hl2.sls inC_len (by omega)
  have HVL := hide hsl
  have HVD := hide hsd
  have HC9 := hide (unhide HSM w7 ax none cx 0 [] (unhide HLX7) (sls_nil _))
  clear hb7 HC8 HH6 HM6 HB6 HLX6 HPX6
  clear hl1 hl2 hsl hsd
  go_wp2_with fail
  refine (unhide HC9).mono ?_
  rintro e w8 ⟨rfl, hb8⟩
  have HH8 := hide ((unhide HH7).below hb8)
  have HM8 := hide ((unhide HM7).below hb8)
  have HB8 := hide ((unhide HB7).trans (hb8.mono (unhide HB7).size))
  have HLX8 := hide ((unhide HLX7).below hb8)
  have HPX8 := hide ((unhide HPX7).below hb8)
  have HVL8 := hide ((unhide HVL).below hb8)
  have HVD8 := hide ((unhide HVD).below hb8)
  have HC10 := hide (unhide HSM w8 ap none cp 0 [] (unhide HPX8) (sls_nil _))
  clear hb8 HC9 HH7 HM7 HB7 HLX7 HPX7 HVL HVD
  go_wp2_with fail
  refine (unhide HC10).mono ?_
  rintro e w9 ⟨rfl, hb9⟩
  have HH9 := hide ((unhide HH8).below hb9)
  have HM9 := hide ((unhide HM8).below hb9)
  have HB9 := hide ((unhide HB8).trans (hb9.mono (unhide HB8).size))
  have HLX9 := hide ((unhide HLX8).below hb9)
  have HPX9 := hide ((unhide HPX8).below hb9)
  have HVL9 := hide ((unhide HVL8).below hb9)
  have HVD9 := hide ((unhide HVD8).below hb9)
  have HC11 := hide (unhide HLV w9 p g c (unhide HH9))
  clear hb9 HC10 HH8 HM8 HB8 HLX8 HPX8 HVL8 HVD8
  clear HLV
  go_wp2_with fail
  refine (unhide HC11).mono ?_
  rintro e w10 ⟨vq, rfl, hlq, hb10⟩
  have HH10 := hide ((unhide HH9).below hb10)
  have HM10 := hide ((unhide HM9).below hb10)
  have HB10 := hide ((unhide HB9).trans (hb10.mono (unhide HB9).size))
  have HLX10 := hide ((unhide HLX9).below hb10)
  have HPX10 := hide ((unhide HPX9).below hb10)
  have HVL10 := hide ((unhide HVL9).below hb10)
  have HVD10 := hide ((unhide HVD9).below hb10)
  obtain ⟨aq, cq, rfl, hsq⟩ := hlq.sls inC_len (by omega)
  have HC12 := hide (unhide HSM w10 aq al cq cl LV hsq (unhide HVL10))
  clear hb10 HC11 HH9 HM9 HB9 HLX9 HPX9 HVL9 HVD9
  clear hlq hsq
  go_wp2_with fail
  refine (unhide HC12).mono ?_
  rintro e w11 ⟨rfl, hb11⟩
  have HH11 := hide ((unhide HH10).below hb11)
  have HM11 := hide ((unhide HM10).below hb11)
  have HB11 := hide ((unhide HB10).trans (hb11.mono (unhide HB10).size))
  have HLX11 := hide ((unhide HLX10).below hb11)
  have HPX11 := hide ((unhide HPX10).below hb11)
  have HVL11 := hide ((unhide HVL10).below hb11)
  have HVD11 := hide ((unhide HVD10).below hb11)
  have HC13 := hide (unhide HDD w11 p g c (unhide HH11))
  clear hb11 HC12 HH10 HM10 HB10 HLX10 HPX10 HVL10 HVD10
  clear HDD
  go_wp2_with fail
  refine (unhide HC13).mono ?_
  rintro e w12 ⟨vr, rfl, hlr, hb12⟩
  have HH12 := hide ((unhide HH11).below hb12)
  have HM12 := hide ((unhide HM11).below hb12)
  have HB12 := hide ((unhide HB11).trans (hb12.mono (unhide HB11).size))
  have HLX12 := hide ((unhide HLX11).below hb12)
  have HPX12 := hide ((unhide HPX11).below hb12)
  have HVL12 := hide ((unhide HVL11).below hb12)
  have HVD12 := hide ((unhide HVD11).below hb12)
  obtain ⟨ar, cr, rfl, hsr⟩ := hlr.sls inC_len (by omega)
  have HC14 := hide (unhide HSM w12 ar ad cr cd DD hsr (unhide HVD12))
  clear hb12 HC13 HH11 HM11 HB11 HLX11 HPX11 HVL11 HVD11
  clear hlr hsr
  go_wp2_with fail
  refine (unhide HC14).mono ?_
  rintro e w13 ⟨rfl, hb13⟩
  have HH13 := hide ((unhide HH12).below hb13)
  have HM13 := hide ((unhide HM12).below hb13)
  have HB13 := hide ((unhide HB12).trans (hb13.mono (unhide HB12).size))
  have HLX13 := hide ((unhide HLX12).below hb13)
  have HPX13 := hide ((unhide HPX12).below hb13)
  have HVL13 := hide ((unhide HVL12).below hb13)
  have HVD13 := hide ((unhide HVD12).below hb13)
  clear hb13 HC14 HH12 HM12 HB12 HLX12 HPX12 HVL12 HVD12
  go_wp2
  go_ret
  exact ⟨rfl, unhide HB13⟩
set_option maxRecDepth 100000 in
set_option maxHeartbeats 4000000 in
theorem reTells_dead (a : Option Addr) (cap : Nat) (l : List Int) (h : Int) (w : World) (hg : ErrT w) (hb : Bs w a cap l) (hc : chkE (ldL l) h = 0) (hy : wyL (ldL l) h = []) :
    Calls Tryz.prog 3 #[.slice a l.length cap, .int .i64 h] w fun e w' => e = .returned (.bool true) ∧ Below w.heap.size w w' := by
  have hf := ldL_fine l
  have HL := hide (loaded_any a cap l w hb)
  have hml := hf.len
  have hrf : rfL (ldL l) h = refsL (ldL l) h := by unfold rfL; rw [if_pos hc]
  have hhb := hndB_iff.1 (chkE_zero.1 hc).2.1
  have hyn := hy
  have hph : phE (ldL l) h = 5 := by unfold phE; rw [if_neg (fun q => q hc), if_pos hy]
  have HSH := hide (fun (W : World) (am : Option Addr) (cm : Nat) (hm : Bs W am cm (ldL l)) => sHandle_any am cm (ldL l) h W hm hf.len0)
  have HRF := hide (fun (W : World) (p g c : Nat) (hh : Hp W w.heap.size p g c (ldL l)) => rhRefs_any p g c w.heap.size (ldL l) h W hh)
  have HPA := hide (fun (W : World) (p g c : Nat) (hh : Hp W w.heap.size p g c (ldL l)) => rhPath_any hh h)
  have HLV := hide (fun (W : World) (p g c : Nat) (hh : Hp W w.heap.size p g c (ldL l)) => rhLive_any hh)
  have HDD := hide (fun (W : World) (p g c : Nat) (hh : Hp W w.heap.size p g c (ldL l)) => rhDead_any hh)
  have HSL := hide (fun (W : World) (am : Option Addr) (cm : Nat) (hm : Bs W am cm (ldL l)) => sLive_any am cm (ldL l) W hm hf)
  have HER := hide (fun (x : Int) (W : World) (hW : Below w.heap.size w W) => error_same x W (hg.below hW))
  have HSM := hide (fun (W : World) (a1 a2 : Option Addr) (c1 c2 : Nat) (x : List Int) (h1 : Sls inC 1 W a1 c1 x) (h2 : Sls inC 1 W a2 c2 x) => insame_any a1 a2 c1 c2 x W h1 h2)
  have HSR := hide (fun (W : World) (am : Option Addr) (cm : Nat) (hm : Bs W am cm (ldL l)) => sRefs_any am cm (ldL l) h W hm hf hhb.1 hhb.2)
  have HWY := hide (fun (W : World) (am : Option Addr) (cm : Nat) (hm : Bs W am cm (ldL l)) => sWays_any am cm (ldL l) W hm hf)
  have HGY : Hid (∀ V : List (List Int), (∀ x, 0 ≤ x → gW V x = wyL (ldL l) x) → gW V h = wyL (ldL l) h) := hide (fun V hV => hV h (by omega))
  rw [hrf] at HRF
  rw [hc] at HSH HRF
  rw [errV_zero] at HRF
  have hrl : (refsL (ldL l) h).length ≤ 15 := by have := refsL_len (ldL l) h hf; rw [hrf] at this; exact this
  have HE0 := hide (fun W hW => unhide HER 0 W hW)
  rw [errV_zero] at HE0
  rw [hph] at HPA
  rw [hyn] at HPA
  have HE1 := hide (fun W hW => unhide HER 5 W hW)
  generalize errV 5 = FV at *
  have hll := lvK_len (ldL l)
  have hdl := ddK_len (ldL l) 40
  have hbl := hb.2.2.1
  rw [hy] at HGY
  clear hb hg hf hc hyn hy hph hrf HER
  generalize refsL (ldL l) h = RF at *
  generalize lvK (ldL l) 40 = LV at *
  generalize ddK (ldL l) 40 = DD at *
  generalize ldL l = M at *
  generalize l.length = nl at *
  generalize hml2 : M.length = N at *
  clear hml2
  obtain ⟨H, rfl⟩ := Int.eq_ofNat_of_zero_le (show 0 ≤ h by omega)
  have h0 : (0 : Int) ≤ (H : Int) := by omega
  have h1 : (H : Int) < 41 := by omega
  go_enter Tryz.func3, Tryz.ntmps3
  go_wp2_with fail
  refine (unhide HL).mono ?_
  rintro e w1 ⟨p, g, c, am, cm, rfl, hh1, hbm1, hb1⟩
  have HH := hide hh1
  have HM := hide hbm1
  have HB := hide hb1
  have HC1 := hide (unhide HSH w1 am cm hbm1)
  clear hh1 hbm1 hb1 HL HSH
  go_wp2_with fail
  refine (unhide HC1).mono ?_
  rintro e w2 ⟨rfl, hb2⟩
  have HH2 := hide ((unhide HH).below hb2)
  have HM2 := hide ((unhide HM).below hb2)
  have HB2 := hide ((unhide HB).trans (hb2.mono (unhide HB).size))
  have HC2 := hide (unhide HSR w2 am cm (unhide HM2))
  clear hb2 HC1 HH HM HB
  clear HSR
  go_wp2_with fail
  refine (unhide HC2).mono ?_
  rintro e w3 ⟨v3, rfl, hl3, hb3⟩
  have HH3 := hide ((unhide HH2).below hb3)
  have HM3 := hide ((unhide HM2).below hb3)
  have HB3 := hide ((unhide HB2).trans (hb3.mono (unhide HB2).size))
  obtain ⟨a8, c8, rfl, hs8⟩ := hl3.sls inC_len (by omega)
  have HR8 := hide hs8
  have hr8 := hs8.2.2.1
  have HC3 := hide (unhide HWY w3 am cm (unhide HM3))
  clear hb3 HC2 HH2 HM2 HB2
  clear hl3 hs8 HWY
  go_wp2_with fail
  refine (unhide HC3).mono ?_
  rintro e w4 ⟨t, V, rfl, hwt, hvl, hvg, _, hb4⟩
  have HH4 := hide ((unhide HH3).below hb4)
  have HM4 := hide ((unhide HM3).below hb4)
  have HB4 := hide ((unhide HB3).trans (hb4.mono (unhide HB3).size))
  have HR84 := hide ((unhide HR8).below hb4)
  have hgy := (gW_nat V H).symm.trans (unhide HGY V hvg)
  obtain ⟨a9, c9, ht9, hs9⟩ := hwt.at (i := H) (by omega)
  rw [hgy] at ht9 hs9
  have HW9 := hide hs9
  have hw9 := hs9.2.2.1
  have ht9 : w4.cell? ⟨t, H, none⟩ = some (.slice a9 0 c9) := ht9
  have HC4 := hide (unhide HRF w4 p g c (unhide HH4))
  clear hb4 HC3 HH3 HM3 HB3 HR8
  clear hwt hvl hvg hgy hs9 HRF HGY
  go_wp2_with fail
  refine (unhide HC4).mono ?_
  rintro e w5 ⟨vl, rfl, hll1, hb5⟩
  have HH5 := hide ((unhide HH4).below hb5)
  have HM5 := hide ((unhide HM4).below hb5)
  have HB5 := hide ((unhide HB4).trans (hb5.mono (unhide HB4).size))
  have HR85 := hide ((unhide HR84).below hb5)
  have HW95 := hide ((unhide HW9).below hb5)
  obtain ⟨ax, cx, rfl, hsx⟩ := hll1.sls inC_len (by omega)
  have HLX := hide hsx
  have HC5 := hide (unhide HE0 w5 (unhide HB5))
  clear hb5 HC4 HH4 HM4 HB4 HR84 HW9
  clear hll1 hsx
  go_wp2_with fail
  refine (unhide HC5).mono ?_
  rintro e w6 ⟨rfl, hb6⟩
  have HH6 := hide ((unhide HH5).below hb6)
  have HM6 := hide ((unhide HM5).below hb6)
  have HB6 := hide ((unhide HB5).trans (hb6.mono (unhide HB5).size))
  have HR86 := hide ((unhide HR85).below hb6)
  have HW96 := hide ((unhide HW95).below hb6)
  have HLX6 := hide ((unhide HLX).below hb6)
  have HC6 := hide (unhide HPA w6 p g c (unhide HH6))
  clear hb6 HC5 HH5 HM5 HB5 HR85 HW95 HLX
  clear HPA
  go_wp2_with fail
  refine (unhide HC6).mono ?_
  rintro e w7 ⟨vp, rfl, hlp, hb7⟩
  have HH7 := hide ((unhide HH6).below hb7)
  have HM7 := hide ((unhide HM6).below hb7)
  have HB7 := hide ((unhide HB6).trans (hb7.mono (unhide HB6).size))
  have HR87 := hide ((unhide HR86).below hb7)
  have HW97 := hide ((unhide HW96).below hb7)
  have HLX7 := hide ((unhide HLX6).below hb7)
  obtain ⟨ap, cp, rfl, hsp⟩ := hlp.sls inC_len (by simp)
  have HPX := hide hsp
  have HC7 := hide (unhide HE1 w7 (unhide HB7))
  clear hb7 HC6 HH6 HM6 HB6 HR86 HW96 HLX6
  clear hlp hsp
  go_wp2_with fail
  refine (unhide HC7).mono ?_
  rintro e w8 ⟨rfl, hb8⟩
  have HH8 := hide ((unhide HH7).below hb8)
  have HM8 := hide ((unhide HM7).below hb8)
  have HB8 := hide ((unhide HB7).trans (hb8.mono (unhide HB7).size))
  have HR88 := hide ((unhide HR87).below hb8)
  have HW98 := hide ((unhide HW97).below hb8)
  have HLX8 := hide ((unhide HLX7).below hb8)
  have HPX8 := hide ((unhide HPX).below hb8)
  have HC8 := hide (unhide HSL w8 am cm (unhide HM8))
  clear hb8 HC7 HH7 HM7 HB7 HR87 HW97 HLX7 HPX
  clear HSL
  go_wp2_with fail
  refine (unhide HC8).mono ?_
  rintro e w9 ⟨v1, v2, rfl, hl1, hl2, hb9⟩
  have HH9 := hide ((unhide HH8).below hb9)
  have HM9 := hide ((unhide HM8).below hb9)
  have HB9 := hide ((unhide HB8).trans (hb9.mono (unhide HB8).size))
  have HR89 := hide ((unhide HR88).below hb9)
  have HW99 := hide ((unhide HW98).below hb9)
  have HLX9 := hide ((unhide HLX8).below hb9)
  have HPX9 := hide ((unhide HPX8).below hb9)
  obtain ⟨al, cl, rfl, hsl⟩ := hl1.sls inC_len (by omega)
  obtain ⟨ad, cd, rfl, hsd⟩ := hl2.sls inC_len (by omega)
  have HVL := hide hsl
  have HVD := hide hsd
  have HC9 := hide (unhide HSM w9 ax a8 cx c8 RF (unhide HLX9) (unhide HR89))
  clear hb9 HC8 HH8 HM8 HB8 HR88 HW98 HLX8 HPX8
  clear hl1 hl2 hsl hsd
  go_wp2_with fail
  refine (unhide HC9).mono ?_
  rintro e w10 ⟨rfl, hb10⟩
  have HH10 := hide ((unhide HH9).below hb10)
  have HM10 := hide ((unhide HM9).below hb10)
  have HB10 := hide ((unhide HB9).trans (hb10.mono (unhide HB9).size))
  have HR810 := hide ((unhide HR89).below hb10)
  have HW910 := hide ((unhide HW99).below hb10)
  have HLX10 := hide ((unhide HLX9).below hb10)
  have HPX10 := hide ((unhide HPX9).below hb10)
  have HVL10 := hide ((unhide HVL).below hb10)
  have HVD10 := hide ((unhide HVD).below hb10)
  have HC10 := hide (unhide HSM w10 ap a9 cp c9 [] (unhide HPX10) (unhide HW910))
  clear hb10 HC9 HH9 HM9 HB9 HR89 HW99 HLX9 HPX9 HVL HVD
  go_wp2_with fail
  refine (unhide HC10).mono ?_
  rintro e w11 ⟨rfl, hb11⟩
  have HH11 := hide ((unhide HH10).below hb11)
  have HM11 := hide ((unhide HM10).below hb11)
  have HB11 := hide ((unhide HB10).trans (hb11.mono (unhide HB10).size))
  have HR811 := hide ((unhide HR810).below hb11)
  have HW911 := hide ((unhide HW910).below hb11)
  have HLX11 := hide ((unhide HLX10).below hb11)
  have HPX11 := hide ((unhide HPX10).below hb11)
  have HVL11 := hide ((unhide HVL10).below hb11)
  have HVD11 := hide ((unhide HVD10).below hb11)
  have HC11 := hide (unhide HLV w11 p g c (unhide HH11))
  clear hb11 HC10 HH10 HM10 HB10 HR810 HW910 HLX10 HPX10 HVL10 HVD10
  clear HLV
  go_wp2_with fail
  refine (unhide HC11).mono ?_
  rintro e w12 ⟨vq, rfl, hlq, hb12⟩
  have HH12 := hide ((unhide HH11).below hb12)
  have HM12 := hide ((unhide HM11).below hb12)
  have HB12 := hide ((unhide HB11).trans (hb12.mono (unhide HB11).size))
  have HR812 := hide ((unhide HR811).below hb12)
  have HW912 := hide ((unhide HW911).below hb12)
  have HLX12 := hide ((unhide HLX11).below hb12)
  have HPX12 := hide ((unhide HPX11).below hb12)
  have HVL12 := hide ((unhide HVL11).below hb12)
  have HVD12 := hide ((unhide HVD11).below hb12)
  obtain ⟨aq, cq, rfl, hsq⟩ := hlq.sls inC_len (by omega)
  have HC12 := hide (unhide HSM w12 aq al cq cl LV hsq (unhide HVL12))
  clear hb12 HC11 HH11 HM11 HB11 HR811 HW911 HLX11 HPX11 HVL11 HVD11
  clear hlq hsq
  go_wp2_with fail
  refine (unhide HC12).mono ?_
  rintro e w13 ⟨rfl, hb13⟩
  have HH13 := hide ((unhide HH12).below hb13)
  have HM13 := hide ((unhide HM12).below hb13)
  have HB13 := hide ((unhide HB12).trans (hb13.mono (unhide HB12).size))
  have HR813 := hide ((unhide HR812).below hb13)
  have HW913 := hide ((unhide HW912).below hb13)
  have HLX13 := hide ((unhide HLX12).below hb13)
  have HPX13 := hide ((unhide HPX12).below hb13)
  have HVL13 := hide ((unhide HVL12).below hb13)
  have HVD13 := hide ((unhide HVD12).below hb13)
  have HC13 := hide (unhide HDD w13 p g c (unhide HH13))
  clear hb13 HC12 HH12 HM12 HB12 HR812 HW912 HLX12 HPX12 HVL12 HVD12
  clear HDD
  go_wp2_with fail
  refine (unhide HC13).mono ?_
  rintro e w14 ⟨vr, rfl, hlr, hb14⟩
  have HH14 := hide ((unhide HH13).below hb14)
  have HM14 := hide ((unhide HM13).below hb14)
  have HB14 := hide ((unhide HB13).trans (hb14.mono (unhide HB13).size))
  have HR814 := hide ((unhide HR813).below hb14)
  have HW914 := hide ((unhide HW913).below hb14)
  have HLX14 := hide ((unhide HLX13).below hb14)
  have HPX14 := hide ((unhide HPX13).below hb14)
  have HVL14 := hide ((unhide HVL13).below hb14)
  have HVD14 := hide ((unhide HVD13).below hb14)
  obtain ⟨ar, cr, rfl, hsr⟩ := hlr.sls inC_len (by omega)
  have HC14 := hide (unhide HSM w14 ar ad cr cd DD hsr (unhide HVD14))
  clear hb14 HC13 HH13 HM13 HB13 HR813 HW913 HLX13 HPX13 HVL13 HVD13
  clear hlr hsr
  go_wp2_with fail
  refine (unhide HC14).mono ?_
  rintro e w15 ⟨rfl, hb15⟩
  have HH15 := hide ((unhide HH14).below hb15)
  have HM15 := hide ((unhide HM14).below hb15)
  have HB15 := hide ((unhide HB14).trans (hb15.mono (unhide HB14).size))
  have HR815 := hide ((unhide HR814).below hb15)
  have HW915 := hide ((unhide HW914).below hb15)
  have HLX15 := hide ((unhide HLX14).below hb15)
  have HPX15 := hide ((unhide HPX14).below hb15)
  have HVL15 := hide ((unhide HVL14).below hb15)
  have HVD15 := hide ((unhide HVD14).below hb15)
  clear hb15 HC14 HH14 HM14 HB14 HR814 HW914 HLX14 HPX14 HVL14 HVD14
  go_wp2
  go_ret
  exact ⟨rfl, unhide HB15⟩
set_option maxRecDepth 100000 in
set_option maxHeartbeats 4000000 in
theorem reTells_live (a : Option Addr) (cap : Nat) (l : List Int) (h : Int) (w : World) (hg : ErrT w) (hb : Bs w a cap l) (hc : chkE (ldL l) h = 0) (hy : wyL (ldL l) h ≠ []) :
    Calls Tryz.prog 3 #[.slice a l.length cap, .int .i64 h] w fun e w' => e = .returned (.bool true) ∧ Below w.heap.size w w' := by
  have hf := ldL_fine l
  have HL := hide (loaded_any a cap l w hb)
  have hml := hf.len
  have hrf : rfL (ldL l) h = refsL (ldL l) h := by unfold rfL; rw [if_pos hc]
  have hhb := hndB_iff.1 (chkE_zero.1 hc).2.1
  have hph : phE (ldL l) h = 0 := by unfold phE; rw [if_neg (fun q => q hc), if_neg hy]
  have hypos : 0 < (wyL (ldL l) h).length := List.length_pos_iff.2 hy
  have HSH := hide (fun (W : World) (am : Option Addr) (cm : Nat) (hm : Bs W am cm (ldL l)) => sHandle_any am cm (ldL l) h W hm hf.len0)
  have HRF := hide (fun (W : World) (p g c : Nat) (hh : Hp W w.heap.size p g c (ldL l)) => rhRefs_any p g c w.heap.size (ldL l) h W hh)
  have HPA := hide (fun (W : World) (p g c : Nat) (hh : Hp W w.heap.size p g c (ldL l)) => rhPath_any hh h)
  have HLV := hide (fun (W : World) (p g c : Nat) (hh : Hp W w.heap.size p g c (ldL l)) => rhLive_any hh)
  have HDD := hide (fun (W : World) (p g c : Nat) (hh : Hp W w.heap.size p g c (ldL l)) => rhDead_any hh)
  have HSL := hide (fun (W : World) (am : Option Addr) (cm : Nat) (hm : Bs W am cm (ldL l)) => sLive_any am cm (ldL l) W hm hf)
  have HER := hide (fun (x : Int) (W : World) (hW : Below w.heap.size w W) => error_same x W (hg.below hW))
  have HSM := hide (fun (W : World) (a1 a2 : Option Addr) (c1 c2 : Nat) (x : List Int) (h1 : Sls inC 1 W a1 c1 x) (h2 : Sls inC 1 W a2 c2 x) => insame_any a1 a2 c1 c2 x W h1 h2)
  have HSR := hide (fun (W : World) (am : Option Addr) (cm : Nat) (hm : Bs W am cm (ldL l)) => sRefs_any am cm (ldL l) h W hm hf hhb.1 hhb.2)
  have HWY := hide (fun (W : World) (am : Option Addr) (cm : Nat) (hm : Bs W am cm (ldL l)) => sWays_any am cm (ldL l) W hm hf)
  have HGY : Hid (∀ V : List (List Int), (∀ x, 0 ≤ x → gW V x = wyL (ldL l) x) → gW V h = wyL (ldL l) h) := hide (fun V hV => hV h (by omega))
  rw [hrf] at HRF
  rw [hc] at HSH HRF
  rw [errV_zero] at HRF
  have hrl : (refsL (ldL l) h).length ≤ 15 := by have := refsL_len (ldL l) h hf; rw [hrf] at this; exact this
  have HE0 := hide (fun W hW => unhide HER 0 W hW)
  rw [errV_zero] at HE0
  rw [hph] at HPA
  rw [errV_zero] at HPA
  have HE1 := HE0
  have hyl : (wyL (ldL l) h).length ≤ 1000 := wy_len hf h
  have hll := lvK_len (ldL l)
  have hdl := ddK_len (ldL l) 40
  have hbl := hb.2.2.1
  clear hb hg hf hc hy hph hrf HER
  generalize refsL (ldL l) h = RF at *
  generalize wyL (ldL l) h = WY at *
  generalize lvK (ldL l) 40 = LV at *
  generalize ddK (ldL l) 40 = DD at *
  generalize ldL l = M at *
  generalize l.length = nl at *
  generalize hml2 : M.length = N at *
  clear hml2
  obtain ⟨H, rfl⟩ := Int.eq_ofNat_of_zero_le (show 0 ≤ h by omega)
  have h0 : (0 : Int) ≤ (H : Int) := by omega
  have h1 : (H : Int) < 41 := by omega
  go_enter Tryz.func3, Tryz.ntmps3
  go_wp2_with fail
  refine (unhide HL).mono ?_
  rintro e w1 ⟨p, g, c, am, cm, rfl, hh1, hbm1, hb1⟩
  have HH := hide hh1
  have HM := hide hbm1
  have HB := hide hb1
  have HC1 := hide (unhide HSH w1 am cm hbm1)
  clear hh1 hbm1 hb1 HL HSH
  go_wp2_with fail
  refine (unhide HC1).mono ?_
  rintro e w2 ⟨rfl, hb2⟩
  have HH2 := hide ((unhide HH).below hb2)
  have HM2 := hide ((unhide HM).below hb2)
  have HB2 := hide ((unhide HB).trans (hb2.mono (unhide HB).size))
  have HC2 := hide (unhide HSR w2 am cm (unhide HM2))
  clear hb2 HC1 HH HM HB
  clear HSR
  go_wp2_with fail
  refine (unhide HC2).mono ?_
  rintro e w3 ⟨v3, rfl, hl3, hb3⟩
  have HH3 := hide ((unhide HH2).below hb3)
  have HM3 := hide ((unhide HM2).below hb3)
  have HB3 := hide ((unhide HB2).trans (hb3.mono (unhide HB2).size))
  obtain ⟨a8, c8, rfl, hs8⟩ := hl3.sls inC_len (by omega)
  have HR8 := hide hs8
  have hr8 := hs8.2.2.1
  have HC3 := hide (unhide HWY w3 am cm (unhide HM3))
  clear hb3 HC2 HH2 HM2 HB2
  clear hl3 hs8 HWY
  go_wp2_with fail
  refine (unhide HC3).mono ?_
  rintro e w4 ⟨t, V, rfl, hwt, hvl, hvg, _, hb4⟩
  have HH4 := hide ((unhide HH3).below hb4)
  have HM4 := hide ((unhide HM3).below hb4)
  have HB4 := hide ((unhide HB3).trans (hb4.mono (unhide HB3).size))
  have HR84 := hide ((unhide HR8).below hb4)
  have hgy := (gW_nat V H).symm.trans (unhide HGY V hvg)
  obtain ⟨a9, c9, ht9, hs9⟩ := hwt.at (i := H) (by omega)
  rw [hgy] at ht9 hs9
  have HW9 := hide hs9
  have hw9 := hs9.2.2.1
  have hyz : (((WY.length : Nat) : Int) == 0) = false := beq_eq_false_iff_ne.2 (by omega)
  have HC4 := hide (unhide HRF w4 p g c (unhide HH4))
  clear hb4 HC3 HH3 HM3 HB3 HR8
  clear hwt hvl hvg hgy hs9 HRF HGY
  go_wp2_with fail
  refine (unhide HC4).mono ?_
  rintro e w5 ⟨vl, rfl, hll1, hb5⟩
  have HH5 := hide ((unhide HH4).below hb5)
  have HM5 := hide ((unhide HM4).below hb5)
  have HB5 := hide ((unhide HB4).trans (hb5.mono (unhide HB4).size))
  have HR85 := hide ((unhide HR84).below hb5)
  have HW95 := hide ((unhide HW9).below hb5)
  obtain ⟨ax, cx, rfl, hsx⟩ := hll1.sls inC_len (by omega)
  have HLX := hide hsx
  have HC5 := hide (unhide HE0 w5 (unhide HB5))
  clear hb5 HC4 HH4 HM4 HB4 HR84 HW9
  clear hll1 hsx
  go_wp2_with fail
  refine (unhide HC5).mono ?_
  rintro e w6 ⟨rfl, hb6⟩
  have HH6 := hide ((unhide HH5).below hb6)
  have HM6 := hide ((unhide HM5).below hb6)
  have HB6 := hide ((unhide HB5).trans (hb6.mono (unhide HB5).size))
  have HR86 := hide ((unhide HR85).below hb6)
  have HW96 := hide ((unhide HW95).below hb6)
  have HLX6 := hide ((unhide HLX).below hb6)
  have HC6 := hide (unhide HPA w6 p g c (unhide HH6))
  clear hb6 HC5 HH5 HM5 HB5 HR85 HW95 HLX
  clear HPA
  go_wp2_with fail
  refine (unhide HC6).mono ?_
  rintro e w7 ⟨vp, rfl, hlp, hb7⟩
  have HH7 := hide ((unhide HH6).below hb7)
  have HM7 := hide ((unhide HM6).below hb7)
  have HB7 := hide ((unhide HB6).trans (hb7.mono (unhide HB6).size))
  have HR87 := hide ((unhide HR86).below hb7)
  have HW97 := hide ((unhide HW96).below hb7)
  have HLX7 := hide ((unhide HLX6).below hb7)
  obtain ⟨ap, cp, rfl, hsp⟩ := hlp.sls inC_len (by omega)
  have HPX := hide hsp
  have HC7 := hide (unhide HE1 w7 (unhide HB7))
  clear hb7 HC6 HH6 HM6 HB6 HR86 HW96 HLX6
  clear hlp hsp
  go_wp2_with fail
  refine (unhide HC7).mono ?_
  rintro e w8 ⟨rfl, hb8⟩
  have HH8 := hide ((unhide HH7).below hb8)
  have HM8 := hide ((unhide HM7).below hb8)
  have HB8 := hide ((unhide HB7).trans (hb8.mono (unhide HB7).size))
  have HR88 := hide ((unhide HR87).below hb8)
  have HW98 := hide ((unhide HW97).below hb8)
  have HLX8 := hide ((unhide HLX7).below hb8)
  have HPX8 := hide ((unhide HPX).below hb8)
  have HC8 := hide (unhide HSL w8 am cm (unhide HM8))
  clear hb8 HC7 HH7 HM7 HB7 HR87 HW97 HLX7 HPX
  clear HSL
  go_wp2_with fail
  refine (unhide HC8).mono ?_
  rintro e w9 ⟨v1, v2, rfl, hl1, hl2, hb9⟩
  have HH9 := hide ((unhide HH8).below hb9)
  have HM9 := hide ((unhide HM8).below hb9)
  have HB9 := hide ((unhide HB8).trans (hb9.mono (unhide HB8).size))
  have HR89 := hide ((unhide HR88).below hb9)
  have HW99 := hide ((unhide HW98).below hb9)
  have HLX9 := hide ((unhide HLX8).below hb9)
  have HPX9 := hide ((unhide HPX8).below hb9)
  obtain ⟨al, cl, rfl, hsl⟩ := hl1.sls inC_len (by omega)
  obtain ⟨ad, cd, rfl, hsd⟩ := hl2.sls inC_len (by omega)
  have HVL := hide hsl
  have HVD := hide hsd
  have HC9 := hide (unhide HSM w9 ax a8 cx c8 RF (unhide HLX9) (unhide HR89))
  clear hb9 HC8 HH8 HM8 HB8 HR88 HW98 HLX8 HPX8
  clear hl1 hl2 hsl hsd
  go_wp2_with fail
  refine (unhide HC9).mono ?_
  rintro e w10 ⟨rfl, hb10⟩
  have HH10 := hide ((unhide HH9).below hb10)
  have HM10 := hide ((unhide HM9).below hb10)
  have HB10 := hide ((unhide HB9).trans (hb10.mono (unhide HB9).size))
  have HR810 := hide ((unhide HR89).below hb10)
  have HW910 := hide ((unhide HW99).below hb10)
  have HLX10 := hide ((unhide HLX9).below hb10)
  have HPX10 := hide ((unhide HPX9).below hb10)
  have HVL10 := hide ((unhide HVL).below hb10)
  have HVD10 := hide ((unhide HVD).below hb10)
  have HC10 := hide (unhide HSM w10 ap a9 cp c9 WY (unhide HPX10) (unhide HW910))
  clear hb10 HC9 HH9 HM9 HB9 HR89 HW99 HLX9 HPX9 HVL HVD
  go_wp2_with fail
  refine (unhide HC10).mono ?_
  rintro e w11 ⟨rfl, hb11⟩
  have HH11 := hide ((unhide HH10).below hb11)
  have HM11 := hide ((unhide HM10).below hb11)
  have HB11 := hide ((unhide HB10).trans (hb11.mono (unhide HB10).size))
  have HR811 := hide ((unhide HR810).below hb11)
  have HW911 := hide ((unhide HW910).below hb11)
  have HLX11 := hide ((unhide HLX10).below hb11)
  have HPX11 := hide ((unhide HPX10).below hb11)
  have HVL11 := hide ((unhide HVL10).below hb11)
  have HVD11 := hide ((unhide HVD10).below hb11)
  have HC11 := hide (unhide HLV w11 p g c (unhide HH11))
  clear hb11 HC10 HH10 HM10 HB10 HR810 HW910 HLX10 HPX10 HVL10 HVD10
  clear HLV
  go_wp2_with fail
  refine (unhide HC11).mono ?_
  rintro e w12 ⟨vq, rfl, hlq, hb12⟩
  have HH12 := hide ((unhide HH11).below hb12)
  have HM12 := hide ((unhide HM11).below hb12)
  have HB12 := hide ((unhide HB11).trans (hb12.mono (unhide HB11).size))
  have HR812 := hide ((unhide HR811).below hb12)
  have HW912 := hide ((unhide HW911).below hb12)
  have HLX12 := hide ((unhide HLX11).below hb12)
  have HPX12 := hide ((unhide HPX11).below hb12)
  have HVL12 := hide ((unhide HVL11).below hb12)
  have HVD12 := hide ((unhide HVD11).below hb12)
  obtain ⟨aq, cq, rfl, hsq⟩ := hlq.sls inC_len (by omega)
  have HC12 := hide (unhide HSM w12 aq al cq cl LV hsq (unhide HVL12))
  clear hb12 HC11 HH11 HM11 HB11 HR811 HW911 HLX11 HPX11 HVL11 HVD11
  clear hlq hsq
  go_wp2_with fail
  refine (unhide HC12).mono ?_
  rintro e w13 ⟨rfl, hb13⟩
  have HH13 := hide ((unhide HH12).below hb13)
  have HM13 := hide ((unhide HM12).below hb13)
  have HB13 := hide ((unhide HB12).trans (hb13.mono (unhide HB12).size))
  have HR813 := hide ((unhide HR812).below hb13)
  have HW913 := hide ((unhide HW912).below hb13)
  have HLX13 := hide ((unhide HLX12).below hb13)
  have HPX13 := hide ((unhide HPX12).below hb13)
  have HVL13 := hide ((unhide HVL12).below hb13)
  have HVD13 := hide ((unhide HVD12).below hb13)
  have HC13 := hide (unhide HDD w13 p g c (unhide HH13))
  clear hb13 HC12 HH12 HM12 HB12 HR812 HW912 HLX12 HPX12 HVL12 HVD12
  clear HDD
  go_wp2_with fail
  refine (unhide HC13).mono ?_
  rintro e w14 ⟨vr, rfl, hlr, hb14⟩
  have HH14 := hide ((unhide HH13).below hb14)
  have HM14 := hide ((unhide HM13).below hb14)
  have HB14 := hide ((unhide HB13).trans (hb14.mono (unhide HB13).size))
  have HR814 := hide ((unhide HR813).below hb14)
  have HW914 := hide ((unhide HW913).below hb14)
  have HLX14 := hide ((unhide HLX13).below hb14)
  have HPX14 := hide ((unhide HPX13).below hb14)
  have HVL14 := hide ((unhide HVL13).below hb14)
  have HVD14 := hide ((unhide HVD13).below hb14)
  obtain ⟨ar, cr, rfl, hsr⟩ := hlr.sls inC_len (by omega)
  have HC14 := hide (unhide HSM w14 ar ad cr cd DD hsr (unhide HVD14))
  clear hb14 HC13 HH13 HM13 HB13 HR813 HW913 HLX13 HPX13 HVL13 HVD13
  clear hlr hsr
  go_wp2_with fail
  refine (unhide HC14).mono ?_
  rintro e w15 ⟨rfl, hb15⟩
  have HH15 := hide ((unhide HH14).below hb15)
  have HM15 := hide ((unhide HM14).below hb15)
  have HB15 := hide ((unhide HB14).trans (hb15.mono (unhide HB14).size))
  have HR815 := hide ((unhide HR814).below hb15)
  have HW915 := hide ((unhide HW914).below hb15)
  have HLX15 := hide ((unhide HLX14).below hb15)
  have HPX15 := hide ((unhide HPX14).below hb15)
  have HVL15 := hide ((unhide HVL14).below hb15)
  have HVD15 := hide ((unhide HVD14).below hb15)
  clear hb15 HC14 HH14 HM14 HB14 HR814 HW914 HLX14 HPX14 HVL14 HVD14
  go_wp2
  go_ret
  exact ⟨rfl, unhide HB15⟩
theorem walkReachTells (a : Option Addr) (cap : Nat) (l : List Int) (h : Int) (w : World) (hg : ErrT w) (hb : Bs w a cap l) :
    Calls Tryz.prog 3 #[.slice a l.length cap, .int .i64 h] w fun e w' => e = .returned (.bool true) ∧ Below w.heap.size w w' := by
  by_cases hc : chkE (ldL l) h = 0
  · by_cases hy : wyL (ldL l) h = []
    · exact reTells_dead a cap l h w hg hb hc hy
    · exact reTells_live a cap l h w hg hb hc hy
  · exact reTells_no a cap l h w hg hb hc
end Go.Proofs.YtmkkiedohphpcaaGreatDoor
