/-
  The walk of OldTells. (Part of the proof of OldTells.)
-/
import Derived.Test.YtllpeknpplpgeaaGreatDoorJOu
import Derived.Test.YtllpeknpplpgeaaGreatDoorJOm
import Derived.Test.YtllpeknpplpgeaaGreatDoorJOl
import Derived.Test.YtllpeknpplpgeaaGreatDoorErrSame
namespace Go.Proofs.YtllpeknpplpgeaaGreatDoor
open Go.RowKit
set_option linter.unusedVariables false

theorem fine_of0 {L : List Int} (hq : lenB L.length = true) (h : fineE L = 0) : Fine L := by
  unfold fineE at h
  rw [if_neg (by rw [hq]; simp)] at h
  have hl := lenB_iff.1 hq
  by_cases hf : faults L = []
  · exact ⟨by omega, hf⟩
  · rw [if_neg hf] at h
    exact absurd h (by decide)
set_option maxRecDepth 100000 in
set_option maxHeartbeats 8000000 in
theorem walkOldTells (a : Option Addr) (cap : Nat) (b : List Int) (am : Option Addr) (cm : Nat) (m : List Int) (w : World) (hg : ErrT w) (hb : Bs w a cap b) (hm : Bs w am cm m) :
    Calls Tryz.prog 3 #[.slice a b.length cap, .slice am m.length cm] w fun e w' => e = .returned (.bool true) ∧ Below w.heap.size w w' := by
  have hbl := hb.2.2.1
  have hml := hm.2.2.1
  have HSU := hide (sUp_any a cap b w hb)
  have HOU := hide (fun (W : World) (hx : Bs W a cap b) => up_any a cap b W hx)
  have HER := hide (fun (x : Int) (W : World) (hx : Below w.heap.size w W) => error_same x W (hg.below hx))
  have HIM := hide (fun (n : Int) (W : World) => rImage_any n W)
  have HFI := hide (fun (W : World) (hx : Bs W am cm m) => rFine_any am cm m W hx)
  have HDW := hide (fun (W : World) (hx : Bs W am cm m) => down_any am cm m W hx)
  have HVE := hide (fun (W : World) (hx : Bs W a cap b) => version_any a cap b W hx)
  have HSD := hide (fun (W : World) (hx : Bs W am cm m) (hf : Fine m) => sDown_any am cm m W hx hf)
  have HCV := hide (fun (W : World) (x : Option Addr) (c : Nat) (l : List Int) (hx : Bs W x c l) => conv_str (P := Tryz.prog) Tryz.underlying22 Tryz.underlying5 Tryz.underlying9 hx)
  have HB := hide hb
  have HM := hide hm
  have HFM := hide (fun (hq : lenB m.length = true) (h : fineE m = 0) => fine_of0 hq h)
  have HDW0 := hide (fun (hf : Fine m) => (show dwL m = dnL m by unfold dwL; rw [if_pos (by unfold fineE; rw [if_neg (by rw [hf.len0]; simp), if_pos hf.ok])]))
  have HDWN := hide (fun (h : fineE m ≠ 0) => (show dwL m = [] by unfold dwL; rw [if_neg h]))
  have HF3 := hide (fun (hq : lenB m.length = false) => (show fineE m = 3 by unfold fineE; rw [if_pos hq]))
  have HV1 := hide (fun (h : hdB b = true) => (show verL b = 1 by unfold verL; rw [if_pos h]))
  have HV2 := hide (fun (h : hdB b = false) (hq : lenB b.length = true) => (show verL b = 2 by unfold verL; rw [if_neg (by rw [h]; simp), if_pos hq]))
  have HV0 := hide (fun (h : hdB b = false) (hq : lenB b.length = false) => (show verL b = 0 by unfold verL; rw [if_neg (by rw [h]; simp), if_neg (by rw [hq]; simp)]))
  have HHL := hide (fun (h : b.length < 4) => hdB_len h)
  have HHS := hide (fun (h : 4 ≤ b.length) => hdB_str h hb.1)
  have HL4 := hide (fun (h : 4 ≤ b.length) => (show (b.take 4).length = 4 by rw [List.length_take]; omega))
  clear hg hb hm
  generalize (upS b).1 = X at *
  generalize (upS b).2 = U at *
  generalize fineE m = FE at *
  generalize dwL m = D at *
  generalize verL b = VL at *
  generalize hdB b = HDB at *
  go_enter Tryz.func3, Tryz.ntmps3
  go_wp2_with fail
  refine (unhide HSU).mono ?_
  rintro e w1 ⟨a1, c1, rfl, hb1, hB1⟩
  have HC2 := hide (unhide HOU w1 ((unhide HB).below hB1))
  have HU1 := hide hb1
  have HB1 := hide hB1
  clear hb1 hB1 HSU HOU
  go_wp2_with fail
  refine (unhide HC2).mono ?_
  rintro e w2 ⟨a2, c2, rfl, hb2, hB2⟩
  have hB2' := (unhide HB1).trans (hB2.mono (unhide HB1).size)
  have HC3 := hide (unhide HER X w2 hB2')
  have HU2 := hide ((unhide HU1).below hB2)
  have HG2 := hide hb2
  have HB2 := hide hB2'
  clear hb2 hB2 hB2' HC2 HU1 HB1
  generalize errV X = EX at *
  go_wp2_with fail
  refine (unhide HC3).mono ?_
  rintro e w3 ⟨rfl, hB3⟩
  have HU3 := hide ((unhide HU2).below hB3)
  have HG3 := hide ((unhide HG2).below hB3)
  have HB3 := hide ((unhide HB2).trans (hB3.mono (unhide HB2).size))
  clear hB3 HC3 HU2 HG2 HB2
  go_wp2_with fail
  refine (unhide HIM _ _).mono ?_
  rintro e w4 ⟨rfl, rfl⟩
  cases hq : lenB m.length
  case false =>
    have h3 := unhide HF3 hq
    have hd := unhide HDWN (by rw [h3]; decide)
    subst h3 hd
    have HD5 := hide (unhide HDW w3 ((unhide HM).below (unhide HB3)))
    rw [errV_pos 3 (by decide)] at HD5
    go_wp2_with fail
    refine (unhide HD5).mono ?_
    rintro e w5 ⟨ax, cx, rfl, hx5, hB5⟩
    have hB5' := (unhide HB3).trans (hB5.mono (unhide HB3).size)
    have HE5 := hide (unhide HER 3 w5 hB5')
    rw [errV_pos 3 (by decide)] at HE5
    have HU5 := hide ((unhide HU3).below hB5)
    have HG5 := hide ((unhide HG3).below hB5)
    have HX5 := hide hx5
    have HB5 := hide hB5'
    clear hx5 hB5 hB5' HD5 HU3 HG3 HB3
    go_wp2_with fail
    refine (unhide HE5).mono ?_
    rintro e w6 ⟨rfl, hB6⟩
    have HUe := hide ((unhide HU5).below hB6)
    have HGe := hide ((unhide HG5).below hB6)
    have HXe := hide ((unhide HX5).below hB6)
    have HBe := hide ((unhide HB5).trans (hB6.mono (unhide HB5).size))
    clear hB6 HE5 HU5 HG5 HX5 HB5
    have HI9 := hide (unhide HIM b.length w6)
    go_wp2_with fail
    refine (unhide HI9).mono ?_
    rintro e w9 ⟨rfl, rfl⟩
    clear HI9
    have hcu := unhide HCV w6 a1 c1 U (unhide HUe)
    have hcg := unhide HCV w6 a2 c2 U (unhide HGe)
    have hcx := unhide HCV w6 ax cx [] (unhide HXe)
    have hcd := unhide HCV w6 none 0 [] (bs_nil _)
    have HVe := hide (unhide HVE w6 ((unhide HB).below (unhide HBe)))
    have HBb := hide ((unhide HB).below (unhide HBe))
    generalize strOf U = SU at *
    rw [List.length_nil] at hcx hcd
    generalize strOf [] = SD at *
    by_cases h4 : 4 ≤ b.length
    · have hbh := (unhide HBb).take 4
      have hch := unhide HCV w6 a cap (b.take 4) hbh
      rw [unhide HL4 h4] at hch
      have heq := unhide HHS h4
      have h4i : decide (4 ≤ (b.length : Int)) = true := decide_eq_true (by omega)
      have hcap : 4 ≤ cap := by have := (unhide HBb).2.1; omega
      clear hbh
      generalize strOf (b.take 4) = S4 at *
      cases hh : HDB
      · rw [hh] at heq
        cases hqb : lenB b.length
        · have hv := unhide HV0 hh hqb
          subst hv
          clear HV0 HV1 HV2 HHL HHS HL4 HFM HDW0 HDWN HF3 hqb hh
          go_wp2_with fail
          refine (unhide HVe).mono ?_
          rintro e w10 ⟨rfl, hB10⟩
          have HB10 := hide ((unhide HBe).trans (hB10.mono (unhide HBe).size))
          clear hB10
          go_wp2
          go_ret
          exact ⟨rfl, unhide HB10⟩
        · have hv := unhide HV2 hh hqb
          subst hv
          clear HV0 HV1 HV2 HHL HHS HL4 HFM HDW0 HDWN HF3 hqb hh
          go_wp2_with fail
          refine (unhide HVe).mono ?_
          rintro e w10 ⟨rfl, hB10⟩
          have HB10 := hide ((unhide HBe).trans (hB10.mono (unhide HBe).size))
          clear hB10
          go_wp2
          go_ret
          exact ⟨rfl, unhide HB10⟩
      · rw [hh] at heq
        have hv := unhide HV1 hh
        subst hv
        cases hqb : lenB b.length
        · clear HV0 HV1 HV2 HHL HHS HL4 HFM HDW0 HDWN HF3 hqb hh
          go_wp2_with fail
          refine (unhide HVe).mono ?_
          rintro e w10 ⟨rfl, hB10⟩
          have HB10 := hide ((unhide HBe).trans (hB10.mono (unhide HBe).size))
          clear hB10
          go_wp2
          go_ret
          exact ⟨rfl, unhide HB10⟩
        · clear HV0 HV1 HV2 HHL HHS HL4 HFM HDW0 HDWN HF3 hqb hh
          go_wp2_with fail
          refine (unhide HVe).mono ?_
          rintro e w10 ⟨rfl, hB10⟩
          have HB10 := hide ((unhide HBe).trans (hB10.mono (unhide HBe).size))
          clear hB10
          go_wp2
          go_ret
          exact ⟨rfl, unhide HB10⟩
    · have hh := unhide HHL (by omega)
      have h4i : ¬ (4 ≤ (b.length : Int)) := by omega
      cases hqb : lenB b.length
      · have hv := unhide HV0 hh hqb
        subst hv
        clear HV0 HV1 HV2 HHL HHS HL4 HFM HDW0 HDWN HF3 hqb hh
        go_wp2_with fail
        refine (unhide HVe).mono ?_
        rintro e w10 ⟨rfl, hB10⟩
        have HB10 := hide ((unhide HBe).trans (hB10.mono (unhide HBe).size))
        clear hB10
        go_wp2
        go_ret
        exact ⟨rfl, unhide HB10⟩
      · have hv := unhide HV2 hh hqb
        subst hv
        clear HV0 HV1 HV2 HHL HHS HL4 HFM HDW0 HDWN HF3 hqb hh
        go_wp2_with fail
        refine (unhide HVe).mono ?_
        rintro e w10 ⟨rfl, hB10⟩
        have HB10 := hide ((unhide HBe).trans (hB10.mono (unhide HBe).size))
        clear hB10
        go_wp2
        go_ret
        exact ⟨rfl, unhide HB10⟩
  by_cases h0 : FE = 0
  case neg =>
    have hd := unhide HDWN h0
    subst hd
    have HF5 := hide (unhide HFI w3 ((unhide HM).below (unhide HB3)))
    go_wp2_with fail
    refine (unhide HF5).mono ?_
    rintro e w5 ⟨rfl, hB5⟩
    have hB5' := (unhide HB3).trans (hB5.mono (unhide HB3).size)
    have HD6 := hide (unhide HDW w5 ((unhide HM).below hB5'))
    rw [errV_pos FE h0] at HD6
    have HU5 := hide ((unhide HU3).below hB5)
    have HG5 := hide ((unhide HG3).below hB5)
    have HB5 := hide hB5'
    clear hB5 hB5' HF5 HU3 HG3 HB3
    go_wp2_with fail
    refine (unhide HD6).mono ?_
    rintro e w6 ⟨ax, cx, rfl, hx6, hB6⟩
    have hB6' := (unhide HB5).trans (hB6.mono (unhide HB5).size)
    have HE6 := hide (unhide HER FE w6 hB6')
    rw [errV_pos FE h0] at HE6
    have HU6 := hide ((unhide HU5).below hB6)
    have HG6 := hide ((unhide HG5).below hB6)
    have HX6 := hide hx6
    have HB6 := hide hB6'
    clear hx6 hB6 hB6' HD6 HU5 HG5 HB5
    go_wp2_with fail
    refine (unhide HE6).mono ?_
    rintro e w7 ⟨rfl, hB7⟩
    have HUe := hide ((unhide HU6).below hB7)
    have HGe := hide ((unhide HG6).below hB7)
    have HXe := hide ((unhide HX6).below hB7)
    have HBe := hide ((unhide HB6).trans (hB7.mono (unhide HB6).size))
    clear hB7 HE6 HU6 HG6 HX6 HB6
    have HI9 := hide (unhide HIM b.length w7)
    go_wp2_with fail
    refine (unhide HI9).mono ?_
    rintro e w9 ⟨rfl, rfl⟩
    clear HI9
    have hcu := unhide HCV w7 a1 c1 U (unhide HUe)
    have hcg := unhide HCV w7 a2 c2 U (unhide HGe)
    have hcx := unhide HCV w7 ax cx [] (unhide HXe)
    have hcd := unhide HCV w7 none 0 [] (bs_nil _)
    have HVe := hide (unhide HVE w7 ((unhide HB).below (unhide HBe)))
    have HBb := hide ((unhide HB).below (unhide HBe))
    generalize strOf U = SU at *
    rw [List.length_nil] at hcx hcd
    generalize strOf [] = SD at *
    by_cases h4 : 4 ≤ b.length
    · have hbh := (unhide HBb).take 4
      have hch := unhide HCV w7 a cap (b.take 4) hbh
      rw [unhide HL4 h4] at hch
      have heq := unhide HHS h4
      have h4i : decide (4 ≤ (b.length : Int)) = true := decide_eq_true (by omega)
      have hcap : 4 ≤ cap := by have := (unhide HBb).2.1; omega
      clear hbh
      generalize strOf (b.take 4) = S4 at *
      cases hh : HDB
      · rw [hh] at heq
        cases hqb : lenB b.length
        · have hv := unhide HV0 hh hqb
          subst hv
          clear HV0 HV1 HV2 HHL HHS HL4 HFM HDW0 HDWN HF3 hqb hh
          go_wp2_with fail
          refine (unhide HVe).mono ?_
          rintro e w10 ⟨rfl, hB10⟩
          have HB10 := hide ((unhide HBe).trans (hB10.mono (unhide HBe).size))
          clear hB10
          go_wp2
          go_ret
          exact ⟨rfl, unhide HB10⟩
        · have hv := unhide HV2 hh hqb
          subst hv
          clear HV0 HV1 HV2 HHL HHS HL4 HFM HDW0 HDWN HF3 hqb hh
          go_wp2_with fail
          refine (unhide HVe).mono ?_
          rintro e w10 ⟨rfl, hB10⟩
          have HB10 := hide ((unhide HBe).trans (hB10.mono (unhide HBe).size))
          clear hB10
          go_wp2
          go_ret
          exact ⟨rfl, unhide HB10⟩
      · rw [hh] at heq
        have hv := unhide HV1 hh
        subst hv
        cases hqb : lenB b.length
        · clear HV0 HV1 HV2 HHL HHS HL4 HFM HDW0 HDWN HF3 hqb hh
          go_wp2_with fail
          refine (unhide HVe).mono ?_
          rintro e w10 ⟨rfl, hB10⟩
          have HB10 := hide ((unhide HBe).trans (hB10.mono (unhide HBe).size))
          clear hB10
          go_wp2
          go_ret
          exact ⟨rfl, unhide HB10⟩
        · clear HV0 HV1 HV2 HHL HHS HL4 HFM HDW0 HDWN HF3 hqb hh
          go_wp2_with fail
          refine (unhide HVe).mono ?_
          rintro e w10 ⟨rfl, hB10⟩
          have HB10 := hide ((unhide HBe).trans (hB10.mono (unhide HBe).size))
          clear hB10
          go_wp2
          go_ret
          exact ⟨rfl, unhide HB10⟩
    · have hh := unhide HHL (by omega)
      have h4i : ¬ (4 ≤ (b.length : Int)) := by omega
      cases hqb : lenB b.length
      · have hv := unhide HV0 hh hqb
        subst hv
        clear HV0 HV1 HV2 HHL HHS HL4 HFM HDW0 HDWN HF3 hqb hh
        go_wp2_with fail
        refine (unhide HVe).mono ?_
        rintro e w10 ⟨rfl, hB10⟩
        have HB10 := hide ((unhide HBe).trans (hB10.mono (unhide HBe).size))
        clear hB10
        go_wp2
        go_ret
        exact ⟨rfl, unhide HB10⟩
      · have hv := unhide HV2 hh hqb
        subst hv
        clear HV0 HV1 HV2 HHL HHS HL4 HFM HDW0 HDWN HF3 hqb hh
        go_wp2_with fail
        refine (unhide HVe).mono ?_
        rintro e w10 ⟨rfl, hB10⟩
        have HB10 := hide ((unhide HBe).trans (hB10.mono (unhide HBe).size))
        clear hB10
        go_wp2
        go_ret
        exact ⟨rfl, unhide HB10⟩
  subst h0
  have hfm := unhide HFM hq (by first | rfl | trivial)
  have hd := unhide HDW0 hfm
  have HF5 := hide (unhide HFI w3 ((unhide HM).below (unhide HB3)))
  have HS5 := hide (fun (W : World) (hx : Below w.heap.size w W) => unhide HSD W ((unhide HM).below hx) hfm)
  rw [← hd] at HS5
  clear hfm hd HSD
  go_wp2_with fail
  refine (unhide HF5).mono ?_
  rintro e w5 ⟨rfl, hB5⟩
  have hB5' := (unhide HB3).trans (hB5.mono (unhide HB3).size)
  have HS6 := hide (unhide HS5 w5 hB5')
  have HU5 := hide ((unhide HU3).below hB5)
  have HG5 := hide ((unhide HG3).below hB5)
  have HB5 := hide hB5'
  clear hB5 hB5' HF5 HU3 HG3 HB3 HS5
  go_wp2_with fail
  refine (unhide HS6).mono ?_
  rintro e w6 ⟨ad, cd, rfl, hd6, hB6⟩
  have hB6' := (unhide HB5).trans (hB6.mono (unhide HB5).size)
  have HD7 := hide (unhide HDW w6 ((unhide HM).below hB6'))
  rw [errV_zero] at HD7
  have HU6 := hide ((unhide HU5).below hB6)
  have HG6 := hide ((unhide HG5).below hB6)
  have HD6 := hide hd6
  have HB6 := hide hB6'
  clear hd6 hB6 hB6' HS6 HU5 HG5 HB5
  go_wp2_with fail
  refine (unhide HD7).mono ?_
  rintro e w7 ⟨ax, cx, rfl, hx7, hB7⟩
  have hB7' := (unhide HB6).trans (hB7.mono (unhide HB6).size)
  have HE7 := hide (unhide HER 0 w7 hB7')
  rw [errV_zero] at HE7
  have HU7 := hide ((unhide HU6).below hB7)
  have HG7 := hide ((unhide HG6).below hB7)
  have HX7 := hide hx7
  have HDD7 := hide ((unhide HD6).below hB7)
  have HB7 := hide hB7'
  clear hx7 hB7 hB7' HD7 HU6 HG6 HD6 HB6
  go_wp2_with fail
  refine (unhide HE7).mono ?_
  rintro e w8 ⟨rfl, hB8⟩
  have HUe := hide ((unhide HU7).below hB8)
  have HGe := hide ((unhide HG7).below hB8)
  have HXe := hide ((unhide HX7).below hB8)
  have HDe := hide ((unhide HDD7).below hB8)
  have HBe := hide ((unhide HB7).trans (hB8.mono (unhide HB7).size))
  clear hB8 HE7 HU7 HG7 HX7 HDD7 HB7
  have HI9 := hide (unhide HIM b.length w8)
  go_wp2_with fail
  refine (unhide HI9).mono ?_
  rintro e w9 ⟨rfl, rfl⟩
  clear HI9
  have hcu := unhide HCV w8 a1 c1 U (unhide HUe)
  have hcg := unhide HCV w8 a2 c2 U (unhide HGe)
  have hcx := unhide HCV w8 ax cx D (unhide HXe)
  have hcd := unhide HCV w8 ad cd D (unhide HDe)
  have HVe := hide (unhide HVE w8 ((unhide HB).below (unhide HBe)))
  have HBb := hide ((unhide HB).below (unhide HBe))
  generalize strOf U = SU at *
  generalize strOf D = SD at *
  by_cases h4 : 4 ≤ b.length
  · have hbh := (unhide HBb).take 4
    have hch := unhide HCV w8 a cap (b.take 4) hbh
    rw [unhide HL4 h4] at hch
    have heq := unhide HHS h4
    have h4i : decide (4 ≤ (b.length : Int)) = true := decide_eq_true (by omega)
    have hcap : 4 ≤ cap := by have := (unhide HBb).2.1; omega
    clear hbh
    generalize strOf (b.take 4) = S4 at *
    cases hh : HDB
    · rw [hh] at heq
      cases hqb : lenB b.length
      · have hv := unhide HV0 hh hqb
        subst hv
        clear HV0 HV1 HV2 HHL HHS HL4 HFM HDW0 HDWN HF3 hqb hh
        go_wp2_with fail
        refine (unhide HVe).mono ?_
        rintro e w10 ⟨rfl, hB10⟩
        have HB10 := hide ((unhide HBe).trans (hB10.mono (unhide HBe).size))
        clear hB10
        go_wp2
        go_ret
        exact ⟨rfl, unhide HB10⟩
      · have hv := unhide HV2 hh hqb
        subst hv
        clear HV0 HV1 HV2 HHL HHS HL4 HFM HDW0 HDWN HF3 hqb hh
        go_wp2_with fail
        refine (unhide HVe).mono ?_
        rintro e w10 ⟨rfl, hB10⟩
        have HB10 := hide ((unhide HBe).trans (hB10.mono (unhide HBe).size))
        clear hB10
        go_wp2
        go_ret
        exact ⟨rfl, unhide HB10⟩
    · rw [hh] at heq
      have hv := unhide HV1 hh
      subst hv
      cases hqb : lenB b.length
      · clear HV0 HV1 HV2 HHL HHS HL4 HFM HDW0 HDWN HF3 hqb hh
        go_wp2_with fail
        refine (unhide HVe).mono ?_
        rintro e w10 ⟨rfl, hB10⟩
        have HB10 := hide ((unhide HBe).trans (hB10.mono (unhide HBe).size))
        clear hB10
        go_wp2
        go_ret
        exact ⟨rfl, unhide HB10⟩
      · clear HV0 HV1 HV2 HHL HHS HL4 HFM HDW0 HDWN HF3 hqb hh
        go_wp2_with fail
        refine (unhide HVe).mono ?_
        rintro e w10 ⟨rfl, hB10⟩
        have HB10 := hide ((unhide HBe).trans (hB10.mono (unhide HBe).size))
        clear hB10
        go_wp2
        go_ret
        exact ⟨rfl, unhide HB10⟩
  · have hh := unhide HHL (by omega)
    have h4i : ¬ (4 ≤ (b.length : Int)) := by omega
    cases hqb : lenB b.length
    · have hv := unhide HV0 hh hqb
      subst hv
      clear HV0 HV1 HV2 HHL HHS HL4 HFM HDW0 HDWN HF3 hqb hh
      go_wp2_with fail
      refine (unhide HVe).mono ?_
      rintro e w10 ⟨rfl, hB10⟩
      have HB10 := hide ((unhide HBe).trans (hB10.mono (unhide HBe).size))
      clear hB10
      go_wp2
      go_ret
      exact ⟨rfl, unhide HB10⟩
    · have hv := unhide HV2 hh hqb
      subst hv
      clear HV0 HV1 HV2 HHL HHS HL4 HFM HDW0 HDWN HF3 hqb hh
      go_wp2_with fail
      refine (unhide HVe).mono ?_
      rintro e w10 ⟨rfl, hB10⟩
      have HB10 := hide ((unhide HBe).trans (hB10.mono (unhide HBe).size))
      clear hB10
      go_wp2
      go_ret
      exact ⟨rfl, unhide HB10⟩
end Go.Proofs.YtllpeknpplpgeaaGreatDoor
