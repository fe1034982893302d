/-
  The walk of MergeTells. (Part of the proof of MergeTells.)
-/
import Derived.Test.YtifmemombecoaaaGreatDoorJRn
import Derived.Test.YtifmemombecoaaaGreatDoorJRm
import Derived.Test.YtifmemombecoaaaGreatDoorJRef
import Derived.Test.YtifmemombecoaaaGreatDoorJIs
import Derived.Test.YtifmemombecoaaaGreatDoorJRc
import Derived.BigQuiet
import Derived.Deep.CutRange
namespace Go.Proofs.YtifmemombecoaaaGreatDoor
open Go.RowKit
set_option linter.unusedVariables false
theorem thE_bad {m a b : IM} (h : ckAll m.2.2.length [m, a, b] ≠ 0) : thE m a b = ckAll m.2.2.length [m, a, b] /\ thL m a b = [] /\ thK m a b = [] := by
 have e : thE m a b = ckAll m.2.2.length [m, a, b] := if_neg h
 refine ⟨e, if_neg h, ?_⟩
 unfold thK
 rw [e, if_neg h]
theorem slsI_nil (w : World) : Sls inC 1 w none 0 [] := ⟨Nat.le_refl _, fun _ => rfl, by simp, fun h => absurd rfl h⟩
theorem thK_len (m a b : IM) : (thK m a b).length <= 40 := by
 unfold thK
 split
 ·exact Nat.le_trans (List.length_filter_le _ _) (by rw [hndL_len]; omega)
 ·exact Nat.zero_le _
set_option maxRecDepth 100000 in
set_option maxHeartbeats 8000000 in
theorem walkMergeTells (am : Option Addr) (cm : Nat) (M : List Int) (aa : Option Addr) (ca : Nat) (A : List Int) (ab : Option Addr) (cb : Nat) (B : List Int) (w : World) (hg : ErrT w) (hM : Bs w am cm M) (hA : Bs w aa ca A) (hB : Bs w ab cb B) :
  Calls Tryz.prog 3 #[.slice am M.length cm, .slice aa A.length ca, .slice ab B.length cb] w fun e w' => e = .returned (.bool true) /\ Below w.heap.size w w' := by
 have hlM := hM.2.2.1
 have hlA := hA.2.2.1
 have hlB := hB.2.2.1
 have HI1 := hide (rImage_any M.length w)
 have HI2 := hide (rImage_any A.length w)
 have HI3 := hide (rImage_any B.length w)
 have HF1 := hide (fun (W : World) (hW : Below w.heap.size w W) => rFine_any am cm M W (hM.below hW))
 have HF2 := hide (fun (W : World) (hW : Below w.heap.size w W) => rFine_any aa ca A W (hA.below hW))
 have HF3 := hide (fun (W : World) (hW : Below w.heap.size w W) => rFine_any ab cb B W (hB.below hW))
 have HMV := hide (fun (W : World) (hW : Below w.heap.size w W) => mMoved_any (am, cm, M) (aa, ca, A) W (hM.below hW) (hA.below hW))
 have HTH := hide (fun (W : World) (hW : Below w.heap.size w W) => mThree_any (am, cm, M) (aa, ca, A) (ab, cb, B) W (hM.below hW) (hA.below hW) (hB.below hW))
 have HES := hide (fun (x : Int) (W : World) (hW : Below w.heap.size w W) => error_same x W (hg.below hW))
 have hE2 := mE_two (am, cm, M) (aa, ca, A)
 have hE3 := mE_three (am, cm, M) (aa, ca, A) (ab, cb, B)
 have HSM : Hid (ckAll M.length [(am, cm, M), (aa, ca, A)] = 0 -> ∀ (W : World), Below w.heap.size w W -> Calls Tryz.prog 6 #[.slice am M.length cm, .slice aa A.length ca] W fun e w' => ∃ v, e = .returned v /\ Lst inC 1 3 w' W.heap.size v (mvHs M A) /\ Below W.heap.size W w') := hide (fun h0 W hW => by
  have hz := ckAll_zero h0
  have h := sMoved_any am aa cm ca M A W (hM.below hW) (hA.below hW) (hz (am, cm, M) (by simp)).1 (hz (aa, ca, A) (by simp)).1
  rw [mvK_hs] at h
  exact h)
 have HST : Hid (ckAll M.length [(am, cm, M), (aa, ca, A), (ab, cb, B)] = 0 -> ∀ (W : World), Below w.heap.size w W -> Calls Tryz.prog 10 #[.slice am M.length cm, .slice aa A.length ca, .slice ab B.length cb] W (SThr W (thE (am, cm, M) (aa, ca, A) (ab, cb, B)) (thL (am, cm, M) (aa, ca, A) (ab, cb, B)) (thK (am, cm, M) (aa, ca, A) (ab, cb, B)))) := hide (fun h0 W hW => by
  have hz := ckAll_zero h0
  obtain ⟨f1, l1⟩ := hz (am, cm, M) (by simp)
  obtain ⟨f2, l2⟩ := hz (aa, ca, A) (by simp)
  obtain ⟨f3, l3⟩ := hz (ab, cb, B) (by simp)
  dsimp only at f1 f2 f3 l2 l3
  have hr := thE_right (m := (am, cm, M)) (a := (aa, ca, A)) (b := (ab, cb, B)) (fun x hx => by
   simp at hx
   rcases hx with rfl | rfl | rfl
   ·exact ⟨f1, rfl⟩
   ·exact ⟨f2, l2⟩
   ·exact ⟨f3, l3⟩)
  have hk : thK (am, cm, M) (aa, ca, A) (ab, cb, B) = sdT M A B := by
   unfold thK sdT
   rw [hr.1]
  have h := sThree_any am aa ab cm ca cb M A B M.length W (hM.below hW) (hA.below hW) (hB.below hW) f1 f2 f3 rfl l2 l3
  rw [hr.1, hr.2, hk, l2, l3]
  exact h)
 have HTB := hide (fun h => thE_bad (m := (am, cm, M)) (a := (aa, ca, A)) (b := (ab, cb, B)) h)
 have hK3 := thK_len (am, cm, M) (aa, ca, A) (ab, cb, B)
 have hV2 : (if ckAll M.length [(am, cm, M), (aa, ca, A)] = 0 then mvHs M A else []).length <= 40 := by
  split
  ·exact Nat.le_trans (List.length_filter_le _ _) (by rw [hndL_len]; omega)
  ·exact Nat.zero_le _
 have HT2 : Hid (mB2 M A = (!lenB M.length || (!lenB A.length || decide (M.length ≠ A.length)))) := hide rfl
 have HT3 : Hid (mB3 M A B = (!lenB M.length || (!lenB A.length || (!lenB B.length || (decide (M.length ≠ A.length) || decide (M.length ≠ B.length)))))) := hide rfl
 unfold imV at HMV HTH
 dsimp only at HMV HTH hE2 hE3 HTB
 clear hM hA hB hg
 obtain ⟨V2, hV⟩ : ∃ x, (if ckAll M.length [(am, cm, M), (aa, ca, A)] = 0 then mvHs M A else []) = x := ⟨_, rfl⟩
 have HVD : Hid (V2 = if ckAll M.length [(am, cm, M), (aa, ca, A)] = 0 then mvHs M A else []) := hide hV.symm
 rw [hV] at HMV hV2
 clear hV
 generalize thE (am, cm, M) (aa, ca, A) (ab, cb, B) = E3 at *
 generalize thL (am, cm, M) (aa, ca, A) (ab, cb, B) = L3 at *
 generalize thK (am, cm, M) (aa, ca, A) (ab, cb, B) = K3 at *
 generalize ckAll M.length [(am, cm, M), (aa, ca, A)] = C2 at *
 generalize ckAll M.length [(am, cm, M), (aa, ca, A), (ab, cb, B)] = C3 at *
 generalize mvHs M A = VH at *
 generalize fineE M = FM at *
 generalize fineE A = FA at *
 generalize fineE B = FB at *
 generalize mB2 M A = T2 at *
 generalize mB3 M A B = T3 at *
 generalize lenB M.length = p at *
 generalize lenB A.length = q at *
 generalize lenB B.length = r at *
 generalize M.length = NM at *
 generalize A.length = NA at *
 generalize B.length = NB at *
 have HE2 := hide hE2
 have HE3 := hide hE3
 clear hE2 hE3
 go_enter Tryz.func3, Tryz.ntmps3
 go_wp2_with fail
 refine (unhide HI1).mono ?_
 rintro e w' ⟨rfl, rfl⟩
 go_wp2_with fail
 refine (unhide HI2).mono ?_
 rintro e w' ⟨rfl, rfl⟩
 go_wp2_with fail
 refine (unhide HI3).mono ?_
 rintro e w' ⟨rfl, rfl⟩
 clear HI1 HI2 HI3
 have HB0 := hide (Below.refl w.heap.size w)
 go_upto_region 5 with fail
 go_cut [43] from 22 to 145 (fun v wx => v = .bool T2 /\ w = wx)
 case first =>
  have ht := unhide HT2
  cases p
  ·have : T2 = true := by rw [ht]; rfl
   subst this
   clear ht
   go_wp2
   go_meet
   case rel => exact ⟨rfl, rfl⟩
  ·cases q
   ·have : T2 = true := by rw [ht]; rfl
    subst this
    clear ht
    go_wp2
    go_meet
    case rel => exact ⟨rfl, rfl⟩
   ·by_cases hl : NM = NA
    ·have : T2 = false := by rw [ht]; simp [hl]
     subst this
     clear ht
     subst hl
     go_wp2
     go_meet
     case rel => exact ⟨rfl, rfl⟩
    ·have : T2 = true := by rw [ht]; simp [hl]
     subst this
     clear ht
     have hlb : ((NM : Int) != (NA : Int)) = true := bne_iff_ne.2 (fun h => hl (by omega))
     go_wp2
     go_meet
     case rel => exact ⟨rfl, rfl⟩
 case rest =>
  obtain ⟨rfl, hwx⟩ := hcut
  subst hwx
  clear HT2
  go_upto_if 43 with fail
  go_cut [10] from 22 to 145 (fun v wx => v = .int .i64 (mE T2) /\ w = wx)
  case first =>
   cases T2
   all_goals
    go_wp2
    go_meet
    case rel => exact ⟨rfl, rfl⟩
  case rest =>
   obtain ⟨rfl, hwx⟩ := hcut
   subst hwx
   generalize mE T2 = G0 at *
   obtain ⟨G1, hG1⟩ : ∃ x, thn G0 FM = x := ⟨_, rfl⟩
   rw [hG1] at HE2
   go_upto_if 45 with fail
   go_cut [10] from 22 to 145 (fun v wx => v = .int .i64 G1 /\ Below w.heap.size w wx)
   case first =>
    by_cases h0 : G0 = 0
    ·subst h0
     rw [thn_zero] at hG1
     subst hG1
     have HC := hide (unhide HF1 w (unhide HB0))
     go_wp2_with fail
     refine (unhide HC).mono ?_
     rintro e w5 ⟨rfl, hb5⟩
     have HB5 := hide ((unhide HB0).trans (hb5.mono (unhide HB0).size))
     clear hb5 HC
     go_wp2
     go_meet
     case rel => exact ⟨rfl, unhide HB5⟩
    ·rw [thn_no h0] at hG1
     subst hG1
     have h0b : (G0 == 0) = false := beq_eq_false_iff_ne.2 h0
     go_wp2
     go_meet
     case rel => exact ⟨rfl, unhide HB0⟩
   case rest =>
    obtain ⟨rfl, hbw⟩ := hcut
    obtain ⟨wg1, hwg1⟩ : ∃ x, x = wc := ⟨wc, rfl⟩
    subst hwg1
    have HBg1 := hide hbw
    clear hbw hG1 HB0
    obtain ⟨G2, hG2⟩ : ∃ x, thn G1 FA = x := ⟨_, rfl⟩
    rw [hG2] at HE2
    go_upto_if 49 with fail
    go_cut [10] from 22 to 145 (fun v wx => v = .int .i64 G2 /\ Below w.heap.size w wx)
    case first =>
     by_cases h0 : G1 = 0
     ·subst h0
      rw [thn_zero] at hG2
      subst hG2
      have HC := hide (unhide HF2 wg1 (unhide HBg1))
      go_wp2_with fail
      refine (unhide HC).mono ?_
      rintro e w5 ⟨rfl, hb5⟩
      have HB5 := hide ((unhide HBg1).trans (hb5.mono (unhide HBg1).size))
      clear hb5 HC
      go_wp2
      go_meet
      case rel => exact ⟨rfl, unhide HB5⟩
     ·rw [thn_no h0] at hG2
      subst hG2
      have h0b : (G1 == 0) = false := beq_eq_false_iff_ne.2 h0
      go_wp2
      go_meet
      case rel => exact ⟨rfl, unhide HBg1⟩
    case rest =>
     obtain ⟨rfl, hbw⟩ := hcut
     obtain ⟨wg2, hwg2⟩ : ∃ x, x = wc := ⟨wc, rfl⟩
     subst hwg2
     have HBg2 := hide hbw
     clear hbw hG2 HBg1
     have hc2 := unhide HE2
     subst hc2
     clear HE2
     go_upto_if 53 with fail
     go_cut [11] from 22 to 145 (fun v wx => ∃ x c, v = .slice x V2.length c /\ Sls inC 1 wx x c V2 /\ Below w.heap.size w wx)
     case first =>
      by_cases h0 : G2 = 0
      ·subst h0
       have hv := unhide HVD
       rw [if_pos rfl] at hv
       subst hv
       have HC := hide (unhide HSM rfl wg2 (unhide HBg2))
       go_wp2_with fail
       refine (unhide HC).mono ?_
       rintro e w5 ⟨v5, rfl, hl5, hb5⟩
       obtain ⟨x5, c5, rfl, hs5⟩ := hl5.sls inC_len (by omega)
       have HB5 := hide ((unhide HBg2).trans (hb5.mono (unhide HBg2).size))
       have HS5 := hide hs5
       clear hl5 hs5 hb5 HC
       go_wp2
       go_meet
       case rel => exact ⟨_, _, rfl, unhide HS5, unhide HB5⟩
      ·have hv := unhide HVD
       rw [if_neg h0] at hv
       subst hv
       have h0b : (G2 == 0) = false := beq_eq_false_iff_ne.2 h0
       go_wp2
       go_meet
       case rel => exact ⟨none, 0, rfl, slsI_nil _, unhide HBg2⟩
     case rest =>
      obtain ⟨xm, dm, rfl, hsm, hbw⟩ := hcut
      obtain ⟨wm, hwm⟩ : ∃ x, x = wc := ⟨wc, rfl⟩
      subst hwm
      have HBm := hide hbw
      have HSm := hide hsm
      have HC1 := hide (unhide HMV wm hbw)
      clear hbw hsm HBg2 HVD HSM HMV
      go_wp2_with fail
      refine (unhide HC1).mono ?_
      rintro e w6 ⟨v6, rfl, hl6, hb6⟩
      obtain ⟨x6, d6, rfl, hs6⟩ := hl6.sls inC_len (by omega)
      have hB6 := (unhide HBm).trans (hb6.mono (unhide HBm).size)
      have HC2 := hide (unhide HES G2 w6 hB6)
      have HS6 := hide (And.intro hs6 ((unhide HSm).below hb6))
      have HB6 := hide hB6
      clear hl6 hs6 hb6 hB6 HC1 HSm HBm
      go_wp2_with fail
      refine (unhide HC2).mono ?_
      rintro e w7 ⟨rfl, hb7⟩
      have HC3 := hide (insame_any x6 xm d6 dm V2 w7 ((unhide HS6).1.below hb7) ((unhide HS6).2.below hb7))
      have HB7 := hide ((unhide HB6).trans (hb7.mono (unhide HB6).size))
      clear hb7 HC2 HS6 HB6
      go_wp2_with fail
      refine (unhide HC3).mono ?_
      rintro e w8 ⟨rfl, hb8⟩
      have HB8 := hide ((unhide HB7).trans (hb8.mono (unhide HB7).size))
      clear hb8 HC3 HB7
      go_upto_region 18 with fail
      go_cut [92] from 22 to 145 (fun v wx => v = .bool T3 /\ w8 = wx)
      case first =>
       have ht := unhide HT3
       cases p
       ·have : T3 = true := by rw [ht]; rfl
        subst this
        clear ht
        go_wp2
        go_meet
        case rel => exact ⟨rfl, rfl⟩
       ·cases q
        ·have : T3 = true := by rw [ht]; rfl
         subst this
         clear ht
         go_wp2
         go_meet
         case rel => exact ⟨rfl, rfl⟩
        ·cases r
         ·have : T3 = true := by rw [ht]; rfl
          subst this
          clear ht
          go_wp2
          go_meet
          case rel => exact ⟨rfl, rfl⟩
         ·by_cases hl : NM = NA
          ·by_cases hm : NM = NB
           ·have : T3 = false := by rw [ht]; simp [hl]; rw [<- hl]; exact hm
            subst this
            clear ht
            subst hl
            subst hm
            go_wp2
            go_meet
            case rel => exact ⟨rfl, rfl⟩
           ·have : T3 = true := by rw [ht]; simp [hl]; rw [<- hl]; exact hm
            subst this
            clear ht
            subst hl
            have hlb : ((NM : Int) != (NB : Int)) = true := bne_iff_ne.2 (fun h => hm (by omega))
            go_wp2
            go_meet
            case rel => exact ⟨rfl, rfl⟩
          ·have : T3 = true := by rw [ht]; simp [hl]
           subst this
           clear ht
           have hlb : ((NM : Int) != (NA : Int)) = true := bne_iff_ne.2 (fun h => hl (by omega))
           go_wp2
           go_meet
           case rel => exact ⟨rfl, rfl⟩
      case rest =>
       obtain ⟨rfl, hwx⟩ := hcut
       subst hwx
       clear HT3
       go_upto_if 92 with fail
       go_cut [10] from 22 to 145 (fun v wx => v = .int .i64 (mE T3) /\ w8 = wx)
       case first =>
        cases T3
        all_goals
         go_wp2
         go_meet
         case rel => exact ⟨rfl, rfl⟩
       case rest =>
        obtain ⟨rfl, hwx⟩ := hcut
        subst hwx
        generalize mE T3 = KK0 at *
        obtain ⟨KK1, hKK1⟩ : ∃ x, thn KK0 FM = x := ⟨_, rfl⟩
        rw [hKK1] at HE3
        go_upto_if 94 with fail
        go_cut [10] from 22 to 145 (fun v wx => v = .int .i64 KK1 /\ Below w.heap.size w wx)
        case first =>
         by_cases h0 : KK0 = 0
         ·subst h0
          rw [thn_zero] at hKK1
          subst hKK1
          have HC := hide (unhide HF1 w8 (unhide HB8))
          go_wp2_with fail
          refine (unhide HC).mono ?_
          rintro e w5 ⟨rfl, hb5⟩
          have HB5 := hide ((unhide HB8).trans (hb5.mono (unhide HB8).size))
          clear hb5 HC
          go_wp2
          go_meet
          case rel => exact ⟨rfl, unhide HB5⟩
         ·rw [thn_no h0] at hKK1
          subst hKK1
          have h0b : (KK0 == 0) = false := beq_eq_false_iff_ne.2 h0
          go_wp2
          go_meet
          case rel => exact ⟨rfl, unhide HB8⟩
        case rest =>
         obtain ⟨rfl, hbw⟩ := hcut
         obtain ⟨wkk1, hwkk1⟩ : ∃ x, x = wc := ⟨wc, rfl⟩
         subst hwkk1
         have HBkk1 := hide hbw
         clear hbw hKK1 HB8
         obtain ⟨KK2, hKK2⟩ : ∃ x, thn KK1 FA = x := ⟨_, rfl⟩
         rw [hKK2] at HE3
         go_upto_if 98 with fail
         go_cut [10] from 22 to 145 (fun v wx => v = .int .i64 KK2 /\ Below w.heap.size w wx)
         case first =>
          by_cases h0 : KK1 = 0
          ·subst h0
           rw [thn_zero] at hKK2
           subst hKK2
           have HC := hide (unhide HF2 wkk1 (unhide HBkk1))
           go_wp2_with fail
           refine (unhide HC).mono ?_
           rintro e w5 ⟨rfl, hb5⟩
           have HB5 := hide ((unhide HBkk1).trans (hb5.mono (unhide HBkk1).size))
           clear hb5 HC
           go_wp2
           go_meet
           case rel => exact ⟨rfl, unhide HB5⟩
          ·rw [thn_no h0] at hKK2
           subst hKK2
           have h0b : (KK1 == 0) = false := beq_eq_false_iff_ne.2 h0
           go_wp2
           go_meet
           case rel => exact ⟨rfl, unhide HBkk1⟩
         case rest =>
          obtain ⟨rfl, hbw⟩ := hcut
          obtain ⟨wkk2, hwkk2⟩ : ∃ x, x = wc := ⟨wc, rfl⟩
          subst hwkk2
          have HBkk2 := hide hbw
          clear hbw hKK2 HBkk1
          obtain ⟨KK3, hKK3⟩ : ∃ x, thn KK2 FB = x := ⟨_, rfl⟩
          rw [hKK3] at HE3
          go_upto_if 102 with fail
          go_cut [10] from 22 to 145 (fun v wx => v = .int .i64 KK3 /\ Below w.heap.size w wx)
          case first =>
           by_cases h0 : KK2 = 0
           ·subst h0
            rw [thn_zero] at hKK3
            subst hKK3
            have HC := hide (unhide HF3 wkk2 (unhide HBkk2))
            go_wp2_with fail
            refine (unhide HC).mono ?_
            rintro e w5 ⟨rfl, hb5⟩
            have HB5 := hide ((unhide HBkk2).trans (hb5.mono (unhide HBkk2).size))
            clear hb5 HC
            go_wp2
            go_meet
            case rel => exact ⟨rfl, unhide HB5⟩
           ·rw [thn_no h0] at hKK3
            subst hKK3
            have h0b : (KK2 == 0) = false := beq_eq_false_iff_ne.2 h0
            go_wp2
            go_meet
            case rel => exact ⟨rfl, unhide HBkk2⟩
          case rest =>
           obtain ⟨rfl, hbw⟩ := hcut
           obtain ⟨wkk3, hwkk3⟩ : ∃ x, x = wc := ⟨wc, rfl⟩
           subst hwkk3
           have HBkk3 := hide hbw
           clear hbw hKK3 HBkk2
           have hc3 := unhide HE3
           subst hc3
           clear HE3
           go_upto_if 106 with fail
           go_cut [10, 16, 17] from 22 to 145 (fun ve vi vt wx => ve = .int .i64 E3 /\ (∃ x c, vi = .slice x L3.length c /\ Bs wx x c L3) /\ (∃ x c, vt = .slice x K3.length c /\ Sls inC 1 wx x c K3) /\ Below w.heap.size w wx)
           case first =>
            by_cases h0 : KK3 = 0
            ·subst h0
             have HC := hide (unhide HST rfl wkk3 (unhide HBkk3))
             go_wp2_with fail
             refine (unhide HC).mono ?_
             rintro e w5 ⟨x5, c5, v5, rfl, hbs5, hl5, hb5⟩
             obtain ⟨y5, d5, rfl, hs5⟩ := hl5.sls inC_len (by omega)
             have HB5 := hide ((unhide HBkk3).trans (hb5.mono (unhide HBkk3).size))
             have HS5 := hide (And.intro hbs5 hs5)
             clear hl5 hs5 hb5 hbs5 HC
             go_wp2
             go_meet
             case rel => exact ⟨rfl, ⟨_, _, rfl, (unhide HS5).1⟩, ⟨_, _, rfl, (unhide HS5).2⟩, unhide HB5⟩
            ·have h0b : (KK3 == 0) = false := beq_eq_false_iff_ne.2 h0
             obtain ⟨t1, t2, t3⟩ := unhide HTB h0
             subst t1 t2 t3
             go_wp2
             go_meet
             case rel => exact ⟨rfl, ⟨none, 0, rfl, bs_nil _⟩, ⟨none, 0, rfl, slsI_nil _⟩, unhide HBkk3⟩
           case rest =>
            obtain ⟨rfl, ⟨xi, ci, rfl, hbi⟩, ⟨xt, ct, rfl, hst⟩, hbw⟩ := hcut
            obtain ⟨wn, hwn⟩ : ∃ x, x = wc := ⟨wc, rfl⟩
            subst hwn
            have HBn := hide hbw
            have HIn := hide (And.intro hbi hst)
            have HC4 := hide (unhide HTH wn hbw)
            clear hbw hbi hst HBkk3 HST HTB HTH
            go_wp2_with fail
            refine (unhide HC4).mono ?_
            rintro e w9 ⟨x9, c9, v9, rfl, hbs9, hl9, hb9⟩
            obtain ⟨y9, d9, rfl, hs9⟩ := hl9.sls inC_len (by omega)
            have hB9 := (unhide HBn).trans (hb9.mono (unhide HBn).size)
            have HC5 := hide (unhide HES E3 w9 hB9)
            have HB9 := hide hB9
            have HS9 := hide (And.intro hs9 ((unhide HIn).2.below hb9))
            have HX9 := hide (And.intro hbs9 ((unhide HIn).1.below hb9))
            clear hl9 hs9 hb9 hB9 hbs9 HC4 HIn HBn
            go_wp2_with fail
            refine (unhide HC5).mono ?_
            rintro e w10 ⟨rfl, hb10⟩
            have HC6 := hide (insame_any y9 xt d9 ct K3 w10 ((unhide HS9).1.below hb10) ((unhide HS9).2.below hb10))
            have HX10 := hide (And.intro ((unhide HX9).1.below hb10) ((unhide HX9).2.below hb10))
            have HB10 := hide ((unhide HB9).trans (hb10.mono (unhide HB9).size))
            clear hb10 HC5 HB9 HX9 HS9
            go_wp2_with fail
            refine (unhide HC6).mono ?_
            rintro e w11 ⟨rfl, hb11⟩
            have hcv1 := conv_str (P := Tryz.prog) (t := 22) (e := 9) Tryz.underlying22 Tryz.underlying5 Tryz.underlying9 ((unhide HX10).1.below hb11)
            have hcv2 := conv_str (P := Tryz.prog) (t := 22) (e := 9) Tryz.underlying22 Tryz.underlying5 Tryz.underlying9 ((unhide HX10).2.below hb11)
            have HB11 := hide ((unhide HB10).trans (hb11.mono (unhide HB10).size))
            clear hb11 HC6 HB10 HX10
            generalize strOf L3 = SL at *
            go_wp2
            go_ret
            exact ⟨rfl, unhide HB11⟩
end Go.Proofs.YtifmemombecoaaaGreatDoor
