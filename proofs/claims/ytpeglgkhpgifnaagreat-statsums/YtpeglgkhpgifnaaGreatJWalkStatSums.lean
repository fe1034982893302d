/-
  The walk of StatSums. (Part of the proof of StatSums.)
-/
import Derived.Test.YtpeglgkhpgifnaaGreatJSf
import Derived.Deep.CutRange
namespace Go.Proofs.YtpeglgkhpgifnaaGreat
open Go.RowKit Go.Sort
set_option linter.unusedVariables false

theorem sw_roots {L : List Int} (hf : Fine L) : rootsK (swL L (ddK L 40)) 8 = rootsK L 8 := rootsK_same 8 (sweep_swept hf).rows
set_option maxRecDepth 100000 in
set_option maxHeartbeats 16000000 in
theorem walkStatSums (a : Option Addr) (cap : Nat) (l : List Int) (a1 : Option Addr) (cap1 : Nat) (l1 : List Int) (a2 : Option Addr) (cap2 : Nat) (l2 : List Int) (w : World) (hs : Is w a cap l) (hs1 : Is w a1 cap1 l1) (hs2 : Is w a2 cap2 l2) :
    Calls Tryz.prog 4 #[.slice a l.length cap, .slice a1 l1.length cap1, .slice a2 l2.length cap2] w fun e w' => e = .returned (.bool true) ∧ Below w.heap.size w w' := by
  have hl := hs.2.2.1
  have hl1 := hs1.2.2.1
  have hl2 := hs2.2.2.1
  have HI0 := hide hs
  have HI1 := hide hs1
  have HI2 := hide hs2
  have HN := hide (sf_new 1000 (by decide) w)
  have HR0 := hide (Rm.zero (N := 1000) (by decide) (by decide))
  clear hs hs1 hs2
  go_enter Tryz.func4, Tryz.ntmps4
  go_wp2_with fail
  refine (unhide HN).mono ?_
  rintro e w1 ⟨p, rfl, hS1⟩
  have HS1 := hide hS1
  clear hS1 HN
  go_upto_region 4 with fail
  go_cut [9] from 30 to 30 (fun v wx => v = .int .i64 0 ∧ wx = w1)
  case first =>
    go_wp2
    go_meet
    case rel => exact ⟨rfl, rfl⟩
  case rest =>
    obtain ⟨rfl, hwx⟩ := hcut
    replace hwx := hwx.symm
    subst hwx
    refine (‹∀ (a : Act) (w : World), Code.wp Tryz.prog (Code.block _ _) _ a w → _›) _ _ ?_
    go_cut [9] from 30 to 47 (fun _ wx => ∃ X : List Int, Rm 1000 X ∧ SfS w wx p X (fun _ => False))
    case first =>
      go_wp2_with fail
      go_loopw [9] (fun iv wr => ∃ (k : Nat) (X : List Int), k ≤ 30 ∧ iv = .int .i64 k ∧ Rm 1000 X ∧ SfS w wr p X (fun _ => False)) (fun iv _ => 30 - (intOf iv).toNat)
      case atStart => exact ⟨0, _, by omega, rfl, unhide HR0, unhide HS1⟩
      case round =>
        obtain ⟨k, X, hk, rfl, hR, hS⟩ := hrel
        clear HS1
        by_cases hlt : k < l.length
        · have f1 : (k : Int) < (l.length : Int) := by omega
          by_cases h30 : k < 30
          · have f2 : (k : Int) < 30 := by omega
            obtain ⟨z, hz⟩ : ∃ z, l[k]? = some z := ⟨l[k], List.getElem?_eq_getElem hlt⟩
            obtain ⟨b1, o1, rfl, q0⟩ := ((unhide HI0).below hS.belowW).cellAt hz
            have HR := hide hR
            have HC := hide (hS.alloc z ((k : Int) % 16))
            have hm16 : Int.tmod (k : Int) 16 = (k : Int) % 16 := Int.tmod_eq_emod_of_nonneg (by omega)
            have hm0 : 0 ≤ (k : Int) % 16 ∧ (k : Int) % 16 ≤ 15 := by omega
            clear hz hS hR
            go_wp2_with fail
            refine (unhide HC).mono ?_
            rintro e w3 ⟨rfl, hS3, _⟩
            have HS3 := hide hS3
            clear hS3 HC
            go_wp2
            go_roundw
            case rel => exact ⟨k + 1, _, by omega, by go_num, (unhide HR).al z ((k : Int) % 16), unhide HS3⟩
            case measure => simp [intOf]; omega
          · have f2 : ¬ (k : Int) < 30 := by omega
            have HR := hide hR
            have HSS := hide hS
            clear hR hS
            go_wp2
            go_meet
            case rel => exact ⟨_, unhide HR, unhide HSS⟩
        · have f1 : ¬ (k : Int) < (l.length : Int) := by omega
          have HR := hide hR
          have HSS := hide hS
          clear hR hS
          go_wp2
          go_meet
          case rel => exact ⟨_, unhide HR, unhide HSS⟩
    case rest =>
      obtain ⟨X1, hR1, hS1⟩ := hcut
      have HR1 := hide hR1
      have HT1 := hide hS1
      clear hR1 hS1 HS1 HR0
      go_upto_region 8 with fail
      go_cut [10] from 48 to 48 (fun v wx => v = .int .i64 0 ∧ wx = wc)
      case first =>
        go_wp2
        go_meet
        case rel => exact ⟨rfl, rfl⟩
      case rest =>
        obtain ⟨rfl, hwx⟩ := hcut
        replace hwx := hwx.symm
        subst hwx
        refine (‹∀ (a : Act) (w : World), Code.wp Tryz.prog (Code.block _ _) _ a w → _›) _ _ ?_
        go_cut [10] from 48 to 63 (fun _ wx => ∃ X : List Int, Rm 1000 X ∧ SfS w wx p X (fun _ => False))
        case first =>
          go_wp2_with fail
          go_loopw [10] (fun iv wr => ∃ (k : Nat) (X : List Int), k ≤ 30 ∧ iv = .int .i64 k ∧ Rm 1000 X ∧ SfS w wr p X (fun _ => False)) (fun iv _ => 30 - (intOf iv).toNat)
          case atStart => exact ⟨0, _, by omega, rfl, unhide HR1, unhide HT1⟩
          case round =>
            obtain ⟨k, X, hk, rfl, hR, hS⟩ := hrel
            clear HT1
            by_cases hlt : k < l1.length
            · have f1 : (k : Int) < (l1.length : Int) := by omega
              by_cases h30 : k < 30
              · have f2 : (k : Int) < 30 := by omega
                obtain ⟨z, hz⟩ : ∃ z, l1[k]? = some z := ⟨l1[k], List.getElem?_eq_getElem hlt⟩
                obtain ⟨b1, o1, rfl, q0⟩ := ((unhide HI1).below hS.belowW).cellAt hz
                have HR := hide hR
                have HC := hide (hS.free z)
                clear hz hS hR
                go_wp2_with fail
                refine (unhide HC).mono ?_
                rintro e w3 ⟨rfl, hS3, _⟩
                have HS3 := hide hS3
                clear hS3 HC
                go_wp2
                go_roundw
                case rel => exact ⟨k + 1, _, by omega, by go_num, (unhide HR).fr z, unhide HS3⟩
                case measure => simp [intOf]; omega
              · have f2 : ¬ (k : Int) < 30 := by omega
                have HR := hide hR
                have HSS := hide hS
                clear hR hS
                go_wp2
                go_meet
                case rel => exact ⟨_, unhide HR, unhide HSS⟩
            · have f1 : ¬ (k : Int) < (l1.length : Int) := by omega
              have HR := hide hR
              have HSS := hide hS
              clear hR hS
              go_wp2
              go_meet
              case rel => exact ⟨_, unhide HR, unhide HSS⟩
        case rest =>
          obtain ⟨X, hR, hS⟩ := hcut
          clear HR1 HT1 HI0 HI1
          obtain ⟨O, U, F, M, R, s⟩ : ∃ O U F M R, Sta X O U F M R := ⟨_, _, _, _, _, Sta.of X⟩
          have hf := hR.fine
          obtain ⟨s1, s2, s3, s4, s5, s6, s7, s8, s9, s10⟩ := s.sums hf
          rw [hR.len] at s1
          have HHP := hide (hS.heap s)
          have HST := hide s
          have HR := hide hR
          have htg := tgL_len X
          have HTS := hide ((tgL_sum hf).trans s.u)
          have HTB := hide (tgL_bd hf)
          have HSUM := hide (sum_bd (M := 2621400) (by decide) (tgL_bd hf))
          have hlo := ls_in s3 s4 s10
          clear hS hR s hf
          generalize hTG : tgL X = TG at *
          have HTG := hide hTG
          clear hTG
          have hUF : (U + F != 712) = false := by rw [show U + F = 712 by omega]; rfl
          have hFR : ((F == 0) != (R == 0)) = false := by
            by_cases h : F = 0
            · rw [h, s9.1 h]; rfl
            · have h2 : R ≠ 0 := fun e => h (s9.2 e)
              rw [beq_eq_false_iff_ne.2 h, beq_eq_false_iff_ne.2 h2]; rfl
          go_wp2_with fail
          refine (unhide HHP).mono ?_
          rintro e w3 ⟨rfl, hS3, _⟩
          have hgs : w.heap.size ≤ w3.heap.size := hS3.belowW.size
          have hA := (hS3.add (.cells #[.int .i64 O, .int .i64 U, .int .i64 F, .int .i64 M, .int .i64 R] 33)).1
          have hA4 := hA.less (T' := fun k => k = w3.heap.size) (fun k hk => .inr hk)
          have hsb := StB.new w3 O U F M R
          obtain ⟨c0, c1, c2, c3, c4⟩ := hsb.cells
          have HSB := hide hsb
          have hbt := hA4.byTag
          rw [unhide HTG] at hbt
          have HG4 := hide hbt
          clear hbt
          generalize hw4 : w3.alloc (.cells #[.int .i64 O, .int .i64 U, .int .i64 F, .int .i64 M, .int .i64 R] 33) = w4 at *
          have HW4 := hide hw4
          clear hS3 hA hA4 hsb HHP hw4
          go_upto_region 13 with fail
          try rw [unhide HW4]
          generalize w3.heap.size = gs at *
          go_cut [102] from 69 to 102 (fun v wx => v = .bool false ∧ wx = w4)
          case first =>
            have hMF : ¬ F < M := by omega
            have hRO : ¬ O + 1 < R := by omega
            have b1 : 0 ≤ U ∧ U ≤ 712 := by omega
            have b2 : 0 ≤ F ∧ F ≤ 712 := by omega
            have b3 : 0 ≤ O ∧ O ≤ 40 := by omega
            clear s1 s2 s3 s4 s5 s6 s7 s8 s9 s10
            cases hF0 : (F == 0)
            · have hR0 : (R == 0) = false := by rw [hF0] at hFR; cases h : (R == 0) <;> simp [h] at hFR <;> rfl
              clear hFR
              go_wp2
              go_meet
              case rel => exact ⟨rfl, rfl⟩
            · have hR0 : (R == 0) = true := by rw [hF0] at hFR; cases h : (R == 0) <;> simp [h] at hFR <;> rfl
              clear hFR
              go_wp2
              go_meet
              case rel => exact ⟨rfl, rfl⟩
          obtain ⟨rfl, hwx⟩ := hcut
          subst hwx
          clear hUF hFR s5 s6 s7 s8 s9 s10
          go_wp2_with fail
          refine (unhide HG4).mono ?_
          rintro e w5 ⟨q, rfl, hq, hS5, hk5⟩
          have hsb5 := (unhide HSB).kpt hk5 rfl
          have HSB5 := hide hsb5
          have HQ := hide hq
          have HS5 := hide hS5
          clear hq hS5 hk5 hsb5 HG4 HSB HW4 c0 c1 c2 c3 c4
          go_wp2_with fail
          go_loopw [13, 15] (fun sv iv wr => ∃ k : Nat, k ≤ 16 ∧ iv = .int .i64 k ∧ sv = .int .i64 (TG.take k).sum ∧ w5 = wr) (fun _ iv _ => 16 - (intOf iv).toNat)
          case atStart => exact ⟨0, by omega, rfl, rfl, rfl⟩
          case round =>
            obtain ⟨k, hk, rfl, rfl, rfl⟩ := hrel
            by_cases hlt : k < 16
            · have q0 := (unhide HQ).cell (i := k) (by omega)
              have hb := unhide HSUM k (by omega)
              have hb1 := unhide HTB (TG.getD k 0) (by rw [show TG.getD k 0 = TG[k]'(by omega) by simp [List.getD, show k < TG.length by omega]]; exact List.getElem_mem _)
              have HNX := hide (sum_takes (t := TG) (k := k) (by omega))
              generalize TG.getD k 0 = z at *
              generalize (TG.take k).sum = S at *
              have f1 : (k : Int) < 16 := by omega
              go_wp2
              go_roundw
              case rel => exact ⟨k + 1, by omega, by go_num, by rw [unhide HNX], trivial⟩
              case measure => simp [intOf]; omega
            · obtain rfl : k = 16 := by omega
              have e16 : (TG.take 16).sum = U := by rw [List.take_of_length_le (by omega)]; exact unhide HTS
              rw [e16]
              have HLO := hide ((unhide HS5).loose (unhide HST))
              clear HQ HSUM HTB HTS
              generalize lsN F M = LS at *
              go_wp2_with fail
              refine (unhide HLO).mono ?_
              rintro e w6 ⟨rfl, hS6, hk6⟩
              have hsb6 := (unhide HSB5).kpt hk6 rfl
              obtain ⟨c0, c1, c2, c3, c4⟩ := hsb6.cells
              have HSB6 := hide hsb6
              have HCAN := hide (hS6.can a2 cap2 l2 ((unhide HI2).below hS6.belowW))
              clear hS6 hk6 hsb6 HLO HSB5 HS5
              go_upto_region 22 with fail
              go_cut [142] from 122 to 142 (fun v wx => v = .bool false ∧ wx = w6)
              case first =>
                clear HI2 HST HR HTG HSB6 HCAN
                have hUU : (U != U) = false := by simp
                have hlo1 : ¬ LS < 0 := by omega
                have hlo2 : ¬ 99 < LS := by omega
                go_wp2
                go_meet
                case rel => exact ⟨rfl, rfl⟩
              obtain ⟨rfl, hwx⟩ := hcut
              subst hwx
              by_cases h0 : cnE l2 = 0
              case neg =>
                rw [errV_pos _ h0] at HCAN
                generalize cnE l2 = CE at *
                go_wp2_with fail
                refine (unhide HCAN).mono ?_
                rintro e w7 ⟨rfl, hS7, hk7⟩
                have HB7 := hide hS7.belowW
                clear hS7 hk7 HCAN
                go_wp2
                go_ret
                exact ⟨rfl, unhide HB7⟩
              have h200 : l2.length ≤ 200 := by
                unfold cnE at h0
                by_cases h : 200 < l2.length
                · rw [if_pos h] at h0; cases h0
                · omega
              rw [h0, errV_zero, if_pos rfl] at HCAN
              have hcn := cnN_le l2 X
              have HSP := hide (fun i n hn hi => cn_spec l2 X i n hn hi)
              have HTK := hide (fun i n (hn : l2[i]? = some n) => als_take (X := X) hn)
              have H0 : Hid (alsL X (l2.take 0) = X) := hide rfl
              clear h0
              generalize cnN X l2 = CN at *
              go_wp2_with fail
              refine (unhide HCAN).mono ?_
              rintro e w7 ⟨rfl, hS7, hk7⟩
              have HSB7 := hide ((unhide HSB6).kpt hk7 rfl)
              have HS7 := hide hS7
              clear hS7 hk7 HCAN HSB6 c0 c1 c2 c3 c4
              go_upto_region 27 with fail
              go_cut [19] from 151 to 151 (fun v wx => v = .int .i64 0 ∧ wx = w7)
              case first =>
                go_wp2
                go_meet
                case rel => exact ⟨rfl, rfl⟩
              case rest =>
                obtain ⟨rfl, hwx⟩ := hcut
                replace hwx := hwx.symm
                subst hwx
                refine (‹∀ (a : Act) (w : World), Code.wp Tryz.prog (Code.block _ _) _ a w → _›) _ _ ?_
                go_cut [19, 20, 21] from 151 to 176 (fun _ _ _ wx => ∃ X' : List Int, Rm 1000 X' ∧ SfS w wx p X' (fun k => k = gs) ∧ StB wx gs O U F M R)
                case first =>
                  go_wp2_with fail
                  go_loopw [19] (fun iv wr => ∃ (k : Nat) (X' : List Int), k ≤ l2.length ∧ k ≤ CN + 1 ∧ iv = .int .i64 k ∧ (k ≤ CN → X' = alsL X (l2.take k)) ∧ Rm 1000 X' ∧ SfS w wr p X' (fun k => k = gs) ∧ StB wr gs O U F M R) (fun iv _ => 300 - (intOf iv).toNat)
                  case atStart => exact ⟨0, X, Nat.zero_le _, Nat.zero_le _, rfl, fun _ => (unhide H0).symm, unhide HR, unhide HS7, unhide HSB7⟩
                  case round =>
                    obtain ⟨k, X', hk, hkc, rfl, hX, hR', hS, hsb⟩ := hrel
                    clear HS7 HSB7
                    by_cases hlt : k < l2.length
                    · have f1 : (k : Int) < (l2.length : Int) := by omega
                      by_cases hle : k ≤ CN
                      · have f2 : (k : Int) ≤ (CN : Int) := by omega
                        obtain rfl := hX hle
                        obtain ⟨z, hz⟩ : ∃ z, l2[k]? = some z := ⟨l2[k], List.getElem?_eq_getElem hlt⟩
                        obtain ⟨b1, o1, rfl, q0⟩ := ((unhide HI2).below hS.belowW).cellAt hz
                        have HSPk := hide (unhide HSP k z hz hle)
                        have HTKk := hide (unhide HTK k z hz)
                        have HC := hide (hS.alloc z 0)
                        have HR' := hide (hR'.al z 0)
                        have HSB := hide hsb
                        clear hz hS hR' hX hsb HSP HTK
                        by_cases hlc : k < CN
                        · have f3 : (k : Int) < (CN : Int) := by omega
                          rw [(unhide HSPk).2 hlc, errV_zero] at HC
                          go_wp2_with fail
                          refine (unhide HC).mono ?_
                          rintro e w8 ⟨rfl, hS8, hk8⟩
                          have HSB8 := hide ((unhide HSB).kpt hk8 rfl)
                          have HS8 := hide hS8
                          clear hS8 hk8 HC HSB
                          go_wp2
                          go_roundw
                          case rel => exact ⟨k + 1, _, by omega, by omega, by go_num, fun _ => (unhide HTKk).symm, unhide HR', unhide HS8, unhide HSB8⟩
                          case measure => simp [intOf]; omega
                        · have f3 : ¬ (k : Int) < (CN : Int) := by omega
                          have hne := mt (unhide HSPk).1 hlc
                          rw [errV_pos _ hne] at HC
                          clear hne
                          generalize alE (alsL X (l2.take k)) z 0 = AE at *
                          go_wp2_with fail
                          refine (unhide HC).mono ?_
                          rintro e w8 ⟨rfl, hS8, hk8⟩
                          have HSB8 := hide ((unhide HSB).kpt hk8 rfl)
                          have HS8 := hide hS8
                          clear hS8 hk8 HC HSB
                          go_wp2
                          go_roundw
                          case rel => exact ⟨k + 1, _, by omega, by omega, by go_num, fun h => absurd h (by omega), unhide HR', unhide HS8, unhide HSB8⟩
                          case measure => simp [intOf]; omega
                      · have f2 : ¬ (k : Int) ≤ (CN : Int) := by omega
                        have HQ : Hid (Rm 1000 X' ∧ SfS w wr p X' (fun k => k = gs) ∧ StB wr gs O U F M R) := hide ⟨hR', hS, hsb⟩
                        clear hR' hS hsb hX
                        go_wp2
                        go_meet
                        case rel => exact ⟨_, unhide HQ⟩
                    · have f1 : ¬ (k : Int) < (l2.length : Int) := by omega
                      have HQ : Hid (Rm 1000 X' ∧ SfS w wr p X' (fun k => k = gs) ∧ StB wr gs O U F M R) := hide ⟨hR', hS, hsb⟩
                      clear hR' hS hsb hX
                      go_wp2
                      go_meet
                      case rel => exact ⟨_, unhide HQ⟩
                case rest =>
                  obtain ⟨X', hR', hS, hsb⟩ := hcut
                  clear HS7 HSB7 HSP HTK H0
                  have hf' := hR'.fine
                  obtain ⟨m, mn⟩ := mvA_as hf'
                  have hr : rootsK (mvA X') 8 = [] := m.roots.trans hR'.roots
                  obtain ⟨z1, z2⟩ := swept_sta m.fine hr
                  have hsr := (sw_roots m.fine).trans hr
                  rw [m.len, hR'.len, if_pos (by decide)] at z2
                  have HZ2 := hide z2
                  have HSR := hide hsr
                  have HC1 := hide hS.all
                  have HSB := hide hsb
                  clear hS hsb z2 z1 hr m mn hf' hR' hsr
                  go_wp2_with fail
                  refine (unhide HC1).mono ?_
                  rintro e w8 ⟨rfl, hS8, hk8⟩
                  have HSB8 := hide ((unhide HSB).kpt hk8 rfl)
                  have HC2 := hide hS8.sweep
                  clear hS8 hk8 HC1 HSB
                  go_wp2_with fail
                  refine (unhide HC2).mono ?_
                  rintro e w9 ⟨rfl, hS9, hk9⟩
                  have HSB9 := hide ((unhide HSB8).kpt hk9 rfl)
                  have HC3 := hide (hS9.roots (unhide HSR))
                  clear hS9 hk9 HC2 HSB8
                  go_wp2_with fail
                  refine (unhide HC3).mono ?_
                  rintro e w10 ⟨ar, cr, rfl, hS10, hk10⟩
                  have HSB10 := hide ((unhide HSB9).kpt hk10 rfl)
                  have HC4 := hide (hS10.heap (unhide HZ2))
                  clear hS10 hk10 HC3 HSB9
                  go_wp2_with fail
                  refine (unhide HC4).mono ?_
                  rintro e w11 ⟨rfl, hS11, hk11⟩
                  have hsb11 := (unhide HSB10).kpt hk11 rfl
                  obtain ⟨c0, c1, c2, c3, c4⟩ := hsb11.cells
                  have f0 := hsb11.fr 0
                  have f1 := hsb11.fr 1
                  have f2 := hsb11.fr 2
                  have f3 := hsb11.fr 3
                  have f4 := hsb11.fr 4
                  have hlt11 := hsb11.lt
                  have HB11 := hide (((((hS11.belowW.setCell (p := ⟨gs, 0, none⟩) hgs (.int .i64 0)).setCell (p := ⟨gs, 1, none⟩) hgs (.int .i64 0)).setCell (p := ⟨gs, 2, none⟩) hgs (.int .i64 (((1000 : Nat) : Int) - 288))).setCell (p := ⟨gs, 3, none⟩) hgs (.int .i64 (((1000 : Nat) : Int) - 288))).setCell (p := ⟨gs, 4, none⟩) hgs (.int .i64 1))
                  clear hS11 hk11 HC4 HSB10 hsb11
                  go_wp2
                  go_ret
                  exact ⟨rfl, unhide HB11⟩
end Go.Proofs.YtpeglgkhpgifnaaGreat
