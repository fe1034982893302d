/-
  The walk of MoveRoom. (Part of the proof of MoveRoom.)
-/
import Derived.Test.YtpeglgkhpgifnaaGreatJSf
import Derived.Deep.CutRange
namespace Go.Proofs.YtpeglgkhpgifnaaGreat
open Go.RowKit Go.Sort
set_option linter.unusedVariables false

set_option maxRecDepth 100000 in
set_option maxHeartbeats 8000000 in
theorem walkMoveRoom (a : Option Addr) (cap : Nat) (l : List Int) (a1 : Option Addr) (cap1 : Nat) (l1 : List Int) (w : World) (hs : Is w a cap l) (hs1 : Is w a1 cap1 l1) :
    Calls Tryz.prog 5 #[.slice a l.length cap, .slice a1 l1.length cap1] w fun e w' => e = .returned (.bool true) ∧ Below w.heap.size w w' := by
  have hl := hs.2.2.1
  have hl1 := hs1.2.2.1
  have HS := hide hs
  have HS1 := hide hs1
  have HN := hide (sf_new 800 (by decide) w)
  have HR0 := hide (Rm.zero (N := 800) (by decide) (by decide))
  clear hs hs1
  go_enter Tryz.func5, Tryz.ntmps5
  go_wp2_with fail
  refine (unhide HN).mono ?_
  rintro e w1 ⟨p, rfl, hS1⟩
  have hby := hS1.bytes
  rw [(unhide HR0).len] at hby
  have HBY := hide hby
  clear hby hS1 HN
  go_wp2_with fail
  refine (unhide HBY).mono ?_
  rintro e w2 ⟨ab, cb, rfl, _, hS2, _⟩
  have HS2 := hide hS2
  clear hS2 HBY
  go_upto_region 4 with fail
  go_cut [7] from 31 to 31 (fun v wx => v = .int .i64 0 ∧ wx = w2)
  case first =>
    go_wp2
    go_meet
    case rel => exact ⟨rfl, rfl⟩
  case rest =>
    obtain ⟨rfl, hwx⟩ := hcut
    replace hwx := hwx.symm
    subst hwx
    refine (‹∀ (a : Act) (w : World), Code.wp Tryz.prog (Code.block _ _) _ a w → _›) _ _ ?_
    go_cut [7] from 31 to 46 (fun _ wx => ∃ X : List Int, Rm 800 X ∧ SfS w wx p X (fun _ => False))
    case first =>
      go_wp2_with fail
      go_loopw [7] (fun iv wr => ∃ (k : Nat) (X : List Int), k ≤ 30 ∧ iv = .int .i64 k ∧ Rm 800 X ∧ SfS w wr p X (fun _ => False)) (fun iv _ => 30 - (intOf iv).toNat)
      case atStart => exact ⟨0, _, by omega, rfl, unhide HR0, unhide HS2⟩
      case round =>
        obtain ⟨k, X, hk, rfl, hR, hS⟩ := hrel
        clear HS2
        by_cases hlt : k < l.length
        · have f1 : (k : Int) < (l.length : Int) := by omega
          by_cases h30 : k < 30
          · have f2 : (k : Int) < 30 := by omega
            obtain ⟨z, hz⟩ : ∃ z, l[k]? = some z := ⟨l[k], List.getElem?_eq_getElem hlt⟩
            obtain ⟨b1, o1, rfl, q0⟩ := ((unhide HS).below hS.belowW).cellAt hz
            have HC := hide (hS.alloc z 0)
            have HR := hide hR
            clear hz hS hR
            go_wp2_with fail
            refine (unhide HC).mono ?_
            rintro e w3 ⟨rfl, hS3, _⟩
            have HS3 := hide hS3
            clear hS3 HC
            go_wp2
            go_roundw
            case rel => exact ⟨k + 1, _, by omega, by go_num, (unhide HR).al z 0, unhide HS3⟩
            case measure => simp [intOf]; omega
          · have f2 : ¬ (k : Int) < 30 := by omega
            have HR := hide hR
            have HSS := hide hS
            clear hR hS
            go_wp2
            go_meet
            case rel => exact ⟨_, unhide HR, unhide HSS⟩
        · have f1 : ¬ (k : Int) < (l.length : Int) := by omega
          have HR := hide hR
          have HSS := hide hS
          clear hR hS
          go_wp2
          go_meet
          case rel => exact ⟨_, unhide HR, unhide HSS⟩
    case rest =>
      obtain ⟨X1, hR1, hS1⟩ := hcut
      have HR1 := hide hR1
      have HT1 := hide hS1
      clear hR1 hS1 HS2 HR0
      go_upto_region 8 with fail
      go_cut [8] from 47 to 47 (fun v wx => v = .int .i64 0 ∧ wx = wc)
      case first =>
        go_wp2
        go_meet
        case rel => exact ⟨rfl, rfl⟩
      case rest =>
        obtain ⟨rfl, hwx⟩ := hcut
        replace hwx := hwx.symm
        subst hwx
        refine (‹∀ (a : Act) (w : World), Code.wp Tryz.prog (Code.block _ _) _ a w → _›) _ _ ?_
        go_cut [8] from 47 to 62 (fun _ wx => ∃ X : List Int, Rm 800 X ∧ SfS w wx p X (fun _ => False))
        case first =>
          go_wp2_with fail
          go_loopw [8] (fun iv wr => ∃ (k : Nat) (X : List Int), k ≤ 30 ∧ iv = .int .i64 k ∧ Rm 800 X ∧ SfS w wr p X (fun _ => False)) (fun iv _ => 30 - (intOf iv).toNat)
          case atStart => exact ⟨0, _, by omega, rfl, unhide HR1, unhide HT1⟩
          case round =>
            obtain ⟨k, X, hk, rfl, hR, hS⟩ := hrel
            clear HT1
            by_cases hlt : k < l1.length
            · have f1 : (k : Int) < (l1.length : Int) := by omega
              by_cases h30 : k < 30
              · have f2 : (k : Int) < 30 := by omega
                obtain ⟨z, hz⟩ : ∃ z, l1[k]? = some z := ⟨l1[k], List.getElem?_eq_getElem hlt⟩
                obtain ⟨b1, o1, rfl, q0⟩ := ((unhide HS1).below hS.belowW).cellAt hz
                have HC := hide (hS.free z)
                have HR := hide hR
                clear hz hS hR
                go_wp2_with fail
                refine (unhide HC).mono ?_
                rintro e w3 ⟨rfl, hS3, _⟩
                have HS3 := hide hS3
                clear hS3 HC
                go_wp2
                go_roundw
                case rel => exact ⟨k + 1, _, by omega, by go_num, (unhide HR).fr z, unhide HS3⟩
                case measure => simp [intOf]; omega
              · have f2 : ¬ (k : Int) < 30 := by omega
                have HR := hide hR
                have HSS := hide hS
                clear hR hS
                go_wp2
                go_meet
                case rel => exact ⟨_, unhide HR, unhide HSS⟩
            · have f1 : ¬ (k : Int) < (l1.length : Int) := by omega
              have HR := hide hR
              have HSS := hide hS
              clear hR hS
              go_wp2
              go_meet
              case rel => exact ⟨_, unhide HR, unhide HSS⟩
        case rest =>
          obtain ⟨X, hR, hS⟩ := hcut
          clear HR1 HT1 HS HS1
          obtain ⟨O, U, F, M, R, s⟩ : ∃ O U F M R, Sta X O U F M R := ⟨_, _, _, _, _, Sta.of X⟩
          have hf := hR.fine
          obtain ⟨s1, s2, s3, s4, s5, s6, s7, s8, s9, s10⟩ := s.sums hf
          rw [hR.len] at s1
          obtain ⟨R', t, ht1, hgn⟩ := s.moved hf
          have hmv := mvA_still hf
          have hfm := (mvA_as hf).1.fine
          have HHP := hide (hS.heap s)
          have HGN := hide hgn
          have HT := hide t
          have HMV := hide hmv
          have HFM := hide hfm
          have HALL := hide (fun (hF : F ≠ 0) (hF2 : F ≤ 1000) (hO : O ≠ 40) => t.all hfm hmv hF hF2 hO)
          clear hS hR s t hmv hfm hf hgn
          go_wp2_with fail
          refine (unhide HHP).mono ?_
          rintro e w3 ⟨rfl, hS3, _⟩
          have hA := (hS3.add (.cells #[.int .i64 O, .int .i64 U, .int .i64 F, .int .i64 M, .int .i64 R] 33)).1
          have hA4 := hA.less (T' := fun k => k = w3.heap.size) (fun k hk => .inr hk)
          have HSB := hide (StB.new w3 O U F M R)
          have hg4 := hA4.gain
          rw [unhide HGN] at hg4
          have HG4 := hide hg4
          generalize hw4 : w3.alloc (.cells #[.int .i64 O, .int .i64 U, .int .i64 F, .int .i64 M, .int .i64 R] 33) = w4 at *
          have HW4 := hide hw4
          clear hS3 hA hA4 hg4 HHP hw4
          go_wp2_with fail
          try rw [unhide HW4]
          refine (unhide HG4).mono ?_
          rintro e w5 ⟨rfl, hS5, hk5⟩
          have HSB5 := hide ((unhide HSB).kpt hk5 rfl)
          have HC5 := hide hS5.all
          clear hS5 hk5 HG4 HSB HW4
          generalize w3.heap.size = gs at *
          go_wp2_with fail
          refine (unhide HC5).mono ?_
          rintro e w6 ⟨rfl, hS6, hk6⟩
          have HSB6 := hide ((unhide HSB5).kpt hk6 rfl)
          have HC6 := hide (hS6.heap (unhide HT))
          clear hS6 hk6 HC5 HSB5 HT
          go_wp2_with fail
          refine (unhide HC6).mono ?_
          rintro e w7 ⟨rfl, hS7, hk7⟩
          have hsb7 := (unhide HSB6).kpt hk7 rfl
          have hA := (hS7.add (.cells #[.int .i64 O, .int .i64 U, .int .i64 F, .int .i64 F, .int .i64 R'] 33))
          have hsb8 := hsb7.kpt hA.2 rfl
          have HT8 := hide (StB.new w7 O U F F R')
          have HS8 := hide (hA.1.less (T' := fun k => k = w7.heap.size) (fun k hk => .inr hk))
          obtain ⟨c0, c1, c2, c3, c4⟩ := hsb8.cells
          obtain ⟨d0, d1, d2, d3, d4⟩ := (unhide HT8).cells
          have hw8 : True := trivial
          clear hS7 hk7 hsb7 hA hsb8 HC6 HSB6
          have hFF : (F != F) = false := by simp
          have hFM : (F - M != F - M) = false := by simp
          have hOO : (O != O) = false := by simp
          have HB8 := hide (unhide HS8).belowW
          go_upto_region 16 with fail
          generalize hw8 : w7.alloc (.cells #[.int .i64 O, .int .i64 U, .int .i64 F, .int .i64 F, .int .i64 R'] 33) = w8 at *
          by_cases hF : F = 0
          · have hF' : (F == 0) = true := by rw [hF]; rfl
            go_wp2
            go_ret
            exact ⟨rfl, unhide HB8⟩
          · have hF' : (F == 0) = false := by rw [beq_eq_false_iff_ne]; exact hF
            by_cases hO : O = 40
            · have hO' : (O == 40) = true := by rw [hO]; rfl
              go_wp2
              go_ret
              exact ⟨rfl, unhide HB8⟩
            · have hO' : (O == 40) = false := by rw [beq_eq_false_iff_ne]; exact hO
              obtain ⟨x1, x2, O9, U9, M9, x3⟩ := unhide HALL hF (by omega) hO
              have hc := (unhide HS8).alloc F 0
              rw [x1, errV_zero] at hc
              have HC := hide hc
              have HX3 := hide x3
              clear hc x1 x3
              generalize alH (mvA X) F 0 = AH at *
              go_wp2_with fail
              refine (unhide HC).mono ?_
              rintro e w9 ⟨rfl, hS9, hk9⟩
              have HC9 := hide (hS9.heap (unhide HX3))
              clear hS9 hk9 HC
              go_wp2_with fail
              refine (unhide HC9).mono ?_
              rintro e w10 ⟨rfl, hS10, hk10⟩
              have hB10 := hS10.belowW
              have HB10 := hide (hB10.alloc hB10.size (.cells #[.int .i64 O9, .int .i64 U9, .int .i64 0, .int .i64 M9, .int .i64 0] 33))
              clear hS10 hk10 hB10 HC9
              have hAH : 0 < AH := by omega
              go_wp2
              go_ret
              exact ⟨rfl, unhide HB10⟩
end Go.Proofs.YtpeglgkhpgifnaaGreat
