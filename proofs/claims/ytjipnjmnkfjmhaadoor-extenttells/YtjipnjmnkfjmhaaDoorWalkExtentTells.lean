/-
  The walk of the law ExtentTells. (Part of the proof of ExtentTells.)
-/
import Derived.Test.YtjipnjmnkfjmhaaDoorRxA
import Derived.Test.YtjipnjmnkfjmhaaDoorRxE
import Derived.Test.YtjipnjmnkfjmhaaDoorErrSame
import Derived.Deep.CutRange
namespace Go.Proofs.YtjipnjmnkfjmhaaDoor
open Go.RowKit Go.Sort Go.Shelf
set_option linter.unusedVariables false

theorem fitE_out {n : Int} {l : List (Int × Int)} {size : Int} (hc : chk n l = 0) (hs : size < 1 ∨ 6400 < size) : fitE n l size = 1 ∧ fitAt n l size = 0 := by
  have e1 : fitE n l size = 1 := by unfold fitE; rw [if_neg (fun h => h hc), if_pos hs]
  exact ⟨e1, by unfold fitAt; rw [e1]; rfl⟩
theorem fitE_bad {n : Int} {l : List (Int × Int)} {size : Int} (hc : chk n l ≠ 0) : fitE n l size = chk n l ∧ fitAt n l size = 0 := by
  have e1 : fitE n l size = chk n l := by unfold fitE; rw [if_pos hc]
  exact ⟨e1, by unfold fitAt; rw [e1, if_neg hc]⟩
/-- What the reference answers to Fit. -/
theorem fitR_same {n : Int} {l : List (Int × Int)} {size : Int} (hc : chk n l = 0) (hs : ¬ (size < 1 ∨ 6400 < size)) :
    (((freeL n l).foldl (fitR size) (-1, 0)).1 < 0 ∧ fitE n l size = 4 ∧ fitAt n l size = 0) ∨ (¬ ((freeL n l).foldl (fitR size) (-1, 0)).1 < 0 ∧ fitE n l size = 0 ∧ fitAt n l size = ((freeL n l).foldl (fitR size) (-1, 0)).1) := by
  have hsm := (freeL_small hc).1
  rcases fitR_spec (size := size) (h := freeL n l) (fun r hr => ⟨(hsm r hr).1, (hsm r hr).2.1⟩) with ⟨h1, h2⟩ | ⟨h1, h2, h3⟩
  · have e1 : fitE n l size = 4 := by unfold fitE; rw [if_neg (fun h => h hc), if_neg hs, if_pos h1]
    exact .inl ⟨h2, e1, by unfold fitAt; rw [e1]; rfl⟩
  · have e1 : fitE n l size = 0 := by unfold fitE; rw [if_neg (fun h => h hc), if_neg hs, if_neg (by omega)]
    refine .inr ⟨by rw [h1]; omega, e1, ?_⟩
    unfold fitAt
    rw [if_pos e1, h1]
theorem freeL_inI {n : Int} {l : List (Int × Int)} : (∀ e ∈ freeL n l, InI e) ∧ (freeL n l).length ≤ 8796093021952 := by
  by_cases hc : chk n l = 0
  · have hsm := freeL_small hc
    have := (chk_zero.1 hc).2.1
    exact ⟨fun e he => by have := hsm.1 e he; unfold InI; omega, by omega⟩
  · have : freeL n l = [] := if_neg hc
    rw [this]
    exact ⟨fun e he => (by cases he), by simp⟩

set_option maxRecDepth 100000 in
set_option maxHeartbeats 4000000 in
theorem walkExtentTells (n : Int) (a : Option Addr) (cap : Nat) (l : List (Int × Int)) (size : Int) (w : World) (hg : ErrT w) (hn : -9223372036854775808 ≤ n ∧ n ≤ 9223372036854775807) (hl : Exs w a cap l) (hsz : -9223372036854775808 ≤ size ∧ size ≤ 9223372036854775807) :
    Calls Tryd.prog 3 #[.int .i64 n, .slice a l.length cap, .int .i64 size] w fun e w' => e = .returned (.bool true) ∧ Below w.heap.size w w' := by
  obtain ⟨O, U, F, M, R, hT⟩ : ∃ O U F M R, stT n l = (O, U, F, M, R) := ⟨_, _, _, _, _, rfl⟩
  obtain ⟨hin, hlen⟩ := freeL_inI (n := n) (l := l)
  have HER := hide (fun (x : Int) (w' : World) (hb : Below w.heap.size w w') => error_same x w' (hg.below hb))
  have HRX := hide (refx_any n a cap l w hl)
  have HCK := hide (fun w' (hb : Below w.heap.size w w') => check_all n a cap l w' (hl.below hb))
  have HFR := hide (fun w' (hb : Below w.heap.size w w') => frees_any n a cap l w' (hl.below hb))
  have HFT := hide (fun w' (hb : Below w.heap.size w w') => fit_any n a cap l size w' (hl.below hb))
  have HST := hide (fun w' (hb : Below w.heap.size w w') => stat_any n a cap l w' (hl.below hb) O U F M R hT)
  have HHO := hide (fun (hc : chk n l = 0) w' (hb : Below w.heap.size w w') => holes_any n a cap l w' (hl.below hb) hc)
  have HRS := hide (fun (hc : chk n l = 0) w' (hb : Below w.heap.size w w') => rstat_any n a cap l w' (hl.below hb) hc O U F M R hT)
  have HRF := hide (fun (hc : chk n l = 0) w' (hb : Below w.heap.size w w') => rfit_any n a cap l size w' (hl.below hb) hc)
  have HOUT := hide (fun (hc : chk n l = 0) hs => fitE_out (n := n) (l := l) (size := size) hc hs)
  have HBAD := hide (fun (hc : chk n l ≠ 0) => fitE_bad (n := n) (l := l) (size := size) hc)
  have HSAME := hide (fun (hc : chk n l = 0) hs => fitR_same (n := n) (l := l) (size := size) hc hs)
  have HT0 : Hid (chk n l ≠ 0 → freeL n l = [] ∧ O = 0 ∧ U = 0 ∧ F = 0 ∧ M = 0 ∧ R = 0) := hide (fun hc => by
    unfold stT at hT
    rw [if_neg hc] at hT
    simp only [Prod.mk.injEq] at hT
    exact ⟨if_neg hc, hT.1.symm, hT.2.1.symm, hT.2.2.1.symm, hT.2.2.2.1.symm, hT.2.2.2.2.symm⟩)
  have HIN := hide hin
  clear hg hl hT hin
  generalize chk n l = C at *
  generalize fitE n l size = FE at *
  generalize fitAt n l size = FA at *
  generalize ((freeL n l).foldl (fitR size) (-1, 0)).1 = RR at *
  generalize freeL n l = fr at *
  generalize l.length = N at *
  go_enter Tryd.func3, Tryd.ntmps3
  go_wp2_with fail
  refine (unhide HRX).mono ?_
  rintro e w1 ⟨rfl, hb1⟩
  have HB1 := hide hb1
  have HC1 := hide (unhide HCK _ hb1)
  clear hb1 HRX HCK
  go_wp2_with fail
  refine (unhide HC1).mono ?_
  rintro e w2 ⟨rfl, hb2⟩
  have HB2 := hide ((unhide HB1).trans (hb2.mono (unhide HB1).size))
  have HE2 := hide (unhide HER C _ (unhide HB2))
  clear hb2 HB1 HC1
  go_wp2_with fail
  refine (unhide HE2).mono ?_
  rintro e w3 ⟨rfl, hb3⟩
  have HB3 := hide ((unhide HB2).trans (hb3.mono (unhide HB2).size))
  clear hb3 HB2 HE2
  have hw3 := (unhide HB3).size
  have HBA : Hid (Below w.heap.size w (w3.alloc (.cells #[.int .i64 0, .int .i64 0, .int .i64 0, .int .i64 0, .int .i64 0] 29))) := hide ((unhide HB3).alloc hw3 _)
  have HSA := hide (StB.new w3 0 0 0 0 0)
  clear HB3
  go_upto_if 31 with fail
  generalize w3.alloc (.cells #[.int .i64 0, .int .i64 0, .int .i64 0, .int .i64 0, .int .i64 0] 29) = w4 at *
  generalize w3.heap.size = g at *
  go_cut [9, 11, 12] from 32 to 49 (fun hv av fv wx => (∃ a9 c9, hv = .slice a9 fr.length c9 ∧ Exs wx a9 c9 fr) ∧ av = .int .i64 FA ∧ fv = .int .i64 FE ∧ StB wx g O U F M R ∧ Below w.heap.size w wx)
  case first =>
    by_cases hC : C = 0
    · subst hC
      have HH4 := hide (unhide HHO rfl _ (unhide HBA))
      have hout := unhide HOUT rfl
      have hsame := unhide HSAME rfl
      have HRS2 := hide (unhide HRS rfl)
      have HRF2 := hide (unhide HRF rfl)
      have HOUT2 := hide hout
      have HSAME2 := hide hsame
      clear HHO HBAD HT0 hout hsame HOUT HSAME HRS HRF
      go_wp2_with fail
      refine (unhide HH4).mono ?_
      rintro e w5 ⟨hv, rfl, ho5, hb5⟩
      have HB5 := hide ((unhide HBA).trans (hb5.mono (unhide HBA).size))
      have HS5 := hide ((unhide HSA).below hb5 (unhide HSA).lt)
      have hg4 := (unhide HSA).lt
      have HO5 := hide ho5
      have HR5 := hide (unhide HRS2 _ (unhide HB5))
      clear ho5 hb5 HBA HSA HH4 HRS2
      go_wp2_with fail
      refine (unhide HR5).mono ?_
      rintro e w6 ⟨rfl, hb6⟩
      have ho6 := (unhide HO5).below hb6
      have hb6' := (unhide HB5).trans (hb6.mono (unhide HB5).size)
      have hs6 := (unhide HS5).below hb6 (unhide HS5).lt
      obtain ⟨d0, d1, d2, d3, d4⟩ := hs6.cells
      have f0 := hs6.fr 0
      have f1 := hs6.fr 1
      have f2 := hs6.fr 2
      have f3 := hs6.fr 3
      have f4 := hs6.fr 4
      have HS7 := hide (hs6.setAll O U F M R)
      have HB7 := hide (((((hb6'.setCell (p := ⟨g, 0, none⟩) hw3 (.int .i64 O)).setCell (p := ⟨g, 1, none⟩) hw3 (.int .i64 U)).setCell (p := ⟨g, 2, none⟩) hw3 (.int .i64 F)).setCell (p := ⟨g, 3, none⟩) hw3 (.int .i64 M)).setCell (p := ⟨g, 4, none⟩) hw3 (.int .i64 R))
      have HO7 : Hid (ExO (((((w6.setCell ⟨g, 0, none⟩ (.int .i64 O)).setCell ⟨g, 1, none⟩ (.int .i64 U)).setCell ⟨g, 2, none⟩ (.int .i64 F)).setCell ⟨g, 3, none⟩ (.int .i64 M)).setCell ⟨g, 4, none⟩ (.int .i64 R)) w4.heap.size hv fr) := hide (ownsRow_setCell_below (ownsRow_setCell_below (ownsRow_setCell_below (ownsRow_setCell_below (ownsRow_setCell_below ho6 (a := ⟨g, 0, none⟩) hg4 _) (a := ⟨g, 1, none⟩) hg4 _) (a := ⟨g, 2, none⟩) hg4 _) (a := ⟨g, 3, none⟩) hg4 _) (a := ⟨g, 4, none⟩) hg4 _)
      have HF7 := hide (unhide HRF2 _ (unhide HB7))
      clear hs6 ho6 hb6' hb6 HR5 HO5 HS5 HB5 HRF2
      by_cases hs : size < 1 ∨ 6400 < size
      · obtain ⟨o1, o2⟩ := unhide HOUT2 hs
        subst o1
        subst o2
        clear HSAME2 HOUT2 HF7
        by_cases hs1 : size < 1
        · go_wp2
          go_meet
          case rel =>
            obtain ⟨a9, c9, e9, hx9⟩ := (unhide HO7).exs (unhide HIN) hlen
            exact ⟨⟨a9, c9, e9, hx9⟩, rfl, rfl, unhide HS7, unhide HB7⟩
        · have hs2 : 6400 < size := by omega
          have ds1 : decide (size < 1) = false := decide_eq_false hs1
          go_wp2
          go_meet
          case rel =>
            obtain ⟨a9, c9, e9, hx9⟩ := (unhide HO7).exs (unhide HIN) hlen
            exact ⟨⟨a9, c9, e9, hx9⟩, rfl, rfl, unhide HS7, unhide HB7⟩
      · have hsm := unhide HSAME2 hs
        have g1 : ¬ size < 1 := by omega
        have g2 : ¬ 6400 < size := by omega
        clear HOUT2 HSAME2
        have HSM := hide hsm
        clear hsm hs
        go_wp2_with fail
        refine (unhide HF7).mono ?_
        rintro e w8 ⟨rfl, hb8⟩
        have HB8 := hide ((unhide HB7).trans (hb8.mono (unhide HB7).size))
        have HO8 := hide ((unhide HO7).below hb8)
        have HS8 := hide ((unhide HS7).below hb8 (unhide HS7).lt)
        clear hb8 HF7 HB7 HO7 HS7 d0 d1 d2 d3 d4 f0 f1 f2 f3 f4
        rcases unhide HSM with ⟨r1, r2, r3⟩ | ⟨r1, r2, r3⟩
        · subst r2
          subst r3
          clear HSM
          go_wp2
          go_meet
          case rel =>
            obtain ⟨a9, c9, e9, hx9⟩ := (unhide HO8).exs (unhide HIN) hlen
            exact ⟨⟨a9, c9, e9, hx9⟩, rfl, rfl, unhide HS8, unhide HB8⟩
        · have dr : decide (RR < 0) = false := decide_eq_false (by omega)
          clear HSM
          subst r2
          subst r3
          go_wp2
          go_meet
          case rel =>
            obtain ⟨a9, c9, e9, hx9⟩ := (unhide HO8).exs (unhide HIN) hlen
            exact ⟨⟨a9, c9, e9, hx9⟩, rfl, rfl, unhide HS8, unhide HB8⟩
    · have hd : (C == 0) = false := by simp [hC]
      obtain ⟨hf0, o0, o1, o2, o3, o4⟩ := unhide HT0 hC
      obtain ⟨b0, b1⟩ := unhide HBAD hC
      subst hf0
      subst o0
      subst o1
      subst o2
      subst o3
      subst o4
      subst b0
      subst b1
      clear HHO HRS HRF HOUT HBAD HSAME HT0
      go_wp2
      go_meet
      case rel => exact ⟨⟨none, 0, rfl, fun e he => (by cases he), ⟨Nat.le_refl _, fun _ => rfl⟩, by decide, fun h => absurd rfl h⟩, rfl, rfl, unhide HSA, unhide HBA⟩
  case rest =>
    obtain ⟨⟨a9, c9, rfl, hx9⟩, rfl, rfl, hs9, hb9⟩ := hcut
    have HB9 := hide hb9
    have HX9 := hide hx9
    have HS9 := hide hs9
    have HF9 := hide (unhide HFR _ hb9)
    clear hx9 hs9 hb9 HBA HSA HHO HRS HRF HOUT HBAD HSAME HT0 HFR
    go_wp2_with fail
    refine (unhide HF9).mono ?_
    rintro e w10 ⟨v10, rfl, ho10, hb10⟩
    have HB10 := hide ((unhide HB9).trans (hb10.mono (unhide HB9).size))
    have HX10 := hide ((unhide HX9).below hb10)
    have HS10 := hide ((unhide HS9).below hb10 (unhide HS9).lt)
    obtain ⟨a10, c10, rfl, hx10⟩ := ho10.exs (unhide HIN) hlen
    have HY10 := hide hx10
    have HE10 := hide (unhide HER C _ (unhide HB10))
    clear ho10 hb10 hx10 HF9 HB9 HX9 HS9
    go_wp2_with fail
    refine (unhide HE10).mono ?_
    rintro e w11 ⟨rfl, hb11⟩
    have HB11 := hide ((unhide HB10).trans (hb11.mono (unhide HB10).size))
    have HX11 := hide ((unhide HX10).below hb11)
    have HY11 := hide ((unhide HY10).below hb11)
    have HS11 := hide ((unhide HS10).below hb11 (unhide HS10).lt)
    have HF11 := hide (unhide HFT _ (unhide HB11))
    clear hb11 HB10 HX10 HY10 HS10 HE10 HFT
    go_wp2_with fail
    refine (unhide HF11).mono ?_
    rintro e w12 ⟨rfl, hb12⟩
    have HB12 := hide ((unhide HB11).trans (hb12.mono (unhide HB11).size))
    have HX12 := hide ((unhide HX11).below hb12)
    have HY12 := hide ((unhide HY11).below hb12)
    have HS12 := hide ((unhide HS11).below hb12 (unhide HS11).lt)
    have HE12 := hide (unhide HER FE _ (unhide HB12))
    clear hb12 HB11 HX11 HY11 HS11 HF11
    go_wp2_with fail
    refine (unhide HE12).mono ?_
    rintro e w13 ⟨rfl, hb13⟩
    have HB13 := hide ((unhide HB12).trans (hb13.mono (unhide HB12).size))
    have HX13 := hide ((unhide HX12).below hb13)
    have HY13 := hide ((unhide HY12).below hb13)
    have HS13 := hide ((unhide HS12).below hb13 (unhide HS12).lt)
    have HT13 := hide (unhide HST _ (unhide HB13))
    clear hb13 HB12 HX12 HY12 HS12 HE12 HST
    go_wp2_with fail
    refine (unhide HT13).mono ?_
    rintro e w14 ⟨rfl, hb14⟩
    have hB14 := (unhide HB13).trans (hb14.mono (unhide HB13).size)
    have hX14 := (unhide HX13).below hb14
    have hY14 := (unhide HY13).below hb14
    have hS14 := (unhide HS13).below hb14 (unhide HS13).lt
    have hba : Below w14.heap.size w14 (w14.alloc (.cells #[.int .i64 O, .int .i64 U, .int .i64 F, .int .i64 M, .int .i64 R] 29)) := (Below.refl _ _).alloc (Nat.le_refl _) _
    have HB15 : Hid (Below w.heap.size w (w14.alloc (.cells #[.int .i64 O, .int .i64 U, .int .i64 F, .int .i64 M, .int .i64 R] 29))) := hide (hB14.alloc hB14.size _)
    have HX15 := hide (hX14.below hba)
    have HY15 := hide (hY14.below hba)
    have HS15 := hide (hS14.alloc (.cells #[.int .i64 O, .int .i64 U, .int .i64 F, .int .i64 M, .int .i64 R] 29))
    have HN15 := hide (StB.new w14 O U F M R)
    have HE15 := hide (unhide HER C _ (unhide HB15))
    clear hb14 hB14 hX14 hY14 hS14 hba HB13 HX13 HY13 HS13 HT13
    go_wp2_with fail
    refine (unhide HE15).mono ?_
    rintro e w16 ⟨rfl, hb16⟩
    have HB16 := hide ((unhide HB15).trans (hb16.mono (unhide HB15).size))
    have HS16 := hide ((unhide HS15).below hb16 (unhide HS15).lt)
    have HN16 := hide ((unhide HN15).below hb16 (unhide HN15).lt)
    have HQ16 := hide (exsame_any a10 a9 c10 c9 fr w16 ((unhide HY15).below hb16) ((unhide HX15).below hb16))
    clear hb16 HB15 HX15 HY15 HS15 HN15 HE15
    generalize w14.heap.size = g2 at *
    go_wp2_with fail
    refine (unhide HQ16).mono ?_
    rintro e w17 ⟨rfl, hb17⟩
    have HB17 := hide ((unhide HB16).trans (hb17.mono (unhide HB16).size))
    have hS17 := (unhide HS16).below hb17 (unhide HS16).lt
    have hN17 := (unhide HN16).below hb17 (unhide HN16).lt
    obtain ⟨d0, d1, d2, d3, d4⟩ := hS17.cells
    obtain ⟨e0, e1, e2, e3, e4⟩ := hN17.cells
    clear hb17 HB16 HS16 HN16 HQ16 hS17 hN17
    go_wp2
    go_ret
    exact ⟨rfl, unhide HB17⟩
end Go.Proofs.YtjipnjmnkfjmhaaDoor
