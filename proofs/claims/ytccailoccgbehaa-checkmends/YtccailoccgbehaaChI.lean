/-
  Contracts of package check: Check, Mend. (Part of the proofs over package check.)
-/
import Derived.Test.YtccailoccgbehaaChH
namespace Go.Proofs.Ytccailoccgbehaa
open Go.RowKit
set_option linter.unusedVariables false

/-- What Check answers. -/
def chkF (L : List Int) : List (Int × Int) := if lenB L.length = true then faults L else []
theorem chk_no (a : Option Addr) (len cap : Nat) (w : World) (hl : len ≤ 140737488351232) (hq : lenB len = false) :
    Calls Try.prog 5 #[.slice a len cap] w fun e w' => e = .returned (.tuple #[.slice none 0 0, errV 3]) ∧ w = w' := by
  have HE := hide (iEnts_no a len cap w hl hq)
  rw [errV_pos 3 (by decide)] at HE ⊢
  clear hq
  go_enter Try.func5, Try.ntmps5
  go_wp2_with fail
  refine (unhide HE).mono ?_
  rintro e w1 ⟨rfl, hw⟩
  subst hw
  go_wp2
  go_ret2
  exact ⟨rfl, rfl⟩
set_option maxHeartbeats 1000000 in
theorem chk_yes (a : Option Addr) (cap : Nat) (L : List Int) (w : World) (hbs : Bs w a cap L) (hq : lenB L.length = true) :
    Calls Try.prog 5 #[.slice a L.length cap] w fun e w' => ∃ v, e = .returned (.tuple #[v, .nilIface]) ∧ Lst flC 2 31 w' w.heap.size v (faults L) ∧ Below w.heap.size w w' := by
  have HE := hide (iEnts_yes a cap L w hbs hq)
  have hbl := hbs.2.2.1
  have HB := hide hbs
  have HQ := hide hq
  have HBY := hide hbs.1
  clear hq hbs
  go_enter Try.func5, Try.ntmps5
  go_wp2_with fail
  refine (unhide HE).mono ?_
  rintro e w1 ⟨v1, rfl, hown1, hb1⟩
  obtain ⟨a1, c1, rfl, hsl1⟩ := hown1.sls enC_len (Nat.le_trans (entsK_len L 40) (by decide))
  have HM := hide (marksOf_any L a1 c1 w1 (unhide HBY) (unhide HQ) hsl1)
  have HB1 := hide hb1
  have hel : (entsK L 40).length ≤ 40 := entsK_len L 40
  generalize (entsK L 40).length = EN at *
  clear hown1 hsl1 hb1 HE
  go_wp2_with fail
  refine (unhide HM).mono ?_
  rintro e w2 ⟨rfl, hm2, hb2⟩
  have hB2 := (unhide HB1).trans (hb2.mono (unhide HB1).size)
  have HH := hide (fHandles_any a cap L w1.heap.size w2 ((unhide HB).below hB2) (unhide HQ) hm2)
  have HM2 := hide hm2
  have HB2 := hide hB2
  clear hm2 hb2 hB2 HM HB1
  go_wp2_with fail
  refine (unhide HH).mono ?_
  rintro e w3 ⟨v3, rfl, hown3, hb3⟩
  have hB3 := (unhide HB2).trans (hb3.mono (unhide HB2).size)
  have HR := hide (fRoots_any a cap L w1.heap.size w3 ((unhide HB).below hB3) (unhide HQ) ((unhide HM2).below hb3))
  obtain ⟨a3, c3, rfl, hsl3⟩ := hown3.sls flC_len (Nat.le_trans (hFK_len L 40) (by decide))
  have HS3 := hide hsl3
  have HB3 := hide hB3
  clear hown3 hsl3 hb3 hB3 HH HB2 HM2
  go_wp2_with fail
  refine (unhide HR).mono ?_
  rintro e w4 ⟨v4, rfl, hown4, hb4⟩
  obtain ⟨a4, c4, rfl, hsl4⟩ := hown4.sls flC_len (Nat.le_trans (rFK_len L 8) (by decide))
  have hB4 := (unhide HB3).trans (hb4.mono (unhide HB3).size)
  have hbA : Below w4.heap.size w4 (w4.alloc (.cells #[.slice a3 (hFK L 40).length c3, .slice a4 (rFK L 8).length c4] 27)) := (Below.refl _ _).alloc (Nat.le_refl _) _
  have HC := hide (concat_any w4.heap.size a3 a4 c3 c4 _ _ (w4.alloc (.cells #[.slice a3 (hFK L 40).length c3, .slice a4 (rFK L 8).length c4] 27)) (heap_alloc_new w4 _) (((unhide HS3).below hb4).below hbA) (hsl4.below hbA) (Nat.le_trans (hFK_len L 40) (by decide)) (Nat.le_trans (rFK_len L 8) (by decide)))
  have HB5 := hide (hB4.trans (hbA.mono hB4.size))
  have hh1 : (hFK L 40).length ≤ 40 := hFK_len L 40
  have hh2 : (rFK L 8).length ≤ 8 := rFK_len L 8
  have HF : Hid (faults L = hFK L 40 ++ rFK L 8) := hide rfl
  generalize hFK L 40 = F1 at *
  generalize rFK L 8 = F2 at *
  clear hown4 hsl4 hb4 hB4 hbA HR HB3 HS3
  go_wp2_with fail
  refine (unhide HC).mono ?_
  rintro e w6 ⟨v6, rfl, hown6, hb6⟩
  have HO6 := hide (hown6.base (unhide HB5).size)
  have HB6 := hide ((unhide HB5).trans (hb6.mono (unhide HB5).size))
  obtain ⟨a6, m6, c6, rfl⟩ := hown6.shape
  clear hown6 hb6 HC HB5
  go_wp2
  go_ret2
  exact ⟨_, rfl, by rw [unhide HF]; exact unhide HO6, unhide HB6⟩
theorem chk_any (a : Option Addr) (cap : Nat) (L : List Int) (w : World) (hbs : Bs w a cap L) :
    Calls Try.prog 5 #[.slice a L.length cap] w fun e w' => ∃ v, e = .returned (.tuple #[v, errV (lenE L.length)]) ∧ Lst flC 2 31 w' w.heap.size v (chkF L) ∧ Below w.heap.size w w' := by
  unfold lenE chkF
  cases hq : lenB L.length with
  | true =>
    rw [if_pos rfl, if_pos rfl, errV_zero]
    exact chk_yes a cap L w hbs hq
  | false =>
    rw [if_neg (by simp), if_neg (by simp)]
    exact (chk_no a L.length cap w hbs.2.2.1 hq).mono fun e w' ⟨he, hw⟩ => ⟨_, he, Lst.nil _ _, by rw [hw]; exact Below.refl _ _⟩

/-! ### Mend -/
theorem mend_no (a : Option Addr) (len cap : Nat) (w : World) (hl : len ≤ 140737488351232) (hq : lenB len = false) :
    Calls Try.prog 6 #[.slice a len cap] w fun e w' => e = .returned (.tuple #[.slice none 0 0, errV 3]) ∧ w = w' := by
  have HE := hide (chk_no a len cap w hl hq)
  rw [errV_pos 3 (by decide)] at HE ⊢
  clear hq
  go_enter Try.func6, Try.ntmps6
  go_wp2_with fail
  refine (unhide HE).mono ?_
  rintro e w1 ⟨rfl, hw⟩
  subst hw
  go_wp2
  go_ret2
  exact ⟨rfl, rfl⟩
theorem mend_one (a : Option Addr) (cap : Nat) (L : List Int) (w : World) (hbs : Bs w a cap L) (hq : lenB L.length = true) (hf : faults L = []) :
    Calls Try.prog 6 #[.slice a L.length cap] w (Ends w L .nilIface) := by
  have HC := hide (chk_yes a cap L w hbs hq)
  have hl := lenB_iff.1 hq
  have hbl := hbs.2.2.1
  have HB := hide hbs
  rw [hf] at HC
  clear hq hbs hf
  go_enter Try.func6, Try.ntmps6
  go_wp2_with fail
  refine (unhide HC).mono ?_
  rintro e w1 ⟨v1, rfl, hown1, hb1⟩
  obtain ⟨a1, c1, rfl, hsl1⟩ := hown1.sls flC_len (by simp)
  have HW := hide (without_any a cap L a1 c1 [] w1 ((unhide HB).below hb1) hsl1 (by omega) (fun f hf => by cases hf))
  have HB1 := hide hb1
  clear hown1 hsl1 hb1 HC
  go_wp2_with fail
  refine (unhide HW).mono ?_
  rintro e w2 ⟨g, c, rfl, hown2, hb2⟩
  obtain ⟨cur, hrow⟩ := Row.of_own hown2
  have HBS2 := hide (hrow.bs (show Byt L from (unhide HB).1) hbl)
  have HB2 := hide ((unhide HB1).trans (hb2.mono (unhide HB1).size))
  clear hown2 hrow hb2 HW HB1
  go_wp2
  go_ret2
  exact ⟨_, c, rfl, unhide HBS2, unhide HB2⟩
theorem byt_wipes : ∀ {l : List (Int × Int)} {b : List Int}, Byt b → Byt (wipes b l)
  | [], b, h => h
  | f :: l, b, h => by
    show Byt (wipes (wipeF b f) l)
    refine byt_wipes ?_
    rw [wipeF_eq]
    exact byt_splice h (byt_zerosB _)
theorem byt_mendL {b : List Int} (h : Byt b) : Byt (mendL b) := byt_wipes h
theorem mend_two (a : Option Addr) (cap : Nat) (L : List Int) (w : World) (hbs : Bs w a cap L) (hq : lenB L.length = true) (hf : faults L ≠ []) :
    Calls Try.prog 6 #[.slice a L.length cap] w (Ends w (mendL L) .nilIface) := by
  have HC := hide (chk_yes a cap L w hbs hq)
  have hl := lenB_iff.1 hq
  have hbl := hbs.2.2.1
  have HB := hide hbs
  have hpos : 0 < (faults L).length := List.length_pos_iff.2 hf
  have h48 := faults_len L
  have hml : (mendL L).length = L.length := mendL_len (by omega)
  have HM := hide (fun (W : World) (a' : Option Addr) (c' : Nat) (h : Bs W a' c' (mendL L)) => mend_one a' c' (mendL L) W h (by rw [hml]; exact hq) (mend_faults (by omega)))
  rw [hml] at HM
  have HBY := hide (byt_mendL hbs.1)
  have HML := hide hml
  have HWL : Hid (wipes L (faults L) = mendL L) := hide rfl
  clear hq hbs hf hml
  generalize mendL L = M at *
  go_enter Try.func6, Try.ntmps6
  go_wp2_with fail
  refine (unhide HC).mono ?_
  rintro e w1 ⟨v1, rfl, hown1, hb1⟩
  obtain ⟨a1, c1, rfl, hsl1⟩ := hown1.sls flC_len (by omega)
  have HW := hide (without_any a cap L a1 c1 (faults L) w1 ((unhide HB).below hb1) hsl1 (by omega) (fun f hf => faults_in hf))
  have HB1 := hide hb1
  rw [unhide HWL] at HW
  generalize (faults L).length = FN at *
  have hneb : ((FN : Int) == 0) = false := by rw [beq_eq_false_iff_ne]; omega
  clear hpos h48
  clear hown1 hsl1 hb1 HC HWL
  go_wp2_with fail
  refine (unhide HW).mono ?_
  rintro e w2 ⟨g, c, rfl, hown2, hb2⟩
  obtain ⟨cur, hrow⟩ := Row.of_own hown2
  have HM2 := hide (unhide HM w2 _ c (hrow.bs (unhide HBY) (by rw [unhide HML]; omega)))
  have HB2 := hide ((unhide HB1).trans (hb2.mono (unhide HB1).size))
  clear hown2 hrow hb2 HW HB1 HM
  go_wp2_with fail
  refine (unhide HM2).mono ?_
  rintro e w3 ⟨a3, c3, he3, hbs3, hb3⟩
  rw [unhide HML] at he3
  subst he3
  have HBS3 := hide hbs3
  have HB3 := hide ((unhide HB2).trans (hb3.mono (unhide HB2).size))
  clear hbs3 hb3 HM2 HB2
  go_wp2
  go_ret2
  exact ⟨a3, c3, by rw [unhide HML]; rfl, unhide HBS3, unhide HB3⟩
/-- What Mend answers. -/
def mendO (L : List Int) : List Int := if lenB L.length = true then mendL L else []
theorem mend_any (a : Option Addr) (cap : Nat) (L : List Int) (w : World) (hbs : Bs w a cap L) :
    Calls Try.prog 6 #[.slice a L.length cap] w (Ends w (mendO L) (errV (lenE L.length))) := by
  unfold lenE mendO
  cases hq : lenB L.length with
  | true =>
    rw [if_pos rfl, if_pos rfl, errV_zero]
    by_cases hf : faults L = []
    · rw [mend_right_same hf]
      exact mend_one a cap L w hbs hq hf
    · exact mend_two a cap L w hbs hq hf
  | false =>
    rw [if_neg (by simp), if_neg (by simp)]
    exact (mend_no a L.length cap w hbs.2.2.1 hq).mono fun e w' ⟨he, hw⟩ => ⟨none, 0, he, bs_nil _, by rw [hw]; exact Below.refl _ _⟩
end Go.Proofs.Ytccailoccgbehaa
