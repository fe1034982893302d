/-
  The walk of the law ExtentMore. (Part of the proof of ExtentMore.)
-/
import Derived.Test.YtjipnjmnkfjmhaaExG
namespace Go.Proofs.Ytjipnjmnkfjmhaa
open Go.RowKit Go.Sort Go.Shelf
set_option linter.unusedVariables false

theorem more_bad (n : Int) (a : Option Addr) (cap : Nat) (l : List (Int × Int)) (size : Int) (w : World) (hl : Exs w a cap l) (hc : chk n l ≠ 0) :
    Calls Try.prog 4 #[.int .i64 n, .slice a l.length cap, .int .i64 size] w fun e w' => e = .returned (.bool true) ∧ Below w.heap.size w w' := by
  have hst := stat_any n a cap l w hl 0 0 0 0 0 (if_neg hc)
  have HL := hide hl
  have HCK := hide (fun w' (hb : Below w.heap.size w w') => check_all n a cap l w' (hl.below hb))
  rw [errV_pos _ hc] at hst HCK
  have HS := hide hst
  generalize chk n l = c at *
  clear hl hc hst
  generalize l.length = N at *
  go_enter Try.func4, Try.ntmps4
  go_wp2_with fail
  refine (unhide HS).mono ?_
  rintro e w1 ⟨rfl, hb1⟩
  have hbA : Below w.heap.size w (w1.alloc (.cells #[.int .i64 0, .int .i64 0, .int .i64 0, .int .i64 0, .int .i64 0] 34)) := hb1.alloc hb1.size _
  have HC := hide (unhide HCK _ hbA)
  have HBA := hide hbA
  clear hb1 hbA HCK HS
  go_wp2_with fail
  refine (unhide HC).mono ?_
  rintro e w2 ⟨rfl, hb2⟩
  have HB2 := hide ((unhide HBA).trans (hb2.mono (unhide HBA).size))
  clear hb2
  go_wp2
  go_ret
  exact ⟨rfl, unhide HB2⟩

set_option maxHeartbeats 2000000 in
theorem more_good (n : Int) (a : Option Addr) (cap : Nat) (l : List (Int × Int)) (size : Int) (w : World) (hl : Exs w a cap l) (hc : chk n l = 0) (hsz : -9223372036854775808 ≤ size ∧ size ≤ 9223372036854775807) :
    Calls Try.prog 4 #[.int .i64 n, .slice a l.length cap, .int .i64 size] w fun e w' => e = .returned (.bool true) ∧ Below w.heap.size w w' := by
  obtain ⟨O, U, F, M, R, hT⟩ : ∃ O U F M R, stT n l = (O, U, F, M, R) := ⟨_, _, _, _, _, rfl⟩
  have hst := stat_any n a cap l w hl O U F M R hT
  rw [hc, errV_zero] at hst
  obtain ⟨s1, s2, s3, s4, s5, s6, s7, s8, s9⟩ := stat_spec hc hT
  obtain ⟨k0, k1, k2, hg⟩ := chk_zero.1 hc
  subst s1
  have HS := hide hst
  have HL := hide hl
  have HT := hide hT
  have HC := hide hc
  have HS8 := hide s8
  have e1 : U + F = n := s3
  have e2 : ¬ F < M := by omega
  clear hst hl hT hc s2 s8 s9
  by_cases h200 : 200 ≤ l.length
  · have d200 : decide ((200 : Int) ≤ (l.length : Int)) = true := decide_eq_true (by omega)
    go_enter Try.func4, Try.ntmps4
    go_wp2_with fail
    refine (unhide HS).mono ?_
    rintro e w1 ⟨rfl, hb1⟩
    have HB1 := hide hb1
    clear hb1
    go_wp2
    go_ret
    exact ⟨rfl, (unhide HB1).alloc (unhide HB1).size _⟩
  · have hFit := fun w' (hb : Below w.heap.size w w') => fit_any n a cap l size w' ((unhide HL).below hb)
    by_cases hf : fitE n l size = 0
    · obtain ⟨_, z1, z2, x, hx, hat, hxs, _⟩ := fit_yes hf
      have hsm := (freeL_small (unhide HC)).1 x hx
      obtain ⟨O', U', F', M', R', hT'⟩ : ∃ O' U' F' M' R', stT n ((fitAt n l size, size) :: l) = (O', U', F', M', R') := ⟨_, _, _, _, _, rfl⟩
      obtain ⟨hc', r1, r2, r3, r4⟩ := more_spec hf (by omega) (unhide HT) hT'
      have hat0 : 0 ≤ fitAt n l size ∧ fitAt n l size ≤ 6400 := by omega
      rw [hf, errV_zero] at hFit
      have HFT := hide hFit
      have HTT := hide hT'
      have HC' := hide hc'
      clear hFit hT' hc' hx hsm hxs hat hf
      generalize fitAt n l size = p at *
      go_enter Try.func4, Try.ntmps4
      go_wp2_with fail
      refine (unhide HS).mono ?_
      rintro e w1 ⟨rfl, hb1⟩
      have hbA : Below w.heap.size w (w1.alloc (.cells #[.int .i64 l.length, .int .i64 U, .int .i64 F, .int .i64 M, .int .i64 R] 34)) := hb1.alloc hb1.size _
      have HF := hide (unhide HFT _ hbA)
      have HBA := hide hbA
      have HST := hide (StB.new w1 l.length U F M R)
      have hw1 := hb1.size
      clear hb1 hbA HFT HS
      go_wp2_with fail
      refine (unhide HF).mono ?_
      rintro e w2 ⟨rfl, hb2⟩
      have HB2 := hide ((unhide HBA).trans (hb2.mono (unhide HBA).size))
      have HST2 := hide ((unhide HST).below hb2 (by simp))
      have hw2 := hb2.size
      have hw2' : w1.heap.size + 1 ≤ w2.heap.size := by simpa using hw2
      clear hb2 HST HBA HF hw2
      have HO := hide (ExO.nil (w2.alloc (.cells #[.int .i64 p, .int .i64 size] 28)) w2.heap.size)
      have HE1 := hide (exs_one (ExB.new w2 p size) (by unfold InI; dsimp only; omega))
      go_wp2_with (at_builtin; refine wpList_append_exs rfl _ _ rfl w2.heap.size (.slice none 0 0) [] rfl (unhide HO) (some ⟨w2.heap.size, 0, none⟩) 1 [(p, size)] rfl (unhide HE1) (by simp) (by simp) ?_)
      intro v3 w3 ho3 hb3 _
      have hbel3 : Below w.heap.size w w3 := ((unhide HB2).alloc (unhide HB2).size _).trans (hb3.mono (unhide HB2).size)
      have hst3 : StB w3 w1.heap.size l.length U F M R := ((unhide HST2).alloc _).below hb3 (by omega)
      have hw3 := hb3.size
      have hw3' : w2.heap.size + 1 ≤ w3.heap.size := by simpa using hw3
      have HO3 := hide ho3
      have HB3 := hide hbel3
      have HST3 := hide hst3
      have HL3 := hide ((unhide HL).below hbel3)
      clear ho3 hb3 hbel3 hst3 HO HE1 HB2 HST2 hw3
      go_wp2_with (at_builtin; refine wpList_append_exs rfl _ _ rfl w2.heap.size v3 [(p, size)] rfl (unhide HO3) a cap l rfl (unhide HL3) (by simp; omega) (by omega) ?_)
      intro v4 w4 ho4 hb4 _
      have hbel4 : Below w.heap.size w w4 := (unhide HB3).trans (hb4.mono (by have := (unhide HB3).size; omega))
      have hst4 : StB w4 w1.heap.size l.length U F M R := (unhide HST3).below hb4 (by omega)
      have hgM := (chk_zero.1 (unhide HC')).2.2.2
      have ho5 : ExO w4 w2.heap.size v4 ((p, size) :: l) := ho4
      have hlM : ((p, size) :: l).length ≤ 201 := by simp; omega
      clear ho4
      generalize (p, size) :: l = MM at *
      obtain ⟨a4, c4, rfl, hx4⟩ := ho5.exs (fun e he => by have := hgM.all e he; unfold InI; omega) (by omega)
      have hstat := stat_any n a4 c4 MM w4 hx4 O' U' F' M' R' (unhide HTT)
      rw [unhide HC', errV_zero] at hstat
      have HSTAT := hide hstat
      have HB4 := hide hbel4
      have HST4 := hide hst4
      clear ho5 hb4 hbel4 hst4 hx4 hstat hgM HO3 HB3 HST3 HL3 HTT HC'
      generalize MM.length = LL at *
      go_wp2_with fail
      refine (unhide HSTAT).mono ?_
      rintro e w5 ⟨rfl, hb5⟩
      have hst5 := (unhide HST4).below hb5 (unhide HST4).lt
      have hlt5 := hst5.lt
      obtain ⟨d0, d1, d2, d3, d4⟩ := hst5.cells
      have HB5 := hide ((unhide HB4).trans (hb5.mono (unhide HB4).size))
      clear hb5 hst5 HST4 HB4
      go_wp2
      go_ret
      exact ⟨rfl, (unhide HB5).alloc (unhide HB5).size _⟩
    · have hno := fit_no (unhide HC) hf
      rw [← unhide HS8] at hno
      rw [errV_pos _ hf] at hFit
      have HFT := hide hFit
      clear hFit
      generalize fitE n l size = E at *
      generalize fitAt n l size = p at *
      by_cases h1 : size < 1
      · go_enter Try.func4, Try.ntmps4
        go_wp2_with fail
        refine (unhide HS).mono ?_
        rintro e w1 ⟨rfl, hb1⟩
        have hbA : Below w.heap.size w (w1.alloc (.cells #[.int .i64 l.length, .int .i64 U, .int .i64 F, .int .i64 M, .int .i64 R] 34)) := hb1.alloc hb1.size _
        have HF := hide (unhide HFT _ hbA)
        have HBA := hide hbA
        clear hb1 hbA HFT HS hno
        go_wp2_with fail
        refine (unhide HF).mono ?_
        rintro e w2 ⟨rfl, hb2⟩
        have HB2 := hide ((unhide HBA).trans (hb2.mono (unhide HBA).size))
        clear hb2
        go_wp2
        go_ret
        exact ⟨rfl, unhide HB2⟩
      · have hno2 : M < size := by omega
        go_enter Try.func4, Try.ntmps4
        go_wp2_with fail
        refine (unhide HS).mono ?_
        rintro e w1 ⟨rfl, hb1⟩
        have hbA : Below w.heap.size w (w1.alloc (.cells #[.int .i64 l.length, .int .i64 U, .int .i64 F, .int .i64 M, .int .i64 R] 34)) := hb1.alloc hb1.size _
        have HF := hide (unhide HFT _ hbA)
        have HBA := hide hbA
        have HST := hide (StB.new w1 l.length U F M R)
        clear hb1 hbA HFT HS hno
        go_wp2_with fail
        refine (unhide HF).mono ?_
        rintro e w2 ⟨rfl, hb2⟩
        have HB2 := hide ((unhide HBA).trans (hb2.mono (unhide HBA).size))
        have hst2 := (unhide HST).below hb2 (by simp)
        obtain ⟨d0, d1, d2, d3, d4⟩ := hst2.cells
        clear hb2 hst2
        go_wp2
        go_ret
        exact ⟨rfl, unhide HB2⟩

theorem walkExtentMore (n : Int) (a : Option Addr) (cap : Nat) (l : List (Int × Int)) (size : Int) (w : World) (hn : -9223372036854775808 ≤ n ∧ n ≤ 9223372036854775807) (hl : Exs w a cap l) (hsz : -9223372036854775808 ≤ size ∧ size ≤ 9223372036854775807) :
    Calls Try.prog 4 #[.int .i64 n, .slice a l.length cap, .int .i64 size] w fun e w' => e = .returned (.bool true) ∧ Below w.heap.size w w' := by
  by_cases hc : chk n l = 0
  · exact more_good n a cap l size w hl hc hsz
  · exact more_bad n a cap l size w hl hc
end Go.Proofs.Ytjipnjmnkfjmhaa
