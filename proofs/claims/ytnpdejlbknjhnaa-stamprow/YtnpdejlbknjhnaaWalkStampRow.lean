/-
  The walk of the law StampRow. (Part of the proof of StampRow.)
-/
import Derived.Test.YtnpdejlbknjhnaaStampList
import Derived.Test.YtnpdejlbknjhnaaRefZero
import Derived.Test.YtnpdejlbknjhnaaStampStr
import Derived.Deep.QuietTactic
import Derived.BigQuiet
namespace Go.Proofs.Ytnpdejlbknjhnaa
open Go.RowKit
set_option linter.unusedVariables false

set_option maxRecDepth 100000 in
set_option maxHeartbeats 2000000 in
theorem walkStampRow (n m : Int) (a : Option Addr) (cap : Nat) (b : List Int) (w : World) (hb : Bs w a cap b) :
    Calls Try.prog 4 #[.int .i64 n, .int .i64 m, .slice a b.length cap] w fun e w' => e = .returned (.bool true) ∧ Below w.heap.size w w' := by
  have hbl := hb.2.2.1
  by_cases hr : n < 1 ∨ 4294967295 < n
  · have HM := hide (make_range n a b.length cap w hr)
    rw [errV_pos 1 (by decide)] at HM
    clear hb
    by_cases h1 : n < 1
    · clear hr
      go_enter Try.func4, Try.ntmps4
      go_wp2_with fail
      refine (unhide HM).mono ?_
      rintro e w1 ⟨rfl, rfl⟩
      go_wp2
      go_ret
      exact ⟨rfl, Below.refl _ _⟩
    · have h2 : 4294967295 < n := by omega
      clear hr
      go_enter Try.func4, Try.ntmps4
      go_wp2_with fail
      refine (unhide HM).mono ?_
      rintro e w1 ⟨rfl, rfl⟩
      go_wp2
      go_ret
      exact ⟨rfl, Below.refl _ _⟩
  · have h1 : ¬ n < 1 := by omega
    have h2 : ¬ 4294967295 < n := by omega
    clear hr
    by_cases h3 : 24 < b.length
    · have HM := hide (make_full n a b.length cap w h1 h2 h3)
      rw [errV_pos 4 (by decide)] at HM
      clear hb
      go_enter Try.func4, Try.ntmps4
      go_wp2_with fail
      refine (unhide HM).mono ?_
      rintro e w1 ⟨rfl, rfl⟩
      have he : (decide (n < 1) || decide (4294967295 < n) || decide ((24 : Int) < (b.length : Int))) = true := by simp; omega
      have HE := hide he
      clear he
      go_wp2
      go_ret
      exact ⟨congrArg (fun x => Ending.returned (Value.bool x)) (unhide HE), Below.refl _ _⟩
    · have h3' : b.length ≤ 24 := by omega
      have HM := hide (make_yes n a cap b w hb h1 h2 h3')
      have HB := hide hb
      clear hb
      go_enter Try.func4, Try.ntmps4
      go_wp2_with fail
      refine (unhide HM).mono ?_
      rintro e w1 ⟨gx, rfl, _, hkx, hb1⟩
      have hx : Bs w1 (some ⟨gx, 0, none⟩) 32 (secL n b) := by
        have := hkx.bs (byt_secL n b (unhide HB).1) (by rw [length_secL n b h3']; decide)
        rwa [length_secL n b h3'] at this
      have HM2 := hide (make_any m a cap b w1 ((unhide HB).below hb1))
      have HX := hide hx
      have HB1 := hide hb1
      clear hx hkx hb1 HM
      go_wp2_with fail
      refine (unhide HM2).mono ?_
      rintro e w2 ⟨ay, cy, rfl, hy, hb2⟩
      have hbel2 : Below w.heap.size w w2 := (unhide HB1).trans (hb2.mono (unhide HB1).size)
      have hx2 := (unhide HX).below hb2
      have ho := open_any _ _ _ w2 hx2
      rw [openOut_secL n b (by omega) (by omega) h3', length_secL n b h3', errV_zero] at ho
      have HO := hide ho
      have HX2 := hide hx2
      have HY := hide hy
      have HB2 := hide hbel2
      clear hx2 hy hbel2 ho hb2 HM2 HX HB1
      go_wp2_with fail
      refine (unhide HO).mono ?_
      rintro e w3 ⟨ab, cb, rfl, hbo, hb3⟩
      have hlb : (b ++ zerosB (24 - b.length)).length = 24 := by simp [zerosB]; omega
      obtain ⟨x1, p1, s1⟩ := slice_hi (P := Try.prog) (t := 22) Try.underlying22 size_u8 hbo b.length (by omega)
      obtain ⟨x2, p2, s2⟩ := slice_lo (P := Try.prog) (t := 22) Try.underlying22 size_u8 hbo b.length (by omega)
      rw [hlb] at p1 p2
      rw [List.take_left] at s1
      rw [List.drop_left] at s2
      have cv1 := bytes_str s1
      have cv2 := bytes_str ((unhide HB).below ((unhide HB2).trans (hb3.mono (unhide HB2).size)))
      have HZ := hide (fun k => zero_zeros x2 (cb - b.length) (24 - b.length) (w3.drewN k) s2)
      have hbel3 : Below w.heap.size w w3 := (unhide HB2).trans (hb3.mono (unhide HB2).size)
      have HB3 := hide hbel3
      have cx := bytes_str ((unhide HX2).below hb3)
      have hy3 := (unhide HY).below hb3
      rw [length_secL n b h3'] at cx
      clear hbo s1 s2 hbel3 hb3 HX2 HY HB2 HO
      have hmo : (makeOut m b = ([], 1)) ∨ (makeOut m b = (secL m b, 0) ∧ 1 ≤ m ∧ m ≤ 4294967295) := by
        unfold makeOut
        by_cases hr : m < 1 ∨ 4294967295 < m
        · rw [if_pos hr]; exact .inl rfl
        · rw [if_neg hr, if_neg (by omega)]; exact .inr ⟨rfl, by omega, by omega⟩
      have HB4 := HB3
      rcases hmo with hmo | ⟨hmo, hm1, hm2⟩
      · rw [hmo] at hy3 ⊢
        have cy' := bytes_str hy3
        rw [errV_pos 1 (by decide)]
        clear hy3 hmo
        go_wp2_with fail
        go_quiet (fail)
        have HZ' := hide ((unhide HZ) nq)
        have HB5 := hide ((unhide HB4).trans ((below_drewN (Below.refl w3.heap.size w3) nq).mono (unhide HB4).size))
        clear HZ HB3 HB4
        go_wp2_with fail
        refine (unhide HZ').mono ?_
        rintro e w4 ⟨rfl, rfl⟩
        go_wp2
        go_ret
        exact ⟨rfl, unhide HB5⟩
      · rw [hmo] at hy3 ⊢
        have cy' := bytes_str hy3
        dsimp only at cy' ⊢
        rw [length_secL m b h3'] at cy' ⊢
        rw [errV_zero]
        by_cases hnm : n = m
        · subst hnm
          generalize strOf (secL n b) = sX at *
          clear hy3 hmo
          go_wp2_with fail
          go_quiet (fail)
          have HZ' := hide ((unhide HZ) nq)
          have HB5 := hide ((unhide HB4).trans ((below_drewN (Below.refl w3.heap.size w3) nq).mono (unhide HB4).size))
          clear HZ HB3 HB4
          go_wp2_with fail
          refine (unhide HZ').mono ?_
          rintro e w4 ⟨rfl, rfl⟩
          go_wp2
          go_ret
          exact ⟨rfl, unhide HB5⟩
        · have hne : ¬ strOf (secL n b) = strOf (secL m b) := fun e => hnm (secL_inj (by omega) (by omega) hm1 hm2 h3' (strOf_inj (byt_secL n b (unhide HB).1) (byt_secL m b (unhide HB).1) e))
          generalize strOf (secL n b) = sX at *
          generalize strOf (secL m b) = sY at *
          clear hy3 hmo
          go_wp2_with fail
          go_quiet (fail)
          have HZ' := hide ((unhide HZ) nq)
          have HB5 := hide ((unhide HB4).trans ((below_drewN (Below.refl w3.heap.size w3) nq).mono (unhide HB4).size))
          clear HZ HB3 HB4
          go_wp2_with fail
          refine (unhide HZ').mono ?_
          rintro e w4 ⟨rfl, rfl⟩
          have he : ((sX.toList == sY.toList) == (n == m)) = true := by
            rw [toList_ne hne, show (n == m) = false from by simpa using hnm]; rfl
          have HE := hide he
          clear he hne
          go_wp2
          go_ret
          exact ⟨congrArg (fun x => Ending.returned (Value.bool x)) (unhide HE), unhide HB5⟩
end Go.Proofs.Ytnpdejlbknjhnaa
