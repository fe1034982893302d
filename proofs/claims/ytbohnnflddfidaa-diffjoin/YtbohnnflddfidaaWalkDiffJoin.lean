/-
  The walk of the law DiffJoin. (Part of the proof of DiffJoin.)
-/
import Derived.Test.YtbohnnflddfidaaDjPlain
import Derived.Test.YtbohnnflddfidaaStrEq
namespace Go.Proofs.Ytbohnnflddfidaa
open Go.RowKit
set_option linter.unusedVariables false

set_option maxRecDepth 100000 in
set_option maxHeartbeats 4000000 in
theorem walkDiffJoin (a : Option Addr) (ca : Nat) (A : List Int) (b : Option Addr) (cb : Nat) (B : List Int) (c : Option Addr) (cc : Nat) (C : List Int) (w : World) (hA : Bs w a ca A) (hB : Bs w b cb B) (hC : Bs w c cc C) :
    Calls Try.prog 5 #[.slice a A.length ca, .slice b B.length cb, .slice c C.length cc] w fun e w' => e = .returned (.bool true) ∧ Below w.heap.size w w' := by
  have hAl := hA.2.2.1
  have hBl := hB.2.2.1
  have hCl := hC.2.2.1
  have HA := hide hA
  have HB := hide hB
  have HC := hide hC
  have HD1 := hide (diff_chs a b ca cb A B w hA hB)
  have HD2 := hide (fun (w' : World) (h : Below w.heap.size w w') => diff_chs b c cb cc B C w' (hB.below h) (hC.below h))
  have HD3 := hide (fun (w' : World) (h : Below w.heap.size w w') => diff_chs a c ca cc A C w' (hA.below h) (hC.below h))
  have HZ1 := hide (fun (h : dfE A B = 0) => dfE_zero h)
  have HZ2 := hide (fun (h : dfE B C = 0) => dfE_zero h)
  have HZ3 := hide (fun (h : dfE A C = 0) => dfE_zero h)
  have f1 := dfO_few A B
  have f2 := dfO_few B C
  have f3 := dfO_few A C
  clear hA hB hC
  generalize dfE A B = E1 at *
  generalize dfE B C = E2 at *
  generalize dfE A C = E3 at *
  generalize hL1 : dfO A B = L1 at *
  generalize hL2 : dfO B C = L2 at *
  generalize hL3 : dfO A C = L3 at *
  clear hL1 hL2 hL3
  generalize hNA : A.length = NA at *
  generalize hNB : B.length = NB at *
  generalize hNC : C.length = NC at *
  have HNA := hide hNA
  have HNB := hide hNB
  have HNC := hide hNC
  clear hNA hNB hNC
  go_enter Try.func5, Try.ntmps5
  go_wp2_with fail
  refine (unhide HD1).mono ?_
  rintro e w1 ⟨v1, k1, rfl, hc1, hb1⟩
  go_wp2_with fail
  refine (unhide HD2 w1 hb1).mono ?_
  rintro e w2 ⟨v2, k2, rfl, hc2, hb2⟩
  have hb12 := hb1.trans (hb2.mono hb1.size)
  go_wp2_with fail
  refine (unhide HD3 w2 hb12).mono ?_
  rintro e w3 ⟨v3, k3, rfl, hc3, hb3⟩
  have hB3 := hb12.trans (hb3.mono hb12.size)
  have HC1 := hide ((hc1.below hb2).below hb3)
  have HC2 := hide (hc2.below hb3)
  have HC3 := hide hc3
  have HB3 := hide hB3
  clear hc1 hc2 hc3 hb1 hb2 hb3 hb12 hB3 HD1 HD2 HD3
  by_cases h1 : E1 = 0
  · rw [h1, errV_zero]
    by_cases h2 : E2 = 0
    · rw [h2, errV_zero]
      by_cases h3 : E3 = 0
      · rw [h3, errV_zero]
        by_cases h4 : L1.length + L2.length ≤ 200
        · by_cases h5 : L3.length ≤ 200
          · obtain ⟨hab, h64, rfl⟩ := unhide HZ1 h1
            obtain ⟨hbc, _, rfl⟩ := unhide HZ2 h2
            obtain ⟨_, _, rfl⟩ := unhide HZ3 h3
            subst hab hbc
            clear HZ1 HZ2 HZ3 h1 h2 h3
            have hNA := unhide HNA
            have hNB := unhide HNB
            have hNC := unhide HNC
            have j1 := dj_all (A := A) (B := B) (C := C) (by rw [hNA, hNB]) (by rw [hNB, hNC]) (by rw [List.length_append, hNA, hNB]; exact h4)
            have j2 := dj_one (A := A) (C := C) (by rw [hNA, hNC]) (by rw [hNA]; exact h5)
            have j3 := (df_pages (a := A) (b := C) (by rw [hNA, hNC]) (by rw [hNA]; exact h64)).1
            have HJ := hide (fun (P : List Int) (i : Nat) hP (hi : 32 * i < NA) => dj_page (A := A) (C := C) (P := P) (i := i) (by rw [hNA, hNC]) (by rw [hNA]; exact h64) hP (by rw [hNA]; exact hi))
            rw [hNA, hNB] at j1
            rw [hNA] at j2 j3 HJ
            obtain ⟨rs1, g1, hS1, hR1⟩ := unhide HC1
            obtain ⟨rs2, g2, hS2, hR2⟩ := unhide HC2
            have hl1 : (dfK A B NA).length = rs1.length := by rw [← g1, List.length_map]
            have hl2 : (dfK B C NA).length = rs2.length := by rw [← g2, List.length_map]
            have HA1 := hide (fun (w' : World) (v' : Option Addr) (k' : Nat) (hb : Below w.heap.size w w') (hc : Chs w' v' k' (dfK A B NA ++ dfK B C NA)) => apply_any a v' ca k' A (dfK A B NA ++ dfK B C NA) w' ((unhide HA).below hb) hc)
            have HA2 := hide (fun (w' : World) (hb : Below w.heap.size w w') (hc : Chs w' v3 k3 (dfK A C NA)) => apply_any a v3 ca k3 A (dfK A C NA) w' ((unhide HA).below hb) hc)
            have HPG := hide (fun (w' : World) (hc : Chs w' v3 k3 (dfK A C NA)) => pages_yes v3 k3 (dfK A C NA) w' hc j3 (by omega))
            rw [j1.1, j1.2, hNA] at HA1
            rw [j2.1, j2.2, hNA] at HA2
            unfold Ends at HA1 HA2
            rw [hNC, errV_zero] at HA1 HA2
            have HG1 := hide g1
            have HG2 := hide g2
            have HS2 := hide hS2
            have HR1 := hide hR1
            have HR2 := hide hR2
            rw [hl1, hl2] at h4
            rw [hl1] at f1
            rw [hl2] at f2
            rw [hl1, hl2]
            clear j1 j2 j3 g1 g2 hS2 hR1 hR2 HC1 HC2
            generalize hL3 : dfK A C NA = L3 at *
            have HL3 := hide hL3
            clear hL3
            have t1 : ¬ (200 < (rs1.length : Int) + (rs2.length : Int)) := by omega
            have t2 : ¬ (200 < (L3.length : Int)) := by omega
            obtain ⟨i0, hi0, hz0, hz1, hz2⟩ := info_parts info_chg
            go_wp2_with (at_builtin; refine wpList_append_sls rfl _ _ 23 rfl w3.heap.size i0 _ 56 Try.underlying23 hi0 hz0 hz1 hz2 rfl (by decide) (by decide) _ [] rfl (Lst.nil _ _) v1 k1 rs1 rfl hS1 rwC_len rwC_one (by simp; omega) (Nat.le_refl _) ?_)
            intro v4 w4 hown4 hb4
            obtain ⟨s4, m4, c4, rfl⟩ := hown4.shape
            have hS2 := (unhide HS2).below hb4
            clear hS1 HS2
            go_wp2_with (at_builtin; refine wpList_append_sls rfl _ _ 23 rfl w3.heap.size i0 _ 56 Try.underlying23 hi0 hz0 hz1 hz2 rfl (by decide) (by decide) _ rs1 rfl hown4 v2 k2 rs2 rfl hS2 rwC_len rwC_one (by omega) hb4.size ?_)
            intro v5 w5 hown5 hb5
            have hb35 := hb4.trans hb5
            obtain ⟨a5, c5, rfl, hch5⟩ := chs_join hown5 (unhide HG1) (unhide HG2) (fun r hr => (unhide HR1 r hr).below hb35) (fun r hr => (unhide HR2 r hr).below hb35) (by rw [List.length_append]; omega)
            have hbw5 := (unhide HB3).trans (hb35.mono (unhide HB3).size)
            have HAP := hide (unhide HA1 w5 a5 c5 hbw5 hch5)
            have HC35 := hide ((unhide HC3).below hb35)
            have HB5 := hide hbw5
            clear hown4 hown5 hb4 hb5 hb35 hS2 hch5 hbw5 HA1 HG1 HG2 HR1 HR2 HC3 HB3 hi0 hz0 hz1 hz2
            have hlj : (dfK A B NA ++ dfK B C NA).length ≤ 200 := by rw [List.length_append, hl1, hl2]; exact h4
            generalize (dfK A B NA ++ dfK B C NA).length = nj at *
            clear hl1 hl2
            go_wp2_with fail
            refine (unhide HAP).mono ?_
            rintro e w6 ⟨a6, c6, rfl, hx6, hb6⟩
            have hbw6 := (unhide HB5).trans (hb6.mono (unhide HB5).size)
            have hc6 := (unhide HC35).below hb6
            have HAP2 := hide (unhide HA2 w6 hbw6 hc6)
            have HX6 := hide hx6
            have HC6 := hide hc6
            have HB6 := hide hbw6
            clear hx6 hb6 hbw6 hc6 HAP HA2 HC35 HB5
            go_wp2_with fail
            refine (unhide HAP2).mono ?_
            rintro e w7 ⟨a7, c7, rfl, hx7, hb7⟩
            have hc7 := (unhide HC6).below hb7
            have HPG7 := hide (unhide HPG w7 hc7)
            have HX6b := hide ((unhide HX6).below hb7)
            have HX7 := hide hx7
            have HB7 := hide ((unhide HB6).trans (hb7.mono (unhide HB6).size))
            clear hx7 hb7 hc7 HAP2 HPG HX6 HC6 HB6
            go_wp2_with fail
            refine (unhide HPG7).mono ?_
            rintro e w8 ⟨v8, P, rfl, hrow8, hP200, hmem8, hb8⟩
            obtain ⟨a8, c8, rfl, hp8⟩ := ints_row hrow8
            have HX6 := hide ((unhide HX6b).below hb8)
            have HX8 := hide ((unhide HX7).below hb8)
            have hB8 := (unhide HB7).trans (hb8.mono (unhide HB7).size)
            have HB8 := hide hB8
            have HA8 := hide ((unhide HA).below hB8)
            have HC8 := hide ((unhide HC).below hB8)
            have HP8 := hide hp8
            have HIN := hide (fun (i : Nat) (hi : 32 * i < NA) => unhide HJ P i hmem8 hi)
            clear hrow8 hmem8 hb8 hp8 hB8 HX6b HX7 HB7 HPG7 HJ HA HB HC
            have HCV6 := hide (fun (q : Nat) => conv_str (P := Try.prog) (t := 22) (e := 9) Try.underlying22 Try.underlying5 Try.underlying9 ((unhide HX6).drewN q))
            have HCV7 := hide (fun (q : Nat) => conv_str (P := Try.prog) (t := 22) (e := 9) Try.underlying22 Try.underlying5 Try.underlying9 ((unhide HX8).drewN q))
            have HCVC := hide (fun (q : Nat) => conv_str (P := Try.prog) (t := 22) (e := 9) Try.underlying22 Try.underlying5 Try.underlying9 ((unhide HC8).drewN q))
            rw [hNC] at HCV6 HCV7 HCVC
            go_wp2_with fail
            go_loopw [20] (fun iv wr => ∃ i q : Nat, iv = .int .i64 i ∧ wr = w8.drewN q ∧ 32 * i ≤ NA + 31) (fun iv _ => NA + 64 - 32 * (intOf iv).toNat)
            case atStart => exact ⟨0, 0, rfl, rfl, by omega⟩
            case round =>
              obtain ⟨i, q, rfl, rfl, hi31⟩ := hrel
              by_cases hlt : 32 * i < NA
              · have hin := unhide HIN i hlt
                have hPl : P.length ≤ 140737488351232 := by omega
                have t3 : 32 * (i : Int) < (NA : Int) := by omega
                have m1 : ((32 * i : Nat) : Int) = 32 * (i : Int) := by omega
                by_cases h32 : 32 * i + 32 ≤ NA
                · have t4 : ¬ ((NA : Int) < 32 * (i : Int) + 32) := by omega
                  obtain ⟨s1, hs1, hy1⟩ := slice_lohi (P := Try.prog) Try.underlying22 size_u8 (unhide HA8) (32 * i) (32 * i + 32) (by omega) (by omega)
                  obtain ⟨s2, hs2, hy2⟩ := slice_lohi (P := Try.prog) Try.underlying22 size_u8 (unhide HC8) (32 * i) (32 * i + 32) (by omega) (by omega)
                  have z1 := fun (q : Nat) => conv_str (P := Try.prog) (t := 22) (e := 9) Try.underlying22 Try.underlying5 Try.underlying9 (hy1.drewN q)
                  have z2 := fun (q : Nat) => conv_str (P := Try.prog) (t := 22) (e := 9) Try.underlying22 Try.underlying5 Try.underlying9 (hy2.drewN q)
                  have l1 : ((A.drop (32 * i)).take (32 * i + 32 - 32 * i)).length = 32 * i + 32 - 32 * i := by rw [List.length_take, List.length_drop, hNA]; omega
                  have l2 : ((C.drop (32 * i)).take (32 * i + 32 - 32 * i)).length = 32 * i + 32 - 32 * i := by rw [List.length_take, List.length_drop, hNC]; omega
                  have hmin : min (32 * i + 32) NA = 32 * i + 32 := by omega
                  have k1 := take_min A i
                  have k2 := take_min C i
                  rw [hNA, hmin] at k1
                  rw [hNC, hmin] at k2
                  rw [← k1, ← k2] at hin
                  have hbs := (⟨hy1.1, hy2.1⟩ : _ ∧ _)
                  have heq : ((strOf ((A.drop (32 * i)).take (32 * i + 32 - 32 * i))).toList == (strOf ((C.drop (32 * i)).take (32 * i + 32 - 32 * i))).toList) = decide ((A.drop (32 * i)).take (32 * i + 32 - 32 * i) = (C.drop (32 * i)).take (32 * i + 32 - 32 * i)) := by
                    by_cases e : (A.drop (32 * i)).take (32 * i + 32 - 32 * i) = (C.drop (32 * i)).take (32 * i + 32 - 32 * i)
                    · rw [decide_eq_true e, e]; exact toL_iff.2 rfl
                    · rw [decide_eq_false e]; exact toL_no (fun h => e ((strOf_iff hbs.1 hbs.2).1 h))
                  rw [l1] at z1
                  rw [l2] at z2
                  rw [hNA] at hs1
                  rw [hNC] at hs2
                  generalize decide ((A.drop (32 * i)).take (32 * i + 32 - 32 * i) = (C.drop (32 * i)).take (32 * i + 32 - 32 * i)) = eqb at hin heq
                  generalize strOf ((A.drop (32 * i)).take (32 * i + 32 - 32 * i)) = SA at z1 heq
                  generalize strOf ((C.drop (32 * i)).take (32 * i + 32 - 32 * i)) = SD at z2 heq
                  generalize 32 * i + 32 - 32 * i = dl at z1 z2 hs1 hs2
                  have m2 : ((32 * i + 32 : Nat) : Int) = 32 * (i : Int) + 32 := by omega
                  rw [m1, m2] at hs1 hs2
                  have HZ1 := hide z1
                  have HZ2 := hide z2
                  have HEQ := hide heq
                  have HIB := hide hin
                  clear z1 z2 heq hin hy1 hy2 l1 l2 k1 k2 hbs hmin m1 m2
                  go_wp2_with fail
                  go_loop [22, 23] (fun bv kv => ∃ k : Nat, k ≤ P.length ∧ kv = .int .i64 k ∧ bv = .bool ((P.take k).any (fun x => x == (i : Int)))) (fun _ kv => P.length - (intOf kv).toNat)
                  case atStart => exact ⟨0, Nat.zero_le _, rfl, rfl⟩
                  case round =>
                    obtain ⟨k, hk, rfl, rfl⟩ := hrel
                    by_cases hkl : k < P.length
                    · obtain ⟨g, rfl, hcell⟩ := unhide HP8 k hkl
                      have hsucc := any_take_succ P i k hkl
                      have HSU := hide hsucc
                      generalize P.getD k 0 = y at hcell HSU
                      cases hb : (P.take k).any (fun x => x == (i : Int)) with
                      | true =>
                        rw [hb, Bool.true_or] at HSU
                        clear hb hsucc
                        go_wp2
                        go_round
                        case rel => exact ⟨k + 1, by omega, by go_num, by rw [unhide HSU]⟩
                        case measure => simp [intOf]; omega
                      | false =>
                        rw [hb, Bool.false_or] at HSU
                        clear hb hsucc
                        go_wp2
                        go_round
                        case rel => exact ⟨k + 1, by omega, by go_num, by rw [unhide HSU]⟩
                        case measure => simp [intOf]; omega
                    · obtain rfl : k = P.length := by omega
                      rw [List.take_length, unhide HIB]
                      have z1 := unhide HZ1
                      have z2 := unhide HZ2
                      have heq := unhide HEQ
                      clear HZ1 HZ2 HEQ HIB
                      cases eqb with
                      | true =>
                        go_wp2_with fail
                        go_quiet (fail)
                        go_wp2
                        go_roundw
                        case rel => exact ⟨i + 1, q + nq, by go_num, by first | rfl | rw [World.drewN_drewN], by omega⟩
                        case measure => simp [intOf]; omega
                      | false =>
                        go_wp2_with fail
                        go_quiet (fail)
                        go_wp2
                        go_roundw
                        case rel => exact ⟨i + 1, q + nq, by go_num, by first | rfl | rw [World.drewN_drewN], by omega⟩
                        case measure => simp [intOf]; omega
                · have t4 : (NA : Int) < 32 * (i : Int) + 32 := by omega
                  obtain ⟨s1, hs1, hy1⟩ := slice_lohi (P := Try.prog) Try.underlying22 size_u8 (unhide HA8) (32 * i) NA (by omega) (by omega)
                  obtain ⟨s2, hs2, hy2⟩ := slice_lohi (P := Try.prog) Try.underlying22 size_u8 (unhide HC8) (32 * i) NA (by omega) (by omega)
                  have z1 := fun (q : Nat) => conv_str (P := Try.prog) (t := 22) (e := 9) Try.underlying22 Try.underlying5 Try.underlying9 (hy1.drewN q)
                  have z2 := fun (q : Nat) => conv_str (P := Try.prog) (t := 22) (e := 9) Try.underlying22 Try.underlying5 Try.underlying9 (hy2.drewN q)
                  have l1 : ((A.drop (32 * i)).take (NA - 32 * i)).length = NA - 32 * i := by rw [List.length_take, List.length_drop, hNA]; omega
                  have l2 : ((C.drop (32 * i)).take (NA - 32 * i)).length = NA - 32 * i := by rw [List.length_take, List.length_drop, hNC]; omega
                  have hmin : min (32 * i + 32) NA = NA := by omega
                  have k1 := take_min A i
                  have k2 := take_min C i
                  rw [hNA, hmin] at k1
                  rw [hNC, hmin] at k2
                  rw [← k1, ← k2] at hin
                  have hbs := (⟨hy1.1, hy2.1⟩ : _ ∧ _)
                  have heq : ((strOf ((A.drop (32 * i)).take (NA - 32 * i))).toList == (strOf ((C.drop (32 * i)).take (NA - 32 * i))).toList) = decide ((A.drop (32 * i)).take (NA - 32 * i) = (C.drop (32 * i)).take (NA - 32 * i)) := by
                    by_cases e : (A.drop (32 * i)).take (NA - 32 * i) = (C.drop (32 * i)).take (NA - 32 * i)
                    · rw [decide_eq_true e, e]; exact toL_iff.2 rfl
                    · rw [decide_eq_false e]; exact toL_no (fun h => e ((strOf_iff hbs.1 hbs.2).1 h))
                  rw [l1] at z1
                  rw [l2] at z2
                  rw [hNA] at hs1
                  rw [hNC] at hs2
                  generalize decide ((A.drop (32 * i)).take (NA - 32 * i) = (C.drop (32 * i)).take (NA - 32 * i)) = eqb at hin heq
                  generalize strOf ((A.drop (32 * i)).take (NA - 32 * i)) = SA at z1 heq
                  generalize strOf ((C.drop (32 * i)).take (NA - 32 * i)) = SD at z2 heq
                  generalize NA - 32 * i = dl at z1 z2 hs1 hs2
                  have m2 : ((NA : Nat) : Int) = (NA : Int) := by omega
                  rw [m1, m2] at hs1 hs2
                  have HZ1 := hide z1
                  have HZ2 := hide z2
                  have HEQ := hide heq
                  have HIB := hide hin
                  clear z1 z2 heq hin hy1 hy2 l1 l2 k1 k2 hbs hmin m1 m2
                  go_wp2_with fail
                  go_loop [22, 23] (fun bv kv => ∃ k : Nat, k ≤ P.length ∧ kv = .int .i64 k ∧ bv = .bool ((P.take k).any (fun x => x == (i : Int)))) (fun _ kv => P.length - (intOf kv).toNat)
                  case atStart => exact ⟨0, Nat.zero_le _, rfl, rfl⟩
                  case round =>
                    obtain ⟨k, hk, rfl, rfl⟩ := hrel
                    by_cases hkl : k < P.length
                    · obtain ⟨g, rfl, hcell⟩ := unhide HP8 k hkl
                      have hsucc := any_take_succ P i k hkl
                      have HSU := hide hsucc
                      generalize P.getD k 0 = y at hcell HSU
                      cases hb : (P.take k).any (fun x => x == (i : Int)) with
                      | true =>
                        rw [hb, Bool.true_or] at HSU
                        clear hb hsucc
                        go_wp2
                        go_round
                        case rel => exact ⟨k + 1, by omega, by go_num, by rw [unhide HSU]⟩
                        case measure => simp [intOf]; omega
                      | false =>
                        rw [hb, Bool.false_or] at HSU
                        clear hb hsucc
                        go_wp2
                        go_round
                        case rel => exact ⟨k + 1, by omega, by go_num, by rw [unhide HSU]⟩
                        case measure => simp [intOf]; omega
                    · obtain rfl : k = P.length := by omega
                      rw [List.take_length, unhide HIB]
                      have z1 := unhide HZ1
                      have z2 := unhide HZ2
                      have heq := unhide HEQ
                      clear HZ1 HZ2 HEQ HIB
                      cases eqb with
                      | true =>
                        go_wp2_with fail
                        go_quiet (fail)
                        go_wp2
                        go_roundw
                        case rel => exact ⟨i + 1, q + nq, by go_num, by first | rfl | rw [World.drewN_drewN], by omega⟩
                        case measure => simp [intOf]; omega
                      | false =>
                        go_wp2_with fail
                        go_quiet (fail)
                        go_wp2
                        go_roundw
                        case rel => exact ⟨i + 1, q + nq, by go_num, by first | rfl | rw [World.drewN_drewN], by omega⟩
                        case measure => simp [intOf]; omega
              · have t3 : ¬ (32 * (i : Int) < (NA : Int)) := by omega
                have x1 := unhide HCV6 q
                have x2 := unhide HCV7 q
                have x3 := unhide HCVC q
                generalize strOf C = SC at x1 x2 x3
                have hsc : (SC.toList == SC.toList) = true := beq_self_eq_true _
                go_wp2
                go_ret
                exact ⟨rfl, below_drewN (unhide HB8) q⟩
          · have t1 : ¬ (200 < (L1.length : Int) + (L2.length : Int)) := by omega
            have t2 : 200 < (L3.length : Int) := by omega
            go_wp2
            go_ret
            exact ⟨rfl, unhide HB3⟩
        · have t1 : 200 < (L1.length : Int) + (L2.length : Int) := by omega
          go_wp2
          go_ret
          exact ⟨rfl, unhide HB3⟩
      · rw [errV_pos _ h3]
        go_wp2
        go_ret
        exact ⟨rfl, unhide HB3⟩
    · rw [errV_pos _ h2]
      go_wp2
      go_ret
      exact ⟨rfl, unhide HB3⟩
  · rw [errV_pos _ h1]
    go_wp2
    go_ret
    exact ⟨rfl, unhide HB3⟩
end Go.Proofs.Ytbohnnflddfidaa
