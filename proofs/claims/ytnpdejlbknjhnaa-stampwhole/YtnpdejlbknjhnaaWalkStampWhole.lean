/-
  The walk of the law StampWhole. (Part of the proof of StampWhole.)
-/
import Derived.Test.YtnpdejlbknjhnaaStampList
import Derived.Test.YtnpdejlbknjhnaaStampStr
import Derived.Deep.QuietTactic
import Derived.BigQuiet
import Derived.Maps.AppendAt
namespace Go.Proofs.Ytnpdejlbknjhnaa
open Go.RowKit
set_option linter.unusedVariables false

theorem byt_seven : Byt [7] := fun z hz => by
  have := List.mem_singleton.1 hz
  omega

set_option maxRecDepth 100000 in
set_option maxHeartbeats 4000000 in
theorem walkStampWhole (n m : Int) (a : Option Addr) (cap : Nat) (la : List Int) (a2 : Option Addr) (cap2 : Nat) (lb : List Int) (cut : Int) (w : World) (ha : Bs w a cap la) (hb : Bs w a2 cap2 lb) :
    Calls Try.prog 3 #[.int .i64 n, .int .i64 m, .slice a la.length cap, .slice a2 lb.length cap2, .int .i64 cut] w fun e w' => e = .returned (.bool true) ∧ Below w.heap.size w w' := by
  have hbl := hb.2.2.1
  have hal := ha.2.2.1
  have HA := hide ha
  have HB := hide hb
  clear ha hb
  obtain ⟨i0, hi0, hz0, hz1, hz2⟩ := info_parts info_u8
  have h7 : Bs (w.alloc (.cells #[.int .u8 7] 5)) (some ⟨w.heap.size, 0, none⟩) 1 [7] :=
    Blk.bs (l := [7]) (heap_alloc_new _ _) byt_seven (by decide)
  have HM := hide (make_yes 258 _ _ _ _ h7 (by decide) (by decide) (by decide))
  clear h7
  go_enter Try.func3, Try.ntmps3
  go_wp2_with fail
  refine (unhide HM).mono ?_
  rintro e w1 ⟨g, rfl, _, hk, hb1⟩
  have hl7 : (secL 258 [7]).length = 32 := length_secL 258 [7] (by decide)
  have c0 := hk.cell 0 (by rw [hl7]; decide)
  have c1 := hk.cell 1 (by rw [hl7]; decide)
  have c4 := hk.cell 4 (by rw [hl7]; decide)
  have c28 := hk.cell 28 (by rw [hl7]; decide)
  rw [show (secL 258 [7]).getD 0 0 = 2 from by decide] at c0
  rw [show (secL 258 [7]).getD 1 0 = 1 from by decide] at c1
  rw [show (secL 258 [7]).getD 4 0 = 7 from by decide] at c4
  rw [show (secL 258 [7]).getD 28 0 = 2 from by decide] at c28
  have hbel1 : Below w.heap.size w w1 := ((Below.refl _ _).alloc (Nat.le_refl _) _).trans (hb1.mono (by simp))
  have HM1 := hide (make_any n a cap la w1 ((unhide HA).below hbel1))
  have HB1 := hide hbel1
  clear hk hb1 hbel1 HM hl7
  go_wp2_with fail
  refine (unhide HM1).mono ?_
  rintro e w2 ⟨ax, cx, rfl, hx, hb2⟩
  have hbel2 : Below w.heap.size w w2 := (unhide HB1).trans (hb2.mono (unhide HB1).size)
  have HM2 := hide (make_any m a2 cap2 lb w2 ((unhide HB).below hbel2))
  have HX := hide hx
  have HB2 := hide hbel2
  clear hx hb2 hbel2 HM1 HB1 c0 c1 c4 c28
  go_wp2_with fail
  refine (unhide HM2).mono ?_
  rintro e w3 ⟨ay, cy, rfl, hy, hb3⟩
  have hbel3 : Below w.heap.size w w3 := (unhide HB2).trans (hb3.mono (unhide HB2).size)
  have HX3 := hide ((unhide HX).below hb3)
  have HY := hide hy
  have HB3 := hide hbel3
  clear hy hb3 hbel3 HM2 HX HB2
  rcases makeOut_cases n la with ⟨e1, he1, hm1⟩ | ⟨hm1, n1, n2, hla⟩
  · rw [hm1, errV_pos e1 he1]
    generalize errV (makeOut m lb).2 = f1 at *
    generalize (makeOut m lb).1 = Y1 at *
    clear hm1 he1
    go_wp2
    go_ret
    exact ⟨rfl, unhide HB3⟩
  · have hx3 := unhide HX3
    rw [hm1] at hx3 ⊢
    rw [errV_zero]
    dsimp only at hx3 ⊢
    rw [length_secL n la hla]
    have HX3' := hide hx3
    clear hx3 hm1 HX3
    rcases makeOut_cases m lb with ⟨e2, he2, hm2⟩ | ⟨hm2, m1, m2, hlb⟩
    · rw [hm2, errV_pos e2 he2]
      clear hm2 he2
      go_wp2
      go_ret
      exact ⟨rfl, unhide HB3⟩
    · have hy3 := unhide HY
      rw [hm2] at hy3 ⊢
      rw [errV_zero]
      dsimp only at hy3 ⊢
      rw [length_secL m lb hlb]
      have HY3 := hide hy3
      clear hy3 hm2 HY
      by_cases hnm : n = m
      · subst hnm
        go_wp2
        go_ret
        exact ⟨rfl, unhide HB3⟩
      · have ho := open_any ax cx _ w3 (unhide HX3')
        rw [openOut_secL n la n1 n2 hla, length_secL n la hla, errV_zero] at ho
        have HO := hide ho
        clear ho
        go_wp2_with fail
        refine (unhide HO).mono ?_
        rintro e w4 ⟨ab, cb, rfl, hbo, hb4⟩
        have hlz : (la ++ zerosB (24 - la.length)).length = 24 := by simp [zerosB]; omega
        rw [hlz]
        obtain ⟨x1, p1, s1⟩ := slice_hi (P := Try.prog) (t := 22) Try.underlying22 size_u8 hbo la.length (by omega)
        rw [hlz] at p1
        rw [List.take_left] at s1
        have hbel4 : Below w.heap.size w w4 := (unhide HB3).trans (hb4.mono (unhide HB3).size)
        have cv1 := bytes_str s1
        have cv2 := bytes_str ((unhide HA).below hbel4)
        have HX4 := hide ((unhide HX3').below hb4)
        have HY4 := hide ((unhide HY3).below hb4)
        have HB4 := hide hbel4
        clear hbo s1 hbel4 hb4 HO HX3' HY3 HB3 hlz
        generalize strOf la = sA at *
        have HFX : Hid ((secL n la).take 4 = (secL n la).drop 28) := hide (by rw [secL_front n la hla, secL_back n la hla])
        have HFY : Hid ((secL m lb).take 4 = (secL m lb).drop 28) := hide (by rw [secL_front m lb hlb, secL_back m lb hlb])
        have HNE : Hid ((secL n la).take 4 ≠ (secL m lb).take 4) := hide (by rw [secL_front n la hla, secL_front m lb hlb]; exact side_ne n1 n2 m1 m2 hnm)
        have HNZ : Hid ((secL n la).take 4 ≠ (zerosB 32).take 4) := hide (by rw [secL_front n la hla]; exact side_ne_zero n1 n2)
        go_wp2_with fail
        go_quiet (fail)
        have hd5 : Below w4.heap.size w4 (w4.drewN nq) := below_drewN (Below.refl _ _) nq
        have HX5 := hide ((unhide HX4).below hd5)
        have HY5 := hide ((unhide HY4).below hd5)
        have HB5 := hide ((unhide HB4).trans (hd5.mono (unhide HB4).size))
        clear hd5 HX4 HY4 HB4
        generalize w4.drewN nq = w5 at *
        go_wp2_with fail
        go_loopw [15, 19] (fun yv v wr => ∃ (j : Nat) (ay : Option Addr) (cy : Nat) (Y : List Int), j ≤ 2 ∧ v = .int .i64 j ∧ yv = .slice ay 32 cy ∧ Bs wr ay cy Y ∧ Y.length = 32 ∧ Y.take 4 = Y.drop 28 ∧ (secL n la).take 4 ≠ Y.take 4 ∧ Below w5.heap.size w5 wr) (fun _ v _ => 2 - (intOf v).toNat)
        case atStart => exact ⟨0, ay, cy, secL m lb, by omega, rfl, rfl, unhide HY5, length_secL m lb hlb, unhide HFY, unhide HNE, Below.refl _ _⟩
        case round =>
          obtain ⟨j, ay, cy, Y, hj, rfl, rfl, hyr, hyl, hyf, hyn, hbr⟩ := hrel
          clear HY5 HFY HNE
          have HYR := hide hyr
          have HYF := hide hyf
          have HYN := hide hyn
          have HBR := hide hbr
          have HBW := hide ((unhide HB5).trans (hbr.mono (unhide HB5).size))
          clear hyr hyf hyn hbr
          obtain rfl | rfl | rfl : j = 0 ∨ j = 1 ∨ j = 2 := by omega
          · have hmx := mix_any ax ay cx cy (secL n la) Y cut wr ((unhide HX5).below (unhide HBR)) (unhide HYR)
            rw [length_secL n la hla, hyl] at hmx
            have HMX := hide hmx
            clear hmx
            by_cases hcr : cut < 0 ∨ 32 < cut
            · have hmo : mixOut (secL n la) Y cut = ([], 1) := by
                unfold mixOut
                rw [if_neg (fun h => h ⟨length_secL n la hla, hyl⟩), if_pos hcr]
              have he : (decide (cut < 0) || decide (32 < cut)) = true := by simpa using hcr
              have HE := hide he
              have hmx := unhide HMX
              rw [hmo, errV_pos 1 (by decide)] at hmx
              have HMX' := hide hmx
              clear he hmx hmo HMX hcr
              go_wp2_with fail
              refine (unhide HMX').mono ?_
              rintro e w7 ⟨az, cz, rfl, _, hb7⟩
              have HB7 := hide ((unhide HBW).trans (hb7.mono (unhide HBW).size))
              clear hb7
              go_wp2
              all_goals
                go_ret
                first | exact ⟨rfl, unhide HB7⟩ | exact ⟨congrArg (fun x => Ending.returned (Value.bool x)) (unhide HE), unhide HB7⟩
            · obtain ⟨c, rfl⟩ : ∃ c : Nat, cut = c := ⟨cut.toNat, by omega⟩
              have hc : c ≤ 32 := by omega
              have hmo : mixOut (secL n la) Y c = (mixL (secL n la) Y c, 0) := by
                unfold mixOut
                rw [if_neg (fun h => h ⟨length_secL n la hla, hyl⟩), if_neg hcr, Int.toNat_natCast]
              have hlz := length_mixL (secL n la) Y c (length_secL n la hla) hyl hc
              have htt := fun ho => torn_told (length_secL n la hla) hyl (byt_secL n la (unhide HA).1) (unhide HYR).1 (unhide HFX) (unhide HYF) (unhide HYN) hc ho
              have hmx := unhide HMX
              rw [hmo, errV_zero] at hmx
              obtain ⟨Z, hZ⟩ : ∃ Z, mixL (secL n la) Y c = Z := ⟨_, rfl⟩
              rw [hZ] at hmx hlz htt
              have HMX' := hide hmx
              have HT := hide htt
              clear hmx hmo HMX hcr hZ htt
              go_wp2_with fail
              refine (unhide HMX').mono ?_
              rintro e w7 ⟨az, cz, rfl, hz7, hb7⟩
              rw [hlz]
              have hop := open_any az cz Z w7 hz7
              rw [hlz] at hop
              have HOP := hide hop
              have HZ7 := hide hz7
              have HB7 := hide hb7
              clear hop hz7 hb7 HMX'
              go_wp2_with fail
              refine (unhide HOP).mono ?_
              rintro e w8 ⟨ao, co, rfl, _, hb8⟩
              have hbwr8 : Below wr.heap.size wr w8 := (unhide HB7).trans (hb8.mono (unhide HB7).size)
              have HY8 := hide ((unhide HYR).below hbwr8)
              have HB8 := hide ((unhide HBR).trans (hbwr8.mono (unhide HBR).size))
              have cz8 := bytes_str0 ((unhide HZ7).below hb8)
              have cx8 := bytes_str0 (((unhide HX5).below (unhide HBR)).below hbwr8)
              have cy8 := bytes_str0 ((unhide HYR).below hbwr8)
              rw [hlz] at cz8
              rw [length_secL n la hla] at cx8
              rw [hyl] at cy8
              clear hb8 hbwr8 HOP HZ7 HB7
              by_cases ho : (openOut Z).2.2 = 0
              · rw [ho, errV_zero]
                rcases (unhide HT) ho with hZX | hZY
                · rw [hZX] at cz8
                  generalize strOf (secL n la) = sX at *
                  clear ho hZX
                  go_wp2
                  go_roundw
                  case rel => exact ⟨1, _, _, Y, by omega, rfl, rfl, unhide HY8, hyl, (unhide HYF), (unhide HYN), unhide HB8⟩
                  case measure => simp [intOf]
                · rw [hZY] at cz8
                  by_cases hXY : strOf Y = strOf (secL n la)
                  · rw [hXY] at cz8 cy8
                    generalize strOf (secL n la) = sX at *
                    clear ho hZY hXY
                    go_wp2
                    go_roundw
                    case rel => exact ⟨1, _, _, Y, by omega, rfl, rfl, unhide HY8, hyl, (unhide HYF), (unhide HYN), unhide HB8⟩
                    case measure => simp [intOf]
                  · have hne2 := toList_ne hXY
                    generalize strOf (secL n la) = sX at *
                    generalize strOf Y = sY at *
                    clear ho hZY hXY
                    go_wp2
                    go_roundw
                    case rel => exact ⟨1, _, _, Y, by omega, rfl, rfl, unhide HY8, hyl, (unhide HYF), (unhide HYN), unhide HB8⟩
                    case measure => simp [intOf]
              · rw [errV_pos _ ho]
                generalize (openOut Z).2.2 = eo at *
                clear ho
                go_wp2
                go_roundw
                case rel => exact ⟨1, _, _, Y, by omega, rfl, rfl, unhide HY8, hyl, (unhide HYF), (unhide HYN), unhide HB8⟩
                case measure => simp [intOf]
          · go_wp2_with (at_make; refine wpList_make_u8 rfl _ _ 22 rfl i0 Try.underlying22 hi0 hz0 hz1 hz2 _ _ _ _ 32 rfl rfl rfl rfl (by omega) ?_)
            intro w6 hk6 hs6 hb6
            have HX6 := hide (((unhide HX5).below (unhide HBR)).below hb6)
            have HY6 : Hid (Bs w6 (some ⟨wr.heap.size, 0, none⟩) 32 (zerosB 32)) := hide (by have := hk6.bs (byt_zerosB 32) (by rw [length_zerosB]; decide); rwa [length_zerosB] at this)
            have hbr6 := (unhide HBR).trans (hb6.mono (unhide HBR).size)
            have hbw6 := (unhide HBW).trans (hb6.mono (unhide HBW).size)
            clear HBR HBW HYR HYF HYN hyl hk6 hs6 hb6
            have HBR := hide hbr6
            have HBW := hide hbw6
            clear hbr6 hbw6
            have hmx := mix_any ax (some ⟨wr.heap.size, 0, none⟩) cx 32 (secL n la) (zerosB 32) cut w6 ((unhide HX6)) ((unhide HY6))
            rw [length_secL n la hla, (length_zerosB 32)] at hmx
            have HMX := hide hmx
            clear hmx
            by_cases hcr : cut < 0 ∨ 32 < cut
            · have hmo : mixOut (secL n la) (zerosB 32) cut = ([], 1) := by
                unfold mixOut
                rw [if_neg (fun h => h ⟨length_secL n la hla, (length_zerosB 32)⟩), if_pos hcr]
              have he : (decide (cut < 0) || decide (32 < cut)) = true := by simpa using hcr
              have HE := hide he
              have hmx := unhide HMX
              rw [hmo, errV_pos 1 (by decide)] at hmx
              have HMX' := hide hmx
              clear he hmx hmo HMX hcr
              go_wp2_with fail
              refine (unhide HMX').mono ?_
              rintro e w7 ⟨az, cz, rfl, _, hb7⟩
              have HB7 := hide ((unhide HBW).trans (hb7.mono (unhide HBW).size))
              clear hb7
              go_wp2
              all_goals
                go_ret
                first | exact ⟨rfl, unhide HB7⟩ | exact ⟨congrArg (fun x => Ending.returned (Value.bool x)) (unhide HE), unhide HB7⟩
            · obtain ⟨c, rfl⟩ : ∃ c : Nat, cut = c := ⟨cut.toNat, by omega⟩
              have hc : c ≤ 32 := by omega
              have hmo : mixOut (secL n la) (zerosB 32) c = (mixL (secL n la) (zerosB 32) c, 0) := by
                unfold mixOut
                rw [if_neg (fun h => h ⟨length_secL n la hla, (length_zerosB 32)⟩), if_neg hcr, Int.toNat_natCast]
              have hlz := length_mixL (secL n la) (zerosB 32) c (length_secL n la hla) (length_zerosB 32) hc
              have htt := fun ho => torn_told (length_secL n la hla) (length_zerosB 32) (byt_secL n la (unhide HA).1) (byt_zerosB 32) (unhide HFX) rfl (unhide HNZ) hc ho
              have hmx := unhide HMX
              rw [hmo, errV_zero] at hmx
              obtain ⟨Z, hZ⟩ : ∃ Z, mixL (secL n la) (zerosB 32) c = Z := ⟨_, rfl⟩
              rw [hZ] at hmx hlz htt
              have HMX' := hide hmx
              have HT := hide htt
              clear hmx hmo HMX hcr hZ htt
              go_wp2_with fail
              refine (unhide HMX').mono ?_
              rintro e w7 ⟨az, cz, rfl, hz7, hb7⟩
              rw [hlz]
              have hop := open_any az cz Z w7 hz7
              rw [hlz] at hop
              have HOP := hide hop
              have HZ7 := hide hz7
              have HB7 := hide hb7
              clear hop hz7 hb7 HMX'
              go_wp2_with fail
              refine (unhide HOP).mono ?_
              rintro e w8 ⟨ao, co, rfl, _, hb8⟩
              have hbw68 : Below w6.heap.size w6 w8 := (unhide HB7).trans (hb8.mono (unhide HB7).size)
              have HY8 := hide (((unhide HY6)).below hbw68)
              have HB8 := hide ((unhide HBR).trans (hbw68.mono (unhide HBR).size))
              have cz8 := bytes_str0 ((unhide HZ7).below hb8)
              have cx8 := bytes_str0 (((unhide HX6)).below hbw68)
              have cy8 := bytes_str0 (((unhide HY6)).below hbw68)
              rw [hlz] at cz8
              rw [length_secL n la hla] at cx8
              rw [(length_zerosB 32)] at cy8
              clear hb8 hbw68 HOP HZ7 HB7
              by_cases ho : (openOut Z).2.2 = 0
              · rw [ho, errV_zero]
                rcases (unhide HT) ho with hZX | hZY
                · rw [hZX] at cz8
                  generalize strOf (secL n la) = sX at *
                  clear ho hZX
                  go_wp2
                  go_roundw
                  case rel => exact ⟨2, _, _, (zerosB 32), by omega, rfl, rfl, unhide HY8, (length_zerosB 32), rfl, (unhide HNZ), unhide HB8⟩
                  case measure => simp [intOf]
                · rw [hZY] at cz8
                  by_cases hXY : strOf (zerosB 32) = strOf (secL n la)
                  · rw [hXY] at cz8 cy8
                    generalize strOf (secL n la) = sX at *
                    clear ho hZY hXY
                    go_wp2
                    go_roundw
                    case rel => exact ⟨2, _, _, (zerosB 32), by omega, rfl, rfl, unhide HY8, (length_zerosB 32), rfl, (unhide HNZ), unhide HB8⟩
                    case measure => simp [intOf]
                  · have hne2 := toList_ne hXY
                    generalize strOf (secL n la) = sX at *
                    generalize strOf (zerosB 32) = sY at *
                    clear ho hZY hXY
                    go_wp2
                    go_roundw
                    case rel => exact ⟨2, _, _, (zerosB 32), by omega, rfl, rfl, unhide HY8, (length_zerosB 32), rfl, (unhide HNZ), unhide HB8⟩
                    case measure => simp [intOf]
              · rw [errV_pos _ ho]
                generalize (openOut Z).2.2 = eo at *
                clear ho
                go_wp2
                go_roundw
                case rel => exact ⟨2, _, _, (zerosB 32), by omega, rfl, rfl, unhide HY8, (length_zerosB 32), rfl, (unhide HNZ), unhide HB8⟩
                case measure => simp [intOf]
          · go_wp2
            go_ret
            exact ⟨rfl, unhide HBW⟩
end Go.Proofs.Ytnpdejlbknjhnaa
