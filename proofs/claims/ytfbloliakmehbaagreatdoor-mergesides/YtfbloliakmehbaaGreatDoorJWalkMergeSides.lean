/-
  The walk of MergeSides. (Part of the proof of MergeSides.)
-/
import Derived.Test.YtfbloliakmehbaaGreatDoorJMs
import Derived.Test.YtfbloliakmehbaaGreatDoorJChl
import Derived.Test.YtfbloliakmehbaaGreatDoorJIs
import Derived.Test.YtfbloliakmehbaaGreatDoorJOb
import Derived.Test.YtfbloliakmehbaaGreatDoorJRc
import Derived.Test.YtfbloliakmehbaaGreatDoorJSe
import Derived.Test.YtfbloliakmehbaaGreatDoorJRef
import Derived.BigQuiet
import Derived.Deep.CutRange
namespace Go.Proofs.YtfbloliakmehbaaGreatDoor
open Go.RowKit
set_option linter.unusedVariables false
set_option maxRecDepth 100000 in
set_option maxHeartbeats 16000000 in
theorem walkMergeSides (a0 : Option Addr) (cap0 : Nat) (L : List Int) (a1 : Option Addr) (cap1 : Nat) (ops : List OpR) (a2 : Option Addr) (cap2 : Nat) (more : List OpR) (w : World) (hg : ErrT w) (hbs : Bs w a0 cap0 L) (ho : Ops w a1 cap1 ops) (hm : Ops w a2 cap2 more) :
  Calls Tryz.prog 4 #[.slice a0 L.length cap0, .slice a1 ops.length cap1, .slice a2 more.length cap2] w fun e w' => e = .returned (.bool true) /\ Below w.heap.size w w' := by
 have hol := ho.1.2.2.1
 have hml := hm.1.2.2.1
 have hbl := hbs.2.2.1
 have HO := hide ho
 have HM := hide hm
 have HG := hide hg
 have HL1 := hide (loadedO_any a0 cap0 L w hbs)
 have HL2 := hide (fun (W : World) (hW : Below w.heap.size w W) => loadedO_any a0 cap0 L W (hbs.below hW))
 have HFM := hide (ldL_fine L)
 have hlm := (ldL_fine L).len
 clear ho hm hg hbs
 generalize ldL L = M at *
 generalize hMN : M.length = MN at *
 have HMN := hide hMN
 clear hMN
 go_enter Tryz.func4, Tryz.ntmps4
 go_wp2_with fail
 refine (unhide HL1).mono ?_
 rintro e w1 ⟨p1, g1, c1, am, cm, rfl, hp1, bo1, hb1⟩
 have HL3 := hide (unhide HL2 w1 hb1)
 have HP1 := hide (And.intro hp1 (And.intro bo1 hb1))
 clear hp1 bo1 hb1 HL1 HL2
 go_wp2_with fail
 refine (unhide HL3).mono ?_
 rintro e w2 ⟨p2, g2, c2, am2, cm2, rfl, hp2, bo2, hb2⟩
 have HSD := hide (Sd.made (unhide HP1).1 (unhide HP1).2.1 (unhide HP1).2.2 hp2 hb2)
 clear hp2 bo2 hb2 HP1 HL3
 go_upto_region 5 with fail
 go_cut [11] from 56 to 56 (fun v wx => v = .int .i64 0 /\ wx = w2)
 case first =>
  go_wp2
  go_meet
  case rel => exact ⟨rfl, rfl⟩
 case rest =>
  obtain ⟨rfl, hwx⟩ := hcut
  replace hwx := hwx.symm
  subst hwx
  refine (‹∀ (a : Act) (w : World), Code.wp Tryz.prog (Code.block _ _) _ a w -> _›) _ _ ?_
  go_cut [11] from 56 to 71 (fun _ wx => Sd w wx p1 p2 am cm M)
  case first =>
   go_wp2_with fail
   go_loopw [11] (fun iv wr => ∃ k : Nat, k <= 12 /\ iv = .int .i64 k /\ Sd w wr p1 p2 am cm M) (fun iv _ => 12 - (intOf iv).toNat)
   case atStart => exact ⟨0, by omega, rfl, unhide HSD⟩
   case round =>
    obtain ⟨k, hk12, rfl, hsd⟩ := hrel
    clear HSD
    by_cases hin : k < ops.length /\ k < 12
    ·obtain ⟨hlt, hk⟩ := hin
     have f1 : (k : Int) < (ops.length : Int) := by omega
     have f2 : (k : Int) < 12 := by omega
     have f3 : (0 : Int) <= (k : Int) := by omega
     have hr : ops[k]? = some ops[k] := List.getElem?_eq_getElem hlt
     generalize ops[k] = r at hr
     obtain ⟨bo, oo, rfl, hco⟩ := (unhide HO).1.2.2.2 (by intro e; rw [e] at hlt; simp at hlt)
     obtain ⟨o0, o1, o2, o3, o4, o5⟩ := Sls.op hco hr
     have hbel := hsd.base
     rw [<- hbel.cell (block_lt_of_cell o0)] at o0
     rw [<- hbel.cell (block_lt_of_cell o1)] at o1
     rw [<- hbel.cell (block_lt_of_cell o2)] at o2
     rw [<- hbel.cell (block_lt_of_cell o3)] at o3
     rw [<- hbel.cell (block_lt_of_cell o4)] at o4
     rw [<- hbel.cell (block_lt_of_cell o5)] at o5
     have hdo := hsd.act r (((unhide HO).2 r (List.mem_of_getElem? hr)).belowM hbel)
     unfold opvM at hdo
     obtain ⟨x0, x1, x2, x3, sn, ab, cb, body⟩ := r
     dsimp only at *
     have HDO := hide hdo
     clear hco hr hsd hbel hdo
     generalize body.length = BL at *
     go_wp2_with fail
     refine (unhide HDO).mono ?_
     rintro e w4 ⟨rfl, hq⟩
     have HQ := hide hq
     clear hq HDO o0 o1 o2 o3 o4 o5
     go_wp2
     go_roundw
     case rel => exact ⟨k + 1, by omega, by go_num, unhide HQ⟩
     case measure => simp [intOf]; omega
    ·have HQ := hide hsd
     clear hsd
     by_cases hlt : k < ops.length
     ·have f1 : (k : Int) < (ops.length : Int) := by omega
      have f2 : ¬ (k : Int) < 12 := by omega
      go_wp2
      go_meet
      case rel => exact unhide HQ
     ·have f1 : ¬ (k : Int) < (ops.length : Int) := by omega
      go_wp2
      go_meet
      case rel => exact unhide HQ
  case rest =>
   obtain ⟨w3, hw3⟩ : ∃ x, x = wc := ⟨wc, rfl⟩
   subst hw3
   have HS1 := hide hcut
   clear hcut HSD HO
   go_upto_region 9 with fail
   go_cut [12] from 72 to 72 (fun v wx => v = .int .i64 0 /\ wx = w3)
   case first =>
    go_wp2
    go_meet
    case rel => exact ⟨rfl, rfl⟩
   case rest =>
    obtain ⟨rfl, hwx⟩ := hcut
    replace hwx := hwx.symm
    subst hwx
    refine (‹∀ (a : Act) (w : World), Code.wp Tryz.prog (Code.block _ _) _ a w -> _›) _ _ ?_
    go_cut [12] from 72 to 87 (fun _ wx => Sd w wx p2 p1 am cm M)
    case first =>
     go_wp2_with fail
     go_loopw [12] (fun iv wr => ∃ k : Nat, k <= 12 /\ iv = .int .i64 k /\ Sd w wr p2 p1 am cm M) (fun iv _ => 12 - (intOf iv).toNat)
     case atStart => exact ⟨0, by omega, rfl, (unhide HS1).swap⟩
     case round =>
      obtain ⟨k, hk12, rfl, hsd⟩ := hrel
      clear HS1
      by_cases hin : k < more.length /\ k < 12
      ·obtain ⟨hlt, hk⟩ := hin
       have f1 : (k : Int) < (more.length : Int) := by omega
       have f2 : (k : Int) < 12 := by omega
       have f3 : (0 : Int) <= (k : Int) := by omega
       have hr : more[k]? = some more[k] := List.getElem?_eq_getElem hlt
       generalize more[k] = r at hr
       obtain ⟨bo, oo, rfl, hco⟩ := (unhide HM).1.2.2.2 (by intro e; rw [e] at hlt; simp at hlt)
       obtain ⟨o0, o1, o2, o3, o4, o5⟩ := Sls.op hco hr
       have hbel := hsd.base
       rw [<- hbel.cell (block_lt_of_cell o0)] at o0
       rw [<- hbel.cell (block_lt_of_cell o1)] at o1
       rw [<- hbel.cell (block_lt_of_cell o2)] at o2
       rw [<- hbel.cell (block_lt_of_cell o3)] at o3
       rw [<- hbel.cell (block_lt_of_cell o4)] at o4
       rw [<- hbel.cell (block_lt_of_cell o5)] at o5
       have hdo := hsd.act r (((unhide HM).2 r (List.mem_of_getElem? hr)).belowM hbel)
       unfold opvM at hdo
       obtain ⟨x0, x1, x2, x3, sn, ab, cb, body⟩ := r
       dsimp only at *
       have HDO := hide hdo
       clear hco hr hsd hbel hdo
       generalize body.length = BL at *
       go_wp2_with fail
       refine (unhide HDO).mono ?_
       rintro e w4 ⟨rfl, hq⟩
       have HQ := hide hq
       clear hq HDO o0 o1 o2 o3 o4 o5
       go_wp2
       go_roundw
       case rel => exact ⟨k + 1, by omega, by go_num, unhide HQ⟩
       case measure => simp [intOf]; omega
      ·have HQ := hide hsd
       clear hsd
       by_cases hlt : k < more.length
       ·have f1 : (k : Int) < (more.length : Int) := by omega
        have f2 : ¬ (k : Int) < 12 := by omega
        go_wp2
        go_meet
        case rel => exact unhide HQ
       ·have f1 : ¬ (k : Int) < (more.length : Int) := by omega
        go_wp2
        go_meet
        case rel => exact unhide HQ
    case rest =>
     obtain ⟨w4, hw4⟩ : ∃ x, x = wc := ⟨wc, rfl⟩
     subst hw4
     have HS2 := hide (Sd.swap hcut)
     clear hcut HS1 HM
     have HY1 := hide (unhide HS2).bytes
     have HY2 := hide (fun (W : World) (hW : Below w4.heap.size w4 W) => ((unhide HS2).below hW).swap.bytes)
     have HIM := hide (unhide HS2).img
     have HB4 := hide (unhide HS2).base
     rw [unhide HMN] at HY1 HY2
     clear HS2
     go_wp2_with fail
     refine (unhide HY1).mono ?_
     rintro e w5 ⟨aa, ca, A, rfl, hAl, hFA, hbA, hb5⟩
     have HY3 := hide (unhide HY2 w5 hb5)
     have HA := hide (And.intro hAl (And.intro hFA hbA))
     have HIM5 := hide ((unhide HIM).below hb5)
     have HB5 := hide ((unhide HB4).trans (hb5.mono (unhide HB4).size))
     clear hAl hFA hbA hb5 HY1 HY2 HIM HB4
     go_wp2_with fail
     refine (unhide HY3).mono ?_
     rintro e w6 ⟨ab, cb, B, rfl, hBl, hFB, hbB, hb6⟩
     have hbA := (unhide HA).2.2.below hb6
     have hAl := (unhide HA).1
     have hFA := (unhide HA).2.1
     have hbM := (unhide HIM5).below hb6
     have hBl2 : B.length = M.length := hBl.trans (unhide HMN).symm
     have hAl2 : A.length = M.length := hAl.trans (unhide HMN).symm
     have H31 := hide (sd_left (unhide HFM) hFA hAl2 (unhide HMN) am aa cm ca w6 hbM hbA)
     have H32 := hide (fun (W : World) (hW : Below w6.heap.size w6 W) => sd_right (unhide HFM) hFA hAl2 (unhide HMN) am aa cm ca W (hbM.below hW) (hbA.below hW))
     have H33 := hide (fun (W : World) (hW : Below w6.heap.size w6 W) => sd_three (unhide HFM) hFA hFB hAl2 hBl2 (unhide HMN) am aa ab cm ca cb W (hbM.below hW) (hbA.below hW) (hbB.below hW))
     have H34 := hide (fun (W : World) (hW : Below w6.heap.size w6 W) => sd_three (unhide HFM) hFB hFA hBl2 hAl2 (unhide HMN) am ab aa cm cb ca W (hbM.below hW) (hbB.below hW) (hbA.below hW))
     have HSM := hide (fun (x : Option Addr) (c : Nat) (X : List Int) (W : World) (hW : Below w6.heap.size w6 W) (hX : X.length = MN) (hs : sameB X A = true /\ sameE X A = 0) (bX : Bs W x c X) => sd_same hX hAl hs x aa c ca W bX (hbA.below hW))
     have HOA := hide (fun (k : Int) (h1 : 1 <= k) (h2 : k <= 40) (W : World) (hW : Below w6.heap.size w6 W) (O : Int × List Int) (hO : objOf A k = O) => sd_obj hAl hFA aa ca k h1 h2 W (hbA.below hW) hO)
     have HE1 := hide (mgS_err (unhide HFM) hFA hFB hbA.1 hbB.1)
     have HE2 := hide (mgS_err (unhide HFM) hFB hFA hbB.1 hbA.1)
     have HG1 := hide (fun h => mgS_good (unhide HFM) hFA hFB hbM.1 hbA.1 hbB.1 h)
     have HG2 := hide (fun h => mgS_good (unhide HFM) hFB hFA hbM.1 hbB.1 hbA.1 h)
     have HK := hide (fun h1 h2 (k : Int) (k1 : 1 <= k) (k2 : k <= 40) => sd_both (unhide HFM) hFA hFB hbM.1 hbA.1 hbB.1 h1 h2 k1 k2)
     have HB6 := hide ((unhide HB5).trans (hb6.mono (unhide HB5).size))
     clear hBl hFB hbB hb6 hbA hAl hFA hbM hBl2 hAl2 HA HY3 HIM5 HB5 HFM
     go_wp2_with fail
     refine (unhide H31).mono ?_
     rintro e w7 ⟨x7, c7, v7, d7, X7, rfl, hX7, hb7x, hs7, hb7⟩
     have H3 := hide (unhide H32 w7 hb7)
     have HX7 := hide (And.intro hX7 (And.intro hs7 hb7x))
     have HB7 := hide hb7
     clear hX7 hb7x hs7 hb7 H31 H32
     go_wp2_with fail
     refine (unhide H3).mono ?_
     rintro e w8 ⟨x8, c8, v8, d8, X8, rfl, hX8, hb8x, hs8, hb8⟩
     have hB8 := (unhide HB7).trans (hb8.mono (unhide HB7).size)
     have HSM7 := hide (unhide HSM x7 c7 X7 w8 hB8 (unhide HX7).1 (unhide HX7).2.1 ((unhide HX7).2.2.below hb8))
     have HSM8 := hide (fun (W : World) (hW : Below w8.heap.size w8 W) => unhide HSM x8 c8 X8 W (hB8.trans (hW.mono hB8.size)) hX8 hs8 (hb8x.below hW))
     have HB8 := hide hB8
     clear hX8 hb8x hs8 hb8 hB8 H3 HSM HX7 HB7
     go_wp2_with fail
     refine (unhide HSM7).mono ?_
     rintro e w9 ⟨rfl, hb9⟩
     have HSM9 := hide (unhide HSM8 w9 hb9)
     have HB9 := hide ((unhide HB8).trans (hb9.mono (unhide HB8).size))
     clear hb9 HSM7 HSM8 HB8
     go_wp2_with fail
     refine (unhide HSM9).mono ?_
     rintro e w10 ⟨rfl, hb10⟩
     have hB10 := (unhide HB9).trans (hb10.mono (unhide HB9).size)
     have H3 := hide (unhide H33 w10 hB10)
     have HB10 := hide hB10
     clear hb10 hB10 HSM9 HB9 H33
     rcases unhide HE1 with e1 | e1
     ·obtain ⟨fz1, lz1, oz1⟩ := unhide HG1 e1
      rw [e1, errV_zero, lz1, unhide HMN] at H3
      have lz1' := lz1.trans (unhide HMN)
      have hT1 : sdT M A B = hndL.filter (thT M A B) := if_pos e1
      generalize hTT1 : sdT M A B = T1 at *
      clear hTT1
      have HZ1 := hide (And.intro fz1 (And.intro lz1' hT1))
      clear fz1 lz1 oz1 lz1' hT1
      go_wp2_with fail
      refine (unhide H3).mono ?_
      rintro e w11 ⟨z1, d1, t1, f1, rfl, hbz1, hst1, hb11⟩
      have HB11 := hide ((unhide HB10).trans (hb11.mono (unhide HB10).size))
      have H4 := hide (unhide H34 w11 (unhide HB11))
      have HS1 := hide (And.intro hbz1 hst1)
      clear hbz1 hst1 hb11 H34 H3 HB10
      rcases unhide HE2 with e2 | e2
      ·obtain ⟨fz2, lz2, oz2⟩ := unhide HG2 e2
       rw [e2, errV_zero, lz2, unhide HMN] at H4
       have lz2' := lz2.trans (unhide HMN)
       have hT2 : sdT M B A = T1 := by
        rw [(unhide HZ1).2.2, told_comm]
        exact if_pos e2
       rw [hT2] at H4
       have HKK := hide (unhide HK e1 e2)
       have HZ2 := hide (And.intro fz2 lz2')
       clear fz2 lz2 oz2 lz2' hT2 HK HG1 HG2
       generalize (mgS M A B).2 = Z1 at *
       generalize (mgS M B A).2 = Z2 at *
       have hTl : T1.length <= 40 := by
        rw [(unhide HZ1).2.2]
        exact Nat.le_trans (List.length_filter_le _ _) (by rw [hndL_len]; omega)
       go_wp2_with fail
       refine (unhide H4).mono ?_
       rintro e w12 ⟨z2, d2, t2, f2, rfl, hbz2, hst2, hb12⟩
       have HIS := hide (insame_any t1 t2 f1 f2 T1 w12 ((unhide HS1).2.below hb12) hst2)
       have HB12 := hide ((unhide HB11).trans (hb12.mono (unhide HB11).size))
       have HS2 := hide (And.intro ((unhide HS1).1.below hb12) (And.intro hbz2 ((unhide HS1).2.below hb12)))
       clear hbz2 hst2 hb12 H4 HS1 HB11
       go_wp2_with fail
       refine (unhide HIS).mono ?_
       rintro e w13 ⟨rfl, hb13⟩
       have HS3 := hide (And.intro ((unhide HS2).1.below hb13) (And.intro ((unhide HS2).2.1.below hb13) ((unhide HS2).2.2.below hb13)))
       have HB13 := hide ((unhide HB12).trans (hb13.mono (unhide HB12).size))
       have HF1 := hide (sd_fine (unhide HZ1).2.1 (unhide HZ1).1 z1 d1 w13 (unhide HS3).1)
       have HF2 := hide (fun (W : World) (hW : Below w13.heap.size w13 W) => sd_fine (unhide HZ2).2 (unhide HZ2).1 z2 d2 W ((unhide HS3).2.1.below hW))
       clear hb13 HIS HS2 HB12
       go_wp2_with fail
       refine (unhide HF1).mono ?_
       rintro e w14 ⟨rfl, hb14⟩
       have HF3 := hide (unhide HF2 w14 hb14)
       have HB14 := hide ((unhide HB13).trans (hb14.mono (unhide HB13).size))
       have HS4 := hide (And.intro ((unhide HS3).1.below hb14) (And.intro ((unhide HS3).2.1.below hb14) ((unhide HS3).2.2.below hb14)))
       clear hb14 HF1 HF2 HS3 HB13
       go_wp2_with fail
       refine (unhide HF3).mono ?_
       rintro e w15 ⟨rfl, hb15⟩
       have HB15 := hide ((unhide HB14).trans (hb15.mono (unhide HB14).size))
       have HS5 := hide (And.intro ((unhide HS4).1.below hb15) (And.intro ((unhide HS4).2.1.below hb15) ((unhide HS4).2.2.below hb15)))
       clear hb15 HF3 HS4 HB14
       go_wp2_with fail
       go_loopw [32, 33, 34, 35, 36, 37, 38, 39] (fun kv _ _ _ _ _ _ _ wr => ∃ k : Nat, k <= 40 /\ kv = .int .i64 ((k : Int) + 1) /\ Below w15.heap.size w15 wr) (fun kv _ _ _ _ _ _ _ _ => 41 - (intOf kv).toNat)
       case atStart => exact ⟨0, Nat.zero_le _, rfl, Below.refl _ _⟩
       case round =>
        obtain ⟨k, hk, rfl, hbk⟩ := hrel
        by_cases hk40 : k < 40
        ·have hB6k := (unhide HB15).trans (hbk.mono (unhide HB15).size)
         obtain ⟨qf, qt⟩ := unhide HKK ((k : Int) + 1) (by omega) (by omega)
         have HN1 := hide (fun (q : Bool) (W : World) (hW : Below wr.heap.size wr W) (hq : thT M A B ((k : Int) + 1) = q) => sd_in (unhide HZ1).2.2 t1 f1 ((k : Int) + 1) (by omega) (by omega) W (((unhide HS5).2.2.below hbk).below hW) hq)
         have HO1 := hide (sd_obj (O := objOf Z1 ((k : Int) + 1)) (unhide HZ1).2.1 (unhide HZ1).1 z1 d1 ((k : Int) + 1) (by omega) (by omega) wr ((unhide HS5).1.below hbk) rfl)
         have HO2 := hide (fun (W : World) (hW : Below wr.heap.size wr W) (O : Int × List Int) (hO : objOf Z2 ((k : Int) + 1) = O) => sd_obj (unhide HZ2).2 (unhide HZ2).1 z2 d2 ((k : Int) + 1) (by omega) (by omega) W (((unhide HS5).2.1.below hbk).below hW) hO)
         have HO3 := hide (fun (W : World) (hW : Below wr.heap.size wr W) (O : Int × List Int) (hO : objOf A ((k : Int) + 1) = O) => unhide HOA ((k : Int) + 1) (by omega) (by omega) W (hB6k.trans (hW.mono hB6k.size)) O hO)
         have HBK := hide hbk
         have HQ := hide (And.intro qf qt)
         clear hbk hB6k qf qt
         cases hcl : thT M A B ((k : Int) + 1) with
         | false =>
          have hoo := (unhide HQ).1 hcl
          have HO22 := hide (fun (W : World) (hW : Below wr.heap.size wr W) => unhide HO2 W hW (objOf Z1 ((k : Int) + 1)) hoo.symm)
          have HN2 := hide (fun (W : World) (hW : Below wr.heap.size wr W) => unhide HN1 false W hW hcl)
          have HO33 := hide (fun (W : World) (hW : Below wr.heap.size wr W) => unhide HO3 W hW _ rfl)
          clear hoo hcl HO2 HN1 HO3 HQ
          generalize (objOf Z1 ((k : Int) + 1)).1 = i1 at *
          generalize strOf (objOf Z1 ((k : Int) + 1)).2 = s1 at *
          generalize (objOf A ((k : Int) + 1)).1 = i3 at *
          generalize strOf (objOf A ((k : Int) + 1)).2 = s3 at *
          go_wp2_with fail
          refine (unhide HO1).mono ?_
          rintro e w16 ⟨rfl, hb16⟩
          have HO4 := hide (unhide HO22 w16 hb16)
          have HB16 := hide hb16
          clear hb16 HO1 HO22
          go_wp2_with fail
          refine (unhide HO4).mono ?_
          rintro e w17 ⟨rfl, hb17⟩
          have hB17 := (unhide HB16).trans (hb17.mono (unhide HB16).size)
          have HN3 := hide (unhide HN2 w17 hB17)
          have HB17 := hide hB17
          clear hb17 hB17 HO4 HB16 HN2
          go_wp2_with fail
          refine (unhide HN3).mono ?_
          rintro e w18 ⟨rfl, rfl⟩
          have HO5 := hide (unhide HO33 w17 (unhide HB17))
          clear HN3 HO33
          go_wp2_with fail
          refine (unhide HO5).mono ?_
          rintro e w19 ⟨rfl, hb19⟩
          have HB19 := hide ((unhide HBK).trans (((unhide HB17).trans (hb19.mono (unhide HB17).size)).mono (unhide HBK).size))
          clear hb19 HO5 HB17 HBK
          go_wp2
          go_roundw
          case rel => exact ⟨k + 1, by omega, by go_num, unhide HB19⟩
          case measure => simp [intOf]; omega
         | true =>
          have hoo := (unhide HQ).2 hcl
          have HO22 := hide (fun (W : World) (hW : Below wr.heap.size wr W) => unhide HO2 W hW _ rfl)
          have HN2 := hide (fun (W : World) (hW : Below wr.heap.size wr W) => unhide HN1 true W hW hcl)
          have HO33 := hide (fun (W : World) (hW : Below wr.heap.size wr W) => unhide HO3 W hW (objOf Z1 ((k : Int) + 1)) hoo.symm)
          clear hoo hcl HO2 HN1 HO3 HQ
          generalize (objOf Z1 ((k : Int) + 1)).1 = i1 at *
          generalize strOf (objOf Z1 ((k : Int) + 1)).2 = s1 at *
          generalize (objOf Z2 ((k : Int) + 1)).1 = i3 at *
          generalize strOf (objOf Z2 ((k : Int) + 1)).2 = s3 at *
          go_wp2_with fail
          refine (unhide HO1).mono ?_
          rintro e w16 ⟨rfl, hb16⟩
          have HO4 := hide (unhide HO22 w16 hb16)
          have HB16 := hide hb16
          clear hb16 HO1 HO22
          go_wp2_with fail
          refine (unhide HO4).mono ?_
          rintro e w17 ⟨rfl, hb17⟩
          have hB17 := (unhide HB16).trans (hb17.mono (unhide HB16).size)
          have HN3 := hide (unhide HN2 w17 hB17)
          have HB17 := hide hB17
          clear hb17 hB17 HO4 HB16 HN2
          go_wp2_with fail
          refine (unhide HN3).mono ?_
          rintro e w18 ⟨rfl, rfl⟩
          have HO5 := hide (unhide HO33 w17 (unhide HB17))
          clear HN3 HO33
          go_wp2_with fail
          refine (unhide HO5).mono ?_
          rintro e w19 ⟨rfl, hb19⟩
          have HB19 := hide ((unhide HBK).trans (((unhide HB17).trans (hb19.mono (unhide HB17).size)).mono (unhide HBK).size))
          clear hb19 HO5 HB17 HBK
          go_wp2
          go_roundw
          case rel => exact ⟨k + 1, by omega, by go_num, unhide HB19⟩
          case measure => simp [intOf]; omega
        ·obtain rfl : k = 40 := by omega
         have HBL := hide ((unhide HB6).trans (((unhide HB15).trans (hbk.mono (unhide HB15).size)).mono (unhide HB6).size))
         clear hbk
         go_wp2
         go_ret
         exact ⟨rfl, unhide HBL⟩
      ·rw [e2, errV_pos 4 (by decide)] at H4
       generalize (mgS M B A).2.length = n2 at *
       go_wp2_with fail
       refine (unhide H4).mono ?_
       rintro e w12 ⟨z2, d2, t2, f2, rfl, hbz2, hst2, hb12⟩
       have HB12 := hide ((unhide HB11).trans (hb12.mono (unhide HB11).size))
       have hT2 : (sdT M B A).length <= 40 := by rw [show sdT M B A = [] from if_neg (by rw [e2]; decide)]; simp
       generalize (sdT M B A).length = n3 at *
       clear hbz2 hst2 hb12 H4 HS1 HB11
       have hB12 := (unhide HB6).trans ((unhide HB12).mono (unhide HB6).size)
       have HG12 := hide ((unhide HG).below hB12)
       have HB13 := hide hB12
       clear hB12 HB12 HB6 HG
       have HER := hide (error_nil 4 w12)
       rw [show ((0 : Int) == 4) = false from rfl] at HER
       go_wp2_with fail
       refine (unhide HER).mono ?_
       rintro e w13 ⟨rfl, rfl⟩
       have HG13 := hide (unhide HG12)
       have HB14 := hide (unhide HB13)
       clear HER HB13 HG12
       have HEF := hide (error_same 4 w12 (unhide HG13))
       rw [errV_pos 4 (by decide)] at HEF
       go_wp2_with fail
       refine (unhide HEF).mono ?_
       rintro e w14 ⟨rfl, hb14⟩
       have HB15 := hide ((unhide HB14).trans (hb14.mono (unhide HB14).size))
       clear hb14 HEF HB14 HG13
       go_wp2
       go_ret
       exact ⟨rfl, unhide HB15⟩
     ·rw [e1, errV_pos 4 (by decide)] at H3
      have hT1 : (sdT M A B).length <= 40 := by rw [show sdT M A B = [] from if_neg (by rw [e1]; decide)]; simp
      go_wp2_with fail
      refine (unhide H3).mono ?_
      rintro e w11 ⟨z1, d1, t1, f1, rfl, hbz1, hst1, hb11⟩
      have HB11 := hide ((unhide HB10).trans (hb11.mono (unhide HB10).size))
      have H4 := hide (unhide H34 w11 (unhide HB11))
      clear hbz1 hst1 hb11 H34 H3 HB10
      generalize (mgS M A B).2.length = n1 at *
      generalize (sdT M A B).length = n4 at *
      rcases unhide HE2 with e2 | e2
      ·rw [e2, errV_zero] at H4
       go_wp2_with fail
       refine (unhide H4).mono ?_
       rintro e w12 ⟨z2, d2, t2, f2, rfl, hbz2, hst2, hb12⟩
       have HB12 := hide ((unhide HB11).trans (hb12.mono (unhide HB11).size))
       clear hbz2 hst2 hb12 H4 HB11
       generalize (mgS M B A).2.length = n2 at *
       generalize (sdT M B A).length = n3 at *
       have hB12 := (unhide HB6).trans ((unhide HB12).mono (unhide HB6).size)
       have HG12 := hide ((unhide HG).below hB12)
       have HB13 := hide hB12
       clear hB12 HB12 HB6 HG
       have HER := hide (error_same 4 w12 (unhide HG12))
       rw [errV_pos 4 (by decide)] at HER
       go_wp2_with fail
       refine (unhide HER).mono ?_
       rintro e w13 ⟨rfl, hb13⟩
       have HG13 := hide ((unhide HG12).below hb13)
       have HB14 := hide ((unhide HB13).trans (hb13.mono (unhide HB13).size))
       clear hb13 HER HB13 HG12
       have HEF := hide (error_nil 4 w13)
       rw [show ((0 : Int) == 4) = false from rfl] at HEF
       go_wp2_with fail
       refine (unhide HEF).mono ?_
       rintro e w14 ⟨rfl, rfl⟩
       have HB15 := hide (unhide HB14)
       clear HEF HB14 HG13
       go_wp2
       go_ret
       exact ⟨rfl, unhide HB15⟩
      ·rw [e2, errV_pos 4 (by decide)] at H4
       go_wp2_with fail
       refine (unhide H4).mono ?_
       rintro e w12 ⟨z2, d2, t2, f2, rfl, hbz2, hst2, hb12⟩
       have HB12 := hide ((unhide HB11).trans (hb12.mono (unhide HB11).size))
       clear hbz2 hst2 hb12 H4 HB11
       generalize (mgS M B A).2.length = n2 at *
       generalize (sdT M B A).length = n3 at *
       have hB12 := (unhide HB6).trans ((unhide HB12).mono (unhide HB6).size)
       have HG12 := hide ((unhide HG).below hB12)
       have HB13 := hide hB12
       clear hB12 HB12 HB6 HG
       have HER := hide (error_same 4 w12 (unhide HG12))
       rw [errV_pos 4 (by decide)] at HER
       go_wp2_with fail
       refine (unhide HER).mono ?_
       rintro e w13 ⟨rfl, hb13⟩
       have HG13 := hide ((unhide HG12).below hb13)
       have HB14 := hide ((unhide HB13).trans (hb13.mono (unhide HB13).size))
       clear hb13 HER HB13 HG12
       have HEF := hide (error_same 4 w13 (unhide HG13))
       rw [errV_pos 4 (by decide)] at HEF
       go_wp2_with fail
       refine (unhide HEF).mono ?_
       rintro e w14 ⟨rfl, hb14⟩
       have HB15 := hide ((unhide HB14).trans (hb14.mono (unhide HB14).size))
       clear hb14 HEF HB14 HG13
       go_wp2
       go_ret
       exact ⟨rfl, unhide HB15⟩
end Go.Proofs.YtfbloliakmehbaaGreatDoor
