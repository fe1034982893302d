/-
  The walk of UndoMarks. (Part of the proof of UndoMarks.)
-/
import Derived.Test.YtieehbeedoagjaaGreatDoorJUd
import Derived.Test.YtieehbeedoagjaaGreatDoorHeldTurn
import Derived.Test.YtieehbeedoagjaaGreatDoorJHq
import Derived.Test.YtieehbeedoagjaaGreatDoorJCh
import Derived.Test.YtieehbeedoagjaaGreatDoorErrSame
import Derived.Test.YtieehbeedoagjaaGreatDoorOpenInts
import Derived.Deep.RegionWith
import Derived.Deep.CutRange
namespace Go.Proofs.YtieehbeedoagjaaGreatDoor
open Go.RowKit
set_option linter.unusedVariables false

set_option maxRecDepth 100000 in
set_option maxHeartbeats 8000000 in
theorem walkUndoMarks (a : Option Addr) (cap : Nat) (sz : List Int) (t : Int) (w : World) (hg : ErrT w) (hs : Is w a cap sz) (ht : -9223372036854775808 ≤ t ∧ t ≤ 9223372036854775807) :
    Calls Tryz.prog 3 #[.slice a sz.length cap, .int .i64 t] w fun e w' => e = .returned (.bool true) ∧ Below w.heap.size w w' := by
  have hsl := hs.2.2.1
  have HSZ := hide hs
  have HG := hide hg
  have HN := hide (hNew_yes 2000 w (by decide))
  obtain ⟨i0, hi0, hz0, hz1, hz2⟩ := info_parts info_sl
  clear hs hg
  generalize zerosB 2000 = Z at *
  go_enter Tryz.func3, Tryz.ntmps3
  go_wp2_with fail
  refine (unhide HN).mono ?_
  rintro e w1 ⟨p, g0, c0, rfl, hh, hb1⟩
  have HU := hide (uNew_any hh hb1.size)
  have HB1 := hide hb1
  clear hh hb1 HN
  go_wp2_with fail
  refine (unhide HU).mono ?_
  rintro e w2 ⟨u, gm, rfl, hud, hb2⟩
  have HST := hide (UmSt.start hud ((unhide HB1).trans (hb2.mono (unhide HB1).size)))
  clear hud hb2 HB1 HU
  go_upto_region 6 with fail
  generalize w2.alloc (.cells #[.slice none 0 0] 32) = w3 at *
  generalize w2.heap.size = b0 at *
  go_cut [9] from 24 to 24 (fun v wx => v = .int .i64 0 ∧ wx = w3)
  case first =>
    go_wp2
    go_meet
    case rel => exact ⟨rfl, rfl⟩
  case rest =>
    obtain ⟨rfl, hwc⟩ := hcut
    replace hwc := hwc.symm
    subst hwc
    refine (‹∀ (a : Act) (w : World), Code.wp Tryz.prog (Code.block _ _) _ a w → _›) _ _ ?_
    go_cut [8, 9] from 24 to 24 (fun vv _ wx => ∃ (k g c : Nat) (L : List Int) (rs : List (Option Addr × Nat × List Int)) (Ms : List (List Int)), k ≤ 20 ∧ UmSt w wx u gm p g c L k vv rs Ms)
    case first =>
      go_wp2_with fail
      go_loopw [8, 9] (fun vv iv wr => ∃ (k g c : Nat) (L : List Int) (rs : List (Option Addr × Nat × List Int)) (Ms : List (List Int)), k ≤ sz.length ∧ k ≤ 20 ∧ iv = .int .i64 k ∧ UmSt w wr u gm p g c L k vv rs Ms) (fun _ iv _ => 20 - (intOf iv).toNat)
      case atStart => exact ⟨0, g0, c0, Z, _, [], Nat.zero_le _, Nat.zero_le _, rfl, unhide HST⟩
      case round =>
        obtain ⟨k, g, c, L, rs, Ms, hk, hk20, rfl, hst⟩ := hrel
        clear HST
        by_cases hlt : k < sz.length ∧ k < 20
        · obtain ⟨hu1, hu2⟩ := hlt
          have hne : sz ≠ [] := by intro e; rw [e] at hu1; simp at hu1
          obtain ⟨bs, os, rfl, hcs⟩ := (unhide HSZ).2.2.2 hne
          have HCS := hide (hcs k hu1)
          have hblt := block_lt_of_cell (hcs k hu1)
          dsimp only at hblt
          obtain ⟨bi, oi, cv, rfl, _⟩ := hst.ims.shape (by rw [hst.count]; omega) (by intro e; have := hst.count; rw [e] at this; simp at this)
          have HC := hide hst.count
          have HM := hide (uMark_any hst.ud hst.bel.size (by omega))
          have HST2 := hide hst
          have hu1i : (k : Int) < (sz.length : Int) := by omega
          have hu2i : (k : Int) < 20 := by omega
          clear hcs hne hst
          generalize sz.getD k 0 = s at *
          go_wp2_with fail
          refine (unhide HM).mono ?_
          rintro e w4 ⟨rfl, hud4, ht4⟩
          have hims4 := (unhide HST2).ims.turn (unhide HST2).ud ht4
          have hB4 := (unhide HST2).bel.trans (ht4.below (unhide HST2).ud.ge (unhide HST2).bel.size)
          have HBY := hide (hBytes_any p g c w.heap.size L w4 hud4.hp)
          have HUD4 := hide hud4
          have HIMS4 := hide hims4
          have HB4 := hide hB4
          clear hud4 ht4 hims4 hB4 HM
          go_wp2_with fail
          refine (unhide HBY).mono ?_
          rintro e w5 ⟨a5, c5, rfl, ho5, hb5⟩
          have hud5 := (unhide HUD4).below hb5
          have hal : Below w5.heap.size w5 (w5.alloc (.cells #[.slice a5 L.length c5] 32)) := (Below.refl _ _).alloc (Nat.le_refl _) _
          have hown5 : Own1 w5 w.heap.size (ft u gm p g) (a5, c5, L) := ⟨ho5.lower (unhide HB4).size, hud5.hp.byt, by have := hud5.hp.len; dsimp only; omega, fun b hb hf => by have h1 := ho5.block b hb; have h2 := (unhide HUD4).lt b hf; omega⟩
          have hims5 := (unhide HIMS4).below hb5
          have HOWN := hide (hown5.below hal)
          have HIMS := hide (hims5.below hal)
          have HUD := hide (hud5.below hal)
          have hB5 := (unhide HB4).trans (hb5.mono (unhide HB4).size)
          have HB5 := hide (hB5.trans (hal.mono hB5.size))
          have HNEW : Hid ((w5.alloc (.cells #[.slice a5 L.length c5] 32)).heap[w5.heap.size]? = some (.cells (slC (a5, c5, L)).toArray 32 (0, 0))) := hide (heap_alloc_new w5 _)
          clear ho5 hb5 hud5 hown5 hims5 hB5 hal HBY HUD4 HIMS4 HB4
          go_wp2_with (at_builtin; refine wpList_append_lst2 rfl _ _ 30 rfl w.heap.size i0 (.slice none 0 0) 24 Tryz.underlying30 hi0 hz0 hz1 hz2 rfl (by decide) (by decide) _ _ rfl (unhide HIMS).1 w5.heap.size (a5, c5, L) rfl (unhide HNEW) rfl (slC_one _) (by rw [unhide HC]; omega) (unhide HB5).size ?_)
          intro v6 w6 hL6 hb6 hk6
          have hims6 := (unhide HIMS).more (unhide HOWN) hL6 (fun j hj hn => hk6 j (by simpa using hj) hn)
          have hud6 := (unhide HUD).keep (unhide HIMS).1 (fun j hj hn => hk6 j (by simpa using hj) hn)
          have hB6 := (unhide HB5).trans hb6
          have hcs6 := (hB6.cell (p := ⟨bs, os + k, none⟩) hblt).trans (unhide HCS)
          have HAL := hide (hAlloc_any p g c w.heap.size L s 0 w6 hud6.hp hB6.size)
          have HUD6 := hide hud6
          have HIMS6 := hide hims6
          have HB6 := hide hB6
          obtain ⟨bv, ov, cv6, rfl, _⟩ := hims6.shape (by rw [List.length_append, unhide HC]; simp; omega) (by simp)
          clear hL6 hb6 hk6 hims6 hud6 hB6 HIMS HUD HOWN HNEW HB5 HCS
          go_wp2_with fail
          refine (unhide HAL).mono ?_
          rintro e w7 ⟨rfl, g7, c7, hh7, ht7⟩
          have hud7 := (unhide HUD6).heap hh7 ht7 (alB_len (unhide HUD6).hp.fine s 0)
          have hims7 := (unhide HIMS6).turn (unhide HUD6) (turn_ft ht7)
          have hB7 := (unhide HB6).trans (ht7.below (unhide HUD6).hp.foot_ge (unhide HB6).size)
          have HST7 : Hid (UmSt w w7 u gm p g7 c7 (alB L s 0) (k + 1) (.slice (some ⟨bv, ov, none⟩) (rs ++ [(a5, c5, L)]).length cv6) (rs ++ [(a5, c5, L)]) (Ms ++ [L])) := hide ⟨by
              rw [mksF_snoc, (unhide HST2).len]
              simpa using hud7, by rw [List.length_append, (unhide HST2).len]; rfl, hims7, by rw [List.map_append, (unhide HST2).same]; rfl, hB7⟩
          clear hud7 hims7 hB7 hh7 ht7 HUD6 HIMS6 HB6 HAL hcs6 HST2
          go_wp2
          go_roundw
          case rel => exact ⟨k + 1, g7, c7, _, _, _, by omega, by omega, by go_num, by have h7 := unhide HST7; rw [List.length_append] at h7; exact h7⟩
          case measure => simp [intOf]; omega
        · have HST2 := hide hst
          clear hst
          by_cases hkl : k < sz.length
          · obtain rfl : k = 20 := by omega
            have hkl2 : (20 : Int) < (sz.length : Int) := by omega
            clear hlt
            go_wp2
            go_meet
            case rel => exact ⟨20, g, c, L, rs, Ms, Nat.le_refl _, unhide HST2⟩
          · obtain rfl : k = sz.length := by omega
            clear hlt hkl
            go_wp2
            go_meet
            case rel => exact ⟨_, g, c, L, rs, Ms, hk20, unhide HST2⟩
    case rest =>
      obtain ⟨k, g, c, L, rs, Ms, hk20, hst⟩ := hcut
      clear HST
      have hcnt := hst.count
      obtain ⟨bi, oi, cv, rfl, hcell⟩ := hst.ims.shape (by omega) (by intro e; rw [e] at hcnt; simp at hcnt)
      rw [hcnt] at hst ⊢
      have hlen := hst.len
      by_cases hbad : t < 1 ∨ (k : Int) + 1 ≤ t
      · have hno : mkAt (mksF 0 Ms) t = none := by
          rw [mkAt_mksF, if_neg (by omega)]
        have HBK := hide (uBack_no hst.ud ht hno)
        rw [errV_pos 5 (by decide)] at HBK
        have HE := hide (fun (W : World) (hW : Below w.heap.size w W) => error_same 5 W ((unhide HG).below hW))
        rw [errV_pos 5 (by decide)] at HE
        have HB := hide hst.bel
        clear hst hno hcell hlen hcnt HSZ
        by_cases h1 : t < 1
        · clear hbad
          go_wp2_with fail
          refine (unhide HBK).mono ?_
          rintro e w4 ⟨rfl, hb4⟩
          have hB4 := (unhide HB).trans (hb4.mono (unhide HB).size)
          have HE4 := hide (unhide HE w4 hB4)
          have HB4 := hide hB4
          clear hb4 hB4 HE HB HBK
          go_wp2_with fail
          refine (unhide HE4).mono ?_
          rintro e w5 ⟨rfl, hb5⟩
          have HB5 := hide ((unhide HB4).trans (hb5.mono (unhide HB4).size))
          clear hb5 HE4 HB4
          go_wp2
          go_ret
          exact ⟨rfl, unhide HB5⟩
        · have h2 : (k : Int) + 1 ≤ t := by omega
          clear hbad
          go_wp2_with fail
          refine (unhide HBK).mono ?_
          rintro e w4 ⟨rfl, hb4⟩
          have hB4 := (unhide HB).trans (hb4.mono (unhide HB).size)
          have HE4 := hide (unhide HE w4 hB4)
          have HB4 := hide hB4
          clear hb4 hB4 HE HB HBK
          go_wp2_with fail
          refine (unhide HE4).mono ?_
          rintro e w5 ⟨rfl, hb5⟩
          have HB5 := hide ((unhide HB4).trans (hb5.mono (unhide HB4).size))
          clear hb5 HE4 HB4
          go_wp2
          go_ret
          exact ⟨rfl, unhide HB5⟩
      · obtain ⟨T, rfl⟩ := Int.eq_ofNat_of_zero_le (show 0 ≤ t by omega)
        have hT1 : 1 ≤ T := by omega
        have hT2 : T ≤ k := by omega
        obtain ⟨I, hI⟩ : ∃ I, I = Ms.getD (T - 1) [] := ⟨_, rfl⟩
        have hat : mkAt (mksF 0 Ms) (T : Int) = some I := by
          rw [mkAt_mksF, if_pos (by omega), hI, show ((T : Int) - ((0 : Nat) : Int) - 1).toNat = T - 1 by omega]
        have hcut : mkCut (mksF 0 Ms) (T : Int) = mksF 0 (Ms.take T) := mkCut_mksF (T : Int) Ms 0 T (by omega)
        have hlt : (Ms.take T).length = T := by rw [List.length_take]; omega
        have hat2 : mkAt (mksF 0 (Ms.take T)) (T : Int) = some I := by
          rw [mkAt_mksF, if_pos (by omega), hI, show ((T : Int) - ((0 : Nat) : Int) - 1).toNat = T - 1 by omega]
          simp only [List.getD, List.getElem?_take, if_pos (show T - 1 < T by omega)]
        have hcut2 : mkCut (mksF 0 (Ms.take T)) (T : Int) = mksF 0 (Ms.take T) := by
          rw [mkCut_mksF (T : Int) (Ms.take T) 0 T (by omega), List.take_take, Nat.min_self]
        have hat3 : mkAt (mksF 0 (Ms.take T)) ((T : Int) + 1) = none := by
          rw [mkAt_mksF, if_neg (by omega)]
        have hml : (mksF 0 (Ms.take T)).length = T := by rw [mksF_len, hlt]
        obtain ⟨r, hr⟩ : ∃ r, rs[T]? = some r := ⟨rs[T]'(by omega), List.getElem?_eq_getElem (by omega)⟩
        have hrI : r.2.2 = I := by
          have h1 : (rs.map (·.2.2))[T]? = some r.2.2 := by rw [List.getElem?_map, hr]; rfl
          rw [hst.same, show T = (T - 1) + 1 by omega, List.getElem?_cons_succ] at h1
          rw [hI]
          simp [List.getD, h1]
        have hcT := hcell T r hr
        have howT := hst.ims.2 r (List.mem_of_getElem? hr)
        obtain ⟨aT, cT, I'⟩ := r
        dsimp only at hrI hcT
        obtain rfl : I' = I := hrI
        have HCUT2 := hide hcut2
        have HAT2 := hide hat2
        have HAT5 := hide hat2
        have HAT3 := hide hat3
        have HML := hide hml
        have HBK := hide (uBack_yes hst.ud hst.bel.size ht hat)
        rw [hcut] at HBK
        have HST := hide hst
        have HOT := hide howT
        have HCT := hide hcT
        have hbad1 : ¬ (T : Int) < 1 := by omega
        have hbad2 : ¬ (k : Int) + 1 ≤ (T : Int) := by omega
        clear hst hI hat hcut hlt hat2 hcut2 hat3 hml hr hcT howT hcell hcnt hlen hbad HSZ
        generalize mksF 0 (Ms.take T) = M at *
        go_wp2_with fail
        refine (unhide HBK).mono ?_
        rintro e w4 ⟨rfl, g4, c4, hud4, ht4⟩
        have hot4 := (unhide HOT).turn ht4
        have hct4 : w4.cell? ⟨bi, oi + T, none⟩ = some (.slice aT I'.length cT) := by
          rw [← unhide HCT]
          exact World.cell?_of_block (a := ⟨bi, oi + T, none⟩) (ht4.block bi (block_lt_of_cell (unhide HCT)) (fun hf => (unhide HST).ud.noft (unhide HST).ims.1 bi rfl hf))
        have HCH := hide (uChanges_yes hud4 ht (unhide HAT2))
        rw [dfK_self] at HCH
        have hB4 := (unhide HST).bel.trans (ht4.below (unhide HST).ud.ge (unhide HST).bel.size)
        have HNO := hide ((unhide HST).ims.turn (unhide HST).ud ht4)
        have HUD4 := hide hud4
        have HOT4 := hide hot4
        have HCT4 := hide hct4
        have HB4 := hide hB4
        clear hud4 ht4 hot4 hct4 hB4 HBK HOT HCT HST HAT2
        go_wp2_with fail
        refine (unhide HCH).mono ?_
        rintro e w5 ⟨v5, rfl, hch5, hb5⟩
        obtain ⟨a5, c5, rfl, _⟩ := hch5.chs (by simp)
        have hud5 := (unhide HUD4).below hb5
        have hB5 := (unhide HB4).trans (hb5.mono (unhide HB4).size)
        have HBK5 := hide (uBack_yes hud5 hB5.size ht (unhide HAT5))
        rw [unhide HCUT2] at HBK5
        have HUD5 := hide hud5
        have HOT5 := hide ((unhide HOT4).below hb5)
        have HCT5 := hide ((hb5.cell (p := ⟨bi, oi + T, none⟩) (block_lt_of_cell (unhide HCT4))).trans (unhide HCT4))
        have HB5 := hide hB5
        have HNO5 := hide ((unhide HNO).below hb5)
        clear hud5 hb5 hB5 hch5 HCH HUD4 HOT4 HCT4 HB4 HAT5 HCUT2 HNO
        rw [List.length_nil]
        go_wp2_with fail
        refine (unhide HBK5).mono ?_
        rintro e w6 ⟨rfl, g6, c6, hud6, ht6⟩
        have hot6 := (unhide HOT5).turn ht6
        have hct6 : w6.cell? ⟨bi, oi + T, none⟩ = some (.slice aT I'.length cT) := by
          rw [← unhide HCT5]
          exact World.cell?_of_block (a := ⟨bi, oi + T, none⟩) (ht6.block bi (block_lt_of_cell (unhide HCT5)) (fun hf => (unhide HUD5).noft (unhide HNO5).1 bi rfl hf))
        have hB6 := (unhide HB5).trans (ht6.below (unhide HUD5).ge (unhide HB5).size)
        clear ht6 HUD5 HOT5 HCT5 HB5 HBK5 HNO5
        have HUD6 := hide hud6
        have HOT6 := hide hot6
        have HCT6 := hide hct6
        have HB6 := hide hB6
        clear hud6 hot6 hct6 hB6
        go_upto_region 18 with fail
        go_cut [14] from 72 to 83 (fun v wx => v = .bool false ∧ Ud wx w.heap.size u gm p g6 c6 I' k M ∧ Own1 wx w.heap.size (ft u gm p g6) (aT, cT, I') ∧ wx.cell? ⟨bi, oi + T, none⟩ = some (.slice aT I'.length cT) ∧ Below w.heap.size w wx)
        case first =>
          by_cases hlate : (T : Int) + 1 < (k : Int) + 1
          · have HBN := hide (uBack_no (unhide HUD6) (m := (T : Int) + 1) (by omega) (unhide HAT3))
            rw [errV_pos 5 (by decide)] at HBN
            clear HAT3
            go_wp2_with fail
            refine (unhide HBN).mono ?_
            rintro e w7 ⟨rfl, hb7⟩
            have HALL := hide (And.intro ((unhide HUD6).below hb7) (And.intro ((unhide HOT6).below hb7) (And.intro ((hb7.cell (p := ⟨bi, oi + T, none⟩) (block_lt_of_cell (unhide HCT6))).trans (unhide HCT6)) ((unhide HB6).trans (hb7.mono (unhide HB6).size)))))
            clear hb7 HUD6 HOT6 HCT6 HB6 HBN HML
            go_wp2
            go_meet
            case rel => exact ⟨rfl, unhide HALL⟩
          · clear HAT3 HML
            go_wp2
            go_meet
            case rel => exact ⟨rfl, unhide HUD6, unhide HOT6, unhide HCT6, unhide HB6⟩
        case rest =>
          obtain ⟨rfl, hud7, hot7, hct7, hB7⟩ := hcut
          clear HUD6 HOT6 HCT6 HB6 HAT3
          obtain ⟨hcv, hend⟩ := um_end hud7 (by omega) hot7 hct7
          rw [unhide HML] at hend
          have HEND := hide hend
          have HB7 := hide hB7
          clear hend hud7 hot7 hB7 HML
          generalize strOf I' = SI at *
          generalize I'.length = NI at *
          have hiT : (0 : Int) ≤ (T : Int) := by omega
          have hiT2 : (T : Int) < (k : Int) + 1 := by omega
          go_wp2_with fail
          refine wp_region_held_drew (S := fun wq => wq.cell? ⟨bi, oi + T, none⟩ = some (.slice aT NI cT) ∧ (convert 32 9 (.slice aT NI cT)).run Tryz.prog wq = .ok (.string SI) wq) (by kernel_rfl) ⟨hct7, hcv⟩ (fun hHeld => ?_)
          refine wpAnyH_take (i := 0) (oi := { dst := some 84, op := Op.move (Operand.tmp 10), type := 25, pos := "law.go:352", after := #[], guard := none }) (v := .nilIface) rfl (by kernel_rfl) (by kernel_rfl) (by kernel_rfl) (fun _ _ _ h => h) (Or.inl ⟨by rfl, fun wq hSw => by (try dsimp only at hSw); go_simp⟩) (by assumption) ?_
          try simp only [Act.put, List.setIfInBounds_toArray, List.set_cons_zero, List.set_cons_succ]
          refine wpAnyH_take (i := 1) (oi := { dst := some 85, op := Op.binOp BinOp.eql 25 (Operand.tmp 84) (Operand.const Value.nilIface) 25, type := 4, pos := "law.go:352", after := #[{ on := 0, ground := Ground.data }], guard := none }) (v := .bool true) rfl (by kernel_rfl) (by kernel_rfl) (by kernel_rfl) (fun _ _ _ h => h) (Or.inl ⟨by rfl, fun wq hSw => by (try dsimp only at hSw); go_simp⟩) (by assumption) ?_
          try simp only [Act.put, List.setIfInBounds_toArray, List.set_cons_zero, List.set_cons_succ]
          refine wpAnyH_take (i := 2) (oi := { dst := some 86, op := Op.move (Operand.tmp 85), type := 4, pos := "law.go:352", after := #[{ on := 1, ground := Ground.data }], guard := none }) (v := .bool true) rfl (by kernel_rfl) (by kernel_rfl) (by kernel_rfl) (fun _ _ _ h => h) (Or.inl ⟨by rfl, fun wq hSw => by (try dsimp only at hSw); go_simp⟩) (by assumption) ?_
          try simp only [Act.put, List.setIfInBounds_toArray, List.set_cons_zero, List.set_cons_succ]
          refine wpAnyH_take (i := 3) (oi := { dst := some 87, op := Op.move (Operand.tmp 12), type := 25, pos := "law.go:352", after := #[{ on := 2, ground := Ground.guard }], guard := some (2, true) }) (v := .nilIface) rfl (by kernel_rfl) (by kernel_rfl) (by kernel_rfl) (fun _ _ _ h => h) (Or.inl ⟨by rfl, fun wq hSw => by (try dsimp only at hSw); go_simp⟩) (by assumption) ?_
          try simp only [Act.put, List.setIfInBounds_toArray, List.set_cons_zero, List.set_cons_succ]
          refine wpAnyH_take (i := 4) (oi := { dst := some 88, op := Op.binOp BinOp.eql 25 (Operand.tmp 87) (Operand.const Value.nilIface) 25, type := 4, pos := "law.go:352", after := #[{ on := 3, ground := Ground.data }, { on := 2, ground := Ground.guard }], guard := some (2, true) }) (v := .bool true) rfl (by kernel_rfl) (by kernel_rfl) (by kernel_rfl) (fun _ _ _ h => h) (Or.inl ⟨by rfl, fun wq hSw => by (try dsimp only at hSw); go_simp⟩) (by assumption) ?_
          try simp only [Act.put, List.setIfInBounds_toArray, List.set_cons_zero, List.set_cons_succ]
          refine wpAnyH_take (i := 5) (oi := { dst := some 89, op := Op.pick (Operand.tmp 86) (Operand.tmp 88) (Operand.const (Value.bool false)), type := 4, pos := "law.go:352", after := #[{ on := 2, ground := Ground.data }, { on := 4, ground := Ground.data }], guard := none }) (v := .bool true) rfl (by kernel_rfl) (by kernel_rfl) (by kernel_rfl) (fun _ _ _ h => h) (Or.inl ⟨by rfl, fun wq hSw => by (try dsimp only at hSw); go_simp⟩) (by assumption) ?_
          try simp only [Act.put, List.setIfInBounds_toArray, List.set_cons_zero, List.set_cons_succ]
          refine wpAnyH_take (i := 6) (oi := { dst := some 90, op := Op.move (Operand.tmp 89), type := 4, pos := "law.go:352", after := #[{ on := 5, ground := Ground.data }, { on := 2, ground := Ground.chain }], guard := none }) (v := .bool true) rfl (by kernel_rfl) (by kernel_rfl) (by kernel_rfl) (fun _ _ _ h => h) (Or.inl ⟨by rfl, fun wq hSw => by (try dsimp only at hSw); go_simp⟩) (by assumption) ?_
          try simp only [Act.put, List.setIfInBounds_toArray, List.set_cons_zero, List.set_cons_succ]
          refine wpAnyH_take (i := 7) (oi := { dst := some 91, op := Op.move (Operand.tmp 11), type := 38, pos := "law.go:352", after := #[{ on := 6, ground := Ground.guard }], guard := some (6, true) }) (v := .slice a5 0 c5) rfl (by kernel_rfl) (by kernel_rfl) (by kernel_rfl) (fun _ _ _ h => h) (Or.inl ⟨by rfl, fun wq hSw => by (try dsimp only at hSw); go_simp⟩) (by assumption) ?_
          try simp only [Act.put, List.setIfInBounds_toArray, List.set_cons_zero, List.set_cons_succ]
          refine wpAnyH_take (i := 8) (oi := { dst := some 92, op := Op.call { callee := Callee.builtin Builtin.len, args := #[Operand.tmp 91], argTypes := #[38] }, type := 3, pos := "law.go:352", after := #[{ on := 7, ground := Ground.data }, { on := 6, ground := Ground.guard }], guard := some (6, true) }) (v := .int .i64 0) rfl (by kernel_rfl) (by kernel_rfl) (by kernel_rfl) (fun _ _ _ h => h) (Or.inl ⟨by rfl, fun wq hSw => by (try dsimp only at hSw); go_simp⟩) (by assumption) ?_
          try simp only [Act.put, List.setIfInBounds_toArray, List.set_cons_zero, List.set_cons_succ]
          refine wpAnyH_take (i := 9) (oi := { dst := some 93, op := Op.binOp BinOp.eql 3 (Operand.tmp 92) (Operand.const (Value.int IntKind.i64 0)) 3, type := 4, pos := "law.go:352", after := #[{ on := 8, ground := Ground.data }, { on := 6, ground := Ground.guard }], guard := some (6, true) }) (v := .bool true) rfl (by kernel_rfl) (by kernel_rfl) (by kernel_rfl) (fun _ _ _ h => h) (Or.inl ⟨by rfl, fun wq hSw => by (try dsimp only at hSw); go_simp⟩) (by assumption) ?_
          try simp only [Act.put, List.setIfInBounds_toArray, List.set_cons_zero, List.set_cons_succ]
          refine wpAnyH_take (i := 10) (oi := { dst := some 94, op := Op.pick (Operand.tmp 90) (Operand.tmp 93) (Operand.const (Value.bool false)), type := 4, pos := "law.go:352", after := #[{ on := 6, ground := Ground.data }, { on := 9, ground := Ground.data }], guard := none }) (v := .bool true) rfl (by kernel_rfl) (by kernel_rfl) (by kernel_rfl) (fun _ _ _ h => h) (Or.inl ⟨by rfl, fun wq hSw => by (try dsimp only at hSw); go_simp⟩) (by assumption) ?_
          try simp only [Act.put, List.setIfInBounds_toArray, List.set_cons_zero, List.set_cons_succ]
          refine wpAnyH_take (i := 11) (oi := { dst := some 95, op := Op.move (Operand.tmp 94), type := 4, pos := "law.go:352", after := #[{ on := 10, ground := Ground.data }, { on := 6, ground := Ground.chain }], guard := none }) (v := .bool true) rfl (by kernel_rfl) (by kernel_rfl) (by kernel_rfl) (fun _ _ _ h => h) (Or.inl ⟨by rfl, fun wq hSw => by (try dsimp only at hSw); go_simp⟩) (by assumption) ?_
          try simp only [Act.put, List.setIfInBounds_toArray, List.set_cons_zero, List.set_cons_succ]
          refine wpAnyH_take (i := 12) (oi := { dst := some 96, op := Op.move (Operand.tmp 13), type := 25, pos := "law.go:352", after := #[{ on := 11, ground := Ground.guard }], guard := some (11, true) }) (v := .nilIface) rfl (by kernel_rfl) (by kernel_rfl) (by kernel_rfl) (fun _ _ _ h => h) (Or.inl ⟨by rfl, fun wq hSw => by (try dsimp only at hSw); go_simp⟩) (by assumption) ?_
          try simp only [Act.put, List.setIfInBounds_toArray, List.set_cons_zero, List.set_cons_succ]
          refine wpAnyH_take (i := 13) (oi := { dst := some 97, op := Op.binOp BinOp.eql 25 (Operand.tmp 96) (Operand.const Value.nilIface) 25, type := 4, pos := "law.go:352", after := #[{ on := 12, ground := Ground.data }, { on := 11, ground := Ground.guard }], guard := some (11, true) }) (v := .bool true) rfl (by kernel_rfl) (by kernel_rfl) (by kernel_rfl) (fun _ _ _ h => h) (Or.inl ⟨by rfl, fun wq hSw => by (try dsimp only at hSw); go_simp⟩) (by assumption) ?_
          try simp only [Act.put, List.setIfInBounds_toArray, List.set_cons_zero, List.set_cons_succ]
          refine wpAnyH_take (i := 14) (oi := { dst := some 98, op := Op.pick (Operand.tmp 95) (Operand.tmp 97) (Operand.const (Value.bool false)), type := 4, pos := "law.go:352", after := #[{ on := 11, ground := Ground.data }, { on := 13, ground := Ground.data }], guard := none }) (v := .bool true) rfl (by kernel_rfl) (by kernel_rfl) (by kernel_rfl) (fun _ _ _ h => h) (Or.inl ⟨by rfl, fun wq hSw => by (try dsimp only at hSw); go_simp⟩) (by assumption) ?_
          try simp only [Act.put, List.setIfInBounds_toArray, List.set_cons_zero, List.set_cons_succ]
          refine wpAnyH_take (i := 15) (oi := { dst := some 99, op := Op.move (Operand.tmp 98), type := 4, pos := "law.go:352", after := #[{ on := 14, ground := Ground.data }, { on := 11, ground := Ground.chain }], guard := none }) (v := .bool true) rfl (by kernel_rfl) (by kernel_rfl) (by kernel_rfl) (fun _ _ _ h => h) (Or.inl ⟨by rfl, fun wq hSw => by (try dsimp only at hSw); go_simp⟩) (by assumption) ?_
          try simp only [Act.put, List.setIfInBounds_toArray, List.set_cons_zero, List.set_cons_succ]
          refine wpAnyH_take (i := 16) (oi := { dst := some 100, op := Op.move (Operand.tmp 14), type := 4, pos := "law.go:352", after := #[{ on := 15, ground := Ground.guard }], guard := some (15, true) }) (v := .bool false) rfl (by kernel_rfl) (by kernel_rfl) (by kernel_rfl) (fun _ _ _ h => h) (Or.inl ⟨by rfl, fun wq hSw => by (try dsimp only at hSw); go_simp⟩) (by assumption) ?_
          try simp only [Act.put, List.setIfInBounds_toArray, List.set_cons_zero, List.set_cons_succ]
          refine wpAnyH_take (i := 17) (oi := { dst := some 101, op := Op.unOp UnOp.not 4 (Operand.tmp 100), type := 4, pos := "law.go:352", after := #[{ on := 16, ground := Ground.data }, { on := 15, ground := Ground.guard }], guard := some (15, true) }) (v := .bool true) rfl (by kernel_rfl) (by kernel_rfl) (by kernel_rfl) (fun _ _ _ h => h) (Or.inl ⟨by rfl, fun wq hSw => by (try dsimp only at hSw); go_simp⟩) (by assumption) ?_
          try simp only [Act.put, List.setIfInBounds_toArray, List.set_cons_zero, List.set_cons_succ]
          refine wpAnyH_take (i := 18) (oi := { dst := some 102, op := Op.pick (Operand.tmp 99) (Operand.tmp 101) (Operand.const (Value.bool false)), type := 4, pos := "law.go:352", after := #[{ on := 15, ground := Ground.data }, { on := 17, ground := Ground.data }], guard := none }) (v := .bool true) rfl (by kernel_rfl) (by kernel_rfl) (by kernel_rfl) (fun _ _ _ h => h) (Or.inl ⟨by rfl, fun wq hSw => by (try dsimp only at hSw); go_simp⟩) (by assumption) ?_
          try simp only [Act.put, List.setIfInBounds_toArray, List.set_cons_zero, List.set_cons_succ]
          refine wpAnyH_take (i := 19) (oi := { dst := some 103, op := Op.move (Operand.tmp 102), type := 4, pos := "law.go:352", after := #[{ on := 18, ground := Ground.data }, { on := 15, ground := Ground.chain }], guard := none }) (v := .bool true) rfl (by kernel_rfl) (by kernel_rfl) (by kernel_rfl) (fun _ _ _ h => h) (Or.inl ⟨by rfl, fun wq hSw => by (try dsimp only at hSw); go_simp⟩) (by assumption) ?_
          try simp only [Act.put, List.setIfInBounds_toArray, List.set_cons_zero, List.set_cons_succ]
          refine wpAnyH_take (i := 20) (oi := { dst := some 104, op := Op.move (Operand.tmp 5), type := 23, pos := "law.go:352", after := #[{ on := 19, ground := Ground.guard }], guard := some (19, true) }) (v := .pointer (some ⟨p, 0, none⟩)) rfl (by kernel_rfl) (by kernel_rfl) (by kernel_rfl) (fun _ _ _ h => h) (Or.inl ⟨by rfl, fun wq hSw => by (try dsimp only at hSw); go_simp⟩) (by assumption) ?_
          try simp only [Act.put, List.setIfInBounds_toArray, List.set_cons_zero, List.set_cons_succ]
          refine wpAnyH_take (i := 23) (oi := { dst := some 107, op := Op.move (Operand.tmp 8), type := 30, pos := "law.go:352", after := #[{ on := 19, ground := Ground.guard }], guard := some (19, true) }) (v := .slice (some ⟨bi, oi, none⟩) (k + 1) cv) rfl (by kernel_rfl) (by kernel_rfl) (by kernel_rfl) (fun _ _ _ h => h) (Or.inl ⟨by rfl, fun wq hSw => by (try dsimp only at hSw); go_simp⟩) (by assumption) ?_
          try simp only [Act.put, List.setIfInBounds_toArray, List.set_cons_zero, List.set_cons_succ]
          refine wpAnyH_take (i := 24) (oi := { dst := some 108, op := Op.move (Operand.tmp 1), type := 3, pos := "law.go:352", after := #[{ on := 19, ground := Ground.guard }], guard := some (19, true) }) (v := .int .i64 T) rfl (by kernel_rfl) (by kernel_rfl) (by kernel_rfl) (fun _ _ _ h => h) (Or.inl ⟨by rfl, fun wq hSw => by (try dsimp only at hSw); go_simp⟩) (by assumption) ?_
          try simp only [Act.put, List.setIfInBounds_toArray, List.set_cons_zero, List.set_cons_succ]
          refine wpAnyH_take (i := 25) (oi := { dst := some 109, op := Op.indexAddr 30 (Operand.tmp 107) (Operand.tmp 108), type := 0, pos := "law.go:352", after := #[{ on := 23, ground := Ground.data }, { on := 24, ground := Ground.data }, { on := 19, ground := Ground.guard }], guard := some (19, true) }) (v := .pointer (some ⟨bi, oi + T, none⟩)) rfl (by kernel_rfl) (by kernel_rfl) (by kernel_rfl) (fun _ _ _ h => h) (Or.inl ⟨by rfl, fun wq hSw => by (try dsimp only at hSw); go_simp⟩) (by assumption) ?_
          try simp only [Act.put, List.setIfInBounds_toArray, List.set_cons_zero, List.set_cons_succ]
          refine wpAnyH_take (i := 26) (oi := { dst := some 110, op := Op.load 32 (Operand.tmp 109), type := 32, pos := "law.go:352", after := #[{ on := 25, ground := Ground.data }, { on := 19, ground := Ground.guard }], guard := some (19, true) }) (v := .slice aT NI cT) rfl (by kernel_rfl) (by kernel_rfl) (by kernel_rfl) (fun _ _ _ h => h) (Or.inl ⟨by rfl, fun wq hSw => by (try dsimp only at hSw); go_simp⟩) (by assumption) ?_
          try simp only [Act.put, List.setIfInBounds_toArray, List.set_cons_zero, List.set_cons_succ]
          refine wpAnyH_take (i := 27) (oi := { dst := some 111, op := Op.convert 32 9 (Operand.tmp 110), type := 9, pos := "law.go:352", after := #[{ on := 26, ground := Ground.data }, { on := 19, ground := Ground.guard }], guard := some (19, true) }) (v := .string SI) rfl (by kernel_rfl) (by kernel_rfl) (by kernel_rfl) (fun _ _ _ h => h) (Or.inl ⟨by rfl, fun wq hSw => by (try dsimp only at hSw); go_simp⟩) (by assumption) ?_
          try simp only [Act.put, List.setIfInBounds_toArray, List.set_cons_zero, List.set_cons_succ]
          refine wpAnyH_ready (rs := [21]) (by kernel_rfl) (by simp) ?_
          refine AllReadyH.cons (o := { dst := some 105, op := Op.call { callee := Callee.value (Operand.func 7), args := #[Operand.tmp 104], argTypes := #[23] }, type := 32, pos := "law.go:352", after := #[{ on := 20, ground := Ground.data }, { on := 19, ground := Ground.chain }, { on := 19, ground := Ground.guard }], guard := some (19, true) }) rfl (fun K hK => ?_) AllReadyH.nil
          go_simp
          refine (unhide HEND).mono ?_
          rintro e w8 ⟨a8, c8, rfl, k1, k2, HMK⟩
          refine hK.out _ _ k2 (fun _ => wpAnyH_turn (S2 := fun wq => (wq.cell? ⟨bi, oi + T, none⟩ = some (.slice aT NI cT) ∧ (convert 32 9 (.slice aT NI cT)).run Tryz.prog wq = .ok (.string SI) wq) ∧ (convert 32 9 (.slice a8 NI c8)).run Tryz.prog wq = .ok (.string SI) wq) (fun _ h => h.1) _ _ _ _ ?_)
          have hHeld2 := And.intro k2 k1
          clear hK K hHeld
          try simp only [Act.put, List.setIfInBounds_toArray, List.set_cons_zero, List.set_cons_succ]
          refine wpAnyH_take (i := 22) (oi := { dst := some 106, op := Op.convert 32 9 (Operand.tmp 105), type := 9, pos := "law.go:352", after := #[{ on := 21, ground := Ground.data }, { on := 19, ground := Ground.guard }], guard := some (19, true) }) (v := .string SI) rfl (by kernel_rfl) (by kernel_rfl) (by kernel_rfl) (fun _ _ _ h => h) (Or.inl ⟨by rfl, fun wq hSw => by (try dsimp only at hSw); go_simp⟩) (by assumption) ?_
          try simp only [Act.put, List.setIfInBounds_toArray, List.set_cons_zero, List.set_cons_succ]
          refine wpAnyH_take (i := 28) (oi := { dst := some 112, op := Op.binOp BinOp.eql 9 (Operand.tmp 106) (Operand.tmp 111) 9, type := 4, pos := "law.go:352", after := #[{ on := 22, ground := Ground.data }, { on := 27, ground := Ground.data }, { on := 19, ground := Ground.guard }], guard := some (19, true) }) (v := .bool true) rfl (by kernel_rfl) (by kernel_rfl) (by kernel_rfl) (fun _ _ _ h => h) (Or.inl ⟨by rfl, fun wq hSw => by (try dsimp only at hSw); go_simp⟩) (by assumption) ?_
          try simp only [Act.put, List.setIfInBounds_toArray, List.set_cons_zero, List.set_cons_succ]
          refine wpAnyH_take (i := 29) (oi := { dst := some 113, op := Op.pick (Operand.tmp 103) (Operand.tmp 112) (Operand.const (Value.bool false)), type := 4, pos := "law.go:352", after := #[{ on := 19, ground := Ground.data }, { on := 28, ground := Ground.data }], guard := none }) (v := .bool true) rfl (by kernel_rfl) (by kernel_rfl) (by kernel_rfl) (fun _ _ _ h => h) (Or.inl ⟨by rfl, fun wq hSw => by (try dsimp only at hSw); go_simp⟩) (by assumption) ?_
          try simp only [Act.put, List.setIfInBounds_toArray, List.set_cons_zero, List.set_cons_succ]
          refine wpAnyH_take (i := 30) (oi := { dst := some 114, op := Op.move (Operand.tmp 113), type := 4, pos := "law.go:352", after := #[{ on := 29, ground := Ground.data }, { on := 21, ground := Ground.chain }], guard := none }) (v := .bool true) rfl (by kernel_rfl) (by kernel_rfl) (by kernel_rfl) (fun _ _ _ h => h) (Or.inl ⟨by rfl, fun wq hSw => by (try dsimp only at hSw); go_simp⟩) (by assumption) ?_
          try simp only [Act.put, List.setIfInBounds_toArray, List.set_cons_zero, List.set_cons_succ]
          refine wpAnyH_take (i := 31) (oi := { dst := some 115, op := Op.move (Operand.tmp 7), type := 28, pos := "law.go:352", after := #[{ on := 30, ground := Ground.guard }], guard := some (30, true) }) (v := .pointer (some ⟨u, 0, none⟩)) rfl (by kernel_rfl) (by kernel_rfl) (by kernel_rfl) (fun _ _ _ h => h) (Or.inl ⟨by rfl, fun wq hSw => by (try dsimp only at hSw); go_simp⟩) (by assumption) ?_
          try simp only [Act.put, List.setIfInBounds_toArray, List.set_cons_zero, List.set_cons_succ]
          refine wpAnyH_take (i := 34) (oi := { dst := some 118, op := Op.move (Operand.tmp 1), type := 3, pos := "law.go:352", after := #[{ on := 30, ground := Ground.guard }], guard := some (30, true) }) (v := .int .i64 T) rfl (by kernel_rfl) (by kernel_rfl) (by kernel_rfl) (fun _ _ _ h => h) (Or.inl ⟨by rfl, fun wq hSw => by (try dsimp only at hSw); go_simp⟩) (by assumption) ?_
          try simp only [Act.put, List.setIfInBounds_toArray, List.set_cons_zero, List.set_cons_succ]
          refine wpAnyH_ready (rs := [32]) (by kernel_rfl) (by simp) ?_
          refine AllReadyH.cons (o := { dst := some 116, op := Op.call { callee := Callee.value (Operand.func 12), args := #[Operand.tmp 115], argTypes := #[28] }, type := 22, pos := "law.go:352", after := #[{ on := 31, ground := Ground.data }, { on := 30, ground := Ground.chain }, { on := 30, ground := Ground.guard }], guard := some (30, true) }) rfl (fun K hK => ?_) AllReadyH.nil
          go_simp
          refine (unhide HMK).mono ?_
          rintro e w9 ⟨a9, c9, rfl, k3, hb9⟩
          refine hK.out _ _ k3 (fun hHeld3 => ?_)
          clear hK K hHeld2
          try simp only [Act.put, List.setIfInBounds_toArray, List.set_cons_zero, List.set_cons_succ]
          refine wpAnyH_take (i := 33) (oi := { dst := some 117, op := Op.call { callee := Callee.builtin Builtin.len, args := #[Operand.tmp 116], argTypes := #[22] }, type := 3, pos := "law.go:352", after := #[{ on := 32, ground := Ground.data }, { on := 30, ground := Ground.guard }], guard := some (30, true) }) (v := .int .i64 T) rfl (by kernel_rfl) (by kernel_rfl) (by kernel_rfl) (fun _ _ _ h => h) (Or.inl ⟨by rfl, fun wq hSw => by (try dsimp only at hSw); go_simp⟩) (by assumption) ?_
          try simp only [Act.put, List.setIfInBounds_toArray, List.set_cons_zero, List.set_cons_succ]
          refine wpAnyH_take (i := 35) (oi := { dst := some 119, op := Op.binOp BinOp.eql 3 (Operand.tmp 117) (Operand.tmp 118) 3, type := 4, pos := "law.go:352", after := #[{ on := 33, ground := Ground.data }, { on := 34, ground := Ground.data }, { on := 30, ground := Ground.guard }], guard := some (30, true) }) (v := .bool true) rfl (by kernel_rfl) (by kernel_rfl) (by kernel_rfl) (fun _ _ _ h => h) (Or.inl ⟨by rfl, fun wq hSw => by (try dsimp only at hSw); go_simp⟩) (by assumption) ?_
          try simp only [Act.put, List.setIfInBounds_toArray, List.set_cons_zero, List.set_cons_succ]
          refine wpAnyH_take (i := 36) (oi := { dst := some 120, op := Op.pick (Operand.tmp 114) (Operand.tmp 119) (Operand.const (Value.bool false)), type := 4, pos := "law.go:352", after := #[{ on := 30, ground := Ground.data }, { on := 35, ground := Ground.data }], guard := none }) (v := .bool true) rfl (by kernel_rfl) (by kernel_rfl) (by kernel_rfl) (fun _ _ _ h => h) (Or.inl ⟨by rfl, fun wq hSw => by (try dsimp only at hSw); go_simp⟩) (by assumption) ?_
          try simp only [Act.put, List.setIfInBounds_toArray, List.set_cons_zero, List.set_cons_succ]
          refine wpAnyH_take (i := 37) (oi := { dst := some 4, op := Op.assign (Operand.tmp 120), type := 4, pos := "law.go:352", after := #[{ on := 36, ground := Ground.data }, { on := 32, ground := Ground.chain }, { on := 0, ground := Ground.phase }, { on := 1, ground := Ground.phase }, { on := 2, ground := Ground.phase }, { on := 3, ground := Ground.phase }, { on := 4, ground := Ground.phase }, { on := 5, ground := Ground.phase }, { on := 6, ground := Ground.phase }, { on := 7, ground := Ground.phase }, { on := 8, ground := Ground.phase }, { on := 9, ground := Ground.phase }, { on := 10, ground := Ground.phase }, { on := 11, ground := Ground.phase }, { on := 12, ground := Ground.phase }, { on := 13, ground := Ground.phase }, { on := 14, ground := Ground.phase }, { on := 15, ground := Ground.phase }, { on := 16, ground := Ground.phase }, { on := 17, ground := Ground.phase }, { on := 18, ground := Ground.phase }, { on := 19, ground := Ground.phase }, { on := 20, ground := Ground.phase }, { on := 21, ground := Ground.phase }, { on := 22, ground := Ground.phase }, { on := 23, ground := Ground.phase }, { on := 24, ground := Ground.phase }, { on := 25, ground := Ground.phase }, { on := 26, ground := Ground.phase }, { on := 27, ground := Ground.phase }, { on := 28, ground := Ground.phase }, { on := 29, ground := Ground.phase }, { on := 30, ground := Ground.phase }, { on := 31, ground := Ground.phase }, { on := 32, ground := Ground.phase }, { on := 33, ground := Ground.phase }, { on := 34, ground := Ground.phase }, { on := 35, ground := Ground.phase }, { on := 36, ground := Ground.phase }], guard := none }) (v := .bool true) rfl (by kernel_rfl) (by kernel_rfl) (by kernel_rfl) (fun _ _ _ h => h) (Or.inl ⟨by rfl, fun wq hSw => by (try dsimp only at hSw); go_simp⟩) (by assumption) ?_
          try simp only [Act.put, List.setIfInBounds_toArray, List.set_cons_zero, List.set_cons_succ]
          refine wpAnyH_done (by kernel_rfl) ?_ _
          have HB9 := hide ((unhide HB7).trans (hb9.mono (unhide HB7).size))
          clear hb9 HB7 HEND HMK k1 k2 k3 hct7 hcv
          go_wp2
          go_ret
          exact ⟨rfl, unhide HB9⟩
end Go.Proofs.YtieehbeedoagjaaGreatDoor
