/-
  The walk of HeapKeeps. (Part of the proof of HeapKeeps.)
-/
import Derived.Test.YtcppejlcjooliaaGreatJHq
import Derived.Test.YtcppejlcjooliaaGreatJRc
import Derived.Test.YtcppejlcjooliaaGreatOpenInts
import Derived.Deep.RegionWith
namespace Go.Proofs.YtcppejlcjooliaaGreat
open Go.RowKit
set_option linter.unusedVariables false

theorem Hp.in_all {w : World} {B p g c : Nat} {L : List Int} (h : Hp w B p g c L) {k : Int} (h1 : 1 ≤ k) (h2 : k ≤ 40) (ht : tagAt L k ≠ 0) : InL L.length (entOf L k) := by
  have := h.fine.ent h1 h2 ht
  unfold InL
  omega
theorem fine_in {L : List Int} (hf : Fine L) {k : Int} (h1 : 1 ≤ k) (h2 : k ≤ 40) (ht : tagAt L k ≠ 0) : InL L.length (entOf L k) := by
  have := hf.ent h1 h2 ht
  unfold InL
  omega
theorem bs_seven (w : World) : Bs (w.alloc (.cells #[.int .u8 7] 5)) (some ⟨w.heap.size, 0, none⟩) 1 [7] :=
  (show Blk (w.alloc (.cells #[.int .u8 7] 5)) w.heap.size [7] from heap_alloc_new w _).bs (fun z hz => by rw [List.mem_singleton.1 hz]; decide) (by decide)

theorem Hp.low {w : World} {B B' p g c : Nat} {L : List Int} (h : Hp w B' p g c L) (hB : B ≤ B') : Hp w B p g c L :=
  ⟨Nat.le_trans hB h.bp, h.ne, h.blk, (by obtain ⟨cur, hr⟩ := h.row; exact ⟨cur, hr.low hB⟩), h.byt, h.fine⟩
theorem Hp.foot_lt {w : World} {B p g c : Nat} {L : List Int} (h : Hp w B p g c L) (k : Nat) (hk : foot p g k) : k < w.heap.size := by
  rcases hk with rfl | rfl
  · exact h.plt
  · exact h.glt
/-- Bytes, and what is there besides, as texts. -/
theorem bytes_str (p g c B : Nat) (L : List Int) (aw : Option Addr) (cw : Nat) (w : World) (hh : Hp w B p g c L) (hw : Bs w aw cw L) :
    Calls Tryz.prog 9 #[.pointer (some ⟨p, 0, none⟩)] w fun e w' => ∃ a' c', e = .returned (.slice a' L.length c') ∧ (convert 22 9 (.slice a' L.length c')).run Tryz.prog w' = .ok (.string (strOf L)) w' ∧ (convert 22 9 (.slice aw L.length cw)).run Tryz.prog w' = .ok (.string (strOf L)) w' ∧ Below w.heap.size w w' :=
  (hBytes_any p g c B L w hh).mono fun e w' ⟨a', c', he, ho, hb⟩ => ⟨a', c', he, by
    obtain ⟨a2, c2, e2, hbs⟩ := ho.bs hh.byt (by have := hh.len; omega)
    simp only [Value.slice.injEq, true_and] at e2
    obtain ⟨rfl, rfl⟩ := e2
    exact conv_str Tryz.underlying22 Tryz.underlying5 Tryz.underlying9 hbs, conv_str Tryz.underlying22 Tryz.underlying5 Tryz.underlying9 (hw.below hb), hb⟩
set_option maxRecDepth 100000 in
set_option maxHeartbeats 8000000 in
theorem walkHeapKeeps (a : Option Addr) (cap : Nat) (b : List Int) (a1 : Option Addr) (cap1 : Nat) (sz : List Int) (h x : Int) (a4 : Option Addr) (cap4 : Nat) (body : List Int) (w : World)
    (hb : Bs w a cap b) (hs : Is w a1 cap1 sz) (hh : -9223372036854775808 ≤ h ∧ h ≤ 9223372036854775807) (hx : -9223372036854775808 ≤ x ∧ x ≤ 9223372036854775807) (hbody : Bs w a4 cap4 body) :
    Calls Tryz.prog 3 #[.slice a b.length cap, .slice a1 sz.length cap1, .int .i64 h, .int .i64 x, .slice a4 body.length cap4] w fun e w' => e = .returned (.bool true) ∧ Below w.heap.size w w' := by
  have hbl := hb.2.2.1
  have hsl := hs.2.2.1
  have hyl := hbody.2.2.1
  have HB0 := hide hb
  have HSZ := hide hs
  have HBODY := hide hbody
  clear hb hs hbody
  have HN := hide (hNew_yes 320 w (by decide))
  obtain ⟨f1, f2, f3, f4, f5, f6, f7⟩ := first_fact
  have HA1 := hide (fun (p g c : Nat) (W : World) (hh : Hp W w.heap.size p g c (zerosB 320)) (hW : Below w.heap.size w W) => hAlloc_any p g c w.heap.size (zerosB 320) 4 2 W hh hW.size)
  rw [f1, f2, errV_zero] at HA1
  have HW1 := hide (fun (p g c : Nat) (a : Option Addr) (cap : Nat) (W : World) (hh : Hp W w.heap.size p g c (alB (zerosB 320) 4 2)) (hb : Bs W a cap [7]) => hWrite_any p g c w.heap.size (alB (zerosB 320) 4 2) 1 1 a cap [7] W hh hb (by decide))
  rw [f3, errV_zero] at HW1
  have HR1 := hide (fun (p g c : Nat) (W : World) (hh : Hp W w.heap.size p g c (wrB (alB (zerosB 320) 4 2) 1 1 [7])) => hRead_any p g c w.heap.size (wrB (alB (zerosB 320) 4 2) 1 1 [7]) 1 0 4 W hh (by decide) (by decide))
  rw [f4, f5, errV_zero] at HR1
  have HBYR : Hid (∀ W p g c, Hp W w.heap.size p g c (wrB (alB (zerosB 320) 4 2) 1 1 [7]) → Byt (rdL (wrB (alB (zerosB 320) 4 2) 1 1 [7]) 1 0 4)) := hide (fun W p g c hh => rdL_byt hh.byt 1 0 4)
  generalize rdL (wrB (alB (zerosB 320) 4 2) 1 1 [7]) 1 0 4 = RD at *
  generalize wrB (alB (zerosB 320) 4 2) 1 1 [7] = I2 at *
  generalize alB (zerosB 320) 4 2 = I1 at *
  generalize zerosB 320 = I0 at *
  have HF5 := hide f5
  have HF6 := hide f6
  have HF7 := hide f7
  clear f1 f2 f3 f4 f5 f6 f7
  go_enter Tryz.func3, Tryz.ntmps3
  go_wp2_with fail
  refine (unhide HN).mono ?_
  rintro e w1 ⟨p0, g0, c0, rfl, hp1, hb1⟩
  have HA11 := hide (unhide HA1 p0 g0 c0 w1 hp1 hb1)
  have HGE1 := hide hp1.foot_ge
  have HB1 := hide hb1
  clear hp1 hb1 HN HA1
  go_wp2_with fail
  refine (unhide HA11).mono ?_
  rintro e w2 ⟨rfl, g2, c2, hp2, ht2⟩
  have hB2 := (unhide HB1).trans (ht2.below (unhide HGE1) (unhide HB1).size)
  have hal : Below w2.heap.size w2 (w2.alloc (.cells #[.int .u8 7] 5)) := (Below.refl _ _).alloc (Nat.le_refl _) _
  have HW12 := hide (unhide HW1 p0 g2 c2 _ 1 _ (hp2.below hal) (bs_seven w2))
  have HGE2 := hide hp2.foot_ge
  have HB2 := hide (hB2.trans (hal.mono hB2.size))
  clear hp2 ht2 hB2 hal HA11 HGE1 HB1 HW1
  go_wp2_with fail
  refine (unhide HW12).mono ?_
  rintro e w3 ⟨rfl, hp3, ht3⟩
  have hB3 := (unhide HB2).trans (ht3.below (unhide HGE2) (unhide HB2).size)
  have HR13 := hide (unhide HR1 p0 g2 c2 w3 hp3)
  have HBY3 := hide (unhide HBYR w3 p0 g2 c2 hp3)
  have HB3 := hide hB3
  clear hp3 ht3 hB3 HW12 HGE2 HB2 HR1 HBYR
  go_wp2_with fail
  refine (unhide HR13).mono ?_
  rintro e w4 ⟨ar, cr, rfl, hor, hb4⟩
  have hbr := hor
  rw [← unhide HF5] at hbr
  obtain ⟨ar', cr', er, hbs4⟩ := hbr.bs (unhide HBY3) (by rw [unhide HF5]; decide)
  simp only [Value.slice.injEq, true_and] at er
  obtain ⟨rfl, rfl⟩ := er
  obtain ⟨br, or', rfl, hcr0⟩ := hbs4.at 0 (by rw [unhide HF5]; decide)
  obtain ⟨br2, or2, er2, hcr1⟩ := hbs4.at 1 (by rw [unhide HF5]; decide)
  simp only [Option.some.injEq, Addr.mk.injEq, and_true] at er2
  obtain ⟨rfl, rfl⟩ := er2
  rw [unhide HF7, Nat.add_zero] at hcr0
  rw [unhide HF6] at hcr1
  have HB4 := hide ((unhide HB3).trans (hb4.mono (unhide HB3).size))
  have HLD := hide (loaded_any a cap b w4 ((unhide HB0).below (unhide HB4)))
  clear hor hbr hbs4 hb4 HR13 HBY3 HB3
  go_wp2_with fail
  refine (unhide HLD).mono ?_
  rintro e w5 ⟨p, g5, c5, am, cm, rfl, hp5, hbm5, hb5⟩
  have HP5 := hide (hp5.low (unhide HB4).size)
  have HB5 := hide ((unhide HB4).trans (hb5.mono (unhide HB4).size))
  clear hp5 hbm5 hb5 HLD HB4 HB0 HF5 HF6 HF7 hcr0 hcr1
  generalize ldL b = LD at *
  go_wp2_with fail
  go_loopw [20] (fun iv wr => ∃ (i g c : Nat) (L : List Int), i ≤ sz.length ∧ i ≤ 12 ∧ iv = .int .i64 i ∧ Hp wr w.heap.size p g c L ∧ Below w.heap.size w wr) (fun iv _ => 13 - (intOf iv).toNat)
  case atStart => exact ⟨0, g5, c5, LD, Nat.zero_le _, Nat.zero_le _, rfl, unhide HP5, unhide HB5⟩
  case round =>
    obtain ⟨i, g, c, L, hi, hi12, rfl, hp, hbel⟩ := hrel
    clear HP5 HB5
    by_cases hlt : i < sz.length ∧ i < 12
    · obtain ⟨hl1, hl2⟩ := hlt
      have hne : sz ≠ [] := by intro e; rw [e] at hl1; simp at hl1
      obtain ⟨b1, o1, rfl, hcs⟩ := (unhide HSZ).2.2.2 hne
      have hsz1 := (unhide HSZ).1 (sz.getD i 0) (by have : sz.getD i 0 = sz[i] := by simp [List.getD, hl1]
                                                    rw [this]; exact List.getElem_mem hl1)
      have hcs1 := hcs i hl1
      have HCS := hide hcs1
      have hblt := block_lt_of_cell hcs1
      have HY := hide (hBytes_any p g c w.heap.size L wr hp)
      have HP := hide hp
      have HBEL := hide hbel
      clear hp hbel hcs hne hcs1
      generalize sz.getD i 0 = s at *
      have hi1 : (i : Int) < (sz.length : Int) := by omega
      have hi2 : (i : Int) < 12 := by omega
      go_wp2_with fail
      refine (unhide HY).mono ?_
      rintro e w6 ⟨aw, cw, rfl, ho6, hb6⟩
      have hp6 := (unhide HP).below hb6
      have hB6 := (unhide HBEL).trans (hb6.mono (unhide HBEL).size)
      obtain ⟨aw', cw', ew, hw6⟩ := ho6.bsO (S := foot p g) hp6.byt (by have := hp6.len; omega) (unhide HP).foot_lt
      simp only [Value.slice.injEq, true_and] at ew
      obtain ⟨rfl, rfl⟩ := ew
      have HW6 := hide hw6
      have HP6 := hide hp6
      have HB6 := hide hB6
      have hcs6 := (hB6.cell (p := ⟨b1, o1 + i, none⟩) hblt).trans (unhide HCS)
      have hlen6 := hp6.len
      clear ho6 hb6 hp6 hB6 hw6 HY HP HBEL
      have HAL := hide (hAlloc_any p g c w.heap.size L s ((i : Int) % 16) w6 (unhide HP6) (unhide HB6).size)
      go_wp2_with fail
      by_cases h0 : alE L s ((i : Int) % 16) = 0
      · obtain ⟨r1, r2, r3, r4, r5, r6, r7, r8, r9⟩ := fresh_read (unhide HP6).fine h0
        rw [h0, errV_zero] at HAL
        have HGE6 := hide (unhide HP6).foot_ge
        have HRD := hide (fun (g c : Nat) (W : World) (hh : Hp W w.heap.size p g c (alB L s ((i : Int) % 16))) => hRead_any p g c w.heap.size (alB L s ((i : Int) % 16)) (alH L s ((i : Int) % 16)) 0 s W hh (by decide) (by omega))
        rw [r1, errV_zero] at HRD
        have HTG := hide (fun (g c : Nat) (W : World) (hh : Hp W w.heap.size p g c (alB L s ((i : Int) % 16))) => hTag_any p g c w.heap.size (alB L s ((i : Int) % 16)) (alH L s ((i : Int) % 16)) W hh)
        rw [r3, r4, errV_zero] at HTG
        have HFN := hide (fun (a : Option Addr) (cap : Nat) (W : World) (hb : Bs W a cap (alB L s ((i : Int) % 16))) => rFine_any a cap (alB L s ((i : Int) % 16)) W hb)
        rw [fineE_zero (alB_fine (unhide HP6).fine s ((i : Int) % 16))] at HFN
        have HOB := hide r9
        have HZR := hide r2
        have HBR := hide (rdL_byt (alB_byt (unhide HP6).byt s ((i : Int) % 16)) (alH L s ((i : Int) % 16)) 0 s)
        have HFL := hide (unhide HP6).fine
        clear h0 r1 r2 r3 r4 r9
        generalize rdL (alB L s ((i : Int) % 16)) (alH L s ((i : Int) % 16)) 0 s = RD7 at *
        generalize alB L s ((i : Int) % 16) = L7 at *
        generalize alH L s ((i : Int) % 16) = H7 at *
        refine (unhide HAL).mono ?_
        rintro e w7 ⟨rfl, g7, c7, hp7, ht7⟩
        have hw7 := (unhide HW6).turn ht7
        have hB7 := (unhide HB6).trans (ht7.below (unhide HGE6) (unhide HB6).size)
        have hcs7 := (hB7.cell (p := ⟨b1, o1 + i, none⟩) hblt).trans (unhide HCS)
        have HRD7 := hide (unhide HRD g7 c7 w7 hp7)
        have HW7 := hide hw7
        have HP7 := hide hp7
        have HB7 := hide hB7
        clear hw7 hp7 ht7 hB7 HAL HW6 HP6 HB6 HGE6 HRD hcs6
        go_wp2_with fail
        refine (unhide HRD7).mono ?_
        rintro e w8 ⟨a8, c8, rfl, ho8, hb8⟩
        obtain ⟨a8', c8', e8, hbs8⟩ := ho8.bs (unhide HBR) (by omega)
        simp only [Value.slice.injEq, true_and] at e8
        obtain ⟨rfl, rfl⟩ := e8
        have HX8 := hide hbs8
        have HTG8 := hide (unhide HTG g7 c7 w8 ((unhide HP7).below hb8))
        have HW8 := hide ((unhide HW7).below hb8)
        have HP8 := hide ((unhide HP7).below hb8)
        have HB8 := hide ((unhide HB7).trans (hb8.mono (unhide HB7).size))
        have HZ := hide (fun (W : World) (hb : Bs W a8 c8 RD7) => rZero_any a8 c8 RD7 W hb)
        rw [unhide HZR] at HZ
        clear ho8 hbs8 hb8 HRD7 HW7 HP7 HB7 HTG hcs7 HBR HZR
        generalize RD7.length = NR at *
        go_wp2_with fail
        refine (unhide HTG8).mono ?_
        rintro e w9 ⟨rfl, hb9⟩
        have HZ9 := hide (unhide HZ w9 ((unhide HX8).below hb9))
        have HY9 := hide (hBytes_any p g7 c7 w.heap.size L7 w9 ((unhide HP8).below hb9))
        have HW9 := hide ((unhide HW8).below hb9)
        have HP9 := hide ((unhide HP8).below hb9)
        have HB9 := hide ((unhide HB8).trans (hb9.mono (unhide HB8).size))
        clear hb9 HTG8 HX8 HW8 HP8 HB8 HZ
        go_wp2_with fail
        refine (unhide HZ9).mono ?_
        rintro e wz ⟨rfl, hwz⟩
        subst hwz
        clear HZ9
        go_wp2_with fail
        refine (unhide HY9).mono ?_
        rintro e w10 ⟨a10, c10, rfl, ho10, hb10⟩
        have hp10 := (unhide HP9).below hb10
        obtain ⟨a10', c10', e10, hbs10⟩ := ho10.bs hp10.byt (by have := hp10.len; omega)
        simp only [Value.slice.injEq, true_and] at e10
        obtain ⟨rfl, rfl⟩ := e10
        have HFN10 := hide (unhide HFN a10 c10 w10 hbs10)
        have HW10 := hide ((unhide HW9).below hb10)
        have HP10 := hide hp10
        have HB10 := hide ((unhide HB9).trans (hb10.mono (unhide HB9).size))
        clear ho10 hbs10 hp10 hb10 HY9 HW9 HP9 HB9 HFN
        go_wp2_with fail
        refine (unhide HFN10).mono ?_
        rintro e w11 ⟨rfl, hb11⟩
        have HW11 := hide ((unhide HW10).below hb11)
        have HP11 := hide ((unhide HP10).below hb11)
        have HB11 := hide ((unhide HB10).trans (hb11.mono (unhide HB10).size))
        clear hb11 HFN10 HW10 HP10 HB10
        go_wp2_with fail
        go_loopw [29] (fun kv wr => ∃ k : Nat, k ≤ 40 ∧ kv = .int .i64 ((k : Int) + 1) ∧ Below w11.heap.size w11 wr) (fun kv _ => 41 - (intOf kv).toNat)
        case atStart => exact ⟨0, Nat.zero_le _, rfl, Below.refl _ _⟩
        case round =>
          obtain ⟨k, hk, rfl, hbk⟩ := hrel
          by_cases hk40 : k < 40
          · have hwk := (unhide HW11).below hbk
            have hpk := (unhide HP11).below hbk
            have HO1 := hide (rObject_any aw cw L ((k : Int) + 1) _ hwk.1 (unhide HFL).len.1 (by omega) (by omega) (fine_in (unhide HFL) (by omega) (by omega)))
            have HY2 := hide (fun (W : World) (hW : Below wr.heap.size wr W) => hBytes_any p g7 c7 w.heap.size L7 W (hpk.below hW))
            have HO2 := hide (fun (a : Option Addr) (cap : Nat) (W : World) (hb : Bs W a cap L7) => rObject_any a cap L7 ((k : Int) + 1) W hb hpk.fine.len.1 (by omega) (by omega) (fine_in hpk.fine (by omega) (by omega)))
            have HBYL := hide hpk.byt
            have HLL := hide hpk.len
            have HBK := hide hbk
            clear hwk hpk hbk
            by_cases hkn : (k : Int) + 1 = H7
            · subst hkn
              generalize (objOf L ((k : Int) + 1)).1 = t1 at *
              generalize strOf (objOf L ((k : Int) + 1)).2 = s1 at *
              generalize (objOf L7 ((k : Int) + 1)).1 = t2 at *
              generalize strOf (objOf L7 ((k : Int) + 1)).2 = s2 at *
              go_wp2_with fail
              refine (unhide HO1).mono ?_
              rintro e w12 ⟨rfl, hb12⟩
              have HY12 := hide (unhide HY2 w12 hb12)
              have HB12 := hide ((unhide HBK).trans (hb12.mono (unhide HBK).size))
              clear hb12 HO1 HY2 HBK
              go_wp2_with fail
              refine (unhide HY12).mono ?_
              rintro e w13 ⟨a13, c13, rfl, ho13, hb13⟩
              obtain ⟨a13', c13', e13, hbs13⟩ := ho13.bs (unhide HBYL) (by have := unhide HLL; omega)
              simp only [Value.slice.injEq, true_and] at e13
              obtain ⟨rfl, rfl⟩ := e13
              have HO13 := hide (unhide HO2 a13 c13 w13 hbs13)
              have HB13 := hide ((unhide HB12).trans (hb13.mono (unhide HB12).size))
              clear ho13 hbs13 hb13 HY12 HB12 HO2
              go_wp2_with fail
              refine (unhide HO13).mono ?_
              rintro e w14 ⟨rfl, hb14⟩
              have HB14 := hide ((unhide HB13).trans (hb14.mono (unhide HB13).size))
              clear hb14 HO13 HB13
              go_wp2
              go_roundw
              case rel => exact ⟨k + 1, by omega, by go_num, unhide HB14⟩
              case measure => simp [intOf]; omega
            · have hob := unhide HOB ((k : Int) + 1) (by omega) (by omega) hkn
              rw [hob] at HO2
              have hkb : ((k : Int) + 1 == H7) = false := beq_eq_false_iff_ne.2 hkn
              clear hob
              generalize (objOf L ((k : Int) + 1)).1 = t1 at *
              generalize strOf (objOf L ((k : Int) + 1)).2 = s1 at *
              go_wp2_with fail
              refine (unhide HO1).mono ?_
              rintro e w12 ⟨rfl, hb12⟩
              have HY12 := hide (unhide HY2 w12 hb12)
              have HB12 := hide ((unhide HBK).trans (hb12.mono (unhide HBK).size))
              clear hb12 HO1 HY2 HBK
              go_wp2_with fail
              refine (unhide HY12).mono ?_
              rintro e w13 ⟨a13, c13, rfl, ho13, hb13⟩
              obtain ⟨a13', c13', e13, hbs13⟩ := ho13.bs (unhide HBYL) (by have := unhide HLL; omega)
              simp only [Value.slice.injEq, true_and] at e13
              obtain ⟨rfl, rfl⟩ := e13
              have HO13 := hide (unhide HO2 a13 c13 w13 hbs13)
              have HB13 := hide ((unhide HB12).trans (hb13.mono (unhide HB12).size))
              clear ho13 hbs13 hb13 HY12 HB12 HO2
              go_wp2_with fail
              refine (unhide HO13).mono ?_
              rintro e w14 ⟨rfl, hb14⟩
              have HB14 := hide ((unhide HB13).trans (hb14.mono (unhide HB13).size))
              clear hb14 HO13 HB13
              go_wp2
              go_roundw
              case rel => exact ⟨k + 1, by omega, by go_num, unhide HB14⟩
              case measure => simp [intOf]; omega
          · obtain rfl : k = 40 := by omega
            have HPk := hide ((unhide HP11).below hbk)
            have HBk := hide ((unhide HB11).trans (hbk.mono (unhide HB11).size))
            clear hbk HP11 HB11 HW11
            go_wp2
            go_roundw
            case rel => exact ⟨i + 1, g7, c7, L7, by omega, by omega, by go_num, unhide HPk, unhide HBk⟩
            case measure => simp [intOf]; omega
      · have e1 : alB L s ((i : Int) % 16) = L := by unfold alB; rw [if_neg h0]
        rw [errV_pos _ h0, e1] at HAL
        have HGE6 := hide (unhide HP6).foot_ge
        clear h0 e1
        generalize alE L s ((i : Int) % 16) = X7 at *
        generalize alH L s ((i : Int) % 16) = H7 at *
        refine (unhide HAL).mono ?_
        rintro e w7 ⟨rfl, g7, c7, hp7, ht7⟩
        have hw7 := (unhide HW6).turn ht7
        have hB7 := (unhide HB6).trans (ht7.below (unhide HGE6) (unhide HB6).size)
        have hbd : Below w7.heap.size w7 w7.drew := below_drew (Below.refl _ _)
        have hcv := conv_str (P := Tryz.prog) (t := 22) (e := 9) Tryz.underlying22 Tryz.underlying5 Tryz.underlying9 (hw7.1.below hbd)
        have HY7 := hide (bytes_str p g7 c7 w.heap.size L aw cw w7.drew (hp7.below hbd) (hw7.1.below hbd))
        have HP7 := hide hp7
        have HB7 := hide hB7
        clear hw7 hp7 ht7 hB7 HAL HW6 HP6 HB6 HGE6
        generalize strOf L = SL at *
        go_wp2_with fail
        go_region_with (go_at_call 9; refine (unhide HY7).mono ?_; rintro e w8 ⟨a8, c8, rfl, k1, k2, hb8⟩)
        all_goals
          have hb8' : Below w7.heap.size w7 w8 := hbd.trans hb8
          have HP8 := hide ((unhide HP7).below hb8')
          have HB8 := hide ((unhide HB7).trans (hb8'.mono (unhide HB7).size))
          clear hb8 hb8' hbd k1 k2 hcv HP7 HB7 HY7
          go_wp2
          go_roundw
          case rel => exact ⟨i + 1, g7, c7, L, by omega, by omega, by go_num, unhide HP8, unhide HB8⟩
          case measure => simp [intOf]; omega
    · have hcase : ¬ (i : Int) < (sz.length : Int) ∨ ((i : Int) < (sz.length : Int) ∧ ¬ (i : Int) < 12) := by omega
      have HY := hide (hBytes_any p g c w.heap.size L wr hp)
      have HP := hide hp
      have HBEL := hide hbel
      have hlen := hp.len
      clear hp hbel hlt
      rcases hcase with hc1 | ⟨hc1, hc2⟩
      all_goals
        go_wp2_with fail
        refine (unhide HY).mono ?_
        rintro e w6 ⟨aw, cw, rfl, ho6, hb6⟩
        have hp6 := (unhide HP).below hb6
        have hB6 := (unhide HBEL).trans (hb6.mono (unhide HBEL).size)
        obtain ⟨aw', cw', ew, hw6⟩ := ho6.bsO (S := foot p g) hp6.byt (by have := hp6.len; omega) (unhide HP).foot_lt
        simp only [Value.slice.injEq, true_and] at ew
        obtain ⟨rfl, rfl⟩ := ew
        have HWR := hide (hWrite_any p g c w.heap.size L h x a4 cap4 body w6 hp6 ((unhide HBODY).below hB6) hx.2)
        have HGE6 := hide hp6.foot_ge
        have HFL := hide hp6.fine
        have HW6 := hide hw6
        have HB6 := hide hB6
        clear ho6 hb6 hp6 hB6 hw6 HY HP HBEL
        by_cases h0 : pcE L h x body.length = 0
        · obtain ⟨q1, q2, q3, q4, q5, q6⟩ := wrote_read (unhide HFL) h0
          rw [h0, errV_zero] at HWR
          have HRD := hide (fun (W : World) (hh : Hp W w.heap.size p g c (wrB L h x body)) => hRead_any p g c w.heap.size (wrB L h x body) h x body.length W hh hx.2 (by omega))
          rw [q1, q2, errV_zero] at HRD
          have HOB := hide q4
          clear h0 q1 q2 q3 q4 q5 q6
          generalize wrB L h x body = L7 at *
          go_wp2_with fail
          refine (unhide HWR).mono ?_
          rintro e w7 ⟨rfl, hp7, ht7⟩
          have hw7 := (unhide HW6).turn ht7
          have hB7 := (unhide HB6).trans (ht7.below (unhide HGE6) (unhide HB6).size)
          have HRD7 := hide (unhide HRD w7 hp7)
          have HW7 := hide hw7
          have HP7 := hide hp7
          have HB7 := hide hB7
          clear hw7 hp7 ht7 hB7 HWR HW6 HB6 HGE6 HRD
          go_wp2_with fail
          refine (unhide HRD7).mono ?_
          rintro e w8 ⟨a8, c8, rfl, ho8, hb8⟩
          have hB8 := (unhide HB7).trans (hb8.mono (unhide HB7).size)
          obtain ⟨a8', c8', e8, hbs8⟩ := ho8.bs (unhide HBODY).1 hyl
          simp only [Value.slice.injEq, true_and] at e8
          obtain ⟨rfl, rfl⟩ := e8
          have hcv1 := conv_str (P := Tryz.prog) (t := 22) (e := 9) Tryz.underlying22 Tryz.underlying5 Tryz.underlying9 hbs8
          have hcv2 := conv_str (P := Tryz.prog) (t := 22) (e := 9) Tryz.underlying22 Tryz.underlying5 Tryz.underlying9 ((unhide HBODY).below hB8)
          have HW8 := hide ((unhide HW7).below hb8)
          have HP8 := hide ((unhide HP7).below hb8)
          have HB8 := hide hB8
          clear ho8 hbs8 hb8 hB8 HRD7 HW7 HP7 HB7
          generalize strOf body = SB at *
          go_wp2_with fail
          go_loopw [37] (fun kv wr => ∃ k : Nat, k ≤ 40 ∧ kv = .int .i64 ((k : Int) + 1) ∧ Below w8.heap.size w8 wr) (fun kv _ => 41 - (intOf kv).toNat)
          case atStart => exact ⟨0, Nat.zero_le _, rfl, Below.refl _ _⟩
          case round =>
            clear hcv1 hcv2
            obtain ⟨k, hk, rfl, hbk⟩ := hrel
            by_cases hk40 : k < 40
            · have hwk := (unhide HW8).below hbk
              have hpk := (unhide HP8).below hbk
              have HO1 := hide (rObject_any aw cw L ((k : Int) + 1) _ hwk.1 (unhide HFL).len.1 (by omega) (by omega) (fine_in (unhide HFL) (by omega) (by omega)))
              have HY2 := hide (fun (W : World) (hW : Below wr.heap.size wr W) => hBytes_any p g c w.heap.size L7 W (hpk.below hW))
              have HO2 := hide (fun (a : Option Addr) (cap : Nat) (W : World) (hb : Bs W a cap L7) => rObject_any a cap L7 ((k : Int) + 1) W hb hpk.fine.len.1 (by omega) (by omega) (fine_in hpk.fine (by omega) (by omega)))
              have HBYL := hide hpk.byt
              have HLL := hide hpk.len
              have HBK := hide hbk
              clear hwk hpk hbk
              by_cases hkn : (k : Int) + 1 = h
              · subst hkn
                generalize (objOf L ((k : Int) + 1)).1 = t1 at *
                generalize strOf (objOf L ((k : Int) + 1)).2 = s1 at *
                generalize (objOf L7 ((k : Int) + 1)).1 = t2 at *
                generalize strOf (objOf L7 ((k : Int) + 1)).2 = s2 at *
                go_wp2_with fail
                refine (unhide HO1).mono ?_
                rintro e w12 ⟨rfl, hb12⟩
                have HY12 := hide (unhide HY2 w12 hb12)
                have HB12 := hide ((unhide HBK).trans (hb12.mono (unhide HBK).size))
                clear hb12 HO1 HY2 HBK
                go_wp2_with fail
                refine (unhide HY12).mono ?_
                rintro e w13 ⟨a13, c13, rfl, ho13, hb13⟩
                obtain ⟨a13', c13', e13, hbs13⟩ := ho13.bs (unhide HBYL) (by have := unhide HLL; omega)
                simp only [Value.slice.injEq, true_and] at e13
                obtain ⟨rfl, rfl⟩ := e13
                have HO13 := hide (unhide HO2 a13 c13 w13 hbs13)
                have HB13 := hide ((unhide HB12).trans (hb13.mono (unhide HB12).size))
                clear ho13 hbs13 hb13 HY12 HB12 HO2
                go_wp2_with fail
                refine (unhide HO13).mono ?_
                rintro e w14 ⟨rfl, hb14⟩
                have HB14 := hide ((unhide HB13).trans (hb14.mono (unhide HB13).size))
                clear hb14 HO13 HB13
                go_wp2
                go_roundw
                case rel => exact ⟨k + 1, by omega, by go_num, unhide HB14⟩
                case measure => simp [intOf]; omega
              · have hob := unhide HOB ((k : Int) + 1) (by omega) (by omega) hkn
                rw [hob] at HO2
                have hkb : ((k : Int) + 1 == h) = false := beq_eq_false_iff_ne.2 hkn
                clear hob
                generalize (objOf L ((k : Int) + 1)).1 = t1 at *
                generalize strOf (objOf L ((k : Int) + 1)).2 = s1 at *
                go_wp2_with fail
                refine (unhide HO1).mono ?_
                rintro e w12 ⟨rfl, hb12⟩
                have HY12 := hide (unhide HY2 w12 hb12)
                have HB12 := hide ((unhide HBK).trans (hb12.mono (unhide HBK).size))
                clear hb12 HO1 HY2 HBK
                go_wp2_with fail
                refine (unhide HY12).mono ?_
                rintro e w13 ⟨a13, c13, rfl, ho13, hb13⟩
                obtain ⟨a13', c13', e13, hbs13⟩ := ho13.bs (unhide HBYL) (by have := unhide HLL; omega)
                simp only [Value.slice.injEq, true_and] at e13
                obtain ⟨rfl, rfl⟩ := e13
                have HO13 := hide (unhide HO2 a13 c13 w13 hbs13)
                have HB13 := hide ((unhide HB12).trans (hb13.mono (unhide HB12).size))
                clear ho13 hbs13 hb13 HY12 HB12 HO2
                go_wp2_with fail
                refine (unhide HO13).mono ?_
                rintro e w14 ⟨rfl, hb14⟩
                have HB14 := hide ((unhide HB13).trans (hb14.mono (unhide HB13).size))
                clear hb14 HO13 HB13
                go_wp2
                go_roundw
                case rel => exact ⟨k + 1, by omega, by go_num, unhide HB14⟩
                case measure => simp [intOf]; omega
            · obtain rfl : k = 40 := by omega
              have HBk := hide ((unhide HB8).trans (hbk.mono (unhide HB8).size))
              clear hbk HP8 HB8 HW8
              go_wp2
              go_ret
              exact ⟨rfl, unhide HBk⟩
        · have e1 : wrB L h x body = L := by unfold wrB; rw [if_neg h0]
          rw [errV_pos _ h0, e1] at HWR
          clear h0 e1
          generalize pcE L h x body.length = X7 at *
          go_wp2_with fail
          refine (unhide HWR).mono ?_
          rintro e w7 ⟨rfl, hp7, ht7⟩
          have hw7 := (unhide HW6).turn ht7
          have hB7 := (unhide HB6).trans (ht7.below (unhide HGE6) (unhide HB6).size)
          have hbd : Below w7.heap.size w7 w7.drew := below_drew (Below.refl _ _)
          have hcv := conv_str (P := Tryz.prog) (t := 22) (e := 9) Tryz.underlying22 Tryz.underlying5 Tryz.underlying9 (hw7.1.below hbd)
          have HY7 := hide (bytes_str p g c w.heap.size L aw cw w7.drew (hp7.below hbd) (hw7.1.below hbd))
          have HB7 := hide hB7
          clear hw7 hp7 ht7 hB7 HWR HW6 HB6 HGE6
          generalize strOf L = SL at *
          go_wp2_with fail
          go_region_with (go_at_call 9; refine (unhide HY7).mono ?_; rintro e w8 ⟨a8, c8, rfl, k1, k2, hb8⟩)
          all_goals
            have hb8' : Below w7.heap.size w7 w8 := hbd.trans hb8
            have HB8 := hide ((unhide HB7).trans (hb8'.mono (unhide HB7).size))
            clear hb8 hb8' hbd k1 k2 hcv HB7 HY7
            go_wp2
            go_ret
            exact ⟨rfl, unhide HB8⟩
end Go.Proofs.YtcppejlcjooliaaGreat
