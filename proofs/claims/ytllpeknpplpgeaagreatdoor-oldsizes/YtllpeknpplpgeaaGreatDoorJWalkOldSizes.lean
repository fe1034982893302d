/-
  The walk of OldSizes. (Part of the proof of OldSizes.)
-/
import Derived.Test.YtllpeknpplpgeaaGreatDoorJHp
import Derived.Test.YtllpeknpplpgeaaGreatDoorJOl
import Derived.Test.YtllpeknpplpgeaaGreatDoorJOm
import Derived.Test.YtllpeknpplpgeaaGreatDoorJHq
import Derived.Test.YtllpeknpplpgeaaGreatDoorJEx
import Derived.Test.YtllpeknpplpgeaaGreatDoorErrSame
namespace Go.Proofs.YtllpeknpplpgeaaGreatDoor
open Go.RowKit
set_option linter.unusedVariables false

theorem fine_E {L : List Int} (hf : Fine L) : fineE L = 0 := by unfold fineE; rw [if_neg (by rw [hf.len0]; simp), if_pos hf.ok]
theorem dw_dn {L : List Int} (hf : Fine L) : dwL L = dnL L := by unfold dwL; rw [if_pos (fine_E hf)]
theorem dn_byt {L : List Int} (hf : Fine L) (hb : Byt L) : Byt (dnL L) := fun z hz => by
  have hl := entsK_len L 40
  have hr := rootsK_len L 8
  unfold dnL dnB at hz
  rcases List.mem_append.1 hz with hz | hz
  · generalize (entsK L 40).length = n at *
    simp only [List.mem_cons, List.not_mem_nil, or_false] at hz
    omega
  rcases List.mem_append.1 hz with hz | hz
  · obtain ⟨e, he, hze⟩ := List.mem_flatMap.1 hz
    exact dnO_byt hf hb he z hze
  rcases List.mem_append.1 hz with hz | hz
  · rw [List.mem_singleton.1 hz]; omega
  · exact (drK_byt _ (roots_may hf hb)).1 z hz
/-- The image of old of an image that is right, cut short, is none. -/
theorem dn_cut {L : List Int} (hf : Fine L) (hb : Byt L) {c : Nat} (hc : c < (dnL L).length) : upS ((dnL L).take c) = (2, []) := by
  obtain ⟨out, h1, _⟩ := up_down hf hb
  exact up_cut (dn_byt hf hb) h1 hc
/-- From the j-th on none of the names is there. -/
structure NoN (L : List Int) (j : Nat) : Prop where
  eq : ∀ i, j ≤ i → i < 8 → plR L (nmF i) = 8
set_option maxRecDepth 100000 in
set_option maxHeartbeats 8000000 in
theorem walkOldSizes (a : Option Addr) (cap : Nat) (sz : List Int) (rt cut : Int) (w : World) (hg : ErrT w) (hs : Is w a cap sz) :
    Calls Tryz.prog 4 #[.slice a sz.length cap, .int .i64 rt, .int .i64 cut] w fun e w' => e = .returned (.bool true) ∧ Below w.heap.size w w' := by
  have hsl := hs.2.2.1
  have HN := hide (hNew_yes 6400 w (by decide))
  have HG := hide hg
  have HS := hide hs
  obtain ⟨d0, d1⟩ := dnN_zeros
  have HD0 : Hid (DnIs (zerosB 6400) 6) := hide ⟨d0⟩
  have HD1 := hide d1
  have HCUT := hide (fun (W : World) (k : Nat) (h : k < 8) => nmF_cut W k h)
  clear hg hs d0 d1
  generalize zerosB 6400 = Z at *
  go_enter Tryz.func4, Tryz.ntmps4
  go_wp2_with fail
  refine (unhide HN).mono ?_
  rintro e w1 ⟨p, g, c, rfl, hh1, hb1⟩
  have HH1 := hide hh1
  have HB1 := hide hb1
  clear hh1 hb1 HN
  go_wp2_with fail
  go_loopw [9, 10, 11, 12] (fun wv iv _ _ wr => ∃ (k g c : Nat) (L : List Int) (D : Int), k ≤ sz.length ∧ k < 11 ∧ wv = .int .i64 D ∧ iv = .int .i64 k ∧ Hp wr w.heap.size p g c L ∧ (∀ j, j < 8 → isRoot (rowAt L j) = false) ∧ DnIs L D ∧ 6 ≤ D ∧ D ≤ 6 + 1004 * k ∧ Below w.heap.size w wr) (fun _ iv _ _ _ => 10 - (intOf iv).toNat)
  case atStart => exact ⟨0, g, c, Z, 6, Nat.zero_le _, by omega, rfl, rfl, unhide HH1, unhide HD1, unhide HD0, by omega, by omega, unhide HB1⟩
  case round =>
    obtain ⟨k, g2, c2, L, D, hk, hk10, rfl, rfl, hh, hrow, HD, hd1, hd2, hbel⟩ := hrel
    clear HH1 HB1 HD0 HD1
    by_cases hlt : k < sz.length
    case neg =>
      have HPL : Hid (NoN L 0) := hide ⟨fun j _ hj => pl_none hh.fine (fun i hi hr => by rw [hrow i hi] at hr; cases hr)⟩
      have HH2 := hide hh
      have HB2 := hide hbel
      clear hh hrow hbel HS
      go_wp2_with fail
      go_loopw [9, 13, 14, 15] (fun wv iv _ _ wr => ∃ (j g c : Nat) (L : List Int) (D : Int), j < 9 ∧ wv = .int .i64 D ∧ iv = .int .i64 j ∧ Hp wr w.heap.size p g c L ∧ NoN L j ∧ DnIs L D ∧ 6 ≤ D ∧ D ≤ 20000 + 9 * j ∧ Below w.heap.size w wr) (fun _ iv _ _ _ => 8 - (intOf iv).toNat)
      case atStart => exact ⟨0, g2, c2, L, D, by omega, rfl, rfl, unhide HH2, unhide HPL, HD, by omega, by omega, unhide HB2⟩
      case round =>
        obtain ⟨j, g5, c5, L5, D5, hj, rfl, rfl, hh, HNO, HD5, hd51, hd52, hbel⟩ := hrel
        clear HH2 HB2 HPL HD
        by_cases hlt3 : (j : Int) < rt
        case neg =>
          have hlen := hh.len
          have hdl := dn_len hh.fine hh.byt
          have HBY := hide (hBytes_any p g5 c5 w.heap.size L5 wr hh)
          have hbyt := hh.byt
          have HDW := hide (fun (W : World) (a' : Option Addr) (c' : Nat) (hx : Bs W a' c' L5) => down_any a' c' L5 W hx)
          rw [dw_dn hh.fine, fine_E hh.fine, errV_zero] at HDW
          have HCT := hide (fun (x : Nat) (hx : x < (dnL L5).length) => dn_cut hh.fine hbyt hx)
          have hDN : ((dnL L5).length : Int) = D5 := hdl.trans HD5.eq
          have HBYT := hide hbyt
          have HB5 := hide hbel
          clear hdl hh hbel HNO HD5 hbyt
          generalize dnL L5 = DL at *
          generalize hN5 : DL.length = N5 at *
          have HN5 := hide hN5
          clear hN5
          subst hDN
          go_wp2_with fail
          refine (unhide HBY).mono ?_
          rintro e w6 ⟨a6, c6, rfl, ho6, hb6⟩
          obtain ⟨a7, c7, e7, hb7⟩ := ho6.bs (unhide HBYT) (by omega)
          simp only [Value.slice.injEq, true_and] at e7
          obtain ⟨rfl, rfl⟩ := e7
          have HB6 := hide ((unhide HB5).trans (hb6.mono (unhide HB5).size))
          have HD6 := hide (unhide HDW w6 a6 c6 hb7)
          clear ho6 hb6 hb7 HBY HB5 HDW HBYT
          go_wp2_with fail
          refine (unhide HD6).mono ?_
          rintro e w7 ⟨a8, c8, rfl, hb8, hB8⟩
          rw [unhide HN5]
          have hbl8 := hb8.2.2.1
          rw [unhide HN5] at hbl8
          have HB8 := hide hb8
          have hB7 := (unhide HB6).trans (hB8.mono (unhide HB6).size)
          have HB7 := hide hB7
          have HGE := hide ((unhide HG).below hB7)
          clear hb8 hB8 hB7 HD6 HB6 HG
          by_cases hc0 : cut < 0
          case pos =>
            go_wp2
            go_ret
            exact ⟨rfl, unhide HB7⟩
          by_cases hc1 : (N5 : Int) ≤ cut
          case pos =>
            go_wp2
            go_ret
            exact ⟨rfl, unhide HB7⟩
          obtain ⟨X, rfl⟩ := Int.eq_ofNat_of_zero_le (show 0 ≤ cut by omega)
          obtain ⟨a9, hs9, hb9⟩ := slice_hi (P := Tryz.prog) (t := 22) Tryz.underlying22 size_u8 (unhide HB8) X (by have := unhide HN5; omega)
          rw [unhide HN5] at hs9
          have hU := up_any a9 c8 (DL.take X) w7 hb9
          rw [unhide HCT X (by have := unhide HN5; omega), List.length_take, Nat.min_eq_left (by have := unhide HN5; omega)] at hU
          dsimp only at hU
          rw [errV_pos 2 (by decide)] at hU
          have HU := hide hU
          clear hU hb9 HB8 HCT
          go_wp2_with fail
          refine (unhide HU).mono ?_
          rintro e w8 ⟨a10, c10, rfl, hb10, hB10⟩
          have hE := error_same 2 w8 ((unhide HGE).below hB10)
          rw [errV_pos 2 (by decide)] at hE
          have HE := hide hE
          have HB10 := hide ((unhide HB7).trans (hB10.mono (unhide HB7).size))
          clear hE hb10 hB10 HU HB7 HGE
          go_wp2_with fail
          refine (unhide HE).mono ?_
          rintro e w9 ⟨rfl, hB11⟩
          have HB11 := hide ((unhide HB10).trans (hB11.mono (unhide HB10).size))
          clear hB11 HE HB10
          go_wp2
          go_ret
          exact ⟨rfl, unhide HB11⟩
        by_cases hlt4 : j < 8
        case neg =>
          have hlen := hh.len
          have hdl := dn_len hh.fine hh.byt
          have HBY := hide (hBytes_any p g5 c5 w.heap.size L5 wr hh)
          have hbyt := hh.byt
          have HDW := hide (fun (W : World) (a' : Option Addr) (c' : Nat) (hx : Bs W a' c' L5) => down_any a' c' L5 W hx)
          rw [dw_dn hh.fine, fine_E hh.fine, errV_zero] at HDW
          have HCT := hide (fun (x : Nat) (hx : x < (dnL L5).length) => dn_cut hh.fine hbyt hx)
          have hDN : ((dnL L5).length : Int) = D5 := hdl.trans HD5.eq
          have HBYT := hide hbyt
          have HB5 := hide hbel
          clear hdl hh hbel HNO HD5 hbyt
          generalize dnL L5 = DL at *
          generalize hN5 : DL.length = N5 at *
          have HN5 := hide hN5
          clear hN5
          subst hDN
          go_wp2_with fail
          refine (unhide HBY).mono ?_
          rintro e w6 ⟨a6, c6, rfl, ho6, hb6⟩
          obtain ⟨a7, c7, e7, hb7⟩ := ho6.bs (unhide HBYT) (by omega)
          simp only [Value.slice.injEq, true_and] at e7
          obtain ⟨rfl, rfl⟩ := e7
          have HB6 := hide ((unhide HB5).trans (hb6.mono (unhide HB5).size))
          have HD6 := hide (unhide HDW w6 a6 c6 hb7)
          clear ho6 hb6 hb7 HBY HB5 HDW HBYT
          go_wp2_with fail
          refine (unhide HD6).mono ?_
          rintro e w7 ⟨a8, c8, rfl, hb8, hB8⟩
          rw [unhide HN5]
          have hbl8 := hb8.2.2.1
          rw [unhide HN5] at hbl8
          have HB8 := hide hb8
          have hB7 := (unhide HB6).trans (hB8.mono (unhide HB6).size)
          have HB7 := hide hB7
          have HGE := hide ((unhide HG).below hB7)
          clear hb8 hB8 hB7 HD6 HB6 HG
          by_cases hc0 : cut < 0
          case pos =>
            go_wp2
            go_ret
            exact ⟨rfl, unhide HB7⟩
          by_cases hc1 : (N5 : Int) ≤ cut
          case pos =>
            go_wp2
            go_ret
            exact ⟨rfl, unhide HB7⟩
          obtain ⟨X, rfl⟩ := Int.eq_ofNat_of_zero_le (show 0 ≤ cut by omega)
          obtain ⟨a9, hs9, hb9⟩ := slice_hi (P := Tryz.prog) (t := 22) Tryz.underlying22 size_u8 (unhide HB8) X (by have := unhide HN5; omega)
          rw [unhide HN5] at hs9
          have hU := up_any a9 c8 (DL.take X) w7 hb9
          rw [unhide HCT X (by have := unhide HN5; omega), List.length_take, Nat.min_eq_left (by have := unhide HN5; omega)] at hU
          dsimp only at hU
          rw [errV_pos 2 (by decide)] at hU
          have HU := hide hU
          clear hU hb9 HB8 HCT
          go_wp2_with fail
          refine (unhide HU).mono ?_
          rintro e w8 ⟨a10, c10, rfl, hb10, hB10⟩
          have hE := error_same 2 w8 ((unhide HGE).below hB10)
          rw [errV_pos 2 (by decide)] at hE
          have HE := hide hE
          have HB10 := hide ((unhide HB7).trans (hB10.mono (unhide HB7).size))
          clear hE hb10 hB10 HU HB7 HGE
          go_wp2_with fail
          refine (unhide HE).mono ?_
          rintro e w9 ⟨rfl, hB11⟩
          have HB11 := hide ((unhide HB10).trans (hB11.mono (unhide HB10).size))
          clear hB11 HE HB10
          go_wp2
          go_ret
          exact ⟨rfl, unhide HB11⟩
        have hset := roSet_any hh hbel.size (nmF j) 1 (nmF_size j)
        have HGE := hide hh.foot_ge
        have HBEL := hide hbel
        have hcut := unhide HCUT wr j hlt4
        by_cases h0 : seE L5 (nmF j) 1 = 0
        · obtain ⟨r1, r2⟩ := se_dn hh.fine h0 (HNO.eq j (Nat.le_refl _) hlt4)
          have hsF : seF L5 (nmF j) 1 = seB L5 (nmF j) 1 := by unfold seF; rw [if_pos h0]
          rw [hsF, h0, errV_zero] at hset
          rw [HD5.eq] at r1
          have HR1 : DnIs (seB L5 (nmF j) 1) (D5 + 9) := ⟨r1⟩
          have HR2 : NoN (seB L5 (nmF j) 1) (j + 1) := ⟨fun i hi hi8 => r2 _ (nmF_ne i hi8 j hlt4 (by omega)) (HNO.eq i (by omega) hi8)⟩
          have HSET := hide hset
          clear hset r1 r2 hsF hbel hh h0 HNO HD5 HCUT
          generalize seB L5 (nmF j) 1 = L6 at *
          generalize seO L5 (nmF j) 1 = O6 at *
          generalize nmF j = NM at *
          go_wp2_with fail
          refine (unhide HSET).mono ?_
          rintro e w6 ⟨rfl, g6, c6, hh6, ht6⟩
          have HB6 := hide ((unhide HBEL).trans (ht6.below (unhide HGE) (unhide HBEL).size))
          have HH6 := hide hh6
          clear hh6 ht6 HSET HBEL HGE hcut
          go_wp2
          go_roundw
          case rel => exact ⟨j + 1, g6, c6, L6, D5 + 9, by omega, by go_num, by go_num, unhide HH6, HR2, HR1, by omega, by omega, unhide HB6⟩
          case measure => simp [intOf]; omega
        · rw [se_same h0, errV_pos _ h0] at hset
          have HR2 : NoN L5 (j + 1) := ⟨fun i hi hi8 => HNO.eq i (by omega) hi8⟩
          have HSET := hide hset
          clear hset hbel hh h0 HNO HCUT
          generalize seE L5 (nmF j) 1 = E6 at *
          generalize seO L5 (nmF j) 1 = O6 at *
          generalize nmF j = NM at *
          go_wp2_with fail
          refine (unhide HSET).mono ?_
          rintro e w6 ⟨rfl, g6, c6, hh6, ht6⟩
          have HB6 := hide ((unhide HBEL).trans (ht6.below (unhide HGE) (unhide HBEL).size))
          have HH6 := hide hh6
          clear hh6 ht6 HSET HBEL HGE hcut
          go_wp2
          go_roundw
          case rel => exact ⟨j + 1, g6, c6, L5, D5, by omega, rfl, by go_num, unhide HH6, HR2, HD5, by omega, by omega, unhide HB6⟩
          case measure => simp [intOf]; omega
    by_cases hlt2 : k < 10
    case neg =>
      have HPL : Hid (NoN L 0) := hide ⟨fun j _ hj => pl_none hh.fine (fun i hi hr => by rw [hrow i hi] at hr; cases hr)⟩
      have HH2 := hide hh
      have HB2 := hide hbel
      clear hh hrow hbel HS
      go_wp2_with fail
      go_loopw [9, 13, 14, 15] (fun wv iv _ _ wr => ∃ (j g c : Nat) (L : List Int) (D : Int), j < 9 ∧ wv = .int .i64 D ∧ iv = .int .i64 j ∧ Hp wr w.heap.size p g c L ∧ NoN L j ∧ DnIs L D ∧ 6 ≤ D ∧ D ≤ 20000 + 9 * j ∧ Below w.heap.size w wr) (fun _ iv _ _ _ => 8 - (intOf iv).toNat)
      case atStart => exact ⟨0, g2, c2, L, D, by omega, rfl, rfl, unhide HH2, unhide HPL, HD, by omega, by omega, unhide HB2⟩
      case round =>
        obtain ⟨j, g5, c5, L5, D5, hj, rfl, rfl, hh, HNO, HD5, hd51, hd52, hbel⟩ := hrel
        clear HH2 HB2 HPL HD
        by_cases hlt3 : (j : Int) < rt
        case neg =>
          have hlen := hh.len
          have hdl := dn_len hh.fine hh.byt
          have HBY := hide (hBytes_any p g5 c5 w.heap.size L5 wr hh)
          have hbyt := hh.byt
          have HDW := hide (fun (W : World) (a' : Option Addr) (c' : Nat) (hx : Bs W a' c' L5) => down_any a' c' L5 W hx)
          rw [dw_dn hh.fine, fine_E hh.fine, errV_zero] at HDW
          have HCT := hide (fun (x : Nat) (hx : x < (dnL L5).length) => dn_cut hh.fine hbyt hx)
          have hDN : ((dnL L5).length : Int) = D5 := hdl.trans HD5.eq
          have HBYT := hide hbyt
          have HB5 := hide hbel
          clear hdl hh hbel HNO HD5 hbyt
          generalize dnL L5 = DL at *
          generalize hN5 : DL.length = N5 at *
          have HN5 := hide hN5
          clear hN5
          subst hDN
          go_wp2_with fail
          refine (unhide HBY).mono ?_
          rintro e w6 ⟨a6, c6, rfl, ho6, hb6⟩
          obtain ⟨a7, c7, e7, hb7⟩ := ho6.bs (unhide HBYT) (by omega)
          simp only [Value.slice.injEq, true_and] at e7
          obtain ⟨rfl, rfl⟩ := e7
          have HB6 := hide ((unhide HB5).trans (hb6.mono (unhide HB5).size))
          have HD6 := hide (unhide HDW w6 a6 c6 hb7)
          clear ho6 hb6 hb7 HBY HB5 HDW HBYT
          go_wp2_with fail
          refine (unhide HD6).mono ?_
          rintro e w7 ⟨a8, c8, rfl, hb8, hB8⟩
          rw [unhide HN5]
          have hbl8 := hb8.2.2.1
          rw [unhide HN5] at hbl8
          have HB8 := hide hb8
          have hB7 := (unhide HB6).trans (hB8.mono (unhide HB6).size)
          have HB7 := hide hB7
          have HGE := hide ((unhide HG).below hB7)
          clear hb8 hB8 hB7 HD6 HB6 HG
          by_cases hc0 : cut < 0
          case pos =>
            go_wp2
            go_ret
            exact ⟨rfl, unhide HB7⟩
          by_cases hc1 : (N5 : Int) ≤ cut
          case pos =>
            go_wp2
            go_ret
            exact ⟨rfl, unhide HB7⟩
          obtain ⟨X, rfl⟩ := Int.eq_ofNat_of_zero_le (show 0 ≤ cut by omega)
          obtain ⟨a9, hs9, hb9⟩ := slice_hi (P := Tryz.prog) (t := 22) Tryz.underlying22 size_u8 (unhide HB8) X (by have := unhide HN5; omega)
          rw [unhide HN5] at hs9
          have hU := up_any a9 c8 (DL.take X) w7 hb9
          rw [unhide HCT X (by have := unhide HN5; omega), List.length_take, Nat.min_eq_left (by have := unhide HN5; omega)] at hU
          dsimp only at hU
          rw [errV_pos 2 (by decide)] at hU
          have HU := hide hU
          clear hU hb9 HB8 HCT
          go_wp2_with fail
          refine (unhide HU).mono ?_
          rintro e w8 ⟨a10, c10, rfl, hb10, hB10⟩
          have hE := error_same 2 w8 ((unhide HGE).below hB10)
          rw [errV_pos 2 (by decide)] at hE
          have HE := hide hE
          have HB10 := hide ((unhide HB7).trans (hB10.mono (unhide HB7).size))
          clear hE hb10 hB10 HU HB7 HGE
          go_wp2_with fail
          refine (unhide HE).mono ?_
          rintro e w9 ⟨rfl, hB11⟩
          have HB11 := hide ((unhide HB10).trans (hB11.mono (unhide HB10).size))
          clear hB11 HE HB10
          go_wp2
          go_ret
          exact ⟨rfl, unhide HB11⟩
        by_cases hlt4 : j < 8
        case neg =>
          have hlen := hh.len
          have hdl := dn_len hh.fine hh.byt
          have HBY := hide (hBytes_any p g5 c5 w.heap.size L5 wr hh)
          have hbyt := hh.byt
          have HDW := hide (fun (W : World) (a' : Option Addr) (c' : Nat) (hx : Bs W a' c' L5) => down_any a' c' L5 W hx)
          rw [dw_dn hh.fine, fine_E hh.fine, errV_zero] at HDW
          have HCT := hide (fun (x : Nat) (hx : x < (dnL L5).length) => dn_cut hh.fine hbyt hx)
          have hDN : ((dnL L5).length : Int) = D5 := hdl.trans HD5.eq
          have HBYT := hide hbyt
          have HB5 := hide hbel
          clear hdl hh hbel HNO HD5 hbyt
          generalize dnL L5 = DL at *
          generalize hN5 : DL.length = N5 at *
          have HN5 := hide hN5
          clear hN5
          subst hDN
          go_wp2_with fail
          refine (unhide HBY).mono ?_
          rintro e w6 ⟨a6, c6, rfl, ho6, hb6⟩
          obtain ⟨a7, c7, e7, hb7⟩ := ho6.bs (unhide HBYT) (by omega)
          simp only [Value.slice.injEq, true_and] at e7
          obtain ⟨rfl, rfl⟩ := e7
          have HB6 := hide ((unhide HB5).trans (hb6.mono (unhide HB5).size))
          have HD6 := hide (unhide HDW w6 a6 c6 hb7)
          clear ho6 hb6 hb7 HBY HB5 HDW HBYT
          go_wp2_with fail
          refine (unhide HD6).mono ?_
          rintro e w7 ⟨a8, c8, rfl, hb8, hB8⟩
          rw [unhide HN5]
          have hbl8 := hb8.2.2.1
          rw [unhide HN5] at hbl8
          have HB8 := hide hb8
          have hB7 := (unhide HB6).trans (hB8.mono (unhide HB6).size)
          have HB7 := hide hB7
          have HGE := hide ((unhide HG).below hB7)
          clear hb8 hB8 hB7 HD6 HB6 HG
          by_cases hc0 : cut < 0
          case pos =>
            go_wp2
            go_ret
            exact ⟨rfl, unhide HB7⟩
          by_cases hc1 : (N5 : Int) ≤ cut
          case pos =>
            go_wp2
            go_ret
            exact ⟨rfl, unhide HB7⟩
          obtain ⟨X, rfl⟩ := Int.eq_ofNat_of_zero_le (show 0 ≤ cut by omega)
          obtain ⟨a9, hs9, hb9⟩ := slice_hi (P := Tryz.prog) (t := 22) Tryz.underlying22 size_u8 (unhide HB8) X (by have := unhide HN5; omega)
          rw [unhide HN5] at hs9
          have hU := up_any a9 c8 (DL.take X) w7 hb9
          rw [unhide HCT X (by have := unhide HN5; omega), List.length_take, Nat.min_eq_left (by have := unhide HN5; omega)] at hU
          dsimp only at hU
          rw [errV_pos 2 (by decide)] at hU
          have HU := hide hU
          clear hU hb9 HB8 HCT
          go_wp2_with fail
          refine (unhide HU).mono ?_
          rintro e w8 ⟨a10, c10, rfl, hb10, hB10⟩
          have hE := error_same 2 w8 ((unhide HGE).below hB10)
          rw [errV_pos 2 (by decide)] at hE
          have HE := hide hE
          have HB10 := hide ((unhide HB7).trans (hB10.mono (unhide HB7).size))
          clear hE hb10 hB10 HU HB7 HGE
          go_wp2_with fail
          refine (unhide HE).mono ?_
          rintro e w9 ⟨rfl, hB11⟩
          have HB11 := hide ((unhide HB10).trans (hB11.mono (unhide HB10).size))
          clear hB11 HE HB10
          go_wp2
          go_ret
          exact ⟨rfl, unhide HB11⟩
        have hset := roSet_any hh hbel.size (nmF j) 1 (nmF_size j)
        have HGE := hide hh.foot_ge
        have HBEL := hide hbel
        have hcut := unhide HCUT wr j hlt4
        by_cases h0 : seE L5 (nmF j) 1 = 0
        · obtain ⟨r1, r2⟩ := se_dn hh.fine h0 (HNO.eq j (Nat.le_refl _) hlt4)
          have hsF : seF L5 (nmF j) 1 = seB L5 (nmF j) 1 := by unfold seF; rw [if_pos h0]
          rw [hsF, h0, errV_zero] at hset
          rw [HD5.eq] at r1
          have HR1 : DnIs (seB L5 (nmF j) 1) (D5 + 9) := ⟨r1⟩
          have HR2 : NoN (seB L5 (nmF j) 1) (j + 1) := ⟨fun i hi hi8 => r2 _ (nmF_ne i hi8 j hlt4 (by omega)) (HNO.eq i (by omega) hi8)⟩
          have HSET := hide hset
          clear hset r1 r2 hsF hbel hh h0 HNO HD5 HCUT
          generalize seB L5 (nmF j) 1 = L6 at *
          generalize seO L5 (nmF j) 1 = O6 at *
          generalize nmF j = NM at *
          go_wp2_with fail
          refine (unhide HSET).mono ?_
          rintro e w6 ⟨rfl, g6, c6, hh6, ht6⟩
          have HB6 := hide ((unhide HBEL).trans (ht6.below (unhide HGE) (unhide HBEL).size))
          have HH6 := hide hh6
          clear hh6 ht6 HSET HBEL HGE hcut
          go_wp2
          go_roundw
          case rel => exact ⟨j + 1, g6, c6, L6, D5 + 9, by omega, by go_num, by go_num, unhide HH6, HR2, HR1, by omega, by omega, unhide HB6⟩
          case measure => simp [intOf]; omega
        · rw [se_same h0, errV_pos _ h0] at hset
          have HR2 : NoN L5 (j + 1) := ⟨fun i hi hi8 => HNO.eq i (by omega) hi8⟩
          have HSET := hide hset
          clear hset hbel hh h0 HNO HCUT
          generalize seE L5 (nmF j) 1 = E6 at *
          generalize seO L5 (nmF j) 1 = O6 at *
          generalize nmF j = NM at *
          go_wp2_with fail
          refine (unhide HSET).mono ?_
          rintro e w6 ⟨rfl, g6, c6, hh6, ht6⟩
          have HB6 := hide ((unhide HBEL).trans (ht6.below (unhide HGE) (unhide HBEL).size))
          have HH6 := hide hh6
          clear hh6 ht6 HSET HBEL HGE hcut
          go_wp2
          go_roundw
          case rel => exact ⟨j + 1, g6, c6, L5, D5, by omega, rfl, by go_num, unhide HH6, HR2, HD5, by omega, by omega, unhide HB6⟩
          case measure => simp [intOf]; omega
    have hne : sz ≠ [] := by intro e; rw [e] at hlt; simp at hlt
    obtain ⟨b1, o1, rfl, hc0⟩ := (unhide HS).2.2.2 hne
    have hz0 := hc0 k hlt
    have hz := (hbel.cell (p := ⟨b1, o1 + k, none⟩) (block_lt_of_cell hz0)).trans hz0
    have hzb := (unhide HS).1 (sz.getD k 0) (by
      have : sz[k]? = some sz[k] := List.getElem?_eq_getElem hlt
      rw [List.getD, this]
      exact List.getElem_mem hlt)
    generalize sz.getD k 0 = n at *
    have HZ0 := hide hz0
    clear hz0
    have hal := hAlloc_any p g2 c2 w.heap.size L n k wr hh hbel.size
    have HGE := hide hh.foot_ge
    have HBEL := hide hbel
    by_cases h0 : alE L n k = 0
    · obtain ⟨r1, r2, r3, r4⟩ := al_dn hh.fine h0
      rw [h0, errV_zero] at hal
      have HAL := hide hal
      rw [HD.eq] at r1
      have HR1 : DnIs (alB L n k) (D + 4 + n) := ⟨r1⟩
      have HROW : Hid (∀ j, j < 8 → isRoot (rowAt (alB L n k) j) = false) := hide (fun j hj => by rw [r4 j hj]; exact hrow j hj)
      clear hal r1 r4 hrow hbel hh h0 hc0 hne
      generalize alB L n k = L2 at *
      generalize alH L n k = H at *
      go_wp2_with fail
      refine (unhide HAL).mono ?_
      rintro e w2 ⟨rfl, g3, c3, hh3, ht3⟩
      have HB2 := hide ((unhide HBEL).trans (ht3.below (unhide HGE) (unhide HBEL).size))
      have hz2 : w2.cell? ⟨b1, o1 + k, none⟩ = some (.int .i64 n) := ((unhide HB2).cell (p := ⟨b1, o1 + k, none⟩) (block_lt_of_cell (unhide HZ0))).trans (unhide HZ0)
      have HH2 := hide hh3
      clear hh3 ht3 HAL HBEL HGE
      go_wp2
      go_roundw
      case rel => exact ⟨k + 1, g3, c3, L2, D + 4 + n, by omega, by omega, by go_num, by go_num, unhide HH2, unhide HROW, HR1, by omega, by omega, unhide HB2⟩
      case measure => simp [intOf]; omega
    · rw [al_same h0, errV_pos _ h0] at hal
      have HAL := hide hal
      have HROW := hide hrow
      clear hal hrow hbel hh h0 hc0 hne
      generalize alE L n k = E at *
      generalize alH L n k = H at *
      go_wp2_with fail
      refine (unhide HAL).mono ?_
      rintro e w2 ⟨rfl, g3, c3, hh3, ht3⟩
      have HB2 := hide ((unhide HBEL).trans (ht3.below (unhide HGE) (unhide HBEL).size))
      have HH2 := hide hh3
      clear hh3 ht3 HAL HBEL HGE
      go_wp2
      go_roundw
      case rel => exact ⟨k + 1, g3, c3, L, D, by omega, by omega, rfl, by go_num, unhide HH2, unhide HROW, HD, by omega, by omega, unhide HB2⟩
      case measure => simp [intOf]; omega
end Go.Proofs.YtllpeknpplpgeaaGreatDoor
