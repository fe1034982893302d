/-
  The walk of OldBack. (Part of the proof of OldBack.)
-/
import Derived.Test.YtllpeknpplpgeaaGreatJOl
import Derived.Test.YtllpeknpplpgeaaGreatJOm
import Derived.Test.YtllpeknpplpgeaaGreatJHp
import Derived.Test.YtllpeknpplpgeaaGreatJRc
import Derived.Test.YtllpeknpplpgeaaGreatJCk
namespace Go.Proofs.YtllpeknpplpgeaaGreat
open Go.RowKit
set_option linter.unusedVariables false

theorem ldL_byt {L : List Int} (h : Byt L) : Byt (ldL L) := by
  unfold ldL
  split
  · exact byt_mendL h
  · exact byt_zerosB _
theorem fine_E {L : List Int} (hf : Fine L) : fineE L = 0 := by unfold fineE; rw [if_neg (by rw [hf.len0]; simp), if_pos hf.ok]
theorem dw_dn {L : List Int} (hf : Fine L) : dwL L = dnL L := by unfold dwL; rw [if_pos (fine_E hf)]
set_option maxRecDepth 100000 in
set_option maxHeartbeats 8000000 in
theorem walkOldBack (a : Option Addr) (cap : Nat) (b : List Int) (ao : Option Addr) (co : Nat) (o : List Int) (w : World) (hb : Bs w a cap b) (ho : Bs w ao co o) :
    Calls Tryz.prog 3 #[.slice a b.length cap, .slice ao o.length co] w fun e w' => e = .returned (.bool true) ∧ Below w.heap.size w w' := by
  have hbl := hb.2.2.1
  have hol := ho.2.2.1
  obtain ⟨F, f1, f2, f3, f4, f5, f6⟩ := fact_up
  have hB0 : Below w.heap.size w (w.alloc (.cells #[.int .u8 79, .int .u8 76, .int .u8 68, .int .u8 49, .int .u8 1, .int .u8 5, .int .u8 2, .int .u8 1, .int .u8 0, .int .u8 9, .int .u8 0] 5)) := (Below.refl _ _).alloc (Nat.le_refl _) _
  have HU0 := hide (up_any (some ⟨w.heap.size, 0, none⟩) 11 [79, 76, 68, 49, 1, 5, 2, 1, 0, 9, 0] _ (Blk.bs (l := [79, 76, 68, 49, 1, 5, 2, 1, 0, 9, 0]) (heap_alloc_new w (.cells #[.int .u8 79, .int .u8 76, .int .u8 68, .int .u8 49, .int .u8 1, .int .u8 5, .int .u8 2, .int .u8 1, .int .u8 0, .int .u8 9, .int .u8 0] 5)) (fun z hz => by simp at hz; omega) (by decide)))
  rw [f1] at HU0
  dsimp only at HU0
  rw [show errV 0 = .nilIface from rfl] at HU0
  have HG := hide (fun (W : World) (a' : Option Addr) (c' : Nat) (hx : Bs W a' c' F) => iGet_any a' c' F 5 W hx)
  have hge : getE F 5 = entOf F 5 := by unfold getE; rw [if_pos f3]
  rw [f3, hge, f2, show errV 0 = .nilIface from rfl] at HG
  unfold entV at HG
  rw [f4] at HG
  have HF9 := hide f5
  have hM := ldL_fine b
  obtain ⟨U, u1, u2, u3, u4, u5, u6⟩ := up_down hM (ldL_byt hb.1)
  have HDM := hide (fun (W : World) (a' : Option Addr) (c' : Nat) (hx : Bs W a' c' (ldL b)) => down_any a' c' (ldL b) W hx)
  rw [dw_dn hM, fine_E hM, show errV 0 = .nilIface from rfl] at HDM
  have hv1 : verL (dnL (ldL b)) = 1 := by unfold verL; rw [if_pos (ver_dn _)]
  have HVD := hide (fun (W : World) (a' : Option Addr) (c' : Nat) (hx : Bs W a' c' (dnL (ldL b))) => version_any a' c' (dnL (ldL b)) W hx)
  rw [hv1] at HVD
  have HUD := hide (fun (W : World) (a' : Option Addr) (c' : Nat) (hx : Bs W a' c' (dnL (ldL b))) => up_any a' c' (dnL (ldL b)) W hx)
  rw [u1] at HUD
  dsimp only at HUD
  rw [show errV 0 = .nilIface from rfl] at HUD
  have hMl := hM.len
  have HOM := hide (fun (W : World) (a' : Option Addr) (c' : Nat) (k : Int) (k1 : 1 ≤ k) (k2 : k ≤ 40) (hx : Bs W a' c' (ldL b)) => rObject_any a' c' (ldL b) k W hx hMl.1 k1 k2 (fun ht => right_in hM.ok k1 k2 ht))
  have HOU := hide (fun (W : World) (a' : Option Addr) (c' : Nat) (k : Int) (k1 : 1 ≤ k) (k2 : k ≤ 40) (hx : Bs W a' c' U) => (show Calls Tryz.prog 9 #[.slice a' U.length c', .int .i64 k] W fun e w' => e = .returned (.tuple #[.int .i64 (objOf (ldL b) k).1, .string (strOf (objOf (ldL b) k).2)]) ∧ Below W.heap.size W w' by
    have := rObject_any a' c' U k W hx (by omega) k1 k2 (fun ht => right_in u2.ok k1 k2 ht)
    rw [u5 k k1 k2] at this
    exact this))
  have HRM := hide (fun (W : World) (a' : Option Addr) (c' : Nat) (hx : Bs W a' c' (ldL b)) => rRoots_any a' c' (ldL b) W hx hMl.1 hMl.2)
  have HRU := hide (fun (W : World) (a' : Option Addr) (c' : Nat) (hx : Bs W a' c' U) => rRoots_any a' c' U W hx (by omega) (by omega))
  rw [u6] at HRU
  have hr8 := rootsK_len (ldL b) 8
  have HRS := hide (fun (W : World) (x1 x2 : Option Addr) (y1 y2 : Nat) h1 h2 => rosame_any x1 x2 y1 y2 (rootsK (ldL b) 8) W h1 h2)
  rw [u4] at HOU HRU
  have HU4 := hide u4
  have HUO := hide (fun (W : World) (hx : Bs W ao co o) => up_any ao co o W hx)
  have HYF := hide (fun Y (hx : upS o = (0, Y)) => up_fine ho.1 hx)
  clear u1 u2 u3 u5 u6 hv1 u4
  have HLD := hide (fun (W : World) (hx : Bs W a cap b) => loaded_any a cap b W hx)
  have HB := hide hb
  have HO := hide ho
  have HB0 := hide hB0
  have HF2 := hide f2
  generalize (entOf F 5).1 = E1 at *
  generalize (entOf F 5).2.1 = E2 at *
  generalize (entOf F 5).2.2.1 = E3 at *
  clear hb ho hB0 f1 f3 f4 f5 f6 hge f2
  go_enter Tryz.func3, Tryz.ntmps3
  go_wp2_with fail
  refine (unhide HU0).mono ?_
  rintro e w1 ⟨a1, c1, rfl, hb1, hB1⟩
  rw [unhide HF2]
  have HB1 := hide ((unhide HB0).trans (hB1.mono (unhide HB0).size))
  have HBF := hide hb1
  have HG1 := hide (unhide HG w1 a1 c1 hb1)
  clear hb1 hB1 HU0 HG HB0
  go_wp2_with fail
  refine (unhide HG1).mono ?_
  rintro e w2 ⟨rfl, hB2⟩
  have hba : Below w2.heap.size w2 (w2.alloc (.cells #[.int .i64 E1, .int .i64 E2, .int .i64 E3, .int .i64 2] 30)) := (Below.refl _ _).alloc (Nat.le_refl _) _
  have hB2a := hB2.trans (hba.mono hB2.size)
  have hbf := (unhide HBF).below hB2a
  obtain ⟨bf, of, rfl, hcf⟩ := hbf.at 288 (by rw [unhide HF2]; omega)
  rw [unhide HF9] at hcf
  have hB2' := (unhide HB1).trans (hB2a.mono (unhide HB1).size)
  have HB2 := hide hB2'
  have HL2 := hide (unhide HLD _ ((unhide HB).below hB2'))
  clear hB2 hba hB2a hbf hB2' HG1 HBF HB1 HLD
  go_wp2_with fail
  refine (unhide HL2).mono ?_
  rintro e w3 ⟨p3, g3, c3, am, cm, rfl, hh3, hm3, hB3⟩
  have hB3' := (unhide HB2).trans (hB3.mono (unhide HB2).size)
  have HM3 := hide hm3
  have HB3 := hide hB3'
  have HD3 := hide (unhide HDM w3 am cm hm3)
  clear hh3 hm3 hB3 hB3' HL2 HDM HB2 hcf
  go_wp2_with fail
  refine (unhide HD3).mono ?_
  rintro e w4 ⟨ad, cd, rfl, hd4, hB4⟩
  have HM4 := hide ((unhide HM3).below hB4)
  have HB4 := hide ((unhide HB3).trans (hB4.mono (unhide HB3).size))
  have HD4 := hide hd4
  have HV4 := hide (unhide HVD w4 ad cd hd4)
  clear hd4 hB4 HD3 HVD HM3 HB3
  go_wp2_with fail
  refine (unhide HV4).mono ?_
  rintro e w5 ⟨rfl, hB5⟩
  have HM5 := hide ((unhide HM4).below hB5)
  have HB5 := hide ((unhide HB4).trans (hB5.mono (unhide HB4).size))
  have HU5 := hide (unhide HUD w5 ad cd ((unhide HD4).below hB5))
  clear hB5 HV4 HM4 HB4 HD4 HUD
  go_wp2_with fail
  refine (unhide HU5).mono ?_
  rintro e w6 ⟨au, cu, rfl, hu6, hB6⟩
  rw [unhide HU4]
  have HM6 := hide ((unhide HM5).below hB6)
  have HB6 := hide ((unhide HB5).trans (hB6.mono (unhide HB5).size))
  have HU6 := hide hu6
  clear hu6 hB6 HU5 HM5 HB5
  go_wp2_with fail
  go_loopw [14, 15, 16, 17, 18] (fun iv _ _ _ _ wr => ∃ k : Nat, 1 ≤ k ∧ k ≤ 41 ∧ iv = .int .i64 k ∧ Below w6.heap.size w6 wr) (fun iv _ _ _ _ _ => 41 - (intOf iv).toNat)
  case atStart => exact ⟨1, by omega, by omega, rfl, Below.refl _ _⟩
  case round =>
    obtain ⟨k, hk1, hk2, rfl, hbel⟩ := hrel
    by_cases hlt : k ≤ 40
    · have HC1 := hide (unhide HOM wr am cm (k : Int) (by omega) (by omega) ((unhide HM6).below hbel))
      have HC2 := hide (fun (W : World) hx => unhide HOU W au cu (k : Int) (by omega) (by omega) (((unhide HU6).below hbel).below hx))
      have HBL := hide hbel
      generalize (objOf (ldL b) k).1 = X1 at *
      generalize strOf (objOf (ldL b) k).2 = X2 at *
      clear hbel
      go_wp2_with fail
      refine (unhide HC1).mono ?_
      rintro e w7 ⟨rfl, hB7⟩
      have HC3 := hide (unhide HC2 w7 hB7)
      have HB7 := hide ((unhide HBL).trans (hB7.mono (unhide HBL).size))
      clear hB7 HC1 HC2 HBL
      go_wp2_with fail
      refine (unhide HC3).mono ?_
      rintro e w8 ⟨rfl, hB8⟩
      have HB8 := hide ((unhide HB7).trans (hB8.mono (unhide HB7).size))
      clear hB8 HC3 HB7
      go_wp2
      go_roundw
      case rel => exact ⟨k + 1, by omega, by omega, by go_num, unhide HB8⟩
      case measure => simp [intOf]; omega
    · obtain rfl : k = 41 := by omega
      have HM7 := hide ((unhide HM6).below hbel)
      have HB7 := hide ((unhide HB6).trans (hbel.mono (unhide HB6).size))
      have HR7 := hide (unhide HRU wr au cu ((unhide HU6).below hbel))
      clear hbel hlt hk1 hk2 HOM HOU HM6 HU6 HB6 HRU
      generalize rootsK (ldL b) 8 = RR at *
      go_wp2_with fail
      refine (unhide HR7).mono ?_
      rintro e w8 ⟨v8, rfl, hL8, hB8⟩
      have HM8 := hide (unhide HRM w8 am cm ((unhide HM7).below hB8))
      have HB8 := hide ((unhide HB7).trans (hB8.mono (unhide HB7).size))
      have HL8 := hide hL8
      clear hL8 hB8 HR7 HM7 HB7 HRM
      go_wp2_with fail
      refine (unhide HM8).mono ?_
      rintro e w9 ⟨v9, rfl, hL9, hB9⟩
      obtain ⟨x1, y1, rfl, hs1⟩ := ((unhide HL8).below hB9).sls roC_len (by omega)
      obtain ⟨x2, y2, rfl, hs2⟩ := hL9.sls roC_len (by omega)
      have HS := hide (unhide HRS w9 x1 x2 y1 y2 hs1 hs2)
      have HB9 := hide ((unhide HB8).trans (hB9.mono (unhide HB8).size))
      clear hL9 hB9 hs1 hs2 HM8 HL8 HB8 HRS
      go_wp2_with fail
      refine (unhide HS).mono ?_
      rintro e w10 ⟨rfl, hB10⟩
      have hB10' := (unhide HB9).trans (hB10.mono (unhide HB9).size)
      have HB10 := hide hB10'
      have HU10 := hide (unhide HUO w10 ((unhide HO).below hB10'))
      clear hB10 hB10' HS HB9 HUO
      by_cases h0 : (upS o).1 = 0
      case neg =>
        rw [errV_pos _ h0] at HU10
        generalize (upS o).1 = X at *
        generalize (upS o).2 = Y at *
        go_wp2_with fail
        refine (unhide HU10).mono ?_
        rintro e w11 ⟨ay, cy, rfl, hy11, hB11⟩
        have HB11 := hide ((unhide HB10).trans (hB11.mono (unhide HB10).size))
        clear hy11 hB11 HU10 HB10
        go_wp2
        go_ret
        exact ⟨rfl, unhide HB11⟩
      obtain ⟨y1, y2, y3, y4⟩ := unhide HYF (upS o).2 (Prod.ext h0 rfl)
      rw [h0, show errV 0 = .nilIface from rfl] at HU10
      clear HYF h0
      generalize (upS o).2 = Y at *
      obtain ⟨Z, z1, z2, z3, z4, z5, z6⟩ := up_down y1 y2
      have HDY := hide (fun (W : World) (a' : Option Addr) (c' : Nat) (hx : Bs W a' c' Y) => down_any a' c' Y W hx)
      rw [dw_dn y1, fine_E y1, show errV 0 = .nilIface from rfl] at HDY
      have HUY := hide (fun (W : World) (a' : Option Addr) (c' : Nat) (hx : Bs W a' c' (dnL Y)) => up_any a' c' (dnL Y) W hx)
      rw [z1] at HUY
      dsimp only at HUY
      rw [show errV 0 = .nilIface from rfl] at HUY
      obtain ⟨s1, s2⟩ := same_of y1 z2 z5 z6
      have HSM := hide (fun (W : World) (p1 p2 : Option Addr) (q1 q2 : Nat) h1 h2 => same_any p1 p2 q1 q2 Y Z W h1 h2)
      rw [s1, s2, show errV 0 = .nilIface from rfl] at HSM
      rw [y4] at HUY
      have HY4 := hide y4
      clear y1 y2 y3 y4 z1 z2 z3 z4 z5 z6 s1 s2
      generalize dnL Y = DY at *
      go_wp2_with fail
      refine (unhide HU10).mono ?_
      rintro e w11 ⟨ay, cy, rfl, hy11, hB11⟩
      have HY11 := hide hy11
      have HB11 := hide ((unhide HB10).trans (hB11.mono (unhide HB10).size))
      have HC11 := hide (unhide HDY w11 ay cy hy11)
      clear hy11 hB11 HU10 HB10 HDY
      go_wp2_with fail
      refine (unhide HC11).mono ?_
      rintro e w12 ⟨az, cz, rfl, hz12, hB12⟩
      rw [unhide HY4]
      have HY12 := hide ((unhide HY11).below hB12)
      have HB12 := hide ((unhide HB11).trans (hB12.mono (unhide HB11).size))
      have HC12 := hide (unhide HUY w12 az cz hz12)
      clear hz12 hB12 HC11 HY11 HB11 HUY
      go_wp2_with fail
      refine (unhide HC12).mono ?_
      rintro e w13 ⟨aq, cq, rfl, hq13, hB13⟩
      have HB13 := hide ((unhide HB12).trans (hB13.mono (unhide HB12).size))
      have HC13 := hide (unhide HSM w13 ay aq cy cq ((unhide HY12).below hB13) hq13)
      clear hq13 hB13 HC12 HY12 HB12 HSM
      go_wp2_with fail
      refine (unhide HC13).mono ?_
      rintro e w14 ⟨rfl, hB14⟩
      have HB14 := hide ((unhide HB13).trans (hB14.mono (unhide HB13).size))
      clear hB14 HC13 HB13
      go_wp2
      go_ret
      exact ⟨rfl, unhide HB14⟩
end Go.Proofs.YtllpeknpplpgeaaGreat
