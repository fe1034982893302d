/-
  The walk of StoreSafe. (Part of the proof of StoreSafe.)
-/
import Derived.Test.YtmmgadnicodakaaGreatJSs
import Derived.Test.YtmmgadnicodakaaGreatJOi
import Derived.Test.YtmmgadnicodakaaGreatJPo
import Derived.Deep.CutRange
namespace Go.Proofs.YtmmgadnicodakaaGreat
open Go.RowKit
set_option linter.unusedVariables false
def SsR (w wr : World) (p m n : Nat) (sv kv nv : Value) (b : Int) : Prop := ∃ t x, sv = .pointer (some ⟨t, 0, none⟩) ∧ SsHd w wr t p x m n kv nv b
theorem asd_conv {w : World} {F : Nat → Prop} {m : Nat} {kv nv : Value} {K N : List Int} (h : Asd w F m kv nv K N) :
  (convert 31 9 kv).run Tryz.prog w = .ok (.string (strOf K)) w ∧ (convert 31 9 nv).run Tryz.prog w = .ok (.string (strOf N)) w := by
 obtain ⟨⟨ak, ck, rfl, h2⟩, ⟨an, cn, rfl, h4⟩, h5, h6⟩ := h
 rw [← h5]
 refine ⟨conv_str Tryz.underlying31 Tryz.underlying5 Tryz.underlying9 h2.1, ?_⟩
 rw [h5, ← h6]
 exact conv_str Tryz.underlying31 Tryz.underlying5 Tryz.underlying9 h4.1
set_option maxRecDepth 100000 in
set_option maxHeartbeats 8000000 in
theorem walkStoreSafe (n : Int) (a1 : Option Addr) (cap1 : Nat) (ops : List OpR) (a2 : Option Addr) (cap2 : Nat) (fails : List Int) (a3 : Option Addr) (cap3 : Nat) (keep : List Bool) (torn cut : Int) (w : World) (hn : -9223372036854775808 ≤ n ∧ n ≤ 9223372036854775807) (ho : Ops w a1 cap1 ops) (hf : Is w a2 cap2 fails) (hk : Bls w a3 cap3 keep) (ht : -9223372036854775808 ≤ torn ∧ torn ≤ 9223372036854775807) (hc : -9223372036854775808 ≤ cut ∧ cut ≤ 9223372036854775807) :
  Calls Tryz.prog 5 #[.int .i64 n, .slice a1 ops.length cap1, .slice a2 fails.length cap2, .slice a3 keep.length cap3, .int .i64 torn, .int .i64 cut] w fun e w' => e = .returned (.bool true) ∧ Below w.heap.size w w' := by
 have hol := ho.1.2.2.1
 have hfl := hf.2.2.1
 have hkl := hk.2.1
 have HO := hide ho
 have HF := hide hf
 have HK := hide hk
 clear ho hf hk
 by_cases hr : n < 1 ∨ 300 < n
 ·have HN := hide (new_no n w hr)
  rw [errV_pos 1 (by decide)] at HN
  clear hr
  go_enter Tryz.func5, Tryz.ntmps5
  go_wp2_with fail
  refine (unhide HN).mono ?_
  rintro e w1 ⟨rfl, rfl⟩
  clear HN
  go_wp2
  go_ret
  exact ⟨rfl, Below.refl _ _⟩
 obtain ⟨N, rfl⟩ := Int.eq_ofNat_of_zero_le (show 0 ≤ n by omega)
 have HN := hide (new_live N w w (Below.refl _ _) (by omega) (by omega))
 by_cases h57 : N < 57
 ·have e57 : (N : Int) < 57 := by omega
  clear hr
  go_enter Tryz.func5, Tryz.ntmps5
  go_wp2_with fail
  refine (unhide HN).mono ?_
  rintro e w1 ⟨p, S, rfl, hl, _, hb⟩
  have HB := hide hb
  clear hl hb HN
  go_wp2
  go_ret
  exact ⟨rfl, unhide HB⟩
 obtain ⟨m, hm, hm9, hm2, hm3⟩ : ∃ m : Nat, cntI N = m ∧ 9 ≤ m ∧ m ≤ 200 ∧ 48 + m ≤ N := by
  refine ⟨(cntI N).toNat, ?_⟩
  unfold cntI
  split <;> omega
 have h300 : N ≤ 300 := by omega
 have h57' : 57 ≤ N := by omega
 have e57 : (57 : Int) ≤ (N : Int) := by omega
 have HC := hide (fun (W : World) (q : Nat) (S : Nat → Prop) (hl : Live w W q S (DS.new N)) => tf_create hl h57' h300 hm)
 obtain ⟨u1, _, u3⟩ := cr_up h57' h300 hm
 have HU := hide u1
 have HM := hide hm
 clear hr h57 h57' h300 u1 hm
 go_enter Tryz.func5, Tryz.ntmps5
 go_wp2_with fail
 refine (unhide HN).mono ?_
 rintro e w1 ⟨p, S, rfl, hl, _, _⟩
 have HC1 := hide (unhide HC w1 p S hl)
 clear hl HN HC
 go_wp2_with fail
 refine (unhide HC1).mono ?_
 rintro e w2 ⟨t, x, rfl, F, htf⟩
 have HH := hide htf.heap
 have HBY := hide htf.bytes
 have HTF := hide htf
 have hzl : (crP N m).L.length = 32 * m := length_zerosB _
 rw [hzl] at HBY
 clear htf HC1
 go_wp2_with fail
 refine (unhide HH).mono ?_
 rintro e w3 ⟨rfl, rfl⟩
 go_wp2_with fail
 refine (unhide HBY).mono ?_
 rintro e w3 ⟨⟨g3, c3, cur3, rfl, hr3⟩, htf3, hb3⟩
 have hhd := SsHd.make (b := 2) (unhide HTF) htf3 hr3 (unhide HU) rfl hm2 (by rw [u3]; decide) (by rw [u3]; decide)
 rw [hzl] at hhd
 have HHD : Hid (SsR w w3 p m N (.pointer (some ⟨t, 0, none⟩)) (.slice (some ⟨g3, 0, none⟩) (32 * m) c3) (.slice (some ⟨g3, 0, none⟩) (32 * m) c3) 2) := hide ⟨t, x, rfl, hhd⟩
 have e288 : (288 : Int) ≤ ((32 * m : Nat) : Int) := by omega
 have hmN : ((32 * m : Nat) : Int) ≤ 6400 := by omega
 clear hr3 htf3 hb3 HTF HU HBY HH hhd u3 hzl
 generalize h32 : 32 * m = LN at *
 go_wp2_with fail
 go_loopw [15, 16, 17, 18, 19] (fun sv k0 n0 av rv wr => ∃ (rd at_ : Nat) (kv nv : Value), kv = k0 ∧ nv = n0 ∧ rd ≤ 5 ∧ rv = .int .i64 rd ∧ at_ ≤ 8 * rd ∧ av = .int .i64 at_ ∧ SsR w wr p m N sv kv nv (2 + 9 * (rd : Int))) (fun _ _ _ _ rv _ => 5 - (intOf rv).toNat)
 case atStart => exact ⟨0, 0, _, _, rfl, rfl, by omega, rfl, by omega, rfl, unhide HHD⟩
 case round =>
  obtain ⟨rd, at_, kv, nv, rfl, rfl, hrd, rfl, hat, rfl, t1, x1, rfl, hhd⟩ := hrel
  by_cases hin : rd ≤ fails.length ∧ rd < 5
  ·obtain ⟨hin1, hin2⟩ := hin
   have e1 : (rd : Int) ≤ (fails.length : Int) := by omega
   have e2 : (rd : Int) < 5 := by omega
   have e3 : (0 : Int) ≤ (rd : Int) := by omega
   have HD1 := hide hhd
   clear hhd HHD
   go_upto_if 68 with fail
   go_cut [19] from 68 to 68 (fun rv wx => rv = .int .i64 rd ∧ SsHd w wx t1 p x1 m N kv nv (2 + 9 * (rd : Int)))
   case first =>
    by_cases hlf : rd < fails.length
    ·have e4 : (rd : Int) < (fails.length : Int) := by omega
     obtain ⟨b0, o0, rfl, hc0⟩ := (unhide HF).2.2.2 (by intro e; rw [e] at hlf; simp at hlf)
     have hbel := (unhide HD1).base
     have d0 := (hbel.cell (block_lt_of_cell (hc0 rd hlf))).trans (hc0 rd hlf)
     have hfb := (unhide HF).1 (fails.getD rd 0) (by
      have : fails.getD rd 0 = fails[rd] := by simp [List.getD, hlf]
      rw [this]; exact List.getElem_mem hlf)
     generalize fails.getD rd 0 = fz at *
     have HFL := hide ((unhide HD1).fail fz hfb)
     clear hc0 hbel HD1
     go_wp2_with fail
     refine (unhide HFL).mono ?_
     rintro e w4 ⟨rfl, hq⟩
     have HQ := hide hq
     clear hq HFL
     go_wp2
     go_meet
     case rel => exact ⟨rfl, unhide HQ⟩
    ·have e4 : ¬ (rd : Int) < (fails.length : Int) := by omega
     go_wp2
     go_meet
     case rel => exact ⟨rfl, unhide HD1⟩
   case rest =>
    obtain ⟨rfl, hhd⟩ := hcut
    have HUP := hide hhd.up
    clear hhd HD1
    go_upto_region 17 with fail
    go_cut [20] from 75 to 75 (fun v wx => v = .int .i64 0 ∧ wx = wc)
    case first =>
     go_wp2
     go_meet
     case rel => exact ⟨rfl, rfl⟩
    case rest =>
     obtain ⟨rfl, hwx⟩ := hcut
     replace hwx := hwx.symm
     subst hwx
     refine (‹∀ (a : Act) (w : World), Code.wp Tryz.prog (Code.block _ _) _ a w → _›) _ _ ?_
     go_cut [16, 17, 18, 20] from 75 to 119 (fun k0 n0 av _ wx => ∃ (at' : Nat) (kv nv : Value), kv = k0 ∧ nv = n0 ∧ at' ≤ 8 * rd + 8 ∧ av = .int .i64 at' ∧ SsUp w wx t1 p x1 m N kv nv (2 + 9 * (rd : Int) + 8))
     case first =>
      go_wp2_with fail
      go_loopw [16, 17, 18, 20] (fun k0 n0 av kk wr => ∃ (k at' : Nat) (kv nv : Value), kv = k0 ∧ nv = n0 ∧ k ≤ 8 ∧ kk = .int .i64 k ∧ at' ≤ 8 * rd + k ∧ av = .int .i64 at' ∧ SsUp w wr t1 p x1 m N kv nv (2 + 9 * (rd : Int) + k)) (fun _ _ _ kk _ => 8 - (intOf kk).toNat)
      case atStart => exact ⟨0, at_, _, _, rfl, rfl, by omega, rfl, by omega, rfl, (unhide HUP).mono (by omega)⟩
      case round =>
       obtain ⟨k, at', kv1, nv1, rfl, rfl, hk8, rfl, hat', rfl, hss⟩ := hrel
       clear HUP
       by_cases hin : k < 8 ∧ at' < ops.length
       ·obtain ⟨hk, hlt⟩ := hin
        have f1 : (k : Int) < 8 := by omega
        have f2 : (at' : Int) < (ops.length : Int) := by omega
        have f3 : (0 : Int) ≤ (at' : Int) := by omega
        have hr : ops[at']? = some ops[at'] := List.getElem?_eq_getElem hlt
        generalize ops[at'] = r at hr
        obtain ⟨bo, oo, rfl, hco⟩ := (unhide HO).1.2.2.2 (by intro e; rw [e] at hlt; simp at hlt)
        obtain ⟨o0, o1, o2, o3, o4, o5⟩ := Sls.op hco hr
        have hbel := hss.base
        rw [← hbel.cell (block_lt_of_cell o0)] at o0
        rw [← hbel.cell (block_lt_of_cell o1)] at o1
        rw [← hbel.cell (block_lt_of_cell o2)] at o2
        rw [← hbel.cell (block_lt_of_cell o3)] at o3
        rw [← hbel.cell (block_lt_of_cell o4)] at o4
        rw [← hbel.cell (block_lt_of_cell o5)] at o5
        have hrin := (unhide HO).2 r (List.mem_of_getElem? hr)
        obtain ⟨P, F, Nn, htf, hasd, hst, hs1, hs2⟩ := hss
        have hba : Below wr.heap.size wr (wr.alloc (.cells #[.int .i64 r.1, .int .i64 r.2.1, .int .i64 r.2.2.1, .int .i64 r.2.2.2.1, .string r.2.2.2.2.1, .slice r.2.2.2.2.2.1 r.2.2.2.2.2.2.2.length r.2.2.2.2.2.2.1] 37)) := (Below.refl _ _).alloc (Nat.le_refl _) _
        have hgo : ¬ F wr.heap.size := fun hf => by have := htf.lt _ hf; omega
        have htf1 := htf.below hba
        have HOP := hide (OpB.new wr r)
        have HH := hide htf1.heap
        have HTF1 := hide htf1
        have HASD := hide (hasd.below hba)
        have hby := htf1.bytes
        have hPL : P.L.length = 32 * m := by
         rcases hst with ⟨hu, _⟩ | hd
         ·exact hu.ll
         ·exact hd.ll
        have hPb : Byt P.L := by
         rcases hst with ⟨hu, _⟩ | hd
         ·exact hu.bl
         ·exact hd.bl
        rw [hPL, h32] at hby
        have HBY := hide hby
        have HPL := hide hPL
        have HPB := hide hPb
        have HST := hide hst
        have HRIN := hide hrin
        obtain ⟨z0, z1, z2, z3, z4, z5⟩ := hrin
        unfold InZ at z0 z1 z2 z3
        have hbdl := z5.2.2.1
        obtain ⟨x0, x1', x2, x3, sn, ab, cb, body⟩ := r
        dsimp only at *
        clear hco hr hbel htf htf1 hasd hby hba hst hPL hPb z4 z5
        generalize hBL : body.length = BL at *
        have HBL := hide hBL
        clear hBL
        go_wp2_with fail
        refine (unhide HH).mono ?_
        rintro e w4 ⟨rfl, rfl⟩
        go_wp2_with fail
        refine (unhide HBY).mono ?_
        rintro e w4 ⟨⟨g4, c4, cur4, rfl, hr4⟩, htf4, hb4⟩
        have hop4 := (unhide HOP).below hb4
        have hgo4 := hop4
        have hbso := bsO_row (m := m) (unhide HTF1).lt hr4 (unhide HPB) (unhide HPL) hm2
        have hstp := ss_step htf4 ((unhide HASD).below hb4) (unhide HST) hbso hs1 hs2 (by omega) (x0, x1', x2, x3, sn, ab, cb, body) (unhide HRIN)
        have HDN := hide htf4.dev.down
        rw [unhide HPL, h32] at hstp
        unfold opV at hstp
        dsimp only at hstp
        rw [unhide HBL] at hstp
        have HSTP := hide hstp
        obtain ⟨d0, d1, d2, d3, d4, d5⟩ := hop4.cells
        dsimp only at d0 d1 d2 d3 d4 d5
        rw [unhide HBL] at d5
        have HOP4 := hide hop4
        clear htf4 hb4 hr4 hop4 hgo4 hbso hstp HH HBY HTF1 HASD HST HPL HPB HRIN HOP o0 o1 o2 o3 o4 o5
        generalize hdd : P.D.down = dd at *
        clear hdd
        generalize hgg : wr.heap.size = go at *
        clear hgg
        go_wp2_with fail
        refine (unhide HDN).mono ?_
        rintro e w5 ⟨rfl, rfl⟩
        go_wp2_with fail
        refine (unhide HSTP).mono ?_
        rintro e w5 ⟨E, dn, rfl, hdn, c1, c2, c3, hblk⟩
        have hop5 : OpB w5 go (x0, x1', x2, x3, sn, ab, cb, body) := (hblk go (unhide HOP4).lt hgo).trans (unhide HOP4)
        obtain ⟨d0, _, _, _, _, _⟩ := hop5.cells
        dsimp only at d0
        clear HDN
        have HDW := hide hdn
        have C1 := hide c1
        have C2 := hide c2
        have C3 := hide c3
        clear hop5 hblk hdn c1 c2 c3 HSTP HOP4 d1 d2 d3 d4 d5
        by_cases h6 : x0 = 6
        ·subst h6
         by_cases hE : E = 0
         ·subst hE
          rw [errV_zero]
          have HQ := hide (unhide C1 rfl rfl)
          clear C1 C2 C3 HDW
          go_wp2
          go_roundw
          case rel => exact ⟨k + 1, at' + 1, _, _, rfl, rfl, by omega, by go_num, by omega, by go_num, (unhide HQ).mono (by omega)⟩
          case measure => simp [intOf]; omega
         ·rw [errV_pos E hE]
          cases dd with
          | true =>
           have HQ := hide (unhide C3 (.inr ⟨hE, .inl rfl⟩))
           clear C1 C2 C3 HDW
           go_wp2
           go_roundw
           case rel => exact ⟨k + 1, at' + 1, _, _, rfl, rfl, by omega, by go_num, by omega, by go_num, (unhide HQ).mono (by omega)⟩
           case measure => simp [intOf]; omega
          | false =>
           have C4 := hide (unhide C2 rfl hE rfl)
           have C5 := hide (fun (h : dn = false) => unhide C3 (.inr ⟨hE, .inr h⟩))
           clear C1 C2 C3
           cases dn with
           | true =>
            have HQ := hide (unhide C4 rfl)
            clear C4 C5
            go_wp2_with fail
            refine (unhide HDW).mono ?_
            rintro e w6 ⟨rfl, rfl⟩
            clear HDW
            go_wp2
            go_roundw
            case rel => exact ⟨k + 1, at' + 1, _, _, rfl, rfl, by omega, by go_num, by omega, by go_num, (unhide HQ).mono (by omega)⟩
            case measure => simp [intOf]; omega
           | false =>
            have HQ := hide (unhide C5 rfl)
            clear C4 C5
            go_wp2_with fail
            refine (unhide HDW).mono ?_
            rintro e w6 ⟨rfl, rfl⟩
            clear HDW
            go_wp2
            go_roundw
            case rel => exact ⟨k + 1, at' + 1, _, _, rfl, rfl, by omega, by go_num, by omega, by go_num, (unhide HQ).mono (by omega)⟩
            case measure => simp [intOf]; omega
        ·have h6b : (x0 == 6) = false := by simpa using h6
         have HQ := hide (unhide C3 (.inl h6))
         clear C1 C2 C3 HDW h6
         go_wp2
         go_roundw
         case rel => exact ⟨k + 1, at' + 1, _, _, rfl, rfl, by omega, by go_num, by omega, by go_num, (unhide HQ).mono (by omega)⟩
         case measure => simp [intOf]; omega
       ·have HSS := hide (hss.mono (show 2 + 9 * (rd : Int) + k ≤ 2 + 9 * (rd : Int) + 8 by omega))
        clear hss
        by_cases hk : k < 8
        ·have f1 : (k : Int) < 8 := by omega
         have f2 : ¬ (at' : Int) < (ops.length : Int) := by omega
         go_wp2
         go_meet
         case rel => exact ⟨at', _, _, rfl, rfl, by omega, rfl, unhide HSS⟩
        ·have f1 : ¬ (k : Int) < 8 := by omega
         go_wp2
         go_meet
         case rel => exact ⟨at', _, _, rfl, rfl, by omega, rfl, unhide HSS⟩
     case rest =>
      obtain ⟨at', kv1, nv1, rfl, rfl, hat', rfl, hss⟩ := hcut
      have HCR := hide (hss.crash torn cut (unhide HK))
      clear hss HUP
      go_wp2_with fail
      refine (unhide HCR).mono ?_
      rintro e w4 ⟨⟨v4, rfl⟩, hdn⟩
      have HDN := hide hdn
      clear hdn HCR
      have hm1 : 1 ≤ m := by omega
      go_upto_if 127 with fail
      go_cut [19] from 127 to 127 (fun rv wx => rv = .int .i64 rd ∧ SsDn w wx p m N kv1 nv1 (2 + 9 * (rd : Int) + 8 + 1) true)
      case first =>
       by_cases hod : rd % 2 = 1
       ·have hodd : ((rd : Int) % 2 == 1) = true := by simp; omega
        have hfl := (unhide HDN).fail (rd : Int) (by omega)
        rw [show decide ((rd : Int) < 0) = false by simp] at hfl
        have HFL := hide hfl
        clear hfl
        go_wp2_with fail
        refine (unhide HFL).mono ?_
        rintro e w5 ⟨rfl, hd5⟩
        have HOP := hide (hd5.try (unhide HM) hm1 hm2)
        clear hd5 HFL
        go_wp2_with fail
        refine (unhide HOP).mono ?_
        rintro e w6 (⟨t6, rfl, hd6⟩ | ⟨rfl, hgo⟩)
        ·have hfl := hd6.fail (-1) (by decide)
         rw [show decide ((-1 : Int) < 0) = true from rfl] at hfl
         have HFL := hide hfl
         clear hfl hd6 HOP
         go_wp2_with fail
         refine (unhide HFL).mono ?_
         rintro e w7 ⟨rfl, hd7⟩
         have HQ := hide hd7
         clear hd7 HFL
         go_wp2
         go_meet
         case rel => exact ⟨rfl, unhide HQ⟩
        ·rw [errV_pos 9 (by decide)]
         have HCR := hide (hgo.crash torn cut (unhide HK))
         clear hgo HOP
         go_wp2_with fail
         refine (unhide HCR).mono ?_
         rintro e w7 ⟨⟨v7, rfl⟩, hd7⟩
         have hfl := hd7.fail (-1) (by decide)
         rw [show decide ((-1 : Int) < 0) = true from rfl] at hfl
         have HFL := hide hfl
         clear hfl hd7 HCR
         go_wp2_with fail
         refine (unhide HFL).mono ?_
         rintro e w8 ⟨rfl, hd8⟩
         have HQ := hide hd8
         clear hd8 HFL
         go_wp2
         go_meet
         case rel => exact ⟨rfl, unhide HQ⟩
       ·have hodd : ((rd : Int) % 2 == 1) = false := by simp; omega
        go_wp2
        go_meet
        case rel => exact ⟨rfl, unhide HDN⟩
      case rest =>
       obtain ⟨rfl, hdn⟩ := hcut
       have HOP := hide (hdn.open (unhide HM) hm1 hm2)
       clear hdn HDN
       go_wp2_with fail
       refine (unhide HOP).mono ?_
       rintro e w5 ⟨t5, x5, rfl, P, F, K, Nn, htf, hpu, hPL, hasd, hor, hs1, hs2⟩
       have hby := htf.bytes
       rw [hpu.ll, h32] at hby
       have HH := hide htf.heap
       have HBY := hide hby
       have HTF := hide htf
       have HPU := hide hpu
       have HASD := hide hasd
       have HPLK := hide hPL
       have HOR := hide hor
       clear htf hby hpu hasd hPL hor HOP
       go_wp2_with fail
       refine (unhide HH).mono ?_
       rintro e w6 ⟨rfl, rfl⟩
       go_wp2_with fail
       refine (unhide HBY).mono ?_
       rintro e w6 ⟨⟨g6, c6, cur6, rfl, hr6⟩, htf6, hb6⟩
       have hbs6 : Bs w6 (some ⟨g6, 0, none⟩) c6 P.L := hr6.bs (unhide HPU).bl (by rw [(unhide HPU).ll]; omega)
       have hcn := conv_str (P := Tryz.prog) Tryz.underlying31 Tryz.underlying5 Tryz.underlying9 hbs6
       rw [(unhide HPU).ll, h32] at hcn
       obtain ⟨hck, hcx⟩ := asd_conv ((unhide HASD).below hb6)
       have hhd := SsHd.make (b := 2 + 9 * ((rd + 1 : Nat) : Int)) (unhide HTF) htf6 hr6 (unhide HPU) (unhide HPLK) hm2 hs1 (by omega)
       rw [(unhide HPU).ll, h32] at hhd
       have HHD : Hid (SsR w w6 p m N (.pointer (some ⟨t5, 0, none⟩)) (.slice (some ⟨g6, 0, none⟩) LN c6) (.slice (some ⟨g6, 0, none⟩) LN c6) (2 + 9 * ((rd + 1 : Nat) : Int))) := hide ⟨t5, x5, rfl, hhd⟩
       have hor : P.L = K ∨ P.L = Nn := by rw [unhide HPLK]; exact unhide HOR
       clear hhd hr6 htf6 hb6 hbs6 HH HBY HTF HPU HASD HPLK HOR
       by_cases hq : (strOf P.L).toList = (strOf K).toList
       ·clear hor
        generalize strOf P.L = S1 at *
        generalize strOf K = S2 at *
        generalize strOf Nn = S3 at *
        go_wp2
        go_roundw
        case rel => exact ⟨rd + 1, at', _, _, rfl, rfl, by omega, by go_num, by omega, rfl, unhide HHD⟩
        case measure => simp [intOf]; omega
       ·have hN : Nn = P.L := by
         rcases hor with h | h
         ·rw [h] at hq; exact absurd rfl hq
         ·exact h.symm
        rw [hN] at hcx
        clear hor hN
        generalize strOf P.L = S1 at *
        generalize strOf K = S2 at *
        go_wp2
        go_roundw
        case rel => exact ⟨rd + 1, at', _, _, rfl, rfl, by omega, by go_num, by omega, rfl, unhide HHD⟩
        case measure => simp [intOf]; omega
  ·have HB := hide hhd.base
   clear hhd HHD
   by_cases hin1 : rd ≤ fails.length
   ·have e1 : (rd : Int) ≤ (fails.length : Int) := by omega
    have e2 : ¬ (rd : Int) < 5 := by omega
    go_wp2
    go_ret
    exact ⟨rfl, unhide HB⟩
   ·have e1 : ¬ (rd : Int) ≤ (fails.length : Int) := by omega
    go_wp2
    go_ret
    exact ⟨rfl, unhide HB⟩
end Go.Proofs.YtmmgadnicodakaaGreat
