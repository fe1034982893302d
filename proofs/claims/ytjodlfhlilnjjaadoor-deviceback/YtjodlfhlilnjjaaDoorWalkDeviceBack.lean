/-
  The walk of the law DeviceBack. (Part of the proof of DeviceBack.)
-/
import Derived.Test.YtjodlfhlilnjjaaDoorBackPlain
import Derived.Test.YtjodlfhlilnjjaaDoorErrSame
import Derived.Deep.QuietTactic
import Derived.BigQuiet
import Derived.Deep.RegionHeld3
import Derived.Deep.CutRange
namespace Go.Proofs.YtjodlfhlilnjjaaDoor
open Go.RowKit
set_option linter.unusedVariables false

theorem read_two (c : List Int) : DS.readE ⟨zsecs 2, [(1, c)], -1, false⟩ 2 = 1 := by
  unfold DS.readE
  rw [if_pos (.inr (by show ((zsecs 2).length : Int) ≤ 2; rw [length_zsecs]; decide))]
theorem rd_one : (ds0 (zsecs 2) (-1)).rd 1 = zerosB 32 := rfl

set_option maxRecDepth 100000 in
set_option maxHeartbeats 8000000 in
theorem walkDeviceBack (n : Int) (a1 : Option Addr) (cap1 : Nat) (l1 : List (Int × List Int)) (a2 : Option Addr) (cap2 : Nat) (l2 : List (Int × List Int)) (a3 : Option Addr) (cap3 : Nat) (l3 : List Bool) (torn cut : Int) (w : World) (hg : ErrT w)
    (hp1 : Pgs w a1 cap1 l1) (hp2 : Pgs w a2 cap2 l2) (hk3 : Bls w a3 cap3 l3) :
    Calls Tryd.prog 3 #[.int .i64 n, .slice a1 l1.length cap1, .slice a2 l2.length cap2, .slice a3 l3.length cap3, .int .i64 torn, .int .i64 cut] w fun e w' => e = .returned (.bool true) ∧ Below w.heap.size w w' := by
  have HG := hide hg
  have HP1 := hide hp1
  have HP2 := hide hp2
  have HK3 := hide hk3
  have ll1 := hp1.2.1
  have ll2 := hp2.2.1
  have ll3 := hk3.2.1
  clear hg hp1 hp2 hk3
  obtain ⟨i0, hi0, hz0, hz1, hz2⟩ := info_parts info_u8
  obtain ⟨it, ht0, ht1, ht2, ht3⟩ := info_parts info_bytes
  have HN := hide (new_live 2 w w (Below.refl _ _) (by decide) (by decide))
  go_enter Tryd.func3, Tryd.ntmps3
  go_wp2_with fail
  refine (unhide HN).mono ?_
  rintro e w1 ⟨p, S, rfl, hl1, _, _⟩
  rw [new_ds0] at hl1
  have HL1 := hide hl1
  clear HN hl1
  go_wp2_with (at_make; refine wpList_make_u8 rfl _ _ 29 rfl i0 Tryd.underlying29 hi0 hz0 hz1 hz2 _ _ _ _ 32 rfl rfl rfl rfl (by omega) ?_)
  intro w2 hk2 hs2 hb2
  have hc2 := hk2.cell 0 (by decide)
  have hf2 := hk2.frozen 0
  have hns : ¬ S w1.heap.size := fun hs => Nat.lt_irrefl _ ((unhide HL1).dev.lt _ hs)
  have hl2 : Live w (w2.setCell ⟨w1.heap.size, 0, none⟩ (.int .u8 7)) p S (ds0 (zsecs 2) (-1)) := (unhide HL1).below (hb2.setCell (Nat.le_refl _) _)
  have hcl : ((zerosB 32).set 0 7).length = 32 := by rw [List.length_set, length_zerosB]
  have hcb : Bs (w2.setCell ⟨w1.heap.size, 0, none⟩ (.int .u8 7)) (some ⟨w1.heap.size, 0, none⟩) 32 ((zerosB 32).set 0 7) := by
    have := (hk2.set 0 7).bs (byt_set (byt_zerosB 32) 0 7 (by decide)) (by rw [hcl]; decide)
    rwa [hcl] at this
  have hw2 := hl2.write 1 ⟨hcb, fun _ x hx => by obtain rfl := Option.some.inj hx; exact hns⟩
  have hwr := write_ds0 (zsecs 2) 1 ((zerosB 32).set 0 7) (by decide) hcl
  rw [hcl, show ((1 : Nat) : Int) = 1 from rfl] at *
  rw [hwr.1, hwr.2, errV_zero] at hw2
  have H2 := hide hw2
  clear hw2 hl2 hcb hcl hns HL1 hk2 hs2 hb2 hwr
  generalize (zerosB 32).set 0 7 = cc at *
  go_wp2_with fail
  refine (unhide H2).mono ?_
  rintro e w3 ⟨rfl, S3, hl3, _⟩
  have hr3 := read_no 2 hl3.dev (by rw [read_two]; decide)
  rw [read_two] at hr3
  have HR := hide hr3
  have HL3 := hide hl3
  have HE := hide (error_same 1 w3 ((unhide HG).below hl3.bel))
  have hc3 := hl3.crash (-1) 0 (a := none) (cap := 0) (keep := []) ⟨⟨Nat.le_refl _, by decide, fun h => absurd rfl h⟩, fun h => absurd rfl h⟩
  clear hr3 hl3 hc3 H2
  go_wp2_with fail
  refine (unhide HR).mono ?_
  rintro e w4 ⟨rfl, rfl⟩
  go_wp2_with fail
  refine (unhide HE).mono ?_
  rintro e w4 ⟨rfl, hb4⟩
  have hl4 := (unhide HL3).below hb4
  have hc4 := hl4.crash (-1) 0 (a := none) (cap := 0) (keep := []) ⟨⟨Nat.le_refl _, by decide, fun h => absurd rfl h⟩, fun h => absurd rfl h⟩
  rw [crash_one _ _ _ _ _ _ (by decide)] at hc4
  have HC := hide hc4
  clear hc4 hl4 hb4 HL3 HE HR
  go_wp2_with fail
  refine (unhide HC).mono ?_
  rintro e w5 ⟨rfl, S5, hl5, _⟩
  have HR := hide (hl5.read 1 (by decide) rfl)
  have HB5 := hide hl5.bel
  clear hl5 HC
  go_wp2_with fail
  refine (unhide HR).mono ?_
  rintro e w6 ⟨gx, rfl, _, hx, hb6⟩
  rw [rd_one] at hx
  have hx0 := hx.cell 0 (by decide)
  rw [show (zerosB 32).getD 0 0 = 0 from rfl] at hx0
  have hbel6 : Below w.heap.size w w6 := (unhide HB5).trans (hb6.mono (unhide HB5).size)
  have HB6 := hide hbel6
  clear hx hb6 hbel6 HB5 HR
  by_cases hn : n < 1 ∨ 300 < n
  · have hnew := new_no n w6 hn
    rw [errV_pos 1 (by decide)] at hnew
    have HN := hide hnew
    clear hnew
    by_cases h1 : n < 1
    · clear hn
      go_wp2_with fail
      refine (unhide HN).mono ?_
      rintro e w7 ⟨rfl, rfl⟩
      go_wp2
      go_ret
      exact ⟨rfl, unhide HB6⟩
    · have h2 : 300 < n := by omega
      clear hn
      go_wp2_with fail
      refine (unhide HN).mono ?_
      rintro e w7 ⟨rfl, rfl⟩
      go_wp2
      go_ret
      exact ⟨rfl, unhide HB6⟩
  · obtain ⟨N, rfl⟩ : ∃ N : Nat, n = N := ⟨n.toNat, by omega⟩
    have HN := hide (new_live N w w6 (unhide HB6) (by omega) (by omega))
    go_wp2_with fail
    refine (unhide HN).mono ?_
    rintro e w7 ⟨p7, S7, rfl, hl7, _, _⟩
    rw [new_ds0] at hl7
    have HL7 := hide hl7
    clear HN hl7 hx0 HB6
    have hN1 : 1 ≤ N := by omega
    have hN2 : N ≤ 300 := by omega
    clear hn hc2 hf2
    go_upto_region 16 with fail
    go_cut [25] from 102 to 102 (fun v wc => v = .int .i64 0 ∧ wc = w7)
    case first =>
      go_wp2
      go_meet
      case rel => exact ⟨rfl, rfl⟩
    case rest =>
      obtain ⟨rfl, rfl⟩ := hcut
      refine (‹∀ (a : Act) (w : World), Code.wp Tryd.prog (Code.block _ _) _ a w → _›) _ _ ?_
      go_cut [25] from 102 to 123 (fun v wc => ∃ (D1 : DS) (Sr : Nat → Prop), D1.Idle ∧ D1.secs = zsecs N ∧ Live w wc p7 Sr D1)
      case first =>
        go_wp2_with fail
        go_loopw [25] (fun v wr => ∃ (k : Nat) (Sr : Nat → Prop), k ≤ l1.length ∧ k ≤ 40 ∧ v = .int .i64 k ∧ Live w wr p7 Sr (wrs (ds0 (zsecs N) (-1)) l1 k)) (fun v _ => 40 - (intOf v).toNat)
        case atStart => exact ⟨0, S7, by omega, by omega, rfl, unhide HL7⟩
        case round =>
          obtain ⟨k, Sr, hk, hk40, rfl, hlr⟩ := hrel
          clear HL7
          by_cases hlt : k < l1.length ∧ k < 40
          · obtain ⟨hu1, hu2⟩ := hlt
            have hne : l1 ≠ [] := by intro e; rw [e] at hu1; simp at hu1
            obtain ⟨b, off, rfl, hcs⟩ := (unhide HP1).2.2 hne
            obtain ⟨q0, ab, capb, q1, hbs⟩ := hcs k hu1
            have hwr : wrs (ds0 (zsecs N) (-1)) l1 (k + 1) = (wrs (ds0 (zsecs N) (-1)) l1 k).write (l1.getD k (0, [])).1 (l1.getD k (0, [])).2 := rfl
            obtain ⟨num, bod, hnb⟩ : ∃ num bod, l1.getD k (0, []) = (num, bod) := ⟨_, _, rfl⟩
            simp only [hnb] at q0 q1 hbs hwr
            have z0 := (hlr.drew.bel.cell (p := ⟨b, off + k * 2, none⟩) (block_lt_of_cell q0)).trans q0
            have z1 := (hlr.drew.bel.cell (p := ⟨b, off + (k * 2 + 1), none⟩) (block_lt_of_cell q1)).trans q1
            have HW := hide (hlr.drew.write num (hlr.drew.bs hbs))
            have HWR := hide hwr
            have e0 : (0 : Int) ≤ (k : Int) := by omega
            have e1 : (k : Int) < (l1.length : Int) := by omega
            have e2 : (k : Int) < 40 := by omega
            have y0 : wr.cell? ⟨b, off + k * 2, none⟩ = some (.int .i64 num) := z0
            have y1 : wr.cell? ⟨b, off + k * 2 + 1, none⟩ = some (.slice ab bod.length capb) := z1
            have Q0 := hide q0
            have Q1 := hide q1
            clear hwr hlr hcs hbs hnb hne z0 z1 q0 q1
            go_wp2_with fail
            go_region_held3 (fun w' => w'.cell? ⟨b, off + k * 2, none⟩ = some (.int .i64 num) ∧ w'.cell? ⟨b, off + k * 2 + 1, none⟩ = some (.slice ab bod.length capb)) (first | go_keep | (go_split_ands; refine ⟨?_, ?_⟩ <;> go_keep))
              ((go_at_call 7; refine (unhide HW).mono ?_; rintro e w' ⟨rfl, S', hl', ht'⟩; have r0 := (hl'.bel.cell (p := ⟨b, off + k * 2, none⟩) (block_lt_of_cell (unhide Q0))).trans (unhide Q0); have r1 : w'.cell? ⟨b, off + k * 2 + 1, none⟩ = some (.slice ab bod.length capb) := (hl'.bel.cell (p := ⟨b, off + (k * 2 + 1), none⟩) (block_lt_of_cell (unhide Q1))).trans (unhide Q1)))
            go_wp2
            go_roundw
            case rel => exact ⟨k + 1, S', by omega, by omega, by go_num, by rw [unhide HWR]; exact hl'⟩
            case measure => simp [intOf]; omega
          · have hid := wrs_idle (D := ds0 (zsecs N) (-1)) ⟨rfl, rfl⟩ l1 k
            have HRES := hide (show ∃ (D1 : DS) (Sr : Nat → Prop), D1.Idle ∧ D1.secs = zsecs N ∧ Live w wr p7 Sr D1 from ⟨_, Sr, hid.1, hid.2, hlr⟩)
            have hcond : (k < l1.length ∧ ¬ k < 40) ∨ ¬ k < l1.length := by omega
            clear hid hlr hk hk40 hlt
            rcases hcond with ⟨g1, g2⟩ | g1
            all_goals
              go_wp2
              go_meet
              case rel => exact unhide HRES
      case rest =>
        obtain ⟨D1, Sr, hid1, hid2, hlr⟩ := hcut
        have hfl := hlr.flush
        rw [(flush_idle hid1).1, (flush_idle hid1).2, errV_zero] at hfl
        obtain ⟨X1, hX1⟩ : ∃ X1, flushK D1.secs D1.mem D1.mem.length = X1 := ⟨_, rfl⟩
        have hXl : X1.length = N := by rw [← hX1, length_flushK, hid2]; exact length_zsecs N
        rw [hX1] at hfl
        have HF := hide hfl
        clear hfl hX1 hid1 hid2 hlr HL7
        go_wp2_with fail
        refine (unhide HF).mono ?_
        rintro e w8 ⟨rfl, S8, hl8, _⟩
        clear HF
        have hpd := hl8.pending
        rw [show (ds0 X1 (-1)).mem.length = 0 from rfl] at hpd
        have HPD := hide hpd
        have HL8 := hide hl8
        clear hpd hl8
        go_wp2_with fail
        refine (unhide HPD).mono ?_
        rintro e w9 ⟨gq, rfl, _, _, hb9⟩
        have HL9 := hide ((unhide HL8).below hb9)
        clear HPD HL8 hb9
        go_wp2_with (at_make; refine wpList_make_tab rfl _ _ 40 rfl it Tryd.underlying40 ht0 ht1 ht2 ht3 _ _ _ _ N rfl rfl rfl rfl (by omega) ?_)
        intro w10 htab hb10
        have hl10 := (unhide HL9).below hb10
        have ht10 := htab S8 (fun i => X1.getD i []) ((unhide HL9).new (Nat.le_refl _))
        have htge : w.heap.size ≤ w9.heap.size := (unhide HL9).bel.size
        have HL10 := hide hl10
        have HT10 := hide ht10
        clear hl10 ht10 htab hb10 HL9
        generalize w9.heap.size = t1 at *
        go_wp2_with fail
        go_loopw [27] (fun v wr => ∃ k : Nat, k ≤ N ∧ v = .int .i64 k ∧ Live w wr p7 S8 (ds0 X1 (-1)) ∧ Tab wr S8 t1 N (fun i => X1.getD i []) k) (fun v _ => N - (intOf v).toNat)
        case atStart => exact ⟨0, by omega, rfl, unhide HL10, unhide HT10⟩
        case round =>
          obtain ⟨k2, hk2, rfl, hlr, htr⟩ := hrel
          clear HL10 HT10
          by_cases hlt : k2 < N
          · have hrd := hlr.read k2 (by show k2 < X1.length; omega) rfl
            have HR := hide hrd
            have HLR := hide hlr
            have HTR := hide htr
            clear hrd hlr htr
            go_wp2_with fail
            refine (unhide HR).mono ?_
            rintro e w11 ⟨gr, rfl, hgr, hbk, hb11⟩
            have hl11 := (unhide HLR).below hb11
            have ht11 := (unhide HTR).below hb11
            have hngr : ¬ S8 gr := (unhide HLR).new hgr
            obtain ⟨v0, hv0⟩ := ht11.room k2 hlt
            have hfz := ht11.fr k2
            have hnt : ¬ S8 t1 := by obtain ⟨_, _, _, h3, _⟩ := ht11; exact h3
            have HA := hide (hl11.setOther (a := ⟨t1, k2, none⟩) (v := .slice (some ⟨gr, 0, none⟩) 32 32) hnt htge)
            have HB := hide (ht11.put hlt (g := gr) hbk hngr)
            clear hl11 ht11 hngr hnt hbk hb11 HR HLR HTR hgr
            go_wp2
            go_roundw
            case rel => exact ⟨k2 + 1, by omega, by go_num, unhide HA, unhide HB⟩
            case measure => simp [intOf]; omega
          · obtain rfl : k2 = N := by omega
            have HLR := hide hlr
            have HTR := hide htr
            clear hlr htr hk2 hlt
            go_upto_region 30 with fail
            go_cut [30] from 157 to 157 (fun v wc => v = .int .i64 0 ∧ wc = wr)
            case first =>
              go_wp2
              go_meet
              case rel => exact ⟨rfl, rfl⟩
            case rest =>
              obtain ⟨rfl, rfl⟩ := hcut
              refine (‹∀ (a : Act) (w : World), Code.wp Tryd.prog (Code.block _ _) _ a w → _›) _ _ ?_
              go_cut [30] from 157 to 178 (fun v wc => ∃ (D2 : DS) (Sr : Nat → Prop), D2.Idle ∧ D2.secs = X1 ∧ Live w wc p7 Sr D2 ∧ Tab wc Sr t1 k2 (fun i => X1.getD i []) k2)
              case first =>
                go_wp2_with fail
                go_loopw [30] (fun v wr => ∃ (k : Nat) (Sr : Nat → Prop), k ≤ l2.length ∧ k ≤ 40 ∧ v = .int .i64 k ∧ Live w wr p7 Sr (wrs (ds0 X1 (-1)) l2 k) ∧ Tab wr Sr t1 k2 (fun i => X1.getD i []) k2) (fun v _ => 40 - (intOf v).toNat)
                case atStart => exact ⟨0, S8, by omega, by omega, rfl, unhide HLR, unhide HTR⟩
                case round =>
                  obtain ⟨k, Sr, hk, hk40, rfl, hlr, htb⟩ := hrel
                  clear HLR HTR
                  by_cases hlt : k < l2.length ∧ k < 40
                  · obtain ⟨hu1, hu2⟩ := hlt
                    have hne : l2 ≠ [] := by intro e; rw [e] at hu1; simp at hu1
                    obtain ⟨b, off, rfl, hcs⟩ := (unhide HP2).2.2 hne
                    obtain ⟨q0, ab, capb, q1, hbs⟩ := hcs k hu1
                    have hwr : wrs (ds0 X1 (-1)) l2 (k + 1) = (wrs (ds0 X1 (-1)) l2 k).write (l2.getD k (0, [])).1 (l2.getD k (0, [])).2 := rfl
                    obtain ⟨num, bod, hnb⟩ : ∃ num bod, l2.getD k (0, []) = (num, bod) := ⟨_, _, rfl⟩
                    simp only [hnb] at q0 q1 hbs hwr
                    have z0 := (hlr.drew.bel.cell (p := ⟨b, off + k * 2, none⟩) (block_lt_of_cell q0)).trans q0
                    have z1 := (hlr.drew.bel.cell (p := ⟨b, off + (k * 2 + 1), none⟩) (block_lt_of_cell q1)).trans q1
                    have HW := hide (hlr.drew.write num (hlr.drew.bs hbs))
                    have HWR := hide hwr
                    have HTB := hide htb
                    have e0 : (0 : Int) ≤ (k : Int) := by omega
                    have e1 : (k : Int) < (l2.length : Int) := by omega
                    have e2 : (k : Int) < 40 := by omega
                    have y0 : wr.cell? ⟨b, off + k * 2, none⟩ = some (.int .i64 num) := z0
                    have y1 : wr.cell? ⟨b, off + k * 2 + 1, none⟩ = some (.slice ab bod.length capb) := z1
                    have Q0 := hide q0
                    have Q1 := hide q1
                    clear hwr hlr hcs hbs hnb hne z0 z1 q0 q1 htb
                    go_wp2_with fail
                    go_region_held3 (fun w' => w'.cell? ⟨b, off + k * 2, none⟩ = some (.int .i64 num) ∧ w'.cell? ⟨b, off + k * 2 + 1, none⟩ = some (.slice ab bod.length capb)) (first | go_keep | (go_split_ands; refine ⟨?_, ?_⟩ <;> go_keep))
                      ((go_at_call 7; refine (unhide HW).mono ?_; rintro e w' ⟨rfl, S', hl', ht'⟩; have r0 := (hl'.bel.cell (p := ⟨b, off + k * 2, none⟩) (block_lt_of_cell (unhide Q0))).trans (unhide Q0); have r1 : w'.cell? ⟨b, off + k * 2 + 1, none⟩ = some (.slice ab bod.length capb) := (hl'.bel.cell (p := ⟨b, off + (k * 2 + 1), none⟩) (block_lt_of_cell (unhide Q1))).trans (unhide Q1)))
                    go_wp2
                    go_roundw
                    case rel => exact ⟨k + 1, S', by omega, by omega, by go_num, by rw [unhide HWR]; exact hl', ((unhide HTB).turn (Turn.drew _ _)).turn ht'⟩
                    case measure => simp [intOf]; omega
                  · have hid := wrs_idle (D := ds0 X1 (-1)) ⟨rfl, rfl⟩ l2 k
                    have HRES := hide (show ∃ (D2 : DS) (Sr : Nat → Prop), D2.Idle ∧ D2.secs = X1 ∧ Live w wr p7 Sr D2 ∧ Tab wr Sr t1 k2 (fun i => X1.getD i []) k2 from ⟨_, Sr, hid.1, hid.2, hlr, htb⟩)
                    have hcond : (k < l2.length ∧ ¬ k < 40) ∨ ¬ k < l2.length := by omega
                    clear hid hlr htb hk hk40 hlt
                    rcases hcond with ⟨g1, g2⟩ | g1
                    all_goals
                      go_wp2
                      go_meet
                      case rel => exact unhide HRES
              case rest =>
                obtain ⟨D2, Sr, hid1, hid2, hlr, htb⟩ := hcut
                obtain ⟨M, hM⟩ : ∃ M, D2.mem = M := ⟨_, rfl⟩
                rw [idle_eq hid1 X1 hid2, hM] at hlr
                have HLR2 := hide hlr
                have HTB := hide htb
                have hpd := hlr.pending
                rw [show (DS.mk X1 M (-1) false).mem = M from rfl] at hpd
                have hok := hlr.dev.ok
                have hml : M.length ≤ 300 := hok.mem_len
                have HPD := hide hpd
                have HOK := hide hok
                clear hid1 hid2 hM hlr htb hpd hok HLR HTR
                go_wp2_with fail
                refine (unhide HPD).mono ?_
                rintro e w11 ⟨gp, rfl, hgp, hik, hb11⟩
                have HL11 := hide ((unhide HLR2).below hb11)
                have HT11 := hide ((unhide HTB).below hb11)
                have HI11 := hide hik
                have hngp : ¬ Sr gp := (unhide HLR2).new hgp
                clear HLR2 HTB HPD hb11 hik hgp
                go_wp2_with (at_make; refine wpList_make_tab rfl _ _ 40 rfl it Tryd.underlying40 ht0 ht1 ht2 ht3 _ _ _ _ k2 rfl rfl rfl rfl (by omega) ?_)
                intro w12 htab hb12
                have HL12 := hide ((unhide HL11).below hb12)
                have HT12 := hide ((unhide HT11).below hb12)
                have HI12 := hide ((unhide HI11).below hb12)
                have HU12 := hide (htab Sr (fun i => (DS.mk X1 M (-1) false).rd i) ((unhide HL11).new (Nat.le_refl _)))
                have htge2 : w.heap.size ≤ w11.heap.size := (unhide HL11).bel.size
                have hne12 : t1 ≠ w11.heap.size := by have := (unhide HT11).lt; omega
                clear HL11 HT11 HI11 htab hb12
                generalize w11.heap.size = t2 at *
                go_wp2_with fail
                go_loopw [33] (fun v wr => ∃ k : Nat, k ≤ k2 ∧ v = .int .i64 k ∧ Live w wr p7 Sr (DS.mk X1 M (-1) false) ∧ Tab wr Sr t1 k2 (fun i => X1.getD i []) k2 ∧ IBlk wr gp (keysI M) ∧ Tab wr Sr t2 k2 (fun i => (DS.mk X1 M (-1) false).rd i) k) (fun v _ => k2 - (intOf v).toNat)
                case atStart => exact ⟨0, by omega, rfl, unhide HL12, unhide HT12, unhide HI12, unhide HU12⟩
                case round =>
                  obtain ⟨k4, hk4, rfl, hlr, htr, hir, hur⟩ := hrel
                  clear HL12 HT12 HI12 HU12
                  by_cases hlt : k4 < k2
                  · have HR := hide (hlr.read k4 (by show k4 < X1.length; omega) rfl)
                    have HLR := hide hlr
                    have HTR := hide htr
                    have HIR := hide hir
                    have HUR := hide hur
                    clear hlr htr hir hur
                    go_wp2_with fail
                    refine (unhide HR).mono ?_
                    rintro e w13 ⟨gr, rfl, hgr, hbk, hb13⟩
                    have hl13 := (unhide HLR).below hb13
                    have ht13 := (unhide HTR).below hb13
                    have hi13 := (unhide HIR).below hb13
                    have hu13 := (unhide HUR).below hb13
                    have hngr : ¬ Sr gr := (unhide HLR).new hgr
                    obtain ⟨v0, hv0⟩ := hu13.room k4 hlt
                    have hfz := hu13.fr k4
                    have hnt : ¬ Sr t2 := by obtain ⟨_, _, _, h3, _⟩ := hu13; exact h3
                    have HA := hide (hl13.setOther (a := ⟨t2, k4, none⟩) (v := .slice (some ⟨gr, 0, none⟩) 32 32) hnt htge2)
                    have HB := hide (hu13.put hlt (g := gr) hbk hngr)
                    have HC := hide (ht13.other (a := ⟨t2, k4, none⟩) (v := .slice (some ⟨gr, 0, none⟩) 32 32) hne12.symm (fun g l hb => hu13.notBlk g l hb))
                    have HD := hide (hi13.same (w' := w13.setCell ⟨t2, k4, none⟩ (.slice (some ⟨gr, 0, none⟩) 32 32)) (heap_setCell_other _ _ _ _ (hi13.notTab hu13)))
                    clear hl13 ht13 hi13 hu13 hngr hnt hbk hb13 HR HLR HTR HIR HUR hgr
                    go_wp2
                    go_roundw
                    case rel => exact ⟨k4 + 1, by omega, by go_num, unhide HA, unhide HC, unhide HD, unhide HB⟩
                    case measure => simp [intOf]; omega
                  · obtain rfl : k4 = k2 := by omega
                    have hcr := hlr.crash torn cut (hlr.bls (unhide HK3))
                    rw [show (DS.mk X1 M (-1) false).mem = M from rfl] at hcr
                    have HCR := hide hcr
                    have HTR := hide htr
                    have HIR := hide hir
                    have HUR := hide hur
                    clear hlr htr hir hur hcr hk4 hlt
                    go_wp2_with fail
                    refine (unhide HCR).mono ?_
                    rintro e w14 ⟨rfl, S14, hl14, hturn⟩
                    have ht14 := (unhide HTR).turn hturn
                    have hi14 := ((unhide HIR).turn hturn hngp).1
                    have hu14 := (unhide HUR).turn hturn
                    have HL14 := hide hl14
                    have HT14 := hide ht14
                    have HI14 := hide hi14
                    have HU14 := hide hu14
                    have HD14 := hide hl14.down
                    clear hl14 ht14 hi14 hu14 hturn HCR HTR HIR HUR hngp
                    go_wp2_with fail
                    refine (unhide HD14).mono ?_
                    rintro e w15 ⟨rfl, rfl⟩
                    clear HD14
                    have hC0 : DS.crash ⟨X1, M, -1, false⟩ l3 torn (cutN cut) = ds0 (crashK X1 M l3 torn (cutN cut) M.length) (-1) := rfl
                    have hL14 := unhide HL14
                    rw [hC0] at hL14 ⊢
                    obtain ⟨C, hC⟩ : ∃ C, crashK X1 M l3 torn (cutN cut) M.length = C := ⟨_, rfl⟩
                    rw [hC] at hL14 ⊢
                    have HLC := hide hL14
                    have HC := hide hC
                    have hCl : C.length = X1.length := by rw [← hC, length_crashK]
                    clear hL14 hC HL14 hC0
                    rw [show (ds0 C (-1)).down = false from rfl]
                    go_wp2_with fail
                    go_loopw [36] (fun v wr => ∃ k : Nat, k ≤ k4 ∧ v = .int .i64 k ∧ Live w wr p7 S14 (ds0 C (-1)) ∧ Tab wr S14 t1 k4 (fun i => X1.getD i []) k4 ∧ IBlk wr gp (keysI M) ∧ Tab wr S14 t2 k4 (fun i => (DS.mk X1 M (-1) false).rd i) k4) (fun v _ => k4 - (intOf v).toNat)
                    case atStart => exact ⟨0, by omega, rfl, unhide HLC, unhide HT14, unhide HI14, unhide HU14⟩
                    case round =>
                      obtain ⟨k, hk, rfl, hlr, htr, hir, hur⟩ := hrel
                      clear HLC HT14 HI14 HU14
                      by_cases hlt : k < k4
                      · have hkX : k < X1.length := by omega
                        have HR := hide (hlr.read k (by show k < C.length; omega) rfl)
                        have hsC : Sec (C.getD k []) := sec_getD hlr.dev.ok.sec (by show k < C.length; omega)
                        have hsX : Sec (X1.getD k []) := sec_getD (unhide HOK).sec hkX
                        have hsN : Sec ((DS.mk X1 M (-1) false).rd k) := (unhide HOK).rd hkX
                        have HLR := hide hlr
                        have HTR := hide htr
                        have HIR := hide hir
                        have HUR := hide hur
                        clear hlr htr hir hur
                        go_wp2_with fail
                        refine (unhide HR).mono ?_
                        rintro e w16 ⟨gx2, rfl, _, hbk, hb16⟩
                        have hl16 := (unhide HLR).below hb16
                        have ht16 := (unhide HTR).below hb16
                        have hi16 := (unhide HIR).below hb16
                        have hu16 := (unhide HUR).below hb16
                        rw [show (ds0 C (-1)).rd k = C.getD k [] from rfl] at hbk
                        obtain ⟨go, hgo, hbo⟩ := ht16.cell k (by omega)
                        obtain ⟨gn, hgn, hbn⟩ := hu16.cell k (by omega)
                        have HBK := hide hbk
                        have HBO := hide hbo
                        have HBN := hide hbn
                        have HL16 := hide hl16
                        have HT16 := hide ht16
                        have HI16 := hide hi16
                        have HU16 := hide hu16
                        clear hbk hbo hbn hl16 ht16 hi16 hu16 hb16 HR HLR HTR HIR HUR
                        have f0 : (0 : Int) ≤ (k : Int) := by omega
                        have f1 : (k : Int) < (k4 : Int) := by omega
                        go_wp2_with fail
                        go_loop [39, 40] (fun av jv => ∃ j : Nat, j ≤ M.length ∧ jv = .int .i64 j ∧ av = .int .i64 (atK M k j)) (fun _ jv => M.length - (intOf jv).toNat)
                        case atStart => exact ⟨0, by omega, rfl, rfl⟩
                        case round =>
                          obtain ⟨j, hj, rfl, rfl⟩ := hrel
                          by_cases hjl : j < M.length
                          · obtain ⟨ky, bd, hkb⟩ : ∃ ky bd, M.getD j (0, []) = (ky, bd) := ⟨_, _, rfl⟩
                            have hcell := (unhide HI16).cell j (by rw [length_keysI]; exact hjl)
                            rw [keysI_getD M j hjl] at hcell
                            have hat : atK M k (j + 1) = if (M.getD j (0, [])).1 = k then (j : Int) else atK M k j := rfl
                            simp only [hkb] at hcell hat
                            by_cases hkk : ky = k
                            · subst hkk
                              rw [if_pos rfl] at hat
                              have HAT := hide hat
                              clear hat hkb
                              go_wp2
                              go_round
                              case rel => exact ⟨j + 1, by omega, by go_num, by rw [unhide HAT]⟩
                              case measure => simp [intOf]; omega
                            · rw [if_neg hkk] at hat
                              have HAT := hide hat
                              have hkk' : ¬ (ky : Int) = (k : Int) := by omega
                              clear hat hkb hkk
                              go_wp2
                              go_round
                              case rel => exact ⟨j + 1, by omega, by go_num, by rw [unhide HAT]⟩
                              case measure => simp [intOf]; omega
                          · obtain rfl : j = M.length := by omega
                            clear hj hjl
                            rcases atK_cases M k M.length with ⟨hA, hno⟩ | ⟨q, hq, hqk, hA⟩
                            · have hCX : C.getD k [] = X1.getD k [] := by rw [← unhide HC]; exact crashK_other X1 M l3 torn (cutN cut) k M.length hno
                              have hb1 := unhide HBK
                              rw [hCX] at hb1
                              have cv1 := whole_str hb1 hsX
                              have cv2 := whole_str (unhide HBO) hsX
                              generalize strOf (X1.getD k []) = sl at cv1 cv2
                              rw [hA]
                              clear hb1 hCX hno hA hsC hsX hsN
                              go_wp2
                              go_quiet (fail)
                              go_wp2
                              go_roundw
                              case rel => exact ⟨k + 1, by omega, by go_num, (unhide HL16).drewN _, (unhide HT16).below (below_drewN (Below.refl _ _) _), (unhide HI16).below (below_drewN (Below.refl _ _) _), (unhide HU16).below (below_drewN (Below.refl _ _) _)⟩
                              case measure => simp [intOf]; omega
                            · obtain ⟨ky, bd, hkb⟩ : ∃ ky bd, M.getD q (0, []) = (ky, bd) := ⟨_, _, rfl⟩
                              have hpm : M.getD q (0, []) ∈ M := pair_mem hq
                              have hlk := lookup_at (m := M) (unhide HOK).apart hq
                              have hat0 := crashK_at (secs := X1) (mem := M) l3 torn (cutN cut) (unhide HOK).apart (fun p hp => ((unhide HOK).mem p hp).1) hq M.length hq (Nat.le_refl _)
                              rw [unhide HC] at hat0
                              simp only [hkb] at hpm hlk hat0 hqk
                              subst hqk
                              have hsb : Sec bd := ((unhide HOK).mem _ hpm).2
                              have hrdN : (DS.mk X1 M (-1) false).rd ky = bd := by unfold DS.rd; rw [show (DS.mk X1 M (-1) false).mem = M from rfl, hlk]; rfl
                              have hbx := unhide HBK
                              have hbo := unhide HBO
                              have hbn := unhide HBN
                              have hbn' : Blk w16 gn bd := by rw [← hrdN]; exact hbn
                              have hq0 : ¬ (q : Int) < 0 := by omega
                              rw [hA]
                              generalize X1.getD ky [] = so at *
                              clear hbn hrdN hlk hpm hkb hsN HBK HBO HBN hA
                              by_cases htq : (q : Int) = torn
                              · have hone : one l3 torn (cutN cut) q so bd = torn1 so bd (cutN cut) := by unfold one; rw [if_pos htq]
                                rw [hone] at hat0
                                rw [hat0] at hbx hsC
                                clear hone hat0
                                have hc32 := cutN_le cut
                                subst htq
                                have hz3 : (cut < 0 ∧ (0 : Int) = cutN cut) ∨ (¬ cut < 0 ∧ ¬ 32 < cut ∧ cut = cutN cut) ∨ (¬ cut < 0 ∧ 32 < cut ∧ (32 : Int) = cutN cut) := by unfold cutN; omega
                                have HC32 := hide hc32
                                generalize cutN cut = cc2 at *
                                rcases hz3 with ⟨z1, z2⟩ | ⟨z1, z3, z2⟩ | ⟨z1, z3, z2⟩
                                all_goals
                                  obtain ⟨x1, d1, p1, s1, v1⟩ := cut_hi (blk_bs hbx hsC) hsC.1 _ cc2 z2 (unhide HC32)
                                  obtain ⟨x2, d2, p2, s2, v2⟩ := cut_hi (blk_bs hbn' hsb) hsb.1 _ cc2 z2 (unhide HC32)
                                  obtain ⟨x3, d3, p3, s3, v3⟩ := cut_lo (blk_bs hbx hsC) hsC.1 _ cc2 z2 (unhide HC32)
                                  obtain ⟨x4, d4, p4, s4, v4⟩ := cut_lo (blk_bs hbo hsX) hsX.1 _ cc2 z2 (unhide HC32)
                                  rw [torn1_take hsb cc2 (unhide HC32)] at v1
                                  rw [torn1_drop hsb cc2 (unhide HC32)] at v3
                                  generalize strOf (bd.take cc2) = sA at v1 v2
                                  generalize strOf (so.drop cc2) = sB at v3 v4
                                  clear hbx hbn' hbo hsC hsb hsX z2 HC32 hc32
                                  go_wp2
                                  go_quiet (fail)
                                  go_wp2
                                  go_roundw
                                  case rel => exact ⟨ky + 1, by omega, by go_num, (unhide HL16).drewN _, (unhide HT16).below (below_drewN (Below.refl _ _) _), (unhide HI16).below (below_drewN (Below.refl _ _) _), (unhide HU16).below (below_drewN (Below.refl _ _) _)⟩
                                  case measure => simp [intOf]; omega
                              · by_cases hql : q < l3.length
                                · have hne : l3 ≠ [] := by intro e; rw [e] at hql; simp at hql
                                  obtain ⟨b3, off3, rfl, hc3⟩ := (unhide HK3).2.2 hne
                                  have hcell3 := ((unhide HL16).bel.cell (p := ⟨b3, off3 + q, none⟩) (block_lt_of_cell (hc3 q hql))).trans (hc3 q hql)
                                  have hql' : (q : Int) < (l3.length : Int) := by omega
                                  by_cases hkq : l3.getD q false = true
                                  · have hone : one l3 torn (cutN cut) q so bd = bd := by unfold one; rw [if_neg htq, if_pos hkq]
                                    rw [hone] at hat0
                                    rw [hat0] at hbx
                                    rw [hkq] at hcell3
                                    have cv1 := whole_str0 hbx hsb
                                    have cv2 := whole_str0 hbn' hsb
                                    generalize strOf bd = sl at cv1 cv2
                                    clear hbx hbn' hbo hsC hsb hsX hone hat0 hkq hc3 hne
                                    go_wp2
                                    go_roundw
                                    case rel => exact ⟨ky + 1, by omega, by go_num, unhide HL16, unhide HT16, unhide HI16, unhide HU16⟩
                                    case measure => simp [intOf]; omega
                                  · have hone : one l3 torn (cutN cut) q so bd = so := by unfold one; rw [if_neg htq, if_neg hkq]
                                    have hkq' : l3.getD q false = false := by simpa using hkq
                                    rw [hone] at hat0
                                    rw [hat0] at hbx
                                    rw [hkq'] at hcell3
                                    have cv1 := whole_str0 hbx hsX
                                    have cv2 := whole_str0 hbo hsX
                                    generalize strOf so = sl at cv1 cv2
                                    clear hbx hbn' hbo hsC hsb hsX hone hat0 hkq hkq' hc3 hne
                                    go_wp2
                                    go_roundw
                                    case rel => exact ⟨ky + 1, by omega, by go_num, unhide HL16, unhide HT16, unhide HI16, unhide HU16⟩
                                    case measure => simp [intOf]; omega
                                · have hkq' : l3.getD q false = false := by simp [List.getD, List.getElem?_eq_none (by omega : l3.length ≤ q)]
                                  have hql' : ¬ (q : Int) < (l3.length : Int) := by omega
                                  have hone : one l3 torn (cutN cut) q so bd = so := by unfold one; rw [if_neg htq, if_neg (by rw [hkq']; exact Bool.false_ne_true)]
                                  rw [hone] at hat0
                                  rw [hat0] at hbx
                                  have cv1 := whole_str0 hbx hsX
                                  have cv2 := whole_str0 hbo hsX
                                  generalize strOf so = sl at cv1 cv2
                                  clear hbx hbn' hbo hsC hsb hsX hone hat0 hkq'
                                  go_wp2
                                  go_roundw
                                  case rel => exact ⟨ky + 1, by omega, by go_num, unhide HL16, unhide HT16, unhide HI16, unhide HU16⟩
                                  case measure => simp [intOf]; omega
                      · obtain rfl : k = k4 := by omega
                        have hbel := hide hlr.bel
                        clear hlr htr hir hur hk hlt
                        go_wp2
                        go_ret
                        exact ⟨rfl, unhide hbel⟩
end Go.Proofs.YtjodlfhlilnjjaaDoor
