/-
  The walk of the law DeviceStops. (Part of the proof of DeviceStops.)
-/
import Derived.Test.YtjodlfhlilnjjaaDoorDevLive
import Derived.Test.YtjodlfhlilnjjaaDoorErrSame
namespace Go.Proofs.YtjodlfhlilnjjaaDoor
open Go.RowKit
set_option linter.unusedVariables false

set_option maxRecDepth 100000 in
theorem stops_new_no (n at_ : Int) (a : Option Addr) (cap len : Nat) (after : Int) (w : World) (h : n < 1 ∨ 300 < n) :
    Calls Tryd.prog 4 #[.int .i64 n, .int .i64 at_, .slice a len cap, .int .i64 after] w fun e w' => e = .returned (.bool true) ∧ Below w.heap.size w w' := by
  have hnew := new_no n w h
  rw [errV_pos 1 (by decide)] at hnew
  have HN := hide hnew
  clear hnew
  by_cases h1 : n < 1
  · clear h
    go_enter Tryd.func4, Tryd.ntmps4
    go_wp2_with fail
    refine (unhide HN).mono ?_
    rintro e w1 ⟨rfl, rfl⟩
    go_wp2
    go_ret
    exact ⟨rfl, Below.refl _ _⟩
  · have h2 : 300 < n := by omega
    clear h
    go_enter Tryd.func4, Tryd.ntmps4
    go_wp2_with fail
    refine (unhide HN).mono ?_
    rintro e w1 ⟨rfl, rfl⟩
    go_wp2
    go_ret
    exact ⟨rfl, Below.refl _ _⟩

set_option maxRecDepth 100000 in
theorem stops_else (n : Nat) (at_ : Int) (a : Option Addr) (cap len : Nat) (after : Int) (w : World) (h1 : 1 ≤ n) (h2 : n ≤ 300) (hl : len ≤ 140737488351232) (h : ¬ len = 32 ∨ at_ < 0 ∨ (n : Int) ≤ at_ ∨ after < 0 ∨ 1000 < after) :
    Calls Tryd.prog 4 #[.int .i64 n, .int .i64 at_, .slice a len cap, .int .i64 after] w fun e w' => e = .returned (.bool true) ∧ Below w.heap.size w w' := by
  have HN := hide (new_live n w w (Below.refl _ _) h1 h2)
  have hs : (¬ len = 32 ∧ ¬ (len : Int) = 32) ∨ (len = 32 ∧ at_ < 0) ∨ (len = 32 ∧ ¬ at_ < 0 ∧ (n : Int) ≤ at_) ∨ (len = 32 ∧ ¬ at_ < 0 ∧ ¬ (n : Int) ≤ at_ ∧ after < 0) ∨ (len = 32 ∧ ¬ at_ < 0 ∧ ¬ (n : Int) ≤ at_ ∧ ¬ after < 0 ∧ 1000 < after) := by omega
  clear h
  rcases hs with ⟨_, _⟩ | ⟨rfl, _⟩ | ⟨rfl, _, _⟩ | ⟨rfl, _, _, _⟩ | ⟨rfl, _, _, _, _⟩
  all_goals
    go_enter Tryd.func4, Tryd.ntmps4
    go_wp2_with fail
    refine (unhide HN).mono ?_
    rintro e w1 ⟨p, S, rfl, hl1, _, _⟩
    have hbel := hide hl1.bel
    clear hl1
    go_wp2
    go_ret
    exact ⟨rfl, unhide hbel⟩

set_option maxRecDepth 100000 in
set_option maxHeartbeats 4000000 in
theorem stops_main (n k : Nat) (a : Option Addr) (cap : Nat) (l : List Int) (af : Nat) (w : World) (hg : ErrT w) (h1 : 1 ≤ n) (h2 : n ≤ 300) (hk : k < n) (hb : Bs w a cap l) (hl : l.length = 32) (ha : af ≤ 1000) :
    Calls Tryd.prog 4 #[.int .i64 n, .int .i64 k, .slice a 32 cap, .int .i64 af] w fun e w' => e = .returned (.bool true) ∧ Below w.heap.size w w' := by
  have hkX : k < (zsecs n).length := by rw [length_zsecs]; exact hk
  have hkY : k < ((zsecs n).set k l).length := by rw [List.length_set]; exact hkX
  have e1 : ¬ (k : Int) < 0 := by omega
  have e2 : ¬ (n : Int) ≤ (k : Int) := by omega
  have e3 : ¬ (af : Int) < 0 := by omega
  have e4 : ¬ 1000 < (af : Int) := by omega
  have HN := hide (new_live n w w (Below.refl _ _) h1 h2)
  have HB := hide hb
  have HG := hide hg
  clear hb hg
  obtain ⟨i0, hi0, hz0, hz1, hz2⟩ := info_parts info_u8
  go_enter Tryd.func4, Tryd.ntmps4
  go_wp2_with fail
  refine (unhide HN).mono ?_
  rintro e w1 ⟨p, S, rfl, hl1, _, _⟩
  clear HN
  rw [new_ds0] at hl1
  have hw1 := hl1.write k (hl1.bs (unhide HB))
  rw [hl, (write_ds0 _ k l hkX hl).1, (write_ds0 _ k l hkX hl).2, errV_zero] at hw1
  have H1 := hide hw1
  clear hw1 hl1
  go_wp2_with fail
  refine (unhide H1).mono ?_
  rintro e w2 ⟨rfl, S2, hl2, _⟩
  have hf2 := hl2.flush
  rw [(flush_one _ _ _).1, (flush_one _ _ _).2, errV_zero] at hf2
  have H2 := hide hf2
  clear hf2 hl2 H1
  go_wp2_with fail
  refine (unhide H2).mono ?_
  rintro e w3 ⟨rfl, S3, hl3, _⟩
  have H3 := hide (hl3.fail (af : Int) (by omega))
  clear hl3 H2
  go_wp2_with fail
  refine (unhide H3).mono ?_
  rintro e w4 ⟨rfl, S4, hl4, _⟩
  have H4 := hide hl4
  clear hl4 H3
  go_wp2_with fail
  go_loopw [11] (fun v wr => ∃ (j : Nat) (Sr : Nat → Prop), j ≤ af ∧ v = .int .i64 j ∧ Live w wr p Sr (ds0 ((zsecs n).set k l) (af - j))) (fun v _ => af - (intOf v).toNat)
  case atStart => exact ⟨0, S4, by omega, rfl, by rw [show ((af : Int) - ((0 : Nat) : Int)) = af from by omega]; exact unhide H4⟩
  case round =>
    obtain ⟨j, Sr, hj, rfl, hlr⟩ := hrel
    by_cases hlt : j < af
    · have hf := hlr.flush
      rw [(flush_ds0 _ _ (by omega)).1, (flush_ds0 _ _ (by omega)).2, errV_zero] at hf
      have HF := hide hf
      clear hf hlr H4
      go_wp2_with fail
      refine (unhide HF).mono ?_
      rintro e w5 ⟨rfl, S5, hl5, _⟩
      have hd5 := hl5.down
      rw [show (ds0 ((zsecs n).set k l) ((af : Int) - j - 1)).down = false from rfl] at hd5
      have HD := hide hd5
      have HL := hide hl5
      clear hd5 hl5
      go_wp2_with fail
      refine (unhide HD).mono ?_
      rintro e w6 ⟨rfl, rfl⟩
      go_wp2
      go_roundw
      case rel => exact ⟨j + 1, S5, by omega, by go_num, by have := unhide HL; rwa [show (af : Int) - j - 1 = af - (j + 1 : Nat) from by omega] at this⟩
      case measure => simp [intOf]; omega
    · obtain rfl : j = af := by omega
      rw [Int.sub_self] at hlr
      have HLR := hide hlr
      clear hlr H4 e1 e2 e3 e4
      go_wp2_with (at_make; refine wpList_make_u8 rfl _ _ 29 rfl i0 Tryd.underlying29 hi0 hz0 hz1 hz2 _ _ _ _ 32 rfl rfl rfl rfl (by omega) ?_)
      intro w5 hk5 hs5 hb5
      have hc5 := hk5.cell 3 (by decide)
      have hf5 := hk5.frozen 3
      have HK := hide (hk5.set 3 77)
      have hl5 := (unhide HLR).below hb5
      have hns : ¬ Sr wr.heap.size := fun hs => Nat.lt_irrefl _ ((unhide HLR).dev.lt _ hs)
      have hl6 : Live w (w5.setCell ⟨wr.heap.size, 3, none⟩ (.int .u8 77)) p Sr (ds0 ((zsecs n).set k l) 0) := (unhide HLR).below (hb5.setCell (Nat.le_refl _) _)
      have hcl : ((zerosB 32).set 3 77).length = 32 := by rw [List.length_set, length_zerosB]
      have hcb : Bs (w5.setCell ⟨wr.heap.size, 3, none⟩ (.int .u8 77)) (some ⟨wr.heap.size, 0, none⟩) 32 ((zerosB 32).set 3 77) := by
        have := (unhide HK).bs (byt_set (byt_zerosB 32) 3 77 (by decide)) (by rw [hcl]; decide)
        rwa [hcl] at this
      have hw6 := hl6.write k ⟨hcb, fun _ x hx => by obtain rfl := Option.some.inj hx; exact hns⟩
      rw [hcl, (write_dead _ k _ hkY hcl).1, (write_dead _ k _ hkY hcl).2] at hw6
      have H6 := hide hw6
      clear hw6 hl6 hl5 hcb hcl hns HLR hk5 hs5 hb5 HK
      go_wp2_with fail
      refine (unhide H6).mono ?_
      rintro e w6 ⟨rfl, S6, hl6, _⟩
      generalize (zerosB 32).set 3 77 = cc at *
      have hr6 := read_no (k : Int) hl6.dev (by unfold DS.readE; rw [if_neg (by show ¬ ((k : Int) < 0 ∨ (((zsecs n).set k l).length : Int) ≤ k); omega), if_pos rfl]; decide)
      rw [show DS.readE ⟨(zsecs n).set k l, [(k, cc)], 0, true⟩ (k : Int) = 9 from by unfold DS.readE; rw [if_neg (by show ¬ ((k : Int) < 0 ∨ (((zsecs n).set k l).length : Int) ≤ k); omega), if_pos rfl]] at hr6
      have hf6 := hl6.flush
      rw [show DS.flushE ⟨(zsecs n).set k l, [(k, cc)], 0, true⟩ = 9 from rfl, show DS.doFlush ⟨(zsecs n).set k l, [(k, cc)], 0, true⟩ = ⟨(zsecs n).set k l, [(k, cc)], 0, true⟩ from rfl] at hf6
      have HR := hide hr6
      have HF := hide hf6
      clear hr6 hf6 hl6 H6
      go_wp2_with fail
      refine (unhide HR).mono ?_
      rintro e w7 ⟨rfl, rfl⟩
      go_wp2_with fail
      refine (unhide HF).mono ?_
      rintro e w7 ⟨rfl, S7, hl7, _⟩
      clear HR HF
      have HL7 := hide hl7
      have HE := hide (error_same 9 w7 ((unhide HG).below hl7.bel))
      clear hl7
      go_wp2_with fail
      refine (unhide HE).mono ?_
      rintro e w8 ⟨rfl, hb8⟩
      have hl8 := (unhide HL7).below hb8
      have HL8 := hide hl8
      have HE8 := hide (error_same 9 w8 ((unhide HG).below hl8.bel))
      clear hl8 hb8 HE HL7
      go_wp2_with fail
      refine (unhide HE8).mono ?_
      rintro e w9 ⟨rfl, hb9⟩
      have hl9 := (unhide HL8).below hb9
      have HL9 := hide hl9
      have HE9 := hide (error_same 9 w9 ((unhide HG).below hl9.bel))
      clear hl9 hb9 HE8 HL8
      go_wp2_with fail
      refine (unhide HE9).mono ?_
      rintro e w10 ⟨rfl, hb10⟩
      have hl10 := (unhide HL9).below hb10
      have HD := hide hl10.down
      have HP := hide hl10.pending
      have HL10 := hide hl10
      clear hl10 hb10 HE9 HL9
      go_wp2_with fail
      refine (unhide HD).mono ?_
      rintro e w11 ⟨rfl, rfl⟩
      go_wp2_with fail
      refine (unhide HP).mono ?_
      rintro e w11 ⟨g, rfl, _, _, hb11⟩
      have hl11 := (unhide HL10).below hb11
      have hc11 := hl11.crash (-1) 0 (a := none) (cap := 0) (keep := []) ⟨⟨Nat.le_refl _, by decide, fun h => absurd rfl h⟩, fun h => absurd rfl h⟩
      rw [crash_one _ _ _ _ _ _ (by decide)] at hc11
      have HC := hide hc11
      clear hc11 hl11 hb11 HL10 HP HD
      go_wp2_with fail
      refine (unhide HC).mono ?_
      rintro e w12 ⟨rfl, S12, hl12, _⟩
      have HD := hide hl12.down
      have HR := hide (hl12.read k hkY rfl)
      have HL12 := hide hl12
      clear hl12 HC
      go_wp2_with fail
      refine (unhide HD).mono ?_
      rintro e w13 ⟨rfl, rfl⟩
      go_wp2_with fail
      refine (unhide HR).mono ?_
      rintro e w13 ⟨gx, rfl, _, hx, hb13⟩
      have hrd : (ds0 ((zsecs n).set k l) (-1)).rd k = l := by
        unfold DS.rd ds0
        show ((zsecs n).set k l).getD k [] = l
        exact getD_set_self _ _ _ hkX
      rw [hrd] at hx
      have hl13 := (unhide HL12).below hb13
      have hbx : Bs w13 (some ⟨gx, 0, none⟩) 32 l := by
        have := hx.bs (unhide HB).1 (by rw [hl]; decide)
        rwa [hl] at this
      have cv1 := conv_str (P := Tryd.prog) (t := 29) (e := 9) Tryd.underlying29 Tryd.underlying5 Tryd.underlying9 hbx
      have cv2 := conv_str (P := Tryd.prog) (t := 29) (e := 9) Tryd.underlying29 Tryd.underlying5 Tryd.underlying9 (hl13.bs (unhide HB)).1
      rw [hl] at cv1 cv2
      have hf13 := hl13.flush
      rw [(flush_ever _).1, (flush_ever _).2, errV_zero] at hf13
      have HF := hide hf13
      clear hf13 hl13 hbx hx hb13 HL12 HR HD hrd
      generalize strOf l = sl at cv1 cv2
      go_wp2_with fail
      refine (unhide HF).mono ?_
      rintro e w14 ⟨rfl, S14, hl14, _⟩
      have hbel := hide hl14.bel
      clear hl14
      go_wp2
      go_ret
      exact ⟨rfl, unhide hbel⟩

theorem walkDeviceStops (a0 a1 : Int) (a2 : Option Addr) (cap2 : Nat) (l2 : List Int) (a3 : Int) (w : World) (hg : ErrT w) (b0 : -9223372036854775808 ≤ a0 ∧ a0 ≤ 9223372036854775807) (b1 : -9223372036854775808 ≤ a1 ∧ a1 ≤ 9223372036854775807) (w2 : Bs w a2 cap2 l2) (b3 : -9223372036854775808 ≤ a3 ∧ a3 ≤ 9223372036854775807) :
    Calls Tryd.prog 4 #[.int .i64 a0, .int .i64 a1, .slice a2 l2.length cap2, .int .i64 a3] w fun e w' => e = .returned (.bool true) ∧ Below w.heap.size w w' := by
  by_cases h : a0 < 1 ∨ 300 < a0
  · exact stops_new_no a0 a1 a2 cap2 l2.length a3 w h
  · obtain ⟨n, rfl⟩ : ∃ n : Nat, a0 = n := ⟨a0.toNat, by omega⟩
    by_cases h2 : ¬ l2.length = 32 ∨ a1 < 0 ∨ (n : Int) ≤ a1 ∨ a3 < 0 ∨ 1000 < a3
    · exact stops_else n a1 a2 cap2 l2.length a3 w (by omega) (by omega) w2.2.2.1 h2
    · obtain ⟨k, rfl⟩ : ∃ k : Nat, a1 = k := ⟨a1.toNat, by omega⟩
      obtain ⟨af, rfl⟩ : ∃ k : Nat, a3 = k := ⟨a3.toNat, by omega⟩
      have hl : l2.length = 32 := by omega
      rw [hl]
      exact stops_main n k a2 cap2 l2 af w hg (by omega) (by omega) (by omega) w2 hl (by omega)
end Go.Proofs.YtjodlfhlilnjjaaDoor
