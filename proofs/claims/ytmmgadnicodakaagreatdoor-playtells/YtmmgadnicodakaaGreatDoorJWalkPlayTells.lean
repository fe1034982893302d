/-
  The walk of PlayTells. (Part of the proof of PlayTells.)
-/
import Derived.Test.YtmmgadnicodakaaGreatDoorJPt
import Derived.Test.YtmmgadnicodakaaGreatDoorJRef
import Derived.Test.YtmmgadnicodakaaGreatDoorJIr
import Derived.Test.YtmmgadnicodakaaGreatDoorJIm
import Derived.BigQuiet
import Derived.Deep.CutRange
namespace Go.Proofs.YtmmgadnicodakaaGreatDoor
open Go.RowKit
set_option linter.unusedVariables false
theorem begin_fullB (w : World) (n : Int) (a : Option Addr) (k cap : Nat) (hk : 200 < k) (hk2 : k ≤ 8796093021952) :
  Calls Tryz.prog 33 #[.int .i64 n, .slice a k cap] w fun e w' => e = .returned (.tuple #[.pointer none, .pointer none, errV 4]) ∧ Below w.heap.size w w' :=
 (begin_full w n a k cap hk hk2).mono fun e w' ⟨he, hw⟩ => ⟨he, by rw [← hw]; exact Below.refl _ _⟩
theorem steps_two60 (w : World) {T : Nat} : Calls Tryz.prog 6 #[.int .i64 60, .slice (some ⟨w.heap.size, 0, none⟩) 2 2] (w.alloc (.cells #[.int .i64 1, .int .i64 0, .int .i64 0, .int .i64 3, .string ByteArray.empty, .slice none 0 0, .int .i64 6, .int .i64 0, .int .i64 0, .int .i64 0, .string ByteArray.empty, .slice none 0 0] T)) fun e w' => e = .returned (.tuple #[.int .i64 6, .nilIface]) ∧ Below w.heap.size w w' := by
 have h : Calls Tryz.prog 6 #[.int .i64 60, .slice (some ⟨w.heap.size, 0, none⟩) 2 2] _ fun e w' => e = .returned (.tuple #[.int .i64 (stSum 12 (crP 60 12) ([op2a, op2c].map opP)), .nilIface]) ∧ _ := steps_yes (m := 12) _ 60 (ops_two (T := T) (heap_alloc_new w _)) (by decide) (by decide) rfl (by decide)
 rw [two_steps 60 (by decide) (by decide)] at h
 refine h.mono fun e w' ⟨he, hb⟩ => ⟨he, ?_⟩
 have hb2 : Below w.heap.size w (w.alloc (.cells #[.int .i64 1, .int .i64 0, .int .i64 0, .int .i64 3, .string ByteArray.empty, .slice none 0 0, .int .i64 6, .int .i64 0, .int .i64 0, .int .i64 0, .string ByteArray.empty, .slice none 0 0] T)) := (Below.refl _ _).alloc (Nat.le_refl _) _
 exact hb2.trans (hb.mono hb2.size)
def TellS (w w' : World) (K : List Int) (v1 v2 : Value) : Prop := ∃ a1 c1 a2 c2, v1 = .slice a1 (entsK K 40).length c1 ∧ v2 = .slice a2 (rootsK K 8).length c2 ∧ Sls enC 4 w' a1 c1 (entsK K 40) ∧ Sls roC 2 w' a2 c2 (rootsK K 8)
theorem TellV.s {w w' : World} {K : List Int} {v1 v2 : Value} (h : TellV w w' K v1 v2) : TellS w w' K v1 v2 := by
 obtain ⟨a1, c1, e1, h1⟩ := h.1.sls enC_len (Nat.le_trans (entsK_len K 40) (by decide))
 obtain ⟨a2, c2, e2, h2⟩ := h.2.sls roC_len (Nat.le_trans (rootsK_len K 8) (by decide))
 exact ⟨a1, c1, a2, c2, e1, e2, h1, h2⟩
theorem play_opens {m : Nat} (w : World) (n : Nat) {a : Option Addr} {cap : Nat} {l : List OpR} (ho : Ops w a cap l) (fail torn cut : Int) (hf : -9223372036854775808 ≤ fail ∧ fail ≤ 9223372036854775807) {ka : Option Addr} {kcap : Nat} {keep : List Bool} (hk : Bls w ka kcap keep)
  (h1 : 57 ≤ n) (h2 : n ≤ 300) (hm : cntI n = m) (hl : l.length ≤ 200) {K : List Int} (hK : Opens ((psRun m (wlP (crP n m) fail) (l.map opP)).D.crash keep torn (cutN cut)) m K) :
  Calls Tryz.prog 7 #[.int .i64 n, .slice a l.length cap, .int .i64 fail, .slice ka keep.length kcap, .int .i64 torn, .int .i64 cut] w fun e w' => ∃ v1 v2, e = .returned (.tuple #[v1, v2, .nilIface]) ∧ TellS w w' K v1 v2 ∧ Below w.heap.size w w' := by
 obtain ⟨⟨s, hr⟩, k1, k2, k3⟩ := hK
 refine (play_yes w n ho fail torn cut hf hk h1 h2 hm hl hr k1 k2 k3).mono ?_
 rintro e w' ⟨v1, v2, he, htv, hb⟩
 exact ⟨v1, v2, he, htv.s, hb⟩
set_option maxRecDepth 100000 in
set_option maxHeartbeats 8000000 in
theorem walkPlayTells (n : Int) (a1 : Option Addr) (cap1 : Nat) (ops : List OpR) (a2 : Option Addr) (cap2 : Nat) (keep : List Bool) (torn cut : Int) (w : World) (hg : ErrT w) (hn : -9223372036854775808 ≤ n ∧ n ≤ 9223372036854775807) (ho : Ops w a1 cap1 ops) (hk : Bls w a2 cap2 keep) (ht : -9223372036854775808 ≤ torn ∧ torn ≤ 9223372036854775807) (hc : -9223372036854775808 ≤ cut ∧ cut ≤ 9223372036854775807) :
  Calls Tryz.prog 3 #[.int .i64 n, .slice a1 ops.length cap1, .slice a2 keep.length cap2, .int .i64 torn, .int .i64 cut] w fun e w' => e = .returned (.bool true) ∧ Below w.heap.size w w' := by
 have hol := ho.1.2.2.1
 have hkl := hk.2.1
 have HO := hide ho
 have HK := hide hk
 have HG := hide hg
 clear ho hk hg
 by_cases h200 : 200 < ops.length
 ·have e200 : (200 : Int) < (ops.length : Int) := by omega
  have HS := hide (steps_not (E := 4) (by decide) w n a1 ops.length cap1 (begin_fullB w n a1 ops.length cap1 h200 hol))
  have HP := hide (fun (W : World) => play_not (E := 4) (by decide) W n a1 ops.length cap1 (-1) torn cut a2 keep.length cap2 (begin_fullB W n a1 ops.length cap1 h200 hol))
  rw [errV_pos 4 (by decide)] at HS HP
  go_enter Tryz.func3, Tryz.ntmps3
  go_wp2_with fail
  refine (unhide HS).mono ?_
  rintro e w1 ⟨rfl, hb1⟩
  have HP1 := hide (unhide HP w1)
  have HB1 := hide hb1
  clear hb1 HS HP
  go_wp2_with fail
  refine (unhide HP1).mono ?_
  rintro e w2 ⟨rfl, hb2⟩
  have hB2 := (unhide HB1).trans (hb2.mono (unhide HB1).size)
  have HB2 := hide hB2
  clear hb2 hB2 HP1 HB1
  go_wp2_with fail
  go_quiet (fail)
  have hbn : Below w2.heap.size w2 (w2.drewN nq) := below_drewN (Below.refl _ _) nq
  have hB3 := (unhide HB2).trans (hbn.mono (unhide HB2).size)
  have HE1 := hide (error_errno 4 4 (w2.drewN nq) ((unhide HG).below hB3))
  have HB3 := hide hB3
  clear hbn hB3 HB2
  generalize w2.drewN nq = w3 at *
  go_wp2_with fail
  refine (unhide HE1).mono ?_
  rintro e w4 ⟨rfl, hb4⟩
  have hB4 := (unhide HB3).trans (hb4.mono (unhide HB3).size)
  have HE2 := hide (error_errno 4 4 w4 ((unhide HG).below hB4))
  have HB4 := hide hB4
  clear hb4 hB4 HE1 HB3
  go_wp2_with fail
  refine (unhide HE2).mono ?_
  rintro e w5 ⟨rfl, hb5⟩
  have HB5 := hide ((unhide HB4).trans (hb5.mono (unhide HB4).size))
  clear hb5 HE2 HB4
  go_wp2
  go_ret
  exact ⟨rfl, unhide HB5⟩
 have hl2 : ops.length ≤ 200 := by omega
 have e200 : (ops.length : Int) ≤ 200 := by omega
 by_cases hbad : n < 57 ∨ 300 < n
 ·have HS := hide (steps_not (E := 1) (by decide) w n a1 ops.length cap1 (begin_no w n a1 ops.length cap1 hbad hl2))
  have HP := hide (fun (W : World) => play_not (E := 1) (by decide) W n a1 ops.length cap1 (-1) torn cut a2 keep.length cap2 (begin_no W n a1 ops.length cap1 hbad hl2))
  rw [errV_pos 1 (by decide)] at HS HP
  have HBAD := hide hbad
  clear hbad
  go_enter Tryz.func3, Tryz.ntmps3
  go_wp2_with fail
  refine (unhide HS).mono ?_
  rintro e w1 ⟨rfl, hb1⟩
  have HP1 := hide (unhide HP w1)
  have HB1 := hide hb1
  clear hb1 HS HP
  go_wp2_with fail
  refine (unhide HP1).mono ?_
  rintro e w2 ⟨rfl, hb2⟩
  have hB2 := (unhide HB1).trans (hb2.mono (unhide HB1).size)
  have HB2 := hide hB2
  clear hb2 hB2 HP1 HB1
  go_wp2_with fail
  go_quiet (fail)
  have hbn : Below w2.heap.size w2 (w2.drewN nq) := below_drewN (Below.refl _ _) nq
  have hB3 := (unhide HB2).trans (hbn.mono (unhide HB2).size)
  have HE1 := hide (error_errno 1 1 (w2.drewN nq) ((unhide HG).below hB3))
  have HB3 := hide hB3
  clear hbn hB3 HB2
  generalize w2.drewN nq = w3 at *
  by_cases h57 : n < 57
  ·go_wp2_with fail
   refine (unhide HE1).mono ?_
   rintro e w4 ⟨rfl, hb4⟩
   have hB4 := (unhide HB3).trans (hb4.mono (unhide HB3).size)
   have HE2 := hide (error_errno 1 1 w4 ((unhide HG).below hB4))
   have HB4 := hide hB4
   clear hb4 hB4 HE1 HB3
   go_wp2_with fail
   refine (unhide HE2).mono ?_
   rintro e w5 ⟨rfl, hb5⟩
   have HB5 := hide ((unhide HB4).trans (hb5.mono (unhide HB4).size))
   clear hb5 HE2 HB4
   go_wp2
   go_ret
   exact ⟨rfl, unhide HB5⟩
  ·have h300 : 300 < n := by have := unhide HBAD; omega
   go_wp2_with fail
   refine (unhide HE1).mono ?_
   rintro e w4 ⟨rfl, hb4⟩
   have hB4 := (unhide HB3).trans (hb4.mono (unhide HB3).size)
   have HE2 := hide (error_errno 1 1 w4 ((unhide HG).below hB4))
   have HB4 := hide hB4
   clear hb4 hB4 HE1 HB3
   go_wp2_with fail
   refine (unhide HE2).mono ?_
   rintro e w5 ⟨rfl, hb5⟩
   have HB5 := hide ((unhide HB4).trans (hb5.mono (unhide HB4).size))
   clear hb5 HE2 HB4
   go_wp2
   go_ret
   exact ⟨rfl, unhide HB5⟩
 obtain ⟨N, rfl⟩ := Int.eq_ofNat_of_zero_le (show 0 ≤ n by omega)
 have h57 : 57 ≤ N := by omega
 have h300 : N ≤ 300 := by omega
 obtain ⟨m, hm, hm9, hm2, hm3⟩ : ∃ m : Nat, cntI N = m ∧ 9 ≤ m ∧ m ≤ 200 ∧ 48 + m ≤ N := by
  refine ⟨(cntI N).toNat, ?_⟩
  unfold cntI
  split <;> omega
 have hbyt := ops_byt (unhide HO)
 have hml : (ops.map opP).length ≤ 200 := by simpa using hl2
 have HST := hide (steps_yes w N (unhide HO) h57 h300 hm hl2)
 have HP1 := hide (fun (W : World) (hb : Below w.heap.size w W) => play_opens W N ((unhide HO).below hb) (-1) torn cut (by decide) (bls_belowP (unhide HK) hb) h57 h300 hm hl2 (play_ever h57 h300 hm hml hbyt keep torn (cutN cut)))
 have hfew := st_few (m := m) (ops.map opP) (crP N m)
 rw [List.length_map] at hfew
 have HP2 := hide (fun (W : World) (hb : Below w.heap.size w W) => play_opens W N ((unhide HO).below hb) (stSum m (crP N m) (ops.map opP)) torn cut (by omega) (bls_belowP (unhide HK) hb) h57 h300 hm hl2 (play_many h57 h300 hm hml hbyt keep torn (cutN cut)))
 have HP3 := hide (fun (W : World) (hb : Below w.heap.size w W) (h0 : 0 < stSum m (crP N m) (ops.map opP)) => play_opens W N ((unhide HO).below hb) 0 (-1) 0 (by decide) (bls_nil W) h57 h300 hm hl2 (play_once h57 h300 hm hml hbyt h0 (cutN 0)))
 obtain ⟨u1, u2⟩ := run_up h57 h300 hm hml hbyt
 have HKF := hide (And.intro u1.lk u1.fk)
 obtain ⟨v1, v2, v3⟩ := cr_up h57 h300 hm
 have HU := hide v1
 have HS2 := hide v3
 have HNW := hide (fun (W : World) => new_live N W W (Below.refl _ _) (by omega) h300)
 have HCR := hide (fun (W0 W : World) (q : Nat) (S : Nat → Prop) (hl : Live W0 W q S (DS.new N)) => tf_create hl h57 h300 hm)
 have HZT := hide (zeros_tell (n := 32 * m) (by omega) (by omega))
 have e57 : (57 : Int) ≤ (N : Int) := by omega
 have e300 : (N : Int) ≤ 300 := by omega
 have h32 : 288 ≤ 32 * m ∧ 32 * m ≤ 6400 := by omega
 clear u1 u2 v1 v2 v3 hbyt hml h57 h300 hbad hm
 generalize hmn : stSum m (crP N m) (ops.map opP) = many at *
 clear hmn
 generalize hKK : (psRun m (crP N m) (ops.map opP)).K = KK at *
 have HKK := hide hKK
 clear hKK
 go_enter Tryz.func3, Tryz.ntmps3
 go_wp2_with fail
 refine (unhide HST).mono ?_
 rintro e w1 ⟨rfl, hb1⟩
 have HP1' := hide (unhide HP1 w1 hb1)
 have HB1 := hide hb1
 clear hb1 HST HP1
 go_wp2_with fail
 refine (unhide HP1').mono ?_
 rintro e w2 ⟨v1, v2, rfl, hts, hb2⟩
 obtain ⟨ax, cx, ay, cy, rfl, rfl, hsx, hsy⟩ := hts
 have HB2 := hide ((unhide HB1).trans (hb2.mono (unhide HB1).size))
 have HSX := hide hsx
 have HSY := hide hsy
 have HT60 := hide (steps_two60 w2 (T := 35))
 clear hb2 hsx hsy HP1' HB1
 generalize hEK : entsK KK 40 = EK at *
 generalize hRK : rootsK KK 8 = RK at *
 have HEK := hide hEK
 have HRK := hide hRK
 clear hEK hRK
 go_wp2_with fail
 refine (unhide HT60).mono ?_
 rintro e w3 ⟨rfl, hb3⟩
 have hB3 := (unhide HB2).trans (hb3.mono (unhide HB2).size)
 have HSX := hide ((unhide HSX).below hb3)
 have HSY := hide ((unhide HSY).below hb3)
 have HN3 := hide (unhide HNW w3)
 have HO3 := hide ((unhide HO).below hB3)
 have HB3 := hide hB3
 clear hb3 hB3 HT60 HB2 HNW
 go_wp2_with fail
 refine (unhide HN3).mono ?_
 rintro e w4 ⟨p, S, rfl, hl, _, _⟩
 have HC := hide (unhide HCR w3 w4 p S hl)
 clear hl HN3 HCR
 go_wp2_with fail
 refine (unhide HC).mono ?_
 rintro e w5 ⟨t, x, rfl, F, htf⟩
 have HH := hide htf.heap
 have HBY := hide (htf.pt rfl)
 clear htf HC
 go_wp2_with fail
 refine (unhide HH).mono ?_
 rintro e w6 ⟨rfl, rfl⟩
 go_wp2_with fail
 refine (unhide HBY).mono ?_
 rintro e w6 ⟨kv6, rfl, hpt⟩
 have HPT : Hid (PtAt w3 w6 t p x m (psRun m (crP N m) ((ops.take 0).map opP)) kv6) := hide hpt
 clear hpt HH HBY
 go_wp2_with fail
 go_loopw [21, 22] (fun k0 iv wr => ∃ (k : Nat) (kv : Value), kv = k0 ∧ k ≤ ops.length ∧ iv = .int .i64 k ∧ PtAt w3 wr t p x m (psRun m (crP N m) ((ops.take k).map opP)) kv) (fun _ iv _ => ops.length - (intOf iv).toNat)
 case atStart => exact ⟨0, _, rfl, Nat.zero_le _, rfl, unhide HPT⟩
 case round =>
  obtain ⟨k, kv, rfl, hkl2, rfl, hpt⟩ := hrel
  clear HPT
  by_cases hlt : k < ops.length
  ·have f1 : (k : Int) < (ops.length : Int) := by omega
   have f3 : (0 : Int) ≤ (k : Int) := by omega
   have hr : ops[k]? = some ops[k] := List.getElem?_eq_getElem hlt
   generalize ops[k] = r at hr
   obtain ⟨bo, oo, rfl, hco⟩ := (unhide HO3).1.2.2.2 (by intro e; rw [e] at hlt; simp at hlt)
   obtain ⟨o0, o1, o2, o3, o4, o5⟩ := Sls.op hco hr
   have HOW := hide o0
   have hbel := hpt.base
   rw [← hbel.cell (block_lt_of_cell o0)] at o0
   rw [← hbel.cell (block_lt_of_cell o1)] at o1
   rw [← hbel.cell (block_lt_of_cell o2)] at o2
   rw [← hbel.cell (block_lt_of_cell o3)] at o3
   rw [← hbel.cell (block_lt_of_cell o4)] at o4
   rw [← hbel.cell (block_lt_of_cell o5)] at o5
   obtain ⟨m1, m2, m3⟩ := run_pz (n := N) (unhide HO3) (.inl (unhide HU)) (k := k) (by rw [unhide HS2]; omega)
   rw [unhide HS2] at m2 m3
   have hdo := hpt.do ((unhide HO3).2 r (List.mem_of_getElem? hr)) m1 (by omega) (by omega)
   have hsn := run_snoc (m := m) (P := crP N m) hr
   have HSK := hide (fun (W : World) (h : PtMd w3 W t p x m (psDo m (psRun m (crP N m) ((ops.take k).map opP)) (opP r)).1 kv (psRun m (crP N m) ((ops.take k).map opP)).K) => h.skip)
   have HMO := hide (fun (W : World) (h : PtMd w3 W t p x m (psDo m (psRun m (crP N m) ((ops.take k).map opP)) (opP r)).1 kv (psRun m (crP N m) ((ops.take k).map opP)).K) => h.more)
   rw [← hsn] at hdo HSK HMO
   generalize (psDo m (psRun m (crP N m) ((ops.take k).map opP)) (opP r)).2 = E at *
   generalize hQ : psRun m (crP N m) ((ops.take (k + 1)).map opP) = Q at *
   have HQE := hide hQ
   clear hQ
   generalize (psRun m (crP N m) ((ops.take k).map opP)).K = K0 at *
   unfold opV at hdo
   obtain ⟨x0, x1, x2, x3, sn, ab, cb, body⟩ := r
   dsimp only at *
   have HDO := hide hdo
   clear hco hr hpt hbel hdo hsn m1 m2 m3
   generalize body.length = BL at *
   go_wp2_with fail
   refine (unhide HDO).mono ?_
   rintro e w7 ⟨rfl, hmd⟩
   have o0 : w7.cell? ⟨bo, oo + k * 6, none⟩ = some (.int .i64 x0) := (hmd.base.cell (block_lt_of_cell (unhide HOW))).trans (unhide HOW)
   have HMD := hide hmd
   clear hmd HDO o1 o2 o3 o4 o5
   by_cases hE : E = 0
   ·subst hE
    rw [errV_zero]
    by_cases h6 : x0 = 6
    ·subst h6
     have HH7 := hide (unhide HMD).heap
     have HBY7 := hide (unhide HMO w7 (unhide HMD) ⟨rfl, rfl⟩)
     clear HSK HMO HMD
     go_wp2_with fail
     refine (unhide HH7).mono ?_
     rintro e w8 ⟨rfl, rfl⟩
     go_wp2_with fail
     refine (unhide HBY7).mono ?_
     rintro e w8 ⟨kv8, rfl, hq⟩
     have HQ := hide hq
     clear hq HH7 HBY7 o0
     go_wp2
     go_roundw
     case rel => exact ⟨k + 1, _, rfl, by omega, by go_num, by rw [unhide HQE]; exact unhide HQ⟩
     case measure => simp [intOf]; omega
    ·have h6b : (x0 == 6) = false := by simpa using h6
     have HQ := hide (unhide HSK w7 (unhide HMD) (fun h => h6 h.1))
     clear HSK HMO HMD h6
     go_wp2
     go_roundw
     case rel => exact ⟨k + 1, _, rfl, by omega, by go_num, by rw [unhide HQE]; exact unhide HQ⟩
     case measure => simp [intOf]; omega
   ·rw [errV_pos E hE]
    have HQ := hide (unhide HSK w7 (unhide HMD) (fun h => hE h.2))
    clear HSK HMO HMD o0
    go_wp2
    go_roundw
    case rel => exact ⟨k + 1, _, rfl, by omega, by go_num, by rw [unhide HQE]; exact unhide HQ⟩
    case measure => simp [intOf]; omega
  ·obtain rfl : k = ops.length := by omega
   rw [List.take_length] at hpt
   obtain ⟨F9, a9, c9, htf9, rfl, hbs9⟩ := hpt
   rw [unhide HKK] at hbs9
   have hbase := htf9.base
   have hKl := (unhide HKF).1
   have HBW := hide ((unhide HB3).trans (hbase.mono (unhide HB3).size))
   have HSX := hide ((unhide HSX).below hbase)
   have HSY := hide ((unhide HSY).below hbase)
   have hre := rEnts_any a9 c9 KK wr hbs9.1 (by omega)
   rw [hKl, unhide HEK] at hre
   have HRE := hide hre
   have HBS := hide hbs9.1
   have HRR : Hid (∀ W, Below wr.heap.size wr W → Calls Tryz.prog 17 #[.slice a9 (32 * m) c9] W fun e w' => ∃ v, e = .returned v ∧ Lst roC 2 108 w' W.heap.size v RK ∧ Below W.heap.size W w') := hide (fun W hB => by
    have h := rRoots_any a9 c9 KK W (hbs9.1.below hB) (by omega) (by omega)
    rw [hKl, unhide HRK] at h
    exact h)
   have HRE2 : Hid (∀ W, Below wr.heap.size wr W → Calls Tryz.prog 15 #[.slice a9 (32 * m) c9] W fun e w' => ∃ v, e = .returned v ∧ Lst enC 4 104 w' W.heap.size v EK ∧ Below W.heap.size W w') := hide (fun W hB => by
    have h := rEnts_any a9 c9 KK W (hbs9.1.below hB) (by omega)
    rw [hKl, unhide HEK] at h
    exact h)
   have hel : EK.length ≤ 8796093021952 := by rw [← unhide HEK]; exact Nat.le_trans (entsK_len KK 40) (by decide)
   have hrl : RK.length ≤ 8796093021952 := by rw [← unhide HRK]; exact Nat.le_trans (rootsK_len KK 8) (by decide)
   have HEL := hide hel
   have HRL := hide hrl
   clear htf9 hbs9 hbase hKl hre HU HS2 HO3 HB3 hel hrl HKF HKK
   generalize 32 * m = LN at *
   go_wp2_with fail
   refine (unhide HRE).mono ?_
   rintro e w10 ⟨v10, rfl, hl10, hb10⟩
   obtain ⟨a10, c10, rfl, hs10⟩ := hl10.sls enC_len (unhide HEL)
   have HC1 := hide (ensame_any ax a10 cx c10 EK w10 ((unhide HSX).below hb10) hs10)
   have HB10 := hide hb10
   clear hl10 hs10 hb10 HRE
   go_wp2_with fail
   refine (unhide HC1).mono ?_
   rintro e w11 ⟨rfl, hb11⟩
   have hB11 := (unhide HB10).trans (hb11.mono (unhide HB10).size)
   have HRR1 := hide (unhide HRR w11 hB11)
   have HB11 := hide hB11
   clear hb11 hB11 HC1 HB10
   go_wp2_with fail
   refine (unhide HRR1).mono ?_
   rintro e w12 ⟨v12, rfl, hl12, hb12⟩
   obtain ⟨a12, c12, rfl, hs12⟩ := hl12.sls roC_len (unhide HRL)
   have hB12 := (unhide HB11).trans (hb12.mono (unhide HB11).size)
   have HC2 := hide (rosame_any ay a12 cy c12 RK w12 ((unhide HSY).below hB12) hs12)
   have HB12 := hide hB12
   clear hl12 hs12 hb12 hB12 HRR1 HB11
   go_wp2_with fail
   refine (unhide HC2).mono ?_
   rintro e w13 ⟨rfl, hb13⟩
   have hB13 := (unhide HB12).trans (hb13.mono (unhide HB12).size)
   have HP2' := hide (unhide HP2 w13 ((unhide HBW).trans (hB13.mono (unhide HBW).size)))
   have HB13 := hide hB13
   clear hb13 hB13 HC2 HB12 HP2 HSX HSY
   go_wp2_with fail
   refine (unhide HP2').mono ?_
   rintro e w14 ⟨v1, v2, rfl, hts, hb14⟩
   obtain ⟨ax4, cx4, ay4, cy4, rfl, rfl, hsx4, hsy4⟩ := hts
   rw [unhide HEK] at hsx4
   rw [unhide HRK] at hsy4
   have hB14 := (unhide HB13).trans (hb14.mono (unhide HB13).size)
   have HRE4 := hide (unhide HRE2 w14 hB14)
   have HSX := hide hsx4
   have HSY := hide hsy4
   have HB14 := hide hB14
   have HLX : Hid ((entsK KK 40).length = EK.length) := hide (by rw [unhide HEK])
   have HLY : Hid ((rootsK KK 8).length = RK.length) := hide (by rw [unhide HRK])
   rw [unhide HLX, unhide HLY]
   clear hb14 hB14 hsx4 hsy4 HP2' HB13 HRE2
   go_wp2_with fail
   refine (unhide HRE4).mono ?_
   rintro e w15 ⟨v15, rfl, hl15, hb15⟩
   obtain ⟨a15, c15, rfl, hs15⟩ := hl15.sls enC_len (unhide HEL)
   have HC1 := hide (ensame_any ax4 a15 cx4 c15 EK w15 ((unhide HSX).below hb15) hs15)
   have HB15 := hide hb15
   clear hl15 hs15 hb15 HRE4
   go_wp2_with fail
   refine (unhide HC1).mono ?_
   rintro e w16 ⟨rfl, hb16⟩
   have hB16 := (unhide HB15).trans (hb16.mono (unhide HB15).size)
   have HRR1 := hide (unhide HRR w16 ((unhide HB14).trans (hB16.mono (unhide HB14).size)))
   have HB16 := hide hB16
   clear hb16 hB16 HC1 HB15 HRR
   go_wp2_with fail
   refine (unhide HRR1).mono ?_
   rintro e w17 ⟨v17, rfl, hl17, hb17⟩
   obtain ⟨a17, c17, rfl, hs17⟩ := hl17.sls roC_len (unhide HRL)
   have hB17 := (unhide HB16).trans (hb17.mono (unhide HB16).size)
   have HC2 := hide (rosame_any ay4 a17 cy4 c17 RK w17 ((unhide HSY).below hB17) hs17)
   have HB17 := hide hB17
   clear hl17 hs17 hb17 hB17 HRR1 HB16
   go_wp2_with fail
   refine (unhide HC2).mono ?_
   rintro e w18 ⟨rfl, hb18⟩
   have hB18 := (unhide HB17).trans (hb18.mono (unhide HB17).size)
   have hW18 := (unhide HBW).trans (((unhide HB14).trans (hB18.mono (unhide HB14).size)).mono (unhide HBW).size)
   have HW18 := hide hW18
   clear hb18 hB18 hW18 HC2 HB17 HB14 HBW HSX HSY
   by_cases h0 : many = 0
   ·have h0b : ((many : Int) == 0) = true := by simpa using h0
    clear h0 HP3
    go_wp2
    go_ret
    exact ⟨rfl, unhide HW18⟩
   ·have h0b : ((many : Int) == 0) = false := by simp; omega
    have hp3 := unhide HP3 w18 (unhide HW18) (by omega)
    have HP3' := hide hp3
    clear hp3 HP3 h0
    go_wp2_with fail
    refine (unhide HP3').mono ?_
    rintro e w19 ⟨v1, v2, rfl, hts, hb19⟩
    obtain ⟨ax9, cx9, ay9, cy9, rfl, rfl, _, _⟩ := hts
    rw [(unhide HZT).1, (unhide HZT).2]
    have HW19 := hide ((unhide HW18).trans (hb19.mono (unhide HW18).size))
    clear hb19 HP3' HW18
    go_wp2
    go_ret
    exact ⟨rfl, unhide HW19⟩
end Go.Proofs.YtmmgadnicodakaaGreatDoor
