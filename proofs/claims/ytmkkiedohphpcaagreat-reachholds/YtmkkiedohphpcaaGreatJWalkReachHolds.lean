/-
  The walk of ReachHolds. (Part of the proof of ReachHolds.)
-/
import Derived.Test.YtmkkiedohphpcaaGreatJRh
import Derived.Test.YtmkkiedohphpcaaGreatJRc
import Derived.Deep.QuietTactic
import Derived.BigQuiet
namespace Go.Proofs.YtmkkiedohphpcaaGreat
open Go.RowKit
set_option linter.unusedVariables false

theorem fine_inL {L : List Int} (hf : Fine L) {k : Int} (h1 : 1 ≤ k) (h2 : k ≤ 40) (ht : tagAt L k ≠ 0) : InL L.length (entOf L k) := by
  have := hf.ent h1 h2 ht
  unfold InL
  omega
theorem rAny_snoc {R : List (ByteArray × Int)} {k : Nat} {r : (ByteArray × Int)} (h : R[k]? = some r) (z : Int) : (R.take (k + 1)).any (fun r => r.2 == z) = ((R.take k).any (fun r => r.2 == z) || (r.2 == z)) := by
  rw [List.take_add_one, h, List.any_append]
  simp
set_option maxRecDepth 100000 in
set_option maxHeartbeats 16000000 in
theorem walkReachHolds (a : Option Addr) (cap : Nat) (b : List Int) (w : World) (hb : Bs w a cap b) :
    Calls Tryz.prog 3 #[.slice a b.length cap] w fun e w' => e = .returned (.bool true) ∧ Below w.heap.size w w' := by
  have hbl := hb.2.2.1
  have HB0 := hide hb
  have HN := hide (hNew_yes 320 w (by decide))
  obtain ⟨f1, f2, f3, f4, f5, f6, f7, f8, f9⟩ := hold_fact
  have HA1 := hide (fun (W : World) (p g c : Nat) (h : Hp W w.heap.size p g c (zerosB 320)) (hW : Below w.heap.size w W) => stp_alloc (w := w) f1 f2 W p g c h hW)
  have HA2 := hide (fun (W : World) (p g c : Nat) (h : Hp W w.heap.size p g c (alB (zerosB 320) 2 1)) (hW : Below w.heap.size w W) => stp_alloc (w := w) f3 f4 W p g c h hW)
  have HW1 := hide (fun (W : World) (p g c : Nat) (h : Hp W w.heap.size p g c (alB (alB (zerosB 320) 2 1) 2 0)) (hW : Below w.heap.size w W) => stp_write (w := w) (k := 1) (z := 2) f5 rfl (by decide) (by decide) W p g c h hW)
  have HS1 := hide (fun (W : World) (p g c : Nat) (h : Hp W w.heap.size p g c (wrB (alB (alB (zerosB 320) 2 1) 2 0) 1 0 [2])) (hW : Below w.heap.size w W) => stp_set (w := w) (wrB (alB (alB (zerosB 320) 2 1) 2 0) 1 0 [2]) nmA 1 (by decide) W p g c h hW)
  rw [f6, f7, f8, errV_zero] at HS1
  have HL1 := hide (fun (W : World) (p g c : Nat) (h : Hp W w.heap.size p g c (seB (wrB (alB (alB (zerosB 320) 2 1) 2 0) 1 0 [2]) nmA 1)) => live_count h f9)
  clear hb f1 f2 f3 f4 f5 f6 f7 f8 f9
  generalize seB (wrB (alB (alB (zerosB 320) 2 1) 2 0) 1 0 [2]) nmA 1 = I4 at *
  generalize wrB (alB (alB (zerosB 320) 2 1) 2 0) 1 0 [2] = I3 at *
  generalize alB (alB (zerosB 320) 2 1) 2 0 = I2 at *
  generalize alB (zerosB 320) 2 1 = I1 at *
  generalize zerosB 320 = I0 at *
  unfold nmA at HS1
  -- the contracts of the second part
  have hf := ldL_fine b
  have hml := hf.len
  have HLD := hide (fun (W : World) (hW : Below w.heap.size w W) => loadedO_any a cap b W ((unhide HB0).below hW))
  have HLV := hide (fun (W : World) (B p g c : Nat) (h : Hp W B p g c (ldL b)) => rhLive_any h)
  have HDD := hide (fun (W : World) (B p g c : Nat) (h : Hp W B p g c (ldL b)) => rhDead_any h)
  have HRA := hide (fun (W : World) (B p g c : Nat) (h : Hp W B p g c (ldL b)) => roAll_any p g c B (ldL b) W h)
  have HIN := hide (fun (W : World) (a1 : Option Addr) (c1 : Nat) (l : List Int) (x : Int) (h : Sls inC 1 W a1 c1 l) => lawIn_any a1 c1 l x W h)
  have HRT := hide (fun (r : (ByteArray × Int)) (hr : r ∈ rootsK (ldL b) 8) => live_root hf hr)
  have HOK := hide (fun (x : Int) (hx : x ∈ lvK (ldL b) 40) => live_ok hf hx)
  have HNX := hide (fun (x y : Int) (hx : x ∈ lvK (ldL b) 40) (hy : y ∈ refsL (ldL b) x) => live_next hf hx hy)
  have HWY := hide (fun (x : Int) (hx : x ∈ lvK (ldL b) 40) => live_way hf hx)
  have HRF := hide (fun (W : World) (B p g c : Nat) (x : Int) (h : Hp W B p g c (ldL b)) => rhRefs_any p g c B (ldL b) x W h)
  have HPA := hide (fun (W : World) (B p g c : Nat) (x : Int) (h : Hp W B p g c (ldL b)) => rhPath_any h x)
  have HSW := hide (fun (W : World) (B p g c : Nat) (h : Hp W B p g c (ldL b)) (hB : B ≤ W.heap.size) => rhSweep_any h hB)
  have HDZ : Hid (∀ (W : World) (p g c : Nat), Hp W w.heap.size p g c (swL (ldL b) (ddK (ldL b) 40)) → Calls Tryz.prog 11 #[.pointer (some ⟨p, 0, none⟩)] W fun e w' => ∃ a c1, e = .returned (.slice a 0 c1) ∧ Below W.heap.size W w') := hide (fun W p g c h => dead_count h (by rw [sweep_none hf (sweep_swept hf)]; rfl))
  have HOB := hide (fun (h : Int) (h1 : 1 ≤ h) (h2 : h ≤ 40) => swept_obj hf h1 h2)
  have hsl : (swL (ldL b) (ddK (ldL b) 40)).length = (ldL b).length := (sweep_swept hf).len
  have hsf : Fine (swL (ldL b) (ddK (ldL b) 40)) := (sweep_swept hf).fine
  have HOM := hide (fun (W : World) (am : Option Addr) (cm : Nat) (h : Int) (hm : Bs W am cm (ldL b)) (h1 : 1 ≤ h) (h2 : h ≤ 40) => rObject_any am cm (ldL b) h W hm hml.1 h1 h2 (fine_inL hf h1 h2))
  have HOS := hide (fun (W : World) (am : Option Addr) (cm : Nat) (h : Int) (hm : Bs W am cm (swL (ldL b) (ddK (ldL b) 40))) (h1 : 1 ≤ h) (h2 : h ≤ 40) => rObject_any am cm (swL (ldL b) (ddK (ldL b) 40)) h W hm (by rw [hsl]; exact hml.1) h1 h2 (fine_inL hsf h1 h2))
  have HBY := hide (fun (W : World) (B p g c : Nat) (h : Hp W B p g c (swL (ldL b) (ddK (ldL b) 40))) => hBytes_any p g c B (swL (ldL b) (ddK (ldL b) 40)) W h)
  rw [hsl] at HOS HBY
  have hrl := rootsK_len (ldL b) 8
  have hll := lvK_len (ldL b)
  have hdl := ddK_len (ldL b) 40
  have HRL := hide (fun x => refsL_len (ldL b) x hf)
  clear hf hsl hsf
  generalize swL (ldL b) (ddK (ldL b) 40) = SM at *
  generalize lvK (ldL b) 40 = LV at *
  generalize ddK (ldL b) 40 = DD at *
  generalize rootsK (ldL b) 8 = RS at *
  generalize ldL b = M at *
  generalize b.length = nb at *
  generalize hMN : M.length = N at *
  clear hMN
  go_enter Tryz.func3, Tryz.ntmps3
  go_wp2_with fail
  refine (unhide HN).mono ?_
  rintro e w1 ⟨p1, g1, c1, rfl, hh1, hb1⟩
  have HC1 := hide (unhide HA1 w1 p1 g1 c1 hh1 hb1)
  clear hh1 hb1 HN HA1
  go_wp2_with fail
  refine (unhide HC1).mono ?_
  rintro e w2 ⟨rfl, g2, c2, hh2, hb2⟩
  have HC2 := hide (unhide HA2 w2 p1 g2 c2 hh2 hb2)
  clear hh2 hb2 HC1 HA2
  go_wp2_with fail
  refine (unhide HC2).mono ?_
  rintro e w3 ⟨rfl, g3, c3, hh3, hb3⟩
  have HC3 := hide (unhide HW1 w3 p1 g3 c3 hh3 hb3)
  clear hh3 hb3 HC2 HW1
  go_wp2_with fail
  refine (unhide HC3).mono ?_
  rintro e w4 ⟨rfl, g4, c4, hh4, hb4⟩
  have HC4 := hide (unhide HS1 w4 p1 g4 c4 hh4 hb4)
  clear hh4 hb4 HC3 HS1
  go_wp2_with fail
  refine (unhide HC4).mono ?_
  rintro e w5 ⟨rfl, g5, c5, hh5, hb5⟩
  have HC5 := hide (unhide HL1 w5 p1 g5 c5 hh5)
  have HB5 := hide hb5
  clear hh5 hb5 HC4 HL1
  go_wp2_with fail
  refine (unhide HC5).mono ?_
  rintro e w6 ⟨a6, c6, rfl, hb6⟩
  have hB6 := (unhide HB5).trans (hb6.mono (unhide HB5).size)
  have HC6 := hide (unhide HLD w6 hB6)
  have HB6 := hide hB6
  clear hb6 hB6 HC5 HB5 HLD
  go_wp2_with fail
  refine (unhide HC6).mono ?_
  rintro e w7 ⟨p, g, c, am, cm, rfl, hh7, hm7, hb7⟩
  have hh7' : Hp w7 w.heap.size p g c M := hh7.lowB (unhide HB6).size
  have HB7 := hide ((unhide HB6).trans (hb7.mono (unhide HB6).size))
  have HC7 := hide (unhide HLV w7 _ p g c hh7')
  have HH7 := hide hh7'
  have HM7 := hide hm7
  clear hh7 hh7' hm7 hb7 HC6 HB6 HLV
  go_wp2_with fail
  refine (unhide HC7).mono ?_
  rintro e w8 ⟨v8, rfl, hl8, hb8⟩
  obtain ⟨al, cl, rfl, hs8⟩ := hl8.sls inC_len (by omega)
  have HH8 := hide ((unhide HH7).below hb8)
  have HM8 := hide ((unhide HM7).below hb8)
  have HSL := hide hs8
  have HB8 := hide ((unhide HB7).trans (hb8.mono (unhide HB7).size))
  have HC8 := hide (unhide HDD w8 _ p g c (unhide HH8))
  have hcl8 := hs8.2.2.1
  clear hl8 hs8 hb8 HC7 HH7 HM7 HB7 HDD
  go_wp2_with fail
  refine (unhide HC8).mono ?_
  rintro e w9 ⟨v9, rfl, hl9, hb9⟩
  have HDN : Hid (∀ k, v9.ownBlock = some k → ¬ foot p g k) := hide (fun k hk hft => by
    have h1 := hl9.block k hk
    have h2 : k < w8.heap.size := by
      rcases hft with rfl | rfl
      · exact (unhide HH8).plt
      · exact (unhide HH8).glt
    omega)
  obtain ⟨ad, cd, rfl, hs9⟩ := hl9.sls inC_len (by omega)
  have HH9 := hide ((unhide HH8).below hb9)
  have HM9 := hide ((unhide HM8).below hb9)
  have HSL9 := hide ((unhide HSL).below hb9)
  have HSD9 := hide hs9
  have HB9 := hide ((unhide HB8).trans (hb9.mono (unhide HB8).size))
  have HC9 := hide (unhide HRA w9 _ p g c (unhide HH9))
  have hcl9 := hs9.2.2.1
  clear hl9 hs9 hb9 HC8 HH8 HM8 HB8 HSL HRA
  go_wp2_with fail
  refine (unhide HC9).mono ?_
  rintro e wa ⟨va, rfl, hla, hba⟩
  obtain ⟨ar, cr, rfl, hsa⟩ := hla.sls roC_len (by omega)
  have HH := hide ((unhide HH9).below hba)
  have HM := hide ((unhide HM9).below hba)
  have HSL := hide ((unhide HSL9).below hba)
  have HSD := hide ((unhide HSD9).below hba)
  have HSR := hide hsa
  have HB := hide ((unhide HB9).trans (hba.mono (unhide HB9).size))
  have hclr := hsa.2.2.1
  clear hla hsa hba HC9 HH9 HM9 HB9 HSL9 HSD9
  go_wp2_with fail
  go_loopw [18, 19] (fun iv _ wr => ∃ k : Nat, k ≤ RS.length ∧ iv = .int .i64 (k : Int) ∧ Below wa.heap.size wa wr) (fun iv _ _ => RS.length - (intOf iv).toNat)
  case atStart => exact ⟨0, Nat.zero_le _, rfl, Below.refl _ _⟩
  case round =>
    obtain ⟨k, hk, rfl, hbel⟩ := hrel
    by_cases hlt : k < RS.length
    · obtain ⟨b1, o1, rfl, hc1⟩ := ((unhide HSR).below hbel).2.2.2 (by intro e; rw [e] at hlt; simp at hlt)
      obtain ⟨r, hr⟩ : ∃ r, RS[k]? = some r := ⟨RS[k], List.getElem?_eq_getElem hlt⟩
      obtain ⟨q0, q1⟩ := Sls.root (cap := 0) hc1 hr
      have hin := unhide HIN wr al cl LV r.2 ((unhide HSL).below hbel)
      rw [unhide HRT r (List.mem_of_getElem? hr)] at hin
      have HI := hide hin
      have HBEL := hide hbel
      obtain ⟨s, x⟩ := r
      dsimp only at *
      clear hc1 hr hin hbel q0
      go_wp2_with fail
      refine (unhide HI).mono ?_
      rintro e w2 ⟨rfl, hw2⟩
      subst hw2
      clear HI q1
      go_wp2
      go_roundw
      case rel => exact ⟨k + 1, by omega, by go_num, unhide HBEL⟩
      case measure => simp [intOf]; omega
    · have hge : ¬ ((k : Int) < (RS.length : Int)) := by omega
      have HBEL := hide hbel
      clear hlt hk hbel HRT
      go_wp2_with fail
      go_loopw [20, 21, 22, 23, 24, 25, 26, 27, 28, 29, 30, 31, 32] (fun iv _ _ _ _ _ _ _ _ _ _ _ _ wr => ∃ k : Nat, k ≤ LV.length ∧ iv = .int .i64 (k : Int) ∧ Below wa.heap.size wa wr) (fun iv _ _ _ _ _ _ _ _ _ _ _ _ _ => LV.length - (intOf iv).toNat)
      case atStart => exact ⟨0, Nat.zero_le _, rfl, unhide HBEL⟩
      case round =>
        obtain ⟨k, hk, rfl, hbel⟩ := hrel
        clear HBEL
        by_cases hlt : k < LV.length
        · obtain ⟨b1, o1, rfl, hc1⟩ := ((unhide HSL).below hbel).2.2.2 (by intro e; rw [e] at hlt; simp at hlt)
          obtain ⟨x, hx⟩ : ∃ x, LV[k]? = some x := ⟨LV[k], List.getElem?_eq_getElem hlt⟩
          have q0 := Sls.num (cap := 0) hc1 hx
          have hxm := List.mem_of_getElem? hx
          obtain ⟨k1, k2, k3, k4⟩ := unhide HOK x hxm
          obtain ⟨m, hm, hm40, hmx, ⟨z, hz, hzr⟩, hst⟩ := unhide HWY x hxm
          have hR := unhide HRF wr _ p g c x ((unhide HH).below hbel)
          rw [k1, k2, errV_zero] at hR
          have HP := hide (fun (W : World) (hW : Below wa.heap.size wa W) => unhide HPA W _ p g c x ((unhide HH).below hW))
          rw [k4, errV_zero] at HP
          have hxl := unhide HRL x
          rw [k2] at hxl
          have HNXx := hide (fun y (hy : y ∈ refsL M x) => unhide HNX x y hxm hy)
          have HST : Hid (∀ j u v, (wyL M x)[j]? = some u → (wyL M x)[j + 1]? = some v → ∀ (W : World) (hW : Below wa.heap.size wa W), (refsL M u).length ≤ 15 ∧ (Calls Tryz.prog 14 #[.pointer (some ⟨p, 0, none⟩), .int .i64 u] W fun e w' => ∃ v', e = .returned (.tuple #[v', .nilIface]) ∧ Lst inC 1 3 w' W.heap.size v' (refsL M u) ∧ Below W.heap.size W w') ∧ (refsL M u).any (fun z => z == v) = true) := hide (fun j u v hu hv W hW => by
            obtain ⟨s1, s2, s3⟩ := hst j u v hu hv
            have h1 := unhide HRF W _ p g c u ((unhide HH).below hW)
            rw [s1, s2, errV_zero] at h1
            have h2 := unhide HRL u
            rw [s2] at h2
            exact ⟨h2, h1, s3⟩)
          have HRX := hide hR
          have HBEL := hide hbel
          have HMX := hide hmx
          have HZ := hide hz
          have HZR := hide hzr
          have g0 := block_lt_of_cell q0
          clear hc1 hx hxm k1 k2 k3 k4 hst hR hbel hmx hz hzr
          generalize wyL M x = PX at *
          generalize refsL M x = RX at *
          go_wp2_with fail
          refine (unhide HRX).mono ?_
          rintro e w2 ⟨v2, rfl, hl2, hb2⟩
          obtain ⟨a2, c2, rfl, hs2⟩ := hl2.sls inC_len (by omega)
          have q2 := (hb2.cell (p := ⟨b1, o1 + k, none⟩) g0).trans q0
          have hB2 := (unhide HBEL).trans (hb2.mono (unhide HBEL).size)
          have HPX := hide (unhide HP w2 hB2)
          have HRS := hide hs2
          have HB2 := hide hB2
          have hcr := hs2.2.2.1
          have g2 := block_lt_of_cell q2
          clear hl2 hs2 hb2 hB2 HRX HBEL HP q0 g0
          go_wp2_with fail
          refine (unhide HPX).mono ?_
          rintro e wc ⟨v3, rfl, hl3, hb3⟩
          obtain ⟨a3, c3, rfl, hs3⟩ := hl3.sls inC_len (by omega)
          have qx := (hb3.cell (p := ⟨b1, o1 + k, none⟩) g2).trans q2
          have HRSc := hide ((unhide HRS).below hb3)
          have HPS := hide hs3
          have HBC := hide ((unhide HB2).trans (hb3.mono (unhide HB2).size))
          have hcp := hs3.2.2.1
          obtain ⟨b3, o3, rfl, hc3⟩ := hs3.2.2.2 (by intro e; rw [e] at hm; simp at hm)
          have qm := Sls.num (cap := 0) hc3 (unhide HMX)
          obtain ⟨PL, hPL⟩ : ∃ PL, PX.length = PL := ⟨_, rfl⟩
          rw [hPL] at hm hcp ⊢
          have HPL := hide hPL
          have p1 : ¬ ((PL : Int) < 1) := by omega
          have p2 : (m : Int) < (PL : Int) := by omega
          have p3 : IntKind.i64.wrap ((PL : Int) - 1) = (m : Int) := by rw [IntKind.wrap_i64]; omega
          have HM1 := hide hm
          clear hl3 hs3 hb3 HPX HRS HB2 q2 g2 hc3 hPL hm
          go_wp2_with fail
          go_quiet (fail)
          go_wp2_with fail
          have hbq := below_drewN (Below.refl wc.heap.size wc) nq
          have HBQ := hide hbq
          clear hbq p3 qm qx
          go_loopw [25, 26] (fun iv _ wr => ∃ j : Nat, j ≤ RX.length ∧ iv = .int .i64 (j : Int) ∧ Below wc.heap.size wc wr) (fun iv _ _ => RX.length - (intOf iv).toNat)
          case atStart => exact ⟨0, Nat.zero_le _, rfl, unhide HBQ⟩
          case round =>
            obtain ⟨j, hj, rfl, hbel⟩ := hrel
            clear HBQ
            by_cases hjl : j < RX.length
            · obtain ⟨b4, o4, rfl, hc4⟩ := ((unhide HRSc).below hbel).2.2.2 (by intro e; rw [e] at hjl; simp at hjl)
              obtain ⟨y, hy⟩ : ∃ y, RX[j]? = some y := ⟨RX[j], List.getElem?_eq_getElem hjl⟩
              have q4 := Sls.num (cap := 0) hc4 hy
              have hin := unhide HIN wr _ cl LV y (((unhide HSL).below (unhide HBC)).below hbel)
              rw [unhide HNXx y (List.mem_of_getElem? hy)] at hin
              have HI := hide hin
              have HBEL := hide hbel
              clear hc4 hy hin hbel
              go_wp2_with fail
              refine (unhide HI).mono ?_
              rintro e w2 ⟨rfl, hw2⟩
              subst hw2
              clear HI q4
              go_wp2
              go_roundw
              case rel => exact ⟨j + 1, by omega, by go_num, unhide HBEL⟩
              case measure => simp [intOf]; omega
            · have hge : ¬ ((j : Int) < (RX.length : Int)) := by omega
              have HBEL := hide hbel
              clear hjl hj hbel HNXx HRSc
              go_wp2_with fail
              go_loopw [27, 28] (fun bv iv wr => ∃ j : Nat, j ≤ RS.length ∧ iv = .int .i64 (j : Int) ∧ bv = .bool ((RS.take j).any (fun r => r.2 == z)) ∧ Below wc.heap.size wc wr) (fun _ iv _ => RS.length - (intOf iv).toNat)
              case atStart => exact ⟨0, Nat.zero_le _, rfl, rfl, unhide HBEL⟩
              case round =>
                obtain ⟨j, hj, rfl, rfl, hbel⟩ := hrel
                clear HBEL
                by_cases hjl : j < RS.length
                · obtain ⟨b4, o4, rfl, hc4⟩ := (((unhide HSR).below (unhide HBC)).below hbel).2.2.2 (by intro e; rw [e] at hjl; simp at hjl)
                  obtain ⟨r, hr⟩ : ∃ r, RS[j]? = some r := ⟨RS[j], List.getElem?_eq_getElem hjl⟩
                  obtain ⟨_, q4⟩ := Sls.root (cap := 0) hc4 hr
                  have hsn := rAny_snoc hr z
                  obtain ⟨b5, o5, e5, hc5⟩ := ((unhide HPS).below hbel).2.2.2 (by intro e; have h1 := unhide HPL; have h2 := unhide HM1; rw [e] at h1; simp at h1; omega)
                  simp only [Option.some.injEq, Addr.mk.injEq, and_true] at e5
                  obtain ⟨rfl, rfl⟩ := e5
                  have q5 := Sls.num (cap := 0) hc5 (unhide HZ)
                  rw [Nat.add_zero] at q5
                  have HSN := hide hsn
                  have HBEL := hide hbel
                  have p4 : (0 : Int) < (PL : Int) := by omega
                  obtain ⟨s, y⟩ := r
                  dsimp only at *
                  clear hc4 hr hc5 hbel hsn
                  generalize (RS.take j).any (fun r => r.2 == z) = bo at *
                  cases bo with
                  | true =>
                    go_wp2_with fail
                    go_quiet (fail)
                    go_wp2
                    go_roundw
                    case rel => exact ⟨j + 1, by omega, by go_num, by rw [unhide HSN]; rfl, below_drewN (unhide HBEL) nq⟩
                    case measure => simp [intOf]; omega
                  | false =>
                    cases hyz : (y == z) with
                    | true =>
                      rw [hyz] at HSN
                      go_wp2_with fail
                      go_quiet (fail)
                      go_wp2
                      go_roundw
                      case rel => exact ⟨j + 1, by omega, by go_num, by rw [unhide HSN]; rfl, below_drewN (unhide HBEL) nq⟩
                      case measure => simp [intOf]; omega
                    | false =>
                      rw [hyz] at HSN
                      go_wp2_with fail
                      go_quiet (fail)
                      go_wp2
                      go_roundw
                      case rel => exact ⟨j + 1, by omega, by go_num, by rw [unhide HSN]; rfl, below_drewN (unhide HBEL) nq⟩
                      case measure => simp [intOf]; omega
                · have hjR : j = RS.length := by omega
                  rw [hjR, List.take_length, unhide HZR]
                  have hge : ¬ ((RS.length : Int) < (RS.length : Int)) := by omega
                  have HBEL := hide hbel
                  clear hjl hj hjR hbel
                  go_wp2_with fail
                  go_loopw [27, 29, 30, 31, 32] (fun bv iv _ _ _ wr => ∃ j : Nat, j + 1 ≤ PL ∧ iv = .int .i64 ((j : Int) + 1) ∧ bv = .bool true ∧ Below wc.heap.size wc wr) (fun _ iv _ _ _ _ => PL - (intOf iv).toNat)
                  case atStart => exact ⟨0, by omega, rfl, rfl, unhide HBEL⟩
                  case round =>
                    obtain ⟨j, hj, rfl, rfl, hbel⟩ := hrel
                    clear HBEL
                    by_cases hjl : j + 1 < PL
                    · obtain ⟨b5, o5, e5, hc5⟩ := ((unhide HPS).below hbel).2.2.2 (by intro e; have h1 := unhide HPL; have h2 := unhide HM1; rw [e] at h1; simp at h1; omega)
                      simp only [Option.some.injEq, Addr.mk.injEq, and_true] at e5
                      obtain ⟨rfl, rfl⟩ := e5
                      have hl5 := unhide HPL
                      obtain ⟨u, hu⟩ : ∃ u, PX[j]? = some u := ⟨_, List.getElem?_eq_getElem (by omega)⟩
                      obtain ⟨v, hv⟩ : ∃ v, PX[j + 1]? = some v := ⟨_, List.getElem?_eq_getElem (by omega)⟩
                      have qu := Sls.num (cap := 0) hc5 hu
                      have qv := Sls.num (cap := 0) hc5 hv
                      obtain ⟨t1, t2, t3⟩ := unhide HST j u v hu hv wr ((unhide HBC).trans (hbel.mono (unhide HBC).size))
                      have HRU := hide t2
                      have HT3 := hide t3
                      have HBEL := hide hbel
                      obtain ⟨J, hJ⟩ : ∃ J : Nat, J = j + 1 := ⟨_, rfl⟩
                      rw [← hJ] at qv
                      have hJi : (j : Int) + 1 = (J : Int) := by omega
                      have j1 : (J : Int) < (PL : Int) := by omega
                      have j2 : (0 : Int) ≤ (j : Int) := by omega
                      have j3 : (j : Int) < (PL : Int) := by omega
                      have j4 : (J : Int) - 1 = (j : Int) := by omega
                      have HJ : Hid (((j + 1 : Nat) : Int) + 1 = (J : Int) + 1) := hide (by omega)
                      rw [hJi]
                      have gv := block_lt_of_cell qv
                      have HJN := hide hJ
                      clear hc5 hu hv hl5 t2 t3 hbel hJi hJ
                      generalize refsL M u = RU at *
                      go_wp2_with fail
                      refine (unhide HRU).mono ?_
                      rintro e w2 ⟨v2, rfl, hl2, hb2⟩
                      obtain ⟨a2', c2', rfl, hs2⟩ := hl2.sls inC_len (by omega)
                      have qv2 := (hb2.cell (p := ⟨b3, o3 + J, none⟩) gv).trans qv
                      have hin := unhide HIN w2 a2' c2' RU v hs2
                      rw [unhide HT3] at hin
                      have HI := hide hin
                      have HB2 := hide ((unhide HBEL).trans (hb2.mono (unhide HBEL).size))
                      have hcu := hs2.2.2.1
                      clear hl2 hs2 hb2 hin HRU HBEL qu qv gv
                      go_wp2_with fail
                      refine (unhide HI).mono ?_
                      rintro e w3 ⟨rfl, hw3⟩
                      subst hw3
                      clear HI qv2
                      go_wp2
                      go_roundw
                      case rel => exact ⟨j + 1, by omega, by rw [unhide HJ], rfl, unhide HB2⟩
                      case measure => simp [intOf]; have := unhide HJN; omega
                    · have hge : ¬ ((j : Int) + 1 < (PL : Int)) := by omega
                      have HBE2 := hide ((unhide HBC).trans (hbel.mono (unhide HBC).size))
                      clear hjl hj hbel
                      go_wp2
                      go_roundw
                      case rel => exact ⟨k + 1, by omega, by go_num, unhide HBE2⟩
                      case measure => simp [intOf]; omega
        · have hge : ¬ ((k : Int) < (LV.length : Int)) := by omega
          have hB := (unhide HB).trans (hbel.mono (unhide HB).size)
          have HSS := hide (unhide HSW wr _ p g c ((unhide HH).below hbel) hB.size)
          have HMr := hide ((unhide HM).below hbel)
          have HSDr := hide ((unhide HSD).below hbel)
          have HGE := hide ((unhide HH).foot_ge)
          have HBr := hide hB
          clear hlt hk hbel hB HRF HPA HOK HNX HWY HRL HSL HSR HH HM HSD HB
          go_wp2_with fail
          refine (unhide HSS).mono ?_
          rintro e ws ⟨rfl, gs, cs, hhs, hts⟩
          have hBs := (unhide HBr).trans (hts.below (unhide HGE) (unhide HBr).size)
          have HMs := hide ((unhide HMr).turn hts)
          have HSDs : Hid (Sls inC 1 ws ad cd DD) := hide (Sls.kept (unhide HSDr) (fun b off e hne => by
            obtain ⟨b', off', e', hc⟩ := (unhide HSDr).2.2.2 hne
            rw [e] at e'
            simp only [Option.some.injEq, Addr.mk.injEq, and_true] at e'
            obtain ⟨rfl, rfl⟩ := e'
            have hlt : b < wr.heap.size := by
              cases hD : DD with
              | nil => exact absurd hD hne
              | cons y r => exact block_lt_of_cell (hc 0 y (by rw [hD]; rfl) 0 _ rfl)
            refine hts.block b hlt (unhide HDN b ?_)
            rw [e]
            rfl))
          have HDs := hide (unhide HDZ ws p gs cs hhs)
          have HHs := hide hhs
          have HBs := hide hBs
          clear hhs hts hBs HSS HMr HSDr HGE HBr HDZ HSW HDN
          go_wp2_with fail
          refine (unhide HDs).mono ?_
          rintro e wt ⟨at', ct', rfl, hbt⟩
          have HHt := hide ((unhide HHs).below hbt)
          have HMt := hide ((unhide HMs).below hbt)
          have HSDt := hide ((unhide HSDs).below hbt)
          have HBt := hide ((unhide HBs).trans (hbt.mono (unhide HBs).size))
          clear hbt HDs HHs HMs HSDs HBs
          go_wp2_with fail
          go_loopw [35, 36, 37, 38, 39, 40] (fun iv _ _ _ _ _ wr => ∃ k : Nat, k ≤ 40 ∧ iv = .int .i64 ((k : Int) + 1) ∧ Below wt.heap.size wt wr) (fun iv _ _ _ _ _ _ => 41 - (intOf iv).toNat)
          case atStart => exact ⟨0, Nat.zero_le _, rfl, Below.refl _ _⟩
          case round =>
            obtain ⟨k, hk, rfl, hbel⟩ := hrel
            by_cases hlt : k < 40
            · obtain ⟨X, hX⟩ : ∃ X : Int, (k : Int) + 1 = X := ⟨_, rfl⟩
              have hX1 : 1 ≤ X := by omega
              have hX2 : X ≤ 40 := by omega
              have HIK : Hid (((k + 1 : Nat) : Int) + 1 = X + 1) := hide (by omega)
              rw [hX]
              have HXK := hide hX
              have HO1 := hide (unhide HOM wr am cm X ((unhide HMt).1.below hbel) hX1 hX2)
              have HBYr := hide (fun (W : World) (hW : Below wr.heap.size wr W) => unhide HBY W _ p gs cs (((unhide HHt).below hbel).below hW))
              have HOSr := hide (fun (W : World) (a1 : Option Addr) (c1 : Nat) (h : Bs W a1 c1 SM) => unhide HOS W a1 c1 X h hX1 hX2)
              have HINr := hide (fun (W : World) (hW : Below wr.heap.size wr W) => unhide HIN W ad cd DD X (((unhide HSDt).below hbel).below hW))
              have HBYT := hide (unhide HHt).byt
              have HSML : Hid (SM.length ≤ 140737488351232) := hide (by have := (unhide HHt).len; omega)
              obtain ⟨o1, o2⟩ := unhide HOB X hX1 hX2
              have HBEL := hide hbel
              clear hbel hX
              cases hg : DD.any (fun y => y == X) with
              | true =>
                have ho := o1 hg
                rw [hg] at HINr
                rw [ho] at HOSr
                clear o1 o2 hg ho
                generalize objOf M X = OM at *
                obtain ⟨tm, lm⟩ := OM
                dsimp only at *
                generalize strOf lm = sm at *
                generalize strOf [] = s0 at *
                go_wp2_with fail
                refine (unhide HO1).mono ?_
                rintro e w2 ⟨rfl, hb2⟩
                have HY2 := hide (unhide HBYr w2 hb2)
                have HB2 := hide hb2
                clear hb2 HO1 HBYr
                go_wp2_with fail
                refine (unhide HY2).mono ?_
                rintro e w3 ⟨a3, c3, rfl, ho3, hb3⟩
                obtain ⟨a4, c4, e4, hbs⟩ := ho3.bs (unhide HBYT) (unhide HSML)
                simp only [Value.slice.injEq] at e4
                obtain ⟨rfl, -, rfl⟩ := e4
                have HO3 := hide (unhide HOSr w3 _ _ hbs)
                have HB3 := hide ((unhide HB2).trans (hb3.mono (unhide HB2).size))
                clear ho3 hb3 hbs HY2 HOSr HB2
                go_wp2_with fail
                refine (unhide HO3).mono ?_
                rintro e w5 ⟨rfl, hb5⟩
                have hB5 := (unhide HB3).trans (hb5.mono (unhide HB3).size)
                have HI5 := hide (unhide HINr w5 hB5)
                have HB5 := hide ((unhide HBEL).trans (hB5.mono (unhide HBEL).size))
                clear hb5 hB5 HO3 HB3 HINr HBEL
                go_wp2_with fail
                refine (unhide HI5).mono ?_
                rintro e w6 ⟨rfl, hw6⟩
                subst hw6
                clear HI5
                go_wp2
                go_roundw
                case rel => exact ⟨k + 1, by omega, by rw [unhide HIK], unhide HB5⟩
                case measure => simp [intOf]; have := unhide HXK; omega
              | false =>
                have ho := o2 hg
                rw [hg] at HINr
                rw [ho] at HOSr
                clear o1 o2 hg ho
                generalize objOf M X = OM at *
                obtain ⟨tm, lm⟩ := OM
                dsimp only at *
                generalize strOf lm = sm at *
                go_wp2_with fail
                refine (unhide HO1).mono ?_
                rintro e w2 ⟨rfl, hb2⟩
                have HY2 := hide (unhide HBYr w2 hb2)
                have HB2 := hide hb2
                clear hb2 HO1 HBYr
                go_wp2_with fail
                refine (unhide HY2).mono ?_
                rintro e w3 ⟨a3, c3, rfl, ho3, hb3⟩
                obtain ⟨a4, c4, e4, hbs⟩ := ho3.bs (unhide HBYT) (unhide HSML)
                simp only [Value.slice.injEq] at e4
                obtain ⟨rfl, -, rfl⟩ := e4
                have HO3 := hide (unhide HOSr w3 _ _ hbs)
                have HB3 := hide ((unhide HB2).trans (hb3.mono (unhide HB2).size))
                clear ho3 hb3 hbs HY2 HOSr HB2
                go_wp2_with fail
                refine (unhide HO3).mono ?_
                rintro e w5 ⟨rfl, hb5⟩
                have hB5 := (unhide HB3).trans (hb5.mono (unhide HB3).size)
                have HI5 := hide (unhide HINr w5 hB5)
                have HB5 := hide ((unhide HBEL).trans (hB5.mono (unhide HBEL).size))
                clear hb5 hB5 HO3 HB3 HINr HBEL
                go_wp2_with fail
                refine (unhide HI5).mono ?_
                rintro e w6 ⟨rfl, hw6⟩
                subst hw6
                clear HI5
                go_wp2
                go_roundw
                case rel => exact ⟨k + 1, by omega, by rw [unhide HIK], unhide HB5⟩
                case measure => simp [intOf]; have := unhide HXK; omega
            · obtain rfl : k = 40 := by omega
              have HBE := hide ((unhide HBt).trans (hbel.mono (unhide HBt).size))
              clear hlt hk hbel
              go_wp2
              go_ret
              exact ⟨rfl, unhide HBE⟩
end Go.Proofs.YtmkkiedohphpcaaGreat
