/-
  The walk of the law ViewParts. (Part of the proof of ViewParts.)
-/
import Derived.Test.YtmphnhigohkaeaaDoorJVw
import Derived.Test.YtmphnhigohkaeaaDoorJTell
import Derived.Deep.RegionHeld3
import Derived.Deep.CutRange
import Derived.Deep.QuietTactic
import Derived.BigQuiet
namespace Go.Proofs.YtmphnhigohkaeaaDoor
open Go.RowKit
set_option linter.unusedVariables false

/-- Two Views of the same pages, apart from each other. -/
structure Vv (w0 w : World) (v1 k1 m1 v2 k2 m2 q : Nat) (K : List (List Int)) (M1 M2 : List (Nat × List Int)) : Prop where
  one : Vw w v1 q k1 m1 K M1
  two : Vw w v2 q k2 m2 K M2
  ap : v1 ≠ m2 ∧ k1 ≠ m2 ∧ m1 ≠ m2 ∧ v2 ≠ m1 ∧ k2 ≠ m1
  bel : Below w0.heap.size w0 w
  b1 : w0.heap.size ≤ m1
  b2 : w0.heap.size ≤ m2
section
variable {w0 w w' : World} {v1 k1 m1 v2 k2 m2 q : Nat} {K : List (List Int)} {M1 M2 : List (Nat × List Int)}
theorem Vv.below (h : Vv w0 w v1 k1 m1 v2 k2 m2 q K M1 M2) (hb : Below w.heap.size w w') : Vv w0 w' v1 k1 m1 v2 k2 m2 q K M1 M2 :=
  ⟨h.one.below hb, h.two.below hb, h.ap, h.bel.trans (hb.mono h.bel.size), h.b1, h.b2⟩
theorem OnlyV.below0 {g : Nat} (ho : OnlyV g w w') (hb : Below w0.heap.size w0 w) (hg : w0.heap.size ≤ g) : Below w0.heap.size w0 w' :=
  hb.trans (ho.below (fun k e => e ▸ hg) hb.size)
theorem Vv.write1 (h : Vv w0 w v1 k1 m1 v2 k2 m2 q K M1 M2) (x : Nat) (a : Option Addr) (cap : Nat) (l : List Int) (hb : Bs w0 a cap l) (hx : x ≤ 281474976710656) :
    Calls Tryd.prog 24 #[.pointer (some ⟨v1, 0, none⟩), .int .i64 (x : Int), .slice a l.length cap] w fun e w' => ∃ (E : Int) (M' : List (Nat × List Int)), e = .returned (errV E) ∧ Vv w0 w' v1 k1 m1 v2 k2 m2 q K M' M2 ∧
      ((32 * K.length < x + l.length ∧ E = 1 ∧ M' = M1) ∨ (x + l.length ≤ 32 * K.length ∧ 23 < M1.length + nw M1 (x / 32) (spanP x l.length) ∧ E = 4 ∧ M' = M1) ∨ (x + l.length ≤ 32 * K.length ∧ M1.length + nw M1 (x / 32) (spanP x l.length) ≤ 23 ∧ E = 0 ∧ Wrote K M1 M' x l l.length)) :=
  (vWrite_any h.one x a cap l (hb.below h.bel) hx).mono fun e w' ⟨E, M', he, hv, ho, hc⟩ => ⟨E, M', he, ⟨hv, h.two.only ho h.ap.2.2.2.1 h.ap.2.2.2.2 (fun e => h.ap.2.2.1 e.symm), h.ap, ho.below0 h.bel h.b1, h.b1, h.b2⟩, hc⟩
theorem Vv.write2 (h : Vv w0 w v1 k1 m1 v2 k2 m2 q K M1 M2) (x : Nat) (a : Option Addr) (cap : Nat) (l : List Int) (hb : Bs w0 a cap l) (hx : x ≤ 281474976710656) :
    Calls Tryd.prog 24 #[.pointer (some ⟨v2, 0, none⟩), .int .i64 (x : Int), .slice a l.length cap] w fun e w' => ∃ (E : Int) (M' : List (Nat × List Int)), e = .returned (errV E) ∧ Vv w0 w' v1 k1 m1 v2 k2 m2 q K M1 M' ∧
      ((32 * K.length < x + l.length ∧ E = 1 ∧ M' = M2) ∨ (x + l.length ≤ 32 * K.length ∧ 23 < M2.length + nw M2 (x / 32) (spanP x l.length) ∧ E = 4 ∧ M' = M2) ∨ (x + l.length ≤ 32 * K.length ∧ M2.length + nw M2 (x / 32) (spanP x l.length) ≤ 23 ∧ E = 0 ∧ Wrote K M2 M' x l l.length)) :=
  (vWrite_any h.two x a cap l (hb.below h.bel) hx).mono fun e w' ⟨E, M', he, hv, ho, hc⟩ => ⟨E, M', he, ⟨h.one.only ho h.ap.1 h.ap.2.1 h.ap.2.2.1, hv, h.ap, ho.below0 h.bel h.b2, h.b1, h.b2⟩, hc⟩
end
theorem errV_nil {E : Int} (h : E = 0) : errV E = .nilIface := by rw [h]; rfl

set_option maxRecDepth 100000 in
set_option maxHeartbeats 8000000 in
theorem walkViewParts (x : Int) (a : Option Addr) (cap : Nat) (l : List Int) (cut : Int) (w : World) (hg : ErrT w) (hb : Bs w a cap l) :
    Calls Tryd.prog 4 #[.int .i64 x, .slice a l.length cap, .int .i64 cut] w fun e w' => e = .returned (.bool true) ∧ Below w.heap.size w w' := by
  have HG := hide hg
  have HB := hide hb
  have hll := hb.2.2.1
  clear hg hb
  obtain ⟨L, hL, hL1, hL2, hL3⟩ := cnt_new (n := 100) (by omega) (by omega)
  have hL52 : L = 52 := by unfold cntI at hL; simp at hL; omega
  have HN := hide (new_live 100 w w (Below.refl _ _) (by omega) (by omega))
  go_enter Tryd.func4, Tryd.ntmps4
  go_wp2_with fail
  refine (unhide HN).mono ?_
  rintro e w1 ⟨p, S1, rfl, hl1, _, _⟩
  have HFM := hide (format_made hl1 (by omega) (by omega) hL hL1 hL2 hL3)
  clear HN hl1
  go_wp2_with fail
  refine (unhide HFM).mono ?_
  rintro e w2 ⟨q, rfl, S2, D2, hl2, hpg, hout, hqb, hneat, hleft, hlen⟩
  have hdn := hneat.down
  have HNW := hide (fun (w' : World) (hb : Below w2.heap.size w2 w') => vNew_any (hl2.dev.below hb) (hpg.below hb) (L := L) (by rw [hlen]; exact hL) hL2 (by rw [hlen]; exact hL3) hdn)
  have HB2 := hide hl2.bel
  clear HFM hl2 hpg hout hqb hneat hleft hdn
  go_wp2_with fail
  refine (unhide HNW w2 (Below.refl _ _)).mono ?_
  rintro e w3 ⟨v1, k1, m1, rfl, hv1, gk1, gm1, gv1, hb3⟩
  have HV1 := hide hv1
  have HB3 := hide hb3
  clear hv1 hb3
  go_wp2_with fail
  refine (unhide HNW w3 (unhide HB3)).mono ?_
  rintro e w4 ⟨v2, k2, m2, rfl, hv2, gk2, gm2, gv2, hb4⟩
  have hvv : Vv w w4 v1 k1 m1 v2 k2 m2 q (keptOf D2 L) [] [] := by
    have l1 := (unhide HV1).vlt
    have l2 := (unhide HV1).kept.lt
    have l3 := (unhide HV1).mem.lt
    have s2 := (unhide HB2).size
    have s3 := (unhide HB3).size
    exact ⟨(unhide HV1).below hb4, hv2, ⟨by omega, by omega, by omega, by omega, by omega⟩, ((unhide HB2).trans ((unhide HB3).mono s2)).trans (hb4.mono (by omega)), by omega, by omega⟩
  have hKL : (keptOf D2 L).length = 52 := by rw [length_keptOf]; exact hL52
  have hln := vLen_any hvv.one
  rw [hKL] at hln
  have HLN := hide hln
  have HVV := hide hvv
  clear hvv hv2 hb4 hln HV1 HB2 HB3 HNW gk1 gm1 gv1 gk2 gm2 gv2
  generalize keptOf D2 L = K at *
  go_wp2_with fail
  refine (unhide HLN).mono ?_
  rintro e w5 ⟨rfl, rfl⟩
  clear HLN
  by_cases hin : 0 ≤ cut ∧ cut ≤ l.length ∧ 0 ≤ x ∧ x ≤ 1664
  · obtain ⟨g1, g2, g3, g4⟩ := hin
    obtain ⟨c, rfl⟩ : ∃ c : Nat, cut = c := ⟨cut.toNat, by omega⟩
    obtain ⟨y, rfl⟩ : ∃ y : Nat, x = y := ⟨x.toNat, by omega⟩
    have hcl : c ≤ l.length := by omega
    obtain ⟨ah, ph, sh⟩ := slice_hi (P := Tryd.prog) (t := 41) Tryd.underlying41 size_u8 (unhide HB) c hcl
    obtain ⟨al, pl, sl⟩ := slice_lo (P := Tryd.prog) (t := 41) Tryd.underlying41 size_u8 (unhide HB) c hcl
    have tl : (l.take c).length = c := by simp; omega
    have dl : (l.drop c).length = l.length - c := by simp
    have HW1 := hide ((unhide HVV).write1 y a cap l (unhide HB) (by omega))
    have SH := hide sh
    have SL := hide sl
    clear sh sl
    go_upto_region 13 with fail
    go_wp2_with fail
    refine (unhide HW1).mono ?_
    rintro e w6 ⟨E1, M1, rfl, hvv1, hc1⟩
    have hw2 := hvv1.write2 y ah cap (l.take c) (unhide SH) (by omega)
    rw [tl] at hw2
    have HW2 := hide hw2
    have HC1 := hide hc1
    clear hvv1 hc1 hw2 HW1 HVV
    go_wp2_with fail
    refine (unhide HW2).mono ?_
    rintro e w7 ⟨E2, M2, rfl, hvv2, hc2⟩
    have hw3 := hvv2.write2 (y + c) al (cap - c) (l.drop c) (unhide SL) (by omega)
    rw [dl, show ((y + c : Nat) : Int) = (y : Int) + (c : Int) by omega] at hw3
    have HW3 := hide hw3
    have HC2 := hide hc2
    have HN2 := hide hvv2.two.mem.nodup
    clear hvv2 hc2 hw3 HW2
    go_wp2_with fail
    refine (unhide HW3).mono ?_
    rintro e w8 ⟨E3, M3, rfl, hvv3, hc3⟩
    have HV := hide hvv3
    have HC3 := hide hc3
    clear hvv3 hc3 HW3
    rw [hKL] at HC1 HC2 HC3
    rcases unhide HC1 with ⟨q1, rfl, _⟩ | ⟨q1, q2, rfl, _⟩ | ⟨q1, q2, hE1, hw1⟩
    · have HE := hide (error_same 1 w8 ((unhide HG).below (unhide HV).bel))
      rw [errV_pos 1 (by decide)] at HE ⊢
      have e1 : (1664 : Int) - (y : Int) < (l.length : Int) := by omega
      clear HC1 HC2 HC3
      go_wp2_with fail
      refine (unhide HE).mono ?_
      rintro e w9 ⟨rfl, hb9⟩
      have HFIN := hide ((unhide HV).bel.trans (hb9.mono (unhide HV).bel.size))
      clear hb9
      go_wp2
      go_ret
      exact ⟨rfl, unhide HFIN⟩
    · have HE := hide (error_same 4 w8 ((unhide HG).below (unhide HV).bel))
      rw [errV_pos 4 (by decide)] at HE ⊢
      have e1 : ¬ (1664 : Int) - (y : Int) < (l.length : Int) := by omega
      have e2 : (672 : Int) < (l.length : Int) := by
        rw [nw_nil] at q2
        unfold spanP at q2
        split at q2
        · simp at q2
        · simp at q2; omega
      clear HC1 HC2 HC3
      go_wp2_with fail
      refine (unhide HE).mono ?_
      rintro e w9 ⟨rfl, hb9⟩
      have HFIN := hide ((unhide HV).bel.trans (hb9.mono (unhide HV).bel.size))
      clear hb9
      go_wp2
      go_ret
      exact ⟨rfl, unhide HFIN⟩
    · -- all is written
      have hsp : spanP y l.length ≤ 23 := by
        rw [nw_nil] at q2
        simpa using q2
      obtain ⟨hE2, hw2⟩ : E2 = 0 ∧ Wrote K [] M2 y (l.take c) (l.take c).length := by
        rcases unhide HC2 with ⟨r1, _⟩ | ⟨_, r2, _⟩ | ⟨_, _, r3, r4⟩
        · exfalso; omega
        · rw [nw_nil] at r2
          have := spanP_mono (x := y) hcl
          simp at r2
          omega
        · exact ⟨r3, by rw [tl]; exact r4⟩
      obtain ⟨hE3, hw3⟩ : E3 = 0 ∧ Wrote K M2 M3 (y + c) (l.drop c) (l.drop c).length := by
        have hcnt := count_le (lo := y / 32) (k := spanP y l.length) (lo2 := (y + c) / 32) (k2 := spanP (y + c) (l.length - c)) (unhide HN2) (fun i hi => by
          have hk := (hw2.key i).1 hi
          rw [tl] at hk
          have := spanP_mono (x := y) hcl
          rcases hk with hk | hk
          · cases hk
          · omega) (fun _ => by omega) (fun h0 => by
          unfold spanP at h0 ⊢
          by_cases hz : l.length - c = 0
          · rw [if_pos hz] at h0; omega
          · rw [if_neg hz, if_neg (by omega)]; omega)
        rcases unhide HC3 with ⟨r1, _⟩ | ⟨_, r2, _⟩ | ⟨_, _, r3, r4⟩
        · exfalso; omega
        · exfalso; omega
        · exact ⟨r3, by rw [dl]; exact r4⟩
      have hpar := wrote_parts hcl hw1 hw2 hw3
      have hdir := dirtyL_eq (unhide HV).one.mem.nodup (unhide HV).two.mem.nodup hpar.2
      have hml1 := (unhide HV).one.mlen
      have hml2 := (unhide HV).two.mlen
      have hmeq : M1.length = M3.length := by rw [← length_dirtyL M1, hdir, length_dirtyL]
      have HRD1 := hide (fun (w' : World) (h : Below w8.heap.size w8 w') (u n : Nat) (hu : u + n ≤ 1664) => vRead_yes ((unhide HV).one.below h) u n (by rw [hKL]; omega))
      have HRD2 := hide (fun (w' : World) (h : Below w8.heap.size w8 w') (u n : Nat) (hu : u + n ≤ 1664) => vRead_yes ((unhide HV).two.below h) u n (by rw [hKL]; omega))
      have HDI1 := hide (fun (w' : World) (h : Below w8.heap.size w8 w') => vDirty_any ((unhide HV).one.below h) (by omega))
      have HDI2 := hide (fun (w' : World) (h : Below w8.heap.size w8 w') => vDirty_any ((unhide HV).two.below h) (by omega))
      have HBY := hide (fun (u n : Nat) (hu : u + n ≤ 1664) => vBytes_byt (unhide HV).one u n (by rw [hKL]; omega))
      have HSAME := hide (vBytes_same hpar.1 0 1664)
      have HZ := hide (vBytes_wrote (Nat.le_refl l.length) hw1)
      have HU := hide (vBytes_wrote hcl hw1)
      have HDIR := hide hdir
      have HMEQ := hide hmeq
      rw [errV_nil hE1, errV_nil hE2, errV_nil hE3]
      have r1 := unhide HRD1 w8 (Below.refl _ _) 0 1664 (by omega)
      have R1 := hide r1
      clear HC1 HC2 HC3 hw1 hw2 hw3 hpar hdir hE1 hE2 hE3 hmeq r1 q2 hsp
      go_wp2_with fail
      refine (unhide R1).mono ?_
      rintro e w9 ⟨o1, rfl, _, ho1, hb9⟩
      have HO1 := hide ho1
      have B9 := hide hb9
      have R2 := hide (unhide HRD2 w9 hb9 0 1664 (by omega))
      clear ho1 hb9 R1
      go_wp2_with fail
      refine (unhide R2).mono ?_
      rintro e w10 ⟨o2, rfl, _, ho2, hb10⟩
      have HO1 := hide ((unhide HO1).below hb10)
      have HO2 := hide ho2
      have B10 := hide ((unhide B9).trans (hb10.mono (unhide B9).size))
      have R3 := hide (unhide HRD1 w10 (unhide B10) y l.length (by omega))
      clear ho2 hb10 R2 B9
      go_wp2_with fail
      refine (unhide R3).mono ?_
      rintro e w11 ⟨o3, rfl, _, ho3, hb11⟩
      have HO1 := hide ((unhide HO1).below hb11)
      have HO2 := hide ((unhide HO2).below hb11)
      have HO3 := hide ho3
      have B11 := hide ((unhide B10).trans (hb11.mono (unhide B10).size))
      have R4 := hide (unhide HRD1 w11 (unhide B11) y c (by omega))
      clear ho3 hb11 R3 B10
      go_wp2_with fail
      refine (unhide R4).mono ?_
      rintro e w12 ⟨o4, rfl, _, ho4, hb12⟩
      have HO1 := hide ((unhide HO1).below hb12)
      have HO2 := hide ((unhide HO2).below hb12)
      have HO3 := hide ((unhide HO3).below hb12)
      have HO4 := hide ho4
      have B12 := hide ((unhide B11).trans (hb12.mono (unhide B11).size))
      have R5 := hide (unhide HDI1 w12 (unhide B12))
      clear ho4 hb12 R4 B11
      go_wp2_with fail
      refine (unhide R5).mono ?_
      rintro e w13 ⟨d1, rfl, hd1, hb13⟩
      have HO1 := hide ((unhide HO1).below hb13)
      have HO2 := hide ((unhide HO2).below hb13)
      have HO3 := hide ((unhide HO3).below hb13)
      have HO4 := hide ((unhide HO4).below hb13)
      have HD1 := hide hd1
      have B13 := hide ((unhide B12).trans (hb13.mono (unhide B12).size))
      have R6 := hide (unhide HDI2 w13 (unhide B13))
      clear hd1 hb13 R5 B12
      go_wp2_with fail
      refine (unhide R6).mono ?_
      rintro e w14 ⟨d2, rfl, hd2, hb14⟩
      have HO1 := hide ((unhide HO1).below hb14)
      have HO2 := hide ((unhide HO2).below hb14)
      have HO3 := hide ((unhide HO3).below hb14)
      have HO4 := hide ((unhide HO4).below hb14)
      have hd1 : w14.ownsRow w12.heap.size 3 1 d1 M1.length ((dirtyL M1).map encZ) := ownsRow_same (unhide HD1) (fun g hg => hb14.block g ((unhide HD1).lt g hg).2)
      rw [unhide HDIR, unhide HMEQ] at hd1
      obtain ⟨da1, dc1, da2, dc2, rfl, rfl, hints⟩ := ints_rows hd1 hd2 (by omega)
      have R7 := hide hints
      have B14 := hide ((unhide B13).trans (hb14.mono (unhide B13).size))
      clear hd1 hd2 hb14 hints R6 B13 HD1
      go_wp2_with fail
      refine (unhide R7).mono ?_
      rintro e w15 ⟨rfl, md, rfl⟩
      have bel := ((unhide HV).bel.trans ((unhide B14).mono (unhide HV).bel.size))
      have s1 := blk_bsV (unhide HO1) (unhide HBY 0 1664 (by omega)) (by rw [length_vBytes]; omega)
      have hO2 := unhide HO2
      rw [← unhide HSAME] at hO2
      have s2 := blk_bsV hO2 (unhide HBY 0 1664 (by omega)) (by rw [length_vBytes]; omega)
      clear hO2
      have s3 := blk_bsV (unhide HO3) (unhide HBY y l.length (by omega)) (by rw [length_vBytes]; omega)
      have s4 := blk_bsV (unhide HO4) (unhide HBY y c (by omega)) (by rw [length_vBytes]; omega)
      have cv1 := fun m => bytes_strV (s1.below (below_drewN (Below.refl _ _) md)) m
      have cv2 := fun m => bytes_strV (s2.below (below_drewN (Below.refl _ _) md)) m
      have cv3 := fun m => bytes_strV (s3.below (below_drewN (Below.refl _ _) md)) m
      have cv4 := fun m => bytes_strV (s4.below (below_drewN (Below.refl _ _) md)) m
      have cv5 := fun m => bytes_strV (((unhide HB).below bel).below (below_drewN (Below.refl _ _) md)) m
      have cv6 := fun m => bytes_strV (((unhide SH).below bel).below (below_drewN (Below.refl _ _) md)) m
      rw [unhide HZ, List.take_length] at cv3
      rw [unhide HU] at cv4
      rw [length_vBytes] at cv1 cv2
      rw [tl] at cv4 cv6
      have HFIN := hide (below_drewN bel md)
      clear s1 s2 s3 s4 bel HO1 HO2 HO3 HO4 R7 B14 HV HRD1 HRD2 HDI1 HDI2 HBY HSAME HZ HU HDIR HMEQ
      generalize strOf (vBytes K M1 0 1664) = st1 at *
      generalize strOf l = st3 at *
      generalize strOf (l.take c) = st4 at *
      generalize w14.drewN md = w16 at *
      go_wp2_with fail
      go_quiet (fail)
      go_wp2
      go_ret
      exact ⟨rfl, below_drewN (unhide HFIN) _⟩
  · have HBL := hide (unhide HVV).bel
    have hcond : cut < 0 ∨ (¬ cut < 0 ∧ (l.length : Int) < cut) ∨ (¬ cut < 0 ∧ ¬ (l.length : Int) < cut ∧ x < 0) ∨ (¬ cut < 0 ∧ ¬ (l.length : Int) < cut ∧ ¬ x < 0 ∧ 1664 < x) := by omega
    clear hin HVV
    rcases hcond with g1 | ⟨g1, g2⟩ | ⟨g1, g2, g3⟩ | ⟨g1, g2, g3, g4⟩
    all_goals
      go_wp2
      go_ret
      exact ⟨rfl, unhide HBL⟩
end Go.Proofs.YtmphnhigohkaeaaDoor
