/-
  The walk of MergeThree. (Part of the proof of MergeThree.)
-/
import Derived.Test.YtfbloliakmehbaaGreatJMge
import Derived.Test.YtfbloliakmehbaaGreatJHp
import Derived.Test.YtfbloliakmehbaaGreatJHq
import Derived.Test.YtfbloliakmehbaaGreatJChl
import Derived.Test.YtfbloliakmehbaaGreatJIs
import Derived.BigQuiet
namespace Go.Proofs.YtfbloliakmehbaaGreat
open Go.RowKit
set_option linter.unusedVariables false

theorem OwnV.bs2 {w : World} {B : Nat} {a : Option Addr} {c : Nat} {L : List Int} (h : OwnV w B (.slice a L.length c) L) (hb : Byt L) (hl : L.length ≤ 6400) : Bs w a c L := by
  obtain ⟨a', c', e, hbs⟩ := h.bs hb (by omega)
  simp only [Value.slice.injEq, true_and] at e
  obtain ⟨rfl, rfl⟩ := e
  exact hbs
theorem Hp.sameT {w w' : World} {B p g c : Nat} {L : List Int} (h : Hp w B p g c L) (h1 : w'.heap[p]? = w.heap[p]?) (h2 : w'.heap[g]? = w.heap[g]?) : Hp w' B p g c L := by
  obtain ⟨cur, r1, r2, r3⟩ := h.row
  exact ⟨h.bp, h.ne, h1.trans h.blk, ⟨cur, r1, h2.trans r2, r3⟩, h.byt, h.fine⟩
set_option maxRecDepth 100000 in
set_option maxHeartbeats 4000000 in
theorem walkMergeThree (a0 : Option Addr) (cap0 : Nat) (L : List Int) (a1 : Option Addr) (cap1 : Nat) (O : List Int) (w : World) (hbs : Bs w a0 cap0 L) (hos : Bs w a1 cap1 O) :
    Calls Tryz.prog 3 #[.slice a0 L.length cap0, .slice a1 O.length cap1] w fun e w' => e = .returned (.bool true) ∧ Below w.heap.size w w' := by
  have HN := hide (hNew_yes 300 w (by decide))
  have HN2 := hide (fun (W : World) => hNew_yes 300 W (by decide))
  obtain ⟨f0, f1, f2, f3⟩ := fact_two
  have HAL := hide (fun (p g c B : Nat) (W : World) (hh : Hp W B p g c (zerosB 300)) (hB : B ≤ W.heap.size) => hAlloc_any p g c B (zerosB 300) 2 1 W hh hB)
  rw [f0, errV_zero] at HAL
  have hzl := length_zerosB 300
  have HY1 := hide (fun (p g c B : Nat) (W : World) (hh : Hp W B p g c (zerosB 300)) => hBytes_any p g c B (zerosB 300) W hh)
  have HY2 := hide (fun (p g c B : Nat) (W : World) (hh : Hp W B p g c (alB (zerosB 300) 2 1)) => hBytes_any p g c B (alB (zerosB 300) 2 1) W hh)
  have hzf := (zeros_fine (n := 300) (by decide) (by decide)).1
  have HMV := hide (fun (xa ya : Option Addr) (xc yc : Nat) (W : World) (h1 : Bs W xa xc (zerosB 300)) (h2 : Bs W ya yc (alB (zerosB 300) 2 1)) => mMoved_any (xa, xc, zerosB 300) (ya, yc, alB (zerosB 300) 2 1) W h1 h2)
  have HCZ : Hid (∀ (xa ya : Option Addr) (xc yc : Nat), ckAll (zerosB 300).length [(xa, xc, zerosB 300), (ya, yc, alB (zerosB 300) 2 1)] = 0) := hide (fun xa ya xc yc => ckAll_right (fun x hx => by
    simp at hx
    rcases hx with rfl | rfl
    · exact ⟨hzf, rfl⟩
    · exact ⟨f1, by rw [hzl]; exact f2⟩))
  have HBYZ := hide (byt_zerosB 300)
  have HM0 := hide (fun (W : World) (hW : Below w.heap.size w W) => mend_any a0 cap0 L W (hbs.below hW))
  have HM1 := hide (fun (W : World) (hW : Below w.heap.size w W) => mend_any a1 cap1 O W (hos.below hW))
  have hbl := hbs.2.2.1
  have hol := hos.2.2.1
  have HF3 := hide f3
  have HF2 := hide f2
  have HZL := hide hzl
  clear hbs hos f0 f1 f2 f3 hzf hzl
  unfold imV at HMV
  dsimp only at HMV HCZ
  generalize alB (zerosB 300) 2 1 = A2 at *
  generalize zerosB 300 = Z at *
  go_enter Tryz.func3, Tryz.ntmps3
  go_wp2_with fail
  refine (unhide HN).mono ?_
  rintro e w1 ⟨p1, g1, c1, rfl, hh1, hb1⟩
  have HH1 := hide hh1
  have HB1 := hide hb1
  clear hh1 hb1 HN
  go_wp2_with fail
  refine (unhide HN2 w1).mono ?_
  rintro e w2 ⟨p2, g2, c2, rfl, hh2, hb2⟩
  have HH12 := hide ((unhide HH1).below hb2)
  have HB2 := hide ((unhide HB1).trans (hb2.mono (unhide HB1).size))
  have HAL2 := hide (unhide HAL p2 g2 c2 w1.heap.size w2 hh2 hb2.size)
  have HFT : Hid (¬ foot p2 g2 p1 ∧ ¬ foot p2 g2 g1) := hide (by
    have h1 := (unhide HH1).plt
    have h2 := (unhide HH1).glt
    have h3 := hh2.bp
    have h4 := hh2.bg
    refine ⟨fun h => ?_, fun h => ?_⟩ <;> rcases h with h | h <;> omega)
  have hw12 := (unhide HB1).size
  have hw2 := hb2.size
  have HP2 : Hid (w1.heap.size ≤ p2 ∧ w1.heap.size ≤ g2) := hide ⟨hh2.bp, hh2.bg⟩
  clear hh2 hb2 HN2 HAL HH1 HB1
  go_wp2_with fail
  refine (unhide HAL2).mono ?_
  rintro e w3 ⟨rfl, g3, c3, hh3, ht3⟩
  have hp12 := (unhide HH12).plt
  have hg12 := (unhide HH12).glt
  have HH13 := hide ((unhide HH12).sameT (ht3.block p1 hp12 (unhide HFT).1) (ht3.block g1 hg12 (unhide HFT).2))
  have hb23 : Below w.heap.size w2 w3 := ⟨ht3.os, ht3.tape, ht3.output, ht3.size, fun k hk => ht3.block k (by have := (unhide HB2).size; omega) (fun h => by have h5 := unhide HP2; rcases h with h | h <;> omega)⟩
  have HB3 := hide ((unhide HB2).trans hb23)
  have HH3 := hide hh3
  have HY3 := hide (unhide HY1 p1 g1 c1 w.heap.size w3 (unhide HH13))
  rw [unhide HZL] at HY3
  clear hh3 ht3 hb23 hp12 hg12 HAL2 HH12 HFT HB2 HP2 HY1
  go_wp2_with fail
  refine (unhide HY3).mono ?_
  rintro e w4 ⟨a4, c4, rfl, ho4, hb4⟩
  rw [← unhide HZL] at ho4
  have HS4 := hide (OwnV.bs2 ho4 (unhide HBYZ) (by rw [unhide HZL]; omega))
  have HB4 := hide ((unhide HB3).trans (hb4.mono (unhide HB3).size))
  have HY4 := hide (unhide HY2 p2 g3 c3 w1.heap.size w4 ((unhide HH3).below hb4))
  have HBY2 := hide (unhide HH3).byt
  rw [unhide HF2] at HY4
  clear ho4 hb4 HY3 HB3 HY2 HH3 HH13
  go_wp2_with fail
  refine (unhide HY4).mono ?_
  rintro e w5 ⟨a5, c5, rfl, ho5, hb5⟩
  rw [← unhide HF2] at ho5
  have hs5 := OwnV.bs2 ho5 (unhide HBY2) (by rw [unhide HF2]; omega)
  have HMV5 := hide (unhide HMV a4 a5 c4 c5 w5 ((unhide HS4).below hb5) hs5)
  rw [unhide HCZ a4 a5 c4 c5, if_pos rfl, errV_zero, unhide HF3, unhide HZL, unhide HF2] at HMV5
  have HB5 := hide ((unhide HB4).trans (hb5.mono (unhide HB4).size))
  clear ho5 hb5 hs5 HY4 HS4 HB4 HMV HCZ HBYZ HBY2 HF2 HF3 HZL
  go_wp2_with fail
  refine (unhide HMV5).mono ?_
  rintro e w6 ⟨v6, rfl, hl6, hb6⟩
  obtain ⟨a6, c6, rfl, hsl6⟩ := hl6.sls inC_len (by show 1 ≤ _; omega)
  obtain ⟨b6, o6, rfl, hc6⟩ := hsl6.2.2.2 (by simp)
  have k6 : w6.cell? ⟨b6, o6, none⟩ = some (.int .i64 1) := by have := hc6 0 1 rfl 0 _ rfl; simpa using this
  have hcap6 := hsl6.1
  have hB6 := (unhide HB5).trans (hb6.mono (unhide HB5).size)
  have HM6 := hide (unhide HM0 w6 hB6)
  have HB6 := hide hB6
  clear hl6 hb6 hsl6 hc6 hB6 HMV5 HB5 HM0
  cases hq : lenB L.length with
  | false =>
    have hlen : (L.length : Int) < 288 ∨ 6400 < (L.length : Int) := Classical.byContradiction fun hc => by
      rw [lenB_iff.2 (by omega)] at hq
      cases hq
    have e1 : lenE L.length = 3 := by unfold lenE; rw [hq]; rfl
    rw [e1, errV_pos 3 (by decide)] at HM6
    generalize mendO L = M at *
    generalize L.length = N at *
    clear hq e1
    rcases hlen with hlen | hlen
    all_goals
      go_wp2_with fail
      refine (unhide HM6).mono ?_
      rintro e w7 ⟨am, cm, rfl, hbm, hb7⟩
      have HB7 := hide ((unhide HB6).trans (hb7.mono (unhide HB6).size))
      clear hbm hb7 HM6 HB6
      go_wp2
      go_ret
      exact ⟨rfl, unhide HB7⟩
  | true =>
    have hlen := lenB_iff.1 hq
    have e1 : lenE L.length = 0 := by unfold lenE; rw [hq]; rfl
    have e2 : mendO L = mendL L := by unfold mendO; rw [if_pos hq]
    rw [e1, errV_zero, e2] at HM6
    have hfm : Fine (mendL L) := mend_fine (by omega) (by omega)
    clear e1 e2 hq
    generalize mendL L = M at *
    have HFM := hide hfm
    have hlm := hfm.len
    clear hfm
    go_wp2_with fail
    refine (unhide HM6).mono ?_
    rintro e w7 ⟨am, cm, rfl, hbm, hb7⟩
    have hyM := hbm.1
    obtain ⟨t1, t2, t3, t4, t5⟩ := three_left (unhide HFM) (unhide HFM) hyM hyM rfl
    have H3 := hide (mThree_any (am, cm, M) (am, cm, M) (am, cm, M) w7 hbm hbm hbm)
    have hth := thE_right (m := (am, cm, M)) (a := (am, cm, M)) (b := (am, cm, M)) (fun x hx => by simp at hx; subst hx; exact ⟨unhide HFM, rfl⟩)
    have htk : thK (am, cm, M) (am, cm, M) (am, cm, M) = [] := by
      unfold thK
      rw [hth.1, t1, if_pos rfl]
      exact t5
    rw [hth.1, hth.2, htk] at H3
    dsimp only at H3
    rw [t1, errV_zero] at H3
    unfold imV at H3
    dsimp only at H3
    have HSM := hide (fun (x : Option Addr) (c : Nat) (W : World) (h : Bs W x c (mgS M M M).2) (hW : Below w7.heap.size w7 W) => same_any x am c cm (mgS M M M).2 M W h (hbm.below hW))
    rw [t3, t4, errV_zero, t2] at HSM
    rw [t2] at H3
    have HBM := hide hbm
    have HYM := hide hyM
    have HB7 := hide ((unhide HB6).trans (hb7.mono (unhide HB6).size))
    clear hbm hyM hb7 t1 t2 t3 t4 t5 hth htk HM6 HB6
    generalize (mgS M M M).2 = X at *
    generalize hMN : M.length = MN at *
    have HMN := hide hMN
    clear hMN
    go_wp2_with fail
    refine (unhide H3).mono ?_
    rintro e w8 ⟨x8, c8, v8, rfl, hbx, hl8, hb8⟩
    obtain ⟨a8, d8, rfl, _⟩ := hl8.sls inC_len (by simp)
    have HSM8 := hide (unhide HSM x8 c8 w8 hbx hb8)
    have HBM8 := hide ((unhide HBM).below hb8)
    have HB8 := hide ((unhide HB7).trans (hb8.mono (unhide HB7).size))
    clear hbx hl8 hb8 H3 HSM HBM HB7
    go_wp2_with fail
    refine (unhide HSM8).mono ?_
    rintro e w9 ⟨rfl, hb9⟩
    have hB9 := (unhide HB8).trans (hb9.mono (unhide HB8).size)
    have HM9 := hide (unhide HM1 w9 hB9)
    have HBM9 := hide ((unhide HBM8).below hb9)
    have HB9 := hide hB9
    clear hb9 hB9 HSM8 HB8 HBM8 HM1
    cases hqo : lenB O.length with
    | false =>
      have e1 : lenE O.length = 3 := by unfold lenE; rw [hqo]; rfl
      rw [e1, errV_pos 3 (by decide)] at HM9
      generalize mendO O = MO at *
      clear hqo e1
      go_wp2_with fail
      refine (unhide HM9).mono ?_
      rintro e w10 ⟨ao, co, rfl, hbo, hb10⟩
      have HB10 := hide ((unhide HB9).trans (hb10.mono (unhide HB9).size))
      clear hbo hb10 HM9 HB9
      go_wp2
      go_ret
      exact ⟨rfl, unhide HB10⟩
    | true =>
      have hleno := lenB_iff.1 hqo
      have e1 : lenE O.length = 0 := by unfold lenE; rw [hqo]; rfl
      have e2 : mendO O = mendL O := by unfold mendO; rw [if_pos hqo]
      rw [e1, errV_zero, e2] at HM9
      have hfo : Fine (mendL O) := mend_fine (by omega) (by omega)
      clear e1 e2 hqo
      generalize mendL O = K at *
      have HFO := hide hfo
      have hlk := hfo.len
      clear hfo
      go_wp2_with fail
      refine (unhide HM9).mono ?_
      rintro e w10 ⟨ao, co, rfl, hbo, hb10⟩
      have HMV1 := hide (mMoved_any (am, cm, M) (ao, co, K) w10 ((unhide HBM9).below hb10) hbo)
      have HMV2 := hide (fun (W : World) (hW : Below w10.heap.size w10 W) => mMoved_any (ao, co, K) (am, cm, M) W (hbo.below hW) (((unhide HBM9).below hb10).below hW))
      have HB10 := hide ((unhide HB9).trans (hb10.mono (unhide HB9).size))
      unfold imV at HMV1 HMV2
      dsimp only at HMV1 HMV2
      rw [unhide HMN] at HMV1 HMV2
      have HCM := hide (mvHs_comm K M)
      by_cases hlq : K.length = MN
      · have c1 : ckAll MN [(am, cm, M), (ao, co, K)] = 0 := ckAll_right (fun x hx => by
          simp at hx
          rcases hx with rfl | rfl
          · exact ⟨unhide HFM, unhide HMN⟩
          · exact ⟨unhide HFO, hlq⟩)
        have c2 : ckAll K.length [(ao, co, K), (am, cm, M)] = 0 := ckAll_right (fun x hx => by
          simp at hx
          rcases hx with rfl | rfl
          · exact ⟨unhide HFO, rfl⟩
          · exact ⟨unhide HFM, by rw [hlq]; exact unhide HMN⟩)
        rw [c1, if_pos rfl, errV_zero] at HMV1
        rw [c2, if_pos rfl, errV_zero, unhide HCM] at HMV2
        rw [hlq] at HMV1 HMV2 ⊢
        have hml : (mvHs M K).length ≤ 40 := Nat.le_trans (List.length_filter_le _ _) (by rw [hndL_len]; omega)
        generalize mvHs M K = V at *
        clear hbo hb10 c1 c2 hlq hlk HM9 HB9 HBM9 HCM
        go_wp2_with fail
        refine (unhide HMV1).mono ?_
        rintro e w11 ⟨v11, rfl, hl11, hb11⟩
        obtain ⟨a11, c11, rfl, hs11⟩ := hl11.sls inC_len (by omega)
        have HS11 := hide hs11
        have HMV3 := hide (unhide HMV2 w11 hb11)
        have HB11 := hide ((unhide HB10).trans (hb11.mono (unhide HB10).size))
        clear hl11 hs11 hb11 HMV1 HMV2 HB10
        go_wp2_with fail
        refine (unhide HMV3).mono ?_
        rintro e w12 ⟨v12, rfl, hl12, hb12⟩
        obtain ⟨a12, c12, rfl, hs12⟩ := hl12.sls inC_len (by omega)
        have HIS := hide (insame_any a11 a12 c11 c12 V w12 ((unhide HS11).below hb12) hs12)
        have HB12 := hide ((unhide HB11).trans (hb12.mono (unhide HB11).size))
        clear hl12 hs12 hb12 HMV3 HB11 HS11
        go_wp2_with fail
        refine (unhide HIS).mono ?_
        rintro e w13 ⟨rfl, hb13⟩
        have HB13 := hide ((unhide HB12).trans (hb13.mono (unhide HB12).size))
        clear hb13 HIS HB12
        go_upto_region 22 with fail
        go_quiet (fail)
        go_wp2
        go_ret
        exact ⟨rfl, below_dN (unhide HB13) _⟩
      · have c1 : ckAll MN [(am, cm, M), (ao, co, K)] = 3 := ckAll_len ⟨(ao, co, K), by simp, hlq⟩
        have c2 : ckAll K.length [(ao, co, K), (am, cm, M)] = 3 := ckAll_len ⟨(am, cm, M), by simp, by rw [unhide HMN]; exact fun e => hlq e.symm⟩
        rw [c1, if_neg (by decide), errV_pos 3 (by decide)] at HMV1
        rw [c2, if_neg (by decide), errV_pos 3 (by decide)] at HMV2
        generalize hKN : K.length = KN at *
        have hbq : ((MN : Int) == (KN : Int)) = false := beq_eq_false_iff_ne.2 (by omega)
        clear hbo hb10 c1 c2 hlq hlk HM9 HB9 HBM9 HCM hKN
        go_wp2_with fail
        refine (unhide HMV1).mono ?_
        rintro e w11 ⟨v11, rfl, hl11, hb11⟩
        obtain ⟨a11, c11, rfl, hs11⟩ := hl11.sls inC_len (by simp)
        have HS11 := hide hs11
        have HMV3 := hide (unhide HMV2 w11 hb11)
        have HB11 := hide ((unhide HB10).trans (hb11.mono (unhide HB10).size))
        clear hl11 hs11 hb11 HMV1 HMV2 HB10
        go_wp2_with fail
        refine (unhide HMV3).mono ?_
        rintro e w12 ⟨v12, rfl, hl12, hb12⟩
        obtain ⟨a12, c12, rfl, hs12⟩ := hl12.sls inC_len (by simp)
        have HIS := hide (insame_any a11 a12 c11 c12 [] w12 ((unhide HS11).below hb12) hs12)
        have HB12 := hide ((unhide HB11).trans (hb12.mono (unhide HB11).size))
        clear hl12 hs12 hb12 HMV3 HB11 HS11
        go_wp2_with fail
        refine (unhide HIS).mono ?_
        rintro e w13 ⟨rfl, hb13⟩
        have HB13 := hide ((unhide HB12).trans (hb13.mono (unhide HB12).size))
        clear hb13 HIS HB12
        go_upto_region 22 with fail
        go_quiet (fail)
        go_wp2
        go_ret
        exact ⟨rfl, below_dN (unhide HB13) _⟩
end Go.Proofs.YtfbloliakmehbaaGreat
