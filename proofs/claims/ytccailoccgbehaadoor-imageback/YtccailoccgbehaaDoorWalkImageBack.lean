/-
  The walk of the law ImageBack. (Part of the proof of ImageBack.)
-/
import Derived.Test.YtccailoccgbehaaDoorImI
import Derived.Test.YtccailoccgbehaaDoorImE
import Derived.Test.YtccailoccgbehaaDoorOpenIm
import Derived.Test.YtccailoccgbehaaDoorErrSame
import Derived.Deep.CutRange
namespace Go.Proofs.YtccailoccgbehaaDoor
open Go.RowKit
set_option linter.unusedVariables false

theorem roots_le (l : List Int) : (roots l).length ≤ 8796093021952 := by
  unfold roots
  by_cases h : lenB l.length = true
  · rw [if_pos h]; have := rootsK_len l 8; omega
  · rw [if_neg h]; simp
/-- From a place on there is no root. -/
def Rz (k : Nat) (B : List Int) : Prop := ∀ j, k ≤ j → j < 8 → isRoot (rowAt B j) = false
theorem Rz.zeros (N : Nat) (h : 288 ≤ N) : Rz 0 (zerosB N) := by
  intro j _ hj
  have hl : (rowAt (zerosB N) j).length = 11 := rowAt_len (by rw [length_zerosB]; omega)
  have e : rowAt (zerosB N) j = zerosB 11 := by
    apply ext_getD
    · rw [hl, length_zerosB]
    · intro i hi
      rw [hl] at hi
      rw [rowAt_getD hi]
      have z0 := zeros_getD N 0 (200 + 11 * j + i)
      have z1 := zeros_getD 11 0 i
      rw [List.drop_zero] at z0 z1
      rw [z0, z1]
  rw [e]
  exact isRoot_zeros
theorem Rz.put {k : Nat} {B : List Int} {e : (Int × Int × Int × Int)} (hz : Rz k B) (h : putE B e = 0) : Rz k (putL B e) := by
  obtain ⟨h1, h2, _⟩ := putE_zero.1 h
  have h1' := lenB_iff.1 h1
  have h2' := hndB_iff.1 h2
  have hp := plc_le h2'.1 h2'.2
  have hr : (rowE e).length = 5 := rfl
  intro j hk hj
  unfold putL
  rw [if_pos h, rowAt_out (by omega) (by omega) (by omega)]
  exact hz j hk hj
theorem Rz.le {k m : Nat} {B : List Int} (hz : Rz k B) (h : k ≤ m) : Rz m B := fun j hm hj => hz j (by omega) hj
/-- An image, as the law has it in a variable. -/
def ImSt (w wr : World) (N : Nat) (v : Value) (B : List Int) : Prop := B.length = N ∧ (∃ a c, v = .slice a N c ∧ Bs wr a c B) ∧ Below w.heap.size w wr

theorem ImSt.drewN {w wr : World} {N : Nat} {v : Value} {B : List Int} (h : ImSt w wr N v B) (m : Nat) : ImSt w (wr.drewN m) N v B := by
  obtain ⟨h1, ⟨a, c, h2, h3⟩, h4⟩ := h
  exact ⟨h1, ⟨a, c, h2, h3.drewN m⟩, below_drewN h4 m⟩
theorem name_size {r : (ByteArray × Int)} (h : rowRE r = 0) (hn : ¬ noRoot r = true) : 1 ≤ r.1.size := by
  unfold rowRE at h
  rw [if_neg hn] at h
  by_cases h1 : hndB r.2 = false
  · rw [if_pos h1] at h; cases h
  · rw [if_neg h1] at h
    by_cases h2 : nameB r.1 = true
    · exact (nameB_iff.1 h2).1
    · rw [if_neg h2] at h; cases h

set_option maxRecDepth 100000 in
set_option maxHeartbeats 8000000 in
theorem walkImageBack (n : Int) (a1 : Option Addr) (c1 : Nat) (l : List (Int × Int × Int × Int)) (a2 : Option Addr) (c2 : Nat) (r : List (ByteArray × Int)) (w : World) (hg : ErrT w) (hl : EnsIn w a1 c1 l) (hr : RosIn w a2 c2 r) :
    Calls Tryd.prog 4 #[.int .i64 n, .slice a1 l.length c1, .slice a2 r.length c2] w fun e w' => e = .returned (.bool true) ∧ Below w.heap.size w w' := by
  have HER := hide (fun (x : Int) (w' : World) (hb : Below w.heap.size w w') => error_same x w' (hg.below hb))
  have HL := hide hl
  have HR := hide hr
  have hll := hl.1.2.2.1
  have hrl := hr.1.2.2.1
  have HN1 := hide (new_any 288 w)
  have e1 : newL 288 = zerosB 288 := rfl
  have e2 : newE 288 = 0 := rfl
  rw [e1, e2, errV_zero] at HN1
  have HN2 := hide (fun (w' : World) => new_any n w')
  clear hg hl hr e1 e2
  have hz288 := length_zerosB 288
  go_enter Tryd.func4, Tryd.ntmps4
  go_wp2_with fail
  refine (unhide HN1).mono ?_
  rintro e w1 ⟨a3, c3, rfl, hbs1, hb1⟩
  have HB1 := hide hb1
  rw [hz288]
  clear hbs1 hb1 HN1 hz288
  have HN3 := hide (unhide HN2 w1)
  unfold newL newE at HN3
  clear HN2
  cases hq : lenB n with
  | false =>
    rw [hq, if_neg (by simp), if_neg (by simp), errV_pos 1 (by decide)] at HN3
    have hn : n < 288 ∨ (¬ n < 288 ∧ 6400 < n) := by
      have : ¬ (288 ≤ n ∧ n ≤ 6400) := fun h => by rw [lenB_iff.2 h] at hq; cases hq
      omega
    clear hq
    rcases hn with h1 | ⟨h1, h2⟩
    all_goals
      go_wp2_with fail
      refine (unhide HN3).mono ?_
      rintro e w2 ⟨a4, c4, rfl, hbs2, hb2⟩
      have HB2 := hide ((unhide HB1).trans (hb2.mono (unhide HB1).size))
      clear hbs2 hb2 HB1
      go_wp2
      go_ret
      exact ⟨rfl, unhide HB2⟩
  | true =>
    rw [hq, if_pos rfl, if_pos rfl, errV_zero] at HN3
    have hn := lenB_iff.1 hq
    obtain ⟨N, rfl⟩ : ∃ N : Nat, n = N := ⟨n.toNat, by omega⟩
    rw [Int.toNat_natCast] at HN3
    have hN1 : 288 ≤ N := by omega
    have hN2 : N ≤ 6400 := by omega
    have HQ := hide hq
    clear hq hn
    go_wp2_with fail
    refine (unhide HN3).mono ?_
    rintro e w2 ⟨a4, c4, rfl, hbs2, hb2⟩
    rw [length_zerosB]
    have HST2 : Hid (ImSt w w2 N (.slice a4 N c4) (zerosB N)) := hide ⟨length_zerosB N, ⟨a4, c4, rfl, hbs2⟩, (unhide HB1).trans (hb2.mono (unhide HB1).size)⟩
    clear hbs2 hb2 HB1 HN3
    go_upto_region 7 with fail
    go_cut [11] from 58 to 58 (fun v wx => v = .int .i64 0 ∧ wx = w2)
    case first =>
      go_wp2
      go_meet
      case rel => exact ⟨rfl, rfl⟩
    case rest =>
      obtain ⟨rfl, hwc⟩ := hcut
      replace hwc := hwc.symm
      subst hwc
      refine (‹∀ (a : Act) (w : World), Code.wp Tryd.prog (Code.block _ _) _ a w → _›) _ _ ?_
      go_cut [9, 11] from 58 to 58 (fun bv _ wx => ∃ B, ImSt w wx N bv B ∧ Rz 0 B)
      case first =>
        go_wp2_with fail
        go_loopw [9, 11] (fun bv iv wr => ∃ (k : Nat) (B : List Int), k ≤ l.length ∧ k ≤ 20 ∧ iv = .int .i64 k ∧ ImSt w wr N bv B ∧ Rz 0 B) (fun _ iv _ => 20 - (intOf iv).toNat)
        case atStart => exact ⟨0, zerosB N, Nat.zero_le _, Nat.zero_le _, rfl, unhide HST2, Rz.zeros N hN1⟩
        case round =>
          obtain ⟨k, B, hk, hk20, rfl, ⟨hBN, ⟨ab, cb, rfl, hbs⟩, hbel⟩, hrz⟩ := hrel
          clear HST2
          by_cases hlt : k < l.length ∧ k < 20
          · obtain ⟨hu1, hu2⟩ := hlt
            have hne : l ≠ [] := by intro e; rw [e] at hu1; simp at hu1
            obtain ⟨bl, offl, rfl, hcl⟩ := (unhide HL).1.2.2.2 hne
            obtain ⟨e, he⟩ : ∃ e, l[k]? = some e := ⟨l[k], List.getElem?_eq_getElem hu1⟩
            have hin := (unhide HL).2 e (List.mem_of_getElem? he)
            have hcells : ∀ wx, Below w.heap.size w wx → wx.cell? ⟨bl, offl + k * 4, none⟩ = some (.int .i64 e.1) ∧ wx.cell? ⟨bl, offl + k * 4 + 1, none⟩ = some (.int .i64 e.2.1) ∧ wx.cell? ⟨bl, offl + k * 4 + 2, none⟩ = some (.int .i64 e.2.2.1) ∧ wx.cell? ⟨bl, offl + k * 4 + 3, none⟩ = some (.int .i64 e.2.2.2) := fun wx hx => by
              obtain ⟨q0, q1, q2, q3⟩ := Sls.ent (cap := 0) hcl he
              exact ⟨(hx.cell (block_lt_of_cell q0)).trans q0, (hx.cell (block_lt_of_cell q1)).trans q1, (hx.cell (block_lt_of_cell q2)).trans q2, (hx.cell (block_lt_of_cell q3)).trans q3⟩
            have HCL := hide hcells
            have HP := hide (iPut_any ab cb B e wr hbs hin.2.1)
            have HG := hide (fun (h0 : putE B e = 0) => put_got h0)
            have HO := hide (fun (h0 : putE B e = 0) (j : Int) (hj : j ≠ e.1) => put_other h0 hj)
            have HPL := hide (fun (h0 : putE B e = 0) => putL_len h0)
            have HRZ := hide (fun (h0 : putE B e = 0) => hrz.put h0)
            have HRZ0 := hide hrz
            obtain ⟨c0, d1, d2, d3⟩ := hcells wr hbel
            have HBS := hide hbs
            have HBEL := hide hbel
            rw [hBN] at HP
            clear hcells hcl he hin hne hbs hbel hrz
            obtain ⟨x, y, z, t⟩ := e
            unfold entV at HP
            dsimp only at *
            generalize hpE : putE B (x, y, z, t) = pE at *
            generalize hpL : putL B (x, y, z, t) = C at *
            clear hpE hpL
            by_cases hp : pE = 0
            · subst hp
              rw [errV_zero] at HP
              have hCN : C.length = N := (unhide HPL rfl).trans hBN
              have hgot := unhide HG rfl
              have HO2 := hide (unhide HO rfl)
              have HRZ2 := hide (unhide HRZ rfl)
              have hdn := drop_none hgot.1
              clear HG HO HPL HRZ HRZ0
              go_wp2_with fail
              refine (unhide HP).mono ?_
              rintro e w3 ⟨a5, c5, rfl, hbs3, hb3⟩
              rw [hCN]
              have HG3 := hide (iGet_any a5 c5 C x w3 hbs3)
              rw [hgot.1, hgot.2, errV_zero, hCN] at HG3
              unfold entV at HG3
              dsimp only at HG3
              have HB3 := hide ((unhide HBEL).trans (hb3.mono (unhide HBEL).size))
              have HBB3 := hide ((unhide HBS).below hb3)
              have HBC3 := hide hbs3
              clear c0 d1 d2 d3
              obtain ⟨c0, d1, d2, d3⟩ := unhide HCL w3 (unhide HB3)
              clear hbs3 hb3 HP HBS HBEL
              go_wp2_with fail
              refine (unhide HG3).mono ?_
              rintro e w4 ⟨rfl, hb4⟩
              have hB4 := (unhide HB3).trans (hb4.mono (unhide HB3).size)
              have hba : Below w4.heap.size w4 (w4.alloc (.cells #[.int .i64 x, .int .i64 y, .int .i64 z, .int .i64 t] 26)) := (Below.refl _ _).alloc (Nat.le_refl _) _
              have hB5 := hB4.trans (hba.mono hB4.size)
              have hBB5 := ((unhide HBB3).below hb4).below hba
              have hBC5 := ((unhide HBC3).below hb4).below hba
              have hX5 := EnB.new w4 (x, y, z, t)
              dsimp only at hX5
              have HD5 := hide (drop_any a5 c5 C x _ hBC5)
              rw [hgot.1, errV_zero, hCN] at HD5
              clear c0 d1 d2 d3
              obtain ⟨c0, d1, d2, d3⟩ := unhide HCL w4 hB4
              have hblt := block_lt_of_cell c0
              dsimp only at hblt
              have HB5 := hide hB5
              have HBB5 := hide hBB5
              have HBC5 := hide hBC5
              have HX5 := hide hX5
              clear hb4 hB4 hba hB5 hBB5 hBC5 hX5 HB3 HBB3 HBC3 HG3 hgot
              generalize dropL C x = D at *
              go_wp2_with fail
              clear c0 d1 d2 d3 hblt
              generalize w4.alloc (.cells #[.int .i64 x, .int .i64 y, .int .i64 z, .int .i64 t] 26) = w5 at *
              generalize w4.heap.size = gx at *
              refine (unhide HD5).mono ?_
              rintro e w6 ⟨a6, c6, rfl, hbs6, hb6⟩
              have HG6 := hide (iGet_any a6 c6 D x w6 hbs6)
              have hg6 : getE D x = ent0 := if_neg (by rw [hdn]; decide)
              rw [hdn, hg6] at HG6
              unfold entV ent0 at HG6
              dsimp only at HG6
              have hdb := hbs6.2.2.1
              have HB6 := hide ((unhide HB5).trans (hb6.mono (unhide HB5).size))
              have HBB6 := hide ((unhide HBB5).below hb6)
              have HBC6 := hide ((unhide HBC5).below hb6)
              have HX6 := hide ((unhide HX5).below hb6 (unhide HX5).lt)
              obtain ⟨c0, d1, d2, d3⟩ := unhide HCL w6 (unhide HB6)
              clear hbs6 hb6 HD5 HB5 HBB5 HBC5 HX5 hdn hg6
              go_wp2_with fail
              refine (unhide HG6).mono ?_
              rintro e w7 ⟨rfl, hb7⟩
              have hB7 := (unhide HB6).trans (hb7.mono (unhide HB6).size)
              have hX7 := (unhide HX6).below hb7 (unhide HX6).lt
              have hba : Below w7.heap.size w7 (w7.alloc (.cells #[.int .i64 0, .int .i64 0, .int .i64 0, .int .i64 0] 26)) := (Below.refl _ _).alloc (Nat.le_refl _) _
              have HB8 := hide (hB7.trans (hba.mono hB7.size))
              have HBB8 := hide (((unhide HBB6).below hb7).below hba)
              have HBC8 := hide (((unhide HBC6).below hb7).below hba)
              have HX8 := hide (hX7.below hba hX7.lt)
              have HE8 := hide (unhide HER 5 _ (unhide HB8))
              clear hb7 hB7 hX7 hba HB6 HBB6 HBC6 HX6 HG6 c0 d1 d2 d3
              go_wp2_with fail
              refine (unhide HE8).mono ?_
              rintro e w9 ⟨rfl, hb9⟩
              have HB9 := hide ((unhide HB8).trans (hb9.mono (unhide HB8).size))
              have HBB9 := hide ((unhide HBB8).below hb9)
              have HBC9 := hide ((unhide HBC8).below hb9)
              have hX9 := (unhide HX8).below hb9 (unhide HX8).lt
              obtain ⟨x0, x1, x2, x3⟩ := hX9.cells
              obtain ⟨c0, d1, d2, d3⟩ := unhide HCL w9 (unhide HB9)
              dsimp only at x0 x1 x2 x3
              clear hb9 hX9 HB8 HBB8 HBC8 HX8 HE8
              go_wp2_with fail
              go_quiet (fail)
              clear x0 x1 x2 x3 c0 d1 d2 d3
              go_wp2_with fail
              go_loopw [21] (fun kv wx => ∃ j : Nat, j ≤ 40 ∧ kv = .int .i64 ((j : Int) + 1) ∧ Below w9.heap.size w9 wx) (fun kv _ => 41 - (intOf kv).toNat)
              case atStart => exact ⟨0, by omega, rfl, below_drewN (Below.refl _ _) nq⟩
              case round =>
                obtain ⟨j, hj, rfl, hbx⟩ := hrel
                by_cases hj40 : j < 40
                · have HGB := hide (iGet_any ab cb B ((j : Int) + 1) wr ((unhide HBB9).below hbx))
                  rw [hBN] at HGB
                  have HGC := hide (fun (w' : World) (hb : Below w9.heap.size w9 w') => iGet_any a5 c5 C ((j : Int) + 1) w' ((unhide HBC9).below hb))
                  rw [hCN] at HGC
                  have HOJ := hide (unhide HO2 ((j : Int) + 1))
                  have HBX := hide hbx
                  clear hbx
                  generalize getE B ((j : Int) + 1) = gB at *
                  generalize getE C ((j : Int) + 1) = gC at *
                  generalize chkE B ((j : Int) + 1) = cB at *
                  generalize chkE C ((j : Int) + 1) = cC at *
                  obtain ⟨u0, u1, u2, u3⟩ := gB
                  obtain ⟨v0, v1, v2, v3⟩ := gC
                  unfold entV at HGB HGC
                  dsimp only at HGB HGC
                  have HTAIL : Hid (∀ w12, Below wr.heap.size wr w12 → Below w9.heap.size w9 (w12.alloc (.cells #[.int .i64 v0, .int .i64 v1, .int .i64 v2, .int .i64 v3] 26)) ∧ w12.cell? ⟨bl, offl + k * 4, none⟩ = some (.int .i64 x) ∧ bl < w12.heap.size) := hide (fun w12 h12 => by
                    have h1 := (unhide HBX).trans (h12.mono (unhide HBX).size)
                    obtain ⟨c0, _, _, _⟩ := unhide HCL w12 ((unhide HB9).trans (h1.mono (unhide HB9).size))
                    exact ⟨h1.alloc h1.size _, c0, block_lt_of_cell c0⟩)
                  by_cases hjx : (j : Int) + 1 = x
                  · have hjb : ((j : Int) + 1 != x) = false := by rw [hjx]; simp
                    clear hjx HOJ
                    go_wp2_with fail
                    refine (unhide HGB).mono ?_
                    rintro e w10 ⟨rfl, hb10⟩
                    have hB11 := hb10.alloc hb10.size (.cells #[.int .i64 u0, .int .i64 u1, .int .i64 u2, .int .i64 u3] 26)
                    have HC11 := hide (unhide HGC _ ((unhide HBX).trans (hB11.mono (unhide HBX).size)))
                    have HB11 := hide hB11
                    clear hb10 hB11 HGB HGC
                    go_wp2_with fail
                    refine (unhide HC11).mono ?_
                    rintro e w12 ⟨rfl, hb12⟩
                    have hB12 := (unhide HB11).trans (hb12.mono (unhide HB11).size)
                    obtain ⟨ht1, c0, hblt⟩ := unhide HTAIL w12 hB12
                    have HT1 := hide ht1
                    clear hb12 hB12 ht1 HC11 HB11
                    go_wp2_with fail
                    go_quiet (fail)
                    go_wp2
                    go_roundw
                    case rel => exact ⟨j + 1, by omega, by go_num, below_drewN (unhide HT1) _⟩
                    case measure => simp [intOf]; omega
                  · have hjb : ((j : Int) + 1 != x) = true := bne_iff_ne.2 hjx
                    obtain ⟨hcc, hgg⟩ := unhide HOJ hjx
                    simp only [Prod.mk.injEq] at hgg
                    obtain ⟨g0, g1, g2, g3⟩ := hgg
                    rw [hcc, g0, g1, g2, g3] at HGC
                    rw [g0, g1, g2, g3] at HTAIL
                    clear hcc g0 g1 g2 g3 hjx HOJ
                    by_cases hc0 : cB = 0
                    · subst hc0
                      rw [errV_zero] at HGB HGC
                      go_wp2_with fail
                      refine (unhide HGB).mono ?_
                      rintro e w10 ⟨rfl, hb10⟩
                      have hB11 := hb10.alloc hb10.size (.cells #[.int .i64 u0, .int .i64 u1, .int .i64 u2, .int .i64 u3] 26)
                      have HU11 := hide (EnB.new w10 (u0, u1, u2, u3))
                      have HC11 := hide (unhide HGC _ ((unhide HBX).trans (hB11.mono (unhide HBX).size)))
                      have HB11 := hide hB11
                      dsimp only at HU11
                      clear hb10 hB11 HGB HGC
                      go_wp2_with fail
                      refine (unhide HC11).mono ?_
                      rintro e w12 ⟨rfl, hb12⟩
                      have hB12 := (unhide HB11).trans (hb12.mono (unhide HB11).size)
                      have hu12 := (unhide HU11).below hb12 (unhide HU11).lt
                      obtain ⟨p0, p1, p2, p3⟩ := hu12.cells
                      have hult := hu12.lt
                      dsimp only at p0 p1 p2 p3
                      obtain ⟨ht1, c0, hblt⟩ := unhide HTAIL w12 hB12
                      have HT1 := hide ht1
                      clear hb12 hB12 ht1 hu12 HC11 HB11 HU11
                      go_wp2_with fail
                      go_quiet (fail)
                      go_wp2
                      go_roundw
                      case rel => exact ⟨j + 1, by omega, by go_num, below_drewN (unhide HT1) _⟩
                      case measure => simp [intOf]; omega
                    · rw [errV_pos _ hc0] at HGB HGC
                      clear hc0
                      go_wp2_with fail
                      refine (unhide HGB).mono ?_
                      rintro e w10 ⟨rfl, hb10⟩
                      have hB11 := hb10.alloc hb10.size (.cells #[.int .i64 u0, .int .i64 u1, .int .i64 u2, .int .i64 u3] 26)
                      have HU11 := hide (EnB.new w10 (u0, u1, u2, u3))
                      have HC11 := hide (unhide HGC _ ((unhide HBX).trans (hB11.mono (unhide HBX).size)))
                      have HB11 := hide hB11
                      dsimp only at HU11
                      clear hb10 hB11 HGB HGC
                      go_wp2_with fail
                      refine (unhide HC11).mono ?_
                      rintro e w12 ⟨rfl, hb12⟩
                      have hB12 := (unhide HB11).trans (hb12.mono (unhide HB11).size)
                      have hu12 := (unhide HU11).below hb12 (unhide HU11).lt
                      obtain ⟨p0, p1, p2, p3⟩ := hu12.cells
                      have hult := hu12.lt
                      dsimp only at p0 p1 p2 p3
                      obtain ⟨ht1, c0, hblt⟩ := unhide HTAIL w12 hB12
                      have HT1 := hide ht1
                      clear hb12 hB12 ht1 hu12 HC11 HB11 HU11
                      go_wp2_with fail
                      go_quiet (fail)
                      go_wp2
                      go_roundw
                      case rel => exact ⟨j + 1, by omega, by go_num, below_drewN (unhide HT1) _⟩
                      case measure => simp [intOf]; omega
                · obtain rfl : j = 40 := by omega
                  have HST9 : Hid (ImSt w wr N (.slice a5 N c5) C) := hide ⟨hCN, ⟨a5, c5, rfl, (unhide HBC9).below hbx⟩, (unhide HB9).trans (hbx.mono (unhide HB9).size)⟩
                  clear hbx
                  go_wp2
                  go_roundw
                  case rel => exact ⟨k + 1, C, by omega, by omega, by go_num, unhide HST9, unhide HRZ2⟩
                  case measure => simp [intOf]; omega
            · rw [errV_pos _ hp] at HP
              clear HG HO HPL HRZ HCL
              go_wp2_with fail
              refine (unhide HP).mono ?_
              rintro e w3 ⟨a5, c5, rfl, hbs3, hb3⟩
              have HST3 : Hid (ImSt w w3 N (.slice ab N cb) B) := hide ⟨hBN, ⟨ab, cb, rfl, (unhide HBS).below hb3⟩, (unhide HBEL).trans (hb3.mono (unhide HBEL).size)⟩
              clear hbs3 hb3 HBS HBEL HP
              go_wp2
              go_roundw
              case rel => exact ⟨k + 1, B, by omega, by omega, by go_num, unhide HST3, unhide HRZ0⟩
              case measure => simp [intOf]; omega
          · have HST3 : Hid (ImSt w wr N (.slice ab N cb) B) := hide ⟨hBN, ⟨ab, cb, rfl, hbs⟩, hbel⟩
            have HRZ0 := hide hrz
            clear hbs hbel hrz
            by_cases hu1 : k < l.length
            · have hu2 : ¬ k < 20 := fun h => hlt ⟨hu1, h⟩
              obtain rfl : k = 20 := by omega
              clear hlt
              go_wp2
              go_meet
              exact ⟨B, unhide HST3, unhide HRZ0⟩
            · obtain rfl : k = l.length := by omega
              clear hlt
              go_wp2
              go_meet
              exact ⟨B, unhide HST3, unhide HRZ0⟩
      case rest =>
        obtain ⟨B, ⟨hBN, ⟨ab, cb, rfl, hbs⟩, hbel⟩, hrz⟩ := hcut
        obtain ⟨w3, hx⟩ : ∃ w3, w3 = wc := ⟨wc, rfl⟩
        subst hx
        have HST3 : Hid (ImSt w w3 N (.slice ab N cb) B ∧ Rz 0 B) := hide ⟨⟨hBN, ⟨ab, cb, rfl, hbs⟩, hbel⟩, hrz⟩
        clear hBN hbs hbel hrz HST2 HER HL
        have hlN : lenE N = 0 := if_pos (unhide HQ)
        have HLN := hide hlN
        clear hlN
        go_wp2_with fail
        go_loopw [9, 26] (fun bv iv wr => ∃ (k : Nat) (B : List Int), k ≤ r.length ∧ k ≤ 8 ∧ iv = .int .i64 k ∧ ImSt w wr N bv B ∧ Rz k B) (fun _ iv _ => 8 - (intOf iv).toNat)
        case atStart => exact ⟨0, B, Nat.zero_le _, Nat.zero_le _, rfl, (unhide HST3).1, (unhide HST3).2⟩
        case round =>
          obtain ⟨k, B, hk, hk8, rfl, ⟨hBN, ⟨ab, cb, rfl, hbs⟩, hbel⟩, hrz⟩ := hrel
          clear HST3
          by_cases hlt : k < r.length ∧ k < 8
          · obtain ⟨hu1, hu2⟩ := hlt
            have hne : r ≠ [] := by intro e; rw [e] at hu1; simp at hu1
            obtain ⟨bl, offl, rfl, hcl⟩ := (unhide HR).1.2.2.2 hne
            obtain ⟨q, he⟩ : ∃ q, r[k]? = some q := ⟨r[k], List.getElem?_eq_getElem hu1⟩
            have hin := (unhide HR).2 q (List.mem_of_getElem? he)
            have hcells : ∀ wx, Below w.heap.size w wx → wx.cell? ⟨bl, offl + k * 2, none⟩ = some (.string q.1) ∧ wx.cell? ⟨bl, offl + k * 2 + 1, none⟩ = some (.int .i64 q.2) := fun wx hx => by
              obtain ⟨q0, q1⟩ := Sls.root (cap := 0) hcl he
              exact ⟨(hx.cell (block_lt_of_cell q0)).trans q0, (hx.cell (block_lt_of_cell q1)).trans q1⟩
            have HCL := hide hcells
            have HRB := hide (iRoots_any ab cb B wr hbs)
            rw [hBN, unhide HLN, errV_zero] at HRB
            have HP := hide (fun (w' : World) (hb : Below wr.heap.size wr w') => iPutRoot_any ab cb B k q w' (hbs.below hb) hin)
            rw [hBN] at HP
            have HRP := hide (fun (h0 : prE B k q = 0) => roots_put h0 hrz)
            have HPL := hide (fun (h0 : prE B k q = 0) => prL_len h0)
            have HOK := hide (fun (h0 : prE B k q = 0) => (prE_zero.1 h0).2.2.2)
            have HRZ0 := hide hrz
            have HBS := hide hbs
            have HBEL := hide hbel
            have hMb := roots_le B
            clear hcells hcl he hin hne hbs hbel hrz
            obtain ⟨s, h⟩ := q
            unfold rootV at HP
            dsimp only at *
            generalize hpE : prE B k (s, h) = pE at *
            generalize hpL : prL B k (s, h) = C at *
            clear hpE hpL
            generalize roots B = RB at *
            go_wp2_with fail
            refine (unhide HRB).mono ?_
            rintro e w4 ⟨v4, rfl, ho4, hb4⟩
            obtain ⟨a4, c4, rfl, hs4⟩ := ho4.sls roC_len hMb
            have HB4 := hide ((unhide HBEL).trans (hb4.mono (unhide HBEL).size))
            have HBS4 := hide ((unhide HBS).below hb4)
            have HP4 := hide (unhide HP w4 hb4)
            obtain ⟨c0, d1⟩ := unhide HCL w4 (unhide HB4)
            clear ho4 hs4 hb4 HRB HP HBS HBEL
            by_cases hp : pE = 0
            · subst hp
              rw [errV_zero] at HP4
              have hCN : C.length = N := (unhide HPL rfl).trans hBN
              obtain ⟨hrc, hrz2⟩ := unhide HRP rfl
              have hrow := unhide HOK rfl
              have HRZ2 := hide hrz2
              have hCb := roots_le C
              clear HRP HPL HOK HRZ0 hrz2
              go_wp2_with fail
              refine (unhide HP4).mono ?_
              rintro e w5 ⟨a5, c5, rfl, hbs5, hb5⟩
              rw [hCN]
              have HR5 := hide (iRoots_any a5 c5 C w5 hbs5)
              rw [hCN, unhide HLN, errV_zero] at HR5
              have HB5 := hide ((unhide HB4).trans (hb5.mono (unhide HB4).size))
              have HBS5 := hide hbs5
              clear hbs5 hb5 HP4 HB4 HBS4 c0 d1
              have HRC := hide hrc
              clear hrc
              generalize roots C = RC at *
              go_wp2_with fail
              refine (unhide HR5).mono ?_
              rintro e w6 ⟨v6, rfl, ho6, hb6⟩
              obtain ⟨a6, c6, rfl, hs6⟩ := ho6.sls roC_len hCb
              have HB6 := hide ((unhide HB5).trans (hb6.mono (unhide HB5).size))
              have HST6 : Hid (ImSt w w6 N (.slice a5 N c5) C) := hide ⟨hCN, ⟨a5, c5, rfl, (unhide HBS5).below hb6⟩, unhide HB6⟩
              obtain ⟨c0, d1⟩ := unhide HCL w6 (unhide HB6)
              clear ho6 hb6 HR5 HB5 HBS5
              have hrcl := unhide HRC
              by_cases hno : noRoot (s, h) = true
              · rw [if_pos hno, List.append_nil] at hrcl
                have hs0 := noRoot_iff.1 hno
                dsimp only at hs0
                have hemp : s.toList.isEmpty = true := empty_yes s hs0.1
                subst hrcl
                clear hno hrow hs6 HRC hs0
                go_wp2_with fail
                go_quiet (fail)
                go_wp2
                go_roundw
                case rel => exact ⟨k + 1, C, by omega, by omega, by go_num, (unhide HST6).drewN nq, unhide HRZ2⟩
                case measure => simp [intOf]; omega
              · rw [if_neg hno] at hrcl
                have hsz := name_size hrow hno
                dsimp only at hsz
                have hemp : s.toList.isEmpty = false := empty_no s hsz
                have hlen : RC.length = RB.length + 1 := by rw [hrcl]; simp
                have hlast : RC[RB.length]? = some (s, h) := by rw [hrcl]; simp
                obtain ⟨b6, off6, rfl, hc6⟩ := hs6.2.2.2 (by intro e; rw [e] at hlen; simp at hlen)
                obtain ⟨z0, z1⟩ := Sls.root (cap := 0) hc6 hlast
                dsimp only at z0 z1
                rw [hlen]
                clear hno hrow hs6 HRC hrcl hlast hc6 hsz
                generalize RB.length = M at *
                clear hlen
                go_wp2_with fail
                go_quiet (fail)
                go_wp2
                go_roundw
                case rel => exact ⟨k + 1, C, by omega, by omega, by go_num, (unhide HST6).drewN nq, unhide HRZ2⟩
                case measure => simp [intOf]; omega
            · rw [errV_pos _ hp] at HP4
              clear HRP HPL HOK HCL
              go_wp2_with fail
              refine (unhide HP4).mono ?_
              rintro e w5 ⟨a5, c5, rfl, hbs5, hb5⟩
              have HST5 : Hid (ImSt w w5 N (.slice ab N cb) B) := hide ⟨hBN, ⟨ab, cb, rfl, (unhide HBS4).below hb5⟩, (unhide HB4).trans (hb5.mono (unhide HB4).size)⟩
              clear hbs5 hb5 HBS4 HB4 HP4 c0 d1
              go_wp2
              go_roundw
              case rel => exact ⟨k + 1, B, by omega, by omega, by go_num, unhide HST5, (unhide HRZ0).le (by omega)⟩
              case measure => simp [intOf]; omega
          · have HB9 := hide hbel
            clear hbs hbel hrz
            by_cases hu1 : k < r.length
            · have hu2 : ¬ k < 8 := fun h => hlt ⟨hu1, h⟩
              obtain rfl : k = 8 := by omega
              clear hlt
              go_wp2
              go_ret
              exact ⟨rfl, unhide HB9⟩
            · obtain rfl : k = r.length := by omega
              clear hlt
              go_wp2
              go_ret
              exact ⟨rfl, unhide HB9⟩
end Go.Proofs.YtccailoccgbehaaDoor
