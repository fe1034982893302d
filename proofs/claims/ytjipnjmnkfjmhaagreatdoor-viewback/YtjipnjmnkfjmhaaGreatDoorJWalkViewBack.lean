/-
  The walk of the law ViewBack. (Part of the proof of ViewBack.)
-/
import Derived.Test.YtjipnjmnkfjmhaaGreatDoorJVwSu
import Derived.Test.YtjipnjmnkfjmhaaGreatDoorJDev
import Derived.Test.YtjipnjmnkfjmhaaGreatDoorJStamp
import Derived.Deep.RegionHeld3
import Derived.Deep.CutRange
import Derived.Deep.QuietTactic
import Derived.BigQuiet
namespace Go.Proofs.YtjipnjmnkfjmhaaGreatDoor
open Go.RowKit
set_option linter.unusedVariables false

set_option maxRecDepth 100000 in
theorem vwb_no (n : Int) (a1 a2 a3 : Option Addr) (len1 len2 len3 cap1 cap2 cap3 : Nat) (w : World) (hn : n < 1 ∨ 300 < n) :
    Calls Tryz.prog 3 #[.int .i64 n, .slice a1 len1 cap1, .slice a2 len2 cap2, .slice a3 len3 cap3] w fun e w' => e = .returned (.bool true) ∧ Below w.heap.size w w' := by
  have hnew := new_no n w hn
  rw [errV_pos 1 (by decide)] at hnew
  have HN := hide hnew
  clear hnew hn
  go_enter Tryz.func3, Tryz.ntmps3
  go_wp2_with fail
  refine (unhide HN).mono ?_
  rintro e w7 ⟨rfl, rfl⟩
  go_wp2
  go_ret
  exact ⟨rfl, Below.refl _ _⟩
set_option maxRecDepth 100000 in
theorem vwb_few (n : Nat) (a1 a2 a3 : Option Addr) (len1 len2 len3 cap1 cap2 cap3 : Nat) (w : World) (h1 : 1 ≤ n) (h2 : n < 49) :
    Calls Tryz.prog 3 #[.int .i64 n, .slice a1 len1 cap1, .slice a2 len2 cap2, .slice a3 len3 cap3] w fun e w' => e = .returned (.bool true) ∧ Below w.heap.size w w' := by
  have HN := hide (new_live n w w (Below.refl _ _) h1 (by omega))
  go_enter Tryz.func3, Tryz.ntmps3
  go_wp2_with fail
  refine (unhide HN).mono ?_
  rintro e w7 ⟨p, S, rfl, hl, _, _⟩
  go_wp2
  go_ret
  exact ⟨rfl, hl.bel⟩
theorem keptOf_zeros {D : DS} {L : Nat} {s : Int} {a : Nat} {nl : List Int} (h : Neat D L s (fun _ => zerosB 32) a nl) : keptOf D L = List.replicate L (zerosB 32) := by
  unfold keptOf
  apply List.ext_getElem?
  intro i
  rw [List.getElem?_map, List.getElem?_replicate]
  by_cases hi : i < L
  · rw [List.getElem?_range hi, if_pos hi]
    simp only [Option.map_some]
    rw [rd_img h.mem]
    exact congrArg some (h.pages i hi)
  · rw [List.getElem?_eq_none (by simp; omega), if_neg hi]
    rfl
theorem vRd_none {K : List (List Int)} {M : List (Nat × List Int)} {k : Nat} (h : (M.lookup k).isSome = false) : vRd K M k = K.getD k [] := by
  unfold vRd
  cases e : M.lookup k with
  | none => rfl
  | some b => rw [e] at h; cases h
theorem Aft.below {w0 wx wy : World} {p q v gk gm n L : Nat} {s0 : Int} {da : Option Addr} {M1 : List (Nat × List Int)} {nv kv : Value} (h : Aft w0 wx p q v gk gm n L s0 da M1 nv kv) (hb : Below wx.heap.size wx wy) : Aft w0 wy p q v gk gm n L s0 da M1 nv kv := by
  obtain ⟨S, D, s, K, M, gn, cn, gp, cp, h1, h2, h3, h4, h5, h6, h7, h8⟩ := h
  refine ⟨S, D, s, K, M, gn, cn, gp, cp, h1, h2, h3, h4, h5, h6.below hb, h7, fun j hj => ?_⟩
  obtain ⟨gd, e, hc, hn⟩ := h8 j hj
  exact ⟨gd, e, (hb.cell (p := ⟨gd, j, none⟩) (block_lt_of_cell hc)).trans hc, hn⟩
theorem errV_nilV {E : Int} (h : E = 0) : errV E = .nilIface := by rw [h]; rfl
/-- A block that is none of theirs turns. -/
theorem Vb.other {w0 w w' : World} {p q v gk gm : Nat} {S : Nat → Prop} {D : DS} {s : Int} {n : Nat} {K : List (List Int)} {M : List (Nat × List Int)} {g : Nat} (h : Vb w0 w p q v gk gm S D s n K M) (ho : OnlyV g w w') (hg : ¬ footV S q gk gm g) (hgv : g ≠ v) (hb : w0.heap.size ≤ g) : Vb w0 w' p q v gk gm S D s n K M :=
  ⟨live_only h.live ho (fun hh => hg (.inl (.inl hh))) hb, (h.pg.turn ho (fun e => hg (.inl (.inr e.symm)))).1, h.out, h.base, h.neat, h.left, h.len, h.cnt, h.view.only ho (fun e => hgv e.symm) (fun e => hg (.inr (.inl e.symm))) (fun e => hg (.inr (.inr e.symm))), h.nv, h.nk, h.nm, h.bv, h.bk, h.bm⟩

set_option maxRecDepth 100000 in
set_option maxHeartbeats 16000000 in
theorem vwb_in (n : Nat) (a1 : Option Addr) (cap1 : Nat) (l1 : List Int) (a2 : Option Addr) (cap2 : Nat) (l2 : List (List Int)) (a3 : Option Addr) (cap3 : Nat) (l3 : List Int) (w : World) (hg : ErrT w)
    (hs1 : Is w a1 cap1 l1) (hs2 : Bss w a2 cap2 l2) (hs3 : Is w a3 cap3 l3) (h1 : 49 ≤ n) (h2 : n ≤ 300) :
    Calls Tryz.prog 3 #[.int .i64 n, .slice a1 l1.length cap1, .slice a2 l2.length cap2, .slice a3 l3.length cap3] w fun e w' => e = .returned (.bool true) ∧ Below w.heap.size w w' := by
  obtain ⟨L, hL, hL1, hL2, hL3⟩ := cnt_new h1 h2
  have HG := hide hg
  have HS1 := hide hs1
  have HS2 := hide hs2
  have HS3 := hide hs3
  have ll1 := hs1.2.2.1
  have ll2 := hs2.2.1
  have ll3 := hs3.2.2.1
  obtain ⟨i0, hi0, hz0, hz1, hz2⟩ := info_parts info_u8
  have f1 : ¬ (n : Int) < 49 := by omega
  have HN := hide (new_live n w w (Below.refl _ _) (by omega) h2)
  clear hg hs1 hs2 hs3
  go_enter Tryz.func3, Tryz.ntmps3
  go_wp2_with fail
  refine (unhide HN).mono ?_
  rintro e w1 ⟨p, S1, rfl, hl1, _, _⟩
  have HFM := hide (format_made hl1 h1 h2 hL hL1 hL2 hL3)
  clear HN hl1
  go_wp2_with fail
  refine (unhide HFM).mono ?_
  rintro e w2 ⟨q, rfl, S2, D2, hl2, hpg, hout, hqb, hneat, hleft, hlen⟩
  have HNW := hide (vNew_any hl2.dev hpg (L := L) (by rw [hlen]; exact hL) hL2 (by rw [hlen]; exact hL3) hneat.down)
  have HL2 := hide hl2
  have HPG := hide hpg
  have HNEAT := hide hneat
  clear HFM hl2 hpg hneat
  go_wp2_with fail
  refine (unhide HNW).mono ?_
  rintro e w3 ⟨v, gk, gm, rfl, hv, ggk, ggm, ggv, hb3⟩
  have hKL : (keptOf D2 L).length = L := length_keptOf D2 L
  have hKZ := keptOf_zeros (unhide HNEAT)
  have hlt2 := (unhide HL2).dev.lt
  have hqlt := (unhide HPG).lt
  have hsz2 := (unhide HL2).bel.size
  have hnot : ∀ k, w2.heap.size ≤ k → ¬ plus S2 q k := fun k hk hs => by
    rcases hs with hs | rfl
    · have := hlt2 k hs; omega
    · omega
  have hvb : Vb w w3 p q v gk gm S2 D2 2 n (keptOf D2 L) [] :=
    ⟨(unhide HL2).below hb3, (unhide HPG).below hb3, hout, hqb, ⟨fun _ => zerosB 32, 0, [], by rw [hKL]; exact unhide HNEAT, fun i hi => by rw [hKL] at hi; rw [hKZ, List.getD_eq_getElem?_getD, List.getElem?_replicate, if_pos hi]; rfl⟩, hleft, hlen, by rw [hKL]; exact hL, hv, hnot v ggv, hnot gk ggk, hnot gm ggm, by omega, by omega, by omega⟩
  have hvl := fun (w' : World) (hb : Below w3.heap.size w3 w') => vLen_any (hvb.view.below hb)
  have hpl := fun (w' : World) (hb : Below w3.heap.size w3 w') => pLen_any (hvb.below hb).live.dev (hvb.below hb).pg
  simp only [hKL, hlen, hL] at hvl hpl
  have hrn := vRead_no hvb.view ((32 * L : Nat) : Int) 1 (by omega) (by omega) (by rw [hKL]; omega)
  have HVL := hide hvl
  have HPL := hide hpl
  have HRN := hide hrn
  have HVB := hide hvb
  have HER := hide (error_same 1 w3 ((unhide HG).below hvb.live.bel))
  clear hvb hvl hpl hrn hv hb3 HNW HL2 HPG HNEAT hout hqb hleft hlen hlt2 hqlt hsz2 hnot ggk ggm ggv
  generalize keptOf D2 L = K0 at *
  go_wp2_with fail
  refine (unhide HVL w3 (Below.refl _ _)).mono ?_
  rintro e w4 ⟨rfl, rfl⟩
  go_wp2_with fail
  refine (unhide HPL w3 (Below.refl _ _)).mono ?_
  rintro e w4 ⟨rfl, rfl⟩
  go_wp2_with fail
  refine (unhide HVL w3 (Below.refl _ _)).mono ?_
  rintro e w4 ⟨rfl, rfl⟩
  go_wp2_with fail
  refine (unhide HRN).mono ?_
  rintro e w4 ⟨rfl, rfl⟩
  go_wp2_with fail
  refine (unhide HER).mono ?_
  rintro e w4 ⟨rfl, hb4⟩
  have HB4 := hide hb4
  clear hb4 HRN HER
  go_wp2_with fail
  refine (unhide HVL w4 (unhide HB4)).mono ?_
  rintro e w5 ⟨rfl, rfl⟩
  go_wp2_with (at_make; refine wpList_make_u8 rfl _ _ 36 rfl i0 Tryz.underlying36 hi0 hz0 hz1 hz2 _ _ _ _ (32 * L) rfl rfl rfl rfl (by omega) ?_)
  intro w5 hk5 hs5 hb5
  have HK5 := hide hk5
  have HB5 := hide ((unhide HB4).trans (hb5.mono (unhide HB4).size))
  have HS5 := hide hs5
  have hs4 := (unhide HB4).size
  clear hk5 hb5 hs5
  go_wp2_with fail
  refine (unhide HVL w5 (unhide HB5)).mono ?_
  rintro e w6 ⟨rfl, rfl⟩
  go_wp2_with (at_make; refine wpList_make_u8 rfl _ _ 36 rfl i0 Tryz.underlying36 hi0 hz0 hz1 hz2 _ _ _ _ (32 * L) rfl rfl rfl rfl (by omega) ?_)
  intro w6 hk6 hs6 hb6
  have hst : St w w6 p q v gk gm S2 D2 2 n K0 [] w4.heap.size (32 * L) w5.heap.size (32 * L) := by
    have hvb6 := (unhide HVB).below ((unhide HB5).trans (hb6.mono (unhide HB5).size))
    have hft := (unhide HVB).footLt
    have hvlt := (unhide HVB).view.vlt
    have hsz := (unhide HVB).live.bel.size
    have hs5 := unhide HS5
    have hz : K0.flatten = zerosB (32 * L) := by rw [hKZ]; have := flat_zeros L; rw [Nat.mul_comm] at this; exact this
    have hzl : (zerosB (32 * L)).length = 32 * L := length_zerosB _
    have r1 := RwAt.blk ((unhide HK5).below hb6)
    have r2 := RwAt.blk hk6
    rw [hzl] at r1 r2
    refine ⟨hvb6, ?_, by rw [hz]; exact r2, by decide, fun hh => by have := hft _ hh; omega, fun hh => by have := hft _ hh; omega, by omega, by omega, by omega, by omega⟩
    rw [vBytes_all (fun i hi => (hvb6.view.rdSec hi).1), nowK_nil, hz]
    exact r1
  have HST := hide hst
  clear hst hk6 hb6 HK5 HB5 HVB HB4 HVL HPL hs4 HS5 hs6
  generalize w4.heap.size = gn0 at *
  generalize w5.heap.size = gp0 at *
  go_wp2_with fail
  go_loopw [17, 18, 19] (fun nv kv u wr => ∃ (i : Nat) (S : Nat → Prop) (D : DS) (s : Int) (K : List (List Int)) (M : List (Nat × List Int)) (gn cn gp cp : Nat), i ≤ l1.length ∧ i ≤ l2.length ∧ i ≤ 40 ∧ u = .int .i64 i ∧ nv = .slice (some ⟨gn, 0, none⟩) (32 * L) cn ∧ kv = .slice (some ⟨gp, 0, none⟩) (32 * L) cp ∧ K.length = L ∧ 0 ≤ s ∧ s ≤ 2 + i ∧ St w wr p q v gk gm S D s n K M gn cn gp cp) (fun _ _ u _ => 40 - (intOf u).toNat)
  case atStart => exact ⟨0, S2, D2, 2, K0, [], gn0, _, gp0, _, by omega, by omega, by omega, rfl, rfl, rfl, hKL, by omega, by omega, unhide HST⟩
  case round =>
    obtain ⟨i, S, D, s, K, M, gn, cn, gp, cp, hi1, hi2, hi40, rfl, rfl, rfl, hK, hs0, hs1, hst⟩ := hrel
    clear HST
    by_cases hlt : i < l1.length ∧ i < l2.length ∧ i < 40
    · obtain ⟨u1, u2, u3⟩ := hlt
      have hne1 : l1 ≠ [] := by intro e; rw [e] at u1; simp at u1
      have hne2 : l2 ≠ [] := by intro e; rw [e] at u2; simp at u2
      obtain ⟨b1, off1, rfl, hcs1⟩ := (unhide HS1).2.2.2 hne1
      obtain ⟨b2, off2, rfl, hcs2⟩ := (unhide HS2).2.2 hne2
      have q1 := (hst.vb.live.bel.cell (p := ⟨b1, off1 + i, none⟩) (block_lt_of_cell (hcs1 i u1))).trans (hcs1 i u1)
      obtain ⟨ai, ci, q20, hbi⟩ := hcs2 i u2
      have q2 := (hst.vb.live.bel.cell (p := ⟨b2, off2 + i, none⟩) (block_lt_of_cell q20)).trans q20
      have hxb := (unhide HS1).1 (l1.getD i 0) (by rw [List.getD_eq_getElem?_getD, List.getElem?_eq_getElem u1]; exact List.getElem_mem u1)
      have hact : ∀ wx, St w wx p q v gk gm S D s n K M gn cn gp cp → True := fun _ _ => trivial
      generalize l1.getD i 0 = x at *
      generalize l2.getD i [] = b at *
      have hbl := hbi.2.2.1
      have HBI := hide hbi
      have HW := hide (hst.write x hxb.2 ai ci b hbi)
      have HBEL0 := hide hst.vb.live.bel
      have HNF := hide (And.intro hst.nn (And.intro hst.np (And.intro hst.nvn (And.intro hst.apart (And.intro hst.bn hst.bp)))))
      clear hst hcs1 hcs2 q20 hbi hact hne1 hne2 hxb
      go_wp2_with fail
      refine (unhide HW).mono ?_
      rintro e w7 ⟨E, M1, rfl, hvb1, hfew, hnow, hkept, hcase⟩
      have HV1 := hide hvb1
      have HNOW := hide hnow
      have HKEPT := hide hkept
      have HCASE := hide hcase
      clear hvb1 hnow hkept hcase HW q1 q2
      go_upto_region 22 with fail
      go_cut [22, 112] from 99 to 110 (fun _ u wx => u = .bool (decide (E = 0)) ∧ wx = w7)
      case first =>
        by_cases hE : E = 0
        · have HD := hide (show decide (E = 0) = true from decide_eq_true hE)
          rw [errV_nilV hE]
          go_wp2
          go_meet
          case rel => exact ⟨by rw [unhide HD], rfl⟩
        · have HD := hide (show decide (E = 0) = false from decide_eq_false hE)
          rw [errV_pos _ hE]
          go_wp2
          go_meet
          case rel => exact ⟨by rw [unhide HD], rfl⟩
      case rest =>
      obtain ⟨rfl, rfl⟩ := hcut
      go_upto_if 112 with fail
      go_cut [23] from 99 to 112 (fun _ wx => St w wx p q v gk gm S D s n K M1 gn cn gp cp)
      case first =>
        rcases unhide HCASE with ⟨hE, hM⟩ | ⟨hE, y, hxy, hyb, hwr⟩
        · subst hM
          rw [decide_eq_false hE]
          have HS := hide (St.mk' (unhide HV1) (unhide HNOW) (unhide HKEPT) hfew (unhide HNF).1 (unhide HNF).2.1 (unhide HNF).2.2.1 (unhide HNF).2.2.2.1 (unhide HNF).2.2.2.2.1 (unhide HNF).2.2.2.2.2)
          clear hE
          go_wp2
          go_meet
          case rel => exact unhide HS
        · subst hE
          subst hxy
          rw [hK] at hyb
          rw [decide_eq_true rfl]
          have e1 : ¬ (y : Int) < 0 := by omega
          have e2 : ¬ ((32 * L : Nat) : Int) < (y : Int) := by omega
          have e3 : ¬ ((32 * L : Nat) : Int) - (y : Int) < (b.length : Int) := by omega
          have HWR := hide hwr
          have hnl : (vBytes K M 0 (32 * K.length)).length = 32 * L := by rw [length_vBytes, hK]
          clear hwr HCASE
          go_wp2_with fail
          go_loopw [23] (fun u wr => ∃ k : Nat, k ≤ b.length ∧ u = .int .i64 k ∧ RwAt wr gn cn (splice (vBytes K M 0 (32 * K.length)) y (b.take k)) ∧ OnlyV gn wc wr) (fun u _ => b.length - (intOf u).toNat)
          case atStart => exact ⟨0, Nat.zero_le _, rfl, by rw [List.take_zero, show splice (vBytes K M 0 (32 * K.length)) y [] = vBytes K M 0 (32 * K.length) by simp [splice]]; exact unhide HNOW, OnlyV.refl _ _⟩
          case round =>
            obtain ⟨k, hk, rfl, hrw, hon⟩ := hrel
            by_cases hkb : k < b.length
            · have hbw := (unhide HBI).below (unhide HV1).live.bel
              have hneb : b ≠ [] := by intro e; rw [e] at hkb; simp at hkb
              obtain ⟨bb, ob, rfl, hcb⟩ := hbw.2.2.2.2 hneb
              obtain ⟨bb', ob', e9, hcb0⟩ := (unhide HBI).2.2.2.2 hneb
              simp only [Option.some.injEq, Addr.mk.injEq, and_true] at e9
              obtain ⟨rfl, rfl⟩ := e9
              have hbbn : bb ≠ gn := by have := block_lt_of_cell (hcb0 0 (by omega)); have := (unhide HNF).2.2.2.2.1; dsimp only at *; omega
              have cb := (World.cell?_of_block (a := ⟨bb, ob + k, none⟩) (hon.block bb (block_lt_of_cell (hcb k hkb)) hbbn)).trans (hcb k hkb)
              have hsl : (splice (vBytes K M 0 (32 * K.length)) y (b.take k)).length = 32 * L := by rw [length_splice' (by rw [hnl]; simp; omega), hnl]
              have cn0 := hrw.cell (y + k) (by rw [hsl]; omega)
              have cnf := hrw.fr (y + k)
              have hset := hrw.set (y + k) (b.getD k 0) (by rw [hsl]; omega)
              rw [splice_set (by rw [hnl]; omega) hkb] at hset
              have HSET := hide hset
              have HON := hide (hon.trans (Turn.setCell (S := fun k => k = gn) wr (a := ⟨gn, y + k, none⟩) (.int .u8 (b.getD k 0)) rfl))
              have e4 : (y : Int) + (k : Int) < ((32 * L : Nat) : Int) := by omega
              generalize b.getD k 0 = bk at *
              clear hset hrw hon hbw hcb hcb0 hneb
              go_wp2_with fail
              go_roundw
              case rel => exact ⟨k + 1, by omega, by go_num, unhide HSET, unhide HON⟩
              case measure => simp [intOf]; omega
            · obtain rfl : k = b.length := by omega
              rw [List.take_length, splice_wrote (unhide HWR) (by rw [hK]; omega)] at hrw
              have hnf := unhide HNF
              have HS := hide (St.mk' ((unhide HV1).other hon hnf.1 hnf.2.2.1 hnf.2.2.2.2.1) hrw ((unhide HKEPT).same (hon.block gp (unhide HKEPT).lt (fun e => hnf.2.2.2.1 e.symm))) hfew hnf.1 hnf.2.1 hnf.2.2.1 hnf.2.2.2.1 hnf.2.2.2.2.1 hnf.2.2.2.2.2)
              clear hrw hon hnf
              go_wp2
              go_meet
              case rel => exact unhide HS
      case rest =>
        have hst := hcut
        have HST1 := hide hst
        have HDI := hide (vDirty_any hst.vb.view (by omega))
        clear hcut hst HV1 HNOW HKEPT HCASE HNF HBI
        go_wp2_with fail
        refine (unhide HDI).mono ?_
        rintro e w8 ⟨dv, rfl, hrow8, hb8⟩
        obtain ⟨da, dc, rfl, hdcell⟩ := ints_form2 hrow8
        have HFB := hide (unhide HST1).vb.footLt
        have hst8 := (unhide HST1).below hb8
        have HST8 := hide hst8
        have HDC := hide hdcell
        clear hrow8 hb8 hst8 HDI HST1 hdcell
        have e23 : ¬ (23 : Int) < (M1.length : Int) := by omega
        generalize wc.heap.size = B8 at HDC HFB
        go_upto_region 32 with fail
        go_cut [160] from 145 to 149 (fun u wx => u = .bool (decide (i < l3.length ∧ l3.getD i 0 = 1)) ∧ wx = w8)
        case first =>
          by_cases hi3 : i < l3.length
          · obtain ⟨b3, off3, rfl, hcs3⟩ := (unhide HS3).2.2.2 (by intro e; rw [e] at hi3; simp at hi3)
            have q3 := ((unhide HST8).vb.live.bel.cell (p := ⟨b3, off3 + i, none⟩) (block_lt_of_cell (hcs3 i hi3))).trans (hcs3 i hi3)
            generalize l3.getD i 0 = av at *
            clear hcs3
            by_cases hav : av = 1
            · subst hav
              go_wp2
              go_meet
              case rel => exact ⟨by simp [hi3], rfl⟩
            · have hab : (av == 1) = false := by simp [hav]
              go_wp2
              go_meet
              case rel => exact ⟨by simp [hi3, hav], rfl⟩
          · go_wp2
            go_meet
            case rel => exact ⟨by simp [hi3], rfl⟩
        case rest =>
          obtain ⟨rfl, rfl⟩ := hcut
          go_upto_if 160 with fail
          go_cut [17, 18] from 145 to 160 (fun nv kv wx => Aft w wx p q v gk gm n L (s + 1) da M1 nv kv)
          case first =>
            by_cases hA : i < l3.length ∧ l3.getD i 0 = 1
            · rw [decide_eq_true hA]
              have HCM := hide ((unhide HST8).commit (by omega) hs0)
              clear hA
              go_wp2_with fail
              refine (unhide HCM).mono ?_
              rintro e w9 ⟨rfl, S9, D9, s9, hv9, hs91, hs92, ht9, hn9, hnf9⟩
              have HD9 := hide (vDirty_any hv9.view (by decide))
              have HV9 := hide hv9
              have HN9 := hide hn9
              have HT9 := hide ht9
              clear hv9 hn9 ht9 HCM
              go_wp2_with fail
              refine (unhide HD9).mono ?_
              rintro e w10 ⟨dv2, rfl, hrow10, hb10⟩
              obtain ⟨da2, dc2, rfl, _⟩ := ints_form hrow10
              have hv10 := (unhide HV9).below hb10
              have hn10 := (unhide HN9).same (hb10.block gn (unhide HN9).lt)
              have hlN : (nowK K M1).flatten.length = 32 * L := by rw [flat_len _ hv10.view.secs32, length_nowK, hK, Nat.mul_comm]
              have hbyt : Byt (nowK K M1).flatten := fun z hz => by obtain ⟨x, hx, hzx⟩ := List.mem_flatten.1 hz; exact (hv10.view.sec x hx).2 z hzx
              generalize hFL : (nowK K M1).flatten = FL at *
              have HFL := hide hFL
              clear hFL
              have HBN := hide (hn10.bs hbyt (by rw [hlN]; omega))
              have HV10 := hide hv10
              have HN10 := hide hn10
              have HB10 := hide hb10
              have HOW := hide (World.ownsRow_made (base := w10.heap.size) (e := 5) (size := 1) w10 #[] 0 (Nat.le_refl _) (by decide) rfl)
              clear hrow10 hv10 hn10 hb10 hbyt HD9
              go_wp2_with (at_builtin; refine wpList_append_own_at _ rfl _ _ 36 rfl w10.heap.size 5 i0 (.int .u8 0) 1 1 Tryz.underlying36 hi0 hz0 hz1 hz2 rfl (by decide) _ _ _ rfl (unhide HOW) ⟨gn, 0, none⟩ (32 * L) cn (FL.map (Value.int .u8)) rfl (by rw [List.length_map, hlN, Nat.mul_one]) (news_bs ((unhide HBN).below ((Below.refl _ _).alloc (Nat.le_refl _) _))) (oneCell_u8 _) (by unfold maxLen; omega) (by omega) (by simp) ?_)
              intro v11 w11 hown11 hgrow11 _ _
              obtain ⟨gp', cp', rfl, hgp', hrp⟩ := RwAt.own (l := FL) hown11 hlN.symm (by omega)
              have hb11 : Below w10.heap.size w10 w11 := ((Below.refl _ w10).alloc (Nat.le_refl _) (.cells #[] 5)).trans ((Turn.grown (S := fun k => w10.heap.size ≤ k) hgrow11 (fun k hk => by simp [Value.ownBlock] at hk; omega)).below (fun _ h => h) (by simp))
              have hAft : Aft w w11 p q v gk gm n L (s + 1) da M1 (.slice (some ⟨gn, 0, none⟩) (32 * L) cn) (.slice (some ⟨gp', 0, none⟩) FL.length cp') := by
                have hvf := (unhide HV10).below hb11
                have hft := (unhide HV10).footLt
                have hst8 := unhide HST8
                have hgn10 := (unhide HN10).lt
                have hsz1 := (unhide HV10).live.bel.size
                have hsz8 := (unhide HT9).size
                have hsz10 := (unhide HB10).size
                refine ⟨S9, D9, s9, nowK K M1, [], gn, cn, gp', cp', rfl, by rw [hlN], by rw [length_nowK, hK], by omega, by omega, ⟨hvf, by rw [hvf.zeroNow, unhide HFL]; exact (unhide HN10).same (hb11.block gn hgn10), by rw [unhide HFL]; exact hrp, by decide, hnf9, fun hh => by have := hft _ hh; omega, hst8.nvn, by omega, hst8.bn, by omega⟩, fun k hk _ => ?_, fun j hj => ?_⟩
                · rfl
                · obtain ⟨gd, e9, hgB, hcd⟩ := unhide HDC j hj
                  have hgl := block_lt_of_cell hcd
                  dsimp only at hgl
                  have hnf : ¬ footV S q gk gm gd := fun hh => by have := unhide HFB gd hh; omega
                  refine ⟨gd, e9, ?_, fun hh => hnf ((unhide HT9).foot gd hgl hh)⟩
                  rw [← hcd]
                  exact World.cell?_of_block (a := ⟨gd, j, none⟩) (((hb11.block gd (by omega)).trans ((unhide HB10).block gd (by omega))).trans ((unhide HT9).block gd hgl hnf))
              have HAFT := hide hAft
              rw [hlN] at HAFT ⊢
              clear hAft hrp hb11 hown11 hgrow11
              go_wp2
              go_meet
              case rel => exact unhide HAFT
            · rw [decide_eq_false hA]
              have HAFT : Hid (Aft w wc p q v gk gm n L (s + 1) da M1 (.slice (some ⟨gn, 0, none⟩) (32 * L) cn) (.slice (some ⟨gp, 0, none⟩) (32 * L) cp)) := hide ⟨S, D, s, K, M1, gn, cn, gp, cp, rfl, rfl, hK, hs0, by omega, unhide HST8, fun k hk hn => vRd_none hn, fun j hj => by obtain ⟨gd, e9, hgB, hcd⟩ := unhide HDC j hj; exact ⟨gd, e9, hcd, fun hh => by have := unhide HFB gd hh; omega⟩⟩
              clear hA
              go_wp2
              go_meet
              case rel => exact unhide HAFT
          case rest =>
            have HAF := hide hcut
            clear hcut HST8 HDC HFB
            go_upto_region 36 with fail
            go_cut [183] from 145 to 149 (fun u wx => u = .bool (decide (i < l3.length ∧ l3.getD i 0 = 2)) ∧ wx = wc)
            case first =>
              have hbel : Below w.heap.size w wc := by obtain ⟨_, _, _, _, _, _, _, _, _, _, _, _, _, _, hS, _⟩ := unhide HAF; exact hS.vb.live.bel
              by_cases hi3 : i < l3.length
              · obtain ⟨b3, off3, rfl, hcs3⟩ := (unhide HS3).2.2.2 (by intro e; rw [e] at hi3; simp at hi3)
                have q3 := (hbel.cell (p := ⟨b3, off3 + i, none⟩) (block_lt_of_cell (hcs3 i hi3))).trans (hcs3 i hi3)
                generalize l3.getD i 0 = av at *
                clear hcs3 hbel
                by_cases hav : av = 2
                · subst hav
                  go_wp2
                  go_meet
                  case rel => exact ⟨by simp [hi3], rfl⟩
                · have hab : (av == 2) = false := by simp [hav]
                  go_wp2
                  go_meet
                  case rel => exact ⟨by simp [hi3, hav], rfl⟩
              · clear hbel
                go_wp2
                go_meet
                case rel => exact ⟨by simp [hi3], rfl⟩
            case rest =>
              obtain ⟨rfl, rfl⟩ := hcut
              go_upto_if 183 with fail
              go_cut [17, 18] from 145 to 183 (fun nv kv wx => Aft w wx p q v gk gm n L (s + 1) da M1 nv kv)
              case first =>
                obtain ⟨S4, D4, s4, K4, M4, gn4, cn4, gp4, cp4, rfl, rfl, hK4, hs40, hs41, hst4, hsm4, hdc4⟩ := unhide HAF
                have HST4 := hide hst4
                have HSM4 := hide hsm4
                have HDC4 := hide hdc4
                have HAB := hide hst4.vb.abort
                clear hst4 hsm4 hdc4
                by_cases hA : i < l3.length ∧ l3.getD i 0 = 2
                · rw [decide_eq_true hA]
                  clear hA HAF
                  go_wp2_with fail
                  refine (unhide HAB).mono ?_
                  rintro e w9 ⟨rfl, hv9, ho9⟩
                  have hst4 := unhide HST4
                  have hkp9 := hst4.kept.same (ho9.block gp4 hst4.kept.lt (fun e => hst4.np (.inr (.inr e))))
                  have hlN : K4.flatten.length = 32 * L := by rw [hst4.keptLen, hK4]
                  have hbyt : Byt K4.flatten := fun z hz => by obtain ⟨x, hx, hzx⟩ := List.mem_flatten.1 hz; exact (hst4.vb.view.sec x hx).2 z hzx
                  generalize hFL : K4.flatten = FL at *
                  have HFL := hide hFL
                  clear hFL
                  have HBN := hide (hkp9.bs hbyt (by rw [hlN]; omega))
                  have HV9 := hide hv9
                  have HKP9 := hide hkp9
                  have HO9 := hide ho9
                  have HOW := hide (World.ownsRow_made (base := w9.heap.size) (e := 5) (size := 1) w9 #[] 0 (Nat.le_refl _) (by decide) rfl)
                  clear hv9 hkp9 ho9 hbyt hst4
                  go_wp2_with (at_builtin; refine wpList_append_own_at _ rfl _ _ 36 rfl w9.heap.size 5 i0 (.int .u8 0) 1 1 Tryz.underlying36 hi0 hz0 hz1 hz2 rfl (by decide) _ _ _ rfl (unhide HOW) ⟨gp4, 0, none⟩ (32 * L) cp4 (FL.map (Value.int .u8)) rfl (by rw [List.length_map, hlN, Nat.mul_one]) (news_bs ((unhide HBN).below ((Below.refl _ _).alloc (Nat.le_refl _) _))) (oneCell_u8 _) (by unfold maxLen; omega) (by omega) (by simp) ?_)
                  intro v11 w11 hown11 hgrow11 _ _
                  obtain ⟨gn', cn', rfl, hgn', hrn⟩ := RwAt.own (l := FL) hown11 hlN.symm (by omega)
                  have hb11 : Below w9.heap.size w9 w11 := ((Below.refl _ w9).alloc (Nat.le_refl _) (.cells #[] 5)).trans ((Turn.grown (S := fun k => w9.heap.size ≤ k) hgrow11 (fun k hk => by simp [Value.ownBlock] at hk; omega)).below (fun _ h => h) (by simp))
                  have hv11 := (unhide HV9).below hb11
                  have HD11 := hide (vDirty_any hv11.view (by decide))
                  have hAft : Aft w w11 p q v gk gm n L (s + 1) da M1 (.slice (some ⟨gn', 0, none⟩) (32 * L) cn') (.slice (some ⟨gp4, 0, none⟩) (32 * L) cp4) := by
                    have hft := (unhide HV9).footLt
                    have hst4 := unhide HST4
                    have hgl := (unhide HKP9).lt
                    have hvl := (unhide HV9).view.vlt
                    have hsz1 := (unhide HV9).live.bel.size
                    refine ⟨S4, D4, s4, K4, [], gn', cn', gp4, cp4, rfl, rfl, hK4, hs40, hs41, ⟨hv11, by rw [hv11.zeroNow, unhide HFL]; exact hrn, by rw [unhide HFL]; exact (unhide HKP9).same (hb11.block gp4 hgl), by decide, fun hh => by have := hft _ hh; omega, hst4.np, by omega, by omega, by omega, hst4.bp⟩, fun k hk _ => rfl, fun j hj => ?_⟩
                    obtain ⟨gd, e9, hcd, hnf⟩ := unhide HDC4 j hj
                    have hgd := block_lt_of_cell hcd
                    dsimp only at hgd
                    have hszo := (unhide HO9).size
                    refine ⟨gd, e9, ?_, hnf⟩
                    rw [← hcd]
                    exact World.cell?_of_block (a := ⟨gd, j, none⟩) ((hb11.block gd (by omega)).trans ((unhide HO9).block gd hgd (fun e => hnf (.inr (.inr e)))))
                  rw [hlN]
                  have HAFT := hide hAft
                  clear hAft hrn hb11 hown11 hgrow11 hv11
                  go_wp2_with fail
                  refine (unhide HD11).mono ?_
                  rintro e w12 ⟨dv3, rfl, hrow12, hb12⟩
                  obtain ⟨da3, dc3, rfl, _⟩ := ints_form hrow12
                  have HAFT2 := hide ((unhide HAFT).below hb12)
                  clear hrow12 hb12 HAFT HD11
                  go_wp2
                  go_meet
                  case rel => exact unhide HAFT2
                · rw [decide_eq_false hA]
                  clear hA
                  go_wp2
                  go_meet
                  case rel => exact unhide HAF
              case rest =>
                obtain ⟨S4, D4, s4, K4, M4, gn4, cn4, gp4, cp4, rfl, rfl, hK4, hs40, hs41, hst4, hsm4, hdc4⟩ := hcut
                clear HAF
                have hvl := vLen_any hst4.vb.view
                rw [hK4] at hvl
                have hrd := vRead_yes hst4.vb.view 0 (32 * L) (by rw [hK4]; omega)
                have HVL := hide hvl
                have HRD := hide hrd
                have HST4 := hide hst4
                have HSM4 := hide hsm4
                have HDC4 := hide hdc4
                clear hvl hrd hst4 hsm4 hdc4
                go_wp2_with fail
                refine (unhide HVL).mono ?_
                rintro e w12 ⟨rfl, rfl⟩
                go_wp2_with fail
                refine (unhide HRD).mono ?_
                rintro e w12 ⟨o1, rfl, _, ho1, hb12⟩
                have hst12 := (unhide HST4).below hb12
                have hNow := hst12.nowBs
                have hKep := hst12.keptBs
                have hkl := hst12.keptLen
                rw [hK4] at hNow hkl
                have hnl : (vBytes K4 M4 0 (32 * L)).length = 32 * L := length_vBytes _ _ _ _
                have hb1 := blk_bsV ho1 hNow.1 (by rw [hnl]; omega)
                have cv1 := bytes_strV hb1 0
                have cv2 := bytes_strV hNow 0
                rw [hnl] at cv1 cv2
                have HDC12 : Hid (∀ j, j < M1.length → ∃ gd, da = some ⟨gd, 0, none⟩ ∧ w12.cell? ⟨gd, j, none⟩ = some (.int .i64 ((dirtyL M1).getD j 0))) := hide (fun j hj => by
                  obtain ⟨gd, e9, hcd, _⟩ := unhide HDC4 j hj
                  exact ⟨gd, e9, (hb12.cell (p := ⟨gd, j, none⟩) (block_lt_of_cell hcd)).trans hcd⟩)
                have HPART : Hid (∀ k, k < L → ((vBytes K4 M4 0 (32 * L)).drop (32 * k)).take 32 = vRd K4 M4 k ∧ (K4.flatten.drop (32 * k)).take 32 = K4.getD k []) := hide (fun k hk => by
                  have r1 := vBytes_part (K := K4) (M := M4) (k := k) (by omega) (hst12.rd32 k (by omega))
                  rw [hK4] at r1
                  have r2 := flat_part K4 k hst12.vb.view.secs32 (by omega)
                  rw [Nat.mul_comm] at r2
                  exact ⟨r1, r2⟩)
                have HST12 := hide hst12
                have HNOW := hide hNow
                have HKEP := hide hKep
                clear hst12 hb1 ho1 hb12 HDC4 HST4 HRD HVL hNow hKep
                generalize strOf (vBytes K4 M4 0 (32 * L)) = st at cv1 cv2
                rw [show w12.drewN 0 = w12 from rfl] at cv1 cv2
                go_wp2_with fail
                go_loopw [27] (fun u wr => ∃ k m : Nat, k ≤ L ∧ u = .int .i64 k ∧ wr = w12.drewN m) (fun u _ => L - (intOf u).toNat)
                case atStart => exact ⟨0, 0, Nat.zero_le _, rfl, rfl⟩
                case round =>
                  obtain ⟨k, m, hk, rfl, rfl⟩ := hrel
                  have hstk := (unhide HST12).drewN m
                  have hpl := pLen_any hstk.vb.live.dev hstk.vb.pg
                  rw [hstk.vb.len, hL] at hpl
                  have HPL := hide hpl
                  clear hpl hstk cv1 cv2
                  by_cases hkL : k < L
                  · go_wp2_with fail
                    refine (unhide HPL).mono ?_
                    rintro e w13 ⟨rfl, rfl⟩
                    go_wp2_with fail
                    go_loopw [28, 29] (fun d u wr => ∃ j : Nat, j ≤ M1.length ∧ u = .int .i64 j ∧ d = .bool (decide ((k : Int) ∈ (dirtyL M1).take j)) ∧ wr = w12.drewN m) (fun _ u _ => M1.length - (intOf u).toNat)
                    case atStart => exact ⟨0, Nat.zero_le _, rfl, by simp, rfl⟩
                    case round =>
                      obtain ⟨j, hj, rfl, rfl, rfl⟩ := hrel
                      by_cases hjm : j < M1.length
                      · obtain ⟨gd, rfl, hcd⟩ := unhide HDC12 j hjm
                        have c9 : (w12.drewN m).cell? ⟨gd, j, none⟩ = some (.int .i64 ((dirtyL M1).getD j 0)) := hcd
                        have hms := mem_take_succ (l := dirtyL M1) (j := j) (by rw [length_dirtyL]; exact hjm) (k : Int)
                        generalize (dirtyL M1).getD j 0 = dj at *
                        clear hcd
                        by_cases hin : (k : Int) ∈ (dirtyL M1).take j
                        · have HD := hide (show decide ((k : Int) ∈ (dirtyL M1).take (j + 1)) = true from decide_eq_true (hms.2 (.inl hin)))
                          rw [decide_eq_true hin]
                          clear hms hin
                          go_wp2
                          go_roundw
                          case rel => exact ⟨j + 1, by omega, by go_num, by rw [unhide HD], by trivial⟩
                          case measure => simp [intOf]; omega
                        · rw [decide_eq_false hin]
                          by_cases hdk : dj = (k : Int)
                          · have HD := hide (show decide ((k : Int) ∈ (dirtyL M1).take (j + 1)) = true from decide_eq_true (hms.2 (.inr hdk)))
                            subst hdk
                            clear hms hin
                            go_wp2
                            go_roundw
                            case rel => exact ⟨j + 1, by omega, by go_num, by rw [unhide HD], by trivial⟩
                            case measure => simp [intOf]; omega
                          · have HD := hide (show decide ((k : Int) ∈ (dirtyL M1).take (j + 1)) = false from decide_eq_false (fun hh => (hms.1 hh).elim hin hdk))
                            have hdb : (dj == (k : Int)) = false := by simp [hdk]
                            clear hms hin
                            go_wp2
                            go_roundw
                            case rel => exact ⟨j + 1, by omega, by go_num, by rw [unhide HD], by trivial⟩
                            case measure => simp [intOf]; omega
                      · obtain rfl : j = M1.length := by omega
                        rw [show (dirtyL M1).take M1.length = dirtyL M1 by rw [← length_dirtyL M1]; exact List.take_length]
                        by_cases hin : (k : Int) ∈ dirtyL M1
                        · rw [decide_eq_true hin]
                          go_wp2_with fail
                          go_quiet (fail)
                          go_wp2
                          go_roundw
                          case rel => exact ⟨k + 1, _, by omega, by go_num, by first | rfl | (rw [drewN_drewN])⟩
                          case measure => simp [intOf]; omega
                        · rw [decide_eq_false hin]
                          have hls : (M1.lookup k).isSome = false := by
                            cases hh : (M1.lookup k).isSome with
                            | false => rfl
                            | true => exact absurd (dirtyL_mem hh) hin
                          obtain ⟨p1, p2⟩ := unhide HPART k hkL
                          have hpe := unhide HSM4 k hkL hls
                          obtain ⟨an, pn, sn⟩ := slice_lohi (P := Tryz.prog) (t := 36) Tryz.underlying36 size_u8 (unhide HNOW) (32 * k) (32 * k + 32) (by omega) (by rw [hnl]; omega)
                          obtain ⟨ak, pk, sk⟩ := slice_lohi (P := Tryz.prog) (t := 36) Tryz.underlying36 size_u8 (unhide HKEP) (32 * k) (32 * k + 32) (by omega) (by rw [hkl]; omega)
                          have e32 : 32 * k + 32 - 32 * k = 32 := by omega
                          have ec1 : ((32 * k : Nat) : Int) = 32 * (k : Int) := by omega
                          have ec2 : ((32 * k + 32 : Nat) : Int) = 32 * (k : Int) + 32 := by omega
                          rw [hnl, e32, ec1, ec2] at pn
                          rw [hkl, e32, ec1, ec2] at pk
                          rw [e32, p1, hpe] at sn
                          rw [e32, p2] at sk
                          have hl32 : (K4.getD k []).length = 32 := by rw [← hpe]; exact (unhide HST12).rd32 k (by omega)
                          have cvn := fun m' => bytes_strV (sn.below (below_drewN (Below.refl _ _) m)) m'
                          have cvk := fun m' => bytes_strV (sk.below (below_drewN (Below.refl _ _) m)) m'
                          rw [hl32] at cvn cvk
                          generalize strOf (K4.getD k []) = st9 at cvn cvk
                          have hw1 : IntKind.i64.wrap (32 * (k : Int)) = 32 * (k : Int) := by simp only [IntKind.wrap_i64]; omega
                          have hw2 : IntKind.i64.wrap (32 * (k : Int) + 32) = 32 * (k : Int) + 32 := by simp only [IntKind.wrap_i64]; omega
                          have pnw : ∀ w', (Instr.slice 36 (.slice (some ⟨gn4, 0, none⟩) (32 * L) cn4) (some (.int .i64 (IntKind.i64.wrap (32 * (k : Int))))) (some (.int .i64 (IntKind.i64.wrap (IntKind.i64.wrap (32 * (k : Int)) + 32)))) none).run Tryz.prog w' = .ok (.slice an 32 (cn4 - 32 * k)) w' := fun w' => by rw [hw1, hw2]; exact pn w'
                          have pkw : ∀ w', (Instr.slice 36 (.slice (some ⟨gp4, 0, none⟩) (32 * L) cp4) (some (.int .i64 (IntKind.i64.wrap (32 * (k : Int))))) (some (.int .i64 (IntKind.i64.wrap (IntKind.i64.wrap (32 * (k : Int)) + 32)))) none).run Tryz.prog w' = .ok (.slice ak 32 (cp4 - 32 * k)) w' := fun w' => by rw [hw1, hw2]; exact pk w'
                          clear sn sk p1 p2 hpe hls hin e32 ec1 ec2 hl32 hw1 hw2
                          generalize hwz : w12.drewN m = wz at *
                          have HWZ := hide hwz
                          clear hwz
                          go_wp2_with fail
                          go_quiet (fail)
                          go_wp2
                          go_roundw
                          case rel => exact ⟨k + 1, m + nq, by omega, by go_num, by have hz := unhide HWZ; rw [← hz]; simp only [World.drewN_drewN]⟩
                          case measure => simp [intOf]; omega
                  · obtain rfl : k = L := by omega
                    go_wp2_with fail
                    refine (unhide HPL).mono ?_
                    rintro e w13 ⟨rfl, rfl⟩
                    have HFS := hide ((unhide HST12).drewN m)
                    go_wp2
                    go_roundw
                    case rel => exact ⟨i + 1, S4, D4, s4, K4, M4, gn4, cn4, gp4, cp4, by omega, by omega, by omega, by go_num, rfl, rfl, hK4, hs40, by omega, unhide HFS⟩
                    case measure => simp [intOf]; omega
    · have HRO := hide (hst.reopen (by omega))
      have hcond : ¬ i < l1.length ∨ (i < l1.length ∧ ¬ i < l2.length) ∨ (i < l1.length ∧ i < l2.length ∧ ¬ i < 40) := by omega
      have hsec32 := hst.keptLen
      rw [hK] at hsec32
      have HBYT : Hid (Byt K.flatten) := hide hst.keptBs.1
      clear hst hlt hi1 hi2 hi40
      rcases hcond with g1 | ⟨g1, g2⟩ | ⟨g1, g2, g3⟩
      all_goals
        go_wp2_with fail
        refine (unhide HRO).mono ?_
        rintro e w8 ⟨q', rfl, S8, D8, hl8, hpg8, hlen8, hdn8, hko8, hkp8⟩
        rw [hK] at hko8
        have HNW := hide (vNew_any hl8.dev hpg8 (L := L) (by rw [hlen8]; exact hL) hL2 (by rw [hlen8]; exact hL3) hdn8)
        have HB8 := hide hl8.bel
        have HKP8 := hide hkp8
        clear hl8 hpg8 hkp8
        go_wp2_with fail
        refine (unhide HNW).mono ?_
        rintro e w9 ⟨v9, gk9, gm9, rfl, hv9, _, _, _, hb9⟩
        rw [hko8] at hv9
        have hvl9 := vLen_any hv9
        have hrd9 := vRead_yes hv9 0 (32 * L) (by rw [hK]; omega)
        rw [hK] at hvl9
        rw [show vBytes K [] 0 (32 * L) = K.flatten by rw [← hK, vBytes_all (fun i hi => (hv9.rdSec hi).1), nowK_nil]] at hrd9
        have HVL9 := hide hvl9
        have HRD9 := hide hrd9
        have hk9 := (unhide HKP8).same (hb9.block gp (unhide HKP8).lt)
        have HK9 := hide hk9
        have HB9 := hide ((unhide HB8).trans (hb9.mono (unhide HB8).size))
        clear hv9 hb9 hvl9 hrd9 hk9 HNW
        go_wp2_with fail
        refine (unhide HVL9).mono ?_
        rintro e w10 ⟨rfl, rfl⟩
        go_wp2_with fail
        refine (unhide HRD9).mono ?_
        rintro e w10 ⟨o9, rfl, _, ho9, hb10⟩
        have hk10 := (unhide HK9).same (hb10.block gp (unhide HK9).lt)
        have cv1 := bytes_strV (blk_bsV ho9 (unhide HBYT) (by rw [hsec32]; omega)) 0
        have cv2 := bytes_strV (hk10.bs (unhide HBYT) (by rw [hsec32]; omega)) 0
        rw [hsec32] at cv1 cv2
        rw [show w10.drewN 0 = w10 from rfl] at cv1 cv2
        generalize strOf K.flatten = st at cv1 cv2
        have HFIN := hide ((unhide HB9).trans (hb10.mono (unhide HB9).size))
        clear hk10 ho9 hb10
        go_wp2
        go_ret
        exact ⟨rfl, unhide HFIN⟩
theorem walkViewBack (n : Int) (a1 : Option Addr) (cap1 : Nat) (l1 : List Int) (a2 : Option Addr) (cap2 : Nat) (l2 : List (List Int)) (a3 : Option Addr) (cap3 : Nat) (l3 : List Int) (w : World) (hg : ErrT w)
    (hs1 : Is w a1 cap1 l1) (hs2 : Bss w a2 cap2 l2) (hs3 : Is w a3 cap3 l3) :
    Calls Tryz.prog 3 #[.int .i64 n, .slice a1 l1.length cap1, .slice a2 l2.length cap2, .slice a3 l3.length cap3] w fun e w' => e = .returned (.bool true) ∧ Below w.heap.size w w' := by
  by_cases hn : n < 1 ∨ 300 < n
  · exact vwb_no n a1 a2 a3 _ _ _ cap1 cap2 cap3 w hn
  · obtain ⟨N, rfl⟩ : ∃ N : Nat, n = N := ⟨n.toNat, by omega⟩
    by_cases h49 : N < 49
    · exact vwb_few N a1 a2 a3 _ _ _ cap1 cap2 cap3 w (by omega) h49
    · exact vwb_in N a1 cap1 l1 a2 cap2 l2 a3 cap3 l3 w hg hs1 hs2 hs3 (by omega) (by omega)
end Go.Proofs.YtjipnjmnkfjmhaaGreatDoor
