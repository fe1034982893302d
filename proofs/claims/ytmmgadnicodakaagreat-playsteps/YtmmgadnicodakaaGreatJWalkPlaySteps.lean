/-
  The walk of PlaySteps. (Part of the proof of PlaySteps.)
-/
import Derived.Test.YtmmgadnicodakaaGreatJPo
import Derived.Test.YtmmgadnicodakaaGreatJAs
namespace Go.Proofs.YtmmgadnicodakaaGreat
open Go.RowKit
set_option linter.unusedVariables false
theorem info_op : (Tryz.prog.info? 37).map (fun i => (i.zero, i.size, i.bytes)) = some (some (.agg #[.int .i64 0, .int .i64 0, .int .i64 0, .int .i64 0, .string ByteArray.empty, .slice none 0 0]), 6, 72) := by kernel_rfl
theorem steps_64 (W : World) (a : Option Addr) (c : Nat) (l : List OpR) (ho : Ops W a c l) (hl : l.length ≤ 200) :
  Calls Tryz.prog 16 #[.int .i64 64, .slice a l.length c] W fun e w' => e = .returned (.tuple #[.int .i64 (stSum 16 (crP 64 16) (l.map opP)), .nilIface]) ∧ Below W.heap.size W w' :=
 steps_yes (m := 16) W 64 ho (by decide) (by decide) rfl hl
theorem steps_two (w : World) {T : Nat} : Calls Tryz.prog 16 #[.int .i64 64, .slice (some ⟨w.heap.size, 0, none⟩) 2 2] (w.alloc (.cells #[.int .i64 1, .int .i64 0, .int .i64 0, .int .i64 3, .string ByteArray.empty, .slice none 0 0, .int .i64 6, .int .i64 0, .int .i64 0, .int .i64 0, .string ByteArray.empty, .slice none 0 0] T)) fun e w' => e = .returned (.tuple #[.int .i64 6, .nilIface]) ∧ Below w.heap.size w w' := by
 have h := steps_64 _ _ _ _ (ops_two (T := T) (heap_alloc_new w _)) (by decide)
 rw [two_steps 64 (by decide) (by decide)] at h
 refine h.mono fun e w' ⟨he, hb⟩ => ⟨he, ?_⟩
 have hb2 : Below w.heap.size w (w.alloc (.cells #[.int .i64 1, .int .i64 0, .int .i64 0, .int .i64 3, .string ByteArray.empty, .slice none 0 0, .int .i64 6, .int .i64 0, .int .i64 0, .int .i64 0, .string ByteArray.empty, .slice none 0 0] T)) := (Below.refl _ _).alloc (Nat.le_refl _) _
 exact hb2.trans (hb.mono hb2.size)
set_option maxRecDepth 100000 in
set_option maxHeartbeats 4000000 in
theorem walkPlaySteps (a0 : Option Addr) (cap0 : Nat) (l0 : List OpR) (a1 : Option Addr) (cap1 : Nat) (l1 : List OpR) (w : World) (h0 : Ops w a0 cap0 l0) (h1 : Ops w a1 cap1 l1) :
  Calls Tryz.prog 4 #[.slice a0 l0.length cap0, .slice a1 l1.length cap1] w fun e w' => e = .returned (.bool true) ∧ Below w.heap.size w w' := by
 have hl0 := h0.1.2.2.1
 have hl1 := h1.1.2.2.1
 have H0 := hide h0
 have H1 := hide h1
 have HS := hide steps_64
 have HT := hide (steps_two w (T := 37))
 obtain ⟨i0, hi0, hz0, hz1, hz2⟩ := info_parts info_op
 clear h0 h1
 go_enter Tryz.func4, Tryz.ntmps4
 go_wp2_with fail
 refine (unhide HT).mono ?_
 rintro e w1 ⟨rfl, hb1⟩
 have HB1 := hide hb1
 clear hb1 HT
 by_cases h60 : l0.length ≤ 60 ∧ l1.length ≤ 60
 ·obtain ⟨h61, h62⟩ := h60
  have e61 : (l0.length : Int) ≤ 60 := by omega
  have e62 : (l1.length : Int) ≤ 60 := by omega
  have hs0 := unhide HS w1 a0 cap0 l0 ((unhide H0).below (unhide HB1)) (by omega)
  have HF := hide (st_fact (m := 16) (crP 64 16) l0 l1)
  generalize stSum 16 (crP 64 16) (l0.map opP) = st0 at *
  have HS0 := hide hs0
  clear hs0
  go_wp2_with fail
  refine (unhide HS0).mono ?_
  rintro e w2 ⟨rfl, hb2⟩
  have hB2 := (unhide HB1).trans (hb2.mono (unhide HB1).size)
  have HSL0 := hide (((unhide H0).below hB2).1)
  have HB2 := hide hB2
  clear hb2 hB2 HS0 HB1
  go_wp2_with (at_builtin; refine wpList_append_sls rfl _ _ 22 rfl w2.heap.size i0 _ 72 Tryz.underlying22 hi0 hz0 hz1 hz2 rfl (by decide) (by decide) _ [] rfl (Lst.nil _ _) a0 cap0 l0 rfl (unhide HSL0) opC_len opC_one (by simp; omega) (Nat.le_refl _) ?_)
  intro v3 w3 hl3 hb3
  have hl3' : Lst opC 6 37 w3 w2.heap.size v3 l0 := hl3
  have HL3 := hide hl3'
  clear hl3'
  have hsz3 := hb3.size
  have HSL1 := hide (((unhide H1).below ((unhide HB2).trans (hb3.mono (unhide HB2).size))).1)
  have HB3 := hide hb3
  clear hl3 hb3 HSL0
  go_wp2_with (at_builtin; refine wpList_append_sls rfl _ _ 22 rfl w2.heap.size i0 _ 72 Tryz.underlying22 hi0 hz0 hz1 hz2 rfl (by decide) (by decide) _ l0 rfl (unhide HL3) a1 cap1 l1 rfl (unhide HSL1) opC_len opC_one (by omega) hsz3 ?_)
  intro v4 w4 hl4 hb4
  have hB4 := (unhide HB2).trans (((unhide HB3).trans hb4).mono (unhide HB2).size)
  have hlen4 : (l0 ++ l1).length ≤ 120 := by rw [List.length_append]; omega
  obtain ⟨a4, c4, rfl, ho4⟩ := ops_lst hl4 (by omega) (fun r hr => by
   rcases List.mem_append.1 hr with hr | hr
   ·exact ((unhide H0).2 r hr).below hB4
   ·exact ((unhide H1).2 r hr).below hB4)
  have hs4 := unhide HS w4 a4 c4 (l0 ++ l1) ho4 (by omega)
  generalize stSum 16 (crP 64 16) ((l0 ++ l1).map opP) = st4 at *
  generalize hn4 : (l0 ++ l1).length = n4 at *
  clear hn4
  have HS4 := hide hs4
  have HB4 := hide hB4
  clear hs4 hB4 hl4 hb4 ho4 HL3 HSL1 HB3 HB2 hsz3
  go_wp2_with fail
  refine (unhide HS4).mono ?_
  rintro e w5 ⟨rfl, hb5⟩
  have HB5 := hide ((unhide HB4).trans (hb5.mono (unhide HB4).size))
  clear hb5 HS4 HB4
  go_wp2_with fail
  go_loopw [12, 13, 14] (fun nv cv iv wr => ∃ k : Nat, k ≤ l0.length ∧ iv = .int .i64 k ∧ cv = .int .i64 (coR l0 k) ∧ Lst opC 6 37 wr w5.heap.size nv (noC (l0.take k)) ∧ Below w5.heap.size w5 wr) (fun _ _ iv _ => l0.length - (intOf iv).toNat)
  case atStart => exact ⟨0, Nat.zero_le _, rfl, rfl, Lst.nil _ _, Below.refl _ _⟩
  case round =>
   obtain ⟨k, hk, rfl, rfl, hlst, hbel⟩ := hrel
   by_cases hlt : k < l0.length
   ·have hr : l0[k]? = some l0[k] := List.getElem?_eq_getElem hlt
    generalize l0[k] = r at hr
    obtain ⟨bo, oo, rfl, hco⟩ := (unhide H0).1.2.2.2 (by intro e; rw [e] at hlt; simp at hlt)
    obtain ⟨o0, o1, o2, o3, o4, o5⟩ := Sls.op hco hr
    have hBr := (unhide HB5).trans (hbel.mono (unhide HB5).size)
    rw [← hBr.cell (block_lt_of_cell o0)] at o0
    rw [← hBr.cell (block_lt_of_cell o1)] at o1
    rw [← hBr.cell (block_lt_of_cell o2)] at o2
    rw [← hBr.cell (block_lt_of_cell o3)] at o3
    rw [← hBr.cell (block_lt_of_cell o4)] at o4
    rw [← hBr.cell (block_lt_of_cell o5)] at o5
    have hku : (k : Int) < (l0.length : Int) := by omega
    have hno := noC_snoc hr
    have hcr := coR_snoc hr
    have hcl := coR_le l0 k
    by_cases h6 : r.1 = 6
    ·rw [if_pos h6] at hno hcr
     rw [List.append_nil] at hno
     rw [h6] at o0
     have HNO := hide hno
     have HCR := hide hcr
     have HL := hide hlst
     have HBL := hide hbel
     clear hno hcr hlst hbel hco hr h6 hBr o1 o2 o3 o4 o5
     generalize coR l0 k = ck at *
     go_wp2
     go_roundw
     case rel => exact ⟨k + 1, by omega, by go_num, by rw [unhide HCR]; go_num, by rw [unhide HNO]; exact unhide HL, unhide HBL⟩
     case measure => simp [intOf]; omega
    ·rw [if_neg h6] at hno hcr
     rw [Nat.add_zero] at hcr
     have h6b : (r.1 != 6) = true := by simpa using h6
     have hnl : (noC (l0.take k)).length ≤ 1000 := Nat.le_trans (noC_len _) (by simp; omega)
     have hba := (Below.refl wr.heap.size wr).alloc (Nat.le_refl _) (.cells #[.int .i64 r.1, .int .i64 r.2.1, .int .i64 r.2.2.1, .int .i64 r.2.2.2.1, .string r.2.2.2.2.1, .slice r.2.2.2.2.2.1 r.2.2.2.2.2.2.2.length r.2.2.2.2.2.2.1] 37)
     have HO := hide (hlst.below hba)
     have HGN : Hid ((wr.alloc (.cells (opC r).toArray 37)).heap[wr.heap.size]? = some (.cells (opC r).toArray 37 (0, 0))) := hide (heap_alloc_new wr _)
     have HBA := hide (hbel.trans (hba.mono hbel.size))
     have HONE := hide (opC_one r)
     have hBs := hbel.size
     have HNO := hide hno
     have HCR := hide hcr
     have HNL := hide hnl
     obtain ⟨x0, x1, x2, x3, sn, ab, cb, body⟩ := r
     dsimp only at *
     clear hno hcr hlst hbel hco hr h6 hBr hba hnl
     generalize hbl : body.length = BL at *
     have HBLN := hide hbl
     clear hbl
     generalize hck : coR l0 k = ck at *
     clear hck
     go_wp2_with (at_builtin; refine wpList_append_lst rfl _ _ 22 rfl w5.heap.size i0 _ 72 Tryz.underlying22 hi0 hz0 hz1 hz2 rfl (by decide) (by decide) _ _ rfl (unhide HO) wr.heap.size (x0, x1, x2, x3, sn, ab, cb, body) rfl ((by rw [← unhide HBLN]; exact unhide HGN)) rfl (unhide HONE) (unhide HNL) (by simp; omega) ?_)
     intro v9 w9 hl9 hb9
     rw [← unhide HNO] at hl9
     have HL9 := hide hl9
     have HB9 := hide ((unhide HBA).trans hb9)
     clear hl9 hb9 HO HGN HBA HNO HONE HNL o0 o1 o2 o3 o4 o5
     go_wp2
     go_roundw
     case rel => exact ⟨k + 1, by omega, by go_num, by rw [unhide HCR]; rfl, unhide HL9, unhide HB9⟩
     case measure => simp [intOf]; omega
   ·obtain rfl : k = l0.length := by omega
    rw [List.take_length] at hlst
    have hBr := (unhide HB5).trans (hbel.mono (unhide HB5).size)
    have hnl := noC_len l0
    obtain ⟨a6, c6, rfl, ho6⟩ := ops_lst hlst (by omega) (fun r hr => ((unhide H0).2 r (noC_in r hr).1).below hBr)
    have hs6 := unhide HS wr a6 c6 (noC l0) ho6 (by omega)
    rw [st_noC l0] at hs6
    generalize (noC l0).length = n6 at *
    have hcl := coR_le l0 l0.length
    obtain ⟨f1, f2, f3⟩ := unhide HF
    generalize coR l0 l0.length = ck at *
    have HS6 := hide hs6
    have HB6 := hide hBr
    have g1 : (st0 : Int) ≤ (st4 : Int) := by omega
    have g2 : (st0 : Int).tmod 2 = 0 := by rw [Int.tmod_eq_emod_of_nonneg (by omega)]; omega
    have g3 : (st0 : Int) ≤ 50 * (ck : Int) := by omega
    have g4 : (st0 : Int) ≤ 3000 := by omega
    clear hs6 hBr hlst hbel ho6 HF f1 f2 f3
    rw [show ((0 : Nat) : Int) = 0 from rfl] at HS6
    go_wp2_with fail
    refine (unhide HS6).mono ?_
    rintro e w7 ⟨rfl, hb7⟩
    have HB7 := hide ((unhide HB6).trans (hb7.mono (unhide HB6).size))
    clear hb7 HS6 HB6
    go_wp2
    go_ret
    exact ⟨rfl, unhide HB7⟩
 ·by_cases h61 : l0.length ≤ 60
  ·have e61 : (l0.length : Int) ≤ 60 := by omega
   have e62 : (60 : Int) < (l1.length : Int) := by omega
   go_wp2
   go_ret
   exact ⟨rfl, unhide HB1⟩
  ·have e62 : (60 : Int) < (l0.length : Int) := by omega
   go_wp2
   go_ret
   exact ⟨rfl, unhide HB1⟩
end Go.Proofs.YtmmgadnicodakaaGreat
