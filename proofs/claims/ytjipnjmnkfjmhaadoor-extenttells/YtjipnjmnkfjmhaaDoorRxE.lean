/-
  Contracts of the reference: how full it is. (Part of the proofs over package extent.)
-/
import Derived.Test.YtjipnjmnkfjmhaaDoorRxD
import Derived.RegionTactic
import Derived.ChangeAlike
import Derived.BigRegion
namespace Go.Proofs.YtjipnjmnkfjmhaaDoor
open Go.RowKit Go.Sort Go.Shelf
set_option linter.unusedVariables false

theorem StB.drewN {w : World} {g : Nat} {o u f m r : Int} (h : StB w g o u f m r) (k : Nat) : StB (w.drewN k) g o u f m r := h

set_option maxRecDepth 100000 in
set_option maxHeartbeats 4000000 in
theorem rstat_go (n : Int) (a : Option Addr) (cap : Nat) (l : List (Int × Int)) (w : World) (hl : Exs w a cap l) (hc : chk n l = 0) (F M : Int) (hF : F = lenSum (freeL n l)) (hM : M = mostOf 0 (freeL n l)) :
    Calls Tryd.prog 8 #[.int .i64 n, .slice a l.length cap] w fun e w' => e = .returned (.agg #[.int .i64 l.length, .int .i64 (n - F), .int .i64 F, .int .i64 M, .int .i64 (freeL n l).length]) ∧ Below w.heap.size w w' := by
  obtain ⟨hsm, hlen⟩ := freeL_small hc
  obtain ⟨k0, k1, k2, hg⟩ := chk_zero.1 hc
  have hb0 : Below w.heap.size w (w.alloc (.cells #[.int .i64 0, .int .i64 0, .int .i64 0, .int .i64 0, .int .i64 0] 29)) := (Below.refl _ _).alloc (Nat.le_refl _) _
  have HC := hide (holes_any n a cap l _ (hl.below hb0) hc)
  have hFb := lenSum_bd (l := freeL n l) (fun e he => by have := hsm e he; omega)
  have HS := hide (StB.new w 0 0 0 0 0)
  have HB0 := hide hb0
  have HF := hide hF
  have HM := hide hM
  rw [← hF] at hFb
  have hl3 := hl.2.2.1
  generalize freeL n l = fr at *
  have HSM := hide hsm
  clear hl hc hb0 hF hM hsm hg
  go_enter Tryd.func8, Tryd.ntmps8
  go_wp2_with fail
  refine (unhide HC).mono ?_
  rintro e w1 ⟨v, rfl, ho, hb⟩
  obtain ⟨ah, ch, rfl, hx⟩ := ho.exs (fun e he => by have := unhide HSM e he; unfold InI; omega) (by omega)
  have HX := hide hx
  have hs0 := (unhide HS).below hb (by simp)
  have hlt0 := hs0.lt
  have HS1 := hide hs0
  have HB1 := hide ((unhide HB0).trans (hb.mono (by simp)))
  clear hs0 hb HC HS hx ho HB0
  go_wp2_with fail
  go_loopw [7] (fun cv wr => ∃ k : Nat, k ≤ fr.length ∧ cv = .int .i64 k ∧ StB wr w1.heap.size l.length 0 (lenSum (fr.take k)) (mostOf 0 (fr.take k)) fr.length ∧ Below w1.heap.size w1 wr) (fun cv _ => fr.length - (intOf cv).toNat)
  case atStart => exact ⟨0, Nat.zero_le _, rfl, StB.new _ _ _ _ _ _, (Below.refl _ _).alloc (Nat.le_refl _) _⟩
  case round =>
    obtain ⟨k, hk, rfl, hB, hbel⟩ := hrel
    by_cases hlt : k < fr.length
    · have hne : fr ≠ [] := by intro e; rw [e] at hlt; simp at hlt
      obtain ⟨b, off, rfl, hcell⟩ := (unhide HX).2.2.2 hne
      obtain ⟨c0, c1⟩ := hcell k hlt
      have hbg : b < w1.heap.size := block_lt_of_cell c0
      have hbne : b ≠ w1.heap.size := by omega
      rw [← hbel.cell (block_lt_of_cell c0)] at c0
      rw [← hbel.cell (block_lt_of_cell c1)] at c1
      have hst := lenSum_take hlt
      have hmt := most_take hlt
      have hbd := lenSum_bd (l := fr.take k) (fun e he => by have := unhide HSM e (List.mem_of_mem_take he); omega)
      have hbl : (fr.take k).length ≤ 201 := by simp; omega
      have hin : fr.getD k (0, 0) ∈ fr := by
        have : fr.getD k (0, 0) = fr[k] := by simp [List.getD, hlt]
        rw [this]; exact List.getElem_mem hlt
      have hgk := unhide HSM _ hin
      generalize fr.getD k (0, 0) = r at *
      obtain ⟨d0, d1, d2, d3, d4⟩ := hB.cells
      have f2 := hB.fr 2
      have f3 := hB.fr 3
      have hblt := hB.lt
      have HBW := hide hB
      have HBE := hide hbel
      have HST := hide hst
      generalize hq : lenSum (fr.take k) = q at *
      generalize hq2 : mostOf 0 (fr.take k) = q2 at *
      obtain ⟨x, y⟩ := r
      dsimp only at *
      have HMT := hide hmt
      clear hB hbel hst hcell hne hin hq hq2 hmt
      have hy63 : ¬ (9223372036854775807 : Int) < q + y := by omega
      have hkl : (k : Int) < (fr.length : Int) := by omega
      go_wp2_with fail
      go_region
      have hs2 : StB ((wr.setCell ⟨w1.heap.size, 2, none⟩ (.int .i64 (q + y))).drew) w1.heap.size l.length 0 (q + y) q2 fr.length := (unhide HBW).setF _
      have hb2 : Below w1.heap.size w1 ((wr.setCell ⟨w1.heap.size, 2, none⟩ (.int .i64 (q + y))).drew) := ((unhide HBE).setCell (Nat.le_refl _) _).drew
      have c1' : ((wr.setCell ⟨w1.heap.size, 2, none⟩ (.int .i64 (q + y))).drew).cell? ⟨b, off + k * 2 + 1, none⟩ = some (.int .i64 y) := by
        rw [← c1]
        exact World.cell?_of_block (a := ⟨b, off + k * 2 + 1, none⟩) (heap_setCell_other _ _ _ _ hbne)
      clear d0 d1 d2 d3 d4 f2 f3 c0 c1 HBW HBE hblt
      generalize (wr.setCell ⟨w1.heap.size, 2, none⟩ (.int .i64 (q + y))).drew = ws at *
      obtain ⟨d0, d1, d2, d3, d4⟩ := hs2.cells
      have f3 := hs2.fr 3
      have hblt := hs2.lt
      have HBW := hide hs2
      have HBE := hide hb2
      clear hs2 hb2
      by_cases hxy : q2 < y
      · have HM2 : Hid (max q2 y = y) := hide (by omega)
        go_wp2_with fail
        go_quiet (fail)
        go_wp2
        go_roundw
        case rel => exact ⟨k + 1, by omega, by go_num, by rw [unhide HST, unhide HMT, unhide HM2]; exact ((unhide HBW).drewN nq).setM _, (below_draws (unhide HBE) nq).setCell (Nat.le_refl _) _⟩
        case measure => simp [intOf]; omega
      · have HM2 : Hid (max q2 y = q2) := hide (by omega)
        have dxy : decide (q2 < y) = false := decide_eq_false hxy
        go_wp2_with fail
        go_quiet (fail)
        go_wp2
        go_roundw
        case rel => exact ⟨k + 1, by omega, by go_num, by rw [unhide HST, unhide HMT, unhide HM2]; exact (unhide HBW).drewN nq, below_draws (unhide HBE) nq⟩
        case measure => simp [intOf]; omega
    · obtain rfl : k = fr.length := by omega
      rw [List.take_length, ← unhide HF, ← unhide HM] at hB
      obtain ⟨d0, d1, d2, d3, d4⟩ := hB.cells
      have g1 := hB.fr 1
      have hs := (unhide HS1).below hbel hlt0
      obtain ⟨e0, e1, e2, e3, e4⟩ := hs.cells
      have f0 := hs.fr 0
      have f1 := hs.fr 1
      have f2 := hs.fr 2
      have f3 := hs.fr 3
      have f4 := hs.fr 4
      have hne : w.heap.size ≠ w1.heap.size := by omega
      have HSF : Hid (StB (wr.setCell ⟨w1.heap.size, 1, none⟩ (.int .i64 (n - F))) w.heap.size 0 0 0 0 0) := hide ((heap_setCell_other _ _ _ _ hne).trans hs)
      have HBF := hide (((unhide HB1).trans (hbel.mono (unhide HB1).size)).setCell (p := ⟨w1.heap.size, 1, none⟩) (unhide HB1).size (.int .i64 (n - F)))
      clear hB hbel hs
      go_wp2
      refine bodyPost_ret (results_cell_row rfl _ _ w.heap.size 29 _ (0, 0) _ rfl ((unhide HSF).setAll l.length (n - F) F M fr.length) Tryd.underlying29 rfl (by rw [size_stat]; rfl)) rfl ?_
      exact ⟨rfl, (((((unhide HBF).setCell (Nat.le_refl _) _).setCell (Nat.le_refl _) _).setCell (Nat.le_refl _) _).setCell (Nat.le_refl _) _).setCell (Nat.le_refl _) _⟩

theorem rstat_any (n : Int) (a : Option Addr) (cap : Nat) (l : List (Int × Int)) (w : World) (hl : Exs w a cap l) (hc : chk n l = 0) (O U F M R : Int) (h : stT n l = (O, U, F, M, R)) :
    Calls Tryd.prog 8 #[.int .i64 n, .slice a l.length cap] w fun e w' => e = .returned (.agg #[.int .i64 O, .int .i64 U, .int .i64 F, .int .i64 M, .int .i64 R]) ∧ Below w.heap.size w w' := by
  obtain ⟨rfl, _, h3, _, _, _, _, h8, rfl⟩ := stat_spec hc h
  have hF : F = lenSum (freeL n l) := by
    unfold stT at h
    rw [if_pos hc] at h
    simp only [Prod.mk.injEq] at h
    exact h.2.2.1.symm
  have hU : U = n - F := by omega
  rw [hU]
  exact rstat_go n a cap l w hl hc F M hF h8
end Go.Proofs.YtjipnjmnkfjmhaaDoor
