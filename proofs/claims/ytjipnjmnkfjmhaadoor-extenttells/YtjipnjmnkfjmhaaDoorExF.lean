/-
  Contracts of package extent: Stat. (Part of the proofs over package extent.)
-/
import Derived.Test.YtjipnjmnkfjmhaaDoorExE
import Derived.Laws.ResultCell
namespace Go.Proofs.YtjipnjmnkfjmhaaDoor
open Go.RowKit Go.Sort Go.Shelf
set_option linter.unusedVariables false

theorem lenSum_bd : ∀ {l : List (Int × Int)}, (∀ e ∈ l, 0 ≤ e.2 ∧ e.2 ≤ 6400) → 0 ≤ lenSum l ∧ lenSum l ≤ 6400 * l.length
  | [], _ => by simp [lenSum]
  | e :: r, h => by
    have h1 := h e (by simp)
    have h2 := lenSum_bd (l := r) (fun x hx => h x (by simp [hx]))
    rw [lenSum_cons, List.length_cons]
    omega
theorem lenSum_take {l : List (Int × Int)} {k : Nat} (hk : k < l.length) : lenSum (l.take (k + 1)) = lenSum (l.take k) + (l.getD k (0, 0)).2 := by
  have e : l.getD k (0, 0) = l[k] := by simp [List.getD, hk]
  rw [List.take_succ_eq_append_getElem hk, lenSum_append, e]
  simp [lenSum]
theorem most_take {l : List (Int × Int)} {k : Nat} (hk : k < l.length) : mostOf 0 (l.take (k + 1)) = max (mostOf 0 (l.take k)) (l.getD k (0, 0)).2 := by
  have e : l.getD k (0, 0) = l[k] := by simp [List.getD, hk]
  unfold mostOf
  rw [List.take_succ_eq_append_getElem hk, List.foldl_append, e]
  rfl
/-- Block g is five ints. -/
def StB (w : World) (g : Nat) (o u f m r : Int) : Prop := w.heap[g]? = some (.cells #[.int .i64 o, .int .i64 u, .int .i64 f, .int .i64 m, .int .i64 r] 29 (0, 0))
section
variable {w : World} {g : Nat} {o u f m r : Int}
theorem StB.lt (h : StB w g o u f m r) : g < w.heap.size := (Array.getElem?_eq_some_iff.1 h).1
theorem StB.cells (h : StB w g o u f m r) : w.cell? ⟨g, 0, none⟩ = some (.int .i64 o) ∧ w.cell? ⟨g, 1, none⟩ = some (.int .i64 u) ∧ w.cell? ⟨g, 2, none⟩ = some (.int .i64 f) ∧ w.cell? ⟨g, 3, none⟩ = some (.int .i64 m) ∧ w.cell? ⟨g, 4, none⟩ = some (.int .i64 r) := by
  simp only [cell_of_row _ _ _ _ _ _ h]
  exact ⟨rfl, rfl, rfl, rfl, rfl⟩
theorem StB.fr (h : StB w g o u f m r) (i : Nat) : w.frozen? ⟨g, i, none⟩ = false := frozen_of_row w g i _ _ h
theorem StB.alloc (h : StB w g o u f m r) (x : Obj) : StB (w.alloc x) g o u f m r := (heap_alloc_old w x h.lt).trans h
theorem StB.setU (h : StB w g o u f m r) (z : Int) : StB (w.setCell ⟨g, 1, none⟩ (.int .i64 z)) g o z f m r := heap_setCell_same w g 1 _ _ (.int .i64 z) h
theorem StB.setF (h : StB w g o u f m r) (z : Int) : StB (w.setCell ⟨g, 2, none⟩ (.int .i64 z)) g o u z m r := heap_setCell_same w g 2 _ _ (.int .i64 z) h
theorem StB.setM (h : StB w g o u f m r) (z : Int) : StB (w.setCell ⟨g, 3, none⟩ (.int .i64 z)) g o u f z r := heap_setCell_same w g 3 _ _ (.int .i64 z) h
theorem StB.setAll (h : StB w g o u f m r) (o' u' f' m' r' : Int) : StB (((((w.setCell ⟨g, 0, none⟩ (.int .i64 o')).setCell ⟨g, 1, none⟩ (.int .i64 u')).setCell ⟨g, 2, none⟩ (.int .i64 f')).setCell ⟨g, 3, none⟩ (.int .i64 m')).setCell ⟨g, 4, none⟩ (.int .i64 r')) g o' u' f' m' r' := by
  have h1 := heap_setCell_same w g 0 _ _ (.int .i64 o') h
  have h2 := heap_setCell_same _ g 1 _ _ (.int .i64 u') h1
  have h3 := heap_setCell_same _ g 2 _ _ (.int .i64 f') h2
  have h4 := heap_setCell_same _ g 3 _ _ (.int .i64 m') h3
  exact heap_setCell_same _ g 4 _ _ (.int .i64 r') h4
theorem StB.below {w' : World} {B : Nat} (h : StB w g o u f m r) (hb : Below B w w') (hg : g < B) : StB w' g o u f m r := (hb.block g hg).trans h
end
theorem StB.new (w : World) (o u f m r : Int) : StB (w.alloc (.cells #[.int .i64 o, .int .i64 u, .int .i64 f, .int .i64 m, .int .i64 r] 29)) w.heap.size o u f m r := heap_alloc_new w _
theorem size_stat : (Tryd.prog.info? 29).map (·.size) = some 5 := by kernel_rfl
theorem results_stat {fn : Func} {p q : Tmp} (h : fn.results = #[.cell p 29, .tmp q]) (tmps : Array Value) (w : World) (g : Nat) (o u f m r : Int)
    (hp : tmps.getD p undef = .pointer (some ⟨g, 0, none⟩)) (hg : StB w g o u f m r) :
    (results fn tmps).run Tryd.prog w = .ok (.tuple #[.agg #[.int .i64 o, .int .i64 u, .int .i64 f, .int .i64 m, .int .i64 r], tmps.getD q undef]) w := by
  rw [results_cell_tmp h, hp]
  have := run_loadVar_row (P := Tryd.prog) w g 29 29 _ (0, 0) _ hg Tryd.underlying29 rfl (by rw [size_stat]; rfl)
  simp [asAddr, this, Result.andThen]

/-- What Stat tells. -/
def stT (n : Int) (l : List (Int × Int)) : Int × Int × Int × Int × Int := if chk n l = 0 then ((l.length : Int), lenSum l, lenSum (freeL n l), mostOf 0 (freeL n l), ((freeL n l).length : Int)) else (0, 0, 0, 0, 0)

theorem stat_bad (n : Int) (a : Option Addr) (cap : Nat) (l : List (Int × Int)) (w : World) (hl : Exs w a cap l) (hc : chk n l ≠ 0) :
    Calls Tryd.prog 12 #[.int .i64 n, .slice a l.length cap] w fun e w' => e = .returned (.tuple #[.agg #[.int .i64 0, .int .i64 0, .int .i64 0, .int .i64 0, .int .i64 0], errV (chk n l)]) ∧ Below w.heap.size w w' := by
  have hb0 : Below w.heap.size w (w.alloc (.cells #[.int .i64 0, .int .i64 0, .int .i64 0, .int .i64 0, .int .i64 0] 29)) := (Below.refl _ _).alloc (Nat.le_refl _) _
  have HC := hide (frees_any n a cap l _ (hl.below hb0))
  have HS := hide (StB.new w 0 0 0 0 0)
  have HB0 := hide hb0
  rw [errV_pos _ hc] at HC ⊢
  generalize chk n l = c at *
  generalize freeL n l = h at *
  generalize l.length = N at *
  clear hl hc hb0
  go_enter Tryd.func12, Tryd.ntmps12
  go_wp2_with fail
  refine (unhide HC).mono ?_
  rintro e w1 ⟨v, rfl, _, hb⟩
  have hs := (unhide HS).below hb (by simp)
  obtain ⟨c0, c1, c2, c3, c4⟩ := hs.cells
  have f0 := hs.fr 0
  have f1 := hs.fr 1
  have f2 := hs.fr 2
  have f3 := hs.fr 3
  have f4 := hs.fr 4
  have HS1 := hide hs
  have HB1 := hide ((unhide HB0).trans (hb.mono (by simp)))
  clear hs hb HC HS
  go_wp2
  refine bodyPost_ret (results_stat Tryd.results12 _ _ w.heap.size _ _ _ _ _ rfl ((unhide HS1).setAll 0 0 0 0 0)) rfl ?_
  exact ⟨rfl, (((((unhide HB1).setCell (Nat.le_refl _) _).setCell (Nat.le_refl _) _).setCell (Nat.le_refl _) _).setCell (Nat.le_refl _) _).setCell (Nat.le_refl _) _⟩

set_option maxHeartbeats 2000000 in
theorem stat_go (n : Int) (a : Option Addr) (cap : Nat) (l : List (Int × Int)) (w : World) (hl : Exs w a cap l) (hc : chk n l = 0) (U F M : Int) (hU : U = lenSum l) (hF : F = lenSum (freeL n l)) (hM : M = mostOf 0 (freeL n l)) :
    Calls Tryd.prog 12 #[.int .i64 n, .slice a l.length cap] w fun e w' => e = .returned (.tuple #[.agg #[.int .i64 l.length, .int .i64 U, .int .i64 F, .int .i64 M, .int .i64 (freeL n l).length], .nilIface]) ∧ Below w.heap.size w w' := by
  obtain ⟨hsm, hlen⟩ := freeL_small hc
  obtain ⟨k0, k1, k2, hg⟩ := chk_zero.1 hc
  have hb0 : Below w.heap.size w (w.alloc (.cells #[.int .i64 0, .int .i64 0, .int .i64 0, .int .i64 0, .int .i64 0] 29)) := (Below.refl _ _).alloc (Nat.le_refl _) _
  have HC := hide (frees_any n a cap l _ (hl.below hb0))
  rw [hc, errV_zero] at HC
  have HS := hide (StB.new w 0 0 0 0 0)
  have HB0 := hide hb0
  have HL := hide hl
  have HU := hide hU
  have HF := hide hF
  have HM := hide hM
  generalize freeL n l = fr at *
  have HSM := hide hsm
  have HG := hide hg
  clear hl hc hb0 hU hF hM hsm hg
  go_enter Tryd.func12, Tryd.ntmps12
  go_wp2_with fail
  refine (unhide HC).mono ?_
  rintro e w1 ⟨v, rfl, ho, hb⟩
  obtain ⟨ah, ch, rfl, hx⟩ := ho.exs (fun e he => by have := unhide HSM e he; unfold InI; omega) (by omega)
  have HX := hide hx
  have hs0 := (unhide HS).below hb (by simp)
  have hlt0 := hs0.lt
  have HS1 := hide hs0
  have HB1 := hide ((unhide HB0).trans (hb.mono (by simp)))
  have HL1 := hide ((unhide HL).below (unhide HB1))
  clear hs0 hb HC HS hx ho HL HB0
  go_wp2_with fail
  go_loopw [30] (fun cv wr => ∃ k : Nat, k ≤ l.length ∧ cv = .int .i64 k ∧ StB wr w1.heap.size l.length (lenSum (l.take k)) 0 0 fr.length ∧ Below w1.heap.size w1 wr) (fun cv _ => l.length - (intOf cv).toNat)
  case atStart => exact ⟨0, Nat.zero_le _, rfl, StB.new _ _ _ _ _ _, (Below.refl _ _).alloc (Nat.le_refl _) _⟩
  case round =>
    obtain ⟨k, hk, rfl, hB, hbel⟩ := hrel
    by_cases hlt : k < l.length
    · have hne : l ≠ [] := by intro e; rw [e] at hlt; simp at hlt
      obtain ⟨b, off, rfl, hcell⟩ := (unhide HL1).2.2.2 hne
      obtain ⟨c0, c1⟩ := hcell k hlt
      rw [← hbel.cell (block_lt_of_cell c0)] at c0
      rw [← hbel.cell (block_lt_of_cell c1)] at c1
      have hst := lenSum_take hlt
      have hbd := lenSum_bd (l := l.take k) (fun e he => by have := (unhide HG).all e (List.mem_of_mem_take he); omega)
      have hbl : (l.take k).length ≤ 200 := by simp; omega
      have hin : l.getD k (0, 0) ∈ l := by
        have : l.getD k (0, 0) = l[k] := by simp [List.getD, hlt]
        rw [this]; exact List.getElem_mem hlt
      have hgk := (unhide HG).all _ hin
      generalize l.getD k (0, 0) = r at *
      obtain ⟨d0, d1, d2, d3, d4⟩ := hB.cells
      have f1 := hB.fr 1
      have hblt := hB.lt
      have HBW := hide hB
      have HBE := hide hbel
      have HST := hide hst
      generalize hq : lenSum (l.take k) = q at *
      obtain ⟨x, y⟩ := r
      dsimp only at *
      clear hB hbel hst hcell hne hin hq
      go_wp2
      go_roundw
      case rel => exact ⟨k + 1, by omega, by go_num, by rw [unhide HST]; exact ((unhide HBW).setU _).alloc _, ((unhide HBE).setCell (Nat.le_refl _) _).alloc (by have := (unhide HBE).size; simp; omega) _⟩
      case measure => simp [intOf]; omega
    · obtain rfl : k = l.length := by omega
      rw [List.take_length, ← unhide HU] at hB
      have HB := hide hB
      have HBEL := hide hbel
      clear hB hbel
      go_wp2_with fail
      go_loopw [43] (fun cv wr => ∃ k : Nat, k ≤ fr.length ∧ cv = .int .i64 k ∧ StB wr w1.heap.size l.length U (lenSum (fr.take k)) (mostOf 0 (fr.take k)) fr.length ∧ Below w1.heap.size w1 wr) (fun cv _ => fr.length - (intOf cv).toNat)
      case atStart => exact ⟨0, Nat.zero_le _, rfl, unhide HB, unhide HBEL⟩
      case round =>
        obtain ⟨k, hk, rfl, hB, hbel⟩ := hrel
        by_cases hlt : k < fr.length
        · have hne : fr ≠ [] := by intro e; rw [e] at hlt; simp at hlt
          obtain ⟨b, off, rfl, hcell⟩ := (unhide HX).2.2.2 hne
          obtain ⟨c0, c1⟩ := hcell k hlt
          rw [← hbel.cell (block_lt_of_cell c0)] at c0
          rw [← hbel.cell (block_lt_of_cell c1)] at c1
          have hst := lenSum_take hlt
          have hmt := most_take hlt
          have hbd := lenSum_bd (l := fr.take k) (fun e he => by have := unhide HSM e (List.mem_of_mem_take he); omega)
          have hbl : (fr.take k).length ≤ 201 := by simp; omega
          have hin : fr.getD k (0, 0) ∈ fr := by
            have : fr.getD k (0, 0) = fr[k] := by simp [List.getD, hlt]
            rw [this]; exact List.getElem_mem hlt
          have hgk := unhide HSM _ hin
          generalize fr.getD k (0, 0) = r at *
          obtain ⟨d0, d1, d2, d3, d4⟩ := hB.cells
          have f2 := hB.fr 2
          have f3 := hB.fr 3
          have hblt := hB.lt
          have HBW := hide hB
          have HBE := hide hbel
          have HST := hide hst
          generalize hq : lenSum (fr.take k) = q at *
          generalize hq2 : mostOf 0 (fr.take k) = q2 at *
          obtain ⟨x, y⟩ := r
          dsimp only at *
          have HMT := hide hmt
          clear hB hbel hst hcell hne hin hq hq2 hmt
          by_cases hxy : y > q2
          · have HM2 : Hid (max q2 y = y) := hide (by omega)
            go_wp2
            go_roundw
            case rel => exact ⟨k + 1, by omega, by go_num, by rw [unhide HST, unhide HMT, unhide HM2]; exact (((unhide HBW).setF _).setM _).alloc _, (((unhide HBE).setCell (Nat.le_refl _) _).setCell (Nat.le_refl _) _).alloc (by have := (unhide HBE).size; simp; omega) _⟩
            case measure => simp [intOf]; omega
          · have HM2 : Hid (max q2 y = q2) := hide (by omega)
            go_wp2
            go_roundw
            case rel => exact ⟨k + 1, by omega, by go_num, by rw [unhide HST, unhide HMT, unhide HM2]; exact (((unhide HBW).setF _).setM _).alloc _, (((unhide HBE).setCell (Nat.le_refl _) _).setCell (Nat.le_refl _) _).alloc (by have := (unhide HBE).size; simp; omega) _⟩
            case measure => simp [intOf]; omega
        · obtain rfl : k = fr.length := by omega
          rw [List.take_length, ← unhide HF, ← unhide HM] at hB
          obtain ⟨d0, d1, d2, d3, d4⟩ := hB.cells
          have hs := (unhide HS1).below hbel hlt0
          obtain ⟨e0, e1, e2, e3, e4⟩ := hs.cells
          have f0 := hs.fr 0
          have f1 := hs.fr 1
          have f2 := hs.fr 2
          have f3 := hs.fr 3
          have f4 := hs.fr 4
          have HSF := hide hs
          have HBF := hide ((unhide HB1).trans (hbel.mono (unhide HB1).size))
          clear hB hbel hs
          go_wp2
          refine bodyPost_ret (results_stat Tryd.results12 _ _ w.heap.size _ _ _ _ _ rfl ((unhide HSF).setAll _ _ _ _ _)) rfl ?_
          exact ⟨rfl, (((((unhide HBF).setCell (Nat.le_refl _) _).setCell (Nat.le_refl _) _).setCell (Nat.le_refl _) _).setCell (Nat.le_refl _) _).setCell (Nat.le_refl _) _⟩

theorem stat_any (n : Int) (a : Option Addr) (cap : Nat) (l : List (Int × Int)) (w : World) (hl : Exs w a cap l) (O U F M R : Int) (h : stT n l = (O, U, F, M, R)) :
    Calls Tryd.prog 12 #[.int .i64 n, .slice a l.length cap] w fun e w' => e = .returned (.tuple #[.agg #[.int .i64 O, .int .i64 U, .int .i64 F, .int .i64 M, .int .i64 R], errV (chk n l)]) ∧ Below w.heap.size w w' := by
  unfold stT at h
  by_cases hc : chk n l = 0
  · rw [if_pos hc] at h
    simp only [Prod.mk.injEq] at h
    obtain ⟨rfl, h2, h3, h4, rfl⟩ := h
    refine (stat_go n a cap l w hl hc U F M h2.symm h3.symm h4.symm).mono ?_
    rintro e w' ⟨rfl, hb⟩
    exact ⟨by rw [hc]; rfl, hb⟩
  · rw [if_neg hc] at h
    simp only [Prod.mk.injEq] at h
    obtain ⟨rfl, rfl, rfl, rfl, rfl⟩ := h
    exact stat_bad n a cap l w hl hc
end Go.Proofs.YtjipnjmnkfjmhaaDoor
