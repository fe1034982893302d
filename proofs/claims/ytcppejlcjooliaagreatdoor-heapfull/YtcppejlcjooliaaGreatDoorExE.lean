/-
  Contracts of package extent: Fit. (Part of the proofs over package extent.)
-/
import Derived.Test.YtcppejlcjooliaaGreatDoorExD
namespace Go.Proofs.YtcppejlcjooliaaGreatDoor
open Go.RowKit Go.Sort Go.Shelf
set_option linter.unusedVariables false

/-- Which error Fit tells, and which place. -/
def fitE (n : Int) (l : List (Int × Int)) (size : Int) : Int := if chk n l ≠ 0 then chk n l else if size < 1 ∨ 6400 < size then 1 else if (fitB size (freeL n l)).2 = 0 then 4 else 0
def fitAt (n : Int) (l : List (Int × Int)) (size : Int) : Int := if fitE n l size = 0 then (fitB size (freeL n l)).1 else 0

/-- Block g is one extent. -/
def ExB (w : World) (g : Nat) (e : (Int × Int)) : Prop := w.heap[g]? = some (.cells #[.int .i64 e.1, .int .i64 e.2] 45 (0, 0))
theorem ExB.lt {w : World} {g : Nat} {e : (Int × Int)} (h : ExB w g e) : g < w.heap.size := (Array.getElem?_eq_some_iff.1 h).1
theorem ExB.c0 {w : World} {g : Nat} {e : (Int × Int)} (h : ExB w g e) : w.cell? ⟨g, 0, none⟩ = some (.int .i64 e.1) := by rw [cell_of_row _ _ _ _ _ _ h]; rfl
theorem ExB.c1 {w : World} {g : Nat} {e : (Int × Int)} (h : ExB w g e) : w.cell? ⟨g, 1, none⟩ = some (.int .i64 e.2) := by rw [cell_of_row _ _ _ _ _ _ h]; rfl
theorem ExB.fr {w : World} {g : Nat} {e : (Int × Int)} (h : ExB w g e) (i : Nat) : w.frozen? ⟨g, i, none⟩ = false := frozen_of_row w g i _ _ h
theorem ExB.alloc {w : World} {g : Nat} {e : (Int × Int)} (h : ExB w g e) (o : Obj) : ExB (w.alloc o) g e := (heap_alloc_old w o h.lt).trans h
theorem ExB.set {w : World} {g : Nat} {e : (Int × Int)} (h : ExB w g e) (x y : Int) : ExB ((w.setCell ⟨g, 0, none⟩ (.int .i64 x)).setCell ⟨g, 1, none⟩ (.int .i64 y)) g (x, y) := by
  have h1 := heap_setCell_same w g 0 _ _ (.int .i64 x) h
  have h2 := heap_setCell_same (w.setCell ⟨g, 0, none⟩ (.int .i64 x)) g 1 _ _ (.int .i64 y) h1
  exact h2
theorem ExB.new (w : World) (x y : Int) : ExB (w.alloc (.cells #[.int .i64 x, .int .i64 y] 45)) w.heap.size (x, y) := heap_alloc_new w _

theorem fit_bad (n : Int) (a : Option Addr) (cap : Nat) (l : List (Int × Int)) (size : Int) (w : World) (hl : Exs w a cap l) (hc : chk n l ≠ 0) :
    Calls Tryz.prog 23 #[.int .i64 n, .slice a l.length cap, .int .i64 size] w fun e w' => e = .returned (.tuple #[.int .i64 0, errV (chk n l)]) ∧ Below w.heap.size w w' := by
  have HC := hide (frees_any n a cap l w hl)
  rw [errV_pos _ hc] at HC ⊢
  generalize chk n l = c at *
  generalize freeL n l = h at *
  generalize l.length = N at *
  clear hl hc
  go_enter Tryz.func23, Tryz.ntmps23
  go_wp2_with fail
  refine (unhide HC).mono ?_
  rintro e w1 ⟨v, rfl, _, hb⟩
  go_wp2
  go_ret2
  exact ⟨rfl, hb⟩
theorem fit_size (n : Int) (a : Option Addr) (cap : Nat) (l : List (Int × Int)) (size : Int) (w : World) (hl : Exs w a cap l) (hc : chk n l = 0) (hs : size < 1 ∨ 6400 < size) :
    Calls Tryz.prog 23 #[.int .i64 n, .slice a l.length cap, .int .i64 size] w fun e w' => e = .returned (.tuple #[.int .i64 0, errV 1]) ∧ Below w.heap.size w w' := by
  have HC := hide (frees_any n a cap l w hl)
  rw [hc, errV_zero] at HC
  rw [errV_pos 1 (by decide)]
  generalize freeL n l = h at *
  generalize l.length = N at *
  clear hl hc
  by_cases h1 : size < 1
  · go_enter Tryz.func23, Tryz.ntmps23
    go_wp2_with fail
    refine (unhide HC).mono ?_
    rintro e w1 ⟨v, rfl, _, hb⟩
    go_wp2
    go_ret2
    exact ⟨rfl, hb⟩
  · have h2 : 6400 < size := by omega
    go_enter Tryz.func23, Tryz.ntmps23
    go_wp2_with fail
    refine (unhide HC).mono ?_
    rintro e w1 ⟨v, rfl, _, hb⟩
    go_wp2
    go_ret2
    exact ⟨rfl, hb⟩

theorem freeL_small {n : Int} {l : List (Int × Int)} (hc : chk n l = 0) : (∀ x ∈ freeL n l, 0 ≤ x.1 ∧ 1 ≤ x.2 ∧ x.1 + x.2 ≤ n) ∧ (freeL n l).length ≤ 201 := by
  obtain ⟨h0, h1, h2, hg⟩ := chk_zero.1 hc
  unfold freeL
  rw [if_pos hc]
  refine ⟨fun x hx => ?_, ?_⟩
  · have := hg.srtL.freeIn hg h0 x hx
    exact ⟨this.1, this.2.1, this.2.2.1⟩
  · refine Nat.le_trans (runs_len _ _) ?_
    rw [List.length_append, hg.srtL.1.length_eq]
    simp; omega
theorem fit_take {size : Int} {h : List (Int × Int)} {k : Nat} (hk : k < h.length) : fitB size (h.take (k + 1)) = fitStep size (fitB size (h.take k)) (h.getD k (0, 0)) := by
  have e : h.getD k (0, 0) = h[k] := by simp [List.getD, hk]
  unfold fitB
  rw [List.take_succ_eq_append_getElem hk, List.foldl_append, e]
  rfl

set_option maxHeartbeats 2000000 in
theorem fit_go (n : Int) (a : Option Addr) (cap : Nat) (l : List (Int × Int)) (size : Int) (w : World) (hl : Exs w a cap l) (hc : chk n l = 0) (hs1 : 1 ≤ size) (hs2 : size ≤ 6400) (A E : Int) (hAE : ((fitB size (freeL n l)).2 = 0 ∧ A = 0 ∧ E = 4) ∨ ((fitB size (freeL n l)).2 ≠ 0 ∧ A = (fitB size (freeL n l)).1 ∧ E = 0)) :
    Calls Tryz.prog 23 #[.int .i64 n, .slice a l.length cap, .int .i64 size] w fun e w' => e = .returned (.tuple #[.int .i64 A, errV E]) ∧ Below w.heap.size w w' := by
  obtain ⟨hsm, hlen⟩ := freeL_small hc
  have h0 := (chk_zero.1 hc).2.1
  have HC := hide (frees_any n a cap l w hl)
  rw [hc, errV_zero] at HC
  have g1 : ¬ size < 1 := by omega
  have g2 : ¬ 6400 < size := by omega
  generalize freeL n l = h at *
  have HAE := hide hAE
  clear hl hc hAE
  generalize l.length = N at *
  go_enter Tryz.func23, Tryz.ntmps23
  go_wp2_with fail
  refine (unhide HC).mono ?_
  rintro e w1 ⟨v, rfl, ho, hb1⟩
  obtain ⟨ah, ch, rfl, hx⟩ := ho.exs (fun e he => by have := hsm e he; unfold InI; omega) (by omega)
  have HX := hide hx
  have HB1 := hide hb1
  have HSM := hide hsm
  clear hx ho hb1 hsm HC
  go_wp2_with fail
  go_loopw [32] (fun cv wr => ∃ k : Nat, k ≤ h.length ∧ cv = .int .i64 k ∧ ExB wr w1.heap.size (fitB size (h.take k)) ∧ Below w1.heap.size w1 wr) (fun cv _ => h.length - (intOf cv).toNat)
  case atStart => exact ⟨0, Nat.zero_le _, rfl, ExB.new _ _ _, (Below.refl _ _).alloc (Nat.le_refl _) _⟩
  case round =>
    obtain ⟨k, hk, rfl, hB, hbel⟩ := hrel
    by_cases hlt : k < h.length
    · have hne : h ≠ [] := by intro e; rw [e] at hlt; simp at hlt
      obtain ⟨b, off, rfl, hcell⟩ := (unhide HX).2.2.2 hne
      obtain ⟨c0, c1⟩ := hcell k hlt
      rw [← hbel.cell (block_lt_of_cell c0)] at c0
      rw [← hbel.cell (block_lt_of_cell c1)] at c1
      have hst := fit_take (size := size) hlt
      have hblt := hB.lt
      generalize h.getD k (0, 0) = r at *
      generalize fitB size (h.take k) = best at *
      obtain ⟨x, y⟩ := r
      obtain ⟨b1, b2⟩ := best
      dsimp only at *
      have hB' := hB.alloc (.cells #[.int .i64 x, .int .i64 y] 45)
      have hR := ExB.new wr x y
      have d0 := hB.c0
      have d1 := hB.c1
      have e0 := hB.fr 0
      have e1 := hB.fr 1
      dsimp only at d0 d1
      have HBW := hide hB
      have HBE := hide hbel
      have hbA : Below w1.heap.size w1 (wr.alloc (.cells #[.int .i64 x, .int .i64 y] 45)) := hbel.alloc hbel.size _
      have HBA := hide hbA
      have HB' := hide hB'
      have HST := hide hst
      clear hB hB' hbel hbA hst hcell hR hne
      by_cases q1 : size ≤ y
      · by_cases q2 : b2 = 0
        · have HS2 : Hid (fitB size (h.take (k + 1)) = (x, y)) := hide (by rw [unhide HST]; exact if_pos ⟨q1, .inl q2⟩)
          subst q2
          clear HST
          go_wp2
          go_roundw
          case rel => exact ⟨k + 1, by omega, by go_num, by rw [unhide HS2]; exact ((unhide HBW).set x y).alloc _, (((unhide HBE).setCell (Nat.le_refl _) _).setCell (Nat.le_refl _) _).alloc (by have := (unhide HBE).size; simp; omega) _⟩
          case measure => simp [intOf]; omega
        · by_cases q3 : y < b2
          · have HS2 : Hid (fitB size (h.take (k + 1)) = (x, y)) := hide (by rw [unhide HST]; exact if_pos ⟨q1, .inr q3⟩)
            clear HST
            go_wp2
            go_roundw
            case rel => exact ⟨k + 1, by omega, by go_num, by rw [unhide HS2]; exact ((unhide HBW).set x y).alloc _, (((unhide HBE).setCell (Nat.le_refl _) _).setCell (Nat.le_refl _) _).alloc (by have := (unhide HBE).size; simp; omega) _⟩
            case measure => simp [intOf]; omega
          · have HS2 : Hid (fitB size (h.take (k + 1)) = (b1, b2)) := hide (by rw [unhide HST]; exact if_neg (fun hh => hh.2.elim q2 q3))
            clear HST
            go_wp2
            go_roundw
            case rel => exact ⟨k + 1, by omega, by go_num, by rw [unhide HS2]; exact unhide HB', unhide HBA⟩
            case measure => simp [intOf]; omega
      · have HS2 : Hid (fitB size (h.take (k + 1)) = (b1, b2)) := hide (by rw [unhide HST]; exact if_neg (fun hh => q1 hh.1))
        clear HST
        go_wp2
        go_roundw
        case rel => exact ⟨k + 1, by omega, by go_num, by rw [unhide HS2]; exact unhide HB', unhide HBA⟩
        case measure => simp [intOf]; omega
    · obtain rfl : k = h.length := by omega
      rw [List.take_length] at hB
      have d0 := hB.c0
      have d1 := hB.c1
      have HBF := hide ((unhide HB1).trans (hbel.mono (unhide HB1).size))
      clear hB hbel
      have hae := unhide HAE
      clear HAE
      generalize fitB size h = best at *
      obtain ⟨b1, b2⟩ := best
      dsimp only at *
      rcases hae with ⟨q, rfl, rfl⟩ | ⟨q, rfl, rfl⟩
      · subst q
        go_wp2
        go_ret2
        exact ⟨rfl, unhide HBF⟩
      · go_wp2
        go_ret2
        exact ⟨rfl, unhide HBF⟩

theorem fit_any (n : Int) (a : Option Addr) (cap : Nat) (l : List (Int × Int)) (size : Int) (w : World) (hl : Exs w a cap l) :
    Calls Tryz.prog 23 #[.int .i64 n, .slice a l.length cap, .int .i64 size] w fun e w' => e = .returned (.tuple #[.int .i64 (fitAt n l size), errV (fitE n l size)]) ∧ Below w.heap.size w w' := by
  by_cases hc : chk n l = 0
  · by_cases hs : size < 1 ∨ 6400 < size
    · have e1 : fitE n l size = 1 := by unfold fitE; rw [if_neg (fun h => h hc), if_pos hs]
      have e2 : fitAt n l size = 0 := by unfold fitAt; rw [e1]; rfl
      rw [e1, e2]
      exact fit_size n a cap l size w hl hc hs
    · by_cases h0 : (fitB size (freeL n l)).2 = 0
      · have e1 : fitE n l size = 4 := by unfold fitE; rw [if_neg (fun h => h hc), if_neg hs, if_pos h0]
        have e2 : fitAt n l size = 0 := by unfold fitAt; rw [e1]; rfl
        exact fit_go n a cap l size w hl hc (by omega) (by omega) _ _ (.inl ⟨h0, e2, e1⟩)
      · have e1 : fitE n l size = 0 := by unfold fitE; rw [if_neg (fun h => h hc), if_neg hs, if_neg h0]
        have e2 : fitAt n l size = (fitB size (freeL n l)).1 := by unfold fitAt; rw [e1]; rfl
        exact fit_go n a cap l size w hl hc (by omega) (by omega) _ _ (.inr ⟨h0, e2, e1⟩)
  · have e1 : fitE n l size = chk n l := by unfold fitE; rw [if_pos hc]
    have e2 : fitAt n l size = 0 := by unfold fitAt; rw [e1, if_neg hc]
    rw [e1, e2]
    exact fit_bad n a cap l size w hl hc
end Go.Proofs.YtcppejlcjooliaaGreatDoor
