/-
  Contracts of the reference: where so much has room; how full it is; whether two lists of extents are the same. (Part of the proofs over package extent.)
-/
import Derived.Test.YtjipnjmnkfjmhaaDoorRxC
import Derived.Deep.RegionHeld3
namespace Go.Proofs.YtjipnjmnkfjmhaaDoor
open Go.RowKit Go.Sort Go.Shelf
set_option linter.unusedVariables false

theorem fitR_take {size : Int} {h : List (Int × Int)} {k : Nat} (hk : k < h.length) : (h.take (k + 1)).foldl (fitR size) (-1, 0) = fitR size ((h.take k).foldl (fitR size) (-1, 0)) (h.getD k (0, 0)) := by
  have e : h.getD k (0, 0) = h[k] := by simp [List.getD, hk]
  rw [List.take_succ_eq_append_getElem hk, List.foldl_append, e]
  rfl
set_option maxHeartbeats 2000000 in
theorem rfit_any (n : Int) (a : Option Addr) (cap : Nat) (l : List (Int × Int)) (size : Int) (w : World) (hl : Exs w a cap l) (hc : chk n l = 0) :
    Calls Tryd.prog 9 #[.int .i64 n, .slice a l.length cap, .int .i64 size] w fun e w' => e = .returned (.int .i64 ((freeL n l).foldl (fitR size) (-1, 0)).1) ∧ Below w.heap.size w w' := by
  obtain ⟨hsm, hlen⟩ := freeL_small hc
  have h0 := (chk_zero.1 hc).2.1
  have HC := hide (holes_any n a cap l w hl hc)
  generalize freeL n l = fr at *
  generalize hR : (fr.foldl (fitR size) (-1, 0)).1 = RR at *
  have HR := hide hR
  clear hl hc hR
  generalize l.length = N at *
  go_enter Tryd.func9, Tryd.ntmps9
  go_wp2_with fail
  refine (unhide HC).mono ?_
  rintro e w1 ⟨v, rfl, ho, hb1⟩
  obtain ⟨ah, ch, rfl, hx⟩ := ho.exs (fun e he => by have := hsm e he; unfold InI; omega) (by omega)
  have HX := hide hx
  have HB1 := hide hb1
  clear hx ho hb1 hsm HC
  go_wp2_with fail
  go_loop [8, 9, 10] (fun av bv iv => ∃ k : Nat, k ≤ fr.length ∧ iv = .int .i64 k ∧ av = .int .i64 ((fr.take k).foldl (fitR size) (-1, 0)).1 ∧ bv = .int .i64 ((fr.take k).foldl (fitR size) (-1, 0)).2) (fun _ _ iv => fr.length - (intOf iv).toNat)
  case atStart => exact ⟨0, Nat.zero_le _, rfl, rfl, rfl⟩
  case round =>
    obtain ⟨k, hk, rfl, rfl, rfl⟩ := hrel
    by_cases hlt : k < fr.length
    · have hne : fr ≠ [] := by intro e; rw [e] at hlt; simp at hlt
      obtain ⟨b, off, rfl, hcell⟩ := (unhide HX).2.2.2 hne
      obtain ⟨c0, c1⟩ := hcell k hlt
      have hst := fitR_take (size := size) hlt
      generalize fr.getD k (0, 0) = r at *
      generalize (fr.take k).foldl (fitR size) (-1, 0) = best at *
      obtain ⟨x, y⟩ := r
      obtain ⟨b1, b2⟩ := best
      dsimp only at *
      have HST := hide hst
      clear hst hcell hne
      by_cases q1 : size ≤ y
      · by_cases q2 : b1 < 0
        · have HS2 : Hid ((fr.take (k + 1)).foldl (fitR size) (-1, 0) = (x, y)) := hide (by rw [unhide HST]; exact if_pos ⟨q1, .inl q2⟩)
          clear HST
          go_wp2
          go_round
          case rel => exact ⟨k + 1, by omega, by go_num, by rw [unhide HS2], by rw [unhide HS2]⟩
          case measure => simp [intOf]; omega
        · by_cases q3 : y < b2
          · have HS2 : Hid ((fr.take (k + 1)).foldl (fitR size) (-1, 0) = (x, y)) := hide (by rw [unhide HST]; exact if_pos ⟨q1, .inr q3⟩)
            clear HST
            go_wp2
            go_round
            case rel => exact ⟨k + 1, by omega, by go_num, by rw [unhide HS2], by rw [unhide HS2]⟩
            case measure => simp [intOf]; omega
          · have HS2 : Hid ((fr.take (k + 1)).foldl (fitR size) (-1, 0) = (b1, b2)) := hide (by rw [unhide HST]; exact if_neg (fun hh => hh.2.elim q2 q3))
            have d2 : decide (b1 < 0) = false := decide_eq_false q2
            have d3 : decide (y < b2) = false := decide_eq_false q3
            clear HST
            go_wp2
            go_round
            case rel => exact ⟨k + 1, by omega, by go_num, by rw [unhide HS2], by rw [unhide HS2]⟩
            case measure => simp [intOf]; omega
      · have HS2 : Hid ((fr.take (k + 1)).foldl (fitR size) (-1, 0) = (b1, b2)) := hide (by rw [unhide HST]; exact if_neg (fun hh => q1 hh.1))
        have d1 : decide (size ≤ y) = false := decide_eq_false q1
        clear HST
        go_wp2
        go_round
        case rel => exact ⟨k + 1, by omega, by go_num, by rw [unhide HS2], by rw [unhide HS2]⟩
        case measure => simp [intOf]; omega
    · obtain rfl : k = fr.length := by omega
      rw [List.take_length, unhide HR]
      go_wp2
      go_ret
      exact ⟨rfl, unhide HB1⟩

/-! ### two lists -/
theorem exsame_any (a1 a2 : Option Addr) (c1 c2 : Nat) (l : List (Int × Int)) (w : World) (h1 : Exs w a1 c1 l) (h2 : Exs w a2 c2 l) :
    Calls Tryd.prog 13 #[.slice a1 l.length c1, .slice a2 l.length c2] w fun e w' => e = .returned (.bool true) ∧ Below w.heap.size w w' := by
  have hl := h1.2.2.1
  have H1 := hide h1
  have H2 := hide h2
  clear h1 h2
  go_enter Tryd.func13, Tryd.ntmps13
  go_wp2_with fail
  go_loopw [5] (fun iv wr => ∃ (k m : Nat), k ≤ l.length ∧ iv = .int .i64 k ∧ wr = w.drewN m) (fun iv _ => l.length - (intOf iv).toNat)
  case atStart => exact ⟨0, 0, Nat.zero_le _, rfl, rfl⟩
  case round =>
    obtain ⟨k, m, hk, rfl, rfl⟩ := hrel
    by_cases hlt : k < l.length
    · have hne : l ≠ [] := by intro e; rw [e] at hlt; simp at hlt
      obtain ⟨b1, o1, rfl, hc1⟩ := (unhide H1).2.2.2 hne
      obtain ⟨b2, o2, rfl, hc2⟩ := (unhide H2).2.2.2 hne
      obtain ⟨q0, q1⟩ := hc1 k hlt
      obtain ⟨r0, r1⟩ := hc2 k hlt
      generalize l.getD k (0, 0) = e at *
      obtain ⟨x, y⟩ := e
      dsimp only at *
      clear hc1 hc2 hne
      go_wp2_with fail
      go_quiet (fail)
      go_wp2
      go_roundw
      case rel => exact ⟨k + 1, m + nq, by omega, by go_num, rfl⟩
      case measure => simp [intOf]; omega
    · obtain rfl : k = l.length := by omega
      go_wp2
      go_ret
      exact ⟨rfl, below_draws (Below.refl _ _) m⟩
end Go.Proofs.YtjipnjmnkfjmhaaDoor
