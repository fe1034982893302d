/-
  Contracts of the reference: what is wrong with extents. (Part of the proofs over package extent.)
-/
import Derived.Test.YtjipnjmnkfjmhaaDoorExE
namespace Go.Proofs.YtjipnjmnkfjmhaaDoor
open Go.RowKit Go.Sort Go.Shelf
set_option linter.unusedVariables false

theorem refx_big (n : Int) (a : Option Addr) (len cap : Nat) (w : World) (hn : n < 0 ∨ 6400 < n) :
    Calls Tryd.prog 4 #[.int .i64 n, .slice a len cap] w fun e w' => e = .returned (.int .i64 1) ∧ w = w' := by
  by_cases h : n < 0
  · go_enter Tryd.func4, Tryd.ntmps4
    go_wp2
    go_ret
    exact ⟨rfl, rfl⟩
  · have h2 : 6400 < n := by omega
    go_enter Tryd.func4, Tryd.ntmps4
    go_wp2
    go_ret
    exact ⟨rfl, rfl⟩
theorem refx_many (n : Int) (a : Option Addr) (len cap : Nat) (w : World) (h0 : 0 ≤ n) (hn : n ≤ 6400) (hl : 200 < len) (hb : len ≤ 8796093021952) :
    Calls Tryd.prog 4 #[.int .i64 n, .slice a len cap] w fun e w' => e = .returned (.int .i64 4) ∧ w = w' := by
  have g1 : ¬ n < 0 := by omega
  have g2 : ¬ 6400 < n := by omega
  go_enter Tryd.func4, Tryd.ntmps4
  go_wp2
  go_ret
  exact ⟨rfl, rfl⟩
theorem take_any_no {e : (Int × Int)} {l : List (Int × Int)} {i : Nat} (hi : i ≤ l.length) (h : ∀ j, j < i → over e (l.getD j (0, 0)) = false) : (l.take i).any (over e) = false := by
  rw [List.any_eq_false]
  intro x hx
  obtain ⟨j, hj, rfl⟩ := List.getElem_of_mem hx
  have hj' : j < i := by simp at hj; omega
  have := h j hj'
  rw [show l.getD j (0, 0) = l[j]'(by omega) by simp [List.getD, show j < l.length by omega]] at this
  rw [List.getElem_take]
  rw [this]; simp
theorem take_any_yes {e : (Int × Int)} {l : List (Int × Int)} {i k : Nat} (hk : k < i) (hi : i ≤ l.length) (h : over e (l.getD k (0, 0)) = true) : (l.take i).any (over e) = true := by
  refine List.any_eq_true.2 ⟨l.getD k (0, 0), ?_, h⟩
  have e1 : l.getD k (0, 0) = l[k]'(by omega) := by simp [List.getD, show k < l.length by omega]
  rw [e1]
  exact List.mem_take_iff_getElem.2 ⟨k, by omega, rfl⟩

set_option maxRecDepth 100000 in
set_option maxHeartbeats 2000000 in
theorem refx_few (n : Int) (a : Option Addr) (cap : Nat) (l : List (Int × Int)) (w : World) (hl : Exs w a cap l) (h0 : 0 ≤ n) (hn : n ≤ 6400) (hN : l.length ≤ 200) :
    Calls Tryd.prog 4 #[.int .i64 n, .slice a l.length cap] w fun e w' => e = .returned (.int .i64 (chkL n [] l)) ∧ Below w.heap.size w w' := by
  have g1 : ¬ n < 0 := by omega
  have g2 : ¬ 6400 < n := by omega
  have g3 : ¬ (200 : Int) < l.length := by omega
  have HL := hide hl
  clear hl
  generalize hC : chkL n [] l = C at *
  have HC := hide hC
  clear hC
  go_enter Tryd.func4, Tryd.ntmps4
  go_wp2_with fail
  go_loopw [5] (fun v wr => ∃ k : Nat, k ≤ l.length ∧ v = .int .i64 k ∧ Below w.heap.size w wr ∧ C = chkL n (l.take k) (l.drop k) ∧ ∀ e ∈ l.take k, there n e = true) (fun v _ => l.length - (intOf v).toNat)
  case atStart => exact ⟨0, Nat.zero_le _, rfl, Below.refl _ _, by rw [List.take_zero, List.drop_zero]; exact (unhide HC).symm, fun e he => by rw [List.take_zero] at he; cases he⟩
  case round =>
    obtain ⟨k, hk, rfl, hbel, hz, hgd⟩ := hrel
    clear HC
    by_cases hlt : k < l.length
    · have hne : l ≠ [] := by intro e; rw [e] at hlt; simp at hlt
      obtain ⟨b, off, rfl, hcell⟩ := (unhide HL).2.2.2 hne
      obtain ⟨c0, c1⟩ := hcell k hlt
      have hbw := block_lt_of_cell c0
      dsimp only at hbw
      rw [← hbel.cell (block_lt_of_cell c0)] at c0
      rw [← hbel.cell (block_lt_of_cell c1)] at c1
      have hin := (unhide HL).inI k
      rw [chkL_step hlt] at hz
      have hmem : l.getD k (0, 0) = l[k] := by simp [List.getD, hlt]
      have htk : ∀ e ∈ l.take (k + 1), there n (l.getD k (0, 0)) = true → there n e = true := fun e he hth => by
        rw [List.take_succ_eq_append_getElem hlt] at he
        rcases List.mem_append.1 he with he | he
        · exact hgd e he
        · rw [List.mem_singleton.1 he, ← hmem]; exact hth
      have hsmj : ∀ j, j < k → Sm (l.getD j (0, 0)) := fun j hj => sm_there hn (hgd _ (by
        have e1 : l.getD j (0, 0) = l[j]'(by omega) := by simp [List.getD, show j < l.length by omega]
        rw [e1]
        exact List.mem_take_iff_getElem.2 ⟨j, by omega, rfl⟩))
      have hyes := fun (j : Nat) (hj : j < k) => take_any_yes (e := l.getD k (0, 0)) hj hk
      have hnot := take_any_no (e := l.getD k (0, 0)) hk
      have HCELL := hide hcell
      have HZ := hide hz
      have HTK := hide htk
      have HSMJ := hide hsmj
      have HYES := hide hyes
      have HNOT := hide hnot
      have HBEL := hide hbel
      clear hz htk hcell hgd hmem hbel hne hsmj hyes hnot
      have htf : there n (l.getD k (0, 0)) = there n (l.getD k (0, 0)) := rfl
      generalize l.getD k (0, 0) = e at *
      clear htf
      obtain ⟨x, y⟩ := e
      obtain ⟨⟨i1, i2⟩, i3, i4⟩ := hin
      dsimp only at *
      by_cases hth : there n (x, y) = true
      · obtain ⟨t1, t2, t3⟩ := there_iff.1 hth
        dsimp only at t1 t2 t3
        have HTH := hide hth
        have q1 : ¬ y < 1 := by omega
        have q2 : ¬ x < 0 := by omega
        have q3 : ¬ n < x := by omega
        have q4 : ¬ n - x < y := by omega
        have HZ2 : Hid (C = if (l.take k).any (over (x, y)) = true then 7 else chkL n (l.take (k + 1)) (l.drop (k + 1))) := hide (by rw [unhide HZ, if_neg (by rw [hth]; simp)])
        clear hth HZ
        have HBA : Hid (Below w.heap.size w (wr.alloc (.cells #[.int .i64 x, .int .i64 y] 42))) := hide ((unhide HBEL).alloc (unhide HBEL).size _)
        have HEA := hide (ExB.new wr x y)
        generalize hg : wr.heap.size = g at *
        have hgb : w.heap.size ≤ g := by rw [← hg]; exact (unhide HBEL).size
        go_wp2_with fail
        clear HBEL
        go_loopw [7] (fun v ws => ∃ j : Nat, j ≤ k ∧ v = .int .i64 j ∧ Below w.heap.size w ws ∧ ExB ws g (x, y) ∧ ∀ m, m < j → over (x, y) (l.getD m (0, 0)) = false) (fun v _ => k - (intOf v).toNat)
        case atStart => exact ⟨0, Nat.zero_le _, rfl, unhide HBA, unhide HEA, fun m hm => by omega⟩
        case round =>
          obtain ⟨j, hj, rfl, hbj, heb, hall⟩ := hrel
          by_cases hjk : j < k
          · obtain ⟨c0, c1⟩ := unhide HCELL j (by omega)
            rw [← hbj.cell (block_lt_of_cell c0)] at c0
            rw [← hbj.cell (block_lt_of_cell c1)] at c1
            have hsj := unhide HSMJ j hjk
            have hyj := unhide HYES j hjk
            have a0 := heb.c0
            have a1 := heb.c1
            have hglt := heb.lt
            have hall2 : over (x, y) (l.getD j (0, 0)) = false → ∀ m, m < j + 1 → over (x, y) (l.getD m (0, 0)) = false := fun ho m hm => by
              by_cases e : m = j
              · rw [e]; exact ho
              · exact hall m (by omega)
            have HALL := hide hall2
            have HEB := hide heb
            have HBJ := hide hbj
            have HYJ := hide hyj
            clear hall hall2 heb hbj hyj
            generalize l.getD j (0, 0) = f at *
            obtain ⟨u, v⟩ := f
            obtain ⟨⟨s1, s2⟩, s3, s4⟩ := hsj
            dsimp only at *
            by_cases o1 : x < u + v
            · by_cases o2 : u < x + y
              · have HE : Hid (C = 7) := hide (by rw [unhide HZ2, if_pos (unhide HYJ (by unfold over; dsimp only; rw [decide_eq_true o1, decide_eq_true o2]; rfl))])
                clear HZ2 HYJ HALL
                go_wp2
                go_ret
                exact ⟨by rw [unhide HE]; rfl, (unhide HBJ).alloc (unhide HBJ).size _⟩
              · have HO : Hid (over (x, y) (u, v) = false) := hide (by unfold over; dsimp only; rw [decide_eq_false o2, Bool.and_false])
                go_wp2
                go_roundw
                case rel => exact ⟨j + 1, by omega, by go_num, (unhide HBJ).alloc (unhide HBJ).size _, (unhide HEB).alloc _, unhide HALL (unhide HO)⟩
                case measure => simp [intOf]; omega
            · have HO : Hid (over (x, y) (u, v) = false) := hide (by unfold over; dsimp only; rw [decide_eq_false o1, Bool.false_and])
              have d1 : decide (x < u + v) = false := decide_eq_false o1
              go_wp2
              go_roundw
              case rel => exact ⟨j + 1, by omega, by go_num, (unhide HBJ).alloc (unhide HBJ).size _, (unhide HEB).alloc _, unhide HALL (unhide HO)⟩
              case measure => simp [intOf]; omega
          · obtain rfl : j = k := by omega
            have HZ3 : Hid (C = chkL n (l.take (j + 1)) (l.drop (j + 1))) := hide (by rw [unhide HZ2, if_neg (by rw [unhide HNOT hall]; simp)])
            have HBJ := hide hbj
            clear hbj hall heb
            go_wp2
            go_roundw
            case rel => exact ⟨j + 1, by omega, by go_num, unhide HBJ, unhide HZ3, fun z hz => unhide HTK z hz (unhide HTH)⟩
            case measure => simp [intOf]; omega
      · have hthf : there n (x, y) = false := by cases h : there n (x, y) <;> simp_all
        have HE : Hid (C = 1) := hide (by rw [unhide HZ, if_pos hthf])
        have HBA : Hid (Below w.heap.size w (wr.alloc (.cells #[.int .i64 x, .int .i64 y] 42))) := hide ((unhide HBEL).alloc (unhide HBEL).size _)
        have hcs : y < 1 ∨ (¬ y < 1 ∧ x < 0) ∨ (¬ y < 1 ∧ ¬ x < 0 ∧ n < x) ∨ (¬ y < 1 ∧ ¬ x < 0 ∧ ¬ n < x ∧ n - x < y) := by
          have : ¬ (0 ≤ x ∧ 1 ≤ y ∧ x + y ≤ n) := fun h => hth (there_iff.2 h)
          omega
        clear HZ hth hthf HBEL HTK HYES HNOT HSMJ HCELL
        rcases hcs with q1 | ⟨q1, q2⟩ | ⟨q1, q2, q3⟩ | ⟨q1, q2, q3, q4⟩
        all_goals
          go_wp2
          go_ret
          exact ⟨by rw [unhide HE]; rfl, unhide HBA⟩
    · obtain rfl : k = l.length := by omega
      have HE : Hid (C = 0) := hide (by rw [hz, List.drop_eq_nil_of_le (Nat.le_refl _)]; rfl)
      have HB := hide hbel
      clear hz hgd hbel
      go_wp2
      go_ret
      exact ⟨by rw [unhide HE]; rfl, unhide HB⟩

theorem refx_any (n : Int) (a : Option Addr) (cap : Nat) (l : List (Int × Int)) (w : World) (hl : Exs w a cap l) :
    Calls Tryd.prog 4 #[.int .i64 n, .slice a l.length cap] w fun e w' => e = .returned (.int .i64 (chk n l)) ∧ Below w.heap.size w w' := by
  unfold chk
  by_cases h1 : n < 0 ∨ 6400 < n
  · rw [if_pos h1]
    exact (refx_big n a l.length cap w h1).mono fun e w' ⟨he, hw⟩ => ⟨he, by rw [← hw]; exact Below.refl _ _⟩
  · rw [if_neg h1]
    by_cases h2 : 200 < l.length
    · rw [if_pos h2]
      exact (refx_many n a l.length cap w (by omega) (by omega) h2 hl.2.2.1).mono fun e w' ⟨he, hw⟩ => ⟨he, by rw [← hw]; exact Below.refl _ _⟩
    · rw [if_neg h2]
      exact refx_few n a cap l w hl (by omega) (by omega) (by omega)
end Go.Proofs.YtjipnjmnkfjmhaaDoor
