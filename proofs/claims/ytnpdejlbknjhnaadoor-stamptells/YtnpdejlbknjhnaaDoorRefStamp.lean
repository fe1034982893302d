/-
  The contracts of the document's own answers for stamps (vaultref1.Make, Open). (Part of the proof of StampTells.)
-/
import Derived.Test.YtnpdejlbknjhnaaDoorStampList
import Derived.Test.YtnpdejlbknjhnaaDoorRefNumA
import Derived.Deep.QuietTactic
import Derived.BigQuiet
namespace Go.Proofs.YtnpdejlbknjhnaaDoor
open Go.RowKit
set_option linter.unusedVariables false

/-- The digits of a stamp. -/
def dig (n : Int) (j : Nat) : Int := n / 256 ^ j % 256
theorem pow_two (j : Nat) : (2 : Int) ^ (8 * j) = 256 ^ j := by rw [Int.pow_mul]; rfl
theorem side_getD (n : Int) (j : Nat) (h : j < 4) : (side n).getD j 0 = dig n j := by
  have := putK_in (zerosB 4) 0 n 4 j h (by rw [length_zerosB]; decide)
  rw [Nat.zero_add] at this
  unfold side dig
  rw [this, pow_two]

/-- What stands in a sector, byte by byte, when the first k bytes of the body and i digits of both stamps are there. -/
def spot (n : Int) (b : List Int) (k i j : Nat) : Int := if j < i then dig n j else if 28 ≤ j ∧ j < 28 + i then dig n (j - 28) else if 4 ≤ j ∧ j < 4 + k then b.getD (j - 4) 0 else 0
def Part (n : Int) (b : List Int) (k i : Nat) (l : List Int) : Prop := l.length = 32 ∧ ∀ j, j < 32 → l.getD j 0 = spot n b k i j

theorem getD_set (l : List Int) (i j : Nat) (x : Int) (hi : i < l.length) : (l.set i x).getD j 0 = if i = j then x else l.getD j 0 := by
  simp only [List.getD_eq_getElem?_getD, List.getElem?_set]
  by_cases h : i = j
  · rw [if_pos h, if_pos h, if_pos hi]; rfl
  · rw [if_neg h, if_neg h]

theorem zerosB_getD (n j : Nat) : (zerosB n).getD j 0 = 0 := by
  unfold zerosB
  simp only [List.getD_eq_getElem?_getD, List.getElem?_replicate]
  split <;> rfl
theorem Part.zero (n : Int) (b : List Int) : Part n b 0 0 (zerosB 32) := ⟨length_zerosB 32, fun j hj => by
  rw [zerosB_getD]
  unfold spot
  rw [if_neg (by omega), if_neg (by omega), if_neg (by omega)]⟩
theorem Part.body {n : Int} {b : List Int} {k : Nat} {l : List Int} (h : Part n b k 0 l) (hk : k < 24) : Part n b (k + 1) 0 (l.set (4 + k) (b.getD k 0)) := by
  refine ⟨by rw [List.length_set]; exact h.1, fun j hj => ?_⟩
  rw [getD_set _ _ _ _ (by rw [h.1]; omega), h.2 j hj]
  unfold spot
  by_cases e : 4 + k = j
  · subst e
    rw [if_pos rfl, if_neg (by omega), if_neg (by omega), if_pos (by omega)]
    congr 1
    omega
  · rw [if_neg e]
    repeat' split
    all_goals first | rfl | omega
theorem Part.side {n : Int} {b : List Int} {k i : Nat} {l : List Int} (h : Part n b k i l) (hi : i < 4) (hk : k ≤ 24) : Part n b k (i + 1) ((l.set i (dig n i)).set (28 + i) (dig n i)) := by
  refine ⟨by rw [List.length_set, List.length_set]; exact h.1, fun j hj => ?_⟩
  rw [getD_set _ _ _ _ (by rw [List.length_set, h.1]; omega), getD_set _ _ _ _ (by rw [h.1]; omega), h.2 j hj]
  unfold spot
  by_cases e : 28 + i = j
  · subst e
    rw [if_pos rfl, if_neg (by omega), if_pos (by omega)]
    congr 1
    omega
  · rw [if_neg e]
    by_cases e2 : i = j
    · subst e2
      rw [if_pos rfl, if_pos (by omega)]
    · rw [if_neg e2]
      repeat' split
      all_goals first | rfl | omega
theorem Part.whole {n : Int} {b : List Int} {l : List Int} (h : Part n b b.length 4 l) (hb : b.length ≤ 24) : l = secL n b := by
  refine ext_getD (by rw [h.1, length_secL n b hb]) (fun j hj => ?_)
  rw [h.1] at hj
  rw [h.2 j hj, secL_eq n b hb]
  have hs := length_side n
  have l1 : (b ++ zerosB (24 - b.length)).length = 24 := by simp [zerosB]; omega
  unfold spot
  by_cases h1 : j < 4
  · rw [if_pos h1, ← side_getD n j h1]
    simp only [List.getD_eq_getElem?_getD]
    rw [List.getElem?_append_left (by omega)]
  · rw [if_neg h1]
    simp only [List.getD_eq_getElem?_getD]
    rw [List.getElem?_append_right (by omega), hs]
    by_cases h2 : 28 ≤ j ∧ j < 28 + 4
    · rw [if_pos h2, ← side_getD n (j - 28) (by omega), List.getElem?_append_right (by omega), l1, List.getD_eq_getElem?_getD, show j - 4 - 24 = j - 28 by omega]
    · rw [if_neg h2, List.getElem?_append_left (by omega)]
      by_cases h3 : 4 ≤ j ∧ j < 4 + b.length
      · rw [if_pos h3, List.getElem?_append_left (by omega)]
      · rw [if_neg h3, List.getElem?_append_right (by omega)]
        have := zerosB_getD (24 - b.length) (j - 4 - b.length)
        rw [List.getD_eq_getElem?_getD] at this
        exact this.symm

theorem rMake_range (n : Int) (a : Option Addr) (len cap : Nat) (w : World) (h : n < 1 ∨ 4294967295 < n) :
    Calls Tryd.prog 22 #[.int .i64 n, .slice a len cap] w fun e w' => e = .returned (.tuple #[.slice none 0 0, .int .i64 1]) ∧ w = w' := by
  by_cases h1 : n < 1
  · clear h
    go_enter Tryd.func22, Tryd.ntmps22
    go_wp2
    go_ret2
    exact ⟨rfl, rfl⟩
  · have h2 : 4294967295 < n := by omega
    clear h
    go_enter Tryd.func22, Tryd.ntmps22
    go_wp2
    go_ret2
    exact ⟨rfl, rfl⟩
theorem rMake_full (n : Int) (a : Option Addr) (len cap : Nat) (w : World) (h1 : ¬ n < 1) (h2 : ¬ 4294967295 < n) (h3 : 24 < len) :
    Calls Tryd.prog 22 #[.int .i64 n, .slice a len cap] w fun e w' => e = .returned (.tuple #[.slice none 0 0, .int .i64 4]) ∧ w = w' := by
  go_enter Tryd.func22, Tryd.ntmps22
  go_wp2
  go_ret2
  exact ⟨rfl, rfl⟩

theorem div_step (n : Int) (i : Nat) : n / 256 ^ i / 256 = n / 256 ^ (i + 1) := by
  rw [Int.pow_succ, Int.ediv_ediv_of_nonneg (Int.pow_nonneg (by decide))]

set_option maxRecDepth 100000 in
set_option maxHeartbeats 2000000 in
theorem rMake_yes (n : Int) (a : Option Addr) (cap : Nat) (b : List Int) (w : World) (hb : Bs w a cap b) (h1 : ¬ n < 1) (h2 : ¬ 4294967295 < n) (h3 : b.length ≤ 24) :
    Calls Tryd.prog 22 #[.int .i64 n, .slice a b.length cap] w fun e w' => ∃ g, e = .returned (.tuple #[.slice (some ⟨g, 0, none⟩) 32 32, .int .i64 0]) ∧ Blk w' g (secL n b) ∧ Below w.heap.size w w' := by
  obtain ⟨i0, hi0, hz0, hz1, hz2⟩ := info_parts info_u8
  have HB := hide hb
  clear hb
  go_enter Tryd.func22, Tryd.ntmps22
  go_wp2_with (at_make; refine wpList_make_u8 rfl _ _ 35 rfl i0 Tryd.underlying35 hi0 hz0 hz1 hz2 _ _ _ _ 32 rfl rfl rfl rfl (by omega) ?_)
  intro w1 hk1 hs1 hb1
  have HK1 := hide hk1
  have HB1 := hide hb1
  clear hk1 hb1 hs1
  go_wp2_with fail
  go_loopw [7] (fun v wr => ∃ (k : Nat) (l : List Int), k ≤ b.length ∧ v = .int .i64 k ∧ Blk wr w.heap.size l ∧ Part n b k 0 l ∧ Below w.heap.size w wr) (fun v _ => b.length - (intOf v).toNat)
  case atStart => exact ⟨0, zerosB 32, by omega, rfl, unhide HK1, Part.zero n b, unhide HB1⟩
  case round =>
    obtain ⟨k, l, hk, rfl, hblk, hpart, hbel⟩ := hrel
    clear HK1 HB1
    by_cases hlt : k < b.length
    · have hne : b ≠ [] := by intro e; rw [e] at hlt; simp at hlt
      obtain ⟨gb, off, rfl, hc⟩ := (unhide HB).2.2.2.2 hne
      have q := (hbel.cell (p := ⟨gb, off + k, none⟩) (block_lt_of_cell (hc k hlt))).trans (hc k hlt)
      have hfz := hblk.frozen (4 + k)
      have hcl := hblk.cell (4 + k) (by rw [hpart.1]; omega)
      have HK := hide (hblk.set (4 + k) (b.getD k 0))
      have HPT := hide (hpart.body (k := k) (by omega))
      have hbs : Below w.heap.size w (wr.setCell ⟨w.heap.size, 4 + k, none⟩ (.int .u8 (b.getD k 0))) := hbel.setCell (Nat.le_refl _) _
      have HBL := hide hbs
      clear hbs
      generalize b.getD k 0 = bk at *
      clear hblk hpart hbel hc hne
      go_wp2
      go_roundw
      case rel => exact ⟨k + 1, _, by omega, by go_num, unhide HK, unhide HPT, unhide HBL⟩
      case measure => simp [intOf]; omega
    · obtain rfl : k = b.length := by omega
      have HK := hide hblk
      have HPT := hide hpart
      have HBL := hide hbel
      clear hblk hpart hbel hlt hk
      go_wp2_with fail
      go_loopw [8, 9] (fun nv v wr => ∃ (i : Nat) (l : List Int), i ≤ 4 ∧ v = .int .i64 i ∧ nv = .int .i64 (n / 256 ^ i) ∧ Blk wr w.heap.size l ∧ Part n b b.length i l ∧ Below w.heap.size w wr) (fun _ v _ => 4 - (intOf v).toNat)
      case atStart => exact ⟨0, l, by omega, rfl, by simp, unhide HK, unhide HPT, unhide HBL⟩
      case round =>
        obtain ⟨i, l, hi, rfl, rfl, hblk, hpart, hbel⟩ := hrel
        clear HK HPT HBL
        have hd1 := div_step n i
        have hny : 0 ≤ n / 256 ^ i ∧ n / 256 ^ i ≤ 4294967295 := by
          have hp : (0 : Int) < 256 ^ i := Int.pow_pos (by decide)
          refine ⟨Int.ediv_nonneg (by omega) (by omega), Int.le_trans (Int.ediv_le_self _ (by omega)) (by omega)⟩
        have hdig : dig n i = n / 256 ^ i % 256 := rfl
        by_cases hlt : i < 4
        · have k1 := hblk.set i (dig n i)
          have k2 := k1.set (28 + i) (dig n i)
          have hfz1 := hblk.frozen i
          have hcl1 := hblk.cell i (by rw [hpart.1]; omega)
          have hfz2 := k1.frozen (28 + i)
          have hcl2 := k1.cell (28 + i) (by rw [List.length_set, hpart.1]; omega)
          have hb1 : Below w.heap.size w (wr.setCell ⟨w.heap.size, i, none⟩ (.int .u8 (dig n i))) := hbel.setCell (Nat.le_refl _) _
          have hb2 : Below w.heap.size w ((wr.setCell ⟨w.heap.size, i, none⟩ (.int .u8 (dig n i))).setCell ⟨w.heap.size, 28 + i, none⟩ (.int .u8 (dig n i))) := hb1.setCell (Nat.le_refl _) _
          have HK := hide k2
          have HBL := hide hb2
          have HPT := hide (hpart.side hlt h3)
          have hdb : 0 ≤ dig n i ∧ dig n i ≤ 255 := by rw [hdig]; omega
          have hm : (n / 256 ^ i).tmod 256 = dig n i := by rw [Int.tmod_eq_emod_of_nonneg hny.1]; exact hdig.symm
          have hq : (n / 256 ^ i).tdiv 256 = n / 256 ^ (i + 1) := by rw [Int.tdiv_eq_ediv_of_nonneg hny.1]; exact hd1
          clear k1 k2 hb1 hb2 hblk hpart hbel hdig hd1
          have hny2 : 0 ≤ n / 256 ^ (i + 1) ∧ n / 256 ^ (i + 1) ≤ 4294967295 := by
            have hp : (0 : Int) < 256 ^ (i + 1) := Int.pow_pos (by decide)
            exact ⟨Int.ediv_nonneg (by omega) (by omega), Int.le_trans (Int.ediv_le_self _ (by omega)) (by omega)⟩
          generalize dig n i = d at *
          obtain ⟨ny2, hq2⟩ : ∃ ny2, n / 256 ^ (i + 1) = ny2 := ⟨_, rfl⟩
          rw [hq2] at hq hny2
          have HQ2 := hide hq2
          clear hq2
          generalize n / 256 ^ i = ny at *
          go_wp2
          go_roundw
          case rel => exact ⟨i + 1, _, by omega, by go_num, by rw [unhide HQ2], unhide HK, unhide HPT, unhide HBL⟩
          case measure => simp [intOf]; omega
        · obtain rfl : i = 4 := by omega
          have HK := hide hblk
          have HPT := hide (hpart.whole h3)
          have HBL := hide hbel
          clear hblk hpart hbel hlt hi
          generalize n / 256 ^ 4 = ny at *
          go_wp2
          go_ret2
          exact ⟨_, rfl, by rw [← unhide HPT]; exact unhide HK, unhide HBL⟩

theorem rMake_any (n : Int) (a : Option Addr) (cap : Nat) (b : List Int) (w : World) (hb : Bs w a cap b) :
    Calls Tryd.prog 22 #[.int .i64 n, .slice a b.length cap] w (Ends w (makeOut n b).1 (.int .i64 (makeOut n b).2)) := by
  unfold makeOut
  by_cases h : n < 1 ∨ 4294967295 < n
  · rw [if_pos h]
    exact (rMake_range n a b.length cap w h).mono fun e w' ⟨he, hw⟩ => ends_nil he hw
  · rw [if_neg h]
    by_cases h3 : 24 < b.length
    · rw [if_pos h3]
      exact (rMake_full n a b.length cap w (fun h1 => h (.inl h1)) (fun h1 => h (.inr h1)) h3).mono fun e w' ⟨he, hw⟩ => ends_nil he hw
    · rw [if_neg h3]
      refine (rMake_yes n a cap b w hb (fun h1 => h (.inl h1)) (fun h1 => h (.inr h1)) (by omega)).mono fun e w' ⟨g, he, hk, hbel⟩ => ⟨some ⟨g, 0, none⟩, 32, ?_, ?_, hbel⟩
      · rw [he, length_secL n b (by omega)]
      · have := Blk.bs hk (byt_secL n b hb.1) (by rw [length_secL n b (by omega)]; decide)
        rwa [length_secL n b (by omega)] at this

/-! ### Open -/
theorem rOpen_shape (a : Option Addr) (len cap : Nat) (w : World) (h : len ≠ 32) :
    Calls Tryd.prog 24 #[.slice a len cap] w fun e w' => e = .returned (.tuple #[.int .i64 0, .slice none 0 0, .int .i64 3]) ∧ w = w' := by
  have h' : ¬ (len : Int) = 32 := by omega
  clear h
  go_enter Tryd.func24, Tryd.ntmps24
  go_wp2
  go_ret3
  exact ⟨rfl, rfl⟩

set_option maxRecDepth 100000 in
set_option maxHeartbeats 1000000 in
theorem rOpen_any (a : Option Addr) (cap : Nat) (l : List Int) (w : World) (hb : Bs w a cap l) :
    Calls Tryd.prog 24 #[.slice a l.length cap] w (EndsN w (openOut l).1 (openOut l).2.1 (.int .i64 (openOut l).2.2)) := by
  by_cases h : l.length ≠ 32
  · unfold openOut
    rw [if_pos h]
    exact (rOpen_shape a l.length cap w h).mono fun e w' ⟨he, hw⟩ => endsN_nil he hw
  · have hl : l.length = 32 := by omega
    obtain ⟨x1, p1, s1⟩ := slice_hi (P := Tryd.prog) (t := 35) Tryd.underlying35 size_u8 hb 4 (by omega)
    obtain ⟨x2, p2, s2⟩ := slice_lo (P := Tryd.prog) (t := 35) Tryd.underlying35 size_u8 hb 28 (by omega)
    obtain ⟨x3, p3, s3⟩ := slice_lohi (P := Tryd.prog) (t := 35) Tryd.underlying35 size_u8 hb 4 28 (by decide) (by omega)
    have l1 : (l.take 4).length = 4 := by simp; omega
    have l2 : (l.drop 28).length = 4 := by simp; omega
    have l3 : ((l.drop 4).take 24).length = 24 := by simp; omega
    have n1 := rNumber x1 cap (l.take 4) w s1 (by omega)
    have n2 := rNumber x2 (cap - 28) (l.drop 28) w s2 (by omega)
    rw [l1, ← getV_front] at n1
    rw [l2, ← getV_back l hl] at n2
    rw [hl] at p1 p2 p3
    rw [show ((4 : Nat) : Int) = 4 from rfl] at p1
    rw [show ((28 : Nat) : Int) = 28 from rfl, show 32 - 28 = 4 from rfl] at p2
    rw [show ((4 : Nat) : Int) = 4 from rfl, show ((28 : Nat) : Int) = 28 from rfl, show 28 - 4 = 24 from rfl] at p3
    rw [show 28 - 4 = 24 from rfl] at s3
    have N1 := hide n1
    have N2 := hide n2
    have S3 := hide s3
    unfold openOut
    rw [if_neg h]
    clear n1 n2 s1 s2 s3 l1 l2 h hb
    rw [hl]
    clear hl
    generalize getV l 0 4 = x at *
    generalize getV l 28 4 = y at *
    generalize (l.drop 4).take 24 = L at *
    by_cases h2 : x = y
    · subst h2
      rw [if_neg (fun h => h rfl)]
      by_cases h3 : x = 0
      · subst h3
        rw [if_pos rfl]
        go_enter Tryd.func24, Tryd.ntmps24
        go_wp2_with fail
        refine (unhide N1).mono ?_
        rintro e w1 ⟨rfl, rfl⟩
        go_wp2_with fail
        refine (unhide N2).mono ?_
        rintro e w1 ⟨rfl, rfl⟩
        go_wp2
        go_ret3
        exact endsN_nil rfl rfl
      · rw [if_neg h3]
        go_enter Tryd.func24, Tryd.ntmps24
        go_wp2_with fail
        refine (unhide N1).mono ?_
        rintro e w1 ⟨rfl, rfl⟩
        go_wp2_with fail
        refine (unhide N2).mono ?_
        rintro e w1 ⟨rfl, rfl⟩
        go_wp2_with fail
        go_quiet (fail)
        go_wp2
        go_ret3
        exact ⟨x3, cap - 4, by rw [l3]; rfl, unhide S3, below_drewN (Below.refl _ _) _⟩
    · rw [if_pos h2]
      go_enter Tryd.func24, Tryd.ntmps24
      go_wp2_with fail
      refine (unhide N1).mono ?_
      rintro e w1 ⟨rfl, rfl⟩
      go_wp2_with fail
      refine (unhide N2).mono ?_
      rintro e w1 ⟨rfl, rfl⟩
      go_wp2
      go_ret3
      exact endsN_nil rfl rfl
end Go.Proofs.YtnpdejlbknjhnaaDoor
