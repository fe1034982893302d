/-
  Contracts of package stamp: Make, Open, Mix. (Part of the proofs of StampTells, StampWhole, StampRow.)
-/
import Derived.Test.YtnpdejlbknjhnaaDoorNumPut
import Derived.Test.YtnpdejlbknjhnaaDoorNumGet
import Derived.Test.YtnpdejlbknjhnaaDoorNumList
import Derived.Test.YtnpdejlbknjhnaaDoorEnds
import Derived.Test.YtnpdejlbknjhnaaDoorErrV
namespace Go.Proofs.YtnpdejlbknjhnaaDoor
open Go.RowKit
set_option linter.unusedVariables false

/-! ### Make -/
def side (n : Int) : List Int := putK (zerosB 4) 0 n 4
theorem length_side (n : Int) : (side n).length = 4 := by unfold side; rw [length_putK, length_zerosB]
theorem byt_side (n : Int) : Byt (side n) := byt_putK (byt_zerosB 4) 0 n 4
def secL (n : Int) (b : List Int) : List Int := splice (splice (splice (zerosB 32) 0 (side n)) 4 b) 28 (side n)
theorem length_secL (n : Int) (b : List Int) (h : b.length ≤ 24) : (secL n b).length = 32 := by
  have h1 : (splice (zerosB 32) 0 (side n)).length = 32 := by rw [length_splice _ _ _ (by rw [length_side, length_zerosB]; decide), length_zerosB]
  have h2 : (splice (splice (zerosB 32) 0 (side n)) 4 b).length = 32 := by rw [length_splice _ _ _ (by rw [h1]; omega), h1]
  unfold secL
  rw [length_splice _ _ _ (by rw [length_side, h2]; decide), h2]
theorem byt_secL (n : Int) (b : List Int) (hb : Byt b) : Byt (secL n b) := byt_splice (byt_splice (byt_splice (byt_zerosB 32) (byt_side n)) hb) (byt_side n)

theorem make_range (n : Int) (a : Option Addr) (len cap : Nat) (w : World) (h : n < 1 ∨ 4294967295 < n) :
    Calls Tryd.prog 23 #[.int .i64 n, .slice a len cap] w fun e w' => e = .returned (.tuple #[.slice none 0 0, errV 1]) ∧ w = w' := by
  by_cases h1 : n < 1
  · clear h
    go_enter Tryd.func23, Tryd.ntmps23
    go_wp2
    go_ret2
    exact ⟨rfl, rfl⟩
  · have h2 : 4294967295 < n := by omega
    clear h
    go_enter Tryd.func23, Tryd.ntmps23
    go_wp2
    go_ret2
    exact ⟨rfl, rfl⟩
theorem make_full (n : Int) (a : Option Addr) (len cap : Nat) (w : World) (h1 : ¬ n < 1) (h2 : ¬ 4294967295 < n) (h3 : 24 < len) :
    Calls Tryd.prog 23 #[.int .i64 n, .slice a len cap] w fun e w' => e = .returned (.tuple #[.slice none 0 0, errV 4]) ∧ w = w' := by
  go_enter Tryd.func23, Tryd.ntmps23
  go_wp2
  go_ret2
  exact ⟨rfl, rfl⟩

set_option maxRecDepth 100000 in
set_option maxHeartbeats 800000 in
theorem make_yes (n : Int) (a : Option Addr) (cap : Nat) (b : List Int) (w : World) (hb : Bs w a cap b) (h1 : ¬ n < 1) (h2 : ¬ 4294967295 < n) (h3 : b.length ≤ 24) :
    Calls Tryd.prog 23 #[.int .i64 n, .slice a b.length cap] w fun e w' => ∃ g, e = .returned (.tuple #[.slice (some ⟨g, 0, none⟩) 32 32, .nilIface]) ∧ w.heap.size ≤ g ∧ Blk w' g (secL n b) ∧ Below w.heap.size w w' := by
  obtain ⟨i0, hi0, hz0, hz1, hz2⟩ := info_parts info_u8
  have HB := hide hb
  clear hb
  go_enter Tryd.func23, Tryd.ntmps23
  go_wp2_with (at_make; refine wpList_make_u8 rfl _ _ 35 rfl i0 Tryd.underlying35 hi0 hz0 hz1 hz2 _ _ _ _ 4 rfl rfl rfl rfl (by omega) ?_)
  intro w1 hk1 hs1 hb1
  have hput := put_nat (some ⟨w.heap.size, 0, none⟩) 4 (zerosB 4) 0 4 n w1 (by have := hk1.bs (byt_zerosB 4) (by rw [length_zerosB]; decide); rwa [length_zerosB] at this) (by decide) (by decide) (by omega) (by show ¬ (4294967295 : Int) < n; omega) (by rw [length_zerosB]; decide)
  rw [length_zerosB, show ((0 : Nat) : Int) = 0 from rfl, show ((4 : Nat) : Int) = 4 from rfl] at hput
  have HP := hide hput
  have HBL := hide hb1
  clear hput hk1 hb1
  go_wp2_with fail
  refine (unhide HP).mono ?_
  rintro e w2 ⟨gs, rfl, hgs, hks, hb2⟩
  have hbel : Below w.heap.size w w2 := (unhide HBL).trans (hb2.mono (unhide HBL).size)
  have hBs : Bs w2 (some ⟨gs, 0, none⟩) 4 (side n) := by
    have := Blk.bs (l := side n) hks (byt_side n) (by rw [length_side]; decide)
    rwa [length_side] at this
  have HBS := hide hBs
  have HW2 := hide hbel
  clear hbel hBs hks hb2 HP HBL
  go_wp2_with (at_make; refine wpList_make_u8 rfl _ _ 35 rfl i0 Tryd.underlying35 hi0 hz0 hz1 hz2 _ _ _ _ 32 rfl rfl rfl rfl (by omega) ?_)
  intro w3 hk3 hs3 hb3
  have hw3 : Below w.heap.size w w3 := (unhide HW2).trans (hb3.mono (unhide HW2).size)
  have hg : w.heap.size ≤ w2.heap.size := (unhide HW2).size
  have q0 : Bs w3 (some ⟨gs, 0, none⟩) 4 (side n) := (unhide HBS).below hb3
  have gl : gs < w2.heap.size := by
    obtain ⟨b', o', e', hc⟩ := (unhide HBS).2.2.2.2 (by intro e; have := length_side n; rw [e] at this; cases this)
    have := block_lt_of_cell (hc 0 (by rw [length_side]; decide))
    simp at e'
    obtain ⟨rfl, rfl⟩ := e'
    exact this
  obtain ⟨X1, hX1⟩ : ∃ X1, X1 = splice (zerosB 32) 0 (side n) := ⟨_, rfl⟩
  obtain ⟨X2, hX2⟩ : ∃ X2, X2 = splice X1 4 b := ⟨_, rfl⟩
  obtain ⟨X3, hX3⟩ : ∃ X3, X3 = splice X2 28 (side n) := ⟨_, rfl⟩
  have l1 : X1.length = 32 := by rw [hX1, length_splice _ _ _ (by rw [length_side, length_zerosB]; decide), length_zerosB]
  have l2 : X2.length = 32 := by rw [hX2, length_splice _ _ _ (by rw [l1]; omega), l1]
  have k1 : Blk (rowW w3 w2.heap.size X1) w2.heap.size X1 := rowW_blk hk3 X1
  have k2 : Blk (rowW (rowW w3 w2.heap.size X1) w2.heap.size X2) w2.heap.size X2 := rowW_blk k1 X2
  have k3 : Blk (rowW (rowW (rowW w3 w2.heap.size X1) w2.heap.size X2) w2.heap.size X3) w2.heap.size X3 := rowW_blk k2 X3
  have b1 : Below w2.heap.size w2 (rowW w3 w2.heap.size X1) := rowW_below _ hb3 (Nat.le_refl _)
  have b2 : Below w2.heap.size w2 (rowW (rowW w3 w2.heap.size X1) w2.heap.size X2) := rowW_below _ b1 (Nat.le_refl _)
  have b3 : Below w2.heap.size w2 (rowW (rowW (rowW w3 w2.heap.size X1) w2.heap.size X2) w2.heap.size X3) := rowW_below _ b2 (Nat.le_refl _)
  obtain ⟨d4, e4, f4⟩ := cut_own (P := Tryd.prog) (t := 35) Tryd.underlying35 size_u8 w2.heap.size 4 28 rfl
  obtain ⟨d28, e28, f28⟩ := cut_own (P := Tryd.prog) (t := 35) Tryd.underlying35 size_u8 w2.heap.size 28 4 rfl
  have c1 := run_copy_at (P := Tryd.prog) w3 35 35 3 Tryd.underlying35 size_u8 w2.heap.size 0 32 32 (some ⟨w2.heap.size, 0, none⟩) _ 4 (zerosB 32) (side n) (by rw [length_side]; decide) (fun _ => rfl) (by rw [length_side, length_zerosB]; decide) hk3 q0
  have c2 := run_copy_at (P := Tryd.prog) (rowW w3 w2.heap.size X1) 35 35 3 Tryd.underlying35 size_u8 w2.heap.size 4 28 28 d4 a cap X1 b (by omega) (fun _ => f4 (by decide)) (by rw [l1]; omega) k1 ((unhide HB).below ((unhide HW2).trans (b1.mono hg)))
  have c3 := run_copy_at (P := Tryd.prog) (rowW (rowW w3 w2.heap.size X1) w2.heap.size X2) 35 35 3 Tryd.underlying35 size_u8 w2.heap.size 28 4 4 d28 _ 4 X2 (side n) (by rw [length_side]; decide) (fun _ => f28 (by decide)) (by rw [length_side, l2]; decide) k2 ((unhide HBS).below b2)
  rw [← hX1] at c1
  rw [← hX2] at c2
  rw [← hX3] at c3
  rw [length_side, show ((4 : Nat) : Int) = 4 from rfl] at c1 c3
  rw [show ((4 : Nat) : Int) = 4 from rfl] at e4
  rw [show ((28 : Nat) : Int) = 28 from rfl] at e28
  have hfin : X3 = secL n b := by rw [hX3, hX2, hX1]; rfl
  have HF := hide hfin
  have HK3 := hide k3
  have HB3 := hide ((unhide HW2).trans (b3.mono hg))
  have hgg := hg
  clear hfin k1 k2 k3 b1 b2 b3 l1 l2 hX1 hX2 hX3 q0 gl hb3 hk3 hw3 HW2 HBS f4 f28 hs3 hs1
  go_wp2
  go_ret2
  exact ⟨_, rfl, hgg, by rw [← unhide HF]; exact unhide HK3, unhide HB3⟩

/-- What Make answers: the sector, and the error's number. -/
def makeOut (n : Int) (b : List Int) : List Int × Int := if n < 1 ∨ 4294967295 < n then ([], 1) else if 24 < b.length then ([], 4) else (secL n b, 0)
theorem make_any (n : Int) (a : Option Addr) (cap : Nat) (b : List Int) (w : World) (hb : Bs w a cap b) :
    Calls Tryd.prog 23 #[.int .i64 n, .slice a b.length cap] w (Ends w (makeOut n b).1 (errV (makeOut n b).2)) := by
  unfold makeOut
  by_cases h : n < 1 ∨ 4294967295 < n
  · rw [if_pos h]
    exact (make_range n a b.length cap w h).mono fun e w' ⟨he, hw⟩ => ends_nil he hw
  · rw [if_neg h]
    by_cases h3 : 24 < b.length
    · rw [if_pos h3]
      exact (make_full n a b.length cap w (fun h1 => h (.inl h1)) (fun h1 => h (.inr h1)) h3).mono fun e w' ⟨he, hw⟩ => ends_nil he hw
    · rw [if_neg h3]
      refine (make_yes n a cap b w hb (fun h1 => h (.inl h1)) (fun h1 => h (.inr h1)) (by omega)).mono fun e w' ⟨g, he, _, hk, hbel⟩ => ⟨some ⟨g, 0, none⟩, 32, ?_, ?_, hbel⟩
      · rw [he, length_secL n b (by omega)]; rfl
      · have := Blk.bs hk (byt_secL n b hb.1) (by rw [length_secL n b (by omega)]; decide)
        rwa [length_secL n b (by omega)] at this
end Go.Proofs.YtnpdejlbknjhnaaDoor
