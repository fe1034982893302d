/-
  The contract of the document's own answer for Put (vaultref1.Put). (Part of the proof of NumTells.)
-/
import Derived.Test.YtllpeknpplpgeaaGreatDoorNumPlain
import Derived.Test.YtllpeknpplpgeaaGreatDoorOwn
namespace Go.Proofs.YtllpeknpplpgeaaGreatDoor
open Go.RowKit
set_option linter.unusedVariables false

theorem pow256_bd (k : Nat) (h : k ≤ 4) : (1 : Int) ≤ 256 ^ k ∧ (256 : Int) ^ k ≤ 4294967296 := by
  rcases (show k = 0 ∨ k = 1 ∨ k = 2 ∨ k = 3 ∨ k = 4 from by omega) with rfl | rfl | rfl | rfl | rfl <;> decide

theorem most_pow (s : Nat) (h1 : 1 ≤ s) (h2 : s ≤ 4) : most s + 1 = (256 : Int) ^ s := by
  rcases (show s = 1 ∨ s = 2 ∨ s = 3 ∨ s = 4 from by omega) with rfl | rfl | rfl | rfl <;> decide

set_option maxRecDepth 100000 in
theorem rPut_size (a : Option Addr) (len cap : Nat) (p n s : Int) (w : World) (h : ¬ (1 ≤ s ∧ s ≤ 4)) :
    Calls Tryz.prog 50 #[.slice a len cap, .int .i64 p, .int .i64 n, .int .i64 s] w fun e w' => e = .returned (.tuple #[.slice none 0 0, .int .i64 1]) ∧ w = w' := by
  by_cases h1 : 1 ≤ s
  · have h2 : ¬ s ≤ 4 := by omega
    clear h
    go_enter Tryz.func50, Tryz.ntmps50
    go_wp2
    go_ret2
    exact ⟨rfl, rfl⟩
  · clear h
    go_enter Tryz.func50, Tryz.ntmps50
    go_wp2
    go_ret2
    exact ⟨rfl, rfl⟩

set_option maxRecDepth 100000 in
set_option maxHeartbeats 1000000 in
theorem rPut_neg (a : Option Addr) (cap : Nat) (l : List Int) (p n : Int) (S : Nat) (w : World) (hbs : Bs w a cap l) (h1 : 1 ≤ S) (h2 : S ≤ 4) (hp : -9223372036854775808 ≤ p ∧ p ≤ 9223372036854775807) (hn : n < 0) :
    Calls Tryz.prog 50 #[.slice a l.length cap, .int .i64 p, .int .i64 n, .int .i64 S] w fun e w' => e = .returned (.tuple #[.slice none 0 0, .int .i64 1]) ∧ w = w' := by
  have hl : l.length ≤ 140737488351232 := hbs.2.2.1
  go_enter Tryz.func50, Tryz.ntmps50
  go_wp2
  go_loop [10, 11] (fun m i => ∃ k : Nat, k ≤ S ∧ i = .int .i64 k ∧ m = .int .i64 (256 ^ k)) (fun _ i => S - (intOf i).toNat)
  case atStart => exact ⟨0, by omega, rfl, rfl⟩
  case round =>
    obtain ⟨k, hk, rfl, rfl⟩ := hrel
    have hbd := pow256_bd k (by omega)
    by_cases hlt : k < S
    · have HS : Hid ((256 : Int) ^ (k + 1) = 256 ^ k * 256) := hide (Int.pow_succ 256 k)
      generalize (256 : Int) ^ k = y at *
      go_wp2
      go_round
      case rel => exact ⟨k + 1, by omega, by go_num, by rw [unhide HS]⟩
      case measure => simp [intOf]; omega
    · obtain rfl : k = S := by omega
      generalize (256 : Int) ^ k = y at *
      go_wp2
      go_ret2
      exact ⟨rfl, rfl⟩

set_option maxRecDepth 100000 in
set_option maxHeartbeats 1000000 in
theorem rPut_most (a : Option Addr) (cap : Nat) (l : List Int) (p n : Int) (S : Nat) (w : World) (hbs : Bs w a cap l) (h1 : 1 ≤ S) (h2 : S ≤ 4) (hp : -9223372036854775808 ≤ p ∧ p ≤ 9223372036854775807) (hn : ¬ n < 0) (hm : (256 : Int) ^ S ≤ n) :
    Calls Tryz.prog 50 #[.slice a l.length cap, .int .i64 p, .int .i64 n, .int .i64 S] w fun e w' => e = .returned (.tuple #[.slice none 0 0, .int .i64 1]) ∧ w = w' := by
  have hl : l.length ≤ 140737488351232 := hbs.2.2.1
  go_enter Tryz.func50, Tryz.ntmps50
  go_wp2
  go_loop [10, 11] (fun m i => ∃ k : Nat, k ≤ S ∧ i = .int .i64 k ∧ m = .int .i64 (256 ^ k)) (fun _ i => S - (intOf i).toNat)
  case atStart => exact ⟨0, by omega, rfl, rfl⟩
  case round =>
    obtain ⟨k, hk, rfl, rfl⟩ := hrel
    have hbd := pow256_bd k (by omega)
    by_cases hlt : k < S
    · have HS : Hid ((256 : Int) ^ (k + 1) = 256 ^ k * 256) := hide (Int.pow_succ 256 k)
      generalize (256 : Int) ^ k = y at *
      go_wp2
      go_round
      case rel => exact ⟨k + 1, by omega, by go_num, by rw [unhide HS]⟩
      case measure => simp [intOf]; omega
    · obtain rfl : k = S := by omega
      generalize (256 : Int) ^ k = y at *
      go_wp2
      go_ret2
      exact ⟨rfl, rfl⟩

set_option maxRecDepth 100000 in
set_option maxHeartbeats 1000000 in
theorem rPut_lo (a : Option Addr) (cap : Nat) (l : List Int) (p n : Int) (S : Nat) (w : World) (hbs : Bs w a cap l) (h1 : 1 ≤ S) (h2 : S ≤ 4) (hp : -9223372036854775808 ≤ p ∧ p ≤ 9223372036854775807) (hn : ¬ n < 0) (hm : n < (256 : Int) ^ S) (hq : p < 0) :
    Calls Tryz.prog 50 #[.slice a l.length cap, .int .i64 p, .int .i64 n, .int .i64 S] w fun e w' => e = .returned (.tuple #[.slice none 0 0, .int .i64 3]) ∧ w = w' := by
  have hl : l.length ≤ 140737488351232 := hbs.2.2.1
  go_enter Tryz.func50, Tryz.ntmps50
  go_wp2
  go_loop [10, 11] (fun m i => ∃ k : Nat, k ≤ S ∧ i = .int .i64 k ∧ m = .int .i64 (256 ^ k)) (fun _ i => S - (intOf i).toNat)
  case atStart => exact ⟨0, by omega, rfl, rfl⟩
  case round =>
    obtain ⟨k, hk, rfl, rfl⟩ := hrel
    have hbd := pow256_bd k (by omega)
    by_cases hlt : k < S
    · have HS : Hid ((256 : Int) ^ (k + 1) = 256 ^ k * 256) := hide (Int.pow_succ 256 k)
      generalize (256 : Int) ^ k = y at *
      go_wp2
      go_round
      case rel => exact ⟨k + 1, by omega, by go_num, by rw [unhide HS]⟩
      case measure => simp [intOf]; omega
    · obtain rfl : k = S := by omega
      generalize (256 : Int) ^ k = y at *
      go_wp2
      go_ret2
      exact ⟨rfl, rfl⟩

set_option maxRecDepth 100000 in
set_option maxHeartbeats 1000000 in
theorem rPut_hi (a : Option Addr) (cap : Nat) (l : List Int) (p n : Int) (S : Nat) (w : World) (hbs : Bs w a cap l) (h1 : 1 ≤ S) (h2 : S ≤ 4) (hp : -9223372036854775808 ≤ p ∧ p ≤ 9223372036854775807) (hn : ¬ n < 0) (hm : n < (256 : Int) ^ S) (hq : 0 ≤ p) (hq2 : (l.length : Int) < p) :
    Calls Tryz.prog 50 #[.slice a l.length cap, .int .i64 p, .int .i64 n, .int .i64 S] w fun e w' => e = .returned (.tuple #[.slice none 0 0, .int .i64 3]) ∧ w = w' := by
  have hl : l.length ≤ 140737488351232 := hbs.2.2.1
  go_enter Tryz.func50, Tryz.ntmps50
  go_wp2
  go_loop [10, 11] (fun m i => ∃ k : Nat, k ≤ S ∧ i = .int .i64 k ∧ m = .int .i64 (256 ^ k)) (fun _ i => S - (intOf i).toNat)
  case atStart => exact ⟨0, by omega, rfl, rfl⟩
  case round =>
    obtain ⟨k, hk, rfl, rfl⟩ := hrel
    have hbd := pow256_bd k (by omega)
    by_cases hlt : k < S
    · have HS : Hid ((256 : Int) ^ (k + 1) = 256 ^ k * 256) := hide (Int.pow_succ 256 k)
      generalize (256 : Int) ^ k = y at *
      go_wp2
      go_round
      case rel => exact ⟨k + 1, by omega, by go_num, by rw [unhide HS]⟩
      case measure => simp [intOf]; omega
    · obtain rfl : k = S := by omega
      generalize (256 : Int) ^ k = y at *
      go_wp2
      go_ret2
      exact ⟨rfl, rfl⟩

set_option maxRecDepth 100000 in
set_option maxHeartbeats 1000000 in
theorem rPut_end (a : Option Addr) (cap : Nat) (l : List Int) (p n : Int) (S : Nat) (w : World) (hbs : Bs w a cap l) (h1 : 1 ≤ S) (h2 : S ≤ 4) (hp : -9223372036854775808 ≤ p ∧ p ≤ 9223372036854775807) (hn : ¬ n < 0) (hm : n < (256 : Int) ^ S) (hq : 0 ≤ p) (hq2 : p ≤ l.length) (hq3 : (l.length : Int) - p < S) :
    Calls Tryz.prog 50 #[.slice a l.length cap, .int .i64 p, .int .i64 n, .int .i64 S] w fun e w' => e = .returned (.tuple #[.slice none 0 0, .int .i64 3]) ∧ w = w' := by
  have hl : l.length ≤ 140737488351232 := hbs.2.2.1
  go_enter Tryz.func50, Tryz.ntmps50
  go_wp2
  go_loop [10, 11] (fun m i => ∃ k : Nat, k ≤ S ∧ i = .int .i64 k ∧ m = .int .i64 (256 ^ k)) (fun _ i => S - (intOf i).toNat)
  case atStart => exact ⟨0, by omega, rfl, rfl⟩
  case round =>
    obtain ⟨k, hk, rfl, rfl⟩ := hrel
    have hbd := pow256_bd k (by omega)
    by_cases hlt : k < S
    · have HS : Hid ((256 : Int) ^ (k + 1) = 256 ^ k * 256) := hide (Int.pow_succ 256 k)
      generalize (256 : Int) ^ k = y at *
      go_wp2
      go_round
      case rel => exact ⟨k + 1, by omega, by go_num, by rw [unhide HS]⟩
      case measure => simp [intOf]; omega
    · obtain rfl : k = S := by omega
      generalize (256 : Int) ^ k = y at *
      go_wp2
      go_ret2
      exact ⟨rfl, rfl⟩

set_option maxRecDepth 100000 in
set_option maxHeartbeats 1000000 in
theorem rPut_nat (a : Option Addr) (cap : Nat) (l : List Int) (p n : Int) (S : Nat) (w : World) (hbs : Bs w a cap l) (h1 : 1 ≤ S) (h2 : S ≤ 4) (hp : -9223372036854775808 ≤ p ∧ p ≤ 9223372036854775807) (P : Nat) (hP : p = P) (hn : ¬ n < 0) (hm : n < (256 : Int) ^ S) (hq : P + S ≤ l.length) :
    Calls Tryz.prog 50 #[.slice a l.length cap, .int .i64 p, .int .i64 n, .int .i64 S] w fun e w' => ∃ g c, e = .returned (.tuple #[.slice (some ⟨g, 0, none⟩) l.length c, .int .i64 0]) ∧ Own w' w.heap.size g c (putK l P n S) ∧ Below w.heap.size w w' := by
  have hl : l.length ≤ 140737488351232 := hbs.2.2.1
  subst hP
  obtain ⟨i0, hi, hz0, hz1, hz2⟩ := info_parts info_u8
  have hne : l ≠ [] := by intro h; subst h; simp at hq; omega
  go_enter Tryz.func50, Tryz.ntmps50
  go_wp2
  go_loop [10, 11] (fun m i => ∃ k : Nat, k ≤ S ∧ i = .int .i64 k ∧ m = .int .i64 (256 ^ k)) (fun _ i => S - (intOf i).toNat)
  case atStart => exact ⟨0, by omega, rfl, rfl⟩
  case round =>
    obtain ⟨k, hk, rfl, rfl⟩ := hrel
    have hbd := pow256_bd k (by omega)
    by_cases hlt : k < S
    · have HS : Hid ((256 : Int) ^ (k + 1) = 256 ^ k * 256) := hide (Int.pow_succ 256 k)
      generalize (256 : Int) ^ k = y at *
      go_wp2
      go_round
      case rel => exact ⟨k + 1, by omega, by go_num, by rw [unhide HS]⟩
      case measure => simp [intOf]; omega
    · obtain rfl : k = S := by omega
      generalize (256 : Int) ^ k = y at *
      go_wp2_with (at_builtin; refine wpList_append_new rfl _ _ 22 rfl i0 Tryz.underlying22 hi hz0 hz1 hz2 a cap l rfl rfl hbs hne ?_; intro g c w1 hown hb1)
      go_loopw [2, 13] (fun nv i wr => ∃ j : Nat, j ≤ k ∧ i = .int .i64 j ∧ nv = .int .i64 (n / 2 ^ (8 * j)) ∧ Own wr w.heap.size g c (putK l P n j) ∧ Below w.heap.size w wr) (fun _ i _ => k - (intOf i).toNat)
      case atStart => exact ⟨0, by omega, rfl, by simp, hown, hb1⟩
      case round =>
        obtain ⟨j, hj, rfl, rfl, hown2, hb2⟩ := hrel
        by_cases hjk : j < k
        · have hq0 : 0 ≤ n / 2 ^ (8 * j) := Int.ediv_nonneg (by omega) (Int.le_of_lt (Int.pow_pos (by decide)))
          have hq1 : n / 2 ^ (8 * j) ≤ n := Int.ediv_le_self _ (by omega)
          have HQ : Hid (n / 2 ^ (8 * (j + 1)) = n / 2 ^ (8 * j) / 256) := by
            rw [Int.ediv_ediv_of_nonneg (Int.le_of_lt (Int.pow_pos (by decide))), show 8 * (j + 1) = 8 * j + 8 from by omega, Int.pow_add]; rfl
          have HPK : Hid (putK l P n (j + 1) = (putK l P n j).set (P + j) (n / 2 ^ (8 * j) % 256)) := hide rfl
          have hfz := hown2.frozen (P + j)
          have hcl := hown2.cell (P + j) (by rw [length_putK]; omega)
          have HO := hide hown2
          clear hown2 hown
          generalize n / 2 ^ (8 * j) = m at *
          go_wp2
          go_roundw
          case rel => exact ⟨j + 1, by omega, by go_num, by rw [unhide HQ], by rw [unhide HPK]; exact (unhide HO).set (P + j) _, hb2.setCell (Nat.le_trans (Nat.le_refl _) (unhide HO).base) _⟩
          case measure => simp [intOf]; omega
        · obtain rfl : j = k := by omega
          go_wp2
          go_ret2
          exact ⟨g, c, rfl, hown2, hb2⟩

end Go.Proofs.YtllpeknpplpgeaaGreatDoor
