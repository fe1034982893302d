/-
  The contracts of num.ahead at each closure of package num. (Part of the proofs of NumBack, NumLow, NumTells.)
-/
import Derived.Test.YtllpeknpplpgeaaGreatDoorNumClo
import Derived.Test.YtllpeknpplpgeaaGreatDoorLaws
import Derived.Deep.RegionWith
namespace Go.Proofs.YtllpeknpplpgeaaGreatDoor
open Go.RowKit
set_option linter.unusedVariables false

/-- The first place below n at which it is so; n, if it is so at none. -/
def First (f : Nat → Bool) (n i : Nat) : Prop := i ≤ n ∧ (∀ j, j < i → f j = false) ∧ (i < n → f i = true)

theorem First.unique {f : Nat → Bool} {n i j : Nat} (hi : First f n i) (hj : First f n j) : i = j := by
  rcases Nat.lt_trichotomy i j with h | h | h
  · have h1 := hj.2.1 i h
    have h2 := hi.2.2 (by have := hj.1; omega)
    rw [h1] at h2; cases h2
  · exact h
  · have h1 := hi.2.1 j h
    have h2 := hj.2.2 (by have := hi.1; omega)
    rw [h1] at h2; cases h2

theorem First.step {f : Nat → Bool} {k : Nat} (h : ∀ j, j < k → f j = false) (hk : f k = false) : ∀ j, j < k + 1 → f j = false := by
  intro j hj
  rcases Nat.lt_or_ge j k with h1 | h1
  · exact h j h1
  · obtain rfl : j = k := by omega
    exact hk
set_option maxHeartbeats 400000 in
theorem ahead_putName (q : Nat) (s : ByteArray) (w : World) (hs : s.size ≤ 140737488351232) (hq : w.cell? ⟨q, 0, none⟩ = some (.string s)) :
    Calls Tryz.prog 77 #[.int .i64 (s.size : Nat), .func (.func 78) #[] #[.pointer (some ⟨q, 0, none⟩)]] w fun e w' => ∃ i : Nat, e = .returned (.int .i64 i) ∧ First (fun j => (!ltr ((strL s).getD j 0))) s.size i ∧ w = w' := by
  skip
  go_enter Tryz.func77, Tryz.ntmps77
  go_wp2
  go_loop [5] (fun i => ∃ k : Nat, k ≤ s.size ∧ i = .int .i64 k ∧ ∀ j, j < k → (!ltr ((strL s).getD j 0)) = false) (fun i => s.size - (intOf i).toNat)
  case atStart => exact ⟨0, by omega, rfl, fun j hj => absurd hj (Nat.not_lt_zero j)⟩
  case round =>
    obtain ⟨k, hk, rfl, hall⟩ := hrel
    have HA : Hid (∀ j, j < k → (!ltr ((strL s).getD j 0)) = false) := hall
    clear hall
    by_cases hlt : k < s.size
    · have hcall := putName1_any q s k w (by unfold maxLen; omega) hlt hq
      have HC := hide hcall
      clear hcall
      cases hb : (!ltr ((strL s).getD k 0))
      · have HB := hide hb
        rw [hb] at HC
        clear hb
        go_wp2_with (go_at_call 78; refine (unhide HC).mono ?_; rintro e w' ⟨rfl, rfl⟩)
        go_round
        case rel => exact ⟨k + 1, by omega, by go_num, First.step HA.out (unhide HB)⟩
        case measure => simp [intOf]; omega
      · have HB := hide hb
        rw [hb] at HC
        clear hb
        go_wp2_with (go_at_call 78; refine (unhide HC).mono ?_; rintro e w' ⟨rfl, rfl⟩)
        go_ret
        exact ⟨k, rfl, ⟨by omega, HA.out, fun _ => unhide HB⟩, rfl⟩
    · go_wp2
      go_ret
      exact ⟨k, rfl, ⟨by omega, HA.out, fun h => absurd h hlt⟩, rfl⟩

set_option maxHeartbeats 400000 in
theorem ahead_getName1 (q : Nat) (a : Option Addr) (cap : Nat) (l : List Int) (w : World) (hbs : Bs w a cap l) (hq : w.cell? ⟨q, 0, none⟩ = some (.slice a l.length cap)) :
    Calls Tryz.prog 77 #[.int .i64 (l.length : Nat), .func (.func 125) #[] #[.pointer (some ⟨q, 0, none⟩)]] w fun e w' => ∃ i : Nat, e = .returned (.int .i64 i) ∧ First (fun j => (!ltr (l.getD j 0))) l.length i ∧ w = w' := by
  have hl : l.length ≤ 140737488351232 := hbs.2.2.1
  go_enter Tryz.func77, Tryz.ntmps77
  go_wp2
  go_loop [5] (fun i => ∃ k : Nat, k ≤ l.length ∧ i = .int .i64 k ∧ ∀ j, j < k → (!ltr (l.getD j 0)) = false) (fun i => l.length - (intOf i).toNat)
  case atStart => exact ⟨0, by omega, rfl, fun j hj => absurd hj (Nat.not_lt_zero j)⟩
  case round =>
    obtain ⟨k, hk, rfl, hall⟩ := hrel
    have HA : Hid (∀ j, j < k → (!ltr (l.getD j 0)) = false) := hall
    clear hall
    by_cases hlt : k < l.length
    · have hcall := getName1_any q a cap l k w hbs hlt hq
      have HC := hide hcall
      clear hcall
      cases hb : (!ltr (l.getD k 0))
      · have HB := hide hb
        rw [hb] at HC
        clear hb
        go_wp2_with (go_at_call 125; refine (unhide HC).mono ?_; rintro e w' ⟨rfl, rfl⟩)
        go_round
        case rel => exact ⟨k + 1, by omega, by go_num, First.step HA.out (unhide HB)⟩
        case measure => simp [intOf]; omega
      · have HB := hide hb
        rw [hb] at HC
        clear hb
        go_wp2_with (go_at_call 125; refine (unhide HC).mono ?_; rintro e w' ⟨rfl, rfl⟩)
        go_ret
        exact ⟨k, rfl, ⟨by omega, HA.out, fun _ => unhide HB⟩, rfl⟩
    · go_wp2
      go_ret
      exact ⟨k, rfl, ⟨by omega, HA.out, fun h => absurd h hlt⟩, rfl⟩

set_option maxHeartbeats 400000 in
theorem ahead_getName2 (q : Nat) (a : Option Addr) (cap : Nat) (l : List Int) (w : World) (hbs : Bs w a cap l) (hq : w.cell? ⟨q, 0, none⟩ = some (.slice a l.length cap)) :
    Calls Tryz.prog 77 #[.int .i64 (l.length : Nat), .func (.func 126) #[] #[.pointer (some ⟨q, 0, none⟩)]] w fun e w' => ∃ i : Nat, e = .returned (.int .i64 i) ∧ First (fun j => (l.getD j 0 != 0)) l.length i ∧ w = w' := by
  have hl : l.length ≤ 140737488351232 := hbs.2.2.1
  go_enter Tryz.func77, Tryz.ntmps77
  go_wp2
  go_loop [5] (fun i => ∃ k : Nat, k ≤ l.length ∧ i = .int .i64 k ∧ ∀ j, j < k → (l.getD j 0 != 0) = false) (fun i => l.length - (intOf i).toNat)
  case atStart => exact ⟨0, by omega, rfl, fun j hj => absurd hj (Nat.not_lt_zero j)⟩
  case round =>
    obtain ⟨k, hk, rfl, hall⟩ := hrel
    have HA : Hid (∀ j, j < k → (l.getD j 0 != 0) = false) := hall
    clear hall
    by_cases hlt : k < l.length
    · have hcall := getName2_any q a cap l k w hbs hlt hq
      have HC := hide hcall
      clear hcall
      cases hb : (l.getD k 0 != 0)
      · have HB := hide hb
        rw [hb] at HC
        clear hb
        go_wp2_with (go_at_call 126; refine (unhide HC).mono ?_; rintro e w' ⟨rfl, rfl⟩)
        go_round
        case rel => exact ⟨k + 1, by omega, by go_num, First.step HA.out (unhide HB)⟩
        case measure => simp [intOf]; omega
      · have HB := hide hb
        rw [hb] at HC
        clear hb
        go_wp2_with (go_at_call 126; refine (unhide HC).mono ?_; rintro e w' ⟨rfl, rfl⟩)
        go_ret
        exact ⟨k, rfl, ⟨by omega, HA.out, fun _ => unhide HB⟩, rfl⟩
    · go_wp2
      go_ret
      exact ⟨k, rfl, ⟨by omega, HA.out, fun h => absurd h hlt⟩, rfl⟩

def fstFrom (f : Nat → Bool) : Nat → Nat → Nat
  | 0, i => i
  | k + 1, i => if f i then i else fstFrom f k (i + 1)
/-- The first place below n at which it is so; n, if it is so at none. -/
def fstN (f : Nat → Bool) (n : Nat) : Nat := fstFrom f n 0

theorem fstFrom_first (f : Nat → Bool) (n : Nat) : ∀ k i, i + k = n → (∀ j, j < i → f j = false) → First f n (fstFrom f k i) := by
  intro k
  induction k with
  | zero => intro i hi h; exact ⟨by simp [fstFrom]; omega, h, fun h' => by simp [fstFrom] at h'; omega⟩
  | succ k ih =>
    intro i hi h
    unfold fstFrom
    by_cases hf : f i = true
    · rw [if_pos hf]; exact ⟨by omega, h, fun _ => hf⟩
    · rw [if_neg hf]
      exact ih (i + 1) (by omega) (First.step h (by simpa using hf))
theorem first_fstN (f : Nat → Bool) (n : Nat) : First f n (fstN f n) := fstFrom_first f n n 0 (by omega) (fun j hj => absurd hj (Nat.not_lt_zero j))

end Go.Proofs.YtllpeknpplpgeaaGreatDoor
