/-
  The contract of num.Get. (Part of the proofs of NumBack, NumLow, NumTells.)
-/
import Derived.Test.YtllpeknpplpgeaaGreatDoorNumA
import Derived.Test.YtllpeknpplpgeaaGreatDoorBase
namespace Go.Proofs.YtllpeknpplpgeaaGreatDoor
open Go.RowKit
set_option linter.unusedVariables false

theorem get_size (a : Option Addr) (len cap : Nat) (p s : Int) (w : World) (h : ¬ (1 ≤ s ∧ s ≤ 4)) :
    Calls Tryz.prog 106 #[.slice a len cap, .int .i64 p, .int .i64 s] w fun e w' => e = .returned (.tuple #[.int .i64 0, .iface 63 (.int .i64 1)]) ∧ w = w' := by
  go_enter Tryz.func106, Tryz.ntmps106
  go_wp2_with (go_at_call 102; refine (isSize_no _ _ h).mono ?_; rintro e w' ⟨rfl, rfl⟩)
  go_ret2
  exact ⟨rfl, rfl⟩

theorem get_shape (a : Option Addr) (len cap : Nat) (p s : Int) (w : World) (hl : len ≤ 140737488355328) (h1 : 1 ≤ s) (h2 : s ≤ 4) (h : ¬ (0 ≤ p ∧ p ≤ len - s)) :
    Calls Tryz.prog 106 #[.slice a len cap, .int .i64 p, .int .i64 s] w fun e w' => e = .returned (.tuple #[.int .i64 0, .iface 63 (.int .i64 3)]) ∧ w = w' := by
  go_enter Tryz.func106, Tryz.ntmps106
  go_wp2_with (first | (go_at_call 102; refine (isSize_yes _ _ h1 h2).mono ?_; rintro e w' ⟨rfl, rfl⟩) | (go_at_call 104; refine (reaches_no _ _ _ _ _ _ hl h1 h2 h).mono ?_; rintro e w' ⟨rfl, rfl⟩))
  go_ret2
  exact ⟨rfl, rfl⟩

set_option maxHeartbeats 800000 in
theorem get_nat (b off cap : Nat) (l : List Int) (p s : Nat) (w : World) (hb : Byt l) (hc : l.length ≤ cap) (hm : l.length ≤ 140737488351232) (h1 : 1 ≤ s) (h2 : s ≤ 4) (h : p + s ≤ l.length)
    (hcell : ∀ i, i < l.length → w.cell? ⟨b, off + i, none⟩ = some (.int .u8 (l.getD i 0))) :
    Calls Tryz.prog 106 #[.slice (some ⟨b, off, none⟩) l.length cap, .int .i64 p, .int .i64 s] w fun e w' => e = .returned (.tuple #[.int .i64 (getV l p s), .nilIface]) ∧ w = w' := by
  go_enter Tryz.func106, Tryz.ntmps106
  go_wp2_with (first | (go_at_call 102; refine (isSize_yes _ _ (by omega) (by omega)).mono ?_; rintro e w' ⟨rfl, rfl⟩) | (go_at_call 104; refine (reaches_yes _ _ _ _ _ _ (by omega) (by omega) (by omega) (by omega) (by omega)).mono ?_; rintro e w' ⟨rfl, rfl⟩))
  go_loop [8, 21] (fun n i => ∃ k : Nat, k ≤ s ∧ i = .int .i64 k ∧ n = .int .i64 (getV l p k)) (fun _ i => s - (intOf i).toNat)
  case atStart => exact ⟨0, by omega, rfl, by simp [getV, numOf]⟩
  case round =>
    obtain ⟨k, hk, rfl, rfl⟩ := hrel
    have hbd := getV_bd l hb p k (by omega)
    by_cases hlt : k < s
    · have hx : w.cell? ⟨b, off + (p + k), none⟩ = some (.int .u8 (l.getD (p + k) 0)) := hcell (p + k) (by omega)
      have hy := hb.getD (p + k)
      have HS : Hid (getV l p (k + 1) = bits .or .i64 (getV l p k) (wrap64 (l.getD (p + k) 0 * 2 ^ (8 * k)))) := by
        rw [getV_succ l p k (by omega), or_step _ _ k (by omega) hbd hy]; exact rfl
      generalize l.getD (p + k) 0 = c at *
      generalize hn : getV l p k = n at *
      clear hn
      go_wp2
      go_round
      case rel => exact ⟨k + 1, by omega, by go_num, by rw [HS.out]⟩
      case measure => simp [intOf]; omega
    · obtain rfl : k = s := by omega
      go_wp2
      go_ret2
      exact ⟨rfl, rfl⟩

theorem get_yes (a : Option Addr) (cap : Nat) (l : List Int) (p s : Int) (w : World) (hb : Bs w a cap l) (h1 : 1 ≤ s) (h2 : s ≤ 4) (h3 : 0 ≤ p) (h4 : p ≤ l.length - s) :
    Calls Tryz.prog 106 #[.slice a l.length cap, .int .i64 p, .int .i64 s] w fun e w' => e = .returned (.tuple #[.int .i64 (getV l p.toNat s.toNat), .nilIface]) ∧ w = w' := by
  obtain ⟨b1, b2, b3, b4, b5⟩ := hb
  obtain ⟨b, off, rfl, hc⟩ := b5 (by intro h; subst h; simp at h4; omega)
  obtain ⟨P, rfl⟩ := Int.eq_ofNat_of_zero_le h3
  obtain ⟨S, rfl⟩ := Int.eq_ofNat_of_zero_le (by omega : 0 ≤ s)
  rw [Int.toNat_natCast, Int.toNat_natCast]
  exact get_nat b off cap l P S w b1 b2 b3 (by omega) (by omega) (by omega) hc
end Go.Proofs.YtllpeknpplpgeaaGreatDoor
