/-
  Contracts of package image: PutRoot; Roots. (Part of the proofs over package image.)
-/
import Derived.Test.YtmkkiedohphpcaaGreatDoorImG
import Derived.Test.YtmkkiedohphpcaaGreatDoorImF
import Derived.Test.YtmkkiedohphpcaaGreatDoorImK
namespace Go.Proofs.YtmkkiedohphpcaaGreatDoor
open Go.RowKit
set_option linter.unusedVariables false

/-! ### Roots -/
theorem roots1_any (c : Int) (w : World) : Calls Tryz.prog 111 #[.int .u8 c] w fun e w' => e = .returned (.bool (c != 0)) ∧ w = w' := by
  go_enter Tryz.func111, Tryz.ntmps111
  go_wp2
  go_ret
  exact ⟨rfl, rfl⟩
set_option maxHeartbeats 400000 in
theorem indexFunc_any (a : Option Addr) (cap : Nat) (l : List Int) (w : World) (hbs : Bs w a cap l) :
    Calls Tryz.prog 124 #[.slice a l.length cap, .func (.func 111) #[] #[]] w fun e w' => e = .returned (.int .i64 (firstNz l)) ∧ w = w' := by
  have hl : l.length ≤ 140737488351232 := hbs.2.2.1
  have HN := hide (fun k => firstNz_nat (l := l) (k := k))
  have HM := hide (firstNz_neg (l := l))
  generalize firstNz l = F at *
  go_enter Tryz.func124, Tryz.ntmps124
  go_wp2
  go_loop [5, 8] (fun _ i => ∃ k : Nat, k ≤ l.length ∧ i = .int .i64 k ∧ ∀ j, j < k → (l.getD j 0 != 0) = false) (fun _ i => l.length - (intOf i).toNat)
  case atStart => exact ⟨0, by omega, rfl, fun j hj => absurd hj (Nat.not_lt_zero j)⟩
  case round =>
    obtain ⟨k, hk, rfl, hall⟩ := hrel
    have HA : Hid (∀ j, j < k → (l.getD j 0 != 0) = false) := hall
    clear hall
    by_cases hlt : k < l.length
    · obtain ⟨b, off, rfl, hcell⟩ := hbs.at k hlt
      have HC := hide (roots1_any (l.getD k 0) w)
      have HK := hide (unhide HN k hlt)
      clear hbs
      have HF := hide (fun h => First.step (f := fun j => (l.getD j 0 != 0)) (unhide HA) h)
      generalize l.getD k 0 = c at *
      cases hb : (c != 0)
      · rw [hb] at HC
        have HS := hide (unhide HF hb)
        clear hb
        go_wp2_with (go_at_call 111; refine (unhide HC).mono ?_; rintro e w' ⟨rfl, rfl⟩)
        go_round
        case rel => exact ⟨k + 1, by omega, by go_num, unhide HS⟩
        case measure => simp [intOf]; omega
      · rw [hb] at HC
        have HS := hide (unhide HK hb (unhide HA))
        clear hb
        go_wp2_with (go_at_call 111; refine (unhide HC).mono ?_; rintro e w' ⟨rfl, rfl⟩)
        go_ret
        exact ⟨by rw [unhide HS]; rfl, rfl⟩
    · obtain rfl : k = l.length := by omega
      go_wp2
      go_ret
      exact ⟨by rw [unhide HM (unhide HA)]; rfl, rfl⟩
theorem contains_any (a : Option Addr) (cap : Nat) (l : List Int) (w : World) (hbs : Bs w a cap l) :
    Calls Tryz.prog 106 #[.slice a l.length cap, .func (.func 111) #[] #[]] w fun e w' => e = .returned (.bool (isRoot l)) ∧ w = w' := by
  have HI := hide (indexFunc_any a cap l w hbs)
  have hv : firstNz l = -1 ∧ isRoot l = false ∨ 0 ≤ firstNz l ∧ isRoot l = true := by
    unfold firstNz
    cases isRoot l with
    | true => rw [if_pos rfl]; exact .inr ⟨by omega, rfl⟩
    | false => rw [if_neg (by simp)]; exact .inl ⟨rfl, rfl⟩
  generalize firstNz l = F at *
  generalize isRoot l = R at *
  generalize l.length = N at *
  rcases hv with ⟨rfl, rfl⟩ | ⟨h, rfl⟩
  all_goals
    go_enter Tryz.func106, Tryz.ntmps106
    go_wp2_with (go_at_call 124; refine (unhide HI).mono ?_; rintro e w1 ⟨rfl, rfl⟩)
    go_ret
    exact ⟨rfl, rfl⟩
end Go.Proofs.YtmkkiedohphpcaaGreatDoor
