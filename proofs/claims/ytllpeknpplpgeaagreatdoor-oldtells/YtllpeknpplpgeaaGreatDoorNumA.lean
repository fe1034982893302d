/-
  Contracts of package num's small functions: isSize, greatest, reaches, isLetter. (Part of the proofs of NumBack, NumLow, NumTells.)
-/
import Derived.Test.YtllpeknpplpgeaaGreatDoorProg
import Derived.WalkKit
import Derived.BigQuiet
import Derived.WalkLawsBesides
namespace Go.Proofs.YtllpeknpplpgeaaGreatDoor
open Go.RowKit
set_option linter.unusedVariables false

theorem isSize_yes (s : Int) (w : World) (h1 : 1 ≤ s) (h2 : s ≤ 4) :
    Calls Tryz.prog 102 #[.int .i64 s] w fun e w' => e = .returned (.bool true) ∧ w = w' := by
  go_enter Tryz.func102, Tryz.ntmps102
  go_wp2
  go_ret
  exact ⟨rfl, rfl⟩

theorem isSize_no (s : Int) (w : World) (h : ¬ (1 ≤ s ∧ s ≤ 4)) :
    Calls Tryz.prog 102 #[.int .i64 s] w fun e w' => e = .returned (.bool false) ∧ w = w' := by
  by_cases h1 : 1 ≤ s
  · have h2 : ¬ s ≤ 4 := by omega
    go_enter Tryz.func102, Tryz.ntmps102
    go_wp2
    go_ret
    exact ⟨rfl, rfl⟩
  · clear h
    go_enter Tryz.func102, Tryz.ntmps102
    go_wp2
    go_ret
    exact ⟨rfl, rfl⟩

def most (s : Int) : Int := if s = 1 then 255 else if s = 2 then 65535 else if s = 3 then 16777215 else 4294967295

theorem greatest_any (s : Int) (w : World) (h1 : 1 ≤ s) (h2 : s ≤ 4) :
    Calls Tryz.prog 103 #[.int .i64 s] w fun e w' => e = .returned (.int .i64 (most s)) ∧ w = w' := by
  rcases (show s = 1 ∨ s = 2 ∨ s = 3 ∨ s = 4 from by omega) with rfl | rfl | rfl | rfl
  all_goals
    go_enter Tryz.func103, Tryz.ntmps103
    go_wp2
    go_ret
    exact ⟨rfl, rfl⟩

theorem reaches_yes (a : Option Addr) (len cap : Nat) (at' s : Int) (w : World) (hl : len ≤ 140737488355328) (h1 : 1 ≤ s) (h2 : s ≤ 4) (h3 : 0 ≤ at') (h4 : at' ≤ len - s) :
    Calls Tryz.prog 104 #[.slice a len cap, .int .i64 at', .int .i64 s] w fun e w' => e = .returned (.bool true) ∧ w = w' := by
  go_enter Tryz.func104, Tryz.ntmps104
  go_wp2
  go_ret
  exact ⟨rfl, rfl⟩

theorem reaches_no (a : Option Addr) (len cap : Nat) (at' s : Int) (w : World) (hl : len ≤ 140737488355328) (h1 : 1 ≤ s) (h2 : s ≤ 4) (h : ¬ (0 ≤ at' ∧ at' ≤ len - s)) :
    Calls Tryz.prog 104 #[.slice a len cap, .int .i64 at', .int .i64 s] w fun e w' => e = .returned (.bool false) ∧ w = w' := by
  by_cases h3 : 0 ≤ at'
  · have h4 : ¬ at' ≤ len - s := by omega
    clear h
    go_enter Tryz.func104, Tryz.ntmps104
    go_wp2
    go_ret
    exact ⟨rfl, rfl⟩
  · clear h
    go_enter Tryz.func104, Tryz.ntmps104
    go_wp2
    go_ret
    exact ⟨rfl, rfl⟩
end Go.Proofs.YtllpeknpplpgeaaGreatDoor
