/-
  Contracts of package num's closures. (Part of the proofs of NumBack, NumLow, NumTells.)
-/
import Derived.Test.YtopblhmbjdfebaaGreatNumA
import Derived.Test.YtopblhmbjdfebaaGreatNumLet
import Derived.Test.YtopblhmbjdfebaaGreatLaws
namespace Go.Proofs.YtopblhmbjdfebaaGreat
open Go.RowKit
set_option linter.unusedVariables false

theorem putName1_any (q : Nat) (s : ByteArray) (i : Nat) (w : World) (hs : s.size ≤ maxLen) (hi : i < s.size) (hq : w.cell? ⟨q, 0, none⟩ = some (.string s)) :
    Calls Tryz.prog 75 #[.int .i64 i, .pointer (some ⟨q, 0, none⟩)] w fun e w' => e = .returned (.bool (!ltr ((strL s).getD i 0))) ∧ w = w' := by
  unfold maxLen at hs
  rw [strL_getD s i hi]
  go_enter Tryz.func75, Tryz.ntmps75
  go_wp2_with (go_at_call 76; refine (isLetter_any _ _).mono ?_; rintro e w' ⟨rfl, rfl⟩)
  go_ret
  exact ⟨rfl, rfl⟩

theorem Bs.at {w : World} {a : Option Addr} {cap : Nat} {l : List Int} (hb : Bs w a cap l) (i : Nat) (hi : i < l.length) :
    ∃ b off, a = some ⟨b, off, none⟩ ∧ w.cell? ⟨b, off + i, none⟩ = some (.int .u8 (l.getD i 0)) := by
  obtain ⟨b, off, rfl, hc⟩ := hb.2.2.2.2 (by intro h; subst h; simp at hi)
  exact ⟨b, off, rfl, hc i hi⟩

theorem getName1_any (q : Nat) (a : Option Addr) (cap : Nat) (l : List Int) (i : Nat) (w : World) (hb : Bs w a cap l) (hi : i < l.length) (hq : w.cell? ⟨q, 0, none⟩ = some (.slice a l.length cap)) :
    Calls Tryz.prog 132 #[.int .i64 i, .pointer (some ⟨q, 0, none⟩)] w fun e w' => e = .returned (.bool (!ltr (l.getD i 0))) ∧ w = w' := by
  have hl : l.length ≤ 140737488351232 := hb.2.2.1
  obtain ⟨b, off, rfl, hcell⟩ := hb.at i hi
  clear hb
  generalize l.getD i 0 = c at *
  go_enter Tryz.func132, Tryz.ntmps132
  go_wp2_with (go_at_call 76; refine (isLetter_any _ _).mono ?_; rintro e w' ⟨rfl, rfl⟩)
  go_ret
  exact ⟨rfl, rfl⟩

theorem getName2_any (q : Nat) (a : Option Addr) (cap : Nat) (l : List Int) (i : Nat) (w : World) (hb : Bs w a cap l) (hi : i < l.length) (hq : w.cell? ⟨q, 0, none⟩ = some (.slice a l.length cap)) :
    Calls Tryz.prog 133 #[.int .i64 i, .pointer (some ⟨q, 0, none⟩)] w fun e w' => e = .returned (.bool (l.getD i 0 != 0)) ∧ w = w' := by
  have hl : l.length ≤ 140737488351232 := hb.2.2.1
  obtain ⟨b, off, rfl, hcell⟩ := hb.at i hi
  clear hb
  generalize l.getD i 0 = c at *
  go_enter Tryz.func133, Tryz.ntmps133
  go_wp2
  go_ret
  exact ⟨rfl, rfl⟩

theorem same1_any (q r : Nat) (a a' : Option Addr) (cap cap' : Nat) (l m : List Int) (i : Nat) (w : World) (hb : Bs w a cap l) (hb' : Bs w a' cap' m) (hi : i < l.length) (hi' : i < m.length)
    (hq : w.cell? ⟨q, 0, none⟩ = some (.slice a l.length cap)) (hr : w.cell? ⟨r, 0, none⟩ = some (.slice a' m.length cap')) :
    Calls Tryz.prog 114 #[.int .i64 i, .pointer (some ⟨q, 0, none⟩), .pointer (some ⟨r, 0, none⟩)] w fun e w' => e = .returned (.bool (l.getD i 0 != m.getD i 0)) ∧ ∃ n, w' = w.drewN n := by
  have hl : l.length ≤ 140737488351232 := hb.2.2.1
  have hm : m.length ≤ 140737488351232 := hb'.2.2.1
  obtain ⟨b, off, rfl, hcell⟩ := hb.at i hi
  obtain ⟨b', off', rfl, hcell'⟩ := hb'.at i hi'
  clear hb hb'
  generalize l.getD i 0 = c at *
  generalize m.getD i 0 = d at *
  go_enter Tryz.func114, Tryz.ntmps114
  go_wp2
  go_quiet (fail)
  go_wp2
  go_ret
  exact ⟨rfl, _, rfl⟩

theorem Bs.drewN {w : World} {a : Option Addr} {cap : Nat} {l : List Int} (hb : Bs w a cap l) (n : Nat) : Bs (w.drewN n) a cap l := hb
end Go.Proofs.YtopblhmbjdfebaaGreat
