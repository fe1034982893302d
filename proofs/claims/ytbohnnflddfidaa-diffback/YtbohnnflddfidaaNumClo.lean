/-
  Contracts of package num's closures. (Part of the proofs of NumBack, NumLow, NumTells.)
-/
import Derived.Test.YtbohnnflddfidaaNumA
import Derived.Test.YtbohnnflddfidaaNumLet
import Derived.Test.YtbohnnflddfidaaLaws
namespace Go.Proofs.Ytbohnnflddfidaa
open Go.RowKit
set_option linter.unusedVariables false

theorem putName1_any (q : Nat) (s : ByteArray) (i : Nat) (w : World) (hs : s.size ≤ maxLen) (hi : i < s.size) (hq : w.cell? ⟨q, 0, none⟩ = some (.string s)) :
    Calls Try.prog 47 #[.int .i64 i, .pointer (some ⟨q, 0, none⟩)] w fun e w' => e = .returned (.bool (!ltr ((strL s).getD i 0))) ∧ w = w' := by
  unfold maxLen at hs
  rw [strL_getD s i hi]
  go_enter Try.func47, Try.ntmps47
  go_wp2_with (go_at_call 48; refine (isLetter_any _ _).mono ?_; rintro e w' ⟨rfl, rfl⟩)
  go_ret
  exact ⟨rfl, rfl⟩

theorem Bs.at {w : World} {a : Option Addr} {cap : Nat} {l : List Int} (hb : Bs w a cap l) (i : Nat) (hi : i < l.length) :
    ∃ b off, a = some ⟨b, off, none⟩ ∧ w.cell? ⟨b, off + i, none⟩ = some (.int .u8 (l.getD i 0)) := by
  obtain ⟨b, off, rfl, hc⟩ := hb.2.2.2.2 (by intro h; subst h; simp at hi)
  exact ⟨b, off, rfl, hc i hi⟩

theorem same1_any (q r : Nat) (a a' : Option Addr) (cap cap' : Nat) (l m : List Int) (i : Nat) (w : World) (hb : Bs w a cap l) (hb' : Bs w a' cap' m) (hi : i < l.length) (hi' : i < m.length)
    (hq : w.cell? ⟨q, 0, none⟩ = some (.slice a l.length cap)) (hr : w.cell? ⟨r, 0, none⟩ = some (.slice a' m.length cap')) :
    Calls Try.prog 30 #[.int .i64 i, .pointer (some ⟨q, 0, none⟩), .pointer (some ⟨r, 0, none⟩)] w fun e w' => e = .returned (.bool (l.getD i 0 != m.getD i 0)) ∧ ∃ n, w' = w.drewN n := by
  have hl : l.length ≤ 140737488351232 := hb.2.2.1
  have hm : m.length ≤ 140737488351232 := hb'.2.2.1
  obtain ⟨b, off, rfl, hcell⟩ := hb.at i hi
  obtain ⟨b', off', rfl, hcell'⟩ := hb'.at i hi'
  clear hb hb'
  generalize l.getD i 0 = c at *
  generalize m.getD i 0 = d at *
  go_enter Try.func30, Try.ntmps30
  go_wp2
  go_quiet (fail)
  go_wp2
  go_ret
  exact ⟨rfl, _, rfl⟩

theorem Bs.drewN {w : World} {a : Option Addr} {cap : Nat} {l : List Int} (hb : Bs w a cap l) (n : Nat) : Bs (w.drewN n) a cap l := hb
end Go.Proofs.Ytbohnnflddfidaa
