/-
  Contracts of package num's closures. (Part of the proofs of NumBack, NumLow, NumTells.)
-/
import Derived.Test.YtllpeknpplpgeaaGreatDoorNumA
import Derived.Test.YtllpeknpplpgeaaGreatDoorNumLet
import Derived.Test.YtllpeknpplpgeaaGreatDoorLaws
namespace Go.Proofs.YtllpeknpplpgeaaGreatDoor
open Go.RowKit
set_option linter.unusedVariables false

theorem putName1_any (q : Nat) (s : ByteArray) (i : Nat) (w : World) (hs : s.size ≤ maxLen) (hi : i < s.size) (hq : w.cell? ⟨q, 0, none⟩ = some (.string s)) :
    Calls Tryz.prog 78 #[.int .i64 i, .pointer (some ⟨q, 0, none⟩)] w fun e w' => e = .returned (.bool (!ltr ((strL s).getD i 0))) ∧ w = w' := by
  unfold maxLen at hs
  rw [strL_getD s i hi]
  go_enter Tryz.func78, Tryz.ntmps78
  go_wp2_with (go_at_call 79; refine (isLetter_any _ _).mono ?_; rintro e w' ⟨rfl, rfl⟩)
  go_ret
  exact ⟨rfl, rfl⟩

theorem Bs.at {w : World} {a : Option Addr} {cap : Nat} {l : List Int} (hb : Bs w a cap l) (i : Nat) (hi : i < l.length) :
    ∃ b off, a = some ⟨b, off, none⟩ ∧ w.cell? ⟨b, off + i, none⟩ = some (.int .u8 (l.getD i 0)) := by
  obtain ⟨b, off, rfl, hc⟩ := hb.2.2.2.2 (by intro h; subst h; simp at hi)
  exact ⟨b, off, rfl, hc i hi⟩

theorem getName1_any (q : Nat) (a : Option Addr) (cap : Nat) (l : List Int) (i : Nat) (w : World) (hb : Bs w a cap l) (hi : i < l.length) (hq : w.cell? ⟨q, 0, none⟩ = some (.slice a l.length cap)) :
    Calls Tryz.prog 125 #[.int .i64 i, .pointer (some ⟨q, 0, none⟩)] w fun e w' => e = .returned (.bool (!ltr (l.getD i 0))) ∧ w = w' := by
  have hl : l.length ≤ 140737488351232 := hb.2.2.1
  obtain ⟨b, off, rfl, hcell⟩ := hb.at i hi
  clear hb
  generalize l.getD i 0 = c at *
  go_enter Tryz.func125, Tryz.ntmps125
  go_wp2_with (go_at_call 79; refine (isLetter_any _ _).mono ?_; rintro e w' ⟨rfl, rfl⟩)
  go_ret
  exact ⟨rfl, rfl⟩

theorem getName2_any (q : Nat) (a : Option Addr) (cap : Nat) (l : List Int) (i : Nat) (w : World) (hb : Bs w a cap l) (hi : i < l.length) (hq : w.cell? ⟨q, 0, none⟩ = some (.slice a l.length cap)) :
    Calls Tryz.prog 126 #[.int .i64 i, .pointer (some ⟨q, 0, none⟩)] w fun e w' => e = .returned (.bool (l.getD i 0 != 0)) ∧ w = w' := by
  have hl : l.length ≤ 140737488351232 := hb.2.2.1
  obtain ⟨b, off, rfl, hcell⟩ := hb.at i hi
  clear hb
  generalize l.getD i 0 = c at *
  go_enter Tryz.func126, Tryz.ntmps126
  go_wp2
  go_ret
  exact ⟨rfl, rfl⟩

theorem Bs.drewN {w : World} {a : Option Addr} {cap : Nat} {l : List Int} (hb : Bs w a cap l) (n : Nat) : Bs (w.drewN n) a cap l := hb
end Go.Proofs.YtllpeknpplpgeaaGreatDoor
