/-
  Two devices side by side; the law DevicePlays where there is no device. (Part of the proof of DevicePlays.)
-/
import Derived.Test.YtnpdejlbknjhnaaDoorRefG
import Derived.Test.YtnpdejlbknjhnaaDoorPlaysA
import Derived.Test.YtnpdejlbknjhnaaDoorOpenArgs2
import Derived.Test.YtnpdejlbknjhnaaDoorErrSame
import Derived.Deep.CutRange
namespace Go.Proofs.YtnpdejlbknjhnaaDoor
open Go.RowKit
set_option linter.unusedVariables false

/-- Both devices, side by side, new since w0. -/
structure Both (w0 w : World) (p m : Nat) (S T : Nat → Prop) (D : DS) : Prop where
  live : Live w0 w p S D
  ref : Ref w m T D
  apart : ∀ k, S k → ¬ T k
  base : ∀ k, T k → w0.heap.size ≤ k

theorem Both.below {w0 w w' : World} {p m : Nat} {S T : Nat → Prop} {D : DS} (h : Both w0 w p m S T D) (hb : Below w.heap.size w w') : Both w0 w' p m S T D :=
  ⟨h.live.below hb, h.ref.below hb, h.apart, h.base⟩
/-- The first turns. -/
theorem Both.one {w0 w w' : World} {p m : Nat} {S S' T : Nat → Prop} {D : DS} {D' : DS} (h : Both w0 w p m S T D) (hl : Live w0 w' p S' D') (ht : Turn S S' w w') : Live w0 w' p S' D' ∧ Ref w' m T D ∧ (∀ k, S' k → ¬ T k) :=
  ⟨hl, h.ref.turn ht (fun k hk hs => h.apart k hs hk), fun k hs hk => h.apart k (ht.foot k (h.ref.lt k hk) hs) hk⟩
/-- .. and then the second. -/
theorem Both.two {w0 w1 w2 : World} {p m : Nat} {S T T' : Nat → Prop} {D D' : DS} (hl : Live w0 w1 p S D') (hr : Ref w1 m T D) (ha : ∀ k, S k → ¬ T k) (hb : ∀ k, T k → w0.heap.size ≤ k) (hr' : Ref w2 m T' D') (ht : Turn T T' w1 w2) : Both w0 w2 p m S T' D' := by
  have hT' : ∀ k, T' k → w0.heap.size ≤ k := fun k hk => by
    rcases Nat.lt_or_ge k w1.heap.size with h1 | h1
    · exact hb k (ht.foot k h1 hk)
    · exact Nat.le_trans hl.bel.size h1
  exact ⟨⟨hl.dev.turn ht ha, hl.bel.trans (ht.below hb hl.bel.size), hl.base⟩, hr', fun k hs hk => ha k hs (ht.foot k (hl.dev.lt k hs) hk), hT'⟩

set_option maxRecDepth 100000 in
theorem plays_no (n : Int) (a1 a2 a3 : Option Addr) (n1 n2 n3 c1 c2 c3 : Nat) (w : World) (hg : ErrT w) (hn : n < 1 ∨ 300 < n) :
    Calls Tryd.prog 3 #[.int .i64 n, .slice a1 n1 c1, .slice a2 n2 c2, .slice a3 n3 c3] w fun e w' => e = .returned (.bool true) ∧ Below w.heap.size w w' := by
  have HN := hide (new_no n w hn)
  have HE := hide (error_same 1 w hg)
  by_cases h1 : n < 1
  · clear hn
    go_enter Tryd.func3, Tryd.ntmps3
    go_wp2_with fail
    refine (unhide HN).mono ?_
    rintro e w1 ⟨rfl, rfl⟩
    go_wp2_with fail
    refine (unhide HE).mono ?_
    rintro e w2 ⟨rfl, hb⟩
    go_wp2
    go_ret
    exact ⟨rfl, hb⟩
  · have h2 : 300 < n := by omega
    clear hn
    go_enter Tryd.func3, Tryd.ntmps3
    go_wp2_with fail
    refine (unhide HN).mono ?_
    rintro e w1 ⟨rfl, rfl⟩
    go_wp2_with fail
    refine (unhide HE).mono ?_
    rintro e w2 ⟨rfl, hb⟩
    go_wp2
    go_ret
    exact ⟨rfl, hb⟩
end Go.Proofs.YtnpdejlbknjhnaaDoor
