/-
  vaultsame.Entries and vaultsame.Roots, of any two lists. (Part of the proofs over package play.)
-/
import Derived.Test.YtmmgadnicodakabGreatJIm
import Derived.Deep.QuietTactic
namespace Go.Proofs.YtmmgadnicodakabGreat
open Go.RowKit
set_option linter.unusedVariables false
theorem sEnts_any (a1 a2 : Option Addr) (c1 c2 : Nat) (l r : List (Int × Int × Int × Int)) (w : World) (h1 : Sls enC 4 w a1 c1 l) (h2 : Sls enC 4 w a2 c2 r) :
  Calls Tryz.prog 14 #[.slice a1 l.length c1, .slice a2 r.length c2] w fun e w' => (∃ b, e = .returned (.bool b) ∧ (l = r → b = true)) ∧ Below w.heap.size w w' := by
 by_cases hq : l = r
 ·subst hq
  exact (ensame_any a1 a2 c1 c2 l w h1 h2).mono fun e w' ⟨he, hb⟩ => ⟨⟨true, he, fun _ => rfl⟩, hb⟩
 have hl := h1.2.2.1
 have hl2 := h2.2.2.1
 by_cases hn : l.length = r.length
 ·have H1 := hide h1
  have H2 := hide h2
  have HQ := hide hq
  clear h1 h2 hq
  have HN := hide hn
  rw [← hn]
  clear hn hl2
  go_enter Tryz.func14, Tryz.ntmps14
  go_wp2_with fail
  go_loopw [5] (fun iv wr => ∃ (k m : Nat), k ≤ l.length ∧ iv = .int .i64 k ∧ wr = w.drewN m) (fun iv _ => l.length - (intOf iv).toNat)
  case atStart => exact ⟨0, 0, Nat.zero_le _, rfl, rfl⟩
  case round =>
   obtain ⟨k, m, hk, rfl, rfl⟩ := hrel
   by_cases hlt : k < l.length
   ·have hlt2 : k < r.length := by have := unhide HN; omega
    obtain ⟨b1, o1, rfl, hc1⟩ := (unhide H1).2.2.2 (by intro e; rw [e] at hlt; simp at hlt)
    obtain ⟨b2, o2, rfl, hc2⟩ := (unhide H2).2.2.2 (by intro e; rw [e] at hlt2; simp at hlt2)
    obtain ⟨e, he⟩ : ∃ e, l[k]? = some e := ⟨l[k], List.getElem?_eq_getElem hlt⟩
    obtain ⟨f, hf⟩ : ∃ f, r[k]? = some f := ⟨r[k], List.getElem?_eq_getElem hlt2⟩
    obtain ⟨q0, q1, q2, q3⟩ := Sls.ent (cap := 0) hc1 he
    obtain ⟨r0, r1, r2, r3⟩ := Sls.ent (cap := 0) hc2 hf
    obtain ⟨x, a, y, t⟩ := e
    obtain ⟨x', a', y', t'⟩ := f
    dsimp only at *
    clear hc1 hc2 he hf hlt2
    by_cases hx : x = x'
    ·subst hx
     by_cases ha : a = a'
     ·subst ha
      by_cases hy : y = y'
      ·subst hy
       by_cases ht : t = t'
       ·subst ht
        go_wp2_with fail
        go_quiet (fail)
        go_wp2
        go_roundw
        case rel => exact ⟨k + 1, m + nq, by omega, by go_num, rfl⟩
        case measure => simp [intOf]; omega
       ·have nbt : (t == t') = false := by simpa using ht
        go_wp2_with fail
        go_quiet (fail)
        go_wp2
        go_ret
        exact ⟨⟨false, rfl, fun e => absurd e (unhide HQ)⟩, below_drewN (below_drewN (Below.refl _ _) m) nq⟩
      ·have nby : (y == y') = false := by simpa using hy
       go_wp2_with fail
       go_quiet (fail)
       go_wp2
       go_ret
       exact ⟨⟨false, rfl, fun e => absurd e (unhide HQ)⟩, below_drewN (below_drewN (Below.refl _ _) m) nq⟩
     ·have nba : (a == a') = false := by simpa using ha
      go_wp2_with fail
      go_quiet (fail)
      go_wp2
      go_ret
      exact ⟨⟨false, rfl, fun e => absurd e (unhide HQ)⟩, below_drewN (below_drewN (Below.refl _ _) m) nq⟩
    ·have nbx : (x == x') = false := by simpa using hx
     go_wp2_with fail
     go_quiet (fail)
     go_wp2
     go_ret
     exact ⟨⟨false, rfl, fun e => absurd e (unhide HQ)⟩, below_drewN (below_drewN (Below.refl _ _) m) nq⟩
   ·obtain rfl : k = l.length := by omega
    go_wp2
    go_ret
    exact ⟨⟨true, rfl, fun _ => rfl⟩, below_drewN (Below.refl _ _) m⟩
 ·have hn2 : ((l.length : Int) == (r.length : Int)) = false := by simp; omega
  have hn3 : ((l.length : Int) != (r.length : Int)) = true := by simp; omega
  have HQ := hide hq
  clear h1 h2 hq hn
  go_enter Tryz.func14, Tryz.ntmps14
  go_wp2
  go_ret
  exact ⟨⟨false, rfl, fun e => absurd e (unhide HQ)⟩, Below.refl _ _⟩
theorem sRoots_any (a1 a2 : Option Addr) (c1 c2 : Nat) (l r : List (ByteArray × Int)) (w : World) (h1 : Sls roC 2 w a1 c1 l) (h2 : Sls roC 2 w a2 c2 r) :
  Calls Tryz.prog 15 #[.slice a1 l.length c1, .slice a2 r.length c2] w fun e w' => (∃ b, e = .returned (.bool b) ∧ (l = r → b = true)) ∧ Below w.heap.size w w' := by
 by_cases hq : l = r
 ·subst hq
  exact (rosame_any a1 a2 c1 c2 l w h1 h2).mono fun e w' ⟨he, hb⟩ => ⟨⟨true, he, fun _ => rfl⟩, hb⟩
 have hl := h1.2.2.1
 have hl2 := h2.2.2.1
 by_cases hn : l.length = r.length
 ·have H1 := hide h1
  have H2 := hide h2
  have HQ := hide hq
  clear h1 h2 hq
  have HN := hide hn
  rw [← hn]
  clear hn hl2
  go_enter Tryz.func15, Tryz.ntmps15
  go_wp2_with fail
  go_loopw [5] (fun iv wr => ∃ (k m : Nat), k ≤ l.length ∧ iv = .int .i64 k ∧ wr = w.drewN m) (fun iv _ => l.length - (intOf iv).toNat)
  case atStart => exact ⟨0, 0, Nat.zero_le _, rfl, rfl⟩
  case round =>
   obtain ⟨k, m, hk, rfl, rfl⟩ := hrel
   by_cases hlt : k < l.length
   ·have hlt2 : k < r.length := by have := unhide HN; omega
    obtain ⟨b1, o1, rfl, hc1⟩ := (unhide H1).2.2.2 (by intro e; rw [e] at hlt; simp at hlt)
    obtain ⟨b2, o2, rfl, hc2⟩ := (unhide H2).2.2.2 (by intro e; rw [e] at hlt2; simp at hlt2)
    obtain ⟨e, he⟩ : ∃ e, l[k]? = some e := ⟨l[k], List.getElem?_eq_getElem hlt⟩
    obtain ⟨f, hf⟩ : ∃ f, r[k]? = some f := ⟨r[k], List.getElem?_eq_getElem hlt2⟩
    obtain ⟨q0, q1⟩ := Sls.root (cap := 0) hc1 he
    obtain ⟨r0, r1⟩ := Sls.root (cap := 0) hc2 hf
    obtain ⟨x, y⟩ := e
    obtain ⟨x', y'⟩ := f
    dsimp only at *
    clear hc1 hc2 he hf hlt2
    by_cases hx : x.toList = x'.toList
    ·skip
     by_cases hy : y = y'
     ·subst hy
      go_wp2_with fail
      go_quiet (fail)
      go_wp2
      go_roundw
      case rel => exact ⟨k + 1, m + nq, by omega, by go_num, rfl⟩
      case measure => simp [intOf]; omega
     ·have nby : (y == y') = false := by simpa using hy
      go_wp2_with fail
      go_quiet (fail)
      go_wp2
      go_ret
      exact ⟨⟨false, rfl, fun e => absurd e (unhide HQ)⟩, below_drewN (below_drewN (Below.refl _ _) m) nq⟩
    ·have nbx : (x.toList == x'.toList) = false := by simpa using hx
     go_wp2_with fail
     go_quiet (fail)
     go_wp2
     go_ret
     exact ⟨⟨false, rfl, fun e => absurd e (unhide HQ)⟩, below_drewN (below_drewN (Below.refl _ _) m) nq⟩
   ·obtain rfl : k = l.length := by omega
    go_wp2
    go_ret
    exact ⟨⟨true, rfl, fun _ => rfl⟩, below_drewN (Below.refl _ _) m⟩
 ·have hn2 : ((l.length : Int) == (r.length : Int)) = false := by simp; omega
  have hn3 : ((l.length : Int) != (r.length : Int)) = true := by simp; omega
  have HQ := hide hq
  clear h1 h2 hq hn
  go_enter Tryz.func15, Tryz.ntmps15
  go_wp2
  go_ret
  exact ⟨⟨false, rfl, fun e => absurd e (unhide HQ)⟩, Below.refl _ _⟩
end Go.Proofs.YtmmgadnicodakabGreat
