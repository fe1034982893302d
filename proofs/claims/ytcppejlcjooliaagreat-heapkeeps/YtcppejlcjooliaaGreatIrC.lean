/-
  Contracts of the reference: roots of an image. (Part of the proofs over package image.)
-/
import Derived.Test.YtcppejlcjooliaaGreatIrB
import Derived.Test.YtcppejlcjooliaaGreatImI
namespace Go.Proofs.YtcppejlcjooliaaGreat
open Go.RowKit
set_option linter.unusedVariables false

theorem rRootAt_any (a : Option Addr) (cap : Nat) (l : List Int) (k : Nat) (w : World) (hb : Bs w a cap l) (hl : 288 ≤ l.length) (hl2 : l.length ≤ 6400) (hk : k < 8) :
    Calls Tryz.prog 40 #[.slice a l.length cap, .int .i64 k] w fun e w' => ∃ a' c', e = .returned (.slice a' 11 c') ∧ Bs w a' c' (rowAt l k) ∧ w = w' := by
  obtain ⟨a', hs, hb'⟩ := slice_lohi (P := Tryz.prog) (t := 22) Tryz.underlying22 size_u8 hb (200 + 11 * k) (211 + 11 * k) (by omega) (by omega)
  have e1 : 211 + 11 * k - (200 + 11 * k) = 11 := by omega
  rw [e1] at hs hb'
  have q1 : ((200 + 11 * k : Nat) : Int) = 200 + 11 * (k : Int) := by omega
  have q2 : ((211 + 11 * k : Nat) : Int) = 211 + 11 * (k : Int) := by omega
  rw [q1, q2] at hs
  have HB := hide hb'
  clear hb hb' q1 q2 e1
  go_enter Tryz.func40, Tryz.ntmps40
  go_wp2
  go_ret
  exact ⟨a', _, rfl, unhide HB, rfl⟩

theorem isRoot_at {l : List Int} {k : Nat} (hk : k < l.length) (h : l.getD k 0 ≠ 0) : isRoot l = true := by
  unfold isRoot
  refine List.any_eq_true.2 ⟨l.getD k 0, ?_, bne_iff_ne.2 h⟩
  have : l.getD k 0 = l[k] := by simp [List.getD, hk]
  rw [this]
  exact List.getElem_mem hk
theorem isRoot_not {l : List Int} (h : ∀ j, j < l.length → l.getD j 0 = 0) : isRoot l = false := by
  unfold isRoot
  rw [List.any_eq_false]
  intro x hx
  obtain ⟨j, hj, rfl⟩ := List.getElem_of_mem hx
  have := h j hj
  rw [show l.getD j 0 = l[j] by simp [List.getD, hj]] at this
  rw [this]; simp
theorem rZero_any (a : Option Addr) (cap : Nat) (l : List Int) (w : World) (hb : Bs w a cap l) :
    Calls Tryz.prog 11 #[.slice a l.length cap] w fun e w' => e = .returned (.bool (!isRoot l)) ∧ w = w' := by
  have hn : l.length ≤ 140737488351232 := hb.2.2.1
  have HB := hide hb
  have HY := hide (fun k => isRoot_at (l := l) (k := k))
  have HN := hide (isRoot_not (l := l))
  generalize isRoot l = R at *
  clear hb
  go_enter Tryz.func11, Tryz.ntmps11
  go_wp2_with fail
  go_loop [3] (fun v => ∃ k : Nat, k ≤ l.length ∧ v = .int .i64 k ∧ ∀ j, j < k → l.getD j 0 = 0) (fun v => l.length - (intOf v).toNat)
  case atStart => exact ⟨0, by omega, rfl, fun j hj => absurd hj (Nat.not_lt_zero j)⟩
  case round =>
    obtain ⟨k, hk, rfl, hall⟩ := hrel
    by_cases hlt : k < l.length
    · obtain ⟨b, off, rfl, hc⟩ := (unhide HB).at k hlt
      have HA := hide (fun (h : l.getD k 0 = 0) (j : Nat) (hj : j < k + 1) => show l.getD j 0 = 0 from by
        by_cases e : j = k
        · rw [e]; exact h
        · exact hall j (by omega))
      have HY2 := hide (unhide HY k hlt)
      clear hall HY
      generalize l.getD k 0 = c at *
      by_cases hz : c = 0
      · subst hz
        go_wp2
        go_round
        case rel => exact ⟨k + 1, by omega, by go_num, unhide HA rfl⟩
        case measure => simp [intOf]; omega
      · have HR := hide (unhide HY2 hz)
        go_wp2
        go_ret
        exact ⟨by rw [unhide HR]; rfl, rfl⟩
    · obtain rfl : k = l.length := by omega
      have HR := hide (unhide HN hall)
      clear hall
      go_wp2
      go_ret
      exact ⟨by rw [unhide HR]; rfl, rfl⟩

end Go.Proofs.YtcppejlcjooliaaGreat
