/-
  Contracts of package diff: a copy of bytes; at how many places two lists differ. (Part of the proofs over package diff.)
-/
import Derived.Test.YtbohnnflddfidaaDfRow
import Derived.Test.YtbohnnflddfidaaNumSame
namespace Go.Proofs.Ytbohnnflddfidaa
open Go.RowKit
set_option linter.unusedVariables false

theorem OwnV.shape {w : World} {B : Nat} {v : Value} {L : List Int} (h : OwnV w B v L) : ∃ a c, v = .slice a L.length c := by
  rcases h.2 with ⟨rfl, h0⟩ | ⟨g, cap, cur, rfl, _⟩
  · exact ⟨none, 0, by rw [h0]⟩
  · exact ⟨_, _, rfl⟩
set_option maxHeartbeats 1000000 in
theorem bclone_any (a : Option Addr) (cap : Nat) (l : List Int) (w : World) (hb : Bs w a cap l) :
    Calls Try.prog 15 #[.slice a l.length cap] w fun e w' => ∃ a' c', e = .returned (.slice a' l.length c') ∧ OwnV w' w.heap.size (.slice a' l.length c') l ∧ Below w.heap.size w w' := by
  obtain ⟨i0, hi, hz0, hz1, hz2⟩ := info_parts info_u8
  have hl := hb.2.2.1
  have q22 : ∀ (w : World) (a : Option Addr) (n c n' c' : Nat), (binOp .eql 22 (.slice a n c) (.slice none n' c')).run Try.prog w = .ok (.bool a.isNone) w := fun w a n c n' c' => Lib.run_eql_slice_nil w _ _ a n c n' c' Try.underlying22
  cases a with
  | none =>
    have h0 : l = [] := by
      have h1 := hb.2.2.2.1 rfl
      have h2 := hb.2.1
      exact List.eq_nil_of_length_eq_zero (by omega)
    subst h0
    clear hb
    go_enter Try.func15, Try.ntmps15
    go_wp2
    go_ret
    exact ⟨none, 0, rfl, OwnV.nil _ _, Below.refl _ _⟩
  | some ad =>
    have HN := hide (news_bs (hb.below ((Below.refl _ w).alloc (Nat.le_refl _) (.cells #[] 5))))
    clear hb
    go_enter Try.func15, Try.ntmps15
    go_wp2_with (at_builtin; refine wpList_append_own _ rfl _ _ 22 rfl w.heap.size 5 i0 (.int .u8 0) 1 1 Try.underlying22 hi hz0 hz1 hz2 rfl (by decide) _ _ _ rfl (World.ownsRow_made w #[] 0 (Nat.le_refl _) (Nat.zero_le _) (by simp)) ad l.length cap (l.map (Value.int .u8)) rfl (by simp) (unhide HN) (oneCell_u8 l) (by unfold maxLen; omega) (by omega) (by simp) ?_)
    intro v' w1 hown hgrow hnil
    have hv : OwnV w1 w.heap.size v' l := hown
    obtain ⟨a', c', rfl⟩ := hv.shape
    have HO := hide hv
    have HG := hide hgrow
    clear hown HN hv hgrow hnil
    go_wp2
    go_ret
    exact ⟨a', c', rfl, unhide HO, ((Below.refl _ w).alloc (Nat.le_refl _) _).grown (unhide HG) (by simp) (by intro k hk; simp [Value.ownBlock] at hk; omega)⟩

set_option maxHeartbeats 1000000 in
theorem differ_any (a a' : Option Addr) (cap cap' : Nat) (l m : List Int) (w : World) (hbs : Bs w a cap l) (hbs' : Bs w a' cap' m) (hlm : l.length = m.length) :
    Calls Try.prog 14 #[.slice a l.length cap, .slice a' m.length cap'] w fun e w' => ∃ i : Nat, e = .returned (.int .i64 i) ∧ First (fun j => (l.getD j 0 == m.getD j 0)) l.length i ∧ ∃ n, w' = w.drewN n := by
  have hl := hbs.2.2.1
  rw [← hlm]
  have HB := hide hbs
  have HB' := hide hbs'
  have HLM := hide hlm
  clear hbs hbs' hlm
  go_enter Try.func14, Try.ntmps14
  go_wp2
  go_loopw [5] (fun i wr => ∃ k n : Nat, k ≤ l.length ∧ i = .int .i64 k ∧ wr = w.drewN n ∧ ∀ j, j < k → (l.getD j 0 == m.getD j 0) = false) (fun i _ => l.length - (intOf i).toNat)
  case atStart => exact ⟨0, 0, by omega, rfl, rfl, fun j hj => absurd hj (Nat.not_lt_zero j)⟩
  case round =>
    obtain ⟨k, n, hk, rfl, rfl, hall⟩ := hrel
    have HA := hide hall
    clear hall
    by_cases hlt : k < l.length
    · obtain ⟨b, off, rfl, c0⟩ := (unhide HB).at k hlt
      obtain ⟨b', off', rfl, c1⟩ := (unhide HB').at k (by have := unhide HLM; omega)
      have hd : decide ((k : Int) < (l.length : Int)) = true := decide_eq_true (by omega)
      cases hx : (l.getD k 0 == m.getD k 0)
      · have HX := hide hx
        have hne : ¬ l.getD k 0 = m.getD k 0 := by simpa using hx
        clear hx
        generalize l.getD k 0 = x at c0 hne
        generalize m.getD k 0 = y at c1 hne
        go_wp2_with fail
        go_quiet (fail)
        go_wp2
        go_roundw
        case rel => exact ⟨k + 1, n + nq, by omega, by go_num, rfl, First.step (unhide HA) (unhide HX)⟩
        case measure => simp [intOf]; omega
      · have HX := hide hx
        have he : l.getD k 0 = m.getD k 0 := by simpa using hx
        clear hx
        rw [he] at c0
        clear he
        generalize m.getD k 0 = y at c0 c1
        go_wp2_with fail
        go_quiet (fail)
        go_wp2
        go_ret
        exact ⟨k, rfl, ⟨by omega, unhide HA, fun _ => unhide HX⟩, n + nq, by rw [World.drewN_drewN]⟩
    · obtain rfl : k = l.length := by omega
      have hd : decide ((l.length : Int) < (l.length : Int)) = false := by simp
      go_wp2_with fail
      go_quiet (fail)
      go_wp2
      go_ret
      exact ⟨_, rfl, ⟨Nat.le_refl _, unhide HA, fun h => absurd h (Nat.lt_irrefl _)⟩, n + nq, by rw [World.drewN_drewN]⟩
end Go.Proofs.Ytbohnnflddfidaa
