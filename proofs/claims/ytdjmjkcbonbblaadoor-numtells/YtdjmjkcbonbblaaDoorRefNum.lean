/-
  The contracts of the document's own answers for numbers (vaultref1.Number, Get, Put). (Part of the proof of NumTells.)
-/
import Derived.Test.YtdjmjkcbonbblaaDoorNumPlain
namespace Go.Proofs.YtdjmjkcbonbblaaDoor
open Go.RowKit
set_option linter.unusedVariables false

theorem numOf_drop (l : List Int) (j : Nat) (h : j < l.length) : numOf (l.drop j) = l.getD j 0 + 256 * numOf (l.drop (j + 1)) := by
  rw [List.drop_eq_getElem_cons h]
  simp [numOf, List.getD, h]

theorem numOf_drop_bd (l : List Int) (hb : Byt l) (h4 : l.length ≤ 4) (j : Nat) : 0 ≤ numOf (l.drop j) ∧ numOf (l.drop j) ≤ 4294967295 := by
  have h := numOf_bd (l.drop j) (fun z hz => hb z (List.mem_of_mem_drop hz))
  have h2 : (256 : Int) ^ (l.drop j).length ≤ 4294967296 := by
    have h3 : (l.drop j).length ≤ 4 := by simp; omega
    rcases (show (l.drop j).length = 0 ∨ (l.drop j).length = 1 ∨ (l.drop j).length = 2 ∨ (l.drop j).length = 3 ∨ (l.drop j).length = 4 from by omega) with e | e | e | e | e <;> rw [e] <;> decide
  omega

set_option maxRecDepth 100000 in
theorem rNumber (a : Option Addr) (cap : Nat) (l : List Int) (w : World) (hbs : Bs w a cap l) (h4 : l.length ≤ 4) :
    Calls Tryd.prog 28 #[.slice a l.length cap] w fun e w' => e = .returned (.int .i64 (numOf l)) ∧ w = w' := by
  go_enter Tryd.func28, Tryd.ntmps28
  go_wp2
  go_loop [3, 4] (fun n i => ∃ j : Nat, j ≤ l.length ∧ i = .int .i64 ((j : Int) - 1) ∧ n = .int .i64 (numOf (l.drop j))) (fun _ i => (intOf i + 1).toNat)
  case atStart => exact ⟨l.length, Nat.le_refl _, rfl, by simp [numOf]⟩
  case round =>
    obtain ⟨j, hj, rfl, rfl⟩ := hrel
    by_cases h0 : 1 ≤ j
    · obtain ⟨i, rfl⟩ : ∃ i, j = i + 1 := ⟨j - 1, by omega⟩
      obtain ⟨b, off, rfl, hc⟩ := hbs.2.2.2.2 (by intro h; subst h; simp at hj)
      have hx := hc i (by omega)
      have hy := hbs.1.getD i
      have hd := numOf_drop l i (by omega)
      have hbd := numOf_drop_bd l hbs.1 h4 (i + 1)
      have hji : ((i + 1 : Nat) : Int) - 1 = (i : Int) := by omega
      rw [hji]
      clear hji
      have HD := hide hd
      clear hd hc hbs
      generalize l.getD i 0 = c at *
      generalize numOf (l.drop (i + 1)) = n at *
      go_wp2
      go_round
      case rel => exact ⟨i, by omega, rfl, by rw [unhide HD]; go_num⟩
      case measure => simp [intOf]
    · obtain rfl : j = 0 := by omega
      go_wp2
      go_ret
      exact ⟨rfl, rfl⟩

/-- What Get answers: the number, and the error's number. -/
def getOut (l : List Int) (p s : Int) : Int × Int :=
  if ¬ (1 ≤ s ∧ s ≤ 4) then (0, 1) else if ¬ (0 ≤ p ∧ p ≤ l.length - s) then (0, 3) else (getV l p.toNat s.toNat, 0)

set_option maxRecDepth 100000 in
theorem rGet (a : Option Addr) (cap : Nat) (l : List Int) (p s : Int) (w : World) (hbs : Bs w a cap l) (hp : -9223372036854775808 ≤ p ∧ p ≤ 9223372036854775807) :
    Calls Tryd.prog 8 #[.slice a l.length cap, .int .i64 p, .int .i64 s] w fun e w' => e = .returned (.tuple #[.int .i64 (getOut l p s).1, .int .i64 (getOut l p s).2]) ∧ w = w' := by
  have hl : l.length ≤ 140737488351232 := hbs.2.2.1
  by_cases h1 : 1 ≤ s
  · by_cases h2 : s ≤ 4
    · by_cases h3 : 0 ≤ p
      · by_cases h4 : p ≤ l.length - s
        · have e : getOut l p s = (getV l p.toNat s.toNat, 0) := by
            unfold getOut
            rw [if_neg (fun h => h ⟨h1, h2⟩), if_neg (fun h => h ⟨h3, h4⟩)]
          rw [e]
          clear e
          obtain ⟨P, rfl⟩ := Int.eq_ofNat_of_zero_le h3
          obtain ⟨S, rfl⟩ := Int.eq_ofNat_of_zero_le (show 0 ≤ s from by omega)
          rw [Int.toNat_natCast, Int.toNat_natCast]
          obtain ⟨a2, hs, bs2⟩ := slice_lohi (P := Tryd.prog) Tryd.underlying22 size_u8 hbs P (P + S) (by omega) (by omega)
          rw [Nat.add_sub_cancel_left, Int.natCast_add] at hs
          rw [Nat.add_sub_cancel_left] at bs2
          have hlen : ((l.drop P).take S).length = S := by simp; omega
          have hnum := rNumber a2 (cap - P) ((l.drop P).take S) w bs2 (by omega)
          rw [hlen] at hnum
          have HN := hide hnum
          clear hnum hlen bs2 hp
          go_enter Tryd.func8, Tryd.ntmps8
          go_wp2_with fail
          refine (unhide HN).mono ?_
          rintro e w1 ⟨rfl, rfl⟩
          go_wp2
          go_ret2
          exact ⟨rfl, rfl⟩
        · have e : getOut l p s = (0, 3) := by
            unfold getOut
            rw [if_neg (fun h => h ⟨h1, h2⟩), if_pos (fun h => h4 h.2)]
          rw [e]
          clear e
          by_cases h5 : p ≤ l.length
          · go_enter Tryd.func8, Tryd.ntmps8
            go_wp2
            go_ret2
            exact ⟨rfl, rfl⟩
          · go_enter Tryd.func8, Tryd.ntmps8
            go_wp2
            go_ret2
            exact ⟨rfl, rfl⟩
      · have e : getOut l p s = (0, 3) := by
          unfold getOut
          rw [if_neg (fun h => h ⟨h1, h2⟩), if_pos (fun h => h3 h.1)]
        rw [e]
        clear e
        go_enter Tryd.func8, Tryd.ntmps8
        go_wp2
        go_ret2
        exact ⟨rfl, rfl⟩
    · have e : getOut l p s = (0, 1) := by
        unfold getOut
        rw [if_pos (fun h => h2 h.2)]
      rw [e]
      clear e
      go_enter Tryd.func8, Tryd.ntmps8
      go_wp2
      go_ret2
      exact ⟨rfl, rfl⟩
  · have e : getOut l p s = (0, 1) := by
      unfold getOut
      rw [if_pos (fun h => h1 h.1)]
    rw [e]
    clear e
    go_enter Tryd.func8, Tryd.ntmps8
    go_wp2
    go_ret2
    exact ⟨rfl, rfl⟩
end Go.Proofs.YtdjmjkcbonbblaaDoor
