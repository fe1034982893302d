/-
  What StatTells holds beside its heap; a row of numbers as it is compared. (Part of the proof of StatTells.)
-/
import Derived.Test.YtpeglgkhpgifnaaGreatDoorJSf
import Derived.Test.YtpeglgkhpgifnaaGreatDoorJSr
import Derived.Test.YtpeglgkhpgifnaaGreatDoorJRx
import Derived.Test.YtpeglgkhpgifnaaGreatDoorJLo
import Derived.Test.YtpeglgkhpgifnaaGreatDoorJIs
import Derived.Test.YtpeglgkhpgifnaaGreatDoorJRef
namespace Go.Proofs.YtpeglgkhpgifnaaGreatDoor
open Go.RowKit Go.Sort
set_option linter.unusedVariables false

/-- The heap, its image, and two Stats of it. -/
structure TtS (w W : World) (p g c : Nat) (am : Option Addr) (cm : Nat) (L : List Int) (g1 g2 : Nat) (O U F M R : Int) : Prop where
  hp : Hp W w.heap.size p g c L
  bs : Bs W am cm L
  bel : Below w.heap.size w W
  s1 : StB W g1 O U F M R
  s2 : StB W g2 O U F M R
theorem TtS.below {w W W' : World} {p g c : Nat} {am : Option Addr} {cm : Nat} {L : List Int} {g1 g2 : Nat} {O U F M R : Int} (h : TtS w W p g c am cm L g1 g2 O U F M R) (hb : Below W.heap.size W W') : TtS w W' p g c am cm L g1 g2 O U F M R :=
  ⟨h.hp.below hb, h.bs.below hb, h.bel.trans (hb.mono h.bel.size), h.s1.below hb h.s1.lt, h.s2.below hb h.s2.lt⟩
/-- What is wrong with the first sizes. -/
def cnK (ns : List Int) (k : Nat) : Int := if 200 < ns.length then 4 else if (ns.take k).any noSz = true then 1 else 0
theorem cnK_zero (ns : List Int) : cnK ns 0 = if 200 < ns.length then 4 else 0 := by
  unfold cnK
  simp
theorem cnK_end {ns : List Int} {k : Nat} (h : ns.length ≤ k ∨ cnK ns k ≠ 0) : cnK ns k = cnE ns := by
  unfold cnK cnE at *
  by_cases h200 : 200 < ns.length
  · rw [if_pos h200, if_pos h200]
  · rw [if_neg h200] at h ⊢
    rw [if_neg h200]
    rcases h with h | h
    · rw [List.take_of_length_le h]
    · cases ha : (ns.take k).any noSz with
      | false => rw [ha] at h; exact absurd rfl h
      | true =>
        have : ns.any noSz = true := by
          obtain ⟨z, hz, hq⟩ := List.any_eq_true.1 ha
          exact List.any_eq_true.2 ⟨z, List.mem_of_mem_take hz, hq⟩
        rw [this]
theorem cnK_next {ns : List Int} {k : Nat} {z : Int} (hz : ns[k]? = some z) (h : cnK ns k = 0) : cnK ns (k + 1) = if noSz z = true then 1 else 0 := by
  unfold cnK at *
  by_cases h200 : 200 < ns.length
  · rw [if_pos h200] at h; cases h
  · rw [if_neg h200] at h ⊢
    have e : (ns.take (k + 1)).any noSz = ((ns.take k).any noSz || noSz z) := by
      rw [List.take_add_one, hz, List.any_append]
      simp
    rw [e]
    cases ha : (ns.take k).any noSz with
    | true => rw [ha] at h; cases h
    | false => rw [Bool.false_or]
theorem WtB.slsN {w : World} {q : Nat} {l : List Int} (h : WtB w q l) (hl : l.length ≤ 1000) : Sls inC 1 w (some ⟨q, 0, none⟩) l.length l := by
  refine ⟨Nat.le_refl _, (fun e => by cases e), by omega, fun hne => ⟨q, 0, rfl, fun i x hx j u hu => ?_⟩⟩
  have hi := (List.getElem?_eq_some_iff.1 hx).1
  have hj : j = 0 := by
    have := (List.getElem?_eq_some_iff.1 hu).1
    simp [inC] at this
    exact this
  subst hj
  have := h.cell hi
  rw [show l.getD i 0 = x by simp [List.getD, hx]] at this
  have e : u = .int .i64 x := by simpa [inC] using hu.symm
  rw [e, show 0 + i * 1 + 0 = i by omega]
  exact this
end Go.Proofs.YtpeglgkhpgifnaaGreatDoor
