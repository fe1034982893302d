/-
  What becomes of a View and the two lists beside it: committed, opened again. (Part of the proof of ViewBack.)
-/
import Derived.Test.YtjipnjmnkfjmhaaGreatDoorJVwSt
import Derived.Test.YtjipnjmnkfjmhaaGreatDoorJPages
namespace Go.Proofs.YtjipnjmnkfjmhaaGreatDoor
open Go.RowKit
set_option linter.unusedVariables false

theorem ints_form2 {w : World} {B n : Nat} {d : Value} {xs : List Int} (h : w.ownsRow B 3 1 d n (xs.map encZ)) : ∃ a c, d = .slice a n c ∧ ∀ j, j < n → ∃ g, a = some ⟨g, 0, none⟩ ∧ B ≤ g ∧ w.cell? ⟨g, j, none⟩ = some (.int .i64 (xs.getD j 0)) := by
  obtain ⟨a, c, e, hc⟩ := ints_form h
  refine ⟨a, c, e, fun j hj => ?_⟩
  obtain ⟨g, rfl, hg⟩ := hc j hj
  exact ⟨g, rfl, (h.lt g (by rw [e]; rfl)).1, hg⟩
theorem mem_take_succ {l : List Int} {j : Nat} (hj : j < l.length) (k : Int) : k ∈ l.take (j + 1) ↔ (k ∈ l.take j ∨ l.getD j 0 = k) := by
  rw [List.take_add_one, List.getElem?_eq_getElem hj, List.mem_append, List.getD_eq_getElem?_getD, List.getElem?_eq_getElem hj]
  simp
  constructor
  · rintro (h | h)
    · exact .inl h
    · exact .inr h.symm
  · rintro (h | h)
    · exact .inl h
    · exact .inr h.symm
section
variable {w0 w w' : World} {p q v gk gm : Nat} {S S' : Nat → Prop} {D D' : DS} {s s' : Int} {n : Nat} {K K' : List (List Int)} {M M' : List (Nat × List Int)} {gn cn gp cp : Nat}
theorem St.commit (h : St w0 w p q v gk gm S D s n K M gn cn gp cp) (hs : s ≤ 900) (hs0 : 0 ≤ s) :
    Calls Tryz.prog 13 #[.pointer (some ⟨v, 0, none⟩)] w fun e w' => e = .returned .nilIface ∧ ∃ S' D' s', Vb w0 w' p q v gk gm S' D' s' n (nowK K M) [] ∧ s ≤ s' ∧ s' ≤ s + 1 ∧ Turn (footV S q gk gm) (footV S' q gk gm) w w' ∧ RwAt w' gn cn (nowK K M).flatten ∧ ¬ footV S' q gk gm gn := by
  refine (h.vb.commit h.few hs hs0).mono ?_
  rintro e w' ⟨he, S', D', s', hv, h1, h2, ht⟩
  have hn := h.now.same (ht.block gn h.now.lt h.nn)
  rw [vBytes_all h.rd32] at hn
  exact ⟨he, S', D', s', hv, h1, h2, ht, hn, fun hh => h.nn (ht.foot gn h.now.lt hh)⟩
theorem Vb.zeroNow (h : Vb w0 w p q v gk gm S D s n K []) : vBytes K [] 0 (32 * K.length) = K.flatten := by
  rw [vBytes_all (fun i hi => (h.view.rdSec hi).1), nowK_nil]
/-- Opened again the pages are as they were committed. -/
theorem St.reopen (h : St w0 w p q v gk gm S D s n K M gn cn gp cp) (hK : 1 ≤ K.length) :
    Calls Tryz.prog 15 #[.pointer (some ⟨p, 0, none⟩)] w fun e w' => ∃ q', e = .returned (.tuple #[.pointer (some ⟨q', 0, none⟩), .nilIface]) ∧ ∃ S' D', Live w0 w' p S' D' ∧ PgAt w' q' p s ∧ D'.secs.length = n ∧ D'.down = false ∧ keptOf D' K.length = K ∧ RwAt w' gp cp K.flatten := by
  obtain ⟨P, a0, nl, hn, hP⟩ := h.vb.neat
  refine (open_go h.vb.live (by rw [h.vb.len]; exact h.vb.cnt) hK hn.down).mono ?_
  rintro e w' ⟨u, rfl, S', hlv, ht, hyes, _⟩
  rcases open_ready hn.ready with ⟨r1, r2, r3, r4, r5⟩ | ⟨_, r2, _⟩
  · obtain ⟨q', rfl, hpg, hq', hout⟩ := hyes r1
    rw [r2] at hpg
    rw [r1, errV_zero]
    have hne := hn.opened r3
    refine ⟨q', rfl, S', _, hlv, hpg, by rw [r3.len]; exact h.vb.len, hne.down, ?_, h.kept.same (ht.block gp h.kept.lt (fun hh => h.np (.inl (.inl hh))))⟩
    apply List.ext_getElem?
    intro i
    unfold keptOf
    rw [List.getElem?_map]
    by_cases hi : i < K.length
    · rw [List.getElem?_range hi]
      simp only [Option.map_some]
      rw [rd_img hne.mem]
      have := hne.pages i hi
      rw [hP i hi, List.getD_eq_getElem?_getD (l := K), List.getElem?_eq_getElem hi] at this
      rw [List.getElem?_eq_getElem hi]
      exact congrArg some this
    · rw [List.getElem?_eq_none (l := List.range K.length) (by simp; omega), List.getElem?_eq_none (l := K) (by omega)]
      rfl
  · exact absurd h.vb.left r2
end
/-- What stands behind an act. -/
def Aft (w0 wx : World) (p q v gk gm n L : Nat) (s0 : Int) (da : Option Addr) (M1 : List (Nat × List Int)) (nv kv : Value) : Prop :=
  ∃ (S : Nat → Prop) (D : DS) (s : Int) (K : List (List Int)) (M : List (Nat × List Int)) (gn cn gp cp : Nat), nv = .slice (some ⟨gn, 0, none⟩) (32 * L) cn ∧ kv = .slice (some ⟨gp, 0, none⟩) (32 * L) cp ∧ K.length = L ∧ 0 ≤ s ∧ s ≤ s0 ∧ St w0 wx p q v gk gm S D s n K M gn cn gp cp ∧
    (∀ k, k < L → (M1.lookup k).isSome = false → vRd K M k = K.getD k []) ∧
    (∀ j, j < M1.length → ∃ gd, da = some ⟨gd, 0, none⟩ ∧ wx.cell? ⟨gd, j, none⟩ = some (.int .i64 ((dirtyL M1).getD j 0)) ∧ ¬ footV S q gk gm gd)
end Go.Proofs.YtjipnjmnkfjmhaaGreatDoor
