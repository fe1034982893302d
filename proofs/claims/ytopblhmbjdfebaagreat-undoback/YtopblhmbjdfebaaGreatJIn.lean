/-
  Joined by program: InSame; HeldTurn; OpenInts. (Parts of the proofs over the packages of the program.)
-/
import Derived.Test.YtopblhmbjdfebaaGreatJRt
import Derived.Test.YtopblhmbjdfebaaGreatJHp
import Derived.Deep.QuietTactic
import Derived.Deep.RegionHeld3
import Derived.Test.YtopblhmbjdfebaaGreatProg
import Derived.Test.YtopblhmbjdfebaaGreatBase
import Derived.OpenShut
import Derived.ChangeSlices
import Derived.SizedLaws
import Derived.Deep.SlicePairs
import Derived.Deep.Grids
/-! Contract of vaultsame.Ints, over rows of numbers. (Part of the proofs over packages reach and undo.) -/
namespace Go.Proofs.YtopblhmbjdfebaaGreat
open Go.RowKit
set_option linter.unusedVariables false

/-! ### two rows of numbers -/
theorem insame_any (a1 a2 : Option Addr) (c1 c2 : Nat) (l : List Int) (w : World) (h1 : Sls inC 1 w a1 c1 l) (h2 : Sls inC 1 w a2 c2 l) :
    Calls Tryz.prog 18 #[.slice a1 l.length c1, .slice a2 l.length c2] w fun e w' => e = .returned (.bool true) ∧ Below w.heap.size w w' := by
  have hl := h1.2.2.1
  have H1 := hide h1
  have H2 := hide h2
  clear h1 h2
  go_enter Tryz.func18, Tryz.ntmps18
  go_wp2_with fail
  go_loopw [5] (fun iv wr => ∃ (k m : Nat), k ≤ l.length ∧ iv = .int .i64 k ∧ wr = w.drewN m) (fun iv _ => l.length - (intOf iv).toNat)
  case atStart => exact ⟨0, 0, Nat.zero_le _, rfl, rfl⟩
  case round =>
    obtain ⟨k, m, hk, rfl, rfl⟩ := hrel
    by_cases hlt : k < l.length
    · have hne : l ≠ [] := by intro e; rw [e] at hlt; simp at hlt
      obtain ⟨b1, o1, rfl, hc1⟩ := (unhide H1).2.2.2 hne
      obtain ⟨b2, o2, rfl, hc2⟩ := (unhide H2).2.2.2 hne
      obtain ⟨x, hx⟩ : ∃ x, l[k]? = some x := ⟨l[k], List.getElem?_eq_getElem hlt⟩
      have q0 := Sls.num (cap := 0) hc1 hx
      have r0 := Sls.num (cap := 0) hc2 hx
      clear hc1 hc2 hne hx
      go_wp2_with fail
      go_quiet (fail)
      go_wp2
      go_roundw
      case rel => exact ⟨k + 1, m + nq, by omega, by go_num, rfl⟩
      case measure => simp [intOf]; omega
    · obtain rfl : k = l.length := by omega
      go_wp2
      go_ret
      exact ⟨rfl, below_drewN (Below.refl _ _) m⟩
end Go.Proofs.YtopblhmbjdfebaaGreat
/-! A region that draws its order: the condition on the world may be made stronger on the way. (Part of the proofs.) -/
namespace Go.Proofs.YtopblhmbjdfebaaGreat

set_option linter.unusedVariables false

theorem wpAnyH_turn {P : Program} {ops : Array Oper} {Q : Exit → Act → World → Prop} {md : Region.Mode} {S S2 : World → Prop} (hS : ∀ w, S2 w → S w) :
    ∀ (fuel : Nat) (listed : Array Bool) (a : Act) (w : World), wpAnyH P md ops Q S2 fuel listed a w → wpAnyH P md ops Q S fuel listed a w
  | 0, _, _, _, h => h
  | fuel + 1, _, _, _, h => ⟨h.1, fun i hi => wpOp_mono (fun a' w' h' => ⟨hS w' h'.1, wpAnyH_turn hS fuel _ a' w' h'.2⟩) (h.2 i hi)⟩
end Go.Proofs.YtopblhmbjdfebaaGreat
/-! Arguments as they came in: lists of numbers. (Part of the proofs over laws.) -/
namespace Go.Proofs.YtopblhmbjdfebaaGreat
open Go.RowKit Go.ChangeShapes Go.WideShapes Go.Deep
set_option linter.unusedVariables false

/-- The slice '.slice a l.length cap' of ints reads in w as l. -/
def Is (w : World) (a : Option Addr) (cap : Nat) (l : List Int) : Prop :=
  (∀ z ∈ l, -9223372036854775808 ≤ z ∧ z ≤ 9223372036854775807) ∧ l.length ≤ cap ∧ l.length ≤ 140737488351232 ∧ (l ≠ [] → ∃ b off, a = some ⟨b, off, none⟩ ∧ ∀ i, i < l.length → w.cell? ⟨b, off + i, none⟩ = some (.int .i64 (l.getD i 0)))
theorem Is.below {w w' : World} {a : Option Addr} {cap : Nat} {l : List Int} (h : Is w a cap l) (hb : Below w.heap.size w w') : Is w' a cap l := by
  obtain ⟨h1, h2, h3, h4⟩ := h
  refine ⟨h1, h2, h3, fun hne => ?_⟩
  obtain ⟨b, off, rfl, hc⟩ := h4 hne
  exact ⟨b, off, rfl, fun i hi => (hb.cell (block_lt_of_cell (hc i hi))).trans (hc i hi)⟩
theorem ints_of {H : Type} {enc : TypeId × Value → H} {W : World} {fuel : Nat} {a : Option Addr} {len cap : Nat} {d : DataW H} {p : List MemPlace}
    (hf : DataW.trod enc Tryz.prog W 0 (fun _ => true) true fuel 24 [.slice a len cap] = some (d, p)) (hw : ∀ n ∈ d.weights Tryz.prog 24, n ≤ reachBytes) : ∃ l, Is W a cap l ∧ l.length = len := by
  rcases open_ints Tryz.underlying24 Tryz.underlying3 (by kernel_rfl) hf with ⟨hcs, _⟩ | ⟨x, l, c, zs, hcs, _, hl, hm, hz, hx, hcell, hwz⟩
  · simp at hcs
    obtain ⟨rfl, rfl, rfl⟩ := hcs
    exact ⟨[], ⟨fun z hz => (by cases hz), Nat.le_refl _, by decide, fun h => absurd rfl h⟩, rfl⟩
  · simp at hcs
    obtain ⟨rfl, rfl, rfl⟩ := hcs
    simp only [Prod.mk.injEq] at hx
    simp only [if_true] at hz
    have hb : Tryz.prog.bytesOf 3 = 8 := by kernel_rfl
    have hs := hw (((lits (H := H) .i64 (zs.take len)).length + (lits (H := H) .i64 (zs.drop len)).length) * 8) (by
      rw [hx.1]
      simp [DataW.weights, Tryz.underlying24, hb])
    simp only [lits, List.length_map, List.length_take, List.length_drop, reachBytes] at hs
    have hlen : (zs.take len).length = len := by simp; omega
    refine ⟨zs.take len, ⟨fun z h => bounds_i64 (hwz z (List.mem_of_mem_take h)), by omega, by omega, fun hne => ?_⟩, hlen⟩
    have hpos : 0 < zs.length := by
      cases zs with
      | nil => simp at hne
      | cons _ _ => simp
    obtain ⟨b, off, spot⟩ := x
    have hspot : spot = none := by simpa [Addr.add] using World.cell?_spot (hcell 0 hpos)
    subst hspot
    refine ⟨b, off, rfl, fun i hi => ?_⟩
    rw [hlen] at hi
    have h1 := hcell i (by omega)
    rw [addr_add] at h1
    rw [h1]
    simp [List.getD, hi]
end Go.Proofs.YtopblhmbjdfebaaGreat
