/-
  How a call that answers bytes and something ends; 'copy' into a part of a row. (Part of the proofs over packages num and stamp.)
-/
import Derived.Test.YtllpeknpplpgeaaGreatDoorLaws
namespace Go.Proofs.YtllpeknpplpgeaaGreatDoor
open Go.RowKit
set_option linter.unusedVariables false

theorem bs_nil (w : World) : Bs w none 0 [] := ⟨fun z hz => (by cases hz), Nat.le_refl _, by decide, fun _ => rfl, fun h => absurd rfl h⟩

/-- How a call that answers bytes and something ends. -/
def Ends (w : World) (L : List Int) (x : Value) (e : Ending) (w' : World) : Prop :=
  ∃ a cap, e = .returned (.tuple #[.slice a L.length cap, x]) ∧ Bs w' a cap L ∧ Below w.heap.size w w'

theorem ends_nil {w : World} {x : Value} {e : Ending} {w' : World} (he : e = .returned (.tuple #[.slice none 0 0, x])) (hw : w = w') : Ends w [] x e w' :=
  ⟨none, 0, he, bs_nil _, by rw [hw]; exact Below.refl _ _⟩

/-- 'copy(out[off:..], b)': out a row of its own in which b has room. -/
theorem run_copy_at {P : Program} (w : World) (dT sT ty : TypeId) (hu : P.underlying dT = some (.slice 5)) (hsz : (P.info? 5).map (·.size) = some 1)
    (g off dLen dCap : Nat) (dp sp : Option Addr) (sCap : Nat) (z l : List Int) (hl : l.length ≤ dLen) (hd : l ≠ [] → dp = some ⟨g, off, none⟩) (hfit : off + l.length ≤ z.length) (hg : Blk w g z) (hb : Bs w sp sCap l) :
    (Builtin.copy_ #[dT, sT] ty #[.slice dp dLen dCap, .slice sp l.length sCap]).run P w = .ok (.int .i64 l.length) (rowW w g (splice z off l)) := by
  have hg' : w.heap[g]? = some (.cells (z.map (Value.int .u8)).toArray 5 (0, 0)) := hg
  by_cases h0 : l = []
  · subst h0
    have hrun := run_copy_none (P := P) w dT sT ty 5 dp sp dLen dCap 0 sCap hu hsz (by simp)
    have hself : rowW w g (splice z off []) = w := by
      have : splice z off [] = z := by simp [splice]
      rw [this]
      exact setRow_self w g _ 5 (0, 0) hg'
    rw [hself]
    simpa [goInt] using hrun
  · obtain rfl := hd h0
    obtain ⟨b, o2, rfl, hc⟩ := hb.2.2.2.2 h0
    have hrun := run_copy_row (P := P) w dT sT ty 5 g off dLen dCap ⟨b, o2, none⟩ l.length sCap _ 5 (l.map (Value.int .u8)) hu hsz hg' (by simp [Nat.min_eq_left hl]) ?_ (by simpa using hfit) (oneCell_u8 l)
    · simpa [goInt, rowW, splice, List.map_take, List.map_drop] using hrun
    · intro j v hj
      have hjl : j < l.length := by
        rcases Nat.lt_or_ge j l.length with h1 | h1
        · exact h1
        · rw [List.getElem?_eq_none (by simpa using h1)] at hj; cases hj
      have := hc j hjl
      simp [hjl] at hj
      subst hj
      rw [addr_add]
      simpa [List.getD, hjl] using this

theorem byt_splice {z l : List Int} {off : Nat} (hz : Byt z) (hl : Byt l) : Byt (splice z off l) := by
  intro c hc
  unfold splice at hc
  rcases List.mem_append.1 hc with h | h
  · exact hz c (List.mem_of_mem_take h)
  · rcases List.mem_append.1 h with h | h
    · exact hl c h
    · exact hz c (List.mem_of_mem_drop h)

/-- 'out[c:]' of a row of 32 bytes. -/
theorem cut_own {P : Program} {t : TypeId} (hu : P.underlying t = some (.slice 5)) (hsz : (P.info? 5).map (·.size) = some 1) (g c d : Nat) (h : c + d = 32) :
    ∃ dp, (∀ w', (Instr.slice t (.slice (some ⟨g, 0, none⟩) 32 32) (some (.int .i64 c)) none none).run P w' = .ok (.slice dp d d) w') ∧ (0 < d → dp = some ⟨g, c, none⟩) := by
  have he := elem_u8 hu
  refine ⟨if 32 = c then some ⟨g, 0, none⟩ else some ⟨g, c, none⟩, fun w' => ?_, fun hd => by rw [if_neg (by omega)]⟩
  rw [run_slice_l (P := P) (w := w') t (some ⟨g, 0, none⟩) 32 32 (by rw [he]; exact hu) .i64 c (by omega) (by omega), he, run_size_u8 w' hsz]
  have hd : d = 32 - c := by omega
  subst hd
  simp [Result.andThen, sliced, Addr.add]
  split <;> simp <;> omega

/-- 'copy' as one step of a region that draws its order, its run known. -/
theorem step_copy_run {P : Program} {ops : Array Oper} {o : Oper} {a : Act} {w : World} {K : Act → World → Prop} {Q : Exit → Act → World → Prop} {E : Prop} (hgd : o.guard = none) (d s : Operand) (dT sT : TypeId)
    (ho : o.op = .call { callee := .builtin .copy, args := #[d, s], argTypes := #[dT, sT] }) (v1 v2 : Value) (hd : a.eval d = v1) (hs : a.eval s = v2) (v : Value) (w' : World)
    (hrun : (Builtin.copy_ #[dT, sT] o.type #[v1, v2]).run P w = .ok v w') (h : K (a.put o.dst v) w') :
    if Region.wanted o (yielded ops a.tmps) = true then Oper.wp P o a w K Q else E := by
  have hw : Region.wanted o (yielded ops a.tmps) = true := by simp [Region.wanted, hgd]
  rw [if_pos hw]
  unfold Oper.wp
  simp [execOp, ho, resolve, invoke, builtin, hd, hs, hrun, Result.andThen]
  exact h
end Go.Proofs.YtllpeknpplpgeaaGreatDoor
