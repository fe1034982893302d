/-
  'append(v, y)' for rows of any struct, as a step of a region that draws its order. (Part of the proofs.)
-/
import Derived.Test.YtopblhmbjdfebaaGreatDoorImRow
import Derived.Deep.AppendLies
namespace Go.Proofs.YtopblhmbjdfebaaGreatDoor
open Go.RowKit
set_option linter.unusedVariables false

section
variable {α : Type} {enc : α → List Value} {k T : Nat}
theorem Lst.lowB {w : World} {B B' : Nat} {v : Value} {l : List α} (h : Lst enc k T w B' v l) (hB : B ≤ B') : Lst enc k T w B v l := by
  refine ⟨h.1, ?_⟩
  rcases h.2 with h0 | ⟨g, cap, cur, hv, hb, h3⟩
  · exact .inl h0
  · exact .inr ⟨g, cap, cur, hv, Nat.le_trans hB hb, h3⟩
theorem step_append_lst {P : Program} {w : World} {ops : Array Oper} {o : Oper} {a : Act} {K : Act → World → Prop} {Q : Exit → Act → World → Prop} {E : Prop} (hgd : o.guard = none) (s x : Operand) (t : TypeId)
    (ho : o.op = .call { callee := .builtin .append, args := #[s, x], argTypes := #[t, t] }) (B : Nat) (i0 : TypeInfo) (z : Value) (bytes : Nat)
    (ht : P.underlying t = some (.slice T)) (hi : P.info? T = some i0) (hz : i0.zero = some z) (hsize : i0.size = k) (hby : i0.bytes = bytes) (hzs : z.cells.size = k) (hsz : 0 < k) (hbb : bytes ≤ 100)
    (v : Value) (l : List α) (hs : a.eval s = v) (hown : Lst enc k T w B v l) (g : Nat) (y : α) (hx : a.eval x = .slice (some ⟨g, 0, none⟩) 1 1)
    (hy : w.heap[g]? = some (.cells (enc y).toArray T (0, 0))) (hk : (enc y).length = k) (h1 : ∀ u ∈ enc y, u.oneCell' = true) (hn : l.length ≤ 1000) (hB : B ≤ w.heap.size)
    (h : ∀ g' cap w', Lst enc k T w' B (.slice (some ⟨g', 0, none⟩) (l.length + 1) cap) (l ++ [y]) → Below B w w' → (∀ j, j < w.heap.size → v.ownBlock ≠ some j → w'.heap[j]? = w.heap[j]?) → K (a.put o.dst (.slice (some ⟨g', 0, none⟩) (l.length + 1) cap)) w') :
    if Region.wanted o (yielded ops a.tmps) = true then Oper.wp P o a w K Q else E := by
  refine step_append_lies w hgd s x t ho B T i0 z k bytes ht hi hz hsize hby hzs hsz v l.length (l.flatMap enc) hs hown ⟨g, 0, none⟩ 1 1 (enc y) hx (by rw [hk, Nat.one_mul]) (World.news_of_block hy) h1 (by decide) (by unfold maxLen; omega) (Nat.le_trans (Nat.mul_le_mul (show l.length + 1 ≤ 1001 by omega) hbb) (by decide)) hB w.heap.size rfl ?_
  intro g' cap w' ho' hg' _ _
  refine h g' cap w' ?_ ((Below.refl _ _).grown hg' hB (fun k hk => hown.block k hk)) (fun j hj hne => hg'.block j hj (fun e => hne e.symm))
  unfold Lst
  rw [List.length_append, List.flatMap_append]
  simpa using ho'
end
end Go.Proofs.YtopblhmbjdfebaaGreatDoor
