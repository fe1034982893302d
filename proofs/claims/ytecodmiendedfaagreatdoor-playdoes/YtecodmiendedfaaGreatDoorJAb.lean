/-
  Parts of the proofs, joined by program.
-/
import Derived.Test.YtecodmiendedfaaGreatDoorJNum
import Derived.Laws.AppendOwnNone
import Derived.Test.YtecodmiendedfaaGreatDoorJIm
import Derived.Deep.AppendLies
namespace Go.Proofs.YtecodmiendedfaaGreatDoor
open Go.RowKit
set_option linter.unusedVariables false
theorem wpList_append_bs {P : Program} {w : World} {ops : Array Oper} {rest : List Oper} {o : Oper} {a : Act} {Q : Exit -> Act -> World -> Prop} (hgd : o.guard = none) (s x : Operand) (t : TypeId)
  (ho : o.op = .call { callee := .builtin .append, args := #[s, x], argTypes := #[t, t] }) (i : TypeInfo) (ht : P.underlying t = some (.slice 5)) (hi : P.info? 5 = some i) (hz : i.zero = some (.int .u8 0)) (h4 : i.size = 1) (h5 : i.bytes = 1)
  (B : Nat) (v : Value) (L : List Int) (hs : a.eval s = v) (hown : OwnV w B v L) (hB : B <= w.heap.size) (sp : Option Addr) (n cap : Nat) (l : List Int) (hx : a.eval x = .slice sp n cap) (hn : n = l.length) (hb : Bs w sp cap l) (hL : L.length + l.length <= 140737488351232)
  (h : ∀ v' w', OwnV w' B v' (L ++ l) -> Below B w w' -> wpList P ops Q rest (a.put o.dst v') w') :
  wpList P ops Q (o :: rest) a w := by
 subst hn
 have fin : ∀ v' w', w'.ownsRow B 5 1 v' (L.length + l.length) (L.map (Value.int .u8) ++ l.map (Value.int .u8)) -> w.grownBy w' v.ownBlock -> wpList P ops Q rest (a.put o.dst v') w' := fun v' w' ho' hg' => by
  refine h v' w' ?_ ((Below.refl _ _).grown hg' hB (fun k hk => hown.block k hk))
  unfold OwnV
  rw [List.length_append, List.map_append]
  exact ho'
 by_cases h0 : l = []
 ·subst h0
  cases sp with
  | none =>
   have hc : cap = 0 := hb.2.2.2.1 rfl
   subst hc
   refine wpList_append_own_none hgd s x t ho B 5 i 1 ht hi v _ _ hs hown hx ?_
   exact h v w (by rw [List.append_nil]; exact hown) (Below.refl _ _)
  | some y =>
   exact wpList_append_own w hgd s x t ho B 5 i (.int .u8 0) 1 1 ht hi hz h4 h5 rfl (by decide) v _ _ hs hown y 0 cap [] hx (by simp) (fun j u hj => by simp at hj) (fun u hu => by cases hu) (by unfold maxLen; simp at hL; omega) (by simp at hL; omega) hB (fun v' w' ho' hg' _ => fin v' w' ho' hg')
 ·obtain ⟨b, off, rfl, hc⟩ := hb.2.2.2.2 h0
  exact wpList_append_own w hgd s x t ho B 5 i (.int .u8 0) 1 1 ht hi hz h4 h5 rfl (by decide) v _ _ hs hown ⟨b, off, none⟩ l.length cap (l.map (Value.int .u8)) hx (by simp) (news_bs hb) (oneCell_u8 l) (by unfold maxLen; omega) (by omega) hB (fun v' w' ho' hg' _ => fin v' w' ho' hg')
section
variable {α : Type} {enc : α -> List Value} {k T : Nat}
theorem Lst.lowB {w : World} {B B' : Nat} {v : Value} {l : List α} (h : Lst enc k T w B' v l) (hB : B <= B') : Lst enc k T w B v l := by
 refine ⟨h.1, ?_⟩
 rcases h.2 with h0 | ⟨g, cap, cur, hv, hb, h3⟩
 ·exact .inl h0
 ·exact .inr ⟨g, cap, cur, hv, Nat.le_trans hB hb, h3⟩
theorem step_append_lst {P : Program} {w : World} {ops : Array Oper} {o : Oper} {a : Act} {K : Act -> World -> Prop} {Q : Exit -> Act -> World -> Prop} {E : Prop} (hgd : o.guard = none) (s x : Operand) (t : TypeId)
  (ho : o.op = .call { callee := .builtin .append, args := #[s, x], argTypes := #[t, t] }) (B : Nat) (i0 : TypeInfo) (z : Value) (bytes : Nat)
  (ht : P.underlying t = some (.slice T)) (hi : P.info? T = some i0) (hz : i0.zero = some z) (hsize : i0.size = k) (hby : i0.bytes = bytes) (hzs : z.cells.size = k) (hsz : 0 < k) (hbb : bytes <= 100)
  (v : Value) (l : List α) (hs : a.eval s = v) (hown : Lst enc k T w B v l) (g : Nat) (y : α) (hx : a.eval x = .slice (some ⟨g, 0, none⟩) 1 1)
  (hy : w.heap[g]? = some (.cells (enc y).toArray T (0, 0))) (hk : (enc y).length = k) (h1 : ∀ u ∈ enc y, u.oneCell' = true) (hn : l.length <= 1000) (hB : B <= w.heap.size)
  (h : ∀ g' cap w', Lst enc k T w' B (.slice (some ⟨g', 0, none⟩) (l.length + 1) cap) (l ++ [y]) -> Below B w w' -> (∀ j, j < w.heap.size -> v.ownBlock ≠ some j -> w'.heap[j]? = w.heap[j]?) -> K (a.put o.dst (.slice (some ⟨g', 0, none⟩) (l.length + 1) cap)) w') :
  if Region.wanted o (yielded ops a.tmps) = true then Oper.wp P o a w K Q else E := by
 refine step_append_lies w hgd s x t ho B T i0 z k bytes ht hi hz hsize hby hzs hsz v l.length (l.flatMap enc) hs hown ⟨g, 0, none⟩ 1 1 (enc y) hx (by rw [hk, Nat.one_mul]) (World.news_of_block hy) h1 (by decide) (by unfold maxLen; omega) (Nat.le_trans (Nat.mul_le_mul (show l.length + 1 <= 1001 by omega) hbb) (by decide)) hB w.heap.size rfl ?_
 intro g' cap w' ho' hg' _ _
 refine h g' cap w' ?_ ((Below.refl _ _).grown hg' hB (fun k hk => hown.block k hk)) (fun j hj hne => hg'.block j hj (fun e => hne e.symm))
 unfold Lst
 rw [List.length_append, List.flatMap_append]
 simpa using ho'
end
end Go.Proofs.YtecodmiendedfaaGreatDoor
