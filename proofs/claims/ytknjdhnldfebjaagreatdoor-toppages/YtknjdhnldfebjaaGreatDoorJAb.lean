/-
  'append(v, l...)' of bytes, for every l. (Part of the proofs.)
-/
import Derived.Test.YtknjdhnldfebjaaGreatDoorJNum
import Derived.Laws.AppendOwnNone
namespace Go.Proofs.YtknjdhnldfebjaaGreatDoor
open Go.RowKit
set_option linter.unusedVariables false
theorem wpList_append_bs {P : Program} {w : World} {ops : Array Oper} {rest : List Oper} {o : Oper} {a : Act} {Q : Exit → Act → World → Prop} (hgd : o.guard = none) (s x : Operand) (t : TypeId)
  (ho : o.op = .call { callee := .builtin .append, args := #[s, x], argTypes := #[t, t] }) (i : TypeInfo) (ht : P.underlying t = some (.slice 5)) (hi : P.info? 5 = some i) (hz : i.zero = some (.int .u8 0)) (h4 : i.size = 1) (h5 : i.bytes = 1)
  (B : Nat) (v : Value) (L : List Int) (hs : a.eval s = v) (hown : OwnV w B v L) (hB : B ≤ w.heap.size) (sp : Option Addr) (n cap : Nat) (l : List Int) (hx : a.eval x = .slice sp n cap) (hn : n = l.length) (hb : Bs w sp cap l) (hL : L.length + l.length ≤ 140737488351232)
  (h : ∀ v' w', OwnV w' B v' (L ++ l) → Below B w w' → wpList P ops Q rest (a.put o.dst v') w') :
  wpList P ops Q (o :: rest) a w := by
 subst hn
 have fin : ∀ v' w', w'.ownsRow B 5 1 v' (L.length + l.length) (L.map (Value.int .u8) ++ l.map (Value.int .u8)) → w.grownBy w' v.ownBlock → wpList P ops Q rest (a.put o.dst v') w' := fun v' w' ho' hg' => by
  refine h v' w' ?_ ((Below.refl _ _).grown hg' hB (fun k hk => hown.block k hk))
  unfold OwnV
  rw [List.length_append, List.map_append]
  exact ho'
 by_cases h0 : l = []
 ·subst h0
  cases sp with
  | none =>
   have hc : cap = 0 := hb.2.2.2.1 rfl
   subst hc
   refine wpList_append_own_none hgd s x t ho B 5 i 1 ht hi v _ _ hs hown hx ?_
   exact h v w (by rw [List.append_nil]; exact hown) (Below.refl _ _)
  | some y =>
   exact wpList_append_own w hgd s x t ho B 5 i (.int .u8 0) 1 1 ht hi hz h4 h5 rfl (by decide) v _ _ hs hown y 0 cap [] hx (by simp) (fun j u hj => by simp at hj) (fun u hu => by cases hu) (by unfold maxLen; simp at hL; omega) (by simp at hL; omega) hB (fun v' w' ho' hg' _ => fin v' w' ho' hg')
 ·obtain ⟨b, off, rfl, hc⟩ := hb.2.2.2.2 h0
  exact wpList_append_own w hgd s x t ho B 5 i (.int .u8 0) 1 1 ht hi hz h4 h5 rfl (by decide) v _ _ hs hown ⟨b, off, none⟩ l.length cap (l.map (Value.int .u8)) hx (by simp) (news_bs hb) (oneCell_u8 l) (by unfold maxLen; omega) (by omega) hB (fun v' w' ho' hg' _ => fin v' w' ho' hg')
end Go.Proofs.YtknjdhnldfebjaaGreatDoor
