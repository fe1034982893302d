/-
  Parts of the proofs, joined by program.
-/
import Derived.Test.YtifmemombecoaaaGreatDoorJCh
import Derived.Test.YtifmemombecoaaaGreatDoorJIl
import Derived.Test.YtifmemombecoaaaGreatDoorJCi
import Derived.Test.YtifmemombecoaaaGreatDoorJExa
import Derived.Shelf.SlMaps.Equal
import Derived.Shelf.SlGeneric
import Derived.Ground.SlmeProg
import Derived.Test.YtifmemombecoaaaGreatDoorProg
import Derived.Test.YtifmemombecoaaaGreatDoorJIn
namespace Go.Proofs.YtifmemombecoaaaGreatDoor
open Go.RowKit
theorem right_ents {b : List Int} (hf : faults b = []) : ∀ e ∈ entsK b 40, InL b.length e := by
 intro e he
 obtain ⟨j, hj, ht, rfl⟩ := mem_entsK.1 he
 have hn : hFault b ((j : Int) + 1) = [] := Classical.byContradiction fun h => by
  obtain ⟨f, hm⟩ := List.exists_mem_of_ne_nil _ h
  have := faults_hand (b := b) (h := (j : Int) + 1) (by omega) (by omega) hm
  rw [hf] at this
  cases this
 rcases hFault_nil.1 hn with h | h
 ·obtain ⟨_, hp, _⟩ := wh_one.1 h
  obtain ⟨_, _, h3⟩ := putE_zero.1 hp
  unfold InL
  omega
 ·exact absurd h.1 ht
end Go.Proofs.YtifmemombecoaaaGreatDoor
namespace Go.Proofs.YtifmemombecoaaaGreatDoor
open Go.RowKit Go.Sort
set_option linter.unusedVariables false
theorem part_w (a : Option Addr) (cap N : Nat) (x n : Nat) (a1 : Option Addr) (hN : N <= 140737488351232) (hx : x + n <= N) (hs : ∀ w', (Instr.slice 22 (.slice a N cap) (some (.int .i64 (x : Int))) (some (.int .i64 ((x : Int) + n))) none).run Tryz.prog w' = .ok (.slice a1 n (cap - x)) w') (w : World) :
  Calls Tryz.prog 95 #[.slice a N cap, .agg #[.int .i64 (x : Int), .int .i64 (n : Int)]] w fun e w' => e = .returned (.slice a1 n (cap - x)) /\ ∃ q os, w' = grow (w.drewN q) os := by
 go_enter Tryz.func95, Tryz.ntmps95
 go_wp2
 go_ret
 exact ⟨rfl, 0, _, by rw [alloc_eq_grow]; rfl⟩
theorem grow_bel {w W : World} {q : Nat} {os : Array Obj} (h : W = grow (w.drewN q) os) : Below w.heap.size w W := by rw [h]; exact grow_below
theorem eqAll_len {α β : Type} {f : α -> β -> Bool} : ∀ {l : List α} {m : List β}, l.length ≠ m.length -> eqAll f l m = false
 | [], [], h => absurd rfl h
 | [], y :: m, _ => rfl
 | x :: l, [], _ => rfl
 | x :: l, y :: m, h => by
  unfold eqAll
  rw [eqAll_len (fun e => h (by simp [e])), Bool.and_false]
theorem eqAll_at {α β : Type} {f : α -> β -> Bool} {l : List α} {m : List β} {j : Nat} {x : α} {y : β} (hx : l[j]? = some x) (hy : m[j]? = some y) : eqAll f (l.drop j) (m.drop j) = (f x y && eqAll f (l.drop (j + 1)) (m.drop (j + 1))) := by
 obtain ⟨h1, rfl⟩ := List.getElem?_eq_some_iff.1 hx
 obtain ⟨h2, rfl⟩ := List.getElem?_eq_some_iff.1 hy
 rw [List.drop_eq_getElem_cons h1, List.drop_eq_getElem_cons h2]
 rfl
end Go.Proofs.YtifmemombecoaaaGreatDoor
namespace Go.Proofs.YtifmemombecoaaaGreatDoor
open Go.RowKit Go.Shelf
set_option linter.unusedVariables false
end Go.Proofs.YtifmemombecoaaaGreatDoor
namespace Go.Proofs.YtifmemombecoaaaGreatDoor
open Go.RowKit Go.MapKept Go.ChangeMaps Go.Shelf
set_option linter.unusedVariables false
def keyD (r : (ByteArray × Int)) : Lit × DataW Unit := (.string r.1.data.toList, .lit (.int .i64 r.2))
def LdM (w : World) (m : Nat) (M : List (ByteArray × Int)) : Prop :=
 ∃ es : List (Lit × DataW Unit), w.ownsMap Tryz.prog 9 (plainElem Tryz.prog 3) m M.length (.map es) /\ es.length = M.length /\ ∀ p, p ∈ es ↔ ∃ r ∈ M, p = keyD r
theorem LdM.made (w : World) : LdM (w.alloc (.map #[] 0)) w.heap.size [] := ⟨[], World.ownsMap_made w _ _ _, rfl, fun p => by simp⟩
theorem LdM.lt {w : World} {m : Nat} {M : List (ByteArray × Int)} (h : LdM w m M) : m < w.heap.size := by
 obtain ⟨Dm, h1, _⟩ := h
 exact h1.lt
theorem LdM.same {w w' : World} {m : Nat} {M : List (ByteArray × Int)} (h : LdM w m M) (hs : w'.heap[m]? = w.heap[m]?) : LdM w' m M := by
 obtain ⟨Dm, ⟨es, clock, hb, r⟩, h2⟩ := h
 exact ⟨Dm, ⟨es, clock, hs.trans hb, r⟩, h2⟩
theorem LdM.below {w w' : World} {m : Nat} {M : List (ByteArray × Int)} (h : LdM w m M) (hb : Below w.heap.size w w') : LdM w' m M := h.same (hb.block m h.lt)
theorem LdM.store {w : World} {m : Nat} {M : List (ByteArray × Int)} (h : LdM w m M) (r : (ByteArray × Int)) (hs : r.1.size <= maxLen) (hn : M.length <= 300) (hi : -9223372036854775808 <= r.2 /\ r.2 <= 9223372036854775807) (hnew : ∀ q ∈ M, q.1 ≠ r.1) :
  ∃ w', (Instr.mapUpdate 75 (.map (some m)) (.string r.1) (.int .i64 r.2)).run Tryz.prog w = .ok () w' /\ LdM w' m (M ++ [r]) /\ w.mapTurned w' m := by
 obtain ⟨es, h1, hlen, h2⟩ := h
 have hkey := WideMaps.keyOf_string_mk (P := Tryz.prog) Tryz.underlying9 hs
 obtain ⟨w', hrun, hown', ht⟩ := h1.store (Maps.string_keyed Tryz.underlying9) Tryz.underlying75 (by unfold maxLen; omega) hkey (plainElem_int Tryz.underlying3 (a := r.2) (WalkArith.wf_i64 hi))
 have hfil : es.filter (fun p => !p.1.sameKey (.string r.1.data.toList)) = es := by
  rw [List.filter_eq_self]
  intro p hp
  obtain ⟨q, hq, rfl⟩ := (h2 p).1 hp
  cases hk : (keyD q).1.sameKey (.string r.1.data.toList) with
  | false => rfl
  | true =>
   have e : (Lit.string q.1.data.toList) = .string r.1.data.toList := WideAt.sameKey_eq hk
   simp only [Lit.string.injEq] at e
   exact absurd (str_inj e) (hnew q hq)
 have hput : (DataW.map es).put (.string r.1.data.toList) (.lit (.int .i64 r.2)) = .map (DataW.insert (keyD r) es) := by
  show DataW.map (DataW.insert _ (es.filter _)) = _
  rw [hfil]
  rfl
 rw [hput] at hown'
 refine ⟨w', hrun, ⟨_, by rw [List.length_append]; exact hown', ?_, fun p => ?_⟩, ht⟩
 ·have : ∀ (l : List (Lit × DataW Unit)) (x : Lit × DataW Unit), (DataW.insert x l).length = l.length + 1 := by
   intro l
   induction l with
   | nil => intro x; rfl
   | cons y l ih =>
    intro x
    unfold DataW.insert
    split
    ·rfl
    ·rw [List.length_cons, ih]; rfl
  rw [this, hlen, List.length_append]; rfl
 ·rw [mem_insert_iff, h2 p]
  constructor
  ·rintro (rfl | ⟨q, hq, rfl⟩)
   ·exact ⟨r, by simp, rfl⟩
   ·exact ⟨q, by simp [hq], rfl⟩
  ·rintro ⟨q, hq, rfl⟩
   rcases List.mem_append.1 hq with hq | hq
   ·exact .inr ⟨q, hq, rfl⟩
   ·rw [List.mem_singleton.1 hq]; exact .inl rfl
def eqI : DataW Unit -> DataW Unit -> Bool
 | .lit (.int _ a), .lit (.int _ b) => a == b
 | _, _ => false
theorem roots_size {L : List Int} : ∀ {k : Nat} {r : (ByteArray × Int)}, r ∈ rootsK L k -> r.1.size <= 8
 | 0, r, h => by simp [rootsK] at h
 | k + 1, r, h => by
  unfold rootsK at h
  rcases List.mem_append.1 h with h | h
  ·exact roots_size h
  ·split at h
   ·rw [List.mem_singleton.1 h]
    have := readOut_size ((rowAt L k).take 8)
    rw [List.length_take] at this
    show (readOut ((rowAt L k).take 8)).1.size <= 8
    omega
   ·cases h
theorem apart_new {R : List (ByteArray × Int)} (h : Apart R) {k : Nat} {r : (ByteArray × Int)} (hr : R[k]? = some r) : ∀ q ∈ R.take k, q.1 ≠ r.1 := by
 intro q hq e
 have hn := h.nodup
 obtain ⟨hk, rfl⟩ := List.getElem?_eq_some_iff.1 hr
 rw [<- List.take_append_drop k R, List.map_append, List.nodup_append] at hn
 refine hn.2.2 q.1 (List.mem_map.2 ⟨q, hq, rfl⟩) R[k].1 (List.mem_map.2 ⟨R[k], ?_, rfl⟩) e
 exact List.mem_of_getElem? (i := 0) (by rw [List.getElem?_drop]; simp [hk])
end Go.Proofs.YtifmemombecoaaaGreatDoor
