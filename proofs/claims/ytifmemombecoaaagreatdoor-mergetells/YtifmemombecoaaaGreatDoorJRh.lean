/-
  Parts of the proofs, joined by program.
-/
import Derived.Test.YtifmemombecoaaaGreatDoorJHq
import Derived.Test.YtifmemombecoaaaGreatDoorJInc
import Derived.Test.YtifmemombecoaaaGreatDoorJWy
import Derived.Test.YtifmemombecoaaaGreatDoorJRt
import Derived.Deep.QuietTactic
import Derived.RangeFuncNested
import Derived.RangeFuncBound
import Derived.RangeFuncCalls
import Derived.RangeFuncLeaves
import Derived.RangeFuncBox
import Derived.Shelf.Abstract
import Derived.Shelf.RegionOpen
import Derived.WalkKit
import Derived.OwnWalkIn
import Derived.TacticsInMore
import Derived.LoopNIn
import Derived.LoopIn
import Derived.Maps.AppendAt
import Derived.Test.YtifmemombecoaaaGreatDoorJVws
import Derived.Test.YtifmemombecoaaaGreatDoorJTn
import Derived.Maps.OwnSet
import Derived.Test.YtifmemombecoaaaGreatDoorJAs
namespace Go.Proofs.YtifmemombecoaaaGreatDoor
open Go.RowKit
set_option linter.unusedVariables false
theorem OwnV.bsAt {w : World} {B : Nat} {a : Option Addr} {c : Nat} {l : List Int} (h : OwnV w B (.slice a l.length c) l) (hb : Byt l) (hl : l.length <= 140737488351232) : Bs w a c l := by
 obtain ⟨a2, c2, e2, hb2⟩ := h.bs hb hl
 simp only [Value.slice.injEq, true_and] at e2
 obtain ⟨rfl, rfl⟩ := e2
 exact hb2
def nmL (L : List Int) (h : Int) : List Int := if chkE L h = 0 then (objOf L h).2.take (objOf L h).1.toNat else []
theorem nmL_len (L : List Int) (h : Int) (hf : Fine L) : (nmL L h).length <= 15 := by
 unfold nmL
 by_cases hc : chkE L h = 0
 ·rw [if_pos hc, List.length_take]
  obtain ⟨q1, q2, q3⟩ := chkE_zero.1 hc
  have q4 := hndB_iff.1 q2
  have := hf.ent q4.1 q4.2 q3
  unfold objOf objE
  rw [if_neg q3]
  dsimp only
  omega
 ·rw [if_neg hc]; simp
def rfL (L : List Int) (h : Int) : List Int := if chkE L h = 0 then refsL L h else []
theorem refK_one (L l : List Int) : refK L l l.length = l.foldl (refStep L) [] := by unfold refK; rw [List.take_length]
theorem rfL_fold (L : List Int) (h : Int) : rfL L h = (nmL L h).foldl (refStep L) [] := by
 unfold rfL nmL
 by_cases hc : chkE L h = 0
 ·rw [if_pos hc, if_pos hc]; rfl
 ·rw [if_neg hc, if_neg hc]; rfl
end Go.Proofs.YtifmemombecoaaaGreatDoor
namespace Go.Proofs.YtifmemombecoaaaGreatDoor
open Go.RowKit Go.Sort Go.Shelf
set_option linter.unusedVariables false
theorem flat_inC (l : List Int) : l.flatMap inC = l.map (Value.int .i64) := by
 induction l with
 | nil => rfl
 | cons x l ih => rw [List.flatMap_cons, ih]; rfl
theorem take_snocI {l : List Int} {k : Nat} {x : Int} (h : l[k]? = some x) : l.take (k + 1) = l.take k ++ [x] := by
 rw [List.take_add_one, h]
 rfl
theorem sortRow_any (v : Value) (B : Nat) (l : List Int) (w : World) (h : Lst inC 1 3 w B v l) (hl : l.length <= 100000) :
  Calls Tryz.prog 103 #[v] w fun e w' => e = .returned (.tuple #[]) /\ Lst inC 1 3 w' B v (srt l) /\ Turn (fun k => v.ownBlock = some k) (fun k => v.ownBlock = some k) w w' := by
 have hf := h
 unfold Lst at hf ⊢
 rw [flat_inC] at hf
 rcases hf.2 with ⟨rfl, hz⟩ | ⟨gb, c, cur, rfl, hbase, hgb, r1, r2, r3, r4⟩
 ·obtain rfl := List.eq_nil_of_length_eq_zero hz
  refine (AnyM.slices_Sort_int_none sortA none 0 w).mono ?_
  rintro e w' ⟨rfl, rfl⟩
  exact ⟨rfl, by rw [show srt [] = [] by unfold srt; simp]; exact h, Turn.refl _ _⟩
 ·have hH : Holds encZ w gb 0 l.toArray := holds_of_block_i hgb (by simpa using r4)
  have hgl : gb < w.heap.size := (Array.getElem?_eq_some_iff.1 hgb).1
  refine (AnyM.slices_Sort_int sortA gb 0 c l w hH hgl (by omega)).mono ?_
  rintro e w' ⟨rfl, nn, os, rfl⟩
  refine ⟨rfl, ?_, Turn.grown (grownBy_sorted_i _) (fun k hk => by simpa [Value.ownBlock] using hk)⟩
  rw [flat_inC, srt_len]
  exact ownsRow_sorted_i (by simp) hbase hgb r1 r2 r3
end Go.Proofs.YtifmemombecoaaaGreatDoor
namespace Go.Proofs.YtifmemombecoaaaGreatDoor
open Go.RowKit Go.MapKept Go.ChangeMaps Go.Sort Go.Shelf
open Go.Maps (Keyed)
set_option linter.unusedVariables false
def LdI (w : World) (gm : Nat) (P : List (List Int)) : Prop :=
 ∃ D : DataW Unit, w.ownsMap Tryz.prog 3 (plainElem Tryz.prog 3) gm P.length D /\ (∀ z : Int, Maps.has D (.int .i64 z) = metB P z) /\ (P.map hd).Nodup /\ ∀ p ∈ P, ∀ zd, D.atKey (.int .i64 (hd p)) zd = .lit (.int .i64 (ld p))
theorem zero_intL (w : World) : (zeroValue 3).run Tryz.prog w = .ok (.int .i64 0) w := by
 obtain ⟨i0, hi0, hz0, hz1, hz2⟩ := info_parts info_inS
 simp [zeroValue, typeInfo, hi0, hz0]
section
variable {w w' : World} {gm : Nat} {P : List (List Int)}
theorem LdI.made (w : World) : LdI (w.alloc (.map #[] 0)) w.heap.size [] := ⟨.map [], World.ownsMap_made w _ _ _, fun z => rfl, by simp, fun p hp => by cases hp⟩
theorem LdI.lt (h : LdI w gm P) : gm < w.heap.size := by
 obtain ⟨D, h1, _⟩ := h
 exact h1.lt
theorem LdI.same (h : LdI w gm P) (hs : w'.heap[gm]? = w.heap[gm]?) : LdI w' gm P := by
 obtain ⟨D, ⟨es, clock, hb, r⟩, h2⟩ := h
 exact ⟨D, ⟨es, clock, hs.trans hb, r⟩, h2⟩
theorem LdI.below (h : LdI w gm P) (hb : Below w.heap.size w w') : LdI w' gm P := h.same (hb.block gm h.lt)
theorem LdI.isMap (h : LdI w gm P) : ∃ es clock, w.heap[gm]? = some (.map es clock) := by
 obtain ⟨D, ⟨es, clock, hb, _⟩, _⟩ := h
 exact ⟨es, clock, hb⟩
theorem LdI.apart (h : LdI w gm P) {a : Option Addr} {c : Nat} {l : List Int} (hs : Sls inC 1 w a c l) : ∀ b off, a = some ⟨b, off, none⟩ -> l ≠ [] -> b ≠ gm := by
 rintro b off rfl hne rfl
 obtain ⟨es, clock, hm⟩ := h.isMap
 obtain ⟨b', off', e, hc⟩ := hs.2.2.2 hne
 simp only [Option.some.injEq, Addr.mk.injEq, and_true] at e
 obtain ⟨rfl, rfl⟩ := e
 cases l with
 | nil => exact hne rfl
 | cons x r =>
  have q := hc 0 x rfl 0 _ rfl
  unfold World.cell? at q
  rw [hm] at q
  simp at q
theorem LdI.look (h : LdI w gm P) {z : Int} (hz : -9223372036854775808 <= z /\ z <= 9223372036854775807) :
  ∃ v, (Instr.lookup 121 (.map (some gm)) (.int .i64 z) true).run Tryz.prog w = .ok (.tuple #[.int .i64 v, .bool (metB P z)]) w := by
 obtain ⟨D, h1, h2, _⟩ := h
 have hkey := Maps.keyOf_int_mk (P := Tryz.prog) Tryz.underlying3 (WalkArith.wf_i64 hz)
 obtain ⟨v, ps, hrun, hv⟩ := h1.look_ok (Maps.int_keyed Tryz.underlying3) Tryz.underlying121 (zero_intL w) (plainElem_int Tryz.underlying3 (a := 0) (by decide)) hkey
 obtain ⟨a, rfl, _⟩ := plainElem_int_inv Tryz.underlying3 hv
 exact ⟨a, by rw [hrun, h2 z]⟩
theorem LdI.get (h : LdI w gm P) {p : List Int} (hp : p ∈ P) (hz : -9223372036854775808 <= hd p /\ hd p <= 9223372036854775807) :
  (Instr.lookup 121 (.map (some gm)) (.int .i64 (hd p)) false).run Tryz.prog w = .ok (.int .i64 (ld p)) w := by
 obtain ⟨D, h1, h2, _, h3⟩ := h
 have hkey := Maps.keyOf_int_mk (P := Tryz.prog) Tryz.underlying3 (WalkArith.wf_i64 hz)
 obtain ⟨c, hrun, hat, _⟩ := h1.lookup_int (Maps.int_keyed Tryz.underlying3) Tryz.underlying121 Tryz.underlying3 (zero_intL w) hkey
 rw [h3 p hp] at hat
 simp only [DataW.lit.injEq, Lit.int.injEq, true_and] at hat
 rw [hrun, hat]
theorem LdI.store (h : LdI w gm P) (hn : P.length <= 1000) {q : List Int} {x : Int} (hx : -9223372036854775808 <= x /\ x <= 9223372036854775807) (hq : -9223372036854775808 <= hd q /\ hd q <= 9223372036854775807) (hnew : metB P x = false) :
  ∃ w', (Instr.mapUpdate 121 (.map (some gm)) (.int .i64 x) (.int .i64 (hd q))).run Tryz.prog w = .ok () w' /\ LdI w' gm (P ++ [q ++ [x]]) /\ w.mapTurned w' gm := by
 obtain ⟨D, h1, h2, h3, h4⟩ := h
 have hK := Maps.int_keyed (P := Tryz.prog) Tryz.underlying3
 have hkey := Maps.keyOf_int_mk (P := Tryz.prog) Tryz.underlying3 (WalkArith.wf_i64 hx)
 obtain ⟨w', hrun, hown', ht⟩ := h1.store hK Tryz.underlying121 (by unfold maxLen; omega) hkey (plainElem_int Tryz.underlying3 (a := hd q) (WalkArith.wf_i64 hq))
 have hlit : WideAt.IsKeyLit (.int .i64 x) := hK.key hkey
 have hne : ∀ z, z ≠ x -> Lit.int .i64 z ≠ Lit.int .i64 x := fun z hz e => by simp only [Lit.int.injEq, true_and] at e; exact hz e
 refine ⟨w', hrun, ⟨_, by rw [List.length_append]; exact hown', fun z => ?_, ?_, fun p hp zd => ?_⟩, ht⟩
 ·rw [metB_snoc, hd_snoc]
  by_cases e : z = x
  ·subst e
   rw [Maps.has_put_same h1.isMap hlit]
   simp
  ·rw [Maps.has_put_other (hne z e), h2 z, beq_eq_false_iff_ne.2 (fun h => e h.symm), Bool.or_false]
 ·rw [List.map_append, List.nodup_append]
  refine ⟨h3, by simp, fun u hu v hv => ?_⟩
  obtain ⟨p, hp, rfl⟩ := List.mem_map.1 hu
  simp [hd_snoc] at hv
  rw [hv]
  exact metB_no hnew p hp
 ·rcases List.mem_append.1 hp with hp | hp
  ·have := metB_no hnew p hp
   rw [Maps.atKey_put_other (hne _ this)]
   exact h4 p hp zd
  ·rw [List.mem_singleton.1 hp, hd_snoc, ld_snoc]
   exact Maps.atKey_put_same h1.isMap hlit _ _
theorem LdI.keys {D : DataW Unit} (h1 : w.ownsMap Tryz.prog 3 (plainElem Tryz.prog 3) gm P.length D) (h2 : ∀ z : Int, Maps.has D (.int .i64 z) = metB P z) (h3 : (P.map hd).Nodup) : (P.map hd).Perm (intKeys D) := by
 refine CollectedI.perm (left := fun _ => false) ⟨h3, fun z => ?_⟩ h1 (Maps.int_keyed Tryz.underlying3) Tryz.underlying3 (fun _ => rfl)
 rw [h2, metB_iff, List.mem_map]
 constructor
 ·rintro ⟨p, hp, e⟩; exact ⟨⟨p, hp, e⟩, rfl⟩
 ·rintro ⟨⟨p, hp, e⟩, _⟩; exact ⟨p, hp, e⟩
end
end Go.Proofs.YtifmemombecoaaaGreatDoor
namespace Go.Proofs.YtifmemombecoaaaGreatDoor
open Go.RowKit Go.MapKept Go.ChangeMaps
set_option linter.unusedVariables false
theorem Lst.mapT {α : Type} {enc : α -> List Value} {k T : Nat} {w w' : World} {B m : Nat} {v : Value} {l : List α} (h : Lst enc k T w B v l) (ht : w.mapTurned w' m) (hm : m < B) : Lst enc k T w' B v l := by
 refine ⟨h.1, ?_⟩
 rcases h.2 with h0 | ⟨g, cap, cur, rfl, hB, hc, h3⟩
 ·exact .inl h0
 ·exact .inr ⟨g, cap, cur, rfl, hB, (ht.grown.block g (Array.getElem?_eq_some_iff.1 hc).1 (fun e => by cases e; omega)).trans hc, h3⟩
theorem Lst.turnM {α : Type} {enc : α -> List Value} {k T : Nat} {w w' : World} {B gm : Nat} {v : Value} {l : List α} {P : List (List Int)} (h : Lst enc k T w B v l) (hM : LdI w gm P) (ht : Turn (fun k => k = gm) (fun k => k = gm) w w') : Lst enc k T w' B v l := by
 refine ⟨h.1, ?_⟩
 rcases h.2 with h0 | ⟨g, cap, cur, rfl, hB, hc, h3⟩
 ·exact .inl h0
 ·refine .inr ⟨g, cap, cur, rfl, hB, (ht.block g (Array.getElem?_eq_some_iff.1 hc).1 (fun e => ?_)).trans hc, h3⟩
  obtain ⟨es, clock, hm⟩ := hM.isMap
  rw [<- e, hc] at hm
  cases hm
theorem Turn.onB {S : Nat -> Prop} {a b c : World} (h : Turn S S a b) (k : Below a.heap.size b c) : Turn S S a c :=
 ⟨k.os.trans h.os, k.tape.trans h.tape, k.output.trans h.output, Nat.le_trans h.size k.size, fun i hi hn => (k.block i hi).trans (h.block i hi hn), fun _ _ hs => hs⟩
theorem srt_small {l : List Int} (h : l.Nodup) (hd : Dg l) : l.length <= 40 := by
 have key : ∀ (a b : List Int), a.Nodup -> (∀ x ∈ a, x ∈ b) -> a.length <= b.length := by
  intro a
  induction a with
  | nil => intro b _ _; simp
  | cons x a ih =>
   intro b hn hs
   have hx := hs x (by simp)
   have h2 := ih (b.erase x) (List.nodup_cons.1 hn).2 (fun y hy => (List.mem_erase_of_ne (fun e => (List.nodup_cons.1 hn).1 (by rw [<- e]; exact hy))).2 (hs y (by simp [hy])))
   rw [List.length_erase_of_mem hx] at h2
   have : 0 < b.length := List.length_pos_of_mem hx
   rw [List.length_cons]
   omega
 have := key l ((List.range 40).map (fun j : Nat => (j : Int) + 1)) h (fun x hx => mem_hands.2 (by have := hd x hx; omega))
 simpa using this
theorem refsL_len (L : List Int) (h : Int) (hf : Fine L) : (rfL L h).length <= 15 := by
 rw [rfL_fold, <- refK_one]
 exact Nat.le_trans (refK_len L _ _) (nmL_len L h hf)
end Go.Proofs.YtifmemombecoaaaGreatDoor
