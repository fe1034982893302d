/-
  Parts of the proofs, joined by program.
-/
import Derived.Test.YtifmemombecoaaaGreatDoorJNum
import Derived.Test.YtifmemombecoaaaGreatDoorProg
import Derived.Maps.OwnSet
import Derived.Maps.RangeWalk
import Derived.Lib.SlMapMerge
import Derived.Lib.SlMapFilter
import Derived.Shelf.SlMaps.Clone
import Derived.Shelf.SlIterI.Nil
import Derived.Shelf.SlIter.Nil
import Derived.Shelf.SortM.Plain
import Derived.Shelf.SortM.SortNone
import Derived.Shelf.SlMaps.DeleteFunc
import Derived.Shelf.SlicesE.IndexFunc
import Derived.Shelf.SlGeneric
import Derived.Ground.SlmcProg
import Derived.Ground.GgzProg
import Derived.Ground.SlgmProg
import Derived.Ground.SlmdProg
import Derived.Ground.SlgfProg
import Derived.Test.YtifmemombecoaaaGreatDoorJChp
import Derived.Test.YtifmemombecoaaaGreatDoorJSe
import Derived.Test.YtifmemombecoaaaGreatDoorJVws
import Derived.Test.YtifmemombecoaaaGreatDoorJInc
import Derived.Lib.SlKeysI
import Derived.StringKeys
import Derived.Shelf.SlMaps.Copy
import Derived.Shelf.SlicesE.DeleteFunc
import Derived.Sort.Walk0
import Derived.BigQuiet
namespace Go.Proofs.YtifmemombecoaaaGreatDoor
open Go.RowKit Go.MapKept Go.ChangeMaps
open Go.Maps (Keyed)
set_option linter.unusedVariables false
structure MK (κ α : Type) where
 tk : TypeId
 te : TypeId
 tm : TypeId
 kv : κ -> Value
 kl : κ -> Lit
 kok : κ -> Prop
 ev : α -> Value
 R : Value -> Option (DataW Unit × List MemPlace)
 z : α
 hK : Keyed Tryz.prog tk
 hm : Tryz.prog.underlying tm = some (.map tk te)
 hkey : ∀ k, kok k -> keyOf Tryz.prog tk (kv k) = some (kl k)
 hinj : ∀ k k', kl k = kl k' -> k = k'
 hev : ∀ v v', ev v = ev v' -> v = v'
 hRi : ∀ v v' d ps ps', R v = some (d, ps) -> R v' = some (d, ps') -> v = v'
 hz : ∀ w, (zeroValue te).run Tryz.prog w = .ok (ev z) w
 hzo : ∃ d, R (ev z) = some (d, [])
def MK.Eok {κ α : Type} (M : MK κ α) (v : α) : Prop := ∃ d, M.R (M.ev v) = some (d, [])
def Mp {κ α : Type} (M : MK κ α) (w : World) (g n : Nat) (F : κ -> Option α) : Prop :=
 ∃ D : DataW Unit, w.ownsMap Tryz.prog M.tk M.R g n D /\ ∀ k, Maps.has D (M.kl k) = (F k).isSome /\ ∀ v, F k = some v -> ∃ d, M.R (M.ev v) = some (d, []) /\ ∀ zd, D.atKey (M.kl k) zd = d
def updF {κ α : Type} [DecidableEq κ] (F : κ -> Option α) (k : κ) (v : Option α) : κ -> Option α := fun j => if j = k then v else F j
section
variable {κ α : Type} {M : MK κ α} {w w' : World} {g n : Nat} {F : κ -> Option α}
theorem Mp.lt (h : Mp M w g n F) : g < w.heap.size := by
 obtain ⟨D, h1, _⟩ := h
 exact h1.lt
theorem Mp.same (h : Mp M w g n F) (hs : w'.heap[g]? = w.heap[g]?) : Mp M w' g n F := by
 obtain ⟨D, ⟨es, clock, hb, r⟩, h2⟩ := h
 exact ⟨D, ⟨es, clock, hs.trans hb, r⟩, h2⟩
theorem Mp.below (h : Mp M w g n F) (hb : Below w.heap.size w w') : Mp M w' g n F := h.same (hb.block g h.lt)
theorem Mp.belowB {B : Nat} (h : Mp M w g n F) (hb : Below B w w') (hg : g < B) : Mp M w' g n F := h.same (hb.block g hg)
theorem Mp.grown {row : Option Nat} (h : Mp M w g n F) (hg : w.grownBy w' row) (hne : some g ≠ row) : Mp M w' g n F := h.same (hg.block g h.lt hne)
theorem Mp.mono (h : Mp M w g n F) {m : Nat} (hm : n <= m) : Mp M w g m F := by
 obtain ⟨D, h1, h2⟩ := h
 exact ⟨D, h1.mono hm, h2⟩
theorem Mp.isMap (h : Mp M w g n F) : ∃ es clock, w.heap[g]? = some (.map es clock) := by
 obtain ⟨D, ⟨es, clock, hb, _⟩, _⟩ := h
 exact ⟨es, clock, hb⟩
theorem Mp.made (M : MK κ α) (w : World) : Mp M (w.alloc (.map #[] 0)) w.heap.size 0 (fun _ => none) := ⟨.map [], World.ownsMap_made w _ _ _, fun k => ⟨rfl, fun v hv => by cases hv⟩⟩
theorem Mp.eok (h : Mp M w g n F) {k : κ} {v : α} (hv : F k = some v) : M.Eok v := by
 obtain ⟨D, _, h2⟩ := h
 obtain ⟨d, h3, _⟩ := (h2 k).2 v hv
 exact ⟨d, h3⟩
theorem Mp.val {D : DataW Unit} (h2 : ∀ k, Maps.has D (M.kl k) = (F k).isSome /\ ∀ v, F k = some v -> ∃ d, M.R (M.ev v) = some (d, []) /\ ∀ zd, D.atKey (M.kl k) zd = d) (k : κ) {zd : DataW Unit} (hzd : M.R (M.ev M.z) = some (zd, [])) {v : Value} {ps : List MemPlace} (hv : M.R v = some (D.atKey (M.kl k) zd, ps)) : v = M.ev ((F k).getD M.z) := by
 cases hm : F k with
 | none =>
  have hno : Maps.has D (M.kl k) = false := by rw [(h2 k).1, hm]; rfl
  rw [Maps.atKey_of_not_has hno] at hv
  exact M.hRi _ _ _ _ _ hv hzd
 | some b =>
  obtain ⟨d, h3, h4⟩ := (h2 k).2 b hm
  rw [h4] at hv
  exact M.hRi _ _ _ _ _ hv h3
theorem Mp.look (h : Mp M w g n F) {k : κ} (hk : M.kok k) : (Instr.lookup M.tm (.map (some g)) (M.kv k) false).run Tryz.prog w = .ok (M.ev ((F k).getD M.z)) w := by
 obtain ⟨D, h1, h2⟩ := h
 obtain ⟨zd, hzd⟩ := M.hzo
 obtain ⟨v, ps, hrun, hv⟩ := h1.lookup M.hK M.hm (M.hz w) hzd (M.hkey k hk)
 rw [hrun, Mp.val h2 k hzd hv]
theorem Mp.look2 (h : Mp M w g n F) {k : κ} (hk : M.kok k) : (Instr.lookup M.tm (.map (some g)) (M.kv k) true).run Tryz.prog w = .ok (.tuple #[M.ev ((F k).getD M.z), .bool (F k).isSome]) w := by
 obtain ⟨D, h1, h2⟩ := h
 obtain ⟨zd, hzd⟩ := M.hzo
 obtain ⟨v, ps, hrun, hv⟩ := h1.look_ok M.hK M.hm (M.hz w) hzd (M.hkey k hk)
 rw [hrun, Mp.val h2 k hzd hv, (h2 k).1]
theorem Mp.store [DecidableEq κ] (h : Mp M w g n F) (hn : n < maxLen) {k : κ} (hk : M.kok k) {v : α} (hv : M.Eok v) :
  ∃ w', (Instr.mapUpdate M.tm (.map (some g)) (M.kv k) (M.ev v)).run Tryz.prog w = .ok () w' /\ Mp M w' g (n + 1) (updF F k (some v)) /\ w.mapTurned w' g := by
 obtain ⟨D, h1, h2⟩ := h
 obtain ⟨d, hd⟩ := hv
 obtain ⟨w', hrun, hown, ht⟩ := h1.store M.hK M.hm hn (M.hkey k hk) hd
 have hlit : WideAt.IsKeyLit (M.kl k) := M.hK.key (M.hkey k hk)
 refine ⟨w', hrun, ⟨_, hown, fun j => ?_⟩, ht⟩
 unfold updF
 by_cases e : j = k
 ·subst e
  rw [if_pos rfl, Maps.has_put_same h1.isMap hlit]
  refine ⟨rfl, fun u hu => ?_⟩
  obtain rfl := Option.some.inj hu
  exact ⟨d, hd, fun zd => Maps.atKey_put_same h1.isMap hlit _ _⟩
 ·have hne : M.kl j ≠ M.kl k := fun e2 => e (M.hinj _ _ e2)
  rw [if_neg e, Maps.has_put_other hne]
  refine ⟨(h2 j).1, fun u hu => ?_⟩
  obtain ⟨d', h3, h4⟩ := (h2 j).2 u hu
  exact ⟨d', h3, fun zd => by rw [Maps.atKey_put_other hne]; exact h4 zd⟩
theorem Mp.drop [DecidableEq κ] (h : Mp M w g n F) {k : κ} (hk : M.kok k) (ty : TypeId) :
  ∃ w', (Builtin.delete_ #[M.tm, M.tk] ty #[.map (some g), M.kv k]).run Tryz.prog w = .ok (.tuple #[]) w' /\ Mp M w' g n (updF F k none) /\ w.mapTurned w' g := by
 obtain ⟨D, h1, h2⟩ := h
 obtain ⟨w', hrun, hown, ht⟩ := h1.drop M.hK M.hm (M.hkey k hk) ty
 refine ⟨w', hrun, ⟨_, hown, fun j => ?_⟩, ht⟩
 unfold updF
 by_cases e : j = k
 ·subst e
  rw [if_pos rfl, Maps.has_del_same]
  exact ⟨rfl, fun u hu => by cases hu⟩
 ·have hne : M.kl j ≠ M.kl k := fun e2 => e (M.hinj _ _ e2)
  rw [if_neg e, Maps.has_del_other hne]
  refine ⟨(h2 j).1, fun u hu => ?_⟩
  obtain ⟨d', h3, h4⟩ := (h2 j).2 u hu
  exact ⟨d', h3, fun zd => by rw [Maps.atKey_del_other hne]; exact h4 zd⟩
def overF (F G : κ -> Option α) : κ -> Option α := fun k => if (G k).isSome then G k else F k
theorem Mp.over {G : κ -> Option α} {Dd Ds Dout : DataW Unit} {m : Nat} (hd : ∀ k, Maps.has Dd (M.kl k) = (F k).isSome /\ ∀ v, F k = some v -> ∃ d, M.R (M.ev v) = some (d, []) /\ ∀ zd, Dd.atKey (M.kl k) zd = d)
  (hs : ∀ k, Maps.has Ds (M.kl k) = (G k).isSome /\ ∀ v, G k = some v -> ∃ d, M.R (M.ev v) = some (d, []) /\ ∀ zd, Ds.atKey (M.kl k) zd = d) {left : Lit -> Bool} (hM : Maps.Merged Dout Dd Ds left) (hl : ∀ k, left k = false) (ho : w.ownsMap Tryz.prog M.tk M.R g m Dout) : Mp M w g m (overF F G) := by
 refine ⟨Dout, ho, fun k => ?_⟩
 have e1 := hM.1 (M.kl k)
 have e2 := hM.2 (M.kl k)
 rw [hl, (hd k).1, (hs k).1] at e1
 simp only [hl, (hs k).1] at e2
 unfold overF
 cases hg : G k with
 | none =>
  rw [hg] at e1 e2
  simp only [Option.isSome_none, Bool.false_and, Bool.or_false] at e1 e2
  refine ⟨by rw [e1]; rfl, fun v hv => ?_⟩
  obtain ⟨d, h3, h4⟩ := (hd k).2 v hv
  exact ⟨d, h3, fun zd => by rw [e2 zd]; exact h4 zd⟩
 | some b =>
  rw [hg] at e1 e2
  simp only [Option.isSome_some, Bool.true_and, Bool.not_false, Bool.or_true, if_true] at e1 e2
  refine ⟨by rw [e1]; rfl, fun v hv => ?_⟩
  obtain ⟨d, h3, h4⟩ := (hs k).2 b hg
  obtain rfl : b = v := by simpa using hv
  exact ⟨d, h3, fun zd => by rw [e2 zd]; exact h4 zd⟩
def keepF (F : κ -> Option α) (p : κ -> α -> Bool) : κ -> Option α := fun k => (F k).filter fun v => !p k v
end
end Go.Proofs.YtifmemombecoaaaGreatDoor
namespace Go.Proofs.YtifmemombecoaaaGreatDoor
open Go.RowKit Go.Maps Go.Sort Go.Shelf
set_option linter.unusedVariables false
def mcO_ren : Ren := { f := fun | 5 => 43 | 7 => 73 | n => n, t := fun | 23 => 50 | 25 => 3 | 3 => 47 | 4 => 4 | 20 => 20 | n => n, g := fun n => n }
theorem mcO : SlLaysW.n5 Tryz.prog mcO_ren := { mixed := by kernel_rfl, f5 := ⟨ "maps.Clone[map[int]vaultkeel/merge.object,int,vaultkeel/merge.object]", by decide, Tryz.func43.trans rfl⟩, f7 := Tryz.func73.trans rfl, t4 := Tryz.underlying4, a4 := Tryz.isAgg4, z4 := Tryz.sizeOf4, v4 := Tryz.zeroValue4, t20 := Tryz.underlying20, a20 := Tryz.isAgg20, z20 := Tryz.sizeOf20, v20 := Tryz.zeroValue20, t23 := Tryz.underlying50, a23 := Tryz.isAgg50, z23 := Tryz.sizeOf50, v23 := Tryz.zeroValue50 }
def mcS_ren : Ren := { f := fun | 5 => 56 | 7 => 73 | n => n, t := fun | 23 => 75 | 25 => 9 | 3 => 3 | 4 => 4 | 20 => 20 | n => n, g := fun n => n }
theorem mcS : SlLaysW.n5 Tryz.prog mcS_ren := { mixed := by kernel_rfl, f5 := ⟨ "maps.Clone[map[string]int,string,int]", by decide, Tryz.func56.trans rfl⟩, f7 := Tryz.func73.trans rfl, t4 := Tryz.underlying4, a4 := Tryz.isAgg4, z4 := Tryz.sizeOf4, v4 := Tryz.zeroValue4, t20 := Tryz.underlying20, a20 := Tryz.isAgg20, z20 := Tryz.sizeOf20, v20 := Tryz.zeroValue20, t23 := Tryz.underlying75, a23 := Tryz.isAgg75, z23 := Tryz.sizeOf75, v23 := Tryz.zeroValue75 }
def keysO_ren : Ren := { f := fun | 7 => 76 | 10 => 104 | n => n, t := fun | 23 => 50 | 26 => 3 | 3 => 47 | 28 => 132 | 0 => 0 | 27 => 131 | 33 => 23 | 4 => 4 | n => n, g := fun n => n }
theorem keysO : SlLaysZI.n7 Tryz.prog keysO_ren := { mixed := by kernel_rfl, f7 := ⟨ "maps.Keys[map[int]vaultkeel/merge.object,int,vaultkeel/merge.object]", by decide, Tryz.func76.trans rfl⟩, f10 := ⟨ "maps.Keys[map[int]vaultkeel/merge.object,int,vaultkeel/merge.object]$1", by decide, Tryz.func104.trans rfl⟩, t0 := Tryz.underlying0, a0 := Tryz.isAgg0, z0 := Tryz.sizeOf0, v0 := Tryz.zeroValue0, t4 := Tryz.underlying4, a4 := Tryz.isAgg4, z4 := Tryz.sizeOf4, v4 := Tryz.zeroValue4, t23 := Tryz.underlying50, a23 := Tryz.isAgg50, z23 := Tryz.sizeOf50, v23 := Tryz.zeroValue50, t26 := Tryz.underlying3, a26 := Tryz.isAgg3, z26 := Tryz.sizeOf3, v26 := Tryz.zeroValue3, t27 := Tryz.underlying131, a27 := Tryz.isAgg131, z27 := Tryz.sizeOf131, v27 := Tryz.zeroValue131, t28 := Tryz.underlying132, a28 := Tryz.isAgg132, z28 := Tryz.sizeOf132, v28 := Tryz.zeroValue132, t33 := Tryz.underlying23, a33 := Tryz.isAgg23, z33 := Tryz.sizeOf23, v33 := Tryz.zeroValue23 }
def keysS_ren : Ren := { f := fun | 7 => 111 | 10 => 133 | n => n, t := fun | 23 => 75 | 26 => 9 | 3 => 3 | 28 => 190 | 0 => 0 | 27 => 189 | 33 => 108 | 4 => 4 | n => n, g := fun n => n }
theorem keysS : SlLaysZ.n7 Tryz.prog keysS_ren := { mixed := by kernel_rfl, f7 := ⟨ "maps.Keys[map[string]int,string,int]", by decide, Tryz.func111.trans rfl⟩, f10 := ⟨ "maps.Keys[map[string]int,string,int]$1", by decide, Tryz.func133.trans rfl⟩, t0 := Tryz.underlying0, a0 := Tryz.isAgg0, z0 := Tryz.sizeOf0, v0 := Tryz.zeroValue0, t4 := Tryz.underlying4, a4 := Tryz.isAgg4, z4 := Tryz.sizeOf4, v4 := Tryz.zeroValue4, t23 := Tryz.underlying75, a23 := Tryz.isAgg75, z23 := Tryz.sizeOf75, v23 := Tryz.zeroValue75, t26 := Tryz.underlying9, a26 := Tryz.isAgg9, z26 := Tryz.sizeOf9, v26 := Tryz.zeroValue9, t27 := Tryz.underlying189, a27 := Tryz.isAgg189, z27 := Tryz.sizeOf189, v27 := Tryz.zeroValue189, t28 := Tryz.underlying190, a28 := Tryz.isAgg190, z28 := Tryz.sizeOf190, v28 := Tryz.zeroValue190, t33 := Tryz.underlying108, a33 := Tryz.isAgg108, z33 := Tryz.sizeOf108, v33 := Tryz.zeroValue108 }
def sortedS_ren : Ren := { f := fun | 6 => 110 | 8 => 131 | 9 => 132 | 11 => 153 | 13 => 126 | 12 => 154 | 23 => 151 | 24 => 152 | 14 => 166 | 15 => 167 | 16 => 168 | 17 => 169 | 18 => 170 | 19 => 171 | 20 => 172 | 21 => 173 | 22 => 174 | 25 => 177 | 26 => 161 | 27 => 162 | 28 => 178 | 29 => 179 | 30 => 180 | 31 => 181 | n => n, t := fun | 26 => 9 | 28 => 190 | 24 => 61 | 0 => 0 | 3 => 3 | 37 => 203 | 48 => 219 | 50 => 221 | 4 => 4 | 40 => 213 | 39 => 212 | 45 => 153 | 5 => 5 | 9 => 9 | 51 => 225 | 55 => 229 | 57 => 238 | 58 => 239 | 33 => 108 | n => n, g := fun n => n }
theorem sortedS : SlLaysZ.n6 Tryz.prog sortedS_ren := { mixed := by kernel_rfl, f6 := ⟨ "slices.Sorted[string]", by decide, Tryz.func110.trans rfl⟩, f8 := ⟨ "slices.Collect[string]", by decide, Tryz.func131.trans rfl⟩, f11 := ⟨ "slices.AppendSeq[[]string,string]", by decide, Tryz.func153.trans rfl⟩, t0 := Tryz.underlying0, a0 := Tryz.isAgg0, z0 := Tryz.sizeOf0, v0 := Tryz.zeroValue0, t24 := Tryz.underlying61, a24 := Tryz.isAgg61, z24 := Tryz.sizeOf61, v24 := Tryz.zeroValue61, t26 := Tryz.underlying9, a26 := Tryz.isAgg9, z26 := Tryz.sizeOf9, v26 := Tryz.zeroValue9, t28 := Tryz.underlying190, a28 := Tryz.isAgg190, z28 := Tryz.sizeOf190, v28 := Tryz.zeroValue190, i26 := by kernel_rfl }
def sortS_ren : Ren := { f := fun | 6 => 132 | 8 => 126 | 9 => 154 | 19 => 151 | 20 => 152 | 21 => 166 | 22 => 167 | 23 => 168 | 24 => 169 | 25 => 170 | 26 => 171 | 27 => 172 | 28 => 173 | 29 => 174 | 36 => 177 | 31 => 161 | 32 => 162 | 37 => 178 | 38 => 179 | 39 => 180 | 41 => 181 | n => n, t := fun | 27 => 61 | 29 => 9 | 3 => 3 | 32 => 203 | 26 => 61 | 0 => 0 | 44 => 219 | 46 => 221 | 4 => 4 | 36 => 213 | 35 => 212 | 41 => 153 | 5 => 5 | 9 => 9 | 53 => 225 | 57 => 229 | 63 => 238 | 64 => 239 | n => n, g := fun n => n }
theorem sortS : SlLaysM.n6 Tryz.prog sortS_ren := { mixed := by kernel_rfl, f6 := ⟨ "slices.Sort[[]string,string]", by decide, Tryz.func132.trans rfl⟩, f8 := Tryz.func126.trans rfl, f9 := ⟨ "slices.pdqsortOrdered[string]", by decide, Tryz.func154.trans rfl⟩, f19 := Tryz.func151.trans rfl, f20 := Tryz.func152.trans rfl, f21 := ⟨ "slices.insertionSortOrdered[string]", by decide, Tryz.func166.trans rfl⟩, f22 := ⟨ "slices.heapSortOrdered[string]", by decide, Tryz.func167.trans rfl⟩, f23 := ⟨ "slices.breakPatternsOrdered[string]", by decide, Tryz.func168.trans rfl⟩, f24 := ⟨ "slices.choosePivotOrdered[string]", by decide, Tryz.func169.trans rfl⟩, f25 := ⟨ "slices.reverseRangeOrdered[string]", by decide, Tryz.func170.trans rfl⟩, f26 := ⟨ "slices.partialInsertionSortOrdered[string]", by decide, Tryz.func171.trans rfl⟩, f27 := ⟨ "cmp.Less[string]", by decide, Tryz.func172.trans rfl⟩, f28 := ⟨ "slices.partitionEqualOrdered[string]", by decide, Tryz.func173.trans rfl⟩, f29 := ⟨ "slices.partitionOrdered[string]", by decide, Tryz.func174.trans rfl⟩, f31 := Tryz.func161.trans rfl, f32 := Tryz.func162.trans rfl, f36 := ⟨ "slices.siftDownOrdered[string]", by decide, Tryz.func177.trans rfl⟩, f37 := ⟨ "slices.medianAdjacentOrdered[string]", by decide, Tryz.func178.trans rfl⟩, f38 := ⟨ "slices.medianOrdered[string]", by decide, Tryz.func179.trans rfl⟩, f39 := ⟨ "cmp.isNaN[string]", by decide, Tryz.func180.trans rfl⟩, f41 := ⟨ "slices.order2Ordered[string]", by decide, Tryz.func181.trans rfl⟩, t0 := Tryz.underlying0, a0 := Tryz.isAgg0, z0 := Tryz.sizeOf0, v0 := Tryz.zeroValue0, t3 := Tryz.underlying3, a3 := Tryz.isAgg3, z3 := Tryz.sizeOf3, v3 := Tryz.zeroValue3, t4 := Tryz.underlying4, a4 := Tryz.isAgg4, z4 := Tryz.sizeOf4, v4 := Tryz.zeroValue4, t5 := Tryz.underlying5, a5 := Tryz.isAgg5, z5 := Tryz.sizeOf5, v5 := Tryz.zeroValue5, t9 := Tryz.underlying9, a9 := Tryz.isAgg9, z9 := Tryz.sizeOf9, v9 := Tryz.zeroValue9, t26 := Tryz.underlying61, a26 := Tryz.isAgg61, z26 := Tryz.sizeOf61, v26 := Tryz.zeroValue61, t27 := Tryz.underlying61, a27 := Tryz.isAgg61, z27 := Tryz.sizeOf61, v27 := Tryz.zeroValue61, t29 := Tryz.underlying9, a29 := Tryz.isAgg9, z29 := Tryz.sizeOf9, v29 := Tryz.zeroValue9, t32 := Tryz.underlying203, a32 := Tryz.isAgg203, z32 := Tryz.sizeOf203, v32 := Tryz.zeroValue203, t35 := Tryz.underlying212, a35 := Tryz.isAgg212, z35 := Tryz.sizeOf212, v35 := Tryz.zeroValue212, t36 := Tryz.underlying213, a36 := Tryz.isAgg213, z36 := Tryz.sizeOf213, v36 := Tryz.zeroValue213, t41 := Tryz.underlying153, a41 := Tryz.isAgg153, z41 := Tryz.sizeOf153, v41 := Tryz.zeroValue153, t44 := Tryz.underlying219, a44 := Tryz.isAgg219, z44 := Tryz.sizeOf219, v44 := Tryz.zeroValue219, t46 := Tryz.underlying221, a46 := Tryz.isAgg221, z46 := Tryz.sizeOf221, v46 := Tryz.zeroValue221, t53 := Tryz.underlying225, a53 := Tryz.isAgg225, z53 := Tryz.sizeOf225, v53 := Tryz.zeroValue225, t57 := Tryz.underlying229, a57 := Tryz.isAgg229, z57 := Tryz.sizeOf229, v57 := Tryz.zeroValue229, t63 := Tryz.underlying238, a63 := Tryz.isAgg238, z63 := Tryz.sizeOf238, v63 := Tryz.zeroValue238, t64 := Tryz.underlying239, a64 := Tryz.isAgg239, z64 := Tryz.sizeOf239, v64 := Tryz.zeroValue239 }
def mdS_ren : Ren := { f := fun | 5 => 31 | n => n, t := fun | 23 => 75 | 26 => 9 | 24 => 3 | 27 => 80 | 0 => 0 | 4 => 4 | n => n, g := fun n => n }
theorem mdS : SlLaysDf.n5 Tryz.prog mdS_ren := { mixed := by kernel_rfl, f5 := ⟨ "maps.DeleteFunc[map[string]int,string,int]", by decide, Tryz.func31.trans rfl⟩, t0 := Tryz.underlying0, a0 := Tryz.isAgg0, z0 := Tryz.sizeOf0, v0 := Tryz.zeroValue0, t4 := Tryz.underlying4, a4 := Tryz.isAgg4, z4 := Tryz.sizeOf4, v4 := Tryz.zeroValue4, t23 := Tryz.underlying75, a23 := Tryz.isAgg75, z23 := Tryz.sizeOf75, v23 := Tryz.zeroValue75, a24 := Tryz.isAgg3, z24 := Tryz.sizeOf3, a26 := Tryz.isAgg9, z26 := Tryz.sizeOf9, t27 := Tryz.underlying80, a27 := Tryz.isAgg80, z27 := Tryz.sizeOf80, v27 := Tryz.zeroValue80 }
def cfB_ren : Ren := { f := fun | 8 => 39 | 6 => 65 | n => n, t := fun | 22 => 91 | 23 => 22 | 25 => 88 | 4 => 4 | 3 => 3 | 0 => 0 | n => n, g := fun n => n }
theorem cfB : SlLaysH.n8 Tryz.prog cfB_ren := { mixed := by kernel_rfl, f6 := ⟨ "slices.IndexFunc[[][]byte,[]byte]", by decide, Tryz.func65.trans rfl⟩, f8 := ⟨ "slices.ContainsFunc[[][]byte,[]byte]", by decide, Tryz.func39.trans rfl⟩, t0 := Tryz.underlying0, a0 := Tryz.isAgg0, z0 := Tryz.sizeOf0, v0 := Tryz.zeroValue0, t3 := Tryz.underlying3, a3 := Tryz.isAgg3, z3 := Tryz.sizeOf3, v3 := Tryz.zeroValue3, t4 := Tryz.underlying4, a4 := Tryz.isAgg4, z4 := Tryz.sizeOf4, v4 := Tryz.zeroValue4, t22 := Tryz.underlying91, a22 := Tryz.isAgg91, z22 := Tryz.sizeOf91, v22 := Tryz.zeroValue91, a23 := Tryz.isAgg22, z23 := Tryz.sizeOf22, t25 := Tryz.underlying88, a25 := Tryz.isAgg88, z25 := Tryz.sizeOf88, v25 := Tryz.zeroValue88 }
theorem sortsS (m : Nat) : AnyZ.SortsIn Tryz.prog sortedS_ren Fence.wide m :=
  ⟨fun blk off cap ss W hH hblk hsz => callsIn_wide.2 (AnyM.slices_Sort_string sortS blk off cap ss W hH hblk hsz),
   fun p cap W => callsIn_wide.2 (AnyM.slices_Sort_string_none sortS p cap W)⟩
end Go.Proofs.YtifmemombecoaaaGreatDoor
namespace Go.Proofs.YtifmemombecoaaaGreatDoor
open Go.RowKit
set_option linter.unusedVariables false
def bL (s t : ByteArray) : Bool := Go.Op.bytesLess s.toList t.toList
theorem bytesLess_irrefl : ∀ x : List UInt8, Go.Op.bytesLess x x = false
 | [] => rfl
 | a :: x => by
  simp only [Go.Op.bytesLess, bytesLess_irrefl x]
  simp
theorem bytesLess_trans : ∀ {x y z : List UInt8}, Go.Op.bytesLess x y = true -> Go.Op.bytesLess y z = true -> Go.Op.bytesLess x z = true
 | _, [], _, h, _ => by simp [Go.Op.bytesLess] at h
 | [], _ :: _, [], _, h => by simp [Go.Op.bytesLess] at h
 | [], _ :: _, _ :: _, _, _ => by simp [Go.Op.bytesLess]
 | _ :: _, _ :: _, [], _, h => by simp [Go.Op.bytesLess] at h
 | a :: x, b :: y, c :: z, h1, h2 => by
  simp only [Go.Op.bytesLess, Bool.or_eq_true, decide_eq_true_eq, Bool.and_eq_true, beq_iff_eq] at h1 h2 ⊢
  rcases h1 with h1 | ⟨rfl, h1⟩
  ·rcases h2 with h2 | ⟨rfl, h2⟩
   ·exact .inl (UInt8.lt_trans h1 h2)
   ·exact .inl h1
  ·rcases h2 with h2 | ⟨rfl, h2⟩
   ·exact .inl h2
   ·exact .inr ⟨rfl, bytesLess_trans h1 h2⟩
theorem bytesLess_total : ∀ {x y : List UInt8}, Go.Op.bytesLess x y = false -> Go.Op.bytesLess y x = false -> x = y
 | [], [], _, _ => rfl
 | [], _ :: _, h, _ => by simp [Go.Op.bytesLess] at h
 | _ :: _, [], _, h => by simp [Go.Op.bytesLess] at h
 | a :: x, b :: y, h1, h2 => by
  simp only [Go.Op.bytesLess, Bool.or_eq_false_iff, decide_eq_false_iff_not, Bool.and_eq_false_iff, beq_eq_false_iff_ne] at h1 h2
  have hab : a = b := by
   have n1 : ¬ a.toNat < b.toNat := fun h => h1.1 (UInt8.lt_iff_toNat_lt.2 h)
   have n2 : ¬ b.toNat < a.toNat := fun h => h2.1 (UInt8.lt_iff_toNat_lt.2 h)
   exact UInt8.toNat_inj.1 (by omega)
  subst hab
  have h3 : Go.Op.bytesLess x y = false := by
   rcases h1.2 with h | h
   ·exact absurd rfl h
   ·exact h
  have h4 : Go.Op.bytesLess y x = false := by
   rcases h2.2 with h | h
   ·exact absurd rfl h
   ·exact h
  rw [bytesLess_total h3 h4]
theorem bL_irrefl (s : ByteArray) : bL s s = false := bytesLess_irrefl _
theorem bL_trans {s t u : ByteArray} (h1 : bL s t = true) (h2 : bL t u = true) : bL s u = true := bytesLess_trans h1 h2
theorem bL_total {s t : ByteArray} (h1 : bL s t = false) (h2 : bL t s = false) : s = t := by
 have := bytesLess_total h1 h2
 exact toL_iff.1 (by rw [this]; exact beq_self_eq_true _)
theorem bL_asymm {s t : ByteArray} (h : bL s t = true) : bL t s = false := by
 cases hq : bL t s with
 | false => rfl
 | true => have := bL_trans h hq; rw [bL_irrefl] at this; cases this
def Ris (l : List ByteArray) : Prop := l.Pairwise fun s t => bL s t = true
theorem Ris.nodup {l : List ByteArray} (h : Ris l) : l.Nodup := h.imp (fun {a b} hab e => by subst e; rw [bL_irrefl] at hab; cases hab)
theorem Ris.one : ∀ {l m : List ByteArray}, Ris l -> Ris m -> (∀ x, x ∈ l ↔ x ∈ m) -> l = m
 | [], [], _, _, _ => rfl
 | [], y :: m, _, _, h => by have := (h y).2 (by simp); cases this
 | x :: l, [], _, _, h => by have := (h x).1 (by simp); cases this
 | x :: l, y :: m, h1, h2, h => by
  obtain ⟨a1, a2⟩ := List.pairwise_cons.1 h1
  obtain ⟨b1, b2⟩ := List.pairwise_cons.1 h2
  have hxy : x = y := by
   rcases List.mem_cons.1 ((h x).1 (by simp)) with e | hx
   ·exact e
   ·rcases List.mem_cons.1 ((h y).2 (by simp)) with e | hy
    ·exact e.symm
    ·have := bL_trans (a1 y hy) (b1 x hx)
     rw [bL_irrefl] at this
     cases this
  subst hxy
  have : l = m := Ris.one a2 b2 (fun z => by
   have hz := h z
   constructor
   ·intro hm
    rcases List.mem_cons.1 (hz.1 (by simp [hm])) with e | hm2
    ·subst e
     have := a1 z hm
     rw [bL_irrefl] at this; cases this
    ·exact hm2
   ·intro hm
    rcases List.mem_cons.1 (hz.2 (by simp [hm])) with e | hm2
    ·subst e
     have := b1 z hm
     rw [bL_irrefl] at this; cases this
    ·exact hm2)
  rw [this]
def insN : List ByteArray -> ByteArray -> List ByteArray
 | [], s => [s]
 | x :: l, s => if bL s x = true then s :: x :: l else if s = x then x :: l else x :: insN l s
theorem mem_insN {s x : ByteArray} : ∀ {l : List ByteArray}, x ∈ insN l s ↔ x = s \/ x ∈ l
 | [] => by simp [insN]
 | y :: l => by
  unfold insN
  by_cases h1 : bL s y = true
  ·rw [if_pos h1]; simp
  ·rw [if_neg h1]
   by_cases h2 : s = y
   ·rw [if_pos h2]
    subst h2
    simp
   ·rw [if_neg h2, List.mem_cons, mem_insN, List.mem_cons]
    constructor
    ·rintro (h | h | h)
     ·exact .inr (.inl h)
     ·exact .inl h
     ·exact .inr (.inr h)
    ·rintro (h | h | h)
     ·exact .inr (.inl h)
     ·exact .inl h
     ·exact .inr (.inr h)
theorem insN_ris {s : ByteArray} : ∀ {l : List ByteArray}, Ris l -> Ris (insN l s)
 | [], _ => by unfold insN; exact List.pairwise_singleton _ _
 | y :: l, h => by
  obtain ⟨a1, a2⟩ := List.pairwise_cons.1 h
  unfold insN
  by_cases h1 : bL s y = true
  ·rw [if_pos h1]
   refine List.pairwise_cons.2 ⟨fun z hz => ?_, h⟩
   rcases List.mem_cons.1 hz with rfl | hz
   ·exact h1
   ·exact bL_trans h1 (a1 z hz)
  ·rw [if_neg h1]
   by_cases h2 : s = y
   ·rw [if_pos h2]; exact h
   ·rw [if_neg h2]
    refine List.pairwise_cons.2 ⟨fun z hz => ?_, insN_ris a2⟩
    rcases mem_insN.1 hz with rfl | hz
    ·cases hq : bL y z with
     | true => rfl
     | false => exact absurd (bL_total (by simpa using h1) hq) h2
    ·exact a1 z hz
def insL (ns : List ByteArray) : List ByteArray := ns.foldl insN []
theorem insL_fold : ∀ (ns l : List ByteArray), Ris l -> Ris (ns.foldl insN l) /\ ∀ x, x ∈ ns.foldl insN l ↔ x ∈ l \/ x ∈ ns
 | [], l, h => ⟨h, fun x => by simp⟩
 | s :: ns, l, h => by
  obtain ⟨h1, h2⟩ := insL_fold ns (insN l s) (insN_ris h)
  refine ⟨h1, fun x => ?_⟩
  show x ∈ ns.foldl insN (insN l s) ↔ _
  rw [h2 x, mem_insN, List.mem_cons]
  constructor
  ·rintro ((h | h) | h)
   ·exact .inr (.inl h)
   ·exact .inl h
   ·exact .inr (.inr h)
  ·rintro (h | h | h)
   ·exact .inl (.inr h)
   ·exact .inl (.inl h)
   ·exact .inr h
theorem insL_ris (ns : List ByteArray) : Ris (insL ns) := (insL_fold ns [] List.Pairwise.nil).1
theorem mem_insL {ns : List ByteArray} {x : ByteArray} : x ∈ insL ns ↔ x ∈ ns := by
 have := (insL_fold ns [] List.Pairwise.nil).2 x
 unfold insL
 simpa using this
theorem insN_at {l : List ByteArray} {s : ByteArray} {k : Nat} (h : Ris l) (hk : k <= l.length) (hbeh : ∀ x ∈ l.drop k, bL s x = true) (hah : ∀ x, (l.take k).getLast? = some x -> bL s x = false) :
  (∀ x, (l.take k).getLast? = some x -> x = s -> insN l s = l) /\ ((∀ x, (l.take k).getLast? = some x -> x ≠ s) -> insN l s = l.take k ++ s :: l.drop k) := by
 have hsplit : l.take k ++ l.drop k = l := List.take_append_drop k l
 refine ⟨fun x hx e => ?_, fun hne => ?_⟩
 ·subst e
  have hm : x ∈ l := List.mem_of_mem_take (List.mem_of_getLast? hx)
  refine (insN_ris h).one h (fun y => ?_)
  rw [mem_insN]
  constructor
  ·rintro (rfl | hy)
   ·exact hm
   ·exact hy
  ·exact .inr
 ·have hlt : ∀ x ∈ l.take k, bL x s = true := fun x hx => by
   obtain ⟨z, hz⟩ : ∃ z, (l.take k).getLast? = some z := by
    cases hq : (l.take k).getLast? with
    | none => rw [List.getLast?_eq_none_iff] at hq; rw [hq] at hx; cases hx
    | some z => exact ⟨z, rfl⟩
   have hzs : bL z s = true := by
    cases hq : bL z s with
    | true => rfl
    | false => exact absurd (bL_total hq (hah z hz)) (hne z hz)
   obtain ⟨ys, hys⟩ := List.getLast?_eq_some_iff.1 hz
   rw [hys] at hx
   rcases List.mem_append.1 hx with hx | hx
   ·have hr : Ris (ys ++ [z]) := by rw [<- hys]; exact List.Pairwise.sublist (List.take_sublist k l) h
    have := (List.pairwise_append.1 hr).2.2 x hx z (by simp)
    exact bL_trans this hzs
   ·rw [List.mem_singleton.1 hx]; exact hzs
  refine (insN_ris h).one ?_ (fun y => ?_)
  ·have hr := h
   rw [<- hsplit] at hr
   obtain ⟨p1, p2, p3⟩ := List.pairwise_append.1 hr
   refine List.pairwise_append.2 ⟨p1, List.pairwise_cons.2 ⟨hbeh, p2⟩, fun x hx y hy => ?_⟩
   rcases List.mem_cons.1 hy with rfl | hy
   ·exact hlt x hx
   ·exact p3 x hx y hy
  ·rw [mem_insN, List.mem_append, List.mem_cons]
   have hm : y ∈ l ↔ y ∈ l.take k \/ y ∈ l.drop k := by rw [<- List.mem_append, hsplit]
   rw [hm]
   constructor
   ·rintro (h | h | h)
    ·exact .inr (.inl h)
    ·exact .inl h
    ·exact .inr (.inr h)
   ·rintro (h | h | h)
    ·exact .inr (.inl h)
    ·exact .inl h
    ·exact .inr (.inr h)
end Go.Proofs.YtifmemombecoaaaGreatDoor
namespace Go.Proofs.YtifmemombecoaaaGreatDoor
open Go.RowKit Go.MapKept Go.ChangeMaps Go.Sort Go.Shelf
open Go.Maps (Keyed)
set_option linter.unusedVariables false
abbrev OV := Int × Option Addr × Nat × Nat
def ovV (x : OV) : Value := .agg #[.int .i64 x.1, .slice x.2.1 x.2.2.1 x.2.2.2]
def liI (n : Int) : DataW Unit := .lit (.int .i64 n)
def obRd : Value -> Option (DataW Unit × List MemPlace)
 | .agg cs => match cs.toList with
  | [.int .i64 s, .slice none n c] => some (.agg [liI s, liI n, liI c], [])
  | [.int .i64 s, .slice (some ⟨b, off, none⟩) n c] => some (.agg [liI s, liI n, liI c, liI b, liI off], [])
  | _ => none
 | _ => none
theorem obR_inj (v v' : Value) (d : DataW Unit) (ps ps' : List MemPlace) (h : obRd v = some (d, ps)) (h' : obRd v' = some (d, ps')) : v = v' := by
 unfold obRd at h h'
 split at h
 ·rename_i cs
  split at h
  ·rename_i s n c e
   split at h'
   ·rename_i cs'
    split at h'
    ·rename_i s' n' c' e'
     simp only [Option.some.injEq, Prod.mk.injEq] at h h'
     have := h.1.trans h'.1.symm
     simp [liI] at this
     obtain ⟨rfl, h1, h2⟩ := this
     obtain rfl : n = n' := by omega
     obtain rfl : c = c' := by omega
     rw [<- e'] at e
     congr 1
     exact Array.ext' e
    ·rename_i s' b' o' n' c' e'
     simp only [Option.some.injEq, Prod.mk.injEq] at h h'
     have := h.1.trans h'.1.symm
     simp at this
    ·cases h'
   ·cases h'
  ·rename_i s b o n c e
   split at h'
   ·rename_i cs'
    split at h'
    ·rename_i s' n' c' e'
     simp only [Option.some.injEq, Prod.mk.injEq] at h h'
     have := h.1.trans h'.1.symm
     simp at this
    ·rename_i s' b' o' n' c' e'
     simp only [Option.some.injEq, Prod.mk.injEq] at h h'
     have := h.1.trans h'.1.symm
     simp [liI] at this
     obtain ⟨rfl, h1, h2, h3, h4⟩ := this
     obtain rfl : n = n' := by omega
     obtain rfl : c = c' := by omega
     obtain rfl : b = b' := by omega
     obtain rfl : o = o' := by omega
     rw [<- e'] at e
     congr 1
     exact Array.ext' e
    ·cases h'
   ·cases h'
  ·cases h
 ·cases h
theorem zero_ob (w : World) : (zeroValue 47).run Tryz.prog w = .ok (ovV (0, none, 0, 0)) w := by
 have h : (Tryz.prog.info? 47).map (fun i => i.zero) = some (some (ovV (0, none, 0, 0))) := by kernel_rfl
 cases hi : Tryz.prog.info? 47 with
 | none => rw [hi] at h; cases h
 | some i =>
  rw [hi] at h
  simp at h
  simp [zeroValue, typeInfo, hi, h]
theorem ovV_inj (v v' : OV) (h : ovV v = ovV v') : v = v' := by
 obtain ⟨t, a, n, c⟩ := v
 obtain ⟨t', a', n', c'⟩ := v'
 simp only [ovV, Value.agg.injEq, Array.mk.injEq, List.cons.injEq, Value.int.injEq, Value.slice.injEq, true_and, and_true] at h
 obtain ⟨rfl, rfl, rfl, rfl⟩ := h
 rfl
def obM : MK Int OV where
 tk := 3
 te := 47
 tm := 50
 kv := Value.int .i64
 kl := Lit.int .i64
 kok := fun z => -9223372036854775808 <= z /\ z <= 9223372036854775807
 ev := ovV
 R := obRd
 z := (0, none, 0, 0)
 hK := Maps.int_keyed Tryz.underlying3
 hm := Tryz.underlying50
 hkey := fun k hk => Maps.keyOf_int_mk Tryz.underlying3 (WalkArith.wf_i64 hk)
 hinj := fun k k' h => by simpa using h
 hev := ovV_inj
 hRi := obR_inj
 hz := zero_ob
 hzo := ⟨_, rfl⟩
theorem zero_le (w : World) : (zeroValue 3).run Tryz.prog w = .ok (.int .i64 0) w := by
 obtain ⟨i0, hi0, hz0, hz1, hz2⟩ := info_parts info_inS
 simp [zeroValue, typeInfo, hi0, hz0]
def inR : Value -> Option (DataW Unit × List MemPlace)
 | .int .i64 a => if -9223372036854775808 <= a /\ a <= 9223372036854775807 then some (.lit (.int .i64 a), []) else none
 | _ => none
theorem inR_yes {a : Int} (h : -9223372036854775808 <= a /\ a <= 9223372036854775807) : inR (.int .i64 a) = some (.lit (.int .i64 a), []) := if_pos h
theorem inR_inv {v : Value} {y : DataW Unit × List MemPlace} (h : inR v = some y) : ∃ a, v = .int .i64 a /\ y = (.lit (.int .i64 a), []) /\ -9223372036854775808 <= a /\ a <= 9223372036854775807 := by
 unfold inR at h
 split at h
 ·rename_i a
  split at h
  ·rename_i ha
   exact ⟨a, rfl, (Option.some.inj h).symm, ha⟩
  ·cases h
 ·cases h
def leM : MK ByteArray Int where
 tk := 9
 te := 3
 tm := 75
 kv := Value.string
 kl := fun s => Lit.string s.data.toList
 kok := fun s => s.size <= maxLen
 ev := Value.int .i64
 R := inR
 z := 0
 hK := Maps.string_keyed Tryz.underlying9
 hm := Tryz.underlying75
 hkey := fun k hk => WideMaps.keyOf_string_mk Tryz.underlying9 hk
 hinj := fun k k' h => by simp only [Lit.string.injEq] at h; exact str_inj h
 hev := fun v v' h => by simpa using h
 hRi := fun v v' d ps ps' h h' => by
  obtain ⟨a, rfl, h1, _⟩ := inR_inv h
  obtain ⟨a', rfl, h2, _⟩ := inR_inv h'
  have e := (Prod.mk.inj h1).1.symm.trans (Prod.mk.inj h2).1
  simp at e
  rw [e]
 hz := zero_le
 hzo := ⟨_, inR_yes (by decide)⟩
theorem le_eok {v : Int} (h : -9223372036854775808 <= v /\ v <= 9223372036854775807) : leM.Eok v := ⟨_, inR_yes h⟩
theorem ob_eok {w : World} {a : Option Addr} {c : Nat} {l : List Int} (t : Int) (hb : Bs w a c l) (hl : l ≠ []) : obM.Eok (t, a, l.length, c) := by
 obtain ⟨b, off, rfl, _⟩ := hb.2.2.2.2 hl
 exact ⟨_, rfl⟩
end Go.Proofs.YtifmemombecoaaaGreatDoor
namespace Go.Proofs.YtifmemombecoaaaGreatDoor
open Go.RowKit
set_option linter.unusedVariables false
def Rw (w : World) (g T : Nat) (xs : List Value) : Prop := w.heap[g]? = some (.cells xs.toArray T (0, 0))
section
variable {w w' : World} {g T : Nat} {xs : List Value}
theorem Rw.lt (h : Rw w g T xs) : g < w.heap.size := (Array.getElem?_eq_some_iff.1 h).1
theorem Rw.same (h : Rw w g T xs) (hs : w'.heap[g]? = w.heap[g]?) : Rw w' g T xs := hs.trans h
theorem Rw.cell (h : Rw w g T xs) {i : Nat} {v : Value} (hx : xs[i]? = some v) : w.cell? ⟨g, i, none⟩ = some v := by
 rw [cell_of_row _ _ _ _ _ _ h]
 simpa using hx
theorem Rw.has (h : Rw w g T xs) {i : Nat} (hi : i < xs.length) : ∃ v, w.cell? ⟨g, i, none⟩ = some v := ⟨xs[i], h.cell (List.getElem?_eq_getElem hi)⟩
theorem Rw.frozen (h : Rw w g T xs) (i : Nat) : w.frozen? ⟨g, i, none⟩ = false := frozen_of_row w g i _ T h
theorem Rw.set (h : Rw w g T xs) (i : Nat) (v : Value) : Rw (w.setCell ⟨g, i, none⟩ v) g T (xs.set i v) := by
 unfold Rw
 rw [heap_setCell_same w g i xs.toArray T v h]
 simp
theorem Rw.row (h : Rw w g T xs) (ys : List Value) : Rw (w.setRow g ys.toArray) g T ys := setRow_heap w g _ _ T _ h
end
theorem run_clear_rw (w : World) (dT e ty : TypeId) (z : Value) (hu : Tryz.prog.underlying dT = some (.slice e)) (hz : ∀ w, (zeroValue e).run Tryz.prog w = .ok z w) (hcs : z.cells = #[z]) (h1 : z.oneCell' = true) (g off n c : Nat) (xs : List Value) (h0 : 0 < n) (hfit : off + n <= xs.length) (hg : Rw w g e xs) :
  (Builtin.clear_ #[dT] ty #[.slice (some ⟨g, off, none⟩) n c]).run Tryz.prog w = .ok (.tuple #[]) (w.setRow g (splice xs off (List.replicate n z)).toArray) := by
 have hst := run_storeCells_at Tryz.prog g off e (List.replicate n z) 0 xs.toArray w hg (by simp; omega) (fun v hv => by rw [(List.mem_replicate.1 hv).2]; exact h1)
 have hzc : (Builtin.zeroCells z.cells n).toList = List.replicate n z := by
  rw [hcs]
  simp [Builtin.zeroCells]
  apply List.ext_getElem
  ·simp
  ·intro i h1 h2
   simp [Nat.mod_one]
 obtain ⟨m, rfl⟩ : ∃ m, n = m + 1 := ⟨n - 1, by omega⟩
 have hst' : (storeCells ⟨g, off, none⟩ (List.replicate (m + 1) z)).run Tryz.prog w = .ok () (w.setRow g (splice xs off (List.replicate (m + 1) z)).toArray) := by
  simpa [splice] using hst
 simp only [Builtin.clear_, run_underlying hu, hz, hzc, hst', Sem.run_bind, Sem.run_pure, Result.andThen, List.getElem?_toArray, List.getElem?_cons_zero]
theorem take_map_of {κ : Type} {l : List κ} {xs : List Value} {f : κ -> Value} (h : ∀ (i : Nat) x, l[i]? = some x -> xs[i]? = some (f x)) : xs.take l.length = l.map f := by
 apply List.ext_getElem?
 intro i
 rw [List.getElem?_take, List.getElem?_map]
 by_cases hi : i < l.length
 ·rw [if_pos hi, List.getElem?_eq_getElem hi, h i _ (List.getElem?_eq_getElem hi)]
  rfl
 ·rw [if_neg hi, List.getElem?_eq_none (by omega)]
  rfl
theorem drop_set0 {α : Type} {xs : List α} {n : Nat} {v : α} (h : n < xs.length) : (xs.drop n).set 0 v = v :: xs.drop (n + 1) := by
 rw [List.drop_eq_getElem_cons h]
 rfl
theorem splice_take {α : Type} {xs l : List α} {n off : Nat} (h : n <= off) (hf : off <= xs.length) : (splice xs off l).take n = xs.take n := by
 unfold splice
 rw [List.take_append_of_le_length (by rw [List.length_take]; omega), List.take_take, Nat.min_eq_left h]
theorem splice_len {α : Type} {xs l : List α} {off : Nat} (h : off + l.length <= xs.length) : (splice xs off l).length = xs.length := by
 simp [splice]; omega
theorem cell_new1 (w : World) (v : Value) (T : Nat) : (w.alloc (.cells #[v] T)).cell? ⟨w.heap.size, 0, none⟩ = some v := by
 rw [cell_of_row _ _ _ _ _ _ (heap_alloc_new w _)]
 rfl
theorem cell_old {w : World} {a : Addr} {v : Value} (o : Obj) (h : w.cell? a = some v) : (w.alloc o).cell? a = some v :=
 (((Below.refl w.heap.size w).alloc (Nat.le_refl _) o).cell (block_lt_of_cell h)).trans h
theorem Lst.lowM {α : Type} {enc : α -> List Value} {k T : Nat} {w : World} {B B' : Nat} {v : Value} {l : List α} (h : Lst enc k T w B v l) (hB : B' <= B) : Lst enc k T w B' v l := by
 refine ⟨h.1, ?_⟩
 rcases h.2 with h0 | ⟨g, cap, cur, e, hb, r⟩
 ·exact .inl h0
 ·exact .inr ⟨g, cap, cur, e, Nat.le_trans hB hb, r⟩
def sgC (s : ByteArray) : List Value := [.string s]
theorem sgC_len (s : ByteArray) : (sgC s).length = 1 := rfl
theorem sgC_one (s : ByteArray) : ∀ u ∈ sgC s, u.oneCell' = true := by
 intro u hu
 simp [sgC] at hu
 subst hu
 rfl
theorem flatO (l : List Int) : l.flatMap inC = l.map (Value.int .i64) := by
 induction l with
 | nil => rfl
 | cons x r ih => rw [List.flatMap_cons, List.map_cons, ih]; rfl
theorem flatS (l : List ByteArray) : l.flatMap sgC = l.map Value.string := by
 induction l with
 | nil => rfl
 | cons x r ih => rw [List.flatMap_cons, List.map_cons, ih]; rfl
theorem zero_str (w : World) : (zeroValue 9).run Tryz.prog w = .ok (.string ByteArray.empty) w := by
 have h : (Tryz.prog.info? 9).map (fun i => i.zero) = some (some (.string ByteArray.empty)) := by kernel_rfl
 cases hi : Tryz.prog.info? 9 with
 | none => rw [hi] at h; cases h
 | some i =>
  rw [hi] at h
  simp at h
  simp [zeroValue, typeInfo, hi, h]
end Go.Proofs.YtifmemombecoaaaGreatDoor
namespace Go.Proofs.YtifmemombecoaaaGreatDoor
open Go.RowKit Go.Maps Go.Shelf
set_option linter.unusedVariables false
theorem cloneO (g n : Nat) (F : Int -> Option OV) (w : World) (h : Mp obM w g n F) :
  Calls Tryz.prog 43 #[.map (some g)] w fun e w' => ∃ gE, e = .returned (.map (some gE)) /\ w.heap.size <= gE /\ Mp obM w' gE n F /\ Below w.heap.size w w' := by
 obtain ⟨D, h1, h2⟩ := h
 have c := AnyW.maps_Clone_owns mcO (obM).tk (obM).R g n D w h1
 change Calls Tryz.prog 43 _ _ _ at c
 refine c.mono ?_
 rintro e w' ⟨rfl, o1, o2, hb⟩
 exact ⟨_, rfl, Nat.le_refl _, ⟨D, o1, h2⟩, hb⟩
theorem obR_shape {v : Value} {y : DataW Unit × List MemPlace} (h : obRd v = some y) : ∃ x : OV, v = ovV x := by
 unfold obRd at h
 split at h
 ·rename_i cs
  split at h
  ·rename_i s n c e
   exact ⟨(s, none, n, c), by rw [ovV]; congr 1; exact Array.ext' e⟩
  ·rename_i s b o n c e
   exact ⟨(s, some ⟨b, o, none⟩, n, c), by rw [ovV]; congr 1; exact Array.ext' e⟩
  ·cases h
 ·cases h
set_option maxHeartbeats 4000000 in
set_option maxRecDepth 100000 in
theorem copyO (bd bs nd ns : Nat) (F G : Int -> Option OV) (w : World) (hd : Mp obM w bd nd F) (hs : Mp obM w bs ns G) (hne : bd ≠ bs) (hroom : nd + ns <= 100000) :
  Calls Tryz.prog 44 #[.map (some bd), .map (some bs)] w fun e w' => e = .returned (.tuple #[]) /\ Mp obM w' bd (nd + ns) (overF F G) /\ w.grownBy w' (some bd) := by
 obtain ⟨Dd, o1, h1⟩ := hd
 obtain ⟨Ds, o2, h2⟩ := hs
 have HF1 := hide h1
 have HF2 := hide h2
 have o1 : w.ownsMap Tryz.prog 3 obRd bd nd Dd := o1
 have o2 : w.ownsMap Tryz.prog 3 obRd bs ns Ds := o2
 have hsz := o2.size_le
 have hbd := o1.lt
 have hbs := o2.lt
 have hmx : nd + ns < maxLen := by unfold maxLen; omega
 have K : Keyed Tryz.prog 3 := (obM).hK
 clear h1 h2
 go_enter Tryz.func44, Tryz.ntmps44
 go_wp2_with (first
  | (at_range; refine wpList_range_own _ rfl _ 50 rfl 3 47 K Tryz.underlying50 obRd bs ns _ rfl o2 ?_; intro w0 hrg0 hg0 hs0)
  | go_in)
 go_frame
 go_loopw [4, 5] (fun _ _ wr => ∃ (left : Lit -> Bool) (cnt : Nat) (Dout : DataW Unit), wr.ranges Tryz.prog 3 obRd bs w.heap.size ns Ds left cnt /\ cnt <= Maps.size Ds /\
   wr.ownsMap Tryz.prog 3 obRd bd (nd + (Maps.size Ds - cnt)) Dout /\ Hid (Merged Dout Dd Ds left) /\ w.grownBy wr (some bd))
  (fun _ _ wr => wr.rangeLeft bs w.heap.size)
 case atStart =>
  exact ⟨_, _, Dd, hrg0, Nat.le_refl _, (o1.kept hg0 (by simp)).mono (by omega), hide (merged_start Dd Ds), hg0.but _⟩
 case round =>
  obtain ⟨left, cnt, Dout, hrg, hcs, hout, HM, hgw⟩ := hrel
  go_wp2_with (first
   | (at_next; refine wpList_next_ranges _ rfl _ rfl 3 K obRd id ovV (fun key _ _ => ⟨key, rfl⟩) (fun v _ h => obR_shape h) bs w.heap.size ns _ _ _ rfl hrg ?_ ?_)
   | go_in)
  ·intro hc0 hl0
   go_wp2
   go_end0
   subst hc0
   refine ⟨rfl, Mp.mono (Mp.over (M := obM) (unhide HF1) (unhide HF2) (unhide HM) hl0 (show wr.ownsMap Tryz.prog (obM).tk (obM).R bd _ Dout from hout)) (by omega), hgw⟩
  ·intro x ct ca cn cc kl yd yp w1 cnt1 hkey hlx hv hat hrg1 hlt hg1 hs1 hen
   have hout1 := hout.kept hg1 (fun e => by have := Option.some.inj e; omega)
   dsimp only [ovV, id] at *
   have hgA : w1.grownBy (w1.alloc (.cells #[.int .i64 ct, .slice ca cn cc] 47)) none := World.grownBy_alloc w1 _ _
   have houtA := hout1.kept hgA (by simp)
   have hrgA := hrg1.kept hgA (by simp) (by simp)
   go_wp2_with (first
    | (at_mapUpdate; refine wpList_mapUpdate_own _ rfl _ _ _ 50 rfl 3 47 K Tryz.underlying50 obRd bd _ _ rfl houtA (by omega) _ _ _ rfl rfl hkey yd yp hv ?_; intro w2 hout2 hg2; go_frame)
    | go_in)
   have hrg2 := hrgA.kept hg2 (fun e => hne (Option.some.inj e).symm) (fun e => by have := Option.some.inj e; omega)
   go_roundw
   case rel =>
    exact ⟨_, cnt1, _, hrg2, by omega, hout2.mono (by omega), hide (merged_step (unhide HM) hout.isMap (K.key hkey) hat), ((hgw.andThen hg1 (fun j hj => .inl (by cases hj; exact Nat.le_refl _))).andThen (hgA.but _) (fun j hj => .inr hj)).andThen hg2 (fun j hj => .inr hj)⟩
   case measure => rw [hrg2.left_eq, hrg.left_eq]; exact hlt
theorem cloneS (g n : Nat) (F : ByteArray -> Option Int) (w : World) (h : Mp leM w g n F) :
  Calls Tryz.prog 56 #[.map (some g)] w fun e w' => ∃ gE, e = .returned (.map (some gE)) /\ w.heap.size <= gE /\ Mp leM w' gE n F /\ Below w.heap.size w w' := by
 obtain ⟨D, h1, h2⟩ := h
 have c := AnyW.maps_Clone_owns mcS (leM).tk (leM).R g n D w h1
 change Calls Tryz.prog 56 _ _ _ at c
 refine c.mono ?_
 rintro e w' ⟨rfl, o1, o2, hb⟩
 exact ⟨_, rfl, Nat.le_refl _, ⟨D, o1, h2⟩, hb⟩
theorem inR_shape {v : Value} {y : DataW Unit × List MemPlace} (h : inR v = some y) : ∃ x : Int, v = Value.int .i64 x := by
 obtain ⟨a, rfl, _⟩ := inR_inv h
 exact ⟨a, rfl⟩
set_option maxHeartbeats 4000000 in
set_option maxRecDepth 100000 in
theorem copyS (bd bs nd ns : Nat) (F G : ByteArray -> Option Int) (w : World) (hd : Mp leM w bd nd F) (hs : Mp leM w bs ns G) (hne : bd ≠ bs) (hroom : nd + ns <= 100000) :
  Calls Tryz.prog 86 #[.map (some bd), .map (some bs)] w fun e w' => e = .returned (.tuple #[]) /\ Mp leM w' bd (nd + ns) (overF F G) /\ w.grownBy w' (some bd) := by
 obtain ⟨Dd, o1, h1⟩ := hd
 obtain ⟨Ds, o2, h2⟩ := hs
 have HF1 := hide h1
 have HF2 := hide h2
 have o1 : w.ownsMap Tryz.prog 9 inR bd nd Dd := o1
 have o2 : w.ownsMap Tryz.prog 9 inR bs ns Ds := o2
 have hsz := o2.size_le
 have hbd := o1.lt
 have hbs := o2.lt
 have hmx : nd + ns < maxLen := by unfold maxLen; omega
 have K : Keyed Tryz.prog 9 := (leM).hK
 clear h1 h2
 go_enter Tryz.func86, Tryz.ntmps86
 go_wp2_with (first
  | (at_range; refine wpList_range_own _ rfl _ 75 rfl 9 3 K Tryz.underlying75 inR bs ns _ rfl o2 ?_; intro w0 hrg0 hg0 hs0)
  | go_in)
 go_frame
 go_loopw [4, 5] (fun _ _ wr => ∃ (left : Lit -> Bool) (cnt : Nat) (Dout : DataW Unit), wr.ranges Tryz.prog 9 inR bs w.heap.size ns Ds left cnt /\ cnt <= Maps.size Ds /\
   wr.ownsMap Tryz.prog 9 inR bd (nd + (Maps.size Ds - cnt)) Dout /\ Hid (Merged Dout Dd Ds left) /\ w.grownBy wr (some bd))
  (fun _ _ wr => wr.rangeLeft bs w.heap.size)
 case atStart =>
  exact ⟨_, _, Dd, hrg0, Nat.le_refl _, (o1.kept hg0 (by simp)).mono (by omega), hide (merged_start Dd Ds), hg0.but _⟩
 case round =>
  obtain ⟨left, cnt, Dout, hrg, hcs, hout, HM, hgw⟩ := hrel
  go_wp2_with (first
   | (at_next; refine wpList_next_ranges _ rfl _ rfl 9 K inR id (Value.int .i64) (fun key _ _ => ⟨key, rfl⟩) (fun v _ h => inR_shape h) bs w.heap.size ns _ _ _ rfl hrg ?_ ?_)
   | go_in)
  ·intro hc0 hl0
   go_wp2
   go_end0
   subst hc0
   refine ⟨rfl, Mp.mono (Mp.over (M := leM) (unhide HF1) (unhide HF2) (unhide HM) hl0 (show wr.ownsMap Tryz.prog (leM).tk (leM).R bd _ Dout from hout)) (by omega), hgw⟩
  ·intro x c kl yd yp w1 cnt1 hkey hlx hv hat hrg1 hlt hg1 hs1 hen
   have hout1 := hout.kept hg1 (fun e => by have := Option.some.inj e; omega)
   go_wp2_with (first
    | (at_mapUpdate; refine wpList_mapUpdate_own _ rfl _ _ _ 75 rfl 9 3 K Tryz.underlying75 inR bd _ _ rfl hout1 (by omega) _ _ _ rfl rfl hkey yd yp hv ?_; intro w2 hout2 hg2; go_frame)
    | go_in)
   have hrg2 := hrg1.kept hg2 (fun e => hne (Option.some.inj e).symm) (fun e => by have := Option.some.inj e; omega)
   go_roundw
   case rel =>
    exact ⟨_, cnt1, _, hrg2, by omega, hout2.mono (by omega), hide (merged_step (unhide HM) hout.isMap (K.key hkey) hat), (hgw.andThen hg1 (fun j hj => .inl (by cases hj; exact Nat.le_refl _))).andThen hg2 (fun j hj => .inr hj)⟩
   case measure => rw [hrg2.left_eq, hrg.left_eq]; exact hlt
end Go.Proofs.YtifmemombecoaaaGreatDoor
namespace Go.Proofs.YtifmemombecoaaaGreatDoor
open Go.RowKit Go.Shelf
set_option linter.unusedVariables false
def SaysO (w : World) (B : Nat) (f : Nat) (lb : Array Value) (l : List Int) (p : Int -> Bool) : Prop :=
 ∀ (W : World) (x : Int), x ∈ l -> Below B w W -> Calls Tryz.prog f (#[(Value.int .i64) x] ++ lb) W fun e w' => e = .returned (.bool (p x)) /\ Below W.heap.size W w'
set_option maxRecDepth 100000 in
set_option maxHeartbeats 1000000 in
theorem idxO (f : Nat) (lb : Array Value) (p : Int -> Bool) (l : List Int) (B g o c : Nat) (w : World) (xs : List Value) (eg : ∀ args w, (callFunc f args).run Tryz.prog w = .ok (.enter f args) w) (hp : SaysO w B f lb l p) (hB : B <= w.heap.size) (hg : Rw w g 3 xs) (hx : ∀ (i : Nat) x, l[i]? = some x -> xs[o + i]? = some ((Value.int .i64) x)) (hl : l.length <= 1000) :
  Calls Tryz.prog 74 #[.slice (some ⟨g, o, none⟩) l.length c, .func (.func f) #[] lb] w fun e w' => ∃ z : Int, e = .returned (.int .i64 z) /\ Below w.heap.size w w' /\ ((z = -1 /\ ∀ x ∈ l, p x = false) \/ ∃ k : Nat, z = k /\ k < l.length /\ (∀ (j : Nat) x, j < k -> l[j]? = some x -> p x = false) /\ ∃ x, l[k]? = some x /\ p x = true) := by
 have HP := hide hp
 have HG := hide hg
 have HX := hide hx
 clear hp hg hx
 go_enter Tryz.func74, Tryz.ntmps74
 go_wp2
 go_loopw [5, 8] (fun _ iv wr => ∃ k : Nat, k <= l.length /\ iv = .int .i64 k /\ Hid (∀ (j : Nat) x, j < k -> l[j]? = some x -> p x = false) /\ Below w.heap.size w wr) (fun _ iv _ => l.length - (intOf iv).toNat)
 case atStart => exact ⟨0, Nat.zero_le _, rfl, hide (fun j x hj _ => absurd hj (Nat.not_lt_zero _)), Below.refl _ _⟩
 case round =>
  obtain ⟨k, hk, rfl, HK, hb⟩ := hrel
  by_cases hlt : k < l.length
  ·obtain ⟨x, hxk⟩ : ∃ x, l[k]? = some x := ⟨l[k], List.getElem?_eq_getElem hlt⟩
   have hcell := ((unhide HG).same (hb.block g (unhide HG).lt)).cell (unhide HX k x hxk)
   have hcall := unhide HP wr x (List.mem_of_getElem? hxk) (hb.mono hB)
   have HXK := hide hxk
   have HBE := hide hb
   clear hxk hb
   cases hq : p x with
   | false =>
    rw [hq] at hcall
    go_wp2_with (go_at_fn f; refine hcall.mono ?_; rintro e w1 ⟨rfl, hb1⟩)
    go_roundw
    case rel => exact ⟨k + 1, by omega, by go_num, hide (fun j y hj hy => by
     by_cases e : j = k
     ·subst e
      have := (unhide HXK).symm.trans hy
      rw [<- Option.some.inj this]
      exact hq
     ·exact unhide HK j y (by omega) hy), (unhide HBE).trans (hb1.mono (unhide HBE).size)⟩
    case measure => simp [intOf]; omega
   | true =>
    rw [hq] at hcall
    go_wp2_with (go_at_fn f; refine hcall.mono ?_; rintro e w1 ⟨rfl, hb1⟩)
    go_ret
    exact ⟨(k : Int), rfl, (unhide HBE).trans (hb1.mono (unhide HBE).size), .inr ⟨k, rfl, hlt, unhide HK, x, unhide HXK, hq⟩⟩
  ·have hge : ¬ ((k : Int) < (l.length : Int)) := by omega
   have HBE := hide hb
   clear hb
   go_wp2
   go_ret
   exact ⟨-1, rfl, unhide HBE, .inl ⟨rfl, fun x hxm => by
    obtain ⟨j, hj⟩ := List.mem_iff_getElem?.1 hxm
    have := (List.getElem?_eq_some_iff.1 hj).1
    exact unhide HK j x (by omega) hj⟩⟩
set_option maxRecDepth 100000 in
set_option maxHeartbeats 2000000 in
theorem del_rowO (f : Nat) (lb : Array Value) (p : Int -> Bool) (l : List Int) (B g o c : Nat) (w : World) (xs0 : List Value) (eg : ∀ args w, (callFunc f args).run Tryz.prog w = .ok (.enter f args) w) (hp : SaysO w B f lb l p) (hB : B <= w.heap.size) (hgB : B <= g) (ho : o = 0) (hg : Rw w g 3 xs0) (hx : ∀ (i : Nat) x, l[i]? = some x -> xs0[o + i]? = some ((Value.int .i64) x)) (hl : l.length <= 1000) (hc : l.length <= c) (hxl : xs0.length = c) :
  Calls Tryz.prog 45 #[.slice (some ⟨g, o, none⟩) l.length c, .func (.func f) #[] lb] w fun e w' => e = .returned (.slice (some ⟨g, o, none⟩) (l.filter fun x => !p x).length c) /\ ∃ xs, Rw w' g 3 xs /\ xs.length = c /\ xs.take (l.filter fun x => !p x).length = (l.filter fun x => !p x).map (Value.int .i64) /\ Below B w w' := by
 have HI := hide (idxO f lb p l B g o c w xs0 eg hp hB hg hx hl)
 have HP := hide hp
 have HG := hide hg
 have HX := hide hx
 have hgl := hg.lt
 have HF : Hid ((l.filter fun x => !p x) = (l.take l.length).filter fun x => !p x) := hide (by rw [List.take_length])
 have hpre : ∀ i, i < l.length -> ∃ x, l[i]? = some x := fun i hi => ⟨l[i], List.getElem?_eq_getElem hi⟩
 have HPRE := hide hpre
 have HO := hide ho
 have HXL := hide hxl
 clear hp hg hx hpre ho hxl
 go_enter Tryz.func45, Tryz.ntmps45
 go_wp2_with fail
 refine (unhide HI).mono ?_
 rintro e w1 ⟨z, rfl, hb1, hz⟩
 have HB1 := hide hb1
 clear hb1 HI
 rcases hz with ⟨rfl, hall⟩ | ⟨k0, rfl, hk0, hbef, x0, hx0, hp0⟩
 ·have hfil : (l.filter fun x => !p x) = l := List.filter_eq_self.2 (fun x hxm => by rw [hall x hxm]; rfl)
  have HFL := hide hfil
  have HALL := hide hall
  clear hfil hall HF
  go_wp2
  go_ret
  refine ⟨by rw [unhide HFL]; rfl, xs0, (unhide HG).same ((unhide HB1).block g hgl), unhide HXL, ?_, (unhide HB1).mono hB⟩
  rw [unhide HFL]
  exact take_map_of (fun i x h => by have := unhide HX i x h; rw [unhide HO, Nat.zero_add] at this; exact this)
 ·have HBEF := hide hbef
  have HX0 := hide hx0
  have HP0 := hide hp0
  clear hbef hx0 hp0
  have hne1 : ((k0 : Int) == -1) = false := beq_eq_false_iff_ne.2 (by omega)
  have HST : Hid ((l.take (k0 + 1)).filter (fun x => !p x) = l.take k0) := hide (by
   rw [List.take_add_one, unhide HX0]
   simp only [Option.toList_some, List.filter_append, List.filter_cons, unhide HP0, Bool.not_true, if_neg Bool.false_ne_true, List.filter_nil, List.append_nil]
   refine List.filter_eq_self.2 (fun x hxm => ?_)
   obtain ⟨j, hj⟩ := List.mem_iff_getElem?.1 hxm
   have hjl := (List.getElem?_eq_some_iff.1 hj).1
   rw [List.length_take] at hjl
   rw [List.getElem?_take, if_pos (by omega)] at hj
   rw [unhide HBEF j x (by omega) hj]
   rfl)
  have HKL : Hid ((l.take k0).length = k0) := hide (by rw [List.length_take]; omega)
  go_wp2_with fail
  go_loopw [5, 6, 7] (fun iv jv _ wr => ∃ (j : Nat) (K : List Int) (xs : List Value), j <= l.length /\ K.length < j /\ iv = .int .i64 (K.length : Int) /\ jv = .int .i64 (j : Int) /\ Hid (K = (l.take j).filter fun x => !p x) /\ Hid (xs = K.map (Value.int .i64) ++ xs0.drop K.length) /\ Rw wr g 3 xs /\ Below B w wr) (fun _ jv _ _ => l.length - (intOf jv).toNat)
  case atStart => exact ⟨k0 + 1, l.take k0, xs0, by omega, by rw [unhide HKL]; omega, by rw [unhide HKL], by go_num, hide (unhide HST).symm, hide (by
   have := take_map_of (l := l) (xs := xs0) (f := (Value.int .i64)) (fun i x h => by have := unhide HX i x h; rw [unhide HO, Nat.zero_add] at this; exact this)
   rw [unhide HKL, List.map_take, <- this, List.take_take, Nat.min_eq_left (by omega), List.take_append_drop]), (unhide HG).same ((unhide HB1).block g hgl), (unhide HB1).mono hB⟩
  case round =>
   obtain ⟨j, K, xs, hj, hKj, rfl, rfl, HK, HXS, hrw, hb⟩ := hrel
   have hxlen : xs.length = xs0.length := by rw [unhide HXS, List.length_append, List.length_map, List.length_drop]; have := unhide HXL; omega
   have hxc := unhide HXL
   have ho0 := unhide HO
   have HXLEN := hide (hxlen.trans hxc)
   by_cases hlt : j < l.length
   ·obtain ⟨x, hxj⟩ := unhide HPRE j hlt
    have hcell := hrw.cell (i := o + j) (v := (Value.int .i64) x) (by
     have h1 := unhide HX j x hxj
     rw [unhide HO, Nat.zero_add] at h1 ⊢
     rw [unhide HXS, List.getElem?_append_right (by rw [List.length_map]; omega), List.length_map, List.getElem?_drop, show K.length + (j - K.length) = j by omega]
     exact h1)
    obtain ⟨old, hold⟩ := hrw.has (i := o + K.length) (by omega)
    have hfz := hrw.frozen (o + K.length)
    have hcall := unhide HP wr x (List.mem_of_getElem? hxj) hb
    have hgr := hrw.lt
    have HRW := hide hrw
    have HBE := hide hb
    have HXJ := hide hxj
    have hltz : (j : Int) < (l.length : Int) := by omega
    have hkl : K.length < l.length := by omega
    have HTK : Hid ((l.take (j + 1)).filter (fun x => !p x) = K ++ (if p x = true then [] else [x])) := hide (by
     rw [List.take_add_one, unhide HXJ, unhide HK]
     simp only [Option.toList_some, List.filter_append, List.filter_cons, List.filter_nil]
     cases p x <;> rfl)
    generalize hKN : K.length = N at *
    have HKN := hide hKN
    clear hrw hb hxj hKN hxlen hxc ho0
    cases hq : p x with
    | true =>
     rw [hq] at hcall
     go_wp2_with (go_at_fn f; refine hcall.mono ?_; rintro e w2 ⟨rfl, hb2⟩)
     go_roundw
     case rel => exact ⟨j + 1, K, xs, by omega, by rw [unhide HKN]; omega, by rw [unhide HKN], by go_num, hide (by rw [unhide HTK, if_pos hq, List.append_nil]), by rw [unhide HKN]; exact HXS, (unhide HRW).same (hb2.block g hgr), (unhide HBE).trans (hb2.mono (unhide HBE |>.size |> Nat.le_trans hB))⟩
     case measure => simp [intOf]; omega
    | false =>
     rw [hq] at hcall
     go_wp2_with (go_at_fn f; refine hcall.mono ?_; rintro e w2 ⟨rfl, hb2⟩; rw [<- hb2.cell (p := ⟨g, o + N, none⟩) hgr] at hold; rw [<- hb2.frozen (p := ⟨g, o + N, none⟩) hgr] at hfz)
     have hrw2 := (unhide HRW).same (hb2.block g hgr)
     go_roundw
     case rel => exact ⟨j + 1, K ++ [x], xs.set (o + N) ((Value.int .i64) x), by omega, by rw [List.length_append, unhide HKN]; simp; omega, by rw [List.length_append, unhide HKN]; go_num, by go_num, hide (by rw [unhide HTK, if_neg (by rw [hq]; simp)]), hide (by
      rw [unhide HXS, unhide HO, Nat.zero_add, List.length_append, List.length_singleton, unhide HKN, List.map_append, List.set_append_right _ _ (by rw [List.length_map, unhide HKN]; omega), List.length_map, unhide HKN, Nat.sub_self, List.append_assoc]
      congr 1
      rw [drop_set0 (by have := unhide HXL; omega)]
      rfl), hrw2.set _ _, ((unhide HBE).trans (hb2.mono (unhide HBE |>.size |> Nat.le_trans hB))).setCell hgB _⟩
     case measure => simp [intOf]; omega
   ·obtain rfl : j = l.length := by omega
    have hltz : ¬ (l.length : Int) < (l.length : Int) := by omega
    have hNc : K.length <= c := by omega
    have hKF : K = l.filter fun x => !p x := (unhide HK).trans (unhide HF).symm
    have HKF := hide hKF
    clear hKF
    have hcl : ∀ ty, (Builtin.clear_ #[25] ty #[.slice (some ⟨g, o + K.length, none⟩) (l.length - K.length) (c - K.length)]).run Tryz.prog wr = .ok (.tuple #[]) (wr.setRow g (splice xs (o + K.length) (List.replicate (l.length - K.length) (.int .i64 0))).toArray) :=
     fun ty => run_clear_rw wr 25 3 ty (.int .i64 0) Tryz.underlying25 zero_le rfl rfl g (o + K.length) (l.length - K.length) (c - K.length) xs (by omega) (by omega) hrw
    have HRW := hide hrw
    have HBE := hide hb
    have hgr := hrw.lt
    generalize hKN : K.length = N at *
    have HKN := hide hKN
    clear hrw hb hKN hxlen hxc ho0
    have hle1 : N <= l.length := by omega
    go_wp2
    go_ret
    refine ⟨by rw [<- unhide HKF, unhide HKN]; rfl, splice xs (o + N) (List.replicate (l.length - N) (.int .i64 0)), (unhide HRW).row _, ?_, ?_, below_setRow (unhide HBE) hgB _⟩
    ·have q1 := unhide HXLEN
     have q2 := unhide HO
     rw [splice_len (by rw [List.length_replicate]; omega)]; exact q1
    ·rw [<- unhide HKF, unhide HKN, unhide HO, Nat.zero_add, splice_take (Nat.le_refl _) (by have := unhide HXLEN; omega), unhide HXS, List.take_append_of_le_length (by rw [List.length_map, unhide HKN]; omega), List.take_of_length_le (by rw [List.length_map, unhide HKN]; omega)]
theorem idx_nilO (f : Nat) (lb : Array Value) (w : World) : Calls Tryz.prog 74 #[.slice none 0 0, .func (.func f) #[] lb] w fun e w' => e = .returned (.int .i64 (-1)) /\ Below w.heap.size w w' := by
 go_enter Tryz.func74, Tryz.ntmps74
 go_wp2
 refine wp_loop_rounds 1 ?_
 rw [rounds_succ]
 go_wp2
 go_ret
 exact ⟨rfl, Below.refl _ _⟩
theorem del_nilO (f : Nat) (lb : Array Value) (w : World) : Calls Tryz.prog 45 #[.slice none 0 0, .func (.func f) #[] lb] w fun e w' => e = .returned (.slice none 0 0) /\ Below w.heap.size w w' := by
 have HI := hide (idx_nilO f lb w)
 go_enter Tryz.func45, Tryz.ntmps45
 go_wp2_with fail
 refine (unhide HI).mono ?_
 rintro e w1 ⟨rfl, hb1⟩
 have HB1 := hide hb1
 clear hb1 HI
 go_wp2
 go_ret
 exact ⟨rfl, unhide HB1⟩
theorem delO (f : Nat) (lb : Array Value) (p : Int -> Bool) (l : List Int) (B : Nat) (v : Value) (w : World) (eg : ∀ args w, (callFunc f args).run Tryz.prog w = .ok (.enter f args) w) (hp : SaysO w B f lb l p) (hB : B <= w.heap.size) (hv : Lst inC 1 3 w B v l) (hl : l.length <= 1000) :
  Calls Tryz.prog 45 #[v, .func (.func f) #[] lb] w fun e w' => ∃ v', e = .returned v' /\ Lst inC 1 3 w' B v' (l.filter fun x => !p x) /\ Below B w w' := by
 obtain ⟨hq, hv | ⟨g, cap, cur, rfl, hgB, hc, h3, h4, h5, h6⟩⟩ := hv
 ·obtain ⟨rfl, h0⟩ := hv
  have hnil : l = [] := List.eq_nil_of_length_eq_zero h0
  subst hnil
  refine (del_nilO f lb w).mono ?_
  rintro e w' ⟨rfl, hb⟩
  exact ⟨_, rfl, Lst.nil _ _, hb.mono hB⟩
 ·rw [Nat.mul_one] at h5 h6
  have hrw : Rw w g 3 cur.toList := by unfold Rw; rw [hc]
  have e6 : cur.toList.take l.length = l.map (Value.int .i64) := by rw [h6]; exact flatO l
  refine (del_rowO f lb p l B g 0 cap w cur.toList eg hp hB hgB rfl hrw (fun i x hi => ?_) hl h3 (by simpa using h5)).mono ?_
  ·have h7 : (cur.toList.take l.length)[i]? = some ((Value.int .i64) x) := by rw [e6, List.getElem?_map, hi]; rfl
   rw [List.getElem?_take, if_pos (List.getElem?_eq_some_iff.1 hi).1] at h7
   rw [Nat.zero_add]
   exact h7
  ·rintro e w' ⟨rfl, xs, hr, hxl, ht, hb⟩
   refine ⟨_, rfl, ⟨by rw [flatO, List.length_map, Nat.mul_one], .inr ⟨g, cap, xs.toArray, rfl, hgB, hr, ?_, h4, by simpa using hxl, ?_⟩⟩, hb⟩
   ·exact Nat.le_trans (List.length_filter_le _ _) h3
   ·rw [Nat.mul_one, flatO]; exact ht
def SaysS (w : World) (B : Nat) (f : Nat) (lb : Array Value) (l : List ByteArray) (p : ByteArray -> Bool) : Prop :=
 ∀ (W : World) (x : ByteArray), x ∈ l -> Below B w W -> Calls Tryz.prog f (#[Value.string x] ++ lb) W fun e w' => e = .returned (.bool (p x)) /\ Below W.heap.size W w'
set_option maxRecDepth 100000 in
set_option maxHeartbeats 1000000 in
theorem idxS (f : Nat) (lb : Array Value) (p : ByteArray -> Bool) (l : List ByteArray) (B g o c : Nat) (w : World) (xs : List Value) (eg : ∀ args w, (callFunc f args).run Tryz.prog w = .ok (.enter f args) w) (hp : SaysS w B f lb l p) (hB : B <= w.heap.size) (hg : Rw w g 9 xs) (hx : ∀ (i : Nat) x, l[i]? = some x -> xs[o + i]? = some (Value.string x)) (hl : l.length <= 1000) :
  Calls Tryz.prog 89 #[.slice (some ⟨g, o, none⟩) l.length c, .func (.func f) #[] lb] w fun e w' => ∃ z : Int, e = .returned (.int .i64 z) /\ Below w.heap.size w w' /\ ((z = -1 /\ ∀ x ∈ l, p x = false) \/ ∃ k : Nat, z = k /\ k < l.length /\ (∀ (j : Nat) x, j < k -> l[j]? = some x -> p x = false) /\ ∃ x, l[k]? = some x /\ p x = true) := by
 have HP := hide hp
 have HG := hide hg
 have HX := hide hx
 clear hp hg hx
 go_enter Tryz.func89, Tryz.ntmps89
 go_wp2
 go_loopw [5, 8] (fun _ iv wr => ∃ k : Nat, k <= l.length /\ iv = .int .i64 k /\ Hid (∀ (j : Nat) x, j < k -> l[j]? = some x -> p x = false) /\ Below w.heap.size w wr) (fun _ iv _ => l.length - (intOf iv).toNat)
 case atStart => exact ⟨0, Nat.zero_le _, rfl, hide (fun j x hj _ => absurd hj (Nat.not_lt_zero _)), Below.refl _ _⟩
 case round =>
  obtain ⟨k, hk, rfl, HK, hb⟩ := hrel
  by_cases hlt : k < l.length
  ·obtain ⟨x, hxk⟩ : ∃ x, l[k]? = some x := ⟨l[k], List.getElem?_eq_getElem hlt⟩
   have hcell := ((unhide HG).same (hb.block g (unhide HG).lt)).cell (unhide HX k x hxk)
   have hcall := unhide HP wr x (List.mem_of_getElem? hxk) (hb.mono hB)
   have HXK := hide hxk
   have HBE := hide hb
   clear hxk hb
   cases hq : p x with
   | false =>
    rw [hq] at hcall
    go_wp2_with (go_at_fn f; refine hcall.mono ?_; rintro e w1 ⟨rfl, hb1⟩)
    go_roundw
    case rel => exact ⟨k + 1, by omega, by go_num, hide (fun j y hj hy => by
     by_cases e : j = k
     ·subst e
      have := (unhide HXK).symm.trans hy
      rw [<- Option.some.inj this]
      exact hq
     ·exact unhide HK j y (by omega) hy), (unhide HBE).trans (hb1.mono (unhide HBE).size)⟩
    case measure => simp [intOf]; omega
   | true =>
    rw [hq] at hcall
    go_wp2_with (go_at_fn f; refine hcall.mono ?_; rintro e w1 ⟨rfl, hb1⟩)
    go_ret
    exact ⟨(k : Int), rfl, (unhide HBE).trans (hb1.mono (unhide HBE).size), .inr ⟨k, rfl, hlt, unhide HK, x, unhide HXK, hq⟩⟩
  ·have hge : ¬ ((k : Int) < (l.length : Int)) := by omega
   have HBE := hide hb
   clear hb
   go_wp2
   go_ret
   exact ⟨-1, rfl, unhide HBE, .inl ⟨rfl, fun x hxm => by
    obtain ⟨j, hj⟩ := List.mem_iff_getElem?.1 hxm
    have := (List.getElem?_eq_some_iff.1 hj).1
    exact unhide HK j x (by omega) hj⟩⟩
set_option maxRecDepth 100000 in
set_option maxHeartbeats 2000000 in
theorem del_rowS (f : Nat) (lb : Array Value) (p : ByteArray -> Bool) (l : List ByteArray) (B g o c : Nat) (w : World) (xs0 : List Value) (eg : ∀ args w, (callFunc f args).run Tryz.prog w = .ok (.enter f args) w) (hp : SaysS w B f lb l p) (hB : B <= w.heap.size) (hgB : B <= g) (ho : o = 0) (hg : Rw w g 9 xs0) (hx : ∀ (i : Nat) x, l[i]? = some x -> xs0[o + i]? = some (Value.string x)) (hl : l.length <= 1000) (hc : l.length <= c) (hxl : xs0.length = c) :
  Calls Tryz.prog 60 #[.slice (some ⟨g, o, none⟩) l.length c, .func (.func f) #[] lb] w fun e w' => e = .returned (.slice (some ⟨g, o, none⟩) (l.filter fun x => !p x).length c) /\ ∃ xs, Rw w' g 9 xs /\ xs.length = c /\ xs.take (l.filter fun x => !p x).length = (l.filter fun x => !p x).map Value.string /\ Below B w w' := by
 have HI := hide (idxS f lb p l B g o c w xs0 eg hp hB hg hx hl)
 have HP := hide hp
 have HG := hide hg
 have HX := hide hx
 have hgl := hg.lt
 have HF : Hid ((l.filter fun x => !p x) = (l.take l.length).filter fun x => !p x) := hide (by rw [List.take_length])
 have hpre : ∀ i, i < l.length -> ∃ x, l[i]? = some x := fun i hi => ⟨l[i], List.getElem?_eq_getElem hi⟩
 have HPRE := hide hpre
 have HO := hide ho
 have HXL := hide hxl
 clear hp hg hx hpre ho hxl
 go_enter Tryz.func60, Tryz.ntmps60
 go_wp2_with fail
 refine (unhide HI).mono ?_
 rintro e w1 ⟨z, rfl, hb1, hz⟩
 have HB1 := hide hb1
 clear hb1 HI
 rcases hz with ⟨rfl, hall⟩ | ⟨k0, rfl, hk0, hbef, x0, hx0, hp0⟩
 ·have hfil : (l.filter fun x => !p x) = l := List.filter_eq_self.2 (fun x hxm => by rw [hall x hxm]; rfl)
  have HFL := hide hfil
  have HALL := hide hall
  clear hfil hall HF
  go_wp2
  go_ret
  refine ⟨by rw [unhide HFL]; rfl, xs0, (unhide HG).same ((unhide HB1).block g hgl), unhide HXL, ?_, (unhide HB1).mono hB⟩
  rw [unhide HFL]
  exact take_map_of (fun i x h => by have := unhide HX i x h; rw [unhide HO, Nat.zero_add] at this; exact this)
 ·have HBEF := hide hbef
  have HX0 := hide hx0
  have HP0 := hide hp0
  clear hbef hx0 hp0
  have hne1 : ((k0 : Int) == -1) = false := beq_eq_false_iff_ne.2 (by omega)
  have HST : Hid ((l.take (k0 + 1)).filter (fun x => !p x) = l.take k0) := hide (by
   rw [List.take_add_one, unhide HX0]
   simp only [Option.toList_some, List.filter_append, List.filter_cons, unhide HP0, Bool.not_true, if_neg Bool.false_ne_true, List.filter_nil, List.append_nil]
   refine List.filter_eq_self.2 (fun x hxm => ?_)
   obtain ⟨j, hj⟩ := List.mem_iff_getElem?.1 hxm
   have hjl := (List.getElem?_eq_some_iff.1 hj).1
   rw [List.length_take] at hjl
   rw [List.getElem?_take, if_pos (by omega)] at hj
   rw [unhide HBEF j x (by omega) hj]
   rfl)
  have HKL : Hid ((l.take k0).length = k0) := hide (by rw [List.length_take]; omega)
  go_wp2_with fail
  go_loopw [5, 6, 7] (fun iv jv _ wr => ∃ (j : Nat) (K : List ByteArray) (xs : List Value), j <= l.length /\ K.length < j /\ iv = .int .i64 (K.length : Int) /\ jv = .int .i64 (j : Int) /\ Hid (K = (l.take j).filter fun x => !p x) /\ Hid (xs = K.map Value.string ++ xs0.drop K.length) /\ Rw wr g 9 xs /\ Below B w wr) (fun _ jv _ _ => l.length - (intOf jv).toNat)
  case atStart => exact ⟨k0 + 1, l.take k0, xs0, by omega, by rw [unhide HKL]; omega, by rw [unhide HKL], by go_num, hide (unhide HST).symm, hide (by
   have := take_map_of (l := l) (xs := xs0) (f := Value.string) (fun i x h => by have := unhide HX i x h; rw [unhide HO, Nat.zero_add] at this; exact this)
   rw [unhide HKL, List.map_take, <- this, List.take_take, Nat.min_eq_left (by omega), List.take_append_drop]), (unhide HG).same ((unhide HB1).block g hgl), (unhide HB1).mono hB⟩
  case round =>
   obtain ⟨j, K, xs, hj, hKj, rfl, rfl, HK, HXS, hrw, hb⟩ := hrel
   have hxlen : xs.length = xs0.length := by rw [unhide HXS, List.length_append, List.length_map, List.length_drop]; have := unhide HXL; omega
   have hxc := unhide HXL
   have ho0 := unhide HO
   have HXLEN := hide (hxlen.trans hxc)
   by_cases hlt : j < l.length
   ·obtain ⟨x, hxj⟩ := unhide HPRE j hlt
    have hcell := hrw.cell (i := o + j) (v := Value.string x) (by
     have h1 := unhide HX j x hxj
     rw [unhide HO, Nat.zero_add] at h1 ⊢
     rw [unhide HXS, List.getElem?_append_right (by rw [List.length_map]; omega), List.length_map, List.getElem?_drop, show K.length + (j - K.length) = j by omega]
     exact h1)
    obtain ⟨old, hold⟩ := hrw.has (i := o + K.length) (by omega)
    have hfz := hrw.frozen (o + K.length)
    have hcall := unhide HP wr x (List.mem_of_getElem? hxj) hb
    have hgr := hrw.lt
    have HRW := hide hrw
    have HBE := hide hb
    have HXJ := hide hxj
    have hltz : (j : Int) < (l.length : Int) := by omega
    have hkl : K.length < l.length := by omega
    have HTK : Hid ((l.take (j + 1)).filter (fun x => !p x) = K ++ (if p x = true then [] else [x])) := hide (by
     rw [List.take_add_one, unhide HXJ, unhide HK]
     simp only [Option.toList_some, List.filter_append, List.filter_cons, List.filter_nil]
     cases p x <;> rfl)
    generalize hKN : K.length = N at *
    have HKN := hide hKN
    clear hrw hb hxj hKN hxlen hxc ho0
    cases hq : p x with
    | true =>
     rw [hq] at hcall
     go_wp2_with (go_at_fn f; refine hcall.mono ?_; rintro e w2 ⟨rfl, hb2⟩)
     go_roundw
     case rel => exact ⟨j + 1, K, xs, by omega, by rw [unhide HKN]; omega, by rw [unhide HKN], by go_num, hide (by rw [unhide HTK, if_pos hq, List.append_nil]), by rw [unhide HKN]; exact HXS, (unhide HRW).same (hb2.block g hgr), (unhide HBE).trans (hb2.mono (unhide HBE |>.size |> Nat.le_trans hB))⟩
     case measure => simp [intOf]; omega
    | false =>
     rw [hq] at hcall
     go_wp2_with (go_at_fn f; refine hcall.mono ?_; rintro e w2 ⟨rfl, hb2⟩; rw [<- hb2.cell (p := ⟨g, o + N, none⟩) hgr] at hold; rw [<- hb2.frozen (p := ⟨g, o + N, none⟩) hgr] at hfz)
     have hrw2 := (unhide HRW).same (hb2.block g hgr)
     go_roundw
     case rel => exact ⟨j + 1, K ++ [x], xs.set (o + N) (Value.string x), by omega, by rw [List.length_append, unhide HKN]; simp; omega, by rw [List.length_append, unhide HKN]; go_num, by go_num, hide (by rw [unhide HTK, if_neg (by rw [hq]; simp)]), hide (by
      rw [unhide HXS, unhide HO, Nat.zero_add, List.length_append, List.length_singleton, unhide HKN, List.map_append, List.set_append_right _ _ (by rw [List.length_map, unhide HKN]; omega), List.length_map, unhide HKN, Nat.sub_self, List.append_assoc]
      congr 1
      rw [drop_set0 (by have := unhide HXL; omega)]
      rfl), hrw2.set _ _, ((unhide HBE).trans (hb2.mono (unhide HBE |>.size |> Nat.le_trans hB))).setCell hgB _⟩
     case measure => simp [intOf]; omega
   ·obtain rfl : j = l.length := by omega
    have hltz : ¬ (l.length : Int) < (l.length : Int) := by omega
    have hNc : K.length <= c := by omega
    have hKF : K = l.filter fun x => !p x := (unhide HK).trans (unhide HF).symm
    have HKF := hide hKF
    clear hKF
    have hcl : ∀ ty, (Builtin.clear_ #[61] ty #[.slice (some ⟨g, o + K.length, none⟩) (l.length - K.length) (c - K.length)]).run Tryz.prog wr = .ok (.tuple #[]) (wr.setRow g (splice xs (o + K.length) (List.replicate (l.length - K.length) (.string ByteArray.empty))).toArray) :=
     fun ty => run_clear_rw wr 61 9 ty (.string ByteArray.empty) Tryz.underlying61 zero_str rfl rfl g (o + K.length) (l.length - K.length) (c - K.length) xs (by omega) (by omega) hrw
    have HRW := hide hrw
    have HBE := hide hb
    have hgr := hrw.lt
    generalize hKN : K.length = N at *
    have HKN := hide hKN
    clear hrw hb hKN hxlen hxc ho0
    have hle1 : N <= l.length := by omega
    go_wp2
    go_ret
    refine ⟨by rw [<- unhide HKF, unhide HKN]; rfl, splice xs (o + N) (List.replicate (l.length - N) (.string ByteArray.empty)), (unhide HRW).row _, ?_, ?_, below_setRow (unhide HBE) hgB _⟩
    ·have q1 := unhide HXLEN
     have q2 := unhide HO
     rw [splice_len (by rw [List.length_replicate]; omega)]; exact q1
    ·rw [<- unhide HKF, unhide HKN, unhide HO, Nat.zero_add, splice_take (Nat.le_refl _) (by have := unhide HXLEN; omega), unhide HXS, List.take_append_of_le_length (by rw [List.length_map, unhide HKN]; omega), List.take_of_length_le (by rw [List.length_map, unhide HKN]; omega)]
theorem idx_nilS (f : Nat) (lb : Array Value) (w : World) : Calls Tryz.prog 89 #[.slice none 0 0, .func (.func f) #[] lb] w fun e w' => e = .returned (.int .i64 (-1)) /\ Below w.heap.size w w' := by
 go_enter Tryz.func89, Tryz.ntmps89
 go_wp2
 refine wp_loop_rounds 1 ?_
 rw [rounds_succ]
 go_wp2
 go_ret
 exact ⟨rfl, Below.refl _ _⟩
theorem del_nilS (f : Nat) (lb : Array Value) (w : World) : Calls Tryz.prog 60 #[.slice none 0 0, .func (.func f) #[] lb] w fun e w' => e = .returned (.slice none 0 0) /\ Below w.heap.size w w' := by
 have HI := hide (idx_nilS f lb w)
 go_enter Tryz.func60, Tryz.ntmps60
 go_wp2_with fail
 refine (unhide HI).mono ?_
 rintro e w1 ⟨rfl, hb1⟩
 have HB1 := hide hb1
 clear hb1 HI
 go_wp2
 go_ret
 exact ⟨rfl, unhide HB1⟩
theorem delS (f : Nat) (lb : Array Value) (p : ByteArray -> Bool) (l : List ByteArray) (B : Nat) (v : Value) (w : World) (eg : ∀ args w, (callFunc f args).run Tryz.prog w = .ok (.enter f args) w) (hp : SaysS w B f lb l p) (hB : B <= w.heap.size) (hv : Lst sgC 1 9 w B v l) (hl : l.length <= 1000) :
  Calls Tryz.prog 60 #[v, .func (.func f) #[] lb] w fun e w' => ∃ v', e = .returned v' /\ Lst sgC 1 9 w' B v' (l.filter fun x => !p x) /\ Below B w w' := by
 obtain ⟨hq, hv | ⟨g, cap, cur, rfl, hgB, hc, h3, h4, h5, h6⟩⟩ := hv
 ·obtain ⟨rfl, h0⟩ := hv
  have hnil : l = [] := List.eq_nil_of_length_eq_zero h0
  subst hnil
  refine (del_nilS f lb w).mono ?_
  rintro e w' ⟨rfl, hb⟩
  exact ⟨_, rfl, Lst.nil _ _, hb.mono hB⟩
 ·rw [Nat.mul_one] at h5 h6
  have hrw : Rw w g 9 cur.toList := by unfold Rw; rw [hc]
  have e6 : cur.toList.take l.length = l.map Value.string := by rw [h6]; exact flatS l
  refine (del_rowS f lb p l B g 0 cap w cur.toList eg hp hB hgB rfl hrw (fun i x hi => ?_) hl h3 (by simpa using h5)).mono ?_
  ·have h7 : (cur.toList.take l.length)[i]? = some (Value.string x) := by rw [e6, List.getElem?_map, hi]; rfl
   rw [List.getElem?_take, if_pos (List.getElem?_eq_some_iff.1 hi).1] at h7
   rw [Nat.zero_add]
   exact h7
  ·rintro e w' ⟨rfl, xs, hr, hxl, ht, hb⟩
   refine ⟨_, rfl, ⟨by rw [flatS, List.length_map, Nat.mul_one], .inr ⟨g, cap, xs.toArray, rfl, hgB, hr, ?_, h4, by simpa using hxl, ?_⟩⟩, hb⟩
   ·exact Nat.le_trans (List.length_filter_le _ _) h3
   ·rw [Nat.mul_one, flatS]; exact ht
end Go.Proofs.YtifmemombecoaaaGreatDoor
namespace Go.Proofs.YtifmemombecoaaaGreatDoor
open Go.RowKit Go.Sort Go.Shelf
set_option linter.unusedVariables false
def RisI (l : List Int) : Prop := l.Pairwise (· < ·)
theorem keysOfO {w : World} {g n : Nat} {F : Int -> Option OV} {D : DataW Unit} {ks : List Int} (hown : w.ownsMap Tryz.prog 3 obRd g n D) (hD : ∀ k, Maps.has D (.int .i64 k) = (F k).isSome) (hnd : RisI ks) (hm : ∀ k, k ∈ ks ↔ (F k).isSome = true) : ks.Perm (intKeys D) := by
 refine CollectedI.perm (left := fun _ => false) ⟨?_, fun z => ?_⟩ hown (Maps.int_keyed Tryz.underlying3) Tryz.underlying3 (fun _ => rfl)
 ·exact hnd.imp (fun {a b} h e => by omega)
 ·rw [hD, hm]
  simp
theorem sizeO {w : World} {g n : Nat} {F : Int -> Option OV} {D : DataW Unit} {ks : List Int} (hown : w.ownsMap Tryz.prog 3 obRd g n D) (hp : ks.Perm (intKeys D)) : Maps.size D = ks.length := by
 have h1 := hp.length_eq
 obtain ⟨es, clock, _, _, _, e⟩ := hown
 rw [e] at h1 ⊢
 unfold intKeys at h1
 rw [List.length_map] at h1
 exact h1.symm
theorem sortedO (gm n : Nat) (D0 : DataW Unit) (ks : List Int) (W : World) (hown : W.ownsMap Tryz.prog 3 obRd gm n D0) (hperm : ks.Perm (intKeys D0)) (hr : RisI ks) (hl : ks.length <= 1000) :
  Calls Tryz.prog 75 #[.func (.func 104) #[] #[.pointer (some ⟨W.heap.size, 0, none⟩)]] (W.alloc (.cells #[.map (some gm)] 50)) fun e w' =>
   ∃ v, e = .returned v /\ Lst inC 1 3 w' W.heap.size v ks /\ Below W.heap.size W w' := by
 have hsz : Maps.size D0 <= 1000 := by rw [sizeO (F := fun _ => none) hown hperm]; exact hl
 have hmax : Maps.size D0 <= maxLen := by unfold maxLen; omega
 have hbytes : Maps.size D0 * 8 <= 140737488355328 := by omega
 have hbl := hown.lt
 have hseq : SeqGives Fence.wide 2 Tryz.prog 104 #[.pointer (some ⟨W.heap.size, 0, none⟩)] encZ (fun ss => ss.Perm (intKeys D0)) (Maps.size D0) (W.alloc (.cells #[.map (some gm)] 50)) :=
  AnyZI.keys_gives (ρ := keysO_ren) { keysO with } Fence.wide _ trivial rfl (by omega) W.heap.size gm n D0 _ (by simp) (by simp) (by
   obtain ⟨es, clock, hb, Ft, hs, hD⟩ := hown
   exact ⟨es, clock, (Below.heap_alloc _ _ gm hbl).trans hb, Ft, hs, hD⟩)
 have cS := AnyZI.sorted_in sortedA Fence.wide 5 trivial trivial trivial trivial rfl (by omega) (sortsA _) (enters_of Tryz.func103 (by kernel_rfl) rfl) 104 #[.pointer (some ⟨W.heap.size, 0, none⟩)] trivial (enters_of Tryz.func104 (by kernel_rfl) rfl) _ _ hmax hbytes _ hseq
 change CallsIn _ _ Tryz.prog 75 _ _ _ at cS
 refine ((callsIn_wide).1 cS).mono ?_
 rintro e w' ⟨dv, ss, rfl, hS, hrow, hnil, hb⟩
 have hrw := ownsRow_base_a (base' := W.heap.size) hrow (by simp)
 have hps := hS.trans hperm.symm
 refine ⟨dv, rfl, ?_, ((Below.refl _ W).alloc (Nat.le_refl _) _).trans (hb.mono (by simp))⟩
 have e : ss.mergeSort (fun x y => decide (x <= y)) = ks := (mergeSort_of_perm_i hps).trans (List.mergeSort_of_pairwise (hr.imp (fun {a b} h => by simp only [decide_eq_true_eq]; omega)))
 unfold Lst
 rw [flatO, <- hps.length_eq]
 rw [e] at hrw
 exact hrw
theorem risingO (g n : Nat) (F : Int -> Option OV) (U : List Int) (w : World) (h : Mp obM w g n F) (hU : RisI U) (hin : ∀ k, (F k).isSome = true -> k ∈ U) (hn : U.length <= 1000) :
  Calls Tryz.prog 46 #[.map (some g)] w fun e w' => ∃ v, e = .returned v /\ Lst inC 1 3 w' w.heap.size v (U.filter fun k => (F k).isSome) /\ Below w.heap.size w w' := by
 obtain ⟨D, hown, hD⟩ := h
 have hr : RisI (U.filter fun k => (F k).isSome) := List.Pairwise.filter _ hU
 have hm : ∀ k, k ∈ (U.filter fun k => (F k).isSome) ↔ (F k).isSome = true := fun k => by
  rw [List.mem_filter]
  exact ⟨fun h => h.2, fun h => ⟨hin k h, h⟩⟩
 have hp := keysOfO (F := F) hown (fun k => (hD k).1) hr hm
 have HS := hide (sortedO g n D _ w hown hp hr (Nat.le_trans (List.length_filter_le _ _) hn))
 have HK : Hid (Calls Tryz.prog 76 #[.map (some g)] w fun e w' => e = .returned (.func (.func 104) #[] #[.pointer (some ⟨w.heap.size, 0, none⟩)]) /\ w' = w.alloc (.cells #[.map (some g)] 50)) := hide ((callsIn_wide (n := 5)).1 (AnyZI.keys_in keysO Fence.wide 5 trivial rfl (some g) w))
 clear hown hD hr hm hp hin hU
 go_enter Tryz.func46, Tryz.ntmps46
 go_wp2_with fail
 refine (unhide HK).mono ?_
 rintro e w1 ⟨rfl, rfl⟩
 go_wp2_with fail
 refine (unhide HS).mono ?_
 rintro e w2 ⟨v, rfl, hl, hb⟩
 have HL := hide hl
 have HB := hide hb
 obtain ⟨a, m, c, rfl⟩ := hl.shape
 clear hl hb HS HK
 go_wp2
 go_ret
 exact ⟨_, rfl, unhide HL, unhide HB⟩
theorem bL_lt {s t : ByteArray} (h : bL s t = true) : s.data.toList < t.data.toList := by
 unfold bL at h
 rw [bytesLess_eq, ByteArray.toList_eq, ByteArray.toList_eq] at h
 exact of_decide_eq_true h
theorem keysOfS {w : World} {g n : Nat} {F : ByteArray -> Option Int} {D : DataW Unit} {ks : List ByteArray} (hown : w.ownsMap Tryz.prog 9 inR g n D) (hD : ∀ k : ByteArray, Maps.has D (.string k.data.toList) = (F k).isSome) (hnd : Ris ks) (hm : ∀ k, k ∈ ks ↔ (F k).isSome = true) : (ks.map (·.data.toList)).Perm (strKeys D) := by
 refine Collected.perm (left := fun _ => false) ⟨?_, fun z => ?_⟩ hown (Maps.string_keyed Tryz.underlying9) Tryz.underlying9 (fun _ => rfl)
 ·exact List.pairwise_map.2 (hnd.nodup.imp (fun {a b} h e => h (str_inj e)))
 ·have hz := hD ⟨z.toArray⟩
  rw [show ((⟨z.toArray⟩ : ByteArray).data.toList) = z from rfl] at hz
  rw [hz, List.mem_map]
  constructor
  ·rintro ⟨k, hk, rfl⟩
   exact ⟨(hm _).1 hk, rfl⟩
  ·rintro ⟨h1, _⟩
   exact ⟨_, (hm _).2 h1, rfl⟩
theorem sizeS {w : World} {g n : Nat} {D : DataW Unit} {ks : List ByteArray} (hown : w.ownsMap Tryz.prog 9 inR g n D) (hp : (ks.map (·.data.toList)).Perm (strKeys D)) : Maps.size D = ks.length := by
 have h1 := hp.length_eq
 obtain ⟨es, clock, _, _, _, e⟩ := hown
 rw [e] at h1 ⊢
 unfold strKeys at h1
 rw [List.length_map, List.length_map] at h1
 exact h1.symm
theorem sortedSS (gm n : Nat) (D0 : DataW Unit) (ks : List ByteArray) (W : World) (hown : W.ownsMap Tryz.prog 9 inR gm n D0) (hperm : (ks.map (·.data.toList)).Perm (strKeys D0)) (hr : Ris ks) (hl : ks.length <= 1000) :
  Calls Tryz.prog 110 #[.func (.func 133) #[] #[.pointer (some ⟨W.heap.size, 0, none⟩)]] (W.alloc (.cells #[.map (some gm)] 75)) fun e w' =>
   ∃ v, e = .returned v /\ Lst sgC 1 9 w' W.heap.size v ks /\ Below W.heap.size W w' := by
 have hsz : Maps.size D0 <= 1000 := by rw [sizeS hown hperm]; exact hl
 have hmax : Maps.size D0 <= maxLen := by unfold maxLen; omega
 have hbytes : Maps.size D0 * 16 <= 140737488355328 := by omega
 have hbl := hown.lt
 have hseq : SeqGives Fence.wide 2 Tryz.prog 133 #[.pointer (some ⟨W.heap.size, 0, none⟩)] encStr (fun ss => ss.Perm (strKeys D0)) (Maps.size D0) (W.alloc (.cells #[.map (some gm)] 75)) :=
  AnyZ.keys_gives (ρ := keysS_ren) { keysS with } Fence.wide _ trivial rfl (by omega) W.heap.size gm n D0 _ (by simp) (by simp) (by
   obtain ⟨es, clock, hb, Ft, hs, hD⟩ := hown
   exact ⟨es, clock, (Below.heap_alloc _ _ gm hbl).trans hb, Ft, hs, hD⟩)
 have cS := AnyZ.sorted_in sortedS Fence.wide 5 trivial trivial trivial trivial rfl (by omega) (sortsS _) (enters_of Tryz.func132 (by kernel_rfl) rfl) 133 #[.pointer (some ⟨W.heap.size, 0, none⟩)] trivial (enters_of Tryz.func133 (by kernel_rfl) rfl) _ _ hmax hbytes _ hseq
 change CallsIn _ _ Tryz.prog 110 _ _ _ at cS
 refine ((callsIn_wide).1 cS).mono ?_
 rintro e w' ⟨dv, ss, rfl, hS, hrow, hnil, hb⟩
 have hrw := ownsRow_base_a (base' := W.heap.size) hrow (by simp)
 have hps := hS.trans hperm.symm
 refine ⟨dv, rfl, ?_, ((Below.refl _ W).alloc (Nat.le_refl _) _).trans (hb.mono (by simp))⟩
 have e : ss.mergeSort (fun x y => decide (x <= y)) = ks.map (·.data.toList) := (mergeSort_of_perm hps).trans (List.mergeSort_of_pairwise (List.pairwise_map.2 (hr.imp (fun {a b} h => by simp only [decide_eq_true_eq]; exact List.le_of_lt (bL_lt h)))))
 have hl2 := hps.length_eq
 rw [List.length_map] at hl2
 unfold Lst
 rw [flatS, <- hl2]
 rw [e, List.map_map] at hrw
 exact hrw
theorem risingS (g n : Nat) (F : ByteArray -> Option Int) (U : List ByteArray) (w : World) (h : Mp leM w g n F) (hU : Ris U) (hin : ∀ k, (F k).isSome = true -> k ∈ U) (hn : U.length <= 1000) :
  Calls Tryz.prog 87 #[.map (some g)] w fun e w' => ∃ v, e = .returned v /\ Lst sgC 1 9 w' w.heap.size v (U.filter fun k => (F k).isSome) /\ Below w.heap.size w w' := by
 obtain ⟨D, hown, hD⟩ := h
 have hr : Ris (U.filter fun k => (F k).isSome) := List.Pairwise.filter _ hU
 have hm : ∀ k, k ∈ (U.filter fun k => (F k).isSome) ↔ (F k).isSome = true := fun k => by
  rw [List.mem_filter]
  exact ⟨fun h => h.2, fun h => ⟨hin k h, h⟩⟩
 have hp := keysOfS (F := F) hown (fun k => (hD k).1) hr hm
 have HS := hide (sortedSS g n D _ w hown hp hr (Nat.le_trans (List.length_filter_le _ _) hn))
 have HK : Hid (Calls Tryz.prog 111 #[.map (some g)] w fun e w' => e = .returned (.func (.func 133) #[] #[.pointer (some ⟨w.heap.size, 0, none⟩)]) /\ w' = w.alloc (.cells #[.map (some g)] 75)) := hide ((callsIn_wide (n := 5)).1 (AnyZ.keys_in keysS Fence.wide 5 trivial rfl (some g) w))
 clear hown hD hr hm hp hin hU
 go_enter Tryz.func87, Tryz.ntmps87
 go_wp2_with fail
 refine (unhide HK).mono ?_
 rintro e w1 ⟨rfl, rfl⟩
 go_wp2_with fail
 refine (unhide HS).mono ?_
 rintro e w2 ⟨v, rfl, hl, hb⟩
 have HL := hide hl
 have HB := hide hb
 obtain ⟨a, m, c, rfl⟩ := hl.shape
 clear hl hb HS HK
 go_wp2
 go_ret
 exact ⟨_, rfl, unhide HL, unhide HB⟩
end Go.Proofs.YtifmemombecoaaaGreatDoor
namespace Go.Proofs.YtifmemombecoaaaGreatDoor
open Go.RowKit Go.Shelf
set_option linter.unusedVariables false
set_option maxRecDepth 100000 in
set_option maxHeartbeats 1000000 in
theorem mv1O (k : Int) (pi pa pb ga gb na nb : Nat) (Fa Fb : Int -> Option OV) (r : Bool) (w : World) (ci : w.cell? ⟨pi, 0, none⟩ = some (.func (.func 18) #[] #[])) (ca : w.cell? ⟨pa, 0, none⟩ = some (.map (some ga))) (cb : w.cell? ⟨pb, 0, none⟩ = some (.map (some gb))) (hA : Mp obM w ga na Fa) (hB : Mp obM w gb nb Fb) (hk : (obM).kok k)
  (hs : Calls Tryz.prog 18 #[ovV ((Fa k).getD (obM).z), ovV ((Fb k).getD (obM).z)] w fun e w' => e = .returned (.bool r) /\ Below w.heap.size w w') :
  Calls Tryz.prog 47 #[(Value.int .i64) k, .pointer (some ⟨pi, 0, none⟩), .pointer (some ⟨pa, 0, none⟩), .pointer (some ⟨pb, 0, none⟩)] w fun e w' => e = .returned (.bool r) /\ Below w.heap.size w w' := by
 have l1 : (Instr.lookup 50 (.map (some ga)) ((Value.int .i64) k) false).run Tryz.prog w = .ok (ovV ((Fa k).getD (obM).z)) w := hA.look hk
 have l2 : (Instr.lookup 50 (.map (some gb)) ((Value.int .i64) k) false).run Tryz.prog w = .ok (ovV ((Fb k).getD (obM).z)) w := hB.look hk
 generalize ovV ((Fa k).getD (obM).z) = va at *
 generalize ovV ((Fb k).getD (obM).z) = vb at *
 have HS := hide hs
 clear hA hB hs hk
 go_enter Tryz.func47, Tryz.ntmps47
 go_wp2_with (go_at_call 18; refine (unhide HS).mono ?_; rintro e w1 ⟨rfl, hb⟩)
 go_ret
 exact ⟨rfl, hb⟩
set_option maxRecDepth 100000 in
set_option maxHeartbeats 2000000 in
theorem movedO (ga gb na nb : Nat) (Fa Fb : Int -> Option OV) (U : List Int) (p : Int -> Bool) (w : World) (hA : Mp obM w ga na Fa) (hB : Mp obM w gb nb Fb) (hU : RisI U) (hiA : ∀ k, (Fa k).isSome = true -> k ∈ U) (hiB : ∀ k, (Fb k).isSome = true -> k ∈ U) (hok : ∀ k ∈ U, (obM).kok k) (hl : U.length <= 1000) (hn : na <= 20000 /\ nb <= 20000)
  (hs : ∀ k ∈ U, ∀ W, Below w.heap.size w W -> Calls Tryz.prog 18 #[ovV ((Fa k).getD (obM).z), ovV ((Fb k).getD (obM).z)] W fun e w' => e = .returned (.bool (p k)) /\ Below W.heap.size W w')
  (hp0 : ∀ k ∈ U, Fa k = none -> Fb k = none -> p k = true) :
  Calls Tryz.prog 17 #[.map (some ga), .map (some gb), .func (.func 18) #[] #[]] w fun e w' => ∃ v, e = .returned v /\ Lst inC 1 3 w' w.heap.size v (U.filter fun k => !p k) /\ Below w.heap.size w w' := by
 have hb0 : Below w.heap.size w (((w.alloc (.cells #[.map (some ga)] 50)).alloc (.cells #[.map (some gb)] 50)).alloc (.cells #[.func (.func 18) #[] #[]] 51)) := (((Below.refl _ _).alloc (Nat.le_refl _) _).alloc (by simp) _).alloc (by simp; omega) _
 have c1 : (((w.alloc (.cells #[.map (some ga)] 50)).alloc (.cells #[.map (some gb)] 50)).alloc (.cells #[.func (.func 18) #[] #[]] 51)).cell? ⟨w.heap.size, 0, none⟩ = some (.map (some ga)) := cell_old _ (cell_old _ (cell_new1 _ _ _))
 have c2 : (((w.alloc (.cells #[.map (some ga)] 50)).alloc (.cells #[.map (some gb)] 50)).alloc (.cells #[.func (.func 18) #[] #[]] 51)).cell? ⟨w.heap.size + 1, 0, none⟩ = some (.map (some gb)) := cell_old _ (by have := cell_new1 (w.alloc (.cells #[.map (some ga)] 50)) (.map (some gb)) 50; rwa [sz_alloc] at this)
 have c3 : (((w.alloc (.cells #[.map (some ga)] 50)).alloc (.cells #[.map (some gb)] 50)).alloc (.cells #[.func (.func 18) #[] #[]] 51)).cell? ⟨w.heap.size + 1 + 1, 0, none⟩ = some (.func (.func 18) #[] #[]) := by have := cell_new1 ((w.alloc (.cells #[.map (some ga)] 50)).alloc (.cells #[.map (some gb)] 50)) (.func (.func 18) #[] #[]) 51; rwa [sz_alloc, sz_alloc] at this
 have s0 : (((w.alloc (.cells #[.map (some ga)] 50)).alloc (.cells #[.map (some gb)] 50)).alloc (.cells #[.func (.func 18) #[] #[]] 51)).heap.size = w.heap.size + 1 + 1 + 1 := by rw [sz_alloc, sz_alloc, sz_alloc]
 have HC := hide (cloneO ga na Fa _ (hA.below hb0))
 have HB0 := hide hb0
 have HC1 := hide c1
 have HC2 := hide c2
 have HC3 := hide c3
 have HS0 := hide s0
 have HMA := hide hA
 have HMB := hide hB
 have hga := hA.lt
 have hgb := hB.lt
 have HU := hide hU
 have HIA := hide hiA
 have HIB := hide hiB
 have HOK := hide hok
 have HS := hide hs
 have HP0 := hide hp0
 obtain ⟨B0, hB0⟩ : ∃ B0, B0 = w.heap.size := ⟨_, rfl⟩
 have HBB := hide hB0
 clear hb0 c1 c2 c3 s0 hA hB hU hiA hiB hok hs hp0 hB0
 go_enter Tryz.func17, Tryz.ntmps17
 go_wp2_with fail
 refine (unhide HC).mono ?_
 rintro e w1 ⟨gE, rfl, hgE, hm1, hb1⟩
 rw [unhide HS0] at hgE hb1
 have hB1 : Below w.heap.size w w1 := (unhide HB0).trans (hb1.mono (by omega))
 have d1 := (hb1.cell (p := ⟨w.heap.size, 0, none⟩) (by show w.heap.size < _; omega)).trans (unhide HC1)
 have d2 := (hb1.cell (p := ⟨w.heap.size + 1, 0, none⟩) (by show w.heap.size + 1 < _; omega)).trans (unhide HC2)
 have d3 := (hb1.cell (p := ⟨w.heap.size + 1 + 1, 0, none⟩) (by show w.heap.size + 1 + 1 < _; omega)).trans (unhide HC3)
 have hsz1 : w.heap.size + 1 + 1 + 1 <= w1.heap.size := by have := hm1.lt; omega
 have HCP := hide (copyO gE gb na nb Fa Fb w1 hm1 ((unhide HMB).below hB1) (by omega) (by omega))
 have HB1 := hide hB1
 have HD1 := hide d1
 have HD3 := hide d3
 clear hm1 hb1 hB1 d1 d3 HC HC1 HC2 HC3 HB0 HS0
 go_wp2_with fail
 refine (unhide HCP).mono ?_
 rintro e w2 ⟨rfl, hm2, hg2⟩
 have hb2 : Below (w.heap.size + 1 + 1 + 1) w1 w2 := (Below.refl _ _).grown hg2 hsz1 (fun j hj => by cases hj; exact hgE)
 have hB2 : Below w.heap.size w w2 := (unhide HB1).trans (hb2.mono (by omega))
 have e1 := (hb2.cell (p := ⟨w.heap.size, 0, none⟩) (by show w.heap.size < _; omega)).trans (unhide HD1)
 have e2 := (hb2.cell (p := ⟨w.heap.size + 1, 0, none⟩) (by show w.heap.size + 1 < _; omega)).trans d2
 have e3 := (hb2.cell (p := ⟨w.heap.size + 1 + 1, 0, none⟩) (by show w.heap.size + 1 + 1 < _; omega)).trans (unhide HD3)
 have hsz2 : w.heap.size + 1 + 1 + 1 <= w2.heap.size := by have := hb2.size; omega
 have hov : ∀ k, (overF Fa Fb k).isSome = true -> k ∈ U := fun k hk => by
  unfold overF at hk
  split at hk
  ·rename_i h; exact unhide HIB k h
  ·exact unhide HIA k hk
 have HR := hide (risingO gE _ _ U w2 hm2 (unhide HU) hov hl)
 have HB2 := hide hB2
 have HE1 := hide e1
 have HE2 := hide e2
 have HE3 := hide e3
 clear hm2 hg2 hb2 hB2 e1 e2 e3 d2 HCP HD1 HD3 HB1 hov
 go_wp2_with fail
 refine (unhide HR).mono ?_
 rintro e w3 ⟨v3, rfl, hl3, hb3⟩
 have hB3 : Below w.heap.size w w3 := (unhide HB2).trans (hb3.mono (by omega))
 have hsay : SaysO w3 w2.heap.size 47 #[.pointer (some ⟨w.heap.size + 1 + 1, 0, none⟩), .pointer (some ⟨w.heap.size, 0, none⟩), .pointer (some ⟨w.heap.size + 1, 0, none⟩)] (U.filter fun k => (overF Fa Fb k).isSome) p := fun W x hx hW => by
  have hxU := (List.mem_filter.1 hx).1
  have hW2 : Below w2.heap.size w2 W := hb3.trans hW
  have hWw : Below w.heap.size w W := (unhide HB2).trans (hW2.mono (by omega))
  exact mv1O x _ _ _ ga gb na nb Fa Fb (p x) W ((hW2.cell (p := ⟨w.heap.size + 1 + 1, 0, none⟩) (by show w.heap.size + 1 + 1 < _; omega)).trans (unhide HE3)) ((hW2.cell (p := ⟨w.heap.size, 0, none⟩) (by show w.heap.size < _; omega)).trans (unhide HE1)) ((hW2.cell (p := ⟨w.heap.size + 1, 0, none⟩) (by show w.heap.size + 1 < _; omega)).trans (unhide HE2)) ((unhide HMA).below hWw) ((unhide HMB).below hWw) (unhide HOK x hxU) (unhide HS x hxU W hWw)
 have HD := hide (delO 47 _ p _ w2.heap.size v3 w3 (enters_of Tryz.func47 (by kernel_rfl) rfl) hsay hb3.size hl3 (Nat.le_trans (List.length_filter_le _ _) hl))
 have HB3 := hide hB3
 have HL3 := hide hl3
 obtain ⟨a3, m3, c3, rfl⟩ := hl3.shape
 clear hsay hl3 hb3 hB3 HR HE1 HE2 HE3
 go_wp2_with fail
 refine (unhide HD).mono ?_
 rintro e w4 ⟨v4, rfl, hl4, hb4⟩
 have HL4 : Hid (Lst inC 1 3 w4 w.heap.size v4 (U.filter fun k => !p k)) := hide (by
  have hf : (U.filter fun k => (overF Fa Fb k).isSome).filter (fun x => !p x) = U.filter fun k => !p k := by
   rw [List.filter_filter]
   refine List.filter_congr (fun k hk => ?_)
   cases hq : p k with
   | true => rfl
   | false =>
    show (!false && (overF Fa Fb k).isSome) = !false
    cases ha : Fa k with
    | some x => unfold overF; rw [ha]; cases hb : (Fb k).isSome <;> simp [hb]
    | none =>
     cases hb : Fb k with
     | some y => unfold overF; rw [hb]; rfl
     | none => have := unhide HP0 k hk ha hb; rw [hq] at this; cases this
  rw [hf] at hl4
  exact Lst.lowM hl4 (by omega))
 have HB4 := hide ((unhide HB3).trans (hb4.mono (by omega)))
 obtain ⟨a4, m4, c4, rfl⟩ := hl4.shape
 clear hl4 hb4 HD HL3
 go_wp2
 go_ret
 exact ⟨_, rfl, unhide HL4, unhide HB4⟩
set_option maxRecDepth 100000 in
set_option maxHeartbeats 1000000 in
theorem mv1S (k : ByteArray) (pi pa pb ga gb na nb : Nat) (Fa Fb : ByteArray -> Option Int) (r : Bool) (w : World) (ci : w.cell? ⟨pi, 0, none⟩ = some (.func (.func 30) #[] #[])) (ca : w.cell? ⟨pa, 0, none⟩ = some (.map (some ga))) (cb : w.cell? ⟨pb, 0, none⟩ = some (.map (some gb))) (hA : Mp leM w ga na Fa) (hB : Mp leM w gb nb Fb) (hk : (leM).kok k)
  (hs : Calls Tryz.prog 30 #[(Value.int .i64) ((Fa k).getD (leM).z), (Value.int .i64) ((Fb k).getD (leM).z)] w fun e w' => e = .returned (.bool r) /\ Below w.heap.size w w') :
  Calls Tryz.prog 88 #[Value.string k, .pointer (some ⟨pi, 0, none⟩), .pointer (some ⟨pa, 0, none⟩), .pointer (some ⟨pb, 0, none⟩)] w fun e w' => e = .returned (.bool r) /\ Below w.heap.size w w' := by
 have l1 : (Instr.lookup 75 (.map (some ga)) (Value.string k) false).run Tryz.prog w = .ok ((Value.int .i64) ((Fa k).getD (leM).z)) w := hA.look hk
 have l2 : (Instr.lookup 75 (.map (some gb)) (Value.string k) false).run Tryz.prog w = .ok ((Value.int .i64) ((Fb k).getD (leM).z)) w := hB.look hk
 generalize (Value.int .i64) ((Fa k).getD (leM).z) = va at *
 generalize (Value.int .i64) ((Fb k).getD (leM).z) = vb at *
 have HS := hide hs
 clear hA hB hs hk
 go_enter Tryz.func88, Tryz.ntmps88
 go_wp2_with (go_at_call 30; refine (unhide HS).mono ?_; rintro e w1 ⟨rfl, hb⟩)
 go_ret
 exact ⟨rfl, hb⟩
set_option maxRecDepth 100000 in
set_option maxHeartbeats 2000000 in
theorem movedS (ga gb na nb : Nat) (Fa Fb : ByteArray -> Option Int) (U : List ByteArray) (p : ByteArray -> Bool) (w : World) (hA : Mp leM w ga na Fa) (hB : Mp leM w gb nb Fb) (hU : Ris U) (hiA : ∀ k, (Fa k).isSome = true -> k ∈ U) (hiB : ∀ k, (Fb k).isSome = true -> k ∈ U) (hok : ∀ k ∈ U, (leM).kok k) (hl : U.length <= 1000) (hn : na <= 20000 /\ nb <= 20000)
  (hs : ∀ k ∈ U, ∀ W, Below w.heap.size w W -> Calls Tryz.prog 30 #[(Value.int .i64) ((Fa k).getD (leM).z), (Value.int .i64) ((Fb k).getD (leM).z)] W fun e w' => e = .returned (.bool (p k)) /\ Below W.heap.size W w')
  (hp0 : ∀ k ∈ U, Fa k = none -> Fb k = none -> p k = true) :
  Calls Tryz.prog 58 #[.map (some ga), .map (some gb), .func (.func 30) #[] #[]] w fun e w' => ∃ v, e = .returned v /\ Lst sgC 1 9 w' w.heap.size v (U.filter fun k => !p k) /\ Below w.heap.size w w' := by
 have hb0 : Below w.heap.size w (((w.alloc (.cells #[.map (some ga)] 75)).alloc (.cells #[.map (some gb)] 75)).alloc (.cells #[.func (.func 30) #[] #[]] 78)) := (((Below.refl _ _).alloc (Nat.le_refl _) _).alloc (by simp) _).alloc (by simp; omega) _
 have c1 : (((w.alloc (.cells #[.map (some ga)] 75)).alloc (.cells #[.map (some gb)] 75)).alloc (.cells #[.func (.func 30) #[] #[]] 78)).cell? ⟨w.heap.size, 0, none⟩ = some (.map (some ga)) := cell_old _ (cell_old _ (cell_new1 _ _ _))
 have c2 : (((w.alloc (.cells #[.map (some ga)] 75)).alloc (.cells #[.map (some gb)] 75)).alloc (.cells #[.func (.func 30) #[] #[]] 78)).cell? ⟨w.heap.size + 1, 0, none⟩ = some (.map (some gb)) := cell_old _ (by have := cell_new1 (w.alloc (.cells #[.map (some ga)] 75)) (.map (some gb)) 75; rwa [sz_alloc] at this)
 have c3 : (((w.alloc (.cells #[.map (some ga)] 75)).alloc (.cells #[.map (some gb)] 75)).alloc (.cells #[.func (.func 30) #[] #[]] 78)).cell? ⟨w.heap.size + 1 + 1, 0, none⟩ = some (.func (.func 30) #[] #[]) := by have := cell_new1 ((w.alloc (.cells #[.map (some ga)] 75)).alloc (.cells #[.map (some gb)] 75)) (.func (.func 30) #[] #[]) 78; rwa [sz_alloc, sz_alloc] at this
 have s0 : (((w.alloc (.cells #[.map (some ga)] 75)).alloc (.cells #[.map (some gb)] 75)).alloc (.cells #[.func (.func 30) #[] #[]] 78)).heap.size = w.heap.size + 1 + 1 + 1 := by rw [sz_alloc, sz_alloc, sz_alloc]
 have HC := hide (cloneS ga na Fa _ (hA.below hb0))
 have HB0 := hide hb0
 have HC1 := hide c1
 have HC2 := hide c2
 have HC3 := hide c3
 have HS0 := hide s0
 have HMA := hide hA
 have HMB := hide hB
 have hga := hA.lt
 have hgb := hB.lt
 have HU := hide hU
 have HIA := hide hiA
 have HIB := hide hiB
 have HOK := hide hok
 have HS := hide hs
 have HP0 := hide hp0
 obtain ⟨B0, hB0⟩ : ∃ B0, B0 = w.heap.size := ⟨_, rfl⟩
 have HBB := hide hB0
 clear hb0 c1 c2 c3 s0 hA hB hU hiA hiB hok hs hp0 hB0
 go_enter Tryz.func58, Tryz.ntmps58
 go_wp2_with fail
 refine (unhide HC).mono ?_
 rintro e w1 ⟨gE, rfl, hgE, hm1, hb1⟩
 rw [unhide HS0] at hgE hb1
 have hB1 : Below w.heap.size w w1 := (unhide HB0).trans (hb1.mono (by omega))
 have d1 := (hb1.cell (p := ⟨w.heap.size, 0, none⟩) (by show w.heap.size < _; omega)).trans (unhide HC1)
 have d2 := (hb1.cell (p := ⟨w.heap.size + 1, 0, none⟩) (by show w.heap.size + 1 < _; omega)).trans (unhide HC2)
 have d3 := (hb1.cell (p := ⟨w.heap.size + 1 + 1, 0, none⟩) (by show w.heap.size + 1 + 1 < _; omega)).trans (unhide HC3)
 have hsz1 : w.heap.size + 1 + 1 + 1 <= w1.heap.size := by have := hm1.lt; omega
 have HCP := hide (copyS gE gb na nb Fa Fb w1 hm1 ((unhide HMB).below hB1) (by omega) (by omega))
 have HB1 := hide hB1
 have HD1 := hide d1
 have HD3 := hide d3
 clear hm1 hb1 hB1 d1 d3 HC HC1 HC2 HC3 HB0 HS0
 go_wp2_with fail
 refine (unhide HCP).mono ?_
 rintro e w2 ⟨rfl, hm2, hg2⟩
 have hb2 : Below (w.heap.size + 1 + 1 + 1) w1 w2 := (Below.refl _ _).grown hg2 hsz1 (fun j hj => by cases hj; exact hgE)
 have hB2 : Below w.heap.size w w2 := (unhide HB1).trans (hb2.mono (by omega))
 have e1 := (hb2.cell (p := ⟨w.heap.size, 0, none⟩) (by show w.heap.size < _; omega)).trans (unhide HD1)
 have e2 := (hb2.cell (p := ⟨w.heap.size + 1, 0, none⟩) (by show w.heap.size + 1 < _; omega)).trans d2
 have e3 := (hb2.cell (p := ⟨w.heap.size + 1 + 1, 0, none⟩) (by show w.heap.size + 1 + 1 < _; omega)).trans (unhide HD3)
 have hsz2 : w.heap.size + 1 + 1 + 1 <= w2.heap.size := by have := hb2.size; omega
 have hov : ∀ k, (overF Fa Fb k).isSome = true -> k ∈ U := fun k hk => by
  unfold overF at hk
  split at hk
  ·rename_i h; exact unhide HIB k h
  ·exact unhide HIA k hk
 have HR := hide (risingS gE _ _ U w2 hm2 (unhide HU) hov hl)
 have HB2 := hide hB2
 have HE1 := hide e1
 have HE2 := hide e2
 have HE3 := hide e3
 clear hm2 hg2 hb2 hB2 e1 e2 e3 d2 HCP HD1 HD3 HB1 hov
 go_wp2_with fail
 refine (unhide HR).mono ?_
 rintro e w3 ⟨v3, rfl, hl3, hb3⟩
 have hB3 : Below w.heap.size w w3 := (unhide HB2).trans (hb3.mono (by omega))
 have hsay : SaysS w3 w2.heap.size 88 #[.pointer (some ⟨w.heap.size + 1 + 1, 0, none⟩), .pointer (some ⟨w.heap.size, 0, none⟩), .pointer (some ⟨w.heap.size + 1, 0, none⟩)] (U.filter fun k => (overF Fa Fb k).isSome) p := fun W x hx hW => by
  have hxU := (List.mem_filter.1 hx).1
  have hW2 : Below w2.heap.size w2 W := hb3.trans hW
  have hWw : Below w.heap.size w W := (unhide HB2).trans (hW2.mono (by omega))
  exact mv1S x _ _ _ ga gb na nb Fa Fb (p x) W ((hW2.cell (p := ⟨w.heap.size + 1 + 1, 0, none⟩) (by show w.heap.size + 1 + 1 < _; omega)).trans (unhide HE3)) ((hW2.cell (p := ⟨w.heap.size, 0, none⟩) (by show w.heap.size < _; omega)).trans (unhide HE1)) ((hW2.cell (p := ⟨w.heap.size + 1, 0, none⟩) (by show w.heap.size + 1 < _; omega)).trans (unhide HE2)) ((unhide HMA).below hWw) ((unhide HMB).below hWw) (unhide HOK x hxU) (unhide HS x hxU W hWw)
 have HD := hide (delS 88 _ p _ w2.heap.size v3 w3 (enters_of Tryz.func88 (by kernel_rfl) rfl) hsay hb3.size hl3 (Nat.le_trans (List.length_filter_le _ _) hl))
 have HB3 := hide hB3
 have HL3 := hide hl3
 obtain ⟨a3, m3, c3, rfl⟩ := hl3.shape
 clear hsay hl3 hb3 hB3 HR HE1 HE2 HE3
 go_wp2_with fail
 refine (unhide HD).mono ?_
 rintro e w4 ⟨v4, rfl, hl4, hb4⟩
 have HL4 : Hid (Lst sgC 1 9 w4 w.heap.size v4 (U.filter fun k => !p k)) := hide (by
  have hf : (U.filter fun k => (overF Fa Fb k).isSome).filter (fun x => !p x) = U.filter fun k => !p k := by
   rw [List.filter_filter]
   refine List.filter_congr (fun k hk => ?_)
   cases hq : p k with
   | true => rfl
   | false =>
    show (!false && (overF Fa Fb k).isSome) = !false
    cases ha : Fa k with
    | some x => unfold overF; rw [ha]; cases hb : (Fb k).isSome <;> simp [hb]
    | none =>
     cases hb : Fb k with
     | some y => unfold overF; rw [hb]; rfl
     | none => have := unhide HP0 k hk ha hb; rw [hq] at this; cases this
  rw [hf] at hl4
  exact Lst.lowM hl4 (by omega))
 have HB4 := hide ((unhide HB3).trans (hb4.mono (by omega)))
 obtain ⟨a4, m4, c4, rfl⟩ := hl4.shape
 clear hl4 hb4 HD HL3
 go_wp2
 go_ret
 exact ⟨_, rfl, unhide HL4, unhide HB4⟩
end Go.Proofs.YtifmemombecoaaaGreatDoor
namespace Go.Proofs.YtifmemombecoaaaGreatDoor
open Go.RowKit
set_option linter.unusedVariables false
set_option maxRecDepth 100000 in
set_option maxHeartbeats 1000000 in
theorem isSame_any (t1 t2 : Int) (a1 a2 : Option Addr) (c1 c2 : Nat) (l1 l2 : List Int) (w : World) (h1 : Bs w a1 c1 l1) (h2 : Bs w a2 c2 l2) :
  Calls Tryz.prog 18 #[ovV (t1, a1, l1.length, c1), ovV (t2, a2, l2.length, c2)] w fun e w' => e = .returned (.bool (decide (t1 = t2) && decide (l1 = l2))) /\ Below w.heap.size w w' := by
 have hb : Below w.heap.size w ((w.alloc (.cells #[.int .i64 t1, .slice a1 l1.length c1] 47)).alloc (.cells #[.int .i64 t2, .slice a2 l2.length c2] 47)) := ((Below.refl _ _).alloc (Nat.le_refl _) _).alloc (by simp) _
 have HB := hide hb
 have HE := hide (bytesEq_any a1 a2 c1 c2 l1 l2 _ (h1.below hb) (h2.below hb))
 clear h1 h2 hb
 generalize decide (l1 = l2) = r at *
 generalize l1.length = n1 at *
 generalize l2.length = n2 at *
 unfold ovV
 dsimp only
 by_cases ht : t1 = t2
 ·subst ht
  have hte : (t1 == t1) = true := beq_self_eq_true _
  rw [decide_eq_true rfl, Bool.true_and]
  go_enter Tryz.func18, Tryz.ntmps18
  go_wp2_with (go_at_call 48; refine (unhide HE).mono ?_; rintro e w1 ⟨rfl, rfl⟩)
  all_goals (go_ret; exact ⟨rfl, unhide HB⟩)
 ·have hte : (t1 == t2) = false := beq_eq_false_iff_ne.2 ht
  rw [decide_eq_false ht, Bool.false_and]
  clear HE
  go_enter Tryz.func18, Tryz.ntmps18
  go_wp2
  all_goals (go_ret; exact ⟨rfl, unhide HB⟩)
theorem isEq_any (x y : Int) (w : World) : Calls Tryz.prog 30 #[.int .i64 x, .int .i64 y] w fun e w' => e = .returned (.bool (x == y)) /\ Below w.heap.size w w' := by
 go_enter Tryz.func30, Tryz.ntmps30
 go_wp2
 go_ret
 exact ⟨rfl, Below.refl _ _⟩
end Go.Proofs.YtifmemombecoaaaGreatDoor
