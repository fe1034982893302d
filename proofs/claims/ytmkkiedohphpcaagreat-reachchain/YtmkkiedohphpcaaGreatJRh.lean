/-
  Joined by program: VwSort; SvA; RhM; RhB; RhC; RhD; RhHold; RhStp. (Parts of the proofs over the packages of the program.)
-/
import Derived.Shelf.SlIterI.Nil
import Derived.Shelf.SortM.Plain
import Derived.Shelf.SortM.SortNone
import Derived.Ground.GgzProg
import Derived.Ground.SlgmProg
import Derived.Test.YtmkkiedohphpcaaGreatProg
import Derived.RangeFuncNested
import Derived.RangeFuncBound
import Derived.RangeFuncCalls
import Derived.RangeFuncLeaves
import Derived.RangeFuncBox
import Derived.Shelf.Abstract
import Derived.Shelf.RegionOpen
import Derived.WalkKit
import Derived.OwnWalkIn
import Derived.TacticsInMore
import Derived.LoopNIn
import Derived.LoopIn
import Derived.Maps.AppendAt
import Derived.Test.YtmkkiedohphpcaaGreatJRe
import Derived.Test.YtmkkiedohphpcaaGreatJHp
import Derived.Maps.OwnSet
import Derived.Test.YtmkkiedohphpcaaGreatJRa
import Derived.Test.YtmkkiedohphpcaaGreatJCh
import Derived.Shelf.SlicesG.Reverse
import Derived.Shelf.SlGeneric
import Derived.Ground.SlgnProg
import Derived.Test.YtmkkiedohphpcaaGreatJEx
import Derived.Test.YtmkkiedohphpcaaGreatJRu
/-! The library's slices.Sorted and maps.Keys at this program: laid off the shelf. (Part of the proofs over package view.) -/
namespace Go.Proofs.YtmkkiedohphpcaaGreat
open Go.RowKit Go.Maps Go.Sort Go.Shelf
set_option linter.unusedVariables false
def keysA_ren : Ren := { f := fun | 7 => 32 | 10 => 62 | n => n, t := fun | 23 => 77 | 26 => 3 | 3 => 3 | 28 => 75 | 0 => 0 | 27 => 74 | 33 => 79 | 4 => 4 | n => n, g := fun n => n }
theorem keysA : SlLaysZI.n7 Tryz.prog keysA_ren := { mixed := by kernel_rfl, f7 := ⟨ "maps.Keys[map[int]int,int,int]", by decide, Tryz.func32.trans rfl⟩, f10 := ⟨ "maps.Keys[map[int]int,int,int]$1", by decide, Tryz.func62.trans rfl⟩, t0 := Tryz.underlying0, a0 := Tryz.isAgg0, z0 := Tryz.sizeOf0, v0 := Tryz.zeroValue0, t4 := Tryz.underlying4, a4 := Tryz.isAgg4, z4 := Tryz.sizeOf4, v4 := Tryz.zeroValue4, t23 := Tryz.underlying77, a23 := Tryz.isAgg77, z23 := Tryz.sizeOf77, v23 := Tryz.zeroValue77, t26 := Tryz.underlying3, a26 := Tryz.isAgg3, z26 := Tryz.sizeOf3, v26 := Tryz.zeroValue3, t27 := Tryz.underlying74, a27 := Tryz.isAgg74, z27 := Tryz.sizeOf74, v27 := Tryz.zeroValue74, t28 := Tryz.underlying75, a28 := Tryz.isAgg75, z28 := Tryz.sizeOf75, v28 := Tryz.zeroValue75, t33 := Tryz.underlying79, a33 := Tryz.isAgg79, z33 := Tryz.sizeOf79, v33 := Tryz.zeroValue79 }
def sortedA_ren : Ren := { f := fun | 6 => 31 | 8 => 60 | 9 => 61 | 11 => 91 | 13 => 93 | 12 => 92 | 23 => 123 | 24 => 124 | 14 => 114 | 15 => 115 | 16 => 116 | 17 => 117 | 18 => 118 | 19 => 119 | 20 => 120 | 21 => 121 | 22 => 122 | 25 => 144 | 26 => 145 | 27 => 146 | 28 => 147 | 29 => 148 | 30 => 149 | 31 => 155 | n => n, t := fun | 26 => 3 | 28 => 75 | 24 => 33 | 0 => 0 | 3 => 3 | 37 => 130 | 48 => 157 | 50 => 159 | 4 => 4 | 40 => 151 | 39 => 150 | 45 => 69 | 5 => 5 | 9 => 9 | 51 => 174 | 55 => 178 | 57 => 183 | 58 => 184 | 33 => 79 | n => n, g := fun n => n }
theorem sortedA : SlLaysZI.n6 Tryz.prog sortedA_ren := { mixed := by kernel_rfl, f6 := ⟨ "slices.Sorted[int]", by decide, Tryz.func31.trans rfl⟩, f8 := ⟨ "slices.Collect[int]", by decide, Tryz.func60.trans rfl⟩, f11 := ⟨ "slices.AppendSeq[[]int,int]", by decide, Tryz.func91.trans rfl⟩, t0 := Tryz.underlying0, a0 := Tryz.isAgg0, z0 := Tryz.sizeOf0, v0 := Tryz.zeroValue0, t24 := Tryz.underlying33, a24 := Tryz.isAgg33, z24 := Tryz.sizeOf33, v24 := Tryz.zeroValue33, t26 := Tryz.underlying3, a26 := Tryz.isAgg3, z26 := Tryz.sizeOf3, v26 := Tryz.zeroValue3, t28 := Tryz.underlying75, a28 := Tryz.isAgg75, z28 := Tryz.sizeOf75, v28 := Tryz.zeroValue75, i26 := by kernel_rfl }
def sortA_ren : Ren := { f := fun | 5 => 61 | 8 => 93 | 7 => 92 | 19 => 123 | 20 => 124 | 10 => 114 | 11 => 115 | 12 => 116 | 13 => 117 | 14 => 118 | 15 => 119 | 16 => 120 | 17 => 121 | 18 => 122 | 30 => 144 | 31 => 145 | 32 => 146 | 33 => 147 | 34 => 148 | 35 => 149 | 40 => 155 | n => n, t := fun | 23 => 33 | 25 => 3 | 3 => 3 | 32 => 130 | 22 => 33 | 0 => 0 | 44 => 157 | 46 => 159 | 4 => 4 | 36 => 151 | 35 => 150 | 41 => 69 | 5 => 5 | 9 => 9 | 53 => 174 | 57 => 178 | 63 => 183 | 64 => 184 | n => n, g := fun n => n }
theorem sortA : SlLaysM.n5 Tryz.prog sortA_ren := { mixed := by kernel_rfl, f5 := ⟨ "slices.Sort[[]int,int]", by decide, Tryz.func61.trans rfl⟩, f7 := ⟨ "slices.pdqsortOrdered[int]", by decide, Tryz.func92.trans rfl⟩, f8 := Tryz.func93.trans rfl, f10 := ⟨ "slices.insertionSortOrdered[int]", by decide, Tryz.func114.trans rfl⟩, f11 := ⟨ "slices.heapSortOrdered[int]", by decide, Tryz.func115.trans rfl⟩, f12 := ⟨ "slices.breakPatternsOrdered[int]", by decide, Tryz.func116.trans rfl⟩, f13 := ⟨ "slices.choosePivotOrdered[int]", by decide, Tryz.func117.trans rfl⟩, f14 := ⟨ "slices.reverseRangeOrdered[int]", by decide, Tryz.func118.trans rfl⟩, f15 := ⟨ "slices.partialInsertionSortOrdered[int]", by decide, Tryz.func119.trans rfl⟩, f16 := ⟨ "cmp.Less[int]", by decide, Tryz.func120.trans rfl⟩, f17 := ⟨ "slices.partitionEqualOrdered[int]", by decide, Tryz.func121.trans rfl⟩, f18 := ⟨ "slices.partitionOrdered[int]", by decide, Tryz.func122.trans rfl⟩, f19 := Tryz.func123.trans rfl, f20 := Tryz.func124.trans rfl, f30 := ⟨ "slices.siftDownOrdered[int]", by decide, Tryz.func144.trans rfl⟩, f31 := Tryz.func145.trans rfl, f32 := Tryz.func146.trans rfl, f33 := ⟨ "slices.medianAdjacentOrdered[int]", by decide, Tryz.func147.trans rfl⟩, f34 := ⟨ "slices.medianOrdered[int]", by decide, Tryz.func148.trans rfl⟩, f35 := ⟨ "cmp.isNaN[int]", by decide, Tryz.func149.trans rfl⟩, f40 := ⟨ "slices.order2Ordered[int]", by decide, Tryz.func155.trans rfl⟩, t0 := Tryz.underlying0, a0 := Tryz.isAgg0, z0 := Tryz.sizeOf0, v0 := Tryz.zeroValue0, t3 := Tryz.underlying3, a3 := Tryz.isAgg3, z3 := Tryz.sizeOf3, v3 := Tryz.zeroValue3, t4 := Tryz.underlying4, a4 := Tryz.isAgg4, z4 := Tryz.sizeOf4, v4 := Tryz.zeroValue4, t5 := Tryz.underlying5, a5 := Tryz.isAgg5, z5 := Tryz.sizeOf5, v5 := Tryz.zeroValue5, t9 := Tryz.underlying9, a9 := Tryz.isAgg9, z9 := Tryz.sizeOf9, v9 := Tryz.zeroValue9, t22 := Tryz.underlying33, a22 := Tryz.isAgg33, z22 := Tryz.sizeOf33, v22 := Tryz.zeroValue33, t23 := Tryz.underlying33, a23 := Tryz.isAgg33, z23 := Tryz.sizeOf33, v23 := Tryz.zeroValue33, t25 := Tryz.underlying3, a25 := Tryz.isAgg3, z25 := Tryz.sizeOf3, v25 := Tryz.zeroValue3, t32 := Tryz.underlying130, a32 := Tryz.isAgg130, z32 := Tryz.sizeOf130, v32 := Tryz.zeroValue130, t35 := Tryz.underlying150, a35 := Tryz.isAgg150, z35 := Tryz.sizeOf150, v35 := Tryz.zeroValue150, t36 := Tryz.underlying151, a36 := Tryz.isAgg151, z36 := Tryz.sizeOf151, v36 := Tryz.zeroValue151, t41 := Tryz.underlying69, a41 := Tryz.isAgg69, z41 := Tryz.sizeOf69, v41 := Tryz.zeroValue69, t44 := Tryz.underlying157, a44 := Tryz.isAgg157, z44 := Tryz.sizeOf157, v44 := Tryz.zeroValue157, t46 := Tryz.underlying159, a46 := Tryz.isAgg159, z46 := Tryz.sizeOf159, v46 := Tryz.zeroValue159, t53 := Tryz.underlying174, a53 := Tryz.isAgg174, z53 := Tryz.sizeOf174, v53 := Tryz.zeroValue174, t57 := Tryz.underlying178, a57 := Tryz.isAgg178, z57 := Tryz.sizeOf178, v57 := Tryz.zeroValue178, t63 := Tryz.underlying183, a63 := Tryz.isAgg183, z63 := Tryz.sizeOf183, v63 := Tryz.zeroValue183, t64 := Tryz.underlying184, a64 := Tryz.isAgg184, z64 := Tryz.sizeOf184, v64 := Tryz.zeroValue184 }
/-- slices.Sort's two contracts at this program, at the fence that asks nothing. -/
theorem sortsA (m : Nat) : AnyZI.SortsIn Tryz.prog sortedA_ren Fence.wide m :=
  ⟨fun blk off cap ss W hH hblk hsz => callsIn_wide.2 (AnyM.slices_Sort_int sortA blk off cap ss W hH hblk hsz),
   fun p cap W => callsIn_wide.2 (AnyM.slices_Sort_int_none sortA p cap W)⟩
end Go.Proofs.YtmkkiedohphpcaaGreat
/-! The library's slices.Sorted(slices.Values(l)) at numbers. (Part of the proofs over who is led to.) -/
namespace Go.Proofs.YtmkkiedohphpcaaGreat
open Go.RowKit Go.Sort Go.Shelf
set_option linter.unusedVariables false

theorem flat_inC (l : List Int) : l.flatMap inC = l.map (Value.int .i64) := by
  induction l with
  | nil => rfl
  | cons x l ih => rw [List.flatMap_cons, ih]; rfl
theorem take_snocI {l : List Int} {k : Nat} {x : Int} (h : l[k]? = some x) : l.take (k + 1) = l.take k ++ [x] := by
  rw [List.take_add_one, h]
  rfl
/-! ### slices.Values: number by number -/
set_option maxRecDepth 100000 in
set_option maxHeartbeats 1000000 in
theorem values1_in (n : Nat) (hn : 1 ≤ n) (l g n0 b off cap : Nat) (zs : List Int) (hm : zs.length ≤ 100000) (hb : b < n0) (J Jx : List Int → World → Prop)
    (hY : ∀ pre x W, J pre W → pre.length < zs.length → YieldAt Fence.wide (n - 1) Tryz.prog l #[.int .i64 x] W fun e W' =>
      (e = .returned (.bool true) ∧ J (pre ++ [x]) W' ∧ Below n0 W W') ∨ (e = .returned (.bool false) ∧ Jx (pre ++ [x]) W'))
    (W : World) (hg : W.cell? ⟨g, 0, none⟩ = some (.slice (some ⟨b, off, none⟩) zs.length cap)) (hc : ∀ j x, zs[j]? = some x → W.cell? ⟨b, off + j, none⟩ = some (.int .i64 x)) (h0 : J [] W) :
    CallsIn Fence.wide n Tryz.prog 125 #[.func (.yield l) #[] #[], .pointer (some ⟨g, 0, none⟩)] W fun e W' => (∃ v, e = .returned v) ∧
      ((∃ ys, ys = zs ∧ J ys W') ∨ (∃ pre, True ∧ Jx pre W')) := by
  have HY := hide hY
  have HC := hide hc
  clear hY hc
  refine callsIn_of_wp Tryz.func125 rfl trivial ?_ rfl
  simp only [Tryz.ntmps125, List.size_toArray, List.length_cons, List.length_nil, Nat.reduceAdd, Nat.reduceSub, Array.replicate_succ, Array.replicate_zero, List.push_toArray, List.append_toArray, List.nil_append, List.cons_append]
  gi_wp2
  gi_loopw [7] (fun iv wr => ∃ k : Nat, k ≤ zs.length ∧ iv = .int .i64 k ∧ J (zs.take k) wr ∧ Below n0 W wr) (fun iv _ => zs.length - (intOf iv).toNat)
  case atStart => exact ⟨0, Nat.zero_le _, rfl, h0, Below.refl _ _⟩
  case round =>
    obtain ⟨k, hk, rfl, hJ, hkp⟩ := hrel
    by_cases hlt : k < zs.length
    · obtain ⟨x, hx⟩ : ∃ x, zs[k]? = some x := ⟨zs[k], List.getElem?_eq_getElem hlt⟩
      obtain ⟨fn, tmps, assign, body, hy, hR⟩ := unhide HY (zs.take k) x wr hJ (by rw [List.length_take]; omega)
      have hcx : wr.cell? ⟨b, off + k, none⟩ = some (.int .i64 x) := (hkp.cell (p := ⟨b, off + k, none⟩) hb).trans (unhide HC k x hx)
      have HSN := hide (take_snocI hx)
      clear hx
      have HR := hide hR
      have HKP := hide hkp
      clear hR hkp hJ
      gi_wp2
      refine (unhide HR).mono ?_
      rintro e W3 (⟨rfl, hJ3, hk3⟩ | ⟨rfl, hJx3⟩)
      · have HJ3 := hide hJ3
        have HK3 := hide ((unhide HKP).trans hk3)
        clear hJ3 hk3
        gi_wp2
        go_roundw
        case rel => exact ⟨k + 1, by omega, by simp, by rw [unhide HSN]; exact unhide HJ3, unhide HK3⟩
        case measure => simp [intOf]; omega
      · have HJ3 := hide hJx3
        clear hJx3
        gi_wp2
        refine bodyPost_ret (results_none rfl _ _ _) rfl ?_
        exact ⟨⟨_, rfl⟩, .inr ⟨_, trivial, unhide HJ3⟩⟩
    · obtain rfl : k = zs.length := by omega
      rw [List.take_length] at hJ
      gi_wp2
      go_end0
      exact ⟨⟨_, rfl⟩, .inl ⟨_, rfl, hJ⟩⟩
set_option maxRecDepth 100000 in
set_option maxHeartbeats 1000000 in
/-- .. of none: no round. -/
theorem values1_none (n : Nat) (l g cap : Nat) (al : Option Addr) (Jy : World → Prop) (W : World) (hg : W.cell? ⟨g, 0, none⟩ = some (.slice al 0 cap)) (h0 : Jy W) :
    CallsIn Fence.wide n Tryz.prog 125 #[.func (.yield l) #[] #[], .pointer (some ⟨g, 0, none⟩)] W fun e W' => (∃ v, e = .returned v) ∧ Jy W' := by
  refine callsIn_of_wp Tryz.func125 rfl trivial ?_ rfl
  simp only [Tryz.ntmps125, List.size_toArray, List.length_cons, List.length_nil, Nat.reduceAdd, Nat.reduceSub, Array.replicate_succ, Array.replicate_zero, List.push_toArray, List.append_toArray, List.nil_append, List.cons_append]
  gi_wp2
  gi_loopw [7] (fun iv wr => iv = .int .i64 0 ∧ Jy wr) (fun _ _ => 0)
  case atStart => exact ⟨rfl, h0⟩
  case round =>
    obtain ⟨rfl, hJ⟩ := hrel
    gi_wp2
    go_end0
    exact ⟨⟨_, rfl⟩, hJ⟩
/-- slices.Values(l): the slice is boxed; the function value captures the box. -/
theorem values_in (n : Nat) (a : Option Addr) (m cap : Nat) (w : World) :
    CallsIn Fence.wide n Tryz.prog 94 #[.slice a m cap] w fun e w' => e = .returned (.func (.func 125) #[] #[.pointer (some ⟨w.heap.size, 0, none⟩)]) ∧ w' = w.alloc (.cells #[.slice a m cap] 33) := by
  refine callsIn_of_wp Tryz.func94 rfl trivial ?_ rfl
  simp only [Tryz.ntmps94, List.size_toArray, List.length_cons, List.length_nil, Nat.reduceAdd, Nat.reduceSub, Array.replicate_succ, Array.replicate_zero, List.push_toArray, List.append_toArray, List.nil_append, List.cons_append]
  gi_wp2
  go_ret
  exact ⟨rfl, rfl⟩
/-- It gives the numbers of a row, in their order. -/
theorem values_stops (n : Nat) (hn : 1 ≤ n) (g n0 cap : Nat) (al : Option Addr) (zs : List Int) (hm : zs.length ≤ 100000) (w0 w : World) (hs : Sls inC 1 w0 al cap zs) (hn0 : w0.heap.size = n0) (hw : Below n0 w0 w) (hg : w.cell? ⟨g, 0, none⟩ = some (.slice al zs.length cap)) :
    SeqStopsK Fence.wide n Tryz.prog 125 #[.pointer (some ⟨g, 0, none⟩)] (fun x : Int => #[Value.int .i64 x]) (Below n0) (fun ys => ys = zs) (fun _ => True) zs.length w := fun l J Jx W hW _ _ hY h0 => by
  have hgW : W.cell? ⟨g, 0, none⟩ = some (.slice al zs.length cap) := (hW.cell (p := ⟨g, 0, none⟩) (block_lt_of_cell hg)).trans hg
  by_cases hne : zs = []
  · subst hne
    refine (values1_none n l g cap al (J []) W hgW h0).mono ?_
    rintro e W' ⟨he, hj⟩
    exact ⟨he, .inl ⟨_, rfl, hj⟩⟩
  · obtain ⟨b, off, rfl, hc⟩ := hs.2.2.2 hne
    have hpos : 0 < zs.length := List.length_pos_iff.2 hne
    have hb : b < n0 := by
      have := hc 0 zs[0] (List.getElem?_eq_getElem hpos) 0 _ rfl
      rw [← hn0]
      exact block_lt_of_cell this
    refine values1_in n hn l g n0 b off cap zs hm hb J Jx hY W hgW (fun j x hj => ?_) h0
    have q := Sls.num (cap := cap) hc hj
    exact ((hw.trans (hW.mono (by rw [← hn0]; exact (hn0 ▸ hw).size))).cell (p := ⟨b, off + j, none⟩) hb).trans q
/-! ### all that came, in a row of its own -/
set_option maxRecDepth 100000 in
set_option maxHeartbeats 2000000 in
theorem appSeq_in (a : Option Addr) (cap : Nat) (zs : List Int) (hm : zs.length ≤ 100000) (g : Nat) (w : World) (hs : Sls inC 1 w a cap zs) (hg : w.cell? ⟨g, 0, none⟩ = some (.slice a zs.length cap)) :
    Calls Tryz.prog 91 #[.slice none 0 0, .func (.func 125) #[] #[.pointer (some ⟨g, 0, none⟩)]] w fun e w' => ∃ v, e = .returned v ∧ Lst inC 1 3 w' w.heap.size v zs ∧ Below w.heap.size w w' := by
  obtain ⟨i0, hi, hz0, hz1, hz2⟩ := info_parts info_inS
  refine (callsIn_wide (n := 5)).1 ?_
  refine callsIn_of_wp_marks Tryz.func91 rfl trivial ?_ rfl
  simp only [Tryz.ntmps91, List.size_toArray, List.length_cons, List.length_nil, Nat.reduceAdd, Nat.reduceSub, Array.replicate_succ, Array.replicate_zero, List.push_toArray, List.append_toArray, List.nil_append, List.cons_append]
  have hgl := block_lt_of_cell hg
  gi_wp2
  have bO := Boxed.new w 33 (.slice none 0 0)
  have hB0 : Below w.heap.size w (w.alloc (.cells #[.slice none 0 0] 33)) := (Below.refl _ w).alloc (Nat.le_refl _) _
  refine wpIn_rangeFunc_ownG rfl (by omega) (gf := 125) (lb := #[.pointer (some ⟨g, 0, none⟩)]) rfl trivial (enters_of Tryz.func125 (by kernel_rfl) rfl)
    (values_stops 4 (by omega) g w.heap.size cap a zs hm w _ hs rfl hB0 ((hB0.cell (p := ⟨g, 0, none⟩) hgl).trans hg)) belowK_t (belowK_b (by simp)) (Below.refl _ _) (fun _ => rfl)
    (fun pre W => (∃ v, Boxed W w.heap.size 33 v ∧ W.ownsRow w.heap.size 3 1 v pre.length (pre.map (Value.int .i64)) ∧ True) ∧ Below w.heap.size w W)
    (fun _ _ _ => False)
    (OwnFrom.and (Own.from (holdsRow_own w.heap.size w.heap.size 33 3 1 (fun pre : List Int => pre.length) (fun pre => pre.map (Value.int .i64)) (fun pre v => True)) _) (ownFrom_below (Nat.le_refl _) (by simp)))
    (fun _ _ _ _ _ hs _ _ => hs)
    ⟨⟨_, bO, World.ownsRow_nil _ _ _ _, trivial⟩, hB0⟩
    (fun x => { tmps := #[.slice none 0 0, .func (.func 125) #[] #[.pointer (some ⟨g, 0, none⟩)], .pointer (some ⟨w.heap.size, 0, none⟩), undef, .slice none 0 0, .int .i64 x, .func (.func 125) #[] #[.pointer (some ⟨g, 0, none⟩)], .int .i64 x, undef, undef, undef, undef, undef], defers := [] }) ?assign ?body ?done ?stop
  case assign =>
    intro l x W K hK
    gi_wp2_with (rw [Oper.semAt_eq _ _ _ (fun c h => by cases h)]; go_simp; try go_bits)
    exact hK
  case body =>
    rintro l pre x W ⟨⟨v, hv, hrow, hnil⟩, hB⟩ hlt
    have hc := hv.cell
    gi_wp2_with (first
      | (gi_at_builtin; refine wpListIn_append_own _ rfl _ _ 33 rfl w.heap.size 3 i0 (.int .i64 0) 1 8 Tryz.underlying33 hi hz0 hz1 hz2 rfl (by decide) _ _ _ rfl (hrow.alloc _) ⟨W.heap.size, 0, none⟩ 1 1 [.int .i64 x] rfl rfl (cell_one_new _ _ _) (by simp [Value.oneCell']) (by unfold maxLen; omega) (by omega) (by have := hB.size; simp; omega) ?_; intro v' w1 hown' hgrow _; obtain ⟨g', cap', rfl⟩ := ownsRow_succ hown'; obtain ⟨hv1, hv2, hr2, hk2, hb2⟩ := hv.appended (by decide) hrow hB.size (Nat.le_refl _) hown' hgrow; have hc1 := hv1.cell; have hf1 := hv1.frozen)
      | (rw [Oper.semAt_eq _ _ _ (fun c h => by cases h)]; go_simp; try go_bits))
    exact ⟨hk2.from _, hb2, ⟨_, hv2, by rw [List.length_append, List.map_append]; simpa using hr2, trivial⟩, hB.trans hb2⟩
  case done =>
    rintro D ys W hD rfl ⟨⟨v, hv, hrow, hnil⟩, hB⟩ hK
    have hc := hv.cell
    gi_wp2
    refine ⟨by simp, .inl ⟨_, _, rfl, run_takeDeferred hK, ?_⟩⟩
    refine ⟨_, results_tmp rfl _ _ _, v, rfl, ?_, hB.trans (belowK_b (w := w) (Nat.le_refl _) W D _ _ (by simp at hD; omega) hK rfl rfl)⟩
    unfold Lst
    rw [flat_inC]
    exact ownsRow_putObj hrow _ hK rfl
  case stop =>
    rintro D c pre W _ _ h _
    exact h.elim
theorem collect_val (a : Option Addr) (cap : Nat) (zs : List Int) (hm : zs.length ≤ 100000) (g : Nat) (w : World) (hs : Sls inC 1 w a cap zs) (hg : w.cell? ⟨g, 0, none⟩ = some (.slice a zs.length cap)) :
    Calls Tryz.prog 60 #[.func (.func 125) #[] #[.pointer (some ⟨g, 0, none⟩)]] w fun e w' => ∃ v, e = .returned v ∧ Lst inC 1 3 w' w.heap.size v zs ∧ Below w.heap.size w w' := by
  have HA := hide (appSeq_in a cap zs hm g w hs hg)
  clear hs hg
  go_enter Tryz.func60, Tryz.ntmps60
  go_wp2_with fail
  refine (unhide HA).mono ?_
  rintro e w1 ⟨v, rfl, hl, hb⟩
  obtain ⟨va, vm, vc, rfl⟩ := hl.shape
  have HL := hide hl
  have HB := hide hb
  clear hl hb HA
  go_wp2
  go_ret
  exact ⟨_, rfl, unhide HL, unhide HB⟩
/-- A row of numbers that a call made, sorted. -/
theorem sortRow_any (v : Value) (B : Nat) (l : List Int) (w : World) (h : Lst inC 1 3 w B v l) (hl : l.length ≤ 100000) :
    Calls Tryz.prog 61 #[v] w fun e w' => e = .returned (.tuple #[]) ∧ Lst inC 1 3 w' B v (srt l) ∧ Turn (fun k => v.ownBlock = some k) (fun k => v.ownBlock = some k) w w' := by
  have hf := h
  unfold Lst at hf ⊢
  rw [flat_inC] at hf
  rcases hf.2 with ⟨rfl, hz⟩ | ⟨gb, c, cur, rfl, hbase, hgb, r1, r2, r3, r4⟩
  · obtain rfl := List.eq_nil_of_length_eq_zero hz
    refine (AnyM.slices_Sort_int_none sortA none 0 w).mono ?_
    rintro e w' ⟨rfl, rfl⟩
    exact ⟨rfl, by rw [show srt [] = [] by unfold srt; simp]; exact h, Turn.refl _ _⟩
  · have hH : Holds encZ w gb 0 l.toArray := holds_of_block_i hgb (by simpa using r4)
    have hgl : gb < w.heap.size := (Array.getElem?_eq_some_iff.1 hgb).1
    refine (AnyM.slices_Sort_int sortA gb 0 c l w hH hgl (by omega)).mono ?_
    rintro e w' ⟨rfl, nn, os, rfl⟩
    refine ⟨rfl, ?_, Turn.grown (grownBy_sorted_i _) (fun k hk => by simpa [Value.ownBlock] using hk)⟩
    rw [flat_inC, srt_len]
    exact ownsRow_sorted_i (by simp) hbase hgb r1 r2 r3
theorem sortedV_any (a : Option Addr) (cap : Nat) (zs : List Int) (hm : zs.length ≤ 100000) (g : Nat) (w : World) (hs : Sls inC 1 w a cap zs) (hg : w.cell? ⟨g, 0, none⟩ = some (.slice a zs.length cap)) :
    Calls Tryz.prog 31 #[.func (.func 125) #[] #[.pointer (some ⟨g, 0, none⟩)]] w fun e w' => ∃ v, e = .returned v ∧ Lst inC 1 3 w' w.heap.size v (srt zs) ∧ Below w.heap.size w w' := by
  have HC := hide (collect_val a cap zs hm g w hs hg)
  have HS := hide (fun (v : Value) (W : World) (h : Lst inC 1 3 W w.heap.size v zs) => sortRow_any v w.heap.size zs W h hm)
  clear hs hg
  go_enter Tryz.func31, Tryz.ntmps31
  go_wp2_with fail
  refine (unhide HC).mono ?_
  rintro e w1 ⟨v, rfl, hl, hb⟩
  have hS1 := unhide HS v w1 hl
  have HBL := hide (fun k (hk : v.ownBlock = some k) => hl.block k hk)
  obtain ⟨va, vm, vc, rfl⟩ := hl.shape
  have HS1 := hide hS1
  have HB := hide hb
  clear hl hb HC hS1 HS
  go_wp2_with fail
  refine (unhide HS1).mono ?_
  rintro e w2 ⟨rfl, hl2, ht2⟩
  have HL := hide hl2
  have HB2 := hide ((unhide HB).trans (ht2.below (unhide HBL) (unhide HB).size))
  clear hl2 ht2 HS1
  go_wp2
  go_ret
  exact ⟨_, rfl, unhide HL, unhide HB2⟩
end Go.Proofs.YtmkkiedohphpcaaGreat
/-! The map of who leads to whom, in memory. (Part of the proofs over package reach.) -/
namespace Go.Proofs.YtmkkiedohphpcaaGreat
open Go.RowKit Go.MapKept Go.ChangeMaps Go.Sort Go.Shelf
open Go.Maps (Keyed)
set_option linter.unusedVariables false

/-- Block gm is the map of who leads to whom, as the ways P say. -/
def LdI (w : World) (gm : Nat) (P : List (List Int)) : Prop :=
  ∃ D : DataW Unit, w.ownsMap Tryz.prog 3 (plainElem Tryz.prog 3) gm P.length D ∧ (∀ z : Int, Maps.has D (.int .i64 z) = metB P z) ∧ (P.map hd).Nodup ∧ ∀ p ∈ P, ∀ zd, D.atKey (.int .i64 (hd p)) zd = .lit (.int .i64 (ld p))
theorem zero_intL (w : World) : (zeroValue 3).run Tryz.prog w = .ok (.int .i64 0) w := by
  obtain ⟨i0, hi0, hz0, hz1, hz2⟩ := info_parts info_inS
  simp [zeroValue, typeInfo, hi0, hz0]
section
variable {w w' : World} {gm : Nat} {P : List (List Int)}
theorem LdI.made (w : World) : LdI (w.alloc (.map #[] 0)) w.heap.size [] := ⟨.map [], World.ownsMap_made w _ _ _, fun z => rfl, by simp, fun p hp => by cases hp⟩
theorem LdI.lt (h : LdI w gm P) : gm < w.heap.size := by
  obtain ⟨D, h1, _⟩ := h
  exact h1.lt
theorem LdI.same (h : LdI w gm P) (hs : w'.heap[gm]? = w.heap[gm]?) : LdI w' gm P := by
  obtain ⟨D, ⟨es, clock, hb, r⟩, h2⟩ := h
  exact ⟨D, ⟨es, clock, hs.trans hb, r⟩, h2⟩
theorem LdI.below (h : LdI w gm P) (hb : Below w.heap.size w w') : LdI w' gm P := h.same (hb.block gm h.lt)
theorem LdI.isMap (h : LdI w gm P) : ∃ es clock, w.heap[gm]? = some (.map es clock) := by
  obtain ⟨D, ⟨es, clock, hb, _⟩, _⟩ := h
  exact ⟨es, clock, hb⟩
/-- A row of numbers is not the map. -/
theorem LdI.apart (h : LdI w gm P) {a : Option Addr} {c : Nat} {l : List Int} (hs : Sls inC 1 w a c l) : ∀ b off, a = some ⟨b, off, none⟩ → l ≠ [] → b ≠ gm := by
  rintro b off rfl hne rfl
  obtain ⟨es, clock, hm⟩ := h.isMap
  obtain ⟨b', off', e, hc⟩ := hs.2.2.2 hne
  simp only [Option.some.injEq, Addr.mk.injEq, and_true] at e
  obtain ⟨rfl, rfl⟩ := e
  cases l with
  | nil => exact hne rfl
  | cons x r =>
    have q := hc 0 x rfl 0 _ rfl
    unfold World.cell? at q
    rw [hm] at q
    simp at q
theorem LdI.look (h : LdI w gm P) {z : Int} (hz : -9223372036854775808 ≤ z ∧ z ≤ 9223372036854775807) :
    ∃ v, (Instr.lookup 77 (.map (some gm)) (.int .i64 z) true).run Tryz.prog w = .ok (.tuple #[.int .i64 v, .bool (metB P z)]) w := by
  obtain ⟨D, h1, h2, _⟩ := h
  have hkey := Maps.keyOf_int_mk (P := Tryz.prog) Tryz.underlying3 (WalkArith.wf_i64 hz)
  obtain ⟨v, ps, hrun, hv⟩ := h1.look_ok (Maps.int_keyed Tryz.underlying3) Tryz.underlying77 (zero_intL w) (plainElem_int Tryz.underlying3 (a := 0) (by decide)) hkey
  obtain ⟨a, rfl, _⟩ := plainElem_int_inv Tryz.underlying3 hv
  exact ⟨a, by rw [hrun, h2 z]⟩
theorem LdI.get (h : LdI w gm P) {p : List Int} (hp : p ∈ P) (hz : -9223372036854775808 ≤ hd p ∧ hd p ≤ 9223372036854775807) :
    (Instr.lookup 77 (.map (some gm)) (.int .i64 (hd p)) false).run Tryz.prog w = .ok (.int .i64 (ld p)) w := by
  obtain ⟨D, h1, h2, _, h3⟩ := h
  have hkey := Maps.keyOf_int_mk (P := Tryz.prog) Tryz.underlying3 (WalkArith.wf_i64 hz)
  obtain ⟨c, hrun, hat, _⟩ := h1.lookup_int (Maps.int_keyed Tryz.underlying3) Tryz.underlying77 Tryz.underlying3 (zero_intL w) hkey
  rw [h3 p hp] at hat
  simp only [DataW.lit.injEq, Lit.int.injEq, true_and] at hat
  rw [hrun, hat]
theorem LdI.store (h : LdI w gm P) (hn : P.length ≤ 1000) {q : List Int} {x : Int} (hx : -9223372036854775808 ≤ x ∧ x ≤ 9223372036854775807) (hq : -9223372036854775808 ≤ hd q ∧ hd q ≤ 9223372036854775807) (hnew : metB P x = false) :
    ∃ w', (Instr.mapUpdate 77 (.map (some gm)) (.int .i64 x) (.int .i64 (hd q))).run Tryz.prog w = .ok () w' ∧ LdI w' gm (P ++ [q ++ [x]]) ∧ w.mapTurned w' gm := by
  obtain ⟨D, h1, h2, h3, h4⟩ := h
  have hK := Maps.int_keyed (P := Tryz.prog) Tryz.underlying3
  have hkey := Maps.keyOf_int_mk (P := Tryz.prog) Tryz.underlying3 (WalkArith.wf_i64 hx)
  obtain ⟨w', hrun, hown', ht⟩ := h1.store hK Tryz.underlying77 (by unfold maxLen; omega) hkey (plainElem_int Tryz.underlying3 (a := hd q) (WalkArith.wf_i64 hq))
  have hlit : WideAt.IsKeyLit (.int .i64 x) := hK.key hkey
  have hne : ∀ z, z ≠ x → Lit.int .i64 z ≠ Lit.int .i64 x := fun z hz e => by simp only [Lit.int.injEq, true_and] at e; exact hz e
  refine ⟨w', hrun, ⟨_, by rw [List.length_append]; exact hown', fun z => ?_, ?_, fun p hp zd => ?_⟩, ht⟩
  · rw [metB_snoc, hd_snoc]
    by_cases e : z = x
    · subst e
      rw [Maps.has_put_same h1.isMap hlit]
      simp
    · rw [Maps.has_put_other (hne z e), h2 z, beq_eq_false_iff_ne.2 (fun h => e h.symm), Bool.or_false]
  · rw [List.map_append, List.nodup_append]
    refine ⟨h3, by simp, fun u hu v hv => ?_⟩
    obtain ⟨p, hp, rfl⟩ := List.mem_map.1 hu
    simp [hd_snoc] at hv
    rw [hv]
    exact metB_no hnew p hp
  · rcases List.mem_append.1 hp with hp | hp
    · have := metB_no hnew p hp
      rw [Maps.atKey_put_other (hne _ this)]
      exact h4 p hp zd
    · rw [List.mem_singleton.1 hp, hd_snoc, ld_snoc]
      exact Maps.atKey_put_same h1.isMap hlit _ _
/-- Who has a leader, as slices.Sorted(maps.Keys(m)) has them. -/
theorem LdI.keys {D : DataW Unit} (h1 : w.ownsMap Tryz.prog 3 (plainElem Tryz.prog 3) gm P.length D) (h2 : ∀ z : Int, Maps.has D (.int .i64 z) = metB P z) (h3 : (P.map hd).Nodup) : (P.map hd).Perm (intKeys D) := by
  refine CollectedI.perm (left := fun _ => false) ⟨h3, fun z => ?_⟩ h1 (Maps.int_keyed Tryz.underlying3) Tryz.underlying3 (fun _ => rfl)
  rw [h2, metB_iff, List.mem_map]
  constructor
  · rintro ⟨p, hp, e⟩; exact ⟨⟨p, hp, e⟩, rfl⟩
  · rintro ⟨⟨p, hp, e⟩, _⟩; exact ⟨p, hp, e⟩
end
theorem keysL_any (gm : Nat) (W : World) : Calls Tryz.prog 32 #[.map (some gm)] W fun e w' => e = .returned (.func (.func 62) #[] #[.pointer (some ⟨W.heap.size, 0, none⟩)]) ∧ w' = W.alloc (.cells #[.map (some gm)] 77) :=
  (callsIn_wide (n := 5)).1 (AnyZI.keys_in keysA Fence.wide 5 trivial rfl (some gm) W)
theorem sortedK_any (gm : Nat) (P : List (List Int)) (W : World) (h : LdI W gm P) (hP : P.length ≤ 1000) :
    Calls Tryz.prog 31 #[.func (.func 62) #[] #[.pointer (some ⟨W.heap.size, 0, none⟩)]] (W.alloc (.cells #[.map (some gm)] 77)) fun e w' =>
      ∃ v, e = .returned v ∧ Lst inC 1 3 w' W.heap.size v (srt (P.map hd)) ∧ Below W.heap.size W w' := by
  obtain ⟨D0, hown, hD, hnd, _⟩ := h
  have hperm := LdI.keys hown hD hnd
  have hsz : Maps.size D0 ≤ 1000 := by
    have h1 := hperm.length_eq
    obtain ⟨es, clock, _, _, _, e⟩ := hown
    rw [List.length_map, e] at h1
    unfold intKeys at h1
    rw [List.length_map] at h1
    rw [e]
    rw [h1] at hP
    exact hP
  have hmax : Maps.size D0 ≤ maxLen := by unfold maxLen; omega
  have hbytes : Maps.size D0 * 8 ≤ 140737488355328 := by omega
  have hbl := hown.lt
  have hseq : SeqGives Fence.wide 2 Tryz.prog 62 #[.pointer (some ⟨W.heap.size, 0, none⟩)] encZ (fun ss => ss.Perm (intKeys D0)) (Maps.size D0) (W.alloc (.cells #[.map (some gm)] 77)) :=
    AnyZI.keys_gives (ρ := keysA_ren) { keysA with } Fence.wide _ trivial rfl (by omega) W.heap.size gm P.length D0 _ (by simp) (by simp) (by
      obtain ⟨es, clock, hb, Ft, hs, hD⟩ := hown
      exact ⟨es, clock, (Below.heap_alloc _ _ gm hbl).trans hb, Ft, hs, hD⟩)
  have cS := AnyZI.sorted_in sortedA Fence.wide 5 trivial trivial trivial trivial rfl (by omega) (sortsA _) (enters_of Tryz.func61 (by kernel_rfl) rfl) 62 #[.pointer (some ⟨W.heap.size, 0, none⟩)] trivial (enters_of Tryz.func62 (by kernel_rfl) rfl) _ _ hmax hbytes _ hseq
  change CallsIn _ _ Tryz.prog 31 _ _ _ at cS
  refine ((callsIn_wide).1 cS).mono ?_
  rintro e w' ⟨dv, ss, rfl, hS, hrow, hnil, hb⟩
  have hr := ownsRow_base_a (base' := W.heap.size) hrow (by simp)
  have hps := hS.trans hperm.symm
  refine ⟨dv, rfl, ?_, ((Below.refl _ W).alloc (Nat.le_refl _) _).trans (hb.mono (by simp))⟩
  have e : ss.mergeSort (fun x y => decide (x ≤ y)) = srt (P.map hd) := mergeSort_of_perm_i hps
  unfold Lst
  rw [flat_inC, srt_len, ← hps.length_eq, ← e]
  exact hr
end Go.Proofs.YtmkkiedohphpcaaGreat
/-! Contracts of package reach: rooted, lead, leadersOf. (Part of the proofs over package reach.) -/
namespace Go.Proofs.YtmkkiedohphpcaaGreat
open Go.RowKit Go.MapKept Go.ChangeMaps
set_option linter.unusedVariables false

set_option maxRecDepth 100000 in
set_option maxHeartbeats 1000000 in
set_option maxRecDepth 100000 in
theorem rooted_any (p g c B : Nat) (L : List Int) (w : World) (hh : Hp w B p g c L) :
    Calls Tryz.prog 64 #[.pointer (some ⟨p, 0, none⟩)] w fun e w' => ∃ v, e = .returned v ∧ Lst inC 1 3 w' w.heap.size v (rtH L) ∧ Below w.heap.size w w' := by
  obtain ⟨i0, hi0, hz0, hz1, hz2⟩ := info_parts info_inS
  have HA := hide (roAll_any p g c B L w hh)
  have HR : Hid (rtH L = (rootsK L 8).map (·.2)) := hide rfl
  have hrl := rootsK_len L 8
  clear hh
  generalize rtH L = RH at *
  generalize rootsK L 8 = R at *
  go_enter Tryz.func64, Tryz.ntmps64
  go_wp2_with fail
  refine (unhide HA).mono ?_
  rintro e w1 ⟨v1, rfl, hl1, hb1⟩
  obtain ⟨a1, c1, rfl, hsl1⟩ := hl1.sls roC_len (by omega)
  have HS1 := hide hsl1
  have HB1 := hide hb1
  have hcl := hsl1.2.2.1
  clear hl1 hsl1 hb1 HA
  go_wp2_with fail
  go_loopw [3, 5, 9] (fun v _ iv wr => ∃ k : Nat, k ≤ R.length ∧ iv = .int .i64 (k : Int) ∧ Lst inC 1 3 wr w1.heap.size v ((R.take k).map (·.2)) ∧ Below w1.heap.size w1 wr) (fun _ _ iv _ => R.length - (intOf iv).toNat)
  case atStart => exact ⟨0, Nat.zero_le _, rfl, Lst.nil _ _, Below.refl _ _⟩
  case round =>
    obtain ⟨k, hk, rfl, hown, hbel⟩ := hrel
    obtain ⟨va, vm, vc, rfl⟩ := hown.shape
    by_cases hlt : k < R.length
    · obtain ⟨b1, o1, rfl, hc1⟩ := ((unhide HS1).below hbel).2.2.2 (by intro e; rw [e] at hlt; simp at hlt)
      obtain ⟨r, hr⟩ : ∃ r, R[k]? = some r := ⟨R[k], List.getElem?_eq_getElem hlt⟩
      obtain ⟨q0, q1⟩ := Sls.root (cap := 0) hc1 hr
      have htk : (R.take (k + 1)).map (·.2) = (R.take k).map (·.2) ++ [r.2] := by rw [List.take_add_one, hr]; simp
      have HTK := hide htk
      have hml : ((R.take k).map (·.2)).length ≤ 8 := by rw [List.length_map, List.length_take]; omega
      obtain ⟨s, x⟩ := r
      dsimp only at *
      generalize (R.take k).map (·.2) = acc at *
      have hb2 : Below wr.heap.size wr ((wr.alloc (.cells #[.string s, .int .i64 x] 41)).alloc (.cells #[.int .i64 x] 3)) := ((Below.refl _ _).alloc (Nat.le_refl _) _).alloc (by simp) _
      have HO3 := hide (hown.below hb2)
      have HB3 := hide (hbel.trans (hb2.mono hbel.size))
      have HGN : Hid (((wr.alloc (.cells #[.string s, .int .i64 x] 41)).alloc (.cells #[.int .i64 x] 3)).heap[(wr.alloc (.cells #[.string s, .int .i64 x] 41)).heap.size]? = some (.cells (inC x).toArray 3 (0, 0))) := hide (heap_alloc_new _ _)
      rw [sz_alloc] at HGN
      have hsz2 := hbel.size
      have g1 := block_lt_of_cell q0
      clear hc1 hr htk hown hbel hb2
      go_wp2_with (at_builtin; refine wpList_append_lst rfl _ _ 33 rfl w1.heap.size i0 (.int .i64 0) 8 Tryz.underlying33 hi0 hz0 hz1 hz2 rfl (by decide) (by decide) _ _ rfl (unhide HO3) (wr.heap.size + 1) x rfl (unhide HGN) rfl (inC_one _) (by omega) (by simp; omega) ?_)
      intro v9 w9 hown9 hb9
      rw [← unhide HTK] at hown9
      have HO9 := hide hown9
      have HB9 := hide ((unhide HB3).trans hb9)
      obtain ⟨a9, m9, c9, rfl⟩ := hown9.shape
      clear hown9 hb9 HO3 HB3 HGN
      go_wp2
      go_roundw
      case rel => exact ⟨k + 1, by omega, by go_num, unhide HO9, unhide HB9⟩
      case measure => simp [intOf]; omega
    · have hkq : k = R.length := by omega
      rw [hkq, List.take_length] at hown
      have HO := hide hown
      have HB2 := hide ((unhide HB1).trans (hbel.mono (unhide HB1).size))
      have HSZ := hide (unhide HB1).size
      have hge : ¬ ((k : Int) < (R.length : Int)) := by omega
      clear hkq hlt hk hown hbel
      go_wp2
      go_ret
      exact ⟨_, rfl, by rw [unhide HR]; exact (unhide HO).lowA (unhide HSZ), unhide HB2⟩
theorem Lst.mapT {α : Type} {enc : α → List Value} {k T : Nat} {w w' : World} {B m : Nat} {v : Value} {l : List α} (h : Lst enc k T w B v l) (ht : w.mapTurned w' m) (hm : m < B) : Lst enc k T w' B v l := by
  refine ⟨h.1, ?_⟩
  rcases h.2 with h0 | ⟨g, cap, cur, rfl, hB, hc, h3⟩
  · exact .inl h0
  · exact .inr ⟨g, cap, cur, rfl, hB, (ht.grown.block g (Array.getElem?_eq_some_iff.1 hc).1 (fun e => by cases e; omega)).trans hc, h3⟩
theorem Lst.turnM {α : Type} {enc : α → List Value} {k T : Nat} {w w' : World} {B gm : Nat} {v : Value} {l : List α} {P : List (List Int)} (h : Lst enc k T w B v l) (hM : LdI w gm P) (ht : Turn (fun k => k = gm) (fun k => k = gm) w w') : Lst enc k T w' B v l := by
  refine ⟨h.1, ?_⟩
  rcases h.2 with h0 | ⟨g, cap, cur, rfl, hB, hc, h3⟩
  · exact .inl h0
  · refine .inr ⟨g, cap, cur, rfl, hB, (ht.block g (Array.getElem?_eq_some_iff.1 hc).1 (fun e => ?_)).trans hc, h3⟩
    obtain ⟨es, clock, hm⟩ := hM.isMap
    rw [← e, hc] at hm
    cases hm
theorem Turn.onB {S : Nat → Prop} {a b c : World} (h : Turn S S a b) (k : Below a.heap.size b c) : Turn S S a c :=
  ⟨k.os.trans h.os, k.tape.trans h.tape, k.output.trans h.output, Nat.le_trans h.size k.size, fun i hi hn => (k.block i hi).trans (h.block i hi hn), fun _ _ hs => hs⟩
set_option maxRecDepth 100000 in
set_option maxHeartbeats 2000000 in
set_option maxRecDepth 100000 in
theorem lead_any (gm : Nat) (q : List Int) (P : List (List Int)) (a : Option Addr) (cap : Nat) (l : List Int) (w : World) (hM : LdI w gm P) (hs : Sls inC 1 w a cap l) (hl : l.length ≤ 40) (hdg : Dg l) (hq : 0 ≤ hd q ∧ hd q ≤ 40) (hP : P.length ≤ 100) :
    Calls Tryz.prog 63 #[.map (some gm), .int .i64 (hd q), .slice a l.length cap] w fun e w' => ∃ v, e = .returned v ∧ Lst inC 1 3 w' w.heap.size v (nwH q P (srt l)) ∧ LdI w' gm (mtL q P (srt l)) ∧ Turn (fun k => k = gm) (fun k => k = gm) w w' := by
  obtain ⟨i0, hi0, hz0, hz1, hz2⟩ := info_parts info_inS
  have HV := hide ((callsIn_wide (n := 5)).1 (values_in 5 a l.length cap w))
  have hbA : Below w.heap.size w (w.alloc (.cells #[.slice a l.length cap] 33)) := (Below.refl _ _).alloc (Nat.le_refl _) _
  have HSO := hide (sortedV_any a cap l (by omega) w.heap.size (w.alloc (.cells #[.slice a l.length cap] 33)) (hs.below hbA) (by rw [cell_of_row _ _ _ _ _ _ (heap_alloc_new w _)]; rfl))
  have HBA := hide hbA
  have HM := hide hM
  have hgm := hM.lt
  have hsl : (srt l).length = l.length := srt_len l
  have HDG : Hid (Dg (srt l)) := hide (fun x hx => hdg x (mem_srt.1 hx))
  have hcap := hs.2.2.1
  clear hM hs hdg hbA
  generalize srt l = s at *
  generalize hln : l.length = n at *
  have HM0 : Hid (mtL q P (s.take 0) = P ∧ nwH q P (s.take 0) = []) := hide (by
    refine ⟨rfl, ?_⟩
    unfold nwH mtL
    simp)
  have HML := hide (fun k => mtL_len q (s.take k) P)
  have HNW := hide (fun k => nwH_len q P (s.take k))
  have HSN := hide (fun (k : Nat) (x : Int) (hx : s[k]? = some x) => show mtL q P (s.take (k + 1)) = mtS q (mtL q P (s.take k)) x ∧ nwH q P (s.take (k + 1)) = if metB (mtL q P (s.take k)) x = true then nwH q P (s.take k) else nwH q P (s.take k) ++ [x] by
    rw [take_snocI hx]
    exact ⟨mtL_snoc q P _ x, nwH_snoc q P _ x⟩)
  go_enter Tryz.func63, Tryz.ntmps63
  go_wp2_with fail
  refine (unhide HV).mono ?_
  rintro e w1 ⟨rfl, hw1⟩
  subst hw1
  go_wp2_with fail
  refine (unhide HSO).mono ?_
  rintro e w2 ⟨v2, rfl, hl2, hb2⟩
  rw [sz_alloc] at hb2
  have hB2 : Below w.heap.size w w2 := (unhide HBA).trans (hb2.mono (Nat.le_succ _))
  have hgm2 : gm < w2.heap.size := Nat.lt_of_lt_of_le hgm hB2.size
  have HM2 := hide ((unhide HM).below hB2)
  obtain ⟨a2, c2, rfl, hsl2⟩ := hl2.sls inC_len (by omega)
  have HS2 := hide hsl2
  have HB2 := hide hB2
  have hcl := hsl2.2.2.1
  clear hl2 hsl2 hb2 hB2 HSO HV HBA HM
  obtain ⟨Q, hQ⟩ : ∃ Q, hd q = Q := ⟨_, rfl⟩
  rw [hQ] at hq ⊢
  have HQQ := hide hQ
  clear hQ
  go_wp2_with fail
  go_loopw [7, 9, 10, 11, 16] (fun v _ _ _ iv wr => ∃ k : Nat, k ≤ s.length ∧ iv = .int .i64 (k : Int) ∧ Lst inC 1 3 wr w2.heap.size v (nwH q P (s.take k)) ∧ LdI wr gm (mtL q P (s.take k)) ∧ Turn (fun k => k = gm) (fun k => k = gm) w2 wr) (fun _ _ _ _ iv _ => s.length - (intOf iv).toNat)
  case atStart => exact ⟨0, Nat.zero_le _, rfl, by rw [(unhide HM0).2]; exact Lst.nil _ _, by rw [(unhide HM0).1]; exact unhide HM2, Turn.refl _ _⟩
  case round =>
    obtain ⟨k, hk, rfl, hown, hmp, htn⟩ := hrel
    obtain ⟨va, vm, vc, rfl⟩ := hown.shape
    by_cases hlt : k < s.length
    · have hne : s ≠ [] := by intro e; rw [e] at hlt; simp at hlt
      have hap := (unhide HM2).apart (unhide HS2)
      obtain ⟨b1, o1, rfl, hc1⟩ := (unhide HS2).2.2.2 hne
      obtain ⟨x, hx⟩ : ∃ x, s[k]? = some x := ⟨s[k], List.getElem?_eq_getElem hlt⟩
      have q0 := Sls.num (cap := 0) hc1 hx
      have q1 : wr.cell? ⟨b1, o1 + k, none⟩ = some (.int .i64 x) := (World.cell?_of_block (a := ⟨b1, o1 + k, none⟩) (htn.block b1 (block_lt_of_cell q0) (hap b1 o1 rfl hne))).trans q0
      have hxb := unhide HDG x (List.mem_of_getElem? hx)
      obtain ⟨n1, n2⟩ := unhide HSN k x hx
      have hml := unhide HML k
      have hnw := unhide HNW k
      have hml2 : (mtL q P (s.take k)).length ≤ 140 := by rw [List.length_take] at hml; omega
      have hnw2 : (nwH q P (s.take k)).length ≤ 140 := by omega
      obtain ⟨xv, hlook⟩ := hmp.look (z := x) (by omega)
      have HN1 := hide n1
      have HN2 := hide n2
      have hsz := htn.size
      clear hc1 hx hap hne n1 n2 hml hnw q0
      cases hmet : metB (mtL q P (s.take k)) x with
      | true =>
        have HE : Hid (mtL q P (s.take (k + 1)) = mtL q P (s.take k) ∧ nwH q P (s.take (k + 1)) = nwH q P (s.take k)) := hide (by
          rw [unhide HN1, unhide HN2, if_pos hmet]
          unfold mtS
          rw [if_pos hmet]
          exact ⟨rfl, rfl⟩)
        rw [hmet] at hlook
        have HOWN := hide hown
        have HMP := hide hmp
        have HTN := hide htn
        clear hown hmp htn HN1 HN2 hmet
        go_wp2
        go_roundw
        case rel => exact ⟨k + 1, by omega, by go_num, by rw [(unhide HE).2]; exact unhide HOWN, by rw [(unhide HE).1]; exact unhide HMP, unhide HTN⟩
        case measure => simp [intOf]; omega
      | false =>
        have HE : Hid (mtL q P (s.take (k + 1)) = mtL q P (s.take k) ++ [q ++ [x]] ∧ nwH q P (s.take (k + 1)) = nwH q P (s.take k) ++ [x]) := hide (by
          rw [unhide HN1, unhide HN2, if_neg (by rw [hmet]; simp)]
          unfold mtS
          rw [if_neg (by rw [hmet]; simp)]
          exact ⟨rfl, rfl⟩)
        obtain ⟨w3, hst, hmp3, ht3⟩ := hmp.store (q := q) (x := x) (by omega) (by omega) (by rw [unhide HQQ]; omega) hmet
        rw [hmet] at hlook
        rw [← (unhide HE).1] at hmp3
        rw [unhide HQQ] at hst
        have hT3 : Turn (fun k => k = gm) (fun k => k = gm) w2 w3 := htn.trans (Turn.grown ht3.grown (fun k hk => by cases hk; rfl))
        have hown3 := hown.mapT ht3 hgm2
        have hb4 : Below w3.heap.size w3 (w3.alloc (.cells #[.int .i64 x] 3)) := (Below.refl _ _).alloc (Nat.le_refl _) _
        have HO4 := hide (hown3.below hb4)
        have HM4 := hide (hmp3.below hb4)
        have HT4 := hide (hT3.trans (Turn.of_below hb4))
        have HGN : Hid ((w3.alloc (.cells #[.int .i64 x] 3)).heap[w3.heap.size]? = some (.cells (inC x).toArray 3 (0, 0))) := hide (heap_alloc_new w3 _)
        have hsz3 := hT3.size
        clear hown hmp htn hmet hmp3 hT3 hown3 hb4 ht3 HN1 HN2
        generalize nwH q P (s.take k) = acc at *
        go_wp2_with (at_builtin; refine wpList_append_lst rfl _ _ 33 rfl w2.heap.size i0 (.int .i64 0) 8 Tryz.underlying33 hi0 hz0 hz1 hz2 rfl (by decide) (by decide) _ _ rfl (unhide HO4) w3.heap.size x rfl (unhide HGN) rfl (inC_one _) (by omega) (by simp; omega) ?_)
        intro v9 w9 hown9 hb9
        rw [← (unhide HE).2] at hown9
        have HO9 := hide hown9
        have HM9 := hide ((unhide HM4).same (hb9.block gm hgm2))
        have HT9 := hide ((unhide HT4).onB hb9)
        obtain ⟨a9, m9, c9, rfl⟩ := hown9.shape
        clear hown9 hb9 HO4 HM4 HT4 HGN
        go_wp2
        go_roundw
        case rel => exact ⟨k + 1, by omega, by go_num, unhide HO9, unhide HM9, unhide HT9⟩
        case measure => simp [intOf]; omega
    · have hkq : k = s.length := by omega
      rw [hkq, List.take_length] at hown hmp
      have HO := hide (hown.lowA (unhide HB2).size)
      have HMP := hide hmp
      have HT := hide ((Turn.of_below (S := fun k => k = gm) (unhide HB2)).trans htn)
      have hge : ¬ ((k : Int) < (s.length : Int)) := by omega
      clear hkq hlt hk hown hmp htn
      go_wp2
      go_ret
      exact ⟨_, rfl, unhide HO, unhide HMP, unhide HT⟩
/-! ### leadersOf -/
theorem srt_small {l : List Int} (h : l.Nodup) (hd : Dg l) : l.length ≤ 40 := by
  have key : ∀ (a b : List Int), a.Nodup → (∀ x ∈ a, x ∈ b) → a.length ≤ b.length := by
    intro a
    induction a with
    | nil => intro b _ _; simp
    | cons x a ih =>
      intro b hn hs
      have hx := hs x (by simp)
      have h2 := ih (b.erase x) (List.nodup_cons.1 hn).2 (fun y hy => (List.mem_erase_of_ne (fun e => (List.nodup_cons.1 hn).1 (by rw [← e]; exact hy))).2 (hs y (by simp [hy])))
      rw [List.length_erase_of_mem hx] at h2
      have : 0 < b.length := List.length_pos_of_mem hx
      rw [List.length_cons]
      omega
  have := key l ((List.range 40).map (fun j : Nat => (j : Int) + 1)) h (fun x hx => mem_hands.2 (by have := hd x hx; omega))
  simpa using this
theorem refsL_len (L : List Int) (h : Int) (hf : Fine L) : (rfL L h).length ≤ 15 := by
  rw [rfL_fold, ← refK_one]
  exact Nat.le_trans (refK_len L _ _) (nmL_len L h hf)
set_option maxRecDepth 100000 in
set_option maxHeartbeats 4000000 in
set_option maxRecDepth 100000 in
theorem leadersOf_any (p g c B : Nat) (L : List Int) (w : World) (hh : Hp w B p g c L) :
    Calls Tryz.prog 33 #[.pointer (some ⟨p, 0, none⟩)] w fun e w' => ∃ gm, e = .returned (.map (some gm)) ∧ LdI w' gm (bfL L) ∧ w.heap.size ≤ gm ∧ Below w.heap.size w w' := by
  obtain ⟨i0, hi0, hz0, hz1, hz2⟩ := info_parts info_inS
  have hmm := @run_makeMap Tryz.prog
  have hf := hh.fine
  have hb0 : Below w.heap.size w (w.alloc (.map #[] 0)) := (Below.refl _ _).alloc (Nat.le_refl _) _
  have HRO := hide (rooted_any p g c B L (w.alloc (.map #[] 0)) (hh.below hb0))
  rw [sz_alloc] at HRO
  have HRE := hide (fun (x : Int) (W : World) (hW : Below w.heap.size w W) => rhRefs_any p g c B L x W (hh.below hW))
  have hrt : (rtH L).length ≤ 8 := by unfold rtH; rw [List.length_map]; exact rootsK_len L 8
  have HLE := hide (fun (q : List Int) (P : List (List Int)) (a : Option Addr) (cap : Nat) (l : List Int) (W : World) hM hs hl hdg hq hP => lead_any w.heap.size q P a cap l W hM hs hl hdg hq hP)
  have HBF : Hid (∀ k, Bf (rtH L) (refsL L) (bfP (rtH L) (refsL L) k) k) := hide (fun k => bf_at (rtH_dg hf) (refsL_dg L) k (Nat.le_total _ _))
  have HLN := hide (fun k => (unhide HBF k).len (rtH_dg hf) (refsL_dg L))
  have HZ : Hid (mtL [] [] (srt (rtH L)) = bfP (rtH L) (refsL L) 0 ∧ nwH [] [] (srt (rtH L)) = (bfP (rtH L) (refsL L) 0).map hd) := hide ⟨rfl, by have := nwH_met [] [] (srt (rtH L)); rw [List.map_nil, List.nil_append] at this; exact this⟩
  have HSC : Hid (∀ k q, (bfP (rtH L) (refsL L) k)[k]? = some q → chkE L (hd q) = 0 ∧ rfL L (hd q) = refsL L (hd q) ∧ (1 ≤ hd q ∧ hd q ≤ 40) ∧ mtL q (bfP (rtH L) (refsL L) k) (srt (rfL L (hd q))) = bfP (rtH L) (refsL L) (k + 1) ∧ (bfP (rtH L) (refsL L) k).map hd ++ nwH q (bfP (rtH L) (refsL L) k) (srt (rfL L (hd q))) = (bfP (rtH L) (refsL L) (k + 1)).map hd) := hide (fun k q hq => by
    have hw := (unhide HBF k).way q (List.mem_of_getElem? hq)
    have hc := way_there hf hw
    have hr : rfL L (hd q) = refsL L (hd q) := by unfold rfL; rw [if_pos hc]
    have e := bfP_some hq
    refine ⟨hc, hr, hndB_iff.1 (chkE_zero.1 hc).2.1, by rw [hr, e], ?_⟩
    rw [nwH_met, hr, e])
  have hdg0 : ∀ x, Dg (rfL L x) := fun x y hy => by
    unfold rfL at hy
    split at hy
    · exact refsL_dg L x y hy
    · cases hy
  have HDG : Hid (∀ x, Dg (rfL L x) ∧ (rfL L x).length ≤ 15) := hide (fun x => ⟨hdg0 x, refsL_len L x hf⟩)
  clear hdg0
  have HEND : Hid (∀ k, k ≤ 40 → (bfP (rtH L) (refsL L) k).length ≤ k → bfP (rtH L) (refsL L) k = bfL L) := hide (fun k hk hl => bfA_of hk hl)
  have HRD := hide (rtH_dg hf)
  have HM0 := hide (LdI.made w)
  have HB0 := hide hb0
  clear hh hf hb0 HBF
  generalize bfL L = BL at *
  generalize rtH L = RH at *
  generalize bfP RH (refsL L) = bp at *
  go_enter Tryz.func33, Tryz.ntmps33
  go_wp2_with fail
  refine (unhide HRO).mono ?_
  rintro e w1 ⟨v1, rfl, hl1, hb1⟩
  have hB1 : Below w.heap.size w w1 := (unhide HB0).trans (hb1.mono (Nat.le_succ _))
  have hsz1 : w.heap.size + 1 ≤ w1.heap.size := by have := hb1.size; rw [sz_alloc] at this; exact this
  have hM1 : LdI w1 w.heap.size [] := (unhide HM0).same (hb1.block _ (Nat.lt_succ_self _))
  obtain ⟨a1, c1, rfl, hsl1⟩ := hl1.sls inC_len (by omega)
  have HL1 := hide (unhide HLE [] [] a1 c1 RH w1 hM1 hsl1 (by omega) (unhide HRD) (by decide) (by simp))
  have hcl1 := hsl1.2.2.1
  have HB1 := hide hB1
  clear hl1 hsl1 hb1 hB1 hM1 HRO HM0 HB0
  have hh0 : hd [] = 0 := rfl
  rw [hh0] at HL1
  go_wp2_with fail
  refine (unhide HL1).mono ?_
  rintro e w2 ⟨v2, rfl, hl2, hm2, ht2⟩
  rw [(unhide HZ).2] at hl2
  rw [(unhide HZ).1] at hm2
  have HO2 := hide (hl2.lowA hsz1)
  have HM2 := hide hm2
  have HB2 := hide ((unhide HB1).trans (ht2.below (fun k hk => by rw [hk]; exact Nat.le_refl _) (by omega)))
  have hsz2 := Nat.le_trans hsz1 ht2.size
  obtain ⟨va2, vm2, vc2, rfl⟩ := hl2.shape
  clear hl2 hm2 ht2 HL1 HB1 hh0
  go_wp2_with fail
  go_loopw [4, 5, 6, 7] (fun v iv _ _ wr => ∃ k : Nat, k ≤ (bp k).length ∧ iv = .int .i64 (k : Int) ∧ Lst inC 1 3 wr (w.heap.size + 1) v ((bp k).map hd) ∧ LdI wr w.heap.size (bp k) ∧ Below w.heap.size w wr ∧ w.heap.size + 1 ≤ wr.heap.size) (fun _ iv _ _ _ => 41 - (intOf iv).toNat)
  case atStart => exact ⟨0, Nat.zero_le _, rfl, unhide HO2, unhide HM2, unhide HB2, hsz2⟩
  case round =>
    obtain ⟨k, hk, rfl, hown, hmp, hbel, hsz⟩ := hrel
    have hln := unhide HLN k
    obtain ⟨va, vc, rfl, hsl⟩ := hown.sls inC_len (by rw [List.length_map]; omega)
    have hml : ((bp k).map hd).length = (bp k).length := List.length_map _
    have HMM : Hid ((bp k).map hd = (bp k).map hd) := hide rfl
    have HATX : Hid (∀ q, (bp k)[k]? = some q → ((bp k).map hd)[k]? = some (hd q)) := hide (fun q hq => by rw [List.getElem?_map, hq]; rfl)
    have HSX := hide (fun q hq => (unhide HSC k q hq).2.2.2.2)
    by_cases hlt : k < (bp k).length
    · obtain ⟨q, hq⟩ : ∃ q, (bp k)[k]? = some q := ⟨_, List.getElem?_eq_getElem hlt⟩
      obtain ⟨s1, s2, s3, s4, _⟩ := unhide HSC k q hq
      have s5 := unhide HSX q hq
      have hat := unhide HATX q hq
      clear HSX HATX HMM
      generalize (bp k).map hd = MM at *
      have hltM : k < MM.length := by omega
      obtain ⟨b3, o3, rfl, hc3⟩ := hsl.2.2.2 (by intro e; rw [e] at hml; simp at hml; omega)
      have q0 := Sls.num (cap := 0) hc3 hat
      have HRX := hide (unhide HRE (hd q) wr hbel)
      rw [s1, errV_zero] at HRX
      obtain ⟨d1, d2⟩ := unhide HDG (hd q)
      have hnx : k + 1 ≤ (bp (k + 1)).length := by
        have := congrArg List.length s5
        rw [List.length_append, List.length_map] at this
        omega
      have HD1 := hide d1
      have HS4 := hide s4
      have HS5 := hide s5
      have HQ : Hid (∃ Q, hd q = Q) := hide ⟨_, rfl⟩
      have hln2 := unhide HLN (k + 1)
      have HOWN := hide hown
      have HMP := hide hmp
      have HBEL := hide hbel
      have HC3 : Hid (∀ W, Turn (fun k => k = w.heap.size) (fun k => k = w.heap.size) wr W → W.cell? ⟨b3, o3 + k, none⟩ = some (.int .i64 (hd q))) := hide (fun W hW => by
        have hap := hmp.apart hsl b3 o3 rfl (by intro e; rw [e] at hml; simp at hml; omega)
        exact (World.cell?_of_block (a := ⟨b3, o3 + k, none⟩) (hW.block b3 (block_lt_of_cell q0) hap)).trans q0)
      have HML := hide hml
      have hM40 : MM.length ≤ 40 := by omega
      have hbk : (bp k).length ≤ 40 := by omega
      clear hown hmp hbel hc3 hsl hat hq s1 s2 s4 s5 d1 hml
      generalize hRF : rfL L (hd q) = RF at *
      have HLX := hide (fun (a : Option Addr) (cap : Nat) (W : World) hM hs => unhide HLE q (bp k) a cap RF W hM hs (by omega) (unhide HD1) (by omega) (by omega))
      obtain ⟨Q, hQ⟩ := unhide HQ
      rw [hQ] at q0 HRX HLX s3 HC3
      clear hRF hQ HQ
      go_wp2_with fail
      refine (unhide HRX).mono ?_
      rintro e w3 ⟨v3, rfl, hl3, hb3⟩
      obtain ⟨a3, c3, rfl, hsl3⟩ := hl3.sls inC_len (by omega)
      have hM3 := (unhide HMP).below hb3
      have HL3 := hide (unhide HLX a3 c3 w3 hM3 hsl3)
      have hq3 := unhide HC3 w3 (Turn.of_below hb3)
      have HO3 := hide ((unhide HOWN).below hb3)
      have HM3 := hide hM3
      have HB3 := hide ((unhide HBEL).trans (hb3.mono (unhide HBEL).size))
      have hsz3 := Nat.le_trans hsz hb3.size
      have hcl3 := hsl3.2.2.1
      clear hl3 hsl3 hb3 hM3 HRX HLX HOWN HMP HBEL HC3 q0
      go_wp2_with fail
      refine (unhide HL3).mono ?_
      rintro e w4 ⟨v4, rfl, hl4, hm4, ht4⟩
      have HO4 := hide ((unhide HO3).turnM (unhide HM3) ht4)
      rw [unhide HS4] at hm4
      have HM4 := hide hm4
      have HB4 := hide ((unhide HB3).trans (ht4.below (fun k hk => by rw [hk]; exact Nat.le_refl _) (by omega)))
      have hsz4 := Nat.le_trans hsz3 ht4.size
      have hnl : (nwH q (bp k) (srt RF)).length ≤ 40 := by
        have := congrArg List.length (unhide HS5)
        rw [List.length_append, List.length_map] at this
        omega
      obtain ⟨a4, c4, rfl, hsl4⟩ := hl4.sls inC_len (by omega)
      have HS44 := hide hsl4
      clear hl4 hm4 ht4 HL3 HO3 HM3 HB3 hsl4 hq3
      have HOK : Hid (MM.length + (nwH q (bp k) (srt RF)).length ≤ 1000) := hide (by omega)
      generalize nwH q (bp k) (srt RF) = NW at *
      go_wp2_with (at_builtin; refine wpList_append_sls rfl _ _ 33 rfl (w.heap.size + 1) i0 (.int .i64 0) 8 Tryz.underlying33 hi0 hz0 hz1 hz2 rfl (by decide) (by decide) _ _ rfl (unhide HO4) a4 c4 _ rfl (unhide HS44) inC_len inC_one (unhide HOK) hsz4 ?_)
      intro v9 w9 hown9 hb9
      try rw [unhide HS5] at hown9
      have HO9 := hide hown9
      have HM9 := hide ((unhide HM4).same (hb9.block _ (Nat.lt_succ_self _)))
      have HB9 := hide ((unhide HB4).trans (hb9.mono (Nat.le_succ _)))
      have hsz9 := Nat.le_trans hsz4 hb9.size
      obtain ⟨a9, m9, c9, rfl⟩ := hown9.shape
      clear hown9 hb9 HO4 HM4 HB4 HS44
      go_wp2
      go_roundw
      case rel => exact ⟨k + 1, by omega, by go_num, unhide HO9, unhide HM9, unhide HB9, hsz9⟩
      case measure => simp [intOf]; omega
    · have he := unhide HEND k (by omega) (by omega)
      rw [he] at hmp
      have HMP := hide hmp
      have HBEL := hide hbel
      have hge : ¬ ((k : Int) < ((bp k).length : Int)) := by omega
      rw [hml]
      clear hmp hbel hown hsl he
      go_wp2
      go_ret
      exact ⟨_, rfl, unhide HMP, Nat.le_refl _, unhide HBEL⟩
end Go.Proofs.YtmkkiedohphpcaaGreat
/-! Contracts of package reach: Live, Dead, Path. (Part of the proofs over package reach.) -/
namespace Go.Proofs.YtmkkiedohphpcaaGreat
open Go.RowKit Go.MapKept Go.ChangeMaps Go.Sort Go.Shelf
set_option linter.unusedVariables false
def rvInt_ren : Ren := { f := fun | 35 => 41 | n => n, t := fun | 22 => 33 | 23 => 3 | 3 => 3 | 4 => 4 | 0 => 0 | n => n, g := fun n => n }
theorem rvInt : SlLaysN.n35 Tryz.prog rvInt_ren := { mixed := by kernel_rfl, f35 := ⟨ "slices.Reverse[[]int,int]", by decide, Tryz.func41.trans rfl⟩, t0 := Tryz.underlying0, a0 := Tryz.isAgg0, z0 := Tryz.sizeOf0, v0 := Tryz.zeroValue0, t3 := Tryz.underlying3, a3 := Tryz.isAgg3, z3 := Tryz.sizeOf3, v3 := Tryz.zeroValue3, t4 := Tryz.underlying4, a4 := Tryz.isAgg4, z4 := Tryz.sizeOf4, v4 := Tryz.zeroValue4, t22 := Tryz.underlying33, a22 := Tryz.isAgg33, z22 := Tryz.sizeOf33, v22 := Tryz.zeroValue33, t23 := Tryz.underlying3, a23 := Tryz.isAgg3, z23 := Tryz.sizeOf3, v23 := Tryz.zeroValue3 }

/-- A row of numbers that a call made, turned round. -/
theorem revRow_any (v : Value) (B : Nat) (l : List Int) (w : World) (h : Lst inC 1 3 w B v l) (hl : l.length ≤ 100000) :
    Calls Tryz.prog 41 #[v] w fun e w' => e = .returned (.tuple #[]) ∧ Lst inC 1 3 w' B v l.reverse ∧ Turn (fun k => v.ownBlock = some k) (fun k => v.ownBlock = some k) w w' := by
  have hf := h
  unfold Lst at hf ⊢
  rw [flat_inC] at hf
  rcases hf.2 with ⟨rfl, hz⟩ | ⟨gb, c, cur, rfl, hbase, hgb, r1, r2, r3, r4⟩
  · obtain rfl := List.eq_nil_of_length_eq_zero hz
    refine (AnyG.slices_Reverse_int_empty rvInt none 0 w).mono ?_
    rintro e w' ⟨rfl, rfl⟩
    exact ⟨rfl, h, Turn.refl _ _⟩
  · have hH : Holds encZ w gb 0 l.toArray := holds_of_block_i hgb (by simpa using r4)
    refine (AnyG.slices_Reverse_int rvInt gb 0 c l w hH (by omega)).mono ?_
    rintro e w' ⟨rfl, nn, rfl⟩
    have e0 : putRow (Value.int .i64) (Sort.ahead w nn) gb 0 l.reverse.toArray = grow (putRow encZ (Sort.ahead w nn) gb 0 l.reverse.toArray) #[] := by rw [grow_empty]
    rw [e0]
    refine ⟨rfl, ?_, Turn.grown (grownBy_sorted_i _) (fun k hk => by simpa [Value.ownBlock] using hk)⟩
    rw [flat_inC, List.length_reverse]
    exact ownsRow_sorted_i (by simp) hbase hgb r1 r2 r3
section
variable {w : World} {B p g c : Nat} {L : List Int}
set_option maxRecDepth 100000 in
theorem rhLive_any (h : Hp w B p g c L) :
    Calls Tryz.prog 9 #[.pointer (some ⟨p, 0, none⟩)] w fun e w' => ∃ v, e = .returned v ∧ Lst inC 1 3 w' w.heap.size v (lvK L 40) ∧ Below w.heap.size w w' := by
  have HL := hide (leadersOf_any p g c B L w h)
  have hbl := bfL_len h.fine
  have HS := hide (fun (gm : Nat) (W : World) (hM : LdI W gm (bfL L)) => sortedK_any gm (bfL L) W hM (by omega))
  rw [live_eq h.fine] at HS
  clear h
  generalize lvK L 40 = LV at *
  generalize bfL L = BL at *
  go_enter Tryz.func9, Tryz.ntmps9
  go_wp2_with fail
  refine (unhide HL).mono ?_
  rintro e w1 ⟨gm, rfl, hm1, _, hb1⟩
  have HK1 := hide (keysL_any gm w1)
  have HS1 := hide (unhide HS gm w1 hm1)
  have HB1 := hide hb1
  clear hm1 hb1 HL HS
  go_wp2_with fail
  refine (unhide HK1).mono ?_
  rintro e w2 ⟨rfl, hw2⟩
  subst hw2
  clear HK1
  go_wp2_with fail
  refine (unhide HS1).mono ?_
  rintro e w3 ⟨v3, rfl, hl3, hb3⟩
  have HO := hide (hl3.lowA (unhide HB1).size)
  have HB3 := hide ((unhide HB1).trans (hb3.mono (unhide HB1).size))
  obtain ⟨va, vm, vc, rfl⟩ := hl3.shape
  clear hl3 hb3 HS1 HB1
  go_wp2
  go_ret
  exact ⟨_, rfl, unhide HO, unhide HB3⟩
set_option maxRecDepth 100000 in
set_option maxHeartbeats 2000000 in
set_option maxRecDepth 100000 in
theorem rhDead_any (h : Hp w B p g c L) :
    Calls Tryz.prog 11 #[.pointer (some ⟨p, 0, none⟩)] w fun e w' => ∃ v, e = .returned v ∧ Lst inC 1 3 w' w.heap.size v (ddK L 40) ∧ Below w.heap.size w w' := by
  obtain ⟨i0, hi0, hz0, hz1, hz2⟩ := info_parts info_inS
  have HL := hide (leadersOf_any p g c B L w h)
  have HIS := hide (fun (x : Int) (W : World) (hW : Below w.heap.size w W) => isObject_any p g c B L x W (h.below hW))
  have HMT := hide (fun x => bfL_met h.fine x)
  have HCK : Hid (∀ k : Nat, k < 40 → (chkE L ((k : Int) + 1) = 0 ↔ tagAt L ((k : Int) + 1) ≠ 0)) := hide (fun k hk => ⟨fun e => (chkE_zero.1 e).2.2, fun e => chkE_zero.2 ⟨h.fine.len0, hndB_iff.2 (by omega), e⟩⟩)
  have HDS := hide (fun k => ddK_succ L k)
  have HDL := hide (fun k => ddK_len L k)
  have HD0 : Hid (ddK L 0 = []) := hide rfl
  clear h
  generalize bfL L = BL at *
  generalize ddK L = dk at *
  go_enter Tryz.func11, Tryz.ntmps11
  go_wp2_with fail
  refine (unhide HL).mono ?_
  rintro e w1 ⟨gm, rfl, hm1, hgm, hb1⟩
  have HM1 := hide hm1
  have HB1 := hide hb1
  clear hm1 hb1 HL
  go_wp2_with fail
  go_loopw [4, 5, 6, 7] (fun v iv _ _ wr => ∃ k : Nat, k ≤ 40 ∧ iv = .int .i64 ((k : Int) + 1) ∧ Lst inC 1 3 wr w1.heap.size v (dk k) ∧ Below w1.heap.size w1 wr) (fun _ iv _ _ _ => 41 - (intOf iv).toNat)
  case atStart => exact ⟨0, Nat.zero_le _, rfl, by rw [unhide HD0]; exact Lst.nil _ _, Below.refl _ _⟩
  case round =>
    obtain ⟨k, hk, rfl, hown, hbel⟩ := hrel
    obtain ⟨va, vm, vc, rfl⟩ := hown.shape
    by_cases hlt : k < 40
    · obtain ⟨xv, hlook⟩ := ((unhide HM1).below hbel).look (z := (k : Int) + 1) (by omega)
      rw [unhide HMT] at hlook
      have HIX := hide (unhide HIS ((k : Int) + 1) wr ((unhide HB1).trans (hbel.mono (unhide HB1).size)))
      have hck := unhide HCK k hlt
      have hds := unhide HDS k
      have hdl := unhide HDL k
      have hle : (k : Int) + 1 ≤ 40 := by omega
      have hin : ((k + 1 : Nat) : Int) + 1 = (k : Int) + 1 + 1 := by omega
      have HIN := hide hin
      have hnn : (0 : Int) ≤ (k : Int) + 1 := by omega
      have HOWN := hide hown
      have HBEL := hide hbel
      clear hown hbel hin
      obtain ⟨X, hX⟩ : ∃ X : Int, (k : Int) + 1 = X := ⟨_, rfl⟩
      rw [hX] at hlook HIX hck hds hle HIN hnn
      rw [hX]
      have HX := hide hX
      clear hX
      cases hlv : lvB L X with
      | true =>
        rw [hlv] at hlook
        have HE : Hid (dk (k + 1) = dk k) := hide (by rw [hds, if_neg (by rw [hlv]; simp)])
        clear hds hck hlv HIX
        go_wp2
        go_roundw
        case rel => exact ⟨k + 1, by omega, by rw [unhide HIN], by rw [unhide HE]; exact unhide HOWN, unhide HBEL⟩
        case measure => simp [intOf]; omega
      | false =>
        rw [hlv] at hlook
        by_cases ht : tagAt L X = 0
        · have HE : Hid (dk (k + 1) = dk k) := hide (by rw [hds, if_neg (fun hq => hq.1 ht)])
          rw [decide_eq_false (fun e => (hck.1 e) ht)] at HIX
          clear hds hck hlv ht
          go_wp2_with fail
          refine (unhide HIX).mono ?_
          rintro e w2 ⟨rfl, hb2⟩
          have HO2 := hide ((unhide HOWN).below hb2)
          have HB2 := hide ((unhide HBEL).trans (hb2.mono (unhide HBEL).size))
          clear hb2 HIX HOWN HBEL
          go_wp2
          go_roundw
          case rel => exact ⟨k + 1, by omega, by rw [unhide HIN], by rw [unhide HE]; exact unhide HO2, unhide HB2⟩
          case measure => simp [intOf]; omega
        · have HE : Hid (dk (k + 1) = dk k ++ [X]) := hide (by rw [hds, if_pos ⟨ht, hlv⟩])
          rw [decide_eq_true (hck.2 ht)] at HIX
          clear hds hck hlv ht
          go_wp2_with fail
          refine (unhide HIX).mono ?_
          rintro e w2 ⟨rfl, hb2⟩
          have hB2 := (unhide HBEL).trans (hb2.mono (unhide HBEL).size)
          have HO3 := hide (((unhide HOWN).below hb2).below ((Below.refl _ w2).alloc (Nat.le_refl _) (.cells #[.int .i64 X] 3)))
          have HB3 := hide (hB2.alloc hB2.size (.cells #[.int .i64 X] 3))
          have HGN : Hid ((w2.alloc (.cells #[.int .i64 X] 3)).heap[w2.heap.size]? = some (.cells (inC X).toArray 3 (0, 0))) := hide (heap_alloc_new w2 _)
          have hsz2 := hB2.size
          clear hb2 hB2 HIX HOWN HBEL
          generalize dk k = acc at *
          go_wp2_with (at_builtin; refine wpList_append_lst rfl _ _ 33 rfl w1.heap.size i0 (.int .i64 0) 8 Tryz.underlying33 hi0 hz0 hz1 hz2 rfl (by decide) (by decide) _ _ rfl (unhide HO3) w2.heap.size X rfl (unhide HGN) rfl (inC_one _) (by omega) (by simp; omega) ?_)
          intro v9 w9 hown9 hb9
          try rw [← unhide HE] at hown9
          have HO9 := hide hown9
          have HB9 := hide ((unhide HB3).trans hb9)
          obtain ⟨a9, m9, c9, rfl⟩ := hown9.shape
          clear hown9 hb9 HO3 HB3 HGN
          go_wp2
          go_roundw
          case rel => exact ⟨k + 1, by omega, by rw [unhide HIN], unhide HO9, unhide HB9⟩
          case measure => simp [intOf]; omega
    · obtain rfl : k = 40 := by omega
      have HO := hide (hown.lowA (unhide HB1).size)
      have HB2 := hide ((unhide HB1).trans (hbel.mono (unhide HB1).size))
      clear hown hbel
      go_wp2
      go_ret
      exact ⟨_, rfl, unhide HO, unhide HB2⟩
/-! ### Path -/
/-- Why there is no way. -/
def phE (L : List Int) (h : Int) : Int := if chkE L h ≠ 0 then chkE L h else if wyL L h = [] then 5 else 0
set_option maxRecDepth 100000 in
set_option maxHeartbeats 2000000 in
set_option maxRecDepth 100000 in
theorem path_no (h : Hp w B p g c L) (x : Int) (hx : wyL L x = []) :
    Calls Tryz.prog 15 #[.pointer (some ⟨p, 0, none⟩), .int .i64 x] w fun e w' => e = .returned (.tuple #[.slice none 0 0, errV (phE L x)]) ∧ Below w.heap.size w w' := by
  have HT := hide (hTag_any p g c B L x w h)
  by_cases hc : chkE L x = 0
  · have he : phE L x = 5 := by unfold phE; rw [if_neg (fun h => h hc), if_pos hx]
    have HL := hide (fun (W : World) (hW : Below w.heap.size w W) => leadersOf_any p g c B L W (h.below hW))
    have hmt : metB (bfL L) x = false := by rw [bfL_met h.fine]; unfold lvB; rw [hx]; simp
    have hxb := hndB_iff.1 (chkE_zero.1 hc).2.1
    have HK : Hid (∀ gm W, LdI W gm (bfL L) → ∃ v, (Instr.lookup 77 (.map (some gm)) (.int .i64 x) true).run Tryz.prog W = .ok (.tuple #[.int .i64 v, .bool false]) W) := hide (fun gm W hM => by
      have := hM.look (z := x) (by omega)
      rw [hmt] at this
      exact this)
    rw [he, errV_pos 5 (by decide)]
    rw [hc, errV_zero] at HT
    clear h hc hx he hmt
    generalize (getE L x).2.2.2 = t at *
    generalize bfL L = BL at *
    go_enter Tryz.func15, Tryz.ntmps15
    go_wp2_with fail
    refine (unhide HT).mono ?_
    rintro e w1 ⟨rfl, hb1⟩
    have HL1 := hide (unhide HL w1 hb1)
    have HB1 := hide hb1
    clear hb1 HT HL
    go_wp2_with fail
    refine (unhide HL1).mono ?_
    rintro e w2 ⟨gm, rfl, hm2, _, hb2⟩
    obtain ⟨xv, hlook⟩ := unhide HK gm w2 hm2
    have HB2 := hide ((unhide HB1).trans (hb2.mono (unhide HB1).size))
    clear hm2 hb2 HL1 HB1 HK
    go_wp2
    go_ret2
    exact ⟨rfl, unhide HB2⟩
  · have he : phE L x = chkE L x := by unfold phE; rw [if_pos hc]
    rw [he]
    rw [errV_pos _ hc] at HT ⊢
    clear h hc hx he
    generalize (getE L x).2.2.2 = t at *
    generalize chkE L x = X at *
    go_enter Tryz.func15, Tryz.ntmps15
    go_wp2_with fail
    refine (unhide HT).mono ?_
    rintro e w1 ⟨rfl, hb1⟩
    have HB := hide hb1
    clear hb1 HT
    go_wp2
    go_ret2
    exact ⟨rfl, unhide HB⟩
/-- How long a slice is. -/
def slLen (v : Value) : Nat := match v with | .slice _ n _ => n | _ => 0
theorem hd_take {p : List Int} {j : Nat} (hj : j < p.length) : hd (p.take (j + 1)) = p.getD j 0 := by
  unfold hd
  rw [List.getLastD_eq_getLast?, List.getLast?_eq_getElem?, List.length_take, show min (j + 1) p.length - 1 = j by omega, List.getElem?_take, if_pos (by omega)]
  rfl
theorem ld_take {p : List Int} {j : Nat} (hj : j < p.length) : ld (p.take (j + 1)) = hd (p.take j) := by
  unfold ld
  rw [List.dropLast_eq_take, List.take_take, List.length_take]
  congr 2
  omega
set_option maxRecDepth 100000 in
set_option maxHeartbeats 2000000 in
set_option maxRecDepth 100000 in
theorem path_yes (h : Hp w B p g c L) (x : Int) (hx : wyL L x ≠ []) :
    Calls Tryz.prog 15 #[.pointer (some ⟨p, 0, none⟩), .int .i64 x] w fun e w' => ∃ v, e = .returned (.tuple #[v, .nilIface]) ∧ Lst inC 1 3 w' w.heap.size v (wyL L x) ∧ Below w.heap.size w w' := by
  obtain ⟨i0, hi0, hz0, hz1, hz2⟩ := info_parts info_inS
  have hc := wyL_there h.fine hx
  have HT := hide (hTag_any p g c B L x w h)
  rw [hc, errV_zero] at HT
  have HL := hide (fun (W : World) (hW : Below w.heap.size w W) => leadersOf_any p g c B L W (h.below hW))
  have hmt : metB (bfL L) x = true := by rw [bfL_met h.fine]; unfold lvB; exact decide_eq_true hx
  have hxb := hndB_iff.1 (chkE_zero.1 hc).2.1
  have HK : Hid (∀ gm W, LdI W gm (bfL L) → ∃ v, (Instr.lookup 77 (.map (some gm)) (.int .i64 x) true).run Tryz.prog W = .ok (.tuple #[.int .i64 v, .bool true]) W) := hide (fun gm W hM => by
    have := hM.look (z := x) (by omega)
    rw [hmt] at this
    exact this)
  have hin := bfL_has h.fine hx
  have hdg := bfL_dg h.fine hin
  have hlen := way_len40 h.fine hx
  have HG : Hid (∀ gm W j, LdI W gm (bfL L) → j < (wyL L x).length → (Instr.lookup 77 (.map (some gm)) (.int .i64 ((wyL L x).getD j 0)) false).run Tryz.prog W = .ok (.int .i64 (hd ((wyL L x).take j))) W ∧ 1 ≤ (wyL L x).getD j 0 ∧ (wyL L x).getD j 0 ≤ 40) := hide (fun gm W j hM hj => by
    have h1 := bfL_part h.fine hin ((wyL L x).length - (j + 1)) (by omega)
    rw [show (wyL L x).length - ((wyL L x).length - (j + 1)) = j + 1 by omega] at h1
    have hb : 1 ≤ (wyL L x).getD j 0 ∧ (wyL L x).getD j 0 ≤ 40 := hdg _ (by
      rw [List.getD, List.getElem?_eq_getElem hj]
      exact List.getElem_mem hj)
    have := hM.get h1 (by rw [hd_take hj]; omega)
    rw [hd_take hj, ld_take hj] at this
    exact ⟨this, hb⟩)
  have HHD : Hid (hd ((wyL L x).take (wyL L x).length) = x) := hide (by rw [List.take_length]; exact hd_way h.fine hx)
  clear h hc hx hmt hin hdg
  generalize wyL L x = W at *
  generalize (getE L x).2.2.2 = t at *
  generalize bfL L = BL at *
  have HST : Hid (∀ k, k < W.length → hd (W.take (W.length - k)) = W.getD (W.length - (k + 1)) 0 ∧ (W.drop (W.length - (k + 1))).reverse = (W.drop (W.length - k)).reverse ++ [W.getD (W.length - (k + 1)) 0]) := hide (fun k hk => by
    constructor
    · rw [show W.length - k = W.length - (k + 1) + 1 by omega]
      exact hd_take (by omega)
    · have hj : W.length - (k + 1) < W.length := by omega
      rw [List.drop_eq_getElem_cons hj, List.reverse_cons, show W.length - (k + 1) + 1 = W.length - k by omega]
      congr 2
      rw [List.getD, List.getElem?_eq_getElem hj]
      rfl)
  have HRV := hide (fun (v : Value) (B0 : Nat) (W0 : World) (hl : Lst inC 1 3 W0 B0 v W.reverse) => revRow_any v B0 W.reverse W0 hl (by rw [List.length_reverse]; omega))
  rw [List.reverse_reverse] at HRV
  go_enter Tryz.func15, Tryz.ntmps15
  go_wp2_with fail
  refine (unhide HT).mono ?_
  rintro e w1 ⟨rfl, hb1⟩
  have HL1 := hide (unhide HL w1 hb1)
  have HB1 := hide hb1
  clear hb1 HT HL
  go_wp2_with fail
  refine (unhide HL1).mono ?_
  rintro e w2 ⟨gm, rfl, hm2, _, hb2⟩
  obtain ⟨xv, hlook⟩ := unhide HK gm w2 hm2
  have HM2 := hide hm2
  have HB2 := hide ((unhide HB1).trans (hb2.mono (unhide HB1).size))
  clear hm2 hb2 HL1 HB1 HK
  go_wp2_with fail
  clear hlook
  go_loopw [11, 12] (fun v iv wr => ∃ k : Nat, k ≤ W.length ∧ iv = .int .i64 (hd (W.take (W.length - k))) ∧ Lst inC 1 3 wr w2.heap.size v (W.drop (W.length - k)).reverse ∧ Below w2.heap.size w2 wr) (fun v _ _ => 41 - slLen v)
  case atStart => exact ⟨0, Nat.zero_le _, by rw [Nat.sub_zero, unhide HHD], by rw [Nat.sub_zero, List.drop_length]; exact Lst.nil _ _, Below.refl _ _⟩
  case round =>
    obtain ⟨k, hk, rfl, hown, hbel⟩ := hrel
    have hdl : (W.drop (W.length - k)).reverse.length = k := by rw [List.length_reverse, List.length_drop]; omega
    obtain ⟨va, vc, rfl, _⟩ := hown.sls inC_len (by omega)
    rw [hdl]
    rw [hdl] at hown
    by_cases hlt : k < W.length
    · obtain ⟨t1, t2⟩ := unhide HST k hlt
      have hb := (unhide HG gm w2 (W.length - (k + 1)) (unhide HM2) (by omega)).2
      have hrun := fun (W9 : World) (h9 : Below w2.heap.size w2 W9) => (unhide HG gm W9 (W.length - (k + 1)) ((unhide HM2).below h9) (by omega)).1
      rw [t1]
      generalize W.getD (W.length - (k + 1)) 0 = X at *
      have HRUN : Hid (∀ W9, Below w2.heap.size w2 W9 → (Instr.lookup 77 (.map (some gm)) (.int .i64 X) false).run Tryz.prog W9 = .ok (.int .i64 (hd (W.take (W.length - (k + 1))))) W9) := hide (fun W9 h9 => hrun W9 h9)
      have hne : (X != 0) = true := bne_iff_ne.2 (by omega)
      have HT2 := hide t2
      have HO3 := hide (hown.below ((Below.refl _ wr).alloc (Nat.le_refl _) (.cells #[.int .i64 X] 3)))
      have HB3 := hide (hbel.alloc hbel.size (.cells #[.int .i64 X] 3))
      have HGN : Hid ((wr.alloc (.cells #[.int .i64 X] 3)).heap[wr.heap.size]? = some (.cells (inC X).toArray 3 (0, 0))) := hide (heap_alloc_new wr _)
      have hsz2 := hbel.size
      have hdl2 : (W.drop (W.length - k)).reverse.length ≤ 100 := by omega
      have HNL : Hid ((W.drop (W.length - (k + 1))).reverse.length = k + 1) := hide (by rw [List.length_reverse, List.length_drop]; omega)
      clear hown hbel t1 t2 hrun hdl hb
      generalize (W.drop (W.length - k)).reverse = acc at *
      generalize hA2 : (W.drop (W.length - (k + 1))).reverse = acc2 at HT2 HNL
      generalize hY2 : hd (W.take (W.length - (k + 1))) = Y at HRUN
      have HAA := hide hA2
      have HYY := hide hY2
      clear hA2 hY2
      go_wp2_with (at_builtin; refine wpList_append_lst rfl _ _ 33 rfl w2.heap.size i0 (.int .i64 0) 8 Tryz.underlying33 hi0 hz0 hz1 hz2 rfl (by decide) (by decide) _ _ rfl (unhide HO3) wr.heap.size X rfl (unhide HGN) rfl (inC_one _) (by omega) (by simp; omega) ?_)
      intro v9 w9 hown9 hb9
      try rw [← unhide HT2] at hown9
      have hB9 := (unhide HB3).trans hb9
      have hlk := unhide HRUN w9 hB9
      have HB9 := hide hB9
      obtain ⟨a9, c9, rfl, _⟩ := hown9.sls inC_len (by rw [unhide HNL]; omega)
      rw [unhide HNL] at hown9 ⊢
      have HO9 := hide hown9
      clear hown9 hb9 hB9 HO3 HB3 HGN
      go_wp2
      go_roundw
      case rel => exact ⟨k + 1, by omega, by rw [unhide HYY], by rw [unhide HAA]; exact unhide HO9, unhide HB9⟩
      case measure => simp [slLen]; omega
    · obtain rfl : k = W.length := by omega
      rw [Nat.sub_self] at hown
      rw [Nat.sub_self, List.take_zero, show hd [] = 0 from rfl]
      rw [List.drop_zero] at hown
      have HR9 := hide (unhide HRV _ _ wr hown)
      have HBO := hide (fun k (hk : Value.ownBlock _ = some k) => hown.block k hk)
      have HBEL := hide hbel
      clear hown hbel hdl
      go_wp2_with fail
      refine (unhide HR9).mono ?_
      rintro e w9 ⟨rfl, hl9, ht9⟩
      have HO9 := hide (hl9.lowA (unhide HB2).size)
      have HB9 := hide ((unhide HB2).trans (((unhide HBEL).trans (ht9.below (unhide HBO) (unhide HBEL).size)).mono (unhide HB2).size))
      clear hl9 ht9 HR9 HBEL
      go_wp2
      go_ret2
      exact ⟨_, rfl, unhide HO9, unhide HB9⟩
/-- What Path answers. -/
theorem rhPath_any (h : Hp w B p g c L) (x : Int) :
    Calls Tryz.prog 15 #[.pointer (some ⟨p, 0, none⟩), .int .i64 x] w fun e w' => ∃ v, e = .returned (.tuple #[v, errV (phE L x)]) ∧ Lst inC 1 3 w' w.heap.size v (wyL L x) ∧ Below w.heap.size w w' := by
  by_cases hx : wyL L x = []
  · rw [hx]
    exact (path_no h x hx).mono fun e w' ⟨he, hb⟩ => ⟨_, he, Lst.nil _ _, hb⟩
  · have he : phE L x = 0 := by unfold phE; rw [if_neg (fun hq => hq (wyL_there h.fine hx)), if_neg hx]
    rw [he, errV_zero]
    exact path_yes h x hx
end
end Go.Proofs.YtmkkiedohphpcaaGreat
/-! Contracts of package reach: Sweep. (Part of the proofs over package reach.) -/
namespace Go.Proofs.YtmkkiedohphpcaaGreat
open Go.RowKit
set_option linter.unusedVariables false

theorem sw_take {L : List Int} (hf : Fine L) (k : Nat) : Swept L (swL L ((ddK L 40).take k)) ((ddK L 40).take k) := by
  obtain ⟨h1, h2⟩ := dead_ok hf
  have hn : ((ddK L 40).take k).Nodup := h1.sublist (List.take_sublist _ _)
  have := swept_of hf ((ddK L 40).take k) [] (by simpa using hn) (by simpa using fun h hm => h2 h (List.mem_of_mem_take hm)) L (Swept.refl hf)
  simpa using this
theorem sw_step {L : List Int} (hf : Fine L) {k : Nat} {x : Int} (hx : (ddK L 40)[k]? = some x) : frE (swL L ((ddK L 40).take k)) x = 0 ∧ frB (swL L ((ddK L 40).take k)) x = swL L ((ddK L 40).take (k + 1)) := by
  obtain ⟨h1, h2⟩ := dead_ok hf
  obtain ⟨a1, a2⟩ := h2 x (List.mem_of_getElem? hx)
  have hni : x ∉ (ddK L 40).take k := fun hm => by
    obtain ⟨j, hj, e⟩ := List.getElem_of_mem hm
    rw [List.length_take] at hj
    rw [List.getElem_take] at e
    obtain ⟨hk, e2⟩ := List.getElem?_eq_some_iff.1 hx
    have := List.pairwise_iff_getElem.1 h1 j k (by omega) hk (by omega)
    exact this (e.trans e2.symm)
  obtain ⟨_, b2, _⟩ := (sw_take hf k).more a1 hni a2
  refine ⟨b2, ?_⟩
  unfold frB
  rw [if_pos b2]
  unfold swL
  rw [List.take_add_one, hx, List.foldl_append]
  rfl
section
variable {w : World} {B p g c : Nat} {L : List Int}
set_option maxRecDepth 100000 in
set_option maxHeartbeats 1000000 in
set_option maxRecDepth 100000 in
theorem rhSweep_any (h : Hp w B p g c L) (hB : B ≤ w.heap.size) :
    Calls Tryz.prog 16 #[.pointer (some ⟨p, 0, none⟩)] w fun e w' => e = .returned (.tuple #[.int .i64 (ddK L 40).length, .nilIface]) ∧ ∃ g' c', Hp w' B p g' c' (swL L (ddK L 40)) ∧ Turn (foot p g) (foot p g') w w' := by
  have HD := hide (rhDead_any h)
  have hdl := ddK_len L 40
  have HST := hide (fun k x hx => sw_step h.fine (k := k) (x := x) hx)
  have HFR := hide (fun (W : World) (g' c' : Nat) (M : List Int) (x : Int) (hh : Hp W B p g' c' M) (hW : B ≤ W.heap.size) => hFree_any p g' c' B M x W hh hW)
  have HH := hide h
  have HFT : Hid (∀ k, foot p g k → k < w.heap.size) := hide (fun k hk => by
    rcases hk with rfl | rfl
    · exact h.plt
    · exact h.glt)
  have H0 : Hid (swL L ((ddK L 40).take 0) = L) := hide rfl
  clear h
  generalize ddK L 40 = D at *
  go_enter Tryz.func16, Tryz.ntmps16
  go_wp2_with fail
  refine (unhide HD).mono ?_
  rintro e w1 ⟨v1, rfl, hl1, hb1⟩
  have HBK := hide (fun k (hk : v1.ownBlock = some k) => hl1.block k hk)
  obtain ⟨a1, c1, rfl, hsl1⟩ := hl1.sls inC_len (by omega)
  have HS1 := hide hsl1
  have HH1 := hide ((unhide HH).below hb1)
  have HB1 := hide hb1
  have hcl := hsl1.2.2.1
  have hsz1 := hb1.size
  clear hl1 hsl1 hb1 HD HH
  go_wp2_with fail
  go_loopw [6, 7, 12] (fun _ _ iv wr => ∃ (k g' c' : Nat), k ≤ D.length ∧ iv = .int .i64 (k : Int) ∧ Hp wr B p g' c' (swL L (D.take k)) ∧ Turn (foot p g) (foot p g') w1 wr) (fun _ _ iv _ => D.length - (intOf iv).toNat)
  case atStart => exact ⟨0, g, c, Nat.zero_le _, rfl, by rw [unhide H0]; exact unhide HH1, Turn.refl _ _⟩
  case round =>
    obtain ⟨k, g', c', hk, rfl, hh, htn⟩ := hrel
    by_cases hlt : k < D.length
    · have hne : D ≠ [] := by intro e; rw [e] at hlt; simp at hlt
      obtain ⟨b1, o1, rfl, hc1⟩ := (unhide HS1).2.2.2 hne
      obtain ⟨x, hx⟩ : ∃ x, D[k]? = some x := ⟨D[k], List.getElem?_eq_getElem hlt⟩
      have q0 := Sls.num (cap := 0) hc1 hx
      have hnb : ¬ foot p g b1 := fun hf => by
        have h1 := unhide HFT b1 hf
        have h2 := unhide HBK b1 rfl
        omega
      have q1 : wr.cell? ⟨b1, o1 + k, none⟩ = some (.int .i64 x) := (World.cell?_of_block (a := ⟨b1, o1 + k, none⟩) (htn.block b1 (block_lt_of_cell q0) hnb)).trans q0
      obtain ⟨s1, s2⟩ := unhide HST k x hx
      have HF := hide (unhide HFR wr g' c' _ x hh (by have := htn.size; omega))
      rw [s1, s2, errV_zero] at HF
      have HT := hide htn
      clear hc1 hx q0 hnb hne s1 s2 hh htn
      go_wp2_with fail
      refine (unhide HF).mono ?_
      rintro e w2 ⟨rfl, g2, c2, hh2, ht2⟩
      have HH2 := hide hh2
      have HT2 := hide ((unhide HT).trans ht2)
      clear hh2 ht2 HF HT q1
      go_wp2
      go_roundw
      case rel => exact ⟨k + 1, g2, c2, by omega, by go_num, unhide HH2, unhide HT2⟩
      case measure => simp [intOf]; omega
    · have hkD : k = D.length := by omega
      rw [hkD, List.take_length] at hh
      have HH2 := hide hh
      have HT2 := hide ((Turn.of_below (S := foot p g) (unhide HB1)).trans htn)
      have hge : ¬ ((k : Int) < (D.length : Int)) := by omega
      clear hh htn hkD hk hlt
      go_wp2
      go_ret2
      first
        | exact ⟨rfl, g', c', unhide HH2, unhide HT2⟩
        | exact ⟨rfl, g', ⟨c', unhide HH2⟩, unhide HT2⟩
end
end Go.Proofs.YtmkkiedohphpcaaGreat
/-! What ReachHolds asks, as plain lists; is a number in a list? (Part of the proof of ReachHolds.) -/
namespace Go.Proofs.YtmkkiedohphpcaaGreat
open Go.RowKit
set_option linter.unusedVariables false

/-- The law's own beginning: two objects, of which one names the other, and a root. -/
theorem hold_fact : alE (zerosB 320) 2 1 = 0 ∧ alH (zerosB 320) 2 1 = 1 ∧ alE (alB (zerosB 320) 2 1) 2 0 = 0 ∧ alH (alB (zerosB 320) 2 1) 2 0 = 2 ∧ pcE (alB (alB (zerosB 320) 2 1) 2 0) 1 0 1 = 0 ∧
    seE (wrB (alB (alB (zerosB 320) 2 1) 2 0) 1 0 [2]) nmA 1 = 0 ∧ seO (wrB (alB (alB (zerosB 320) 2 1) 2 0) 1 0 [2]) nmA 1 = true ∧ seF (wrB (alB (alB (zerosB 320) 2 1) 2 0) 1 0 [2]) nmA 1 = seB (wrB (alB (alB (zerosB 320) 2 1) 2 0) 1 0 [2]) nmA 1 ∧
    (lvK (seB (wrB (alB (alB (zerosB 320) 2 1) 2 0) 1 0 [2]) nmA 1) 40).length = 2 := by
  have c0 : Chn (zerosB 320) 320 0 (fun _ => 0) (fun _ => 0) [] := Chn.start (by decide) (by decide)
  obtain ⟨a1, a2, a3⟩ := c0.alloc (by decide) (by decide) (t := 1) (by decide) (by decide)
  obtain ⟨b1, b2, b3⟩ := a3.alloc (by decide) (by decide) (t := 0) (by decide) (by decide)
  obtain ⟨d1, d2⟩ := b3.write (by decide) (k := 1) (by decide) (by decide) 2
  obtain ⟨s1, s2, s3⟩ := d2.set (by decide) (by decide) (s := nmA) (by decide)
  have lk := s3.link (by decide) (K := 2) (by decide) (by decide) (fun j h1 h2 => by
    obtain rfl : j = 1 := by omega
    exact ⟨rfl, rfl⟩) (.inl rfl)
  exact ⟨a1, a2, b1, b2, d1, s1, by unfold seO; rw [show seE (wrB (alB (alB (zerosB 320) 2 1) 2 0) 1 0 [2]) nmA 1 = 0 from s1, show seN (wrB (alB (alB (zerosB 320) 2 1) 2 0) 1 0 [2]) nmA = true from s2]; rfl, by unfold seF; rw [if_pos (show seE (wrB (alB (alB (zerosB 320) 2 1) 2 0) 1 0 [2]) nmA 1 = 0 from s1)], (congrArg List.length (lk.live (by decide))).trans (upto_len 2)⟩
section
variable {L : List Int}
theorem live_root (hf : Fine L) {r : (ByteArray × Int)} (hr : r ∈ rootsK L 8) : (lvK L 40).any (fun y => y == r.2) = true := by
  have hm : r.2 ∈ rtH L := List.mem_map.2 ⟨r, hr, rfl⟩
  have hw := ((wyL_still hf).base r.2 hm).1
  obtain ⟨_, q2, q3⟩ := chkE_zero.1 (wyL_there hf hw)
  have hb := hndB_iff.1 q2
  exact List.any_eq_true.2 ⟨r.2, mem_lvK.2 ⟨⟨hb.1, by omega⟩, q3, hw⟩, by simp⟩
theorem live_ok (hf : Fine L) {x : Int} (hx : x ∈ lvK L 40) : chkE L x = 0 ∧ rfL L x = refsL L x ∧ wyL L x ≠ [] ∧ phE L x = 0 := by
  obtain ⟨⟨h1, h2⟩, ht, hw⟩ := mem_lvK.1 hx
  have hc := wyL_there hf hw
  exact ⟨hc, by unfold rfL; rw [if_pos hc], hw, by unfold phE; rw [if_neg (fun h => h hc), if_neg hw]⟩
theorem live_next (hf : Fine L) {x y : Int} (hx : x ∈ lvK L 40) (hy : y ∈ refsL L x) : (lvK L 40).any (fun z => z == y) = true := by
  obtain ⟨_, _, hw⟩ := mem_lvK.1 hx
  have h2 := ((wyL_still hf).next x hw y hy).1
  obtain ⟨_, q2, q3⟩ := chkE_zero.1 (wyL_there hf h2)
  have hb := hndB_iff.1 q2
  exact List.any_eq_true.2 ⟨y, mem_lvK.2 ⟨⟨hb.1, by omega⟩, q3, h2⟩, by simp⟩
/-- A way of one that is live: from a root, step by step, to it. -/
theorem live_way (hf : Fine L) {x : Int} (hx : x ∈ lvK L 40) : ∃ m, (wyL L x).length = m + 1 ∧ m < 40 ∧ (wyL L x)[m]? = some x ∧ (∃ z, (wyL L x)[0]? = some z ∧ (rootsK L 8).any (fun r => r.2 == z) = true) ∧
    ∀ j u v, (wyL L x)[j]? = some u → (wyL L x)[j + 1]? = some v → chkE L u = 0 ∧ rfL L u = refsL L u ∧ (refsL L u).any (fun z => z == v) = true := by
  obtain ⟨_, _, hw⟩ := mem_lvK.1 hx
  have hl := way_len40 hf hw
  have hway := (wyL_still hf).way x hw
  have hin := bfL_has hf hw
  obtain ⟨w1, w2, w3, w4⟩ := hway.steps
  obtain ⟨m, hm⟩ : ∃ m, (wyL L x).length = m + 1 := ⟨(wyL L x).length - 1, by have := List.length_pos_iff.2 hw; omega⟩
  have hat : ∀ j, j < (wyL L x).length → (wyL L x)[j]? = some ((wyL L x).getD j 0) := fun j hj => by rw [List.getD, List.getElem?_eq_getElem hj]; rfl
  have hchk : ∀ j, j < (wyL L x).length → chkE L ((wyL L x).getD j 0) = 0 := fun j hj => by
    have h1 := bfL_part hf hin ((wyL L x).length - (j + 1)) (by omega)
    rw [show (wyL L x).length - ((wyL L x).length - (j + 1)) = j + 1 by omega] at h1
    have h2 := bfL_way hf h1
    rw [hd_take hj] at h2
    exact wyL_there hf (by rw [h2]; exact (bfL_back hf h1).1)
  refine ⟨m, hm, by omega, ?_, ⟨_, hat 0 (by omega), ?_⟩, fun j u v hu hv => ?_⟩
  · rw [hat m (by omega)]
    rw [hm] at w3
    exact congrArg some w3
  · obtain ⟨r, hr, e⟩ := List.mem_map.1 w2
    exact List.any_eq_true.2 ⟨r, hr, by rw [e]; simp⟩
  · have hj1 := (List.getElem?_eq_some_iff.1 hv).1
    rw [hat j (by omega)] at hu
    rw [hat (j + 1) hj1] at hv
    obtain rfl := Option.some.inj hu
    obtain rfl := Option.some.inj hv
    have hc := hchk j (by omega)
    refine ⟨hc, by unfold rfL; rw [if_pos hc], ?_⟩
    have := w4 (j + 1) (by omega) hj1
    rw [Nat.add_sub_cancel] at this
    exact List.any_eq_true.2 ⟨_, this, by simp⟩
/-- Swept: the dead are none, all others as they were. -/
theorem swept_obj (hf : Fine L) {h : Int} (h1 : 1 ≤ h) (h2 : h ≤ 40) : ((ddK L 40).any (fun z => z == h) = true → objOf (swL L (ddK L 40)) h = (-1, [])) ∧ ((ddK L 40).any (fun z => z == h) = false → objOf (swL L (ddK L 40)) h = objOf L h) := by
  obtain ⟨a, b⟩ := sweep_objs hf (sweep_swept hf) h1 h2
  refine ⟨fun e => a ?_, fun e => b (fun hm => ?_)⟩
  · obtain ⟨z, hz, e2⟩ := List.any_eq_true.1 e
    rw [beq_iff_eq] at e2
    rw [← e2]
    exact hz
  · rw [List.any_eq_true.2 ⟨h, hm, by simp⟩] at e
    cases e
end
/-- What a slice reads as, where its block is as it was. -/
theorem Sls.kept {α : Type} {enc : α → List Value} {k : Nat} {w w' : World} {a : Option Addr} {cap : Nat} {l : List α} (h : Sls enc k w a cap l) (hs : ∀ b off, a = some ⟨b, off, none⟩ → l ≠ [] → w'.heap[b]? = w.heap[b]?) : Sls enc k w' a cap l := by
  obtain ⟨h1, h2, h3, h4⟩ := h
  refine ⟨h1, h2, h3, fun hne => ?_⟩
  obtain ⟨b, off, rfl, hc⟩ := h4 hne
  refine ⟨b, off, rfl, fun i x hx j u hj => ?_⟩
  have q := hc i x hx j u hj
  exact (World.cell?_of_block (a := ⟨b, off + i * k + j, none⟩) (hs b off rfl hne)).trans q
/-! ### in -/
set_option maxRecDepth 100000 in
theorem lawIn_any (a : Option Addr) (cap : Nat) (l : List Int) (x : Int) (w : World) (hs : Sls inC 1 w a cap l) :
    Calls Tryz.prog 13 #[.slice a l.length cap, .int .i64 x] w fun e w' => e = .returned (.bool (l.any (fun y => y == x))) ∧ w = w' := by
  have hl := hs.2.2.1
  have HS := hide hs
  clear hs
  go_enter Tryz.func13, Tryz.ntmps13
  go_wp2_with fail
  go_loop [5] (fun iv => ∃ k : Nat, k ≤ l.length ∧ iv = .int .i64 k ∧ (l.take k).any (fun y => y == x) = false) (fun iv => l.length - (intOf iv).toNat)
  case atStart => exact ⟨0, Nat.zero_le _, rfl, rfl⟩
  case round =>
    obtain ⟨k, hk, rfl, hall⟩ := hrel
    by_cases hlt : k < l.length
    · have hne : l ≠ [] := by intro e; rw [e] at hlt; simp at hlt
      obtain ⟨b1, o1, rfl, hc1⟩ := (unhide HS).2.2.2 hne
      obtain ⟨y, hy⟩ : ∃ y, l[k]? = some y := ⟨l[k], List.getElem?_eq_getElem hlt⟩
      have q0 := Sls.num (cap := 0) hc1 hy
      have htk : l.take (k + 1) = l.take k ++ [y] := by rw [List.take_add_one, hy]; rfl
      have hmem := List.mem_of_getElem? hy
      clear hc1 hy hne
      by_cases e : y = x
      · subst e
        have hnew : l.any (fun z => z == y) = true := List.any_eq_true.2 ⟨_, hmem, by simp⟩
        have HN := hide hnew
        clear hnew htk hall hmem
        go_wp2
        go_ret
        exact ⟨by rw [unhide HN]; rfl, rfl⟩
      · have hnew : (l.take (k + 1)).any (fun y => y == x) = false := by
          rw [htk, List.any_append, hall]
          simp
          exact e
        have HN := hide hnew
        have eb : (y == x) = false := beq_eq_false_iff_ne.2 e
        clear hnew htk hall hmem e
        go_wp2
        go_round
        case rel => exact ⟨k + 1, by omega, by go_num, unhide HN⟩
        case measure => simp [intOf]; omega
    · obtain rfl : k = l.length := by omega
      rw [List.take_length] at hall
      have HN := hide hall
      clear hall HS
      go_wp2
      go_ret
      exact ⟨by rw [unhide HN]; rfl, rfl⟩
end Go.Proofs.YtmkkiedohphpcaaGreat
/-! Steps of a law on a heap that it made: Write of one byte, Sweep; how many are live, and dead. (Part of the proofs over package reach.) -/
namespace Go.Proofs.YtmkkiedohphpcaaGreat
open Go.RowKit
set_option linter.unusedVariables false

/-- A slice of one byte that was just made. -/
theorem bs_byte (w : World) (z : Int) (h0 : 0 ≤ z) (h1 : z ≤ 255) : Bs (w.alloc (.cells #[.int .u8 z] 5)) (some ⟨w.heap.size, 0, none⟩) 1 [z] :=
  (show Blk (w.alloc (.cells #[.int .u8 z] 5)) w.heap.size [z] from heap_alloc_new w _).bs (fun y hy => by rw [List.mem_singleton.1 hy]; exact ⟨h0, h1⟩) (by simp)
/-- One byte is written into an object of a heap that was made since w. -/
theorem stp_write {w : World} {L M : List Int} {k z : Int} (h0 : pcE L k 0 1 = 0) (hM : wrB L k 0 [z] = M) (z0 : 0 ≤ z) (z1 : z ≤ 255) (W : World) (p g c : Nat) (h : Hp W w.heap.size p g c L) (hW : Below w.heap.size w W) :
    Calls Tryz.prog 7 #[.pointer (some ⟨p, 0, none⟩), .int .i64 k, .int .i64 0, .slice (some ⟨W.heap.size, 0, none⟩) 1 1] (W.alloc (.cells #[.int .u8 z] 5)) fun e w' => e = .returned .nilIface ∧ ∃ g' c', Hp w' w.heap.size p g' c' M ∧ Below w.heap.size w w' := by
  have hb : Below W.heap.size W (W.alloc (.cells #[.int .u8 z] 5)) := (Below.refl _ _).alloc (Nat.le_refl _) _
  have hh := h.below hb
  have hB := hW.trans (hb.mono hW.size)
  have := hWrite_any p g c w.heap.size L k 0 (some ⟨W.heap.size, 0, none⟩) 1 [z] _ hh (bs_byte W z z0 z1) (by decide)
  have e1 : (([z] : List Int).length : Int) = 1 := rfl
  rw [e1, h0, errV_zero, hM] at this
  refine this.mono ?_
  rintro e w' ⟨rfl, h2, ht⟩
  exact ⟨rfl, g, c, h2, hB.trans (ht.below hh.foot_ge hB.size)⟩
/-- Sweep, of a heap that was made since w. -/
theorem stp_sweep {w : World} (L : List Int) : RtS w 16 (fun p => #[.pointer (some ⟨p, 0, none⟩)]) L (swL L (ddK L 40)) (.tuple #[.int .i64 (ddK L 40).length, .nilIface]) := fun W p g c h hW => by
  refine (rhSweep_any h hW.size).mono ?_
  rintro e w' ⟨rfl, g', c', hh, ht⟩
  exact ⟨rfl, g', c', hh, hW.trans (ht.below h.foot_ge hW.size)⟩
/-- How many are live, and dead. -/
theorem live_count {w W : World} {p g c n : Nat} {L : List Int} (h : Hp W w.heap.size p g c L) (hn : (lvK L 40).length = n) : Calls Tryz.prog 9 #[.pointer (some ⟨p, 0, none⟩)] W fun e w' => ∃ a c1, e = .returned (.slice a n c1) ∧ Below W.heap.size W w' := by
  subst hn
  refine (rhLive_any h).mono ?_
  rintro e w' ⟨v, rfl, hl, hb⟩
  obtain ⟨a, c1, rfl, _⟩ := hl.sls inC_len (by have := lvK_len L; omega)
  exact ⟨a, c1, rfl, hb⟩
theorem dead_count {w W : World} {p g c n : Nat} {L : List Int} (h : Hp W w.heap.size p g c L) (hn : (ddK L 40).length = n) : Calls Tryz.prog 11 #[.pointer (some ⟨p, 0, none⟩)] W fun e w' => ∃ a c1, e = .returned (.slice a n c1) ∧ Below W.heap.size W w' := by
  subst hn
  refine (rhDead_any h).mono ?_
  rintro e w' ⟨v, rfl, hl, hb⟩
  obtain ⟨a, c1, rfl, _⟩ := hl.sls inC_len (by have := ddK_len L 40; omega)
  exact ⟨a, c1, rfl, hb⟩
end Go.Proofs.YtmkkiedohphpcaaGreat
