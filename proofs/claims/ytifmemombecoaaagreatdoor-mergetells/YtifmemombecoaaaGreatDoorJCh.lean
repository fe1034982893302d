/-
  Parts of the proofs, joined by program.
-/
import Derived.Test.YtifmemombecoaaaGreatDoorJIn
import Derived.Test.YtifmemombecoaaaGreatDoorJIm
import Derived.Test.YtifmemombecoaaaGreatDoorJChp
import Derived.Test.YtifmemombecoaaaGreatDoorJCut
import Derived.Test.YtifmemombecoaaaGreatDoorJExa
import Derived.Maps.OwnSet
import Derived.Maps.AppendAt
import Derived.Deep.QuietTactic
import Derived.Test.YtifmemombecoaaaGreatDoorJSe
import Derived.StringKeys
namespace Go.Proofs.YtifmemombecoaaaGreatDoor
open Go.RowKit
set_option linter.unusedVariables false
theorem isAny1_any (c : Int) (w : World) : Calls Tryz.prog 120 #[.int .u8 c] w fun e w' => e = .returned (.bool (c != 0)) /\ w = w' := by
 go_enter Tryz.func120, Tryz.ntmps120
 go_wp2
 go_ret
 exact ⟨rfl, rfl⟩
set_option maxHeartbeats 400000 in
theorem chIndex_any (a : Option Addr) (cap : Nat) (l : List Int) (w : World) (hbs : Bs w a cap l) :
  Calls Tryz.prog 108 #[.slice a l.length cap, .func (.func 120) #[] #[]] w fun e w' => e = .returned (.int .i64 (firstNz l)) /\ w = w' := by
 have hl : l.length <= 140737488351232 := hbs.2.2.1
 have HN := hide (fun k => firstNz_nat (l := l) (k := k))
 have HM := hide (firstNz_neg (l := l))
 generalize firstNz l = F at *
 go_enter Tryz.func108, Tryz.ntmps108
 go_wp2
 go_loop [5, 8] (fun _ i => ∃ k : Nat, k <= l.length /\ i = .int .i64 k /\ ∀ j, j < k -> (l.getD j 0 != 0) = false) (fun _ i => l.length - (intOf i).toNat)
 case atStart => exact ⟨0, by omega, rfl, fun j hj => absurd hj (Nat.not_lt_zero j)⟩
 case round =>
  obtain ⟨k, hk, rfl, hall⟩ := hrel
  have HA : Hid (∀ j, j < k -> (l.getD j 0 != 0) = false) := hall
  clear hall
  by_cases hlt : k < l.length
  ·obtain ⟨b, off, rfl, hcell⟩ := hbs.at k hlt
   have HC := hide (isAny1_any (l.getD k 0) w)
   have HK := hide (unhide HN k hlt)
   clear hbs
   have HF := hide (fun h => First.step (f := fun j => (l.getD j 0 != 0)) (unhide HA) h)
   generalize l.getD k 0 = c at *
   cases hb : (c != 0)
   ·rw [hb] at HC
    have HS := hide (unhide HF hb)
    clear hb
    go_wp2_with (go_at_call 120; refine (unhide HC).mono ?_; rintro e w' ⟨rfl, rfl⟩)
    go_round
    case rel => exact ⟨k + 1, by omega, by go_num, unhide HS⟩
    case measure => simp [intOf]; omega
   ·rw [hb] at HC
    have HS := hide (unhide HK hb (unhide HA))
    clear hb
    go_wp2_with (go_at_call 120; refine (unhide HC).mono ?_; rintro e w' ⟨rfl, rfl⟩)
    go_ret
    exact ⟨by rw [unhide HS]; rfl, rfl⟩
  ·obtain rfl : k = l.length := by omega
   go_wp2
   go_ret
   exact ⟨by rw [unhide HM (unhide HA)]; rfl, rfl⟩
theorem chCont_any (a : Option Addr) (cap : Nat) (l : List Int) (w : World) (hbs : Bs w a cap l) :
  Calls Tryz.prog 83 #[.slice a l.length cap, .func (.func 120) #[] #[]] w fun e w' => e = .returned (.bool (isRoot l)) /\ w = w' := by
 have HI := hide (chIndex_any a cap l w hbs)
 have hv : firstNz l = -1 /\ isRoot l = false \/ 0 <= firstNz l /\ isRoot l = true := by
  unfold firstNz
  cases isRoot l with
  | true => rw [if_pos rfl]; exact .inr ⟨by omega, rfl⟩
  | false => rw [if_neg (by simp)]; exact .inl ⟨rfl, rfl⟩
 generalize firstNz l = F at *
 generalize isRoot l = R at *
 generalize l.length = N at *
 rcases hv with ⟨rfl, rfl⟩ | ⟨h, rfl⟩
 all_goals
  go_enter Tryz.func83, Tryz.ntmps83
  go_wp2_with (go_at_call 108; refine (unhide HI).mono ?_; rintro e w1 ⟨rfl, rfl⟩)
  go_ret
  exact ⟨rfl, rfl⟩
theorem isAny_any (a : Option Addr) (cap : Nat) (l : List Int) (w : World) (hbs : Bs w a cap l) :
  Calls Tryz.prog 94 #[.slice a l.length cap] w fun e w' => e = .returned (.bool (isRoot l)) /\ w = w' := by
 have HI := hide (chCont_any a cap l w hbs)
 clear hbs
 generalize isRoot l = R at *
 generalize l.length = N at *
 go_enter Tryz.func94, Tryz.ntmps94
 go_wp2_with fail
 refine (unhide HI).mono ?_
 rintro e w1 ⟨rfl, hw⟩
 subst hw
 go_wp2
 go_ret
 exact ⟨rfl, rfl⟩
theorem part_any (a : Option Addr) (cap : Nat) (l : List Int) (x n : Nat) (w : World) (hbs : Bs w a cap l) (hx : x + n <= l.length) :
  Calls Tryz.prog 95 #[.slice a l.length cap, .agg #[.int .i64 x, .int .i64 n]] w fun e w' => ∃ a' c', e = .returned (.slice a' n c') /\ Bs w' a' c' ((l.drop x).take n) /\ Below w.heap.size w w' := by
 have hb0 : Below w.heap.size w (w.alloc (.cells #[.int .i64 x, .int .i64 n] 58)) := (Below.refl _ _).alloc (Nat.le_refl _) _
 obtain ⟨a1, hs1, hb1⟩ := slice_lohi (P := Tryz.prog) (t := 22) Tryz.underlying22 size_u8 (hbs.below hb0) x (x + n) (by omega) hx
 have e1 : x + n - x = n := by omega
 rw [e1] at hs1 hb1
 have e2 : ((x + n : Nat) : Int) = (x : Int) + n := by omega
 rw [e2] at hs1
 have HB0 := hide hb0
 have HB1 := hide hb1
 have h3 := hbs.2.2.1
 clear hbs hb0 hb1 e1 e2
 generalize l.length = N at *
 go_enter Tryz.func95, Tryz.ntmps95
 go_wp2
 go_ret
 exact ⟨_, _, rfl, unhide HB1, unhide HB0⟩
theorem part_row (g c N x n : Nat) (w : World) (hN : N <= 140737488351232) (hp : x + n <= N) (hn : N <= c) (hlt : x < c) :
  Calls Tryz.prog 95 #[.slice (some ⟨g, 0, none⟩) N c, .agg #[.int .i64 x, .int .i64 n]] w fun e w' => e = .returned (.slice (some ⟨g, x, none⟩) n (c - x)) /\ Below w.heap.size w w' := by
 have hs1 := fun w' => cut2_row (P := Tryz.prog) (t := 22) Tryz.underlying22 size_u8 g c N x n hp hn hlt w'
 go_enter Tryz.func95, Tryz.ntmps95
 go_wp2
 go_ret
 exact ⟨rfl, (Below.refl _ _).alloc (Nat.le_refl _) _⟩
theorem ofHandle_any (h : Int) (w : World) (h1 : 1 <= h) (h2 : h <= 40) :
  Calls Tryz.prog 96 #[.int .i64 h] w fun e w' => e = .returned (.agg #[.int .i64 (plc h : Nat), .int .i64 5]) /\ Below w.heap.size w w' := by
 have HH := hide (fun W => isHandle_any h W)
 rw [hndB_iff.2 ⟨h1, h2⟩] at HH
 have HP := hide (fun W => entryAt_any h W h1 h2)
 generalize plc h = p at *
 clear h1 h2
 go_enter Tryz.func96, Tryz.ntmps96
 go_wp2_with (first | (go_at_call 121; refine (unhide HH _).mono ?_; rintro e w1 ⟨rfl, hw⟩; subst hw) | (go_at_call 99; refine (unhide HP _).mono ?_; rintro e w1 ⟨rfl, hw⟩; subst hw))
 refine bodyPost_ret (results_cell_row rfl _ _ w.heap.size 58 _ (0, 0) _ rfl (heap_alloc_new w _) Tryz.underlying58 rfl (by rw [size_ext]; rfl)) rfl ?_
 exact ⟨rfl, (Below.refl _ w).alloc (Nat.le_refl _) _⟩
theorem ofRoot_any (i : Nat) (w : World) (hi : i < 8) :
  Calls Tryz.prog 97 #[.int .i64 i] w fun e w' => e = .returned (.agg #[.int .i64 (200 + 11 * i : Nat), .int .i64 11]) /\ Below w.heap.size w w' := by
 have HH := hide (fun W => isPlace_any i W)
 have hp : plcB i = true := by unfold plcB; rw [Bool.and_eq_true, decide_eq_true_iff, decide_eq_true_iff]; omega
 rw [hp] at HH
 have HP := hide (fun W => rootAt_any i W (by omega))
 generalize 200 + 11 * i = p at *
 clear hp
 go_enter Tryz.func97, Tryz.ntmps97
 go_wp2_with (first | (go_at_call 115; refine (unhide HH _).mono ?_; rintro e w1 ⟨rfl, hw⟩; subst hw) | (go_at_call 82; refine (unhide HP _).mono ?_; rintro e w1 ⟨rfl, hw⟩; subst hw))
 refine bodyPost_ret (results_cell_row rfl _ _ w.heap.size 58 _ (0, 0) _ rfl (heap_alloc_new w _) Tryz.underlying58 rfl (by rw [size_ext]; rfl)) rfl ?_
 exact ⟨rfl, (Below.refl _ w).alloc (Nat.le_refl _) _⟩
theorem run_clear_u8 {P : Program} (w : World) (dT ty : TypeId) (hu : P.underlying dT = some (.slice 5)) (hz : ∀ w, (zeroValue 5).run P w = .ok (.int .u8 0) w)
  (B g off n dCap c : Nat) (cur : Array Value) (z : List Int) (h0 : 0 < n) (hfit : off + n <= z.length) (hg : Row w B g c cur z) :
  (Builtin.clear_ #[dT] ty #[.slice (some ⟨g, off, none⟩) n dCap]).run P w = .ok (.tuple #[]) (laidW w g cur off (zerosB n)) := by
 obtain ⟨h1, h2, h3, h4, h5⟩ := hg
 have hst := run_storeCells_at P g off 5 ((zerosB n).map (Value.int .u8)) 0 cur w h2 (by simp [length_zerosB]; omega) (oneCell_u8 _)
 have hzc : (Builtin.zeroCells (Value.int .u8 0).cells n).toList = (zerosB n).map (Value.int .u8) := by
  simp [Builtin.zeroCells, Value.cells, zerosB, List.map_replicate]
  rw [List.eq_replicate_iff]
  simp [Nat.mod_one]
 obtain ⟨m, rfl⟩ : ∃ m, n = m + 1 := ⟨n - 1, by omega⟩
 have hst' : (storeCells ⟨g, off, none⟩ ((zerosB (m + 1)).map (Value.int .u8))).run P w = .ok () (laidW w g cur off (zerosB (m + 1))) := by
  rw [laidW]
  simpa [splice] using hst
 simp only [Builtin.clear_, run_underlying hu, hz, hzc, hst', Sem.run_bind, Sem.run_pure, Result.andThen, List.getElem?_toArray, List.getElem?_cons_zero]
theorem zero_u8 (w : World) : (zeroValue 5).run Tryz.prog w = .ok (.int .u8 0) w := by
 have h : (Tryz.prog.info? 5).map (fun i => (i.zero, i.size, i.bytes)) = some (some (.int .u8 0), 1, 1) := by kernel_rfl
 obtain ⟨i0, hi, hz0, hz1, hz2⟩ := info_parts h
 simp [zeroValue, typeInfo, hi, hz0]
def flC (f : Int × Int) : List Value := [.int .i64 f.1, .int .i64 f.2]
theorem flC_len (f : Int × Int) : (flC f).length = 2 := rfl
theorem flC_one (f : Int × Int) : ∀ u ∈ flC f, u.oneCell' = true := by
 intro u hu
 unfold flC at hu
 rcases List.mem_cons.1 hu with rfl | hu
 ·rfl
 rw [List.mem_singleton.1 hu]
 rfl
theorem info_flt : (Tryz.prog.info? 86).map (fun i => (i.zero, i.size, i.bytes)) = some (some (.agg #[.int .i64 0, .int .i64 0]), 2, 16) := by kernel_rfl
theorem Sls.flt {w : World} {b off cap : Nat} {l : List (Int × Int)} (hc : ∀ i x, l[i]? = some x -> ∀ j u, (flC x)[j]? = some u -> w.cell? ⟨b, off + i * 2 + j, none⟩ = some u) {i : Nat} {e : (Int × Int)} (h : l[i]? = some e) :
  w.cell? ⟨b, off + i * 2, none⟩ = some (.int .i64 e.1) /\ w.cell? ⟨b, off + i * 2 + 1, none⟩ = some (.int .i64 e.2) :=
 ⟨hc i e h 0 _ rfl, hc i e h 1 _ rfl⟩
def FaultIn (f : Int × Int) : Prop := FaultOk f /\ f.1 <= 5
theorem faults_in {b : List Int} {f : Int × Int} (hf : f ∈ faults b) : FaultIn f := by
 refine ⟨faults_ok hf, ?_⟩
 unfold faults at hf
 rcases List.mem_append.1 hf with hf | hf
 ·obtain ⟨j, hj, hf⟩ := mem_hFK.1 hf
  have := hFault_mem hf
  omega
 ·obtain ⟨j, hj, hf⟩ := mem_rFK.1 hf
  have := rFault_mem hf
  omega
def pOf (f : Int × Int) : Nat := if 3 < f.1 then 200 + 11 * f.2.toNat else plc f.2
def nOf (f : Int × Int) : Nat := if 3 < f.1 then 11 else 5
theorem wipeF_eq (b : List Int) (f : Int × Int) : wipeF b f = splice b (pOf f) (zerosB (nOf f)) := by
 unfold wipeF pOf nOf
 by_cases h : 3 < f.1
 ·rw [if_pos h, if_pos h, if_pos h]
 ·rw [if_neg h, if_neg h, if_neg h]
theorem nOf_fit {f : Int × Int} (hf : FaultIn f) : 0 < nOf f /\ pOf f + nOf f <= 288 := by
 unfold pOf nOf
 rcases hf.1 with ⟨h1, h2, h3⟩ | ⟨h1, h2, h3⟩
 ·have := plc_le h2 h3
  rw [if_neg (by omega), if_neg (by omega)]
  omega
 ·rw [if_pos h1, if_pos h1]
  omega
def ExtB (w : World) (g : Nat) (x n : Int) : Prop := w.heap[g]? = some (.cells #[.int .i64 x, .int .i64 n] 58 (0, 0))
theorem ExtB.cells {w : World} {g : Nat} {x n : Int} (h : ExtB w g x n) : w.cell? ⟨g, 0, none⟩ = some (.int .i64 x) /\ w.cell? ⟨g, 1, none⟩ = some (.int .i64 n) := by
 simp only [cell_of_row _ _ _ _ _ _ h]
 exact ⟨rfl, rfl⟩
theorem ExtB.set {w : World} {g : Nat} {x n : Int} (h : ExtB w g x n) (y m : Int) : ExtB ((w.setCell ⟨g, 0, none⟩ (.int .i64 y)).setCell ⟨g, 1, none⟩ (.int .i64 m)) g y m := by
 have h1 := heap_setCell_same w g 0 _ _ (.int .i64 y) h
 exact heap_setCell_same _ g 1 _ _ (.int .i64 m) h1
end Go.Proofs.YtifmemombecoaaaGreatDoor
namespace Go.Proofs.YtifmemombecoaaaGreatDoor
open Go.RowKit Go.Sort Go.Shelf
set_option linter.unusedVariables false
def twoB (n : Int) (x e : Int × Int) : Bool := chk n [x, e] != 0
theorem twoB_over {n : Int} {x e : Int × Int} (hn : 0 <= n) (hn2 : n <= 6400) (hx : there n x = true) (he : there n e = true) : twoB n x e = over e x := by
 unfold twoB chk
 rw [if_neg (by omega), if_neg (by simp)]
 unfold chkL
 rw [if_neg (by rw [hx]; simp), if_neg (by simp)]
 unfold chkL
 rw [if_neg (by rw [he]; simp), List.nil_append, List.any_cons, List.any_nil, Bool.or_false]
 cases over e x with
 | true => rw [if_pos rfl]; rfl
 | false => rw [if_neg (by simp)]; rfl
theorem chOver_any (n : Int) (x e : Int × Int) (w : World) (hx : InI x) (he : InI e) :
  Calls Tryz.prog 119 #[.int .i64 n, .agg #[.int .i64 x.1, .int .i64 x.2], .agg #[.int .i64 e.1, .int .i64 e.2]] w fun r w' => r = .returned (.bool (twoB n x e)) /\ Below w.heap.size w w' := by
 have hb : Below w.heap.size w (((w.alloc (.cells #[.int .i64 x.1, .int .i64 x.2] 58)).alloc (.cells #[.int .i64 e.1, .int .i64 e.2] 58)).alloc (.cells #[.int .i64 x.1, .int .i64 x.2, .int .i64 e.1, .int .i64 e.2] 58)) := (((Below.refl _ w).alloc (Nat.le_refl _) _).alloc (by simp) _).alloc (by simp; omega) _
 have hg := heap_alloc_new ((w.alloc (.cells #[.int .i64 x.1, .int .i64 x.2] 58)).alloc (.cells #[.int .i64 e.1, .int .i64 e.2] 58)) (.cells #[.int .i64 x.1, .int .i64 x.2, .int .i64 e.1, .int .i64 e.2] 58)
 rw [sz_alloc, sz_alloc] at hg
 have hex : Exs (((w.alloc (.cells #[.int .i64 x.1, .int .i64 x.2] 58)).alloc (.cells #[.int .i64 e.1, .int .i64 e.2] 58)).alloc (.cells #[.int .i64 x.1, .int .i64 x.2, .int .i64 e.1, .int .i64 e.2] 58)) (some ⟨w.heap.size + 1 + 1, 0, none⟩) 2 [x, e] := by
  refine ⟨fun y hy => ?_, ⟨by simp, fun h => by cases h⟩, by simp, fun _ => ⟨_, 0, rfl, fun i hi => ?_⟩⟩
  ·rcases List.mem_cons.1 hy with rfl | hy
   ·exact hx
   ·rw [List.mem_singleton.1 hy]; exact he
  ·rw [cell_of_row _ _ _ _ _ _ hg, cell_of_row _ _ _ _ _ _ hg]
   match i, hi with
   | 0, _ => exact ⟨rfl, rfl⟩
   | 1, _ => exact ⟨rfl, rfl⟩
   | i + 2, hi => exact absurd hi (by simp)
 have HC := hide (check_all n _ 2 [x, e] _ hex)
 have hv : chk n [x, e] = 0 /\ twoB n x e = false \/ chk n [x, e] ≠ 0 /\ twoB n x e = true := by
  unfold twoB
  by_cases h : chk n [x, e] = 0
  ·exact .inl ⟨h, by rw [h]; rfl⟩
  ·exact .inr ⟨h, bne_iff_ne.2 h⟩
 have HB := hide hb
 clear hb hex hg hx he
 obtain ⟨x1, x2⟩ := x
 obtain ⟨e1, e2⟩ := e
 dsimp only at *
 generalize twoB n (x1, x2) (e1, e2) = r at *
 generalize chk n [(x1, x2), (e1, e2)] = c at *
 rcases hv with ⟨rfl, rfl⟩ | ⟨hc, rfl⟩
 ·rw [errV_zero] at HC
  go_enter Tryz.func119, Tryz.ntmps119
  go_wp2_with fail
  refine (unhide HC).mono ?_
  rintro e w1 ⟨rfl, hb1⟩
  have HB1 := hide ((unhide HB).trans (hb1.mono (unhide HB).size))
  clear hb1 HC HB
  go_wp2
  go_ret
  exact ⟨rfl, unhide HB1⟩
 ·rw [errV_pos _ hc] at HC
  go_enter Tryz.func119, Tryz.ntmps119
  go_wp2_with fail
  refine (unhide HC).mono ?_
  rintro e w1 ⟨rfl, hb1⟩
  have HB1 := hide ((unhide HB).trans (hb1.mono (unhide HB).size))
  clear hb1 HC HB
  go_wp2
  go_ret
  exact ⟨rfl, unhide HB1⟩
structure Ex where
 val : Int × Int
 ok : InI val
def exS (x : Ex) : List Value := exC x.1
theorem exS_len (x : Ex) : (exS x).length = 2 := rfl
theorem exS_one (x : Ex) : ∀ u ∈ exS x, u.oneCell' = true := by
 intro u hu
 unfold exS exC at hu
 rcases List.mem_cons.1 hu with rfl | hu
 ·rfl
 rw [List.mem_singleton.1 hu]
 rfl
theorem info_ext : (Tryz.prog.info? 58).map (fun i => (i.zero, i.size, i.bytes)) = some (some (.agg #[.int .i64 0, .int .i64 0]), 2, 16) := by kernel_rfl
theorem whatOf1_any (n : Int) (x : Ex) (e : (Int × Int × Int × Int)) (gn ge : Nat) (W : World) (hn : W.cell? ⟨gn, 0, none⟩ = some (.int .i64 n)) (he : EnB W ge e) (hi : InI (e.2.1, e.2.2.1)) :
  Calls Tryz.prog 118 #[.agg #[.int .i64 x.1.1, .int .i64 x.1.2], .pointer (some ⟨gn, 0, none⟩), .pointer (some ⟨ge, 0, none⟩)] W fun r w' => r = .returned (.bool (twoB n x.1 (e.2.1, e.2.2.1))) /\ Below W.heap.size W w' := by
 obtain ⟨⟨x1, x2⟩, hx⟩ := x
 obtain ⟨h, a, l, t⟩ := e
 have hb0 : Below W.heap.size W (W.alloc (.cells #[.int .i64 x1, .int .i64 x2] 58)) := (Below.refl _ W).alloc (Nat.le_refl _) _
 have hn1 := (hb0.cell (block_lt_of_cell hn)).trans hn
 have he1 := he.below hb0 he.lt
 obtain ⟨c0, c1, c2, c3⟩ := he1.cells
 have HO := hide (chOver_any n (x1, x2) (a, l) (W.alloc (.cells #[.int .i64 x1, .int .i64 x2] 58)) hx hi)
 have HB0 := hide hb0
 have hgn := block_lt_of_cell hn
 have hge := he.lt
 dsimp only at *
 generalize twoB n (x1, x2) (a, l) = r at *
 clear he1 hb0 hx hi he hn
 go_enter Tryz.func118, Tryz.ntmps118
 go_wp2_with fail
 refine (unhide HO).mono ?_
 rintro e' w1 ⟨rfl, hb1⟩
 have HB1 := hide ((unhide HB0).trans (hb1.mono (unhide HB0).size))
 clear hb1
 go_wp2
 go_ret
 exact ⟨rfl, unhide HB1⟩
theorem exIndex_nil (fv : Value) (w : World) : Calls Tryz.prog 140 #[.slice none 0 0, fv] w fun r w' => r = .returned (.int .i64 (-1)) /\ w = w' := by
 go_enter Tryz.func140, Tryz.ntmps140
 go_wp2
 go_loop [5, 8] (fun _ i => i = .int .i64 0) (fun _ _ => 0)
 case atStart => rfl
 case round =>
  subst hrel
  go_wp2
  go_ret
  exact ⟨rfl, rfl⟩
theorem exCont_nil (fv : Value) (w : World) : Calls Tryz.prog 117 #[.slice none 0 0, fv] w fun r w' => r = .returned (.bool false) /\ w = w' := by
 have HI := hide (exIndex_nil fv w)
 go_enter Tryz.func117, Tryz.ntmps117
 go_wp2_with (go_at_call 140; refine (unhide HI).mono ?_; rintro e w1 ⟨rfl, rfl⟩)
 go_ret
 exact ⟨rfl, rfl⟩
def whatL (L : List Int) (e : (Int × Int × Int × Int)) (T : List Ex) : Int := if putE L e ≠ 0 then 1 else if T.any (fun x => twoB L.length x.1 (e.2.1, e.2.2.1)) = true then 2 else 0
set_option maxHeartbeats 1000000 in
theorem whatOf_any (L : List Int) (e : (Int × Int × Int × Int)) (B : Nat) (v : Value) (T : List Ex) (w : World) (hl : L.length <= 140737488351232) (hi : InI (e.2.1, e.2.2.1)) (hT : Lst exS 2 58 w B v T) (hTl : T.length <= 1000) :
  Calls Tryz.prog 92 #[.int .i64 L.length, entV e, v] w fun r w' => r = .returned (.int .i64 (whatL L e T)) /\ Below w.heap.size w w' := by
 obtain ⟨x, a, l, t⟩ := e
 have hb0 : Below w.heap.size w ((w.alloc (.cells #[.int .i64 (L.length : Int)] 3)).alloc (.cells #[.int .i64 x, .int .i64 a, .int .i64 l, .int .i64 t] 60)) := ((Below.refl _ w).alloc (Nat.le_refl _) _).alloc (by simp) _
 have HK := hide (ckEnt_any L (x, a, l, t) ((w.alloc (.cells #[.int .i64 (L.length : Int)] 3)).alloc (.cells #[.int .i64 x, .int .i64 a, .int .i64 l, .int .i64 t] 60)) hl hi.1)
 have HB0 := hide hb0
 have hen := EnB.new (w.alloc (.cells #[.int .i64 (L.length : Int)] 3)) (x, a, l, t)
 rw [sz_alloc] at hen
 have hcn : ((w.alloc (.cells #[.int .i64 (L.length : Int)] 3)).alloc (.cells #[.int .i64 x, .int .i64 a, .int .i64 l, .int .i64 t] 60)).cell? ⟨w.heap.size, 0, none⟩ = some (.int .i64 (L.length : Int)) := by
  rw [World.cell?_alloc_lt _ _ _ (by simp), cell_of_row _ _ _ _ _ (0, 0) (heap_alloc_new w _)]
  rfl
 unfold entV at HK ⊢
 dsimp only at HK ⊢ hi
 obtain ⟨va, vm, vc, rfl⟩ := hT.shape
 by_cases h0 : putE L (x, a, l, t) = 0
 ·have hw : whatL L (x, a, l, t) T = if T.any (fun y => twoB L.length y.1 (a, l)) = true then 2 else 0 := by unfold whatL; rw [if_neg (by rw [h0]; simp)]
  rw [h0, errV_zero] at HK
  rw [hw]
  clear hw h0
  have HC : Hid (∀ W : World, Below w.heap.size w W -> EnB W (w.heap.size + 1) (x, a, l, t) -> W.cell? ⟨w.heap.size, 0, none⟩ = some (.int .i64 (L.length : Int)) ->
    Calls Tryz.prog 117 #[.slice va vm vc, .func (.func 118) #[] #[.pointer (some ⟨w.heap.size, 0, none⟩), .pointer (some ⟨w.heap.size + 1, 0, none⟩)]] W fun r w' => r = .returned (.bool (T.any (fun y => twoB L.length y.1 (a, l)))) /\ Below W.heap.size W w') := hide (fun W hW hE hN => by
   have hTW := hT.below hW
   obtain ⟨a1, c1, e1, hsl⟩ := hTW.sls exS_len (by omega)
   simp only [Value.slice.injEq] at e1
   obtain ⟨rfl, rfl, rfl⟩ := e1
   rcases hTW.2 with ⟨h', h00⟩ | ⟨g, cap, cur, h', hB, hc, h3, h4, h5, h6⟩
   ·simp only [Value.slice.injEq] at h'
    obtain rfl : T = [] := List.eq_nil_of_length_eq_zero h00
    rw [h'.1, h'.2.2]
    exact (exCont_nil _ W).mono fun r w' ⟨hr, hw⟩ => ⟨hr, by rw [hw]; exact Below.refl _ _⟩
   ·simp only [Value.slice.injEq, true_and] at h'
    obtain ⟨rfl, rfl⟩ := h'
    have hlt : g < W.heap.size := (Array.getElem?_eq_some_iff.1 hc).1
    haveI : Inhabited Ex := ⟨⟨(0, 0), by unfold InI; decide⟩⟩
    have hcon := AnyQ.slices_ContainsFunc exCont 2 Tryz.isAgg58 Tryz.sizeOf58 exS exS_len (fun y : Ex => twoB L.length y.1 (a, l)) 118 #[.pointer (some ⟨w.heap.size, 0, none⟩), .pointer (some ⟨w.heap.size + 1, 0, none⟩)] (enters_of Tryz.func118 (by kernel_rfl) rfl) g 0 T.length vc T W
     (fun W2 y hW2 => (whatOf1_any L.length y (x, a, l, t) w.heap.size (w.heap.size + 1) W2 ((hW2.cell (block_lt_of_cell hN)).trans hN) (hE.below hW2 hE.lt) hi).mono fun r w' ⟨hr, hbb⟩ => ⟨hr, hW2.trans (hbb.mono hW2.size)⟩)
     (Nat.le_refl _) (by omega) hlt
     (fun j hj i u hu => by
      have ej : T[j]? = some T[j]! := by simp [hj]
      obtain ⟨b, off, hba, hcell⟩ := hsl.2.2.2 (by intro e; rw [e] at hj; simp at hj)
      simp only [Option.some.injEq, Addr.mk.injEq, and_true] at hba
      obtain ⟨rfl, rfl⟩ := hba
      exact hcell j _ ej i u hu)
    change Calls Tryz.prog 117 _ _ _ at hcon
    rw [List.take_length] at hcon
    exact hcon)
  clear hT hTl hi hl
  generalize T.any (fun y => twoB L.length y.1 (a, l)) = r at *
  have HEN := hide hen
  have HCN := hide hcn
  clear hen hcn hb0
  cases r with
  | true =>
   rw [if_pos rfl]
   go_enter Tryz.func92, Tryz.ntmps92
   go_wp2_with fail
   refine (unhide HK).mono ?_
   rintro e w1 ⟨rfl, hb1⟩
   have hB1 := (unhide HB0).trans (hb1.mono (unhide HB0).size)
   have HC1 := hide (unhide HC w1 hB1 ((unhide HEN).below hb1 (by simp)) ((hb1.cell (by simp; omega)).trans (unhide HCN)))
   have HB1 := hide hB1
   clear hb1 hB1 HC HB0 HEN HCN HK
   go_wp2_with fail
   refine (unhide HC1).mono ?_
   rintro e w2 ⟨rfl, hb2⟩
   have HB2 := hide ((unhide HB1).trans (hb2.mono (unhide HB1).size))
   clear hb2 HC1 HB1
   go_wp2
   go_ret
   exact ⟨rfl, unhide HB2⟩
  | false =>
   rw [if_neg (by simp)]
   go_enter Tryz.func92, Tryz.ntmps92
   go_wp2_with fail
   refine (unhide HK).mono ?_
   rintro e w1 ⟨rfl, hb1⟩
   have hB1 := (unhide HB0).trans (hb1.mono (unhide HB0).size)
   have HC1 := hide (unhide HC w1 hB1 ((unhide HEN).below hb1 (by simp)) ((hb1.cell (by simp; omega)).trans (unhide HCN)))
   have HB1 := hide hB1
   clear hb1 hB1 HC HB0 HEN HCN HK
   go_wp2_with fail
   refine (unhide HC1).mono ?_
   rintro e w2 ⟨rfl, hb2⟩
   have HB2 := hide ((unhide HB1).trans (hb2.mono (unhide HB1).size))
   clear hb2 HC1 HB1
   go_wp2
   go_ret
   exact ⟨rfl, unhide HB2⟩
 ·have hw : whatL L (x, a, l, t) T = 1 := by unfold whatL; rw [if_pos h0]
  rw [errV_pos _ h0] at HK
  rw [hw]
  clear hw h0 hen hcn hb0 hT hi hl
  generalize putE L (x, a, l, t) = c at *
  go_enter Tryz.func92, Tryz.ntmps92
  go_wp2_with fail
  refine (unhide HK).mono ?_
  rintro e w1 ⟨rfl, hb1⟩
  have HB1 := hide ((unhide HB0).trans (hb1.mono (unhide HB0).size))
  clear hb1
  go_wp2
  go_ret
  exact ⟨rfl, unhide HB1⟩
end Go.Proofs.YtifmemombecoaaaGreatDoor
namespace Go.Proofs.YtifmemombecoaaaGreatDoor
open Go.RowKit Go.MapKept Go.ChangeMaps Go.Sort Go.Shelf
open Go.Maps (Keyed)
set_option linter.unusedVariables false
theorem at_none {H : Type} {D : DataW H} {k : Lit} (h : Maps.has D k = false) {z : DataW H} : D.atKey k z = z := by
 cases D <;> try rfl
 rename_i es
 show (match es.find? (fun p => p.1.sameKey k) with | some p => p.2 | none => z) = z
 have : es.find? (fun p => p.1.sameKey k) = none := List.find?_eq_none.2 (fun p hp hs => (List.any_eq_false.1 h p hp) hs)
 rw [this]
def Mrk (w : World) (m : Nat) (E : List (Int × Int × Int × Int)) (f : Int -> Int) : Prop :=
 ∃ Dm : DataW Unit, w.ownsMap Tryz.prog 3 (plainElem Tryz.prog 3) m E.length Dm /\ ∀ z : Int, Maps.has Dm (.int .i64 z) = E.any (fun e => e.1 == z) /\ (E.any (fun e => e.1 == z) = true -> ∀ d, Dm.atKey (.int .i64 z) d = .lit (.int .i64 (f z)))
theorem Mrk.made (w : World) (f : Int -> Int) : Mrk (w.alloc (.map #[] 0)) w.heap.size [] f := ⟨.map [], World.ownsMap_made w _ _ _, fun z => ⟨rfl, fun h => by cases h⟩⟩
theorem Mrk.lt {w : World} {m : Nat} {E : List (Int × Int × Int × Int)} {f : Int -> Int} (h : Mrk w m E f) : m < w.heap.size := by
 obtain ⟨Dm, h1, _⟩ := h
 exact h1.lt
theorem Mrk.same {w w' : World} {m : Nat} {E : List (Int × Int × Int × Int)} {f : Int -> Int} (h : Mrk w m E f) (hs : w'.heap[m]? = w.heap[m]?) : Mrk w' m E f := by
 obtain ⟨Dm, ⟨es, clock, hb, r⟩, h2⟩ := h
 exact ⟨Dm, ⟨es, clock, hs.trans hb, r⟩, h2⟩
theorem Mrk.below {w w' : World} {m : Nat} {E : List (Int × Int × Int × Int)} {f : Int -> Int} (h : Mrk w m E f) (hb : Below w.heap.size w w') : Mrk w' m E f := h.same (hb.block m h.lt)
theorem info_num : (Tryz.prog.info? 3).map (fun i => (i.zero, i.size, i.bytes)) = some (some (.int .i64 0), 1, 8) := by kernel_rfl
theorem zero_num (w : World) : (zeroValue 3).run Tryz.prog w = .ok (.int .i64 0) w := by
 obtain ⟨i0, hi0, hz0, hz1, hz2⟩ := info_parts info_num
 simp [zeroValue, typeInfo, hi0, hz0]
def mrkV (E : List (Int × Int × Int × Int)) (f : Int -> Int) (z : Int) : Int := if E.any (fun e => e.1 == z) = true then f z else 0
theorem Mrk.look {w : World} {m : Nat} {E : List (Int × Int × Int × Int)} {f : Int -> Int} (h : Mrk w m E f) (z : Int) (hz : -9223372036854775808 <= z /\ z <= 9223372036854775807) :
  (Instr.lookup 121 (.map (some m)) (.int .i64 z) true).run Tryz.prog w = .ok (.tuple #[.int .i64 (mrkV E f z), .bool (E.any (fun e => e.1 == z))]) w := by
 obtain ⟨Dm, h1, h2⟩ := h
 have hwf : (Lit.int .i64 z).wf = true := WalkArith.wf_i64 hz
 have hkey := Maps.keyOf_int_mk (P := Tryz.prog) Tryz.underlying3 hwf
 obtain ⟨v, ps, hrun, hv⟩ := h1.look_ok (Maps.int_keyed Tryz.underlying3) Tryz.underlying121 (zero_num w) (plainElem_int Tryz.underlying3 (a := 0) (by decide)) hkey
 obtain ⟨a, rfl, he, _⟩ := plainElem_int_inv Tryz.underlying3 hv
 have he' := congrArg Prod.fst he
 dsimp only at he'
 rw [hrun, (h2 z).1]
 unfold mrkV
 cases hq : E.any (fun e => e.1 == z) with
 | true =>
  rw [if_pos rfl]
  rw [(h2 z).2 hq] at he'
  simp only [DataW.lit.injEq, Lit.int.injEq, true_and] at he'
  rw [he']
 | false =>
  rw [if_neg (by simp)]
  rw [at_none (by rw [(h2 z).1]; exact hq)] at he'
  simp only [DataW.lit.injEq, Lit.int.injEq, true_and] at he'
  rw [he']
theorem Mrk.store {w : World} {m : Nat} {E : List (Int × Int × Int × Int)} {f : Int -> Int} (h : Mrk w m E f) (hk : E.length <= 300) (e : (Int × Int × Int × Int)) (hz : -9223372036854775808 <= e.1 /\ e.1 <= 9223372036854775807) (hf : -9223372036854775808 <= f e.1 /\ f e.1 <= 9223372036854775807) :
  ∃ w', (Instr.mapUpdate 121 (.map (some m)) (.int .i64 e.1) (.int .i64 (f e.1))).run Tryz.prog w = .ok () w' /\ Mrk w' m (E ++ [e]) f /\ w.mapTurned w' m := by
 obtain ⟨Dm, h1, h2⟩ := h
 have hwf : (Lit.int .i64 e.1).wf = true := WalkArith.wf_i64 hz
 have hkey := Maps.keyOf_int_mk (P := Tryz.prog) Tryz.underlying3 hwf
 obtain ⟨w', hrun, hown', ht⟩ := h1.store (Maps.int_keyed Tryz.underlying3) Tryz.underlying121 (by unfold maxLen; omega) hkey (plainElem_int Tryz.underlying3 (a := f e.1) (WalkArith.wf_i64 hf))
 have hlit : WideAt.IsKeyLit (.int .i64 e.1) := (Maps.int_keyed Tryz.underlying3).key hkey
 refine ⟨w', hrun, ⟨_, by rw [List.length_append]; exact hown', fun z => ?_⟩, ht⟩
 rw [List.any_append]
 by_cases hj : z = e.1
 ·subst hj
  rw [Maps.has_put_same h1.isMap hlit]
  refine ⟨by simp, fun _ d => Maps.atKey_put_same h1.isMap hlit _ _⟩
 ·have hne : Lit.int .i64 z ≠ Lit.int .i64 e.1 := by
   intro e; simp only [Lit.int.injEq, true_and] at e; exact hj e
  have e0 : (e.1 == z) = false := by
   rw [beq_eq_false_iff_ne]
   exact fun e => hj e.symm
  rw [Maps.has_put_other hne, List.any_cons, List.any_nil, e0, Bool.or_false, Bool.or_false]
  refine ⟨(h2 z).1, fun hq d => ?_⟩
  rw [Maps.atKey_put_other hne]
  exact (h2 z).2 hq d
theorem mem_entsK {L : List Int} {e : (Int × Int × Int × Int)} : ∀ {k : Nat}, e ∈ entsK L k ↔ ∃ j : Nat, j < k /\ tagAt L ((j : Int) + 1) ≠ 0 /\ e = entOf L ((j : Int) + 1)
 | 0 => by simp [entsK]
 | k + 1 => by
  unfold entsK
  rw [List.mem_append, mem_entsK]
  by_cases ht : tagAt L ((k : Int) + 1) = 0
  ·rw [if_pos ht]
   constructor
   ·rintro (⟨j, h1, h2⟩ | h2)
    ·exact ⟨j, by omega, h2⟩
    ·cases h2
   ·rintro ⟨j, h1, h2, h3⟩
    by_cases e : j = k
    ·subst e; exact absurd ht h2
    ·exact .inl ⟨j, by omega, h2, h3⟩
  ·rw [if_neg ht]
   constructor
   ·rintro (⟨j, h1, h2⟩ | h2)
    ·exact ⟨j, by omega, h2⟩
    ·exact ⟨k, by omega, ht, List.mem_singleton.1 h2⟩
   ·rintro ⟨j, h1, h2, h3⟩
    by_cases e : j = k
    ·subst e; exact .inr (List.mem_singleton.2 h3)
    ·exact .inl ⟨j, by omega, h2, h3⟩
theorem ents_at {L : List Int} {e : (Int × Int × Int × Int)} {k : Nat} : ∀ {m : Nat}, (entsK L m)[k]? = some e -> ∃ j : Nat, j < m /\ tagAt L ((j : Int) + 1) ≠ 0 /\ e = entOf L ((j : Int) + 1) /\ (entsK L m).take k = entsK L j
 | 0, h => by simp [entsK] at h
 | m + 1, h => by
  by_cases hk : k < (entsK L m).length
  ·have h' : (entsK L m)[k]? = some e := by
    unfold entsK at h
    rwa [List.getElem?_append_left hk] at h
   obtain ⟨j, h1, h2, h3, h4⟩ := ents_at h'
   refine ⟨j, by omega, h2, h3, ?_⟩
   show (entsK L m ++ _).take k = _
   rw [List.take_append_of_le_length (by omega)]
   exact h4
  ·unfold entsK at h
   rw [List.getElem?_append_right (by omega)] at h
   by_cases ht : tagAt L ((m : Int) + 1) = 0
   ·rw [if_pos ht] at h; simp at h
   ·rw [if_neg ht] at h
    have hk0 : k = (entsK L m).length := by
     have := (List.getElem?_eq_some_iff.1 h).1
     simp at this
     omega
    subst hk0
    rw [Nat.sub_self] at h
    refine ⟨m, by omega, ht, (Option.some.inj h).symm, ?_⟩
    show (entsK L m ++ _).take _ = _
    rw [List.take_append_of_le_length (Nat.le_refl _), List.take_length]
def exOf (e : (Int × Int × Int × Int)) : Int × Int := (e.2.1, e.2.2.1)
theorem exOf_in {L : List Int} {h : Int} (hb : Byt L) (hl : 288 <= L.length) (h1 : 1 <= h) (h2 : h <= 40) : InI (exOf (entOf L h)) := by
 have hp := plc_le h1 h2
 unfold exOf entOf InI
 dsimp only
 rw [getV_two _ _ (by omega), getV_two _ _ (by omega)]
 have e1 := hb.getD (plc h + 1)
 have e2 := hb.getD (plc h + 1 + 1)
 have e3 := hb.getD (plc h + 3)
 have e4 := hb.getD (plc h + 3 + 1)
 omega
theorem inI_zero : InI (0, 0) := by unfold InI; decide
def inIB (e : Int × Int) : Bool := decide ((-9223372036854775808 <= e.1 /\ e.1 <= 9223372036854775807) /\ -9223372036854775808 <= e.2 /\ e.2 <= 9223372036854775807)
theorem inIB_iff {e : Int × Int} : inIB e = true ↔ InI e := by unfold inIB InI; rw [decide_eq_true_iff]
def mkEx (e : Int × Int) : Ex := if h : inIB e = true then ⟨e, inIB_iff.1 h⟩ else ⟨(0, 0), inI_zero⟩
theorem mkEx_val {e : Int × Int} (h : InI e) : (mkEx e).1 = e := by unfold mkEx; rw [dif_pos (inIB_iff.2 h)]
def takenE (L : List Int) (E : List (Int × Int × Int × Int)) : List Ex := (E.filter (fun e => decide (putE L e = 0))).map (fun e => mkEx (exOf e))
theorem takenE_len (L : List Int) (E : List (Int × Int × Int × Int)) : (takenE L E).length <= E.length := by unfold takenE; rw [List.length_map]; exact List.length_filter_le _ _
def mkV (L : List Int) (h : Int) : Int := if whE L h = 3 then 1 else if whE L h = 2 then 2 else 0
theorem mkV_in (L : List Int) (h : Int) : -9223372036854775808 <= mkV L h /\ mkV L h <= 9223372036854775807 := by
 unfold mkV
 split
 ·omega
 ·split <;> omega
theorem there_put {L : List Int} {e : (Int × Int × Int × Int)} (h : putE L e = 0) : there L.length (exOf e) = true := by
 obtain ⟨_, _, h3⟩ := putE_zero.1 h
 exact there_iff.2 (by unfold exOf; dsimp only; omega)
theorem what_mkV {L : List Int} {j : Nat} (hb : Byt L) (hq : lenB L.length = true) (hj : j < 40) (ht : tagAt L ((j : Int) + 1) ≠ 0) : whatL L (entOf L ((j : Int) + 1)) (takenE L (entsK L j)) = mkV L ((j : Int) + 1) := by
 have hl := lenB_iff.1 hq
 unfold whatL mkV
 by_cases h0 : putE L (entOf L ((j : Int) + 1)) = 0
 ·rw [if_neg (by rw [h0]; simp)]
  have hw3 : whE L ((j : Int) + 1) ≠ 3 := by
   unfold whE
   rw [if_neg ht, if_neg (by rw [h0]; simp)]
   split <;> omega
  rw [if_neg hw3]
  have hany : (takenE L (entsK L j)).any (fun x => twoB L.length x.1 ((entOf L ((j : Int) + 1)).2.1, (entOf L ((j : Int) + 1)).2.2.1)) = lapK L ((j : Int) + 1) j := by
   have hiff : (takenE L (entsK L j)).any (fun x => twoB L.length x.1 (exOf (entOf L ((j : Int) + 1)))) = true ↔ lapK L ((j : Int) + 1) j = true := by
    rw [List.any_eq_true, lapK_iff]
    have key : ∀ i : Nat, i < j -> putE L (entOf L ((i : Int) + 1)) = 0 -> twoB L.length (mkEx (exOf (entOf L ((i : Int) + 1)))).1 (exOf (entOf L ((j : Int) + 1))) = lapB (entOf L ((j : Int) + 1)) (entOf L ((i : Int) + 1)) := fun i hi hp => by
     rw [mkEx_val (exOf_in hb (by omega) (by omega) (by omega)), twoB_over (by omega) (by omega) (there_put hp) (there_put h0)]
     rfl
    constructor
    ·rintro ⟨x, hx, hxt⟩
     unfold takenE at hx
     obtain ⟨e, he, rfl⟩ := List.mem_map.1 hx
     obtain ⟨he1, he2⟩ := List.mem_filter.1 he
     obtain ⟨i, hi, hti, rfl⟩ := mem_entsK.1 he1
     have hp := of_decide_eq_true he2
     rw [key i hi hp] at hxt
     exact ⟨i, hi, by unfold okE; rw [Bool.and_eq_true, decide_eq_true_iff, decide_eq_true_iff]; exact ⟨hti, hp⟩, hxt⟩
    ·rintro ⟨i, hi, hok, hlap⟩
     unfold okE at hok
     rw [Bool.and_eq_true, decide_eq_true_iff, decide_eq_true_iff] at hok
     refine ⟨mkEx (exOf (entOf L ((i : Int) + 1))), ?_, by rw [key i hi hok.2]; exact hlap⟩
     exact List.mem_map.2 ⟨_, List.mem_filter.2 ⟨mem_entsK.2 ⟨i, hi, hok.1, rfl⟩, decide_eq_true hok.2⟩, rfl⟩
   unfold exOf at hiff
   cases h3 : (takenE L (entsK L j)).any (fun x => twoB L.length x.1 ((entOf L ((j : Int) + 1)).2.1, (entOf L ((j : Int) + 1)).2.2.1)) <;> cases h4 : lapK L ((j : Int) + 1) j
   ·rfl
   ·rw [h3, h4] at hiff; simp at hiff
   ·rw [h3, h4] at hiff; simp at hiff
   ·rfl
  rw [hany]
  have hjn : ((j : Int) + 1 - 1).toNat = j := by omega
  have hw : whE L ((j : Int) + 1) = if lapK L ((j : Int) + 1) j = true then 2 else 1 := by
   unfold whE
   rw [if_neg ht, if_neg (by rw [h0]; simp), hjn]
  rw [hw]
  cases lapK L ((j : Int) + 1) j with
  | true => rfl
  | false => rfl
 ·rw [if_pos h0]
  have hw3 : whE L ((j : Int) + 1) = 3 := by
   unfold whE
   rw [if_neg ht, if_pos h0]
  rw [if_pos hw3]
theorem what_one {L : List Int} {e : (Int × Int × Int × Int)} {T : List Ex} : whatL L e T = 1 ↔ putE L e ≠ 0 := by
 unfold whatL
 by_cases h0 : putE L e = 0
 ·rw [if_neg (by rw [h0]; simp)]
  constructor
  ·intro h; split at h <;> omega
  ·intro h; exact absurd h0 h
 ·rw [if_pos h0]
  exact ⟨fun _ => h0, fun _ => rfl⟩
theorem takenE_yes {L : List Int} {E : List (Int × Int × Int × Int)} {e : (Int × Int × Int × Int)} (h : putE L e = 0) : takenE L (E ++ [e]) = takenE L E ++ [mkEx (exOf e)] := by
 unfold takenE
 rw [List.filter_append, List.map_append]
 simp [h]
theorem takenE_no {L : List Int} {E : List (Int × Int × Int × Int)} {e : (Int × Int × Int × Int)} (h : putE L e ≠ 0) : takenE L (E ++ [e]) = takenE L E := by
 unfold takenE
 rw [List.filter_append, List.map_append]
 simp [h]
theorem wpList_append_lst2 {α : Type} {enc : α -> List Value} {k T : Nat} {P : Program} {w : World} {ops : Array Oper} {rest : List Oper} {o : Oper} {a : Act} {Q : Exit -> Act -> World -> Prop} (hgd : o.guard = none) (s x : Operand) (t : TypeId)
  (ho : o.op = .call { callee := .builtin .append, args := #[s, x], argTypes := #[t, t] }) (B : Nat) (i0 : TypeInfo) (z : Value) (bytes : Nat)
  (ht : P.underlying t = some (.slice T)) (hi : P.info? T = some i0) (hz : i0.zero = some z) (hsize : i0.size = k) (hby : i0.bytes = bytes) (hzs : z.cells.size = k) (hsz : 0 < k) (hbb : bytes <= 100)
  (v : Value) (l : List α) (hs : a.eval s = v) (hown : Lst enc k T w B v l) (g : Nat) (y : α) (hx : a.eval x = .slice (some ⟨g, 0, none⟩) 1 1)
  (hy : w.heap[g]? = some (.cells (enc y).toArray T (0, 0))) (hk : (enc y).length = k) (h1 : ∀ u ∈ enc y, u.oneCell' = true) (hn : l.length <= 1000) (hB : B <= w.heap.size)
  (h : ∀ v' w', Lst enc k T w' B v' (l ++ [y]) -> Below B w w' -> (∀ j, j < w.heap.size -> v.ownBlock ≠ some j -> w'.heap[j]? = w.heap[j]?) -> wpList P ops Q rest (a.put o.dst v') w') :
  wpList P ops Q (o :: rest) a w := by
 refine wpList_append_own w hgd s x t ho B T i0 z k bytes ht hi hz hsize hby hzs hsz v l.length (l.flatMap enc) hs hown ⟨g, 0, none⟩ 1 1 (enc y) hx (by rw [hk, Nat.one_mul]) (fun j u hj => ?_) h1 (by unfold maxLen; omega) (Nat.le_trans (Nat.mul_le_mul (show l.length + 1 <= 1001 by omega) hbb) (by decide)) hB ?_
 ·rw [addr_add, Nat.zero_add, cell_of_row _ _ _ _ _ _ hy]
  simpa using hj
 ·intro v' w' ho' hg' _
  refine h v' w' ?_ ((Below.refl _ _).grown hg' hB (fun k hk => hown.block k hk)) (fun j hj hne => hg'.block j hj (fun e => hne e.symm))
  unfold Lst
  rw [List.length_append, List.flatMap_append]
  simpa using ho'
theorem Lst.old {α : Type} {enc : α -> List Value} {k T : Nat} {w : World} {B : Nat} {v : Value} {l : List α} (h : Lst enc k T w B v l) : ∀ g, v.ownBlock = some g -> g < w.heap.size := by
 intro g hg
 rcases h.2 with ⟨rfl, _⟩ | ⟨g', cap', cur, rfl, hB, hc, _⟩
 ·cases hg
 ·simp [Value.ownBlock] at hg
  subst hg
  exact (Array.getElem?_eq_some_iff.1 hc).1
theorem Lst.turned {α : Type} {enc : α -> List Value} {k T : Nat} {w w' : World} {B m : Nat} {v : Value} {l : List α} (h : Lst enc k T w B v l) (ht : w.mapTurned w' m) (hm : m < B) : Lst enc k T w' B v l := by
 obtain ⟨es, clock, es', clock', hb, rfl⟩ := ht
 refine ⟨h.1, ?_⟩
 rcases h.2 with h0 | ⟨g, cap, cur, rfl, hB, hc, h3⟩
 ·exact .inl h0
 ·exact .inr ⟨g, cap, cur, rfl, hB, (heap_setBlock_other hb _ (by omega)).trans hc, h3⟩
set_option maxHeartbeats 2000000 in
theorem marksOf_any (L : List Int) (ea : Option Addr) (ec : Nat) (w : World) (hb : Byt L) (hq : lenB L.length = true) (hE : Sls enC 4 w ea ec (entsK L 40)) :
  Calls Tryz.prog 66 #[.int .i64 L.length, .slice ea (entsK L 40).length ec] w fun r w' => r = .returned (.map (some w.heap.size)) /\ Mrk w' w.heap.size (entsK L 40) (mkV L) /\ Below w.heap.size w w' := by
 have hl := lenB_iff.1 hq
 obtain ⟨i0, hi0, hz0, hz1, hz2⟩ := info_parts info_ext
 have HEL := hide (entsK_len L 40)
 have HAT := hide (fun (k : Nat) (e : (Int × Int × Int × Int)) (h : (entsK L 40)[k]? = some e) => ents_at h)
 have HE := hide hE
 have hel := hE.2.2.1
 have HBY := hide hb
 have HQ := hide hq
 have hmm := @run_makeMap Tryz.prog
 generalize hEE : entsK L 40 = E at *
 clear hE hb hq hEE
 go_enter Tryz.func66, Tryz.ntmps66
 go_wp2_with fail
 go_loopw [6, 13] (fun v iv wr => ∃ k : Nat, k <= E.length /\ iv = .int .i64 k /\ Lst exS 2 58 wr (w.heap.size + 1) v (takenE L (E.take k)) /\ Mrk wr w.heap.size (E.take k) (mkV L) /\ Below w.heap.size w wr) (fun _ iv _ => E.length - (intOf iv).toNat)
 case atStart => exact ⟨0, Nat.zero_le _, rfl, Lst.nil _ _, Mrk.made w _, (Below.refl _ _).alloc (Nat.le_refl _) _⟩
 case round =>
  obtain ⟨k, hk, rfl, hown, hmrk, hbel⟩ := hrel
  obtain ⟨va, vm, vc, rfl⟩ := hown.shape
  by_cases hlt : k < E.length
  ·have hne : E ≠ [] := by intro e; rw [e] at hlt; simp at hlt
   obtain ⟨b1, o1, rfl, hc1⟩ := ((unhide HE).below hbel).2.2.2 hne
   obtain ⟨e, he⟩ : ∃ e, E[k]? = some e := ⟨E[k], List.getElem?_eq_getElem hlt⟩
   obtain ⟨q0, q1, q2, q3⟩ := Sls.ent (cap := 0) hc1 he
   obtain ⟨j, hj, htj, hej, htk⟩ := unhide HAT k e he
   have hin : InI (exOf e) := by rw [hej]; exact exOf_in (unhide HBY) (by omega) (by omega) (by omega)
   have hwv : whatL L e (takenE L (E.take k)) = mkV L e.1 := by
    rw [htk, hej]
    exact what_mkV (unhide HBY) (unhide HQ) hj htj
   have he1 : -9223372036854775808 <= e.1 /\ e.1 <= 9223372036854775807 := by rw [hej]; show _ <= (j : Int) + 1 /\ (j : Int) + 1 <= _; omega
   have htake : E.take (k + 1) = E.take k ++ [e] := by rw [List.take_add_one, he]; rfl
   have hone := what_one (L := L) (e := e) (T := takenE L (E.take k))
   have hmi := mkV_in L e.1
   have HY := hide (fun h => takenE_yes (L := L) (E := E.take k) (e := e) h)
   have HNO := hide (fun h => takenE_no (L := L) (E := E.take k) (e := e) h)
   have HTA := hide htake
   have htl : (takenE L (E.take k)).length <= 40 := Nat.le_trans (takenE_len _ _) (by rw [List.length_take]; have := unhide HEL; omega)
   have hekl : (E.take k).length <= 300 := by rw [List.length_take]; have := unhide HEL; omega
   have hb1 : Below w.heap.size w (wr.alloc (.cells #[.int .i64 e.1, .int .i64 e.2.1, .int .i64 e.2.2.1, .int .i64 e.2.2.2] 60)) := hbel.alloc hbel.size _
   have hbA : Below wr.heap.size wr (wr.alloc (.cells #[.int .i64 e.1, .int .i64 e.2.1, .int .i64 e.2.2.1, .int .i64 e.2.2.2] 60)) := (Below.refl _ _).alloc (Nat.le_refl _) _
   have hen := EnB.new wr e
   have hown1 := hown.below hbA
   have hold := hown.old
   have hmrk1 := hmrk.below hbA
   have hml := hmrk.lt
   have HW := hide (whatOf_any L e (w.heap.size + 1) _ _ _ (by omega) hin hown1 (by omega))
   rw [hwv] at HW hone
   unfold entV at HW
   have HB1 := hide hb1
   have HEN := hide hen
   have HO1 := hide hown1
   have HM1 := hide hmrk1
   clear hown hmrk hbel hc1 hne hwv hej htk htj hj htake hb1 hbA hen hown1 hmrk1
   have HMV : Hid (∀ (W : World), Mrk W w.heap.size (E.take k) (mkV L) -> ∃ w', (Instr.mapUpdate 121 (.map (some w.heap.size)) (.int .i64 e.1) (.int .i64 (mkV L e.1))).run Tryz.prog W = .ok () w' /\ Mrk w' w.heap.size (E.take (k + 1)) (mkV L) /\ W.mapTurned w' w.heap.size) := hide (fun W hM => by
    rw [unhide HTA]
    exact hM.store hekl e he1 hmi)
   generalize mkV L e.1 = c at *
   obtain ⟨x, a, l, t⟩ := e
   dsimp only at *
   clear he
   by_cases hc : c = 1
   ·subst hc
    have HT2 : Hid (takenE L (E.take (k + 1)) = takenE L (E.take k)) := hide (by rw [unhide HTA]; exact unhide HNO (hone.1 rfl))
    clear hone HY HNO hin hold
    go_wp2_with fail
    refine (unhide HW).mono ?_
    rintro e' w1 ⟨rfl, hb1⟩
    obtain ⟨w2, hst, hm2, htn⟩ := unhide HMV w1 ((unhide HM1).below hb1)
    have hen1 := (unhide HEN).below hb1 (by simp)
    obtain ⟨c0, c1, c2, c3⟩ := hen1.cells
    have hB1 := (unhide HB1).trans (hb1.mono (unhide HB1).size)
    have HB2 := hide (hB1.grown htn.grown hB1.size (fun j hj => by cases hj; exact Nat.le_refl _))
    have HO2 := hide (((unhide HO1).below hb1).turned htn (Nat.lt_succ_self _))
    have HM2 := hide hm2
    dsimp only at c0 c1 c2 c3
    clear hb1 hen1 hB1 hm2 htn HB1 HM1 HO1 HW HMV HEN
    go_wp2
    go_roundw
    case rel => exact ⟨k + 1, by omega, by go_num, by rw [unhide HT2]; exact unhide HO2, unhide HM2, unhide HB2⟩
    case measure => simp [intOf]; omega
   ·have hp0 : putE L (x, a, l, t) = 0 := Classical.byContradiction fun h => hc (hone.2 h)
    have HT2 : Hid (takenE L (E.take (k + 1)) = takenE L (E.take k) ++ [mkEx (a, l)]) := hide (by rw [unhide HTA]; exact unhide HY hp0)
    have hval : exS (mkEx (a, l)) = [.int .i64 a, .int .i64 l] := by unfold exS exC; rw [mkEx_val (show InI (a, l) from hin)]
    have hc' : (c != 1) = true := bne_iff_ne.2 hc
    clear hone HY HNO hin hp0
    go_wp2_with fail
    refine (unhide HW).mono ?_
    rintro e' w1 ⟨rfl, hb1⟩
    have hen1 := (unhide HEN).below hb1 (by simp)
    obtain ⟨c0, c1, c2, c3⟩ := hen1.cells
    have hB1 := (unhide HB1).trans (hb1.mono (unhide HB1).size)
    have hbA : Below w1.heap.size w1 (w1.alloc (.cells #[.int .i64 a, .int .i64 l] 58)) := (Below.refl _ _).alloc (Nat.le_refl _) _
    have HO2 := hide (((unhide HO1).below hb1).below hbA)
    have HM2 := hide (((unhide HM1).below hb1).below hbA)
    have HEN2 := hide (hen1.below hbA hen1.lt)
    have HB2 := hide (hB1.trans (hbA.mono hB1.size))
    have HGN : Hid ((w1.alloc (.cells #[.int .i64 a, .int .i64 l] 58)).heap[w1.heap.size]? = some (.cells (exS (mkEx (a, l))).toArray 58 (0, 0))) := hide (by rw [hval]; exact heap_alloc_new w1 _)
    have hs1 : w.heap.size + 1 <= w1.heap.size := by have := hb1.size; simp at this; omega
    dsimp only at c0 c1 c2 c3
    clear hb1 hen1 hB1 HB1 HM1 HO1 HW HEN hbA hval
    go_wp2_with (at_builtin; refine wpList_append_lst2 rfl _ _ 159 rfl (w.heap.size + 1) i0 (.agg #[.int .i64 0, .int .i64 0]) 16 Tryz.underlying159 hi0 hz0 hz1 hz2 rfl (by decide) (by decide) _ _ rfl (unhide HO2) w1.heap.size (mkEx (a, l)) rfl (unhide HGN) rfl (exS_one _) (by omega) (by simp; omega) ?_)
    intro v9 w9 hown9 hbel9 hkeep
    obtain ⟨w10, hst, hm10, htn⟩ := unhide HMV w9 ((unhide HM2).same (hbel9.block _ (Nat.lt_succ_self _)))
    have hen9 : EnB w9 wr.heap.size (x, a, l, t) := (hkeep _ (by have := (unhide HEN2).lt; rw [sz_alloc] at this; exact this) (fun e => by have := hold _ e; omega)).trans (unhide HEN2)
    obtain ⟨d0, d1, d2, d3⟩ := hen9.cells
    dsimp only at d0 d1 d2 d3
    have hB9 := (unhide HB2).trans (hbel9.mono (Nat.le_succ _))
    have HB10 := hide (hB9.grown htn.grown hB9.size (fun j hj => by cases hj; exact Nat.le_refl _))
    have HO10 := hide (hown9.turned htn (Nat.lt_succ_self _))
    have HM10 := hide hm10
    obtain ⟨a9, m9, c9, rfl⟩ := hown9.shape
    clear hown9 hbel9 hkeep hen9 hB9 hm10 htn HB2 HM2 HO2 HMV HEN2 HGN hold c0 c1 c2 c3
    go_wp2
    go_roundw
    case rel => exact ⟨k + 1, by omega, by go_num, by rw [unhide HT2]; exact unhide HO10, unhide HM10, unhide HB10⟩
    case measure => simp [intOf]; omega
  ·obtain rfl : k = E.length := by omega
   rw [List.take_length] at hmrk
   have HM := hide hmrk
   have HBEL := hide hbel
   clear hown hmrk hbel
   go_wp2
   go_ret
   exact ⟨rfl, unhide HM, unhide HBEL⟩
end Go.Proofs.YtifmemombecoaaaGreatDoor
namespace Go.Proofs.YtifmemombecoaaaGreatDoor
open Go.RowKit Go.MapKept Go.ChangeMaps
set_option linter.unusedVariables false
theorem any_entsK {L : List Int} {z : Int} : (entsK L 40).any (fun e => e.1 == z) = (hndB z && (tagAt L z != 0)) := by
 have hiff : (entsK L 40).any (fun e => e.1 == z) = true ↔ (hndB z && (tagAt L z != 0)) = true := by
  rw [List.any_eq_true, Bool.and_eq_true, bne_iff_ne, hndB_iff]
  constructor
  ·rintro ⟨e, he, hz⟩
   obtain ⟨j, hj, ht, rfl⟩ := mem_entsK.1 he
   have hz' : (j : Int) + 1 = z := by
    have := (beq_iff_eq.1 hz)
    exact this
   subst hz'
   exact ⟨by omega, ht⟩
  ·rintro ⟨⟨h1, h2⟩, ht⟩
   obtain ⟨n, rfl⟩ : ∃ n : Nat, z = (n : Int) + 1 := ⟨(z - 1).toNat, by omega⟩
   exact ⟨entOf L ((n : Int) + 1), mem_entsK.2 ⟨n, by omega, ht, rfl⟩, beq_iff_eq.2 rfl⟩
 cases h3 : (entsK L 40).any (fun e => e.1 == z) <;> cases h4 : (hndB z && (tagAt L z != 0))
 ·rfl
 ·rw [h3, h4] at hiff; simp at hiff
 ·rw [h3, h4] at hiff; simp at hiff
 ·rfl
def rowH (L : List Int) (h : Int) : List Int := (L.drop (plc h)).take 5
theorem isRoot_no {l : List Int} : isRoot l = false ↔ ∀ j, j < l.length -> l.getD j 0 = 0 := by
 unfold isRoot
 rw [List.any_eq_false]
 constructor
 ·intro h j hj
  have := h l[j] (List.getElem_mem hj)
  have e : l.getD j 0 = l[j] := by simp [List.getD, hj]
  rw [e]
  simpa using this
 ·intro h x hx
  obtain ⟨j, hj, rfl⟩ := List.getElem_of_mem hx
  have := h j hj
  have e : l.getD j 0 = l[j] := by simp [List.getD, hj]
  rw [e] at this
  simp [this]
theorem rowH_any {L : List Int} {h : Int} (hb : Byt L) (hl : 288 <= L.length) (h1 : 1 <= h) (h2 : h <= 40) (ht : tagAt L h = 0) : isRoot (rowH L h) = false ↔ ((entOf L h).2.1 = 0 /\ (entOf L h).2.2.1 = 0) := by
 have hp := plc_le h1 h2
 have hg : ∀ j, j < 5 -> (rowH L h).getD j 0 = L.getD (plc h + j) 0 := fun j hj => by
  unfold rowH
  simp [List.getD, hj]
 have hlen : (rowH L h).length = 5 := by unfold rowH; simp; omega
 rw [isRoot_no, hlen]
 unfold entOf
 dsimp only
 rw [getV_two _ _ (by omega), getV_two _ _ (by omega)]
 have b1 := hb.getD (plc h + 1)
 have b2 := hb.getD (plc h + 1 + 1)
 have b3 := hb.getD (plc h + 3)
 have b4 := hb.getD (plc h + 3 + 1)
 have g0 := hg 0 (by omega)
 have g1 := hg 1 (by omega)
 have g2 := hg 2 (by omega)
 have g3 := hg 3 (by omega)
 have g4 := hg 4 (by omega)
 unfold tagAt at ht
 rw [Nat.add_zero, ht] at g0
 rw [show plc h + 1 + 1 = plc h + 2 by omega] at *
 rw [show plc h + 3 + 1 = plc h + 4 by omega] at *
 constructor
 ·intro hz
  have z1 := hz 1 (by omega)
  have z2 := hz 2 (by omega)
  have z3 := hz 3 (by omega)
  have z4 := hz 4 (by omega)
  omega
 ·intro hz j hj
  match j, hj with
  | 0, _ => exact g0
  | 1, _ => omega
  | 2, _ => omega
  | 3, _ => omega
  | 4, _ => omega
  | j + 5, hj => omega
def wvH (L : List Int) (h : Int) : Int := if tagAt L h = 0 then (if isRoot (rowH L h) = true then 3 else 0) else mkV L h
theorem hFault_wv {L : List Int} {h : Int} (hb : Byt L) (hl : 288 <= L.length) (h1 : 1 <= h) (h2 : h <= 40) : hFault L h = if wvH L h = 0 then [] else [(wvH L h, h)] := by
 unfold hFault wvH
 by_cases ht : tagAt L h = 0
 ·rw [if_pos (wh_zero.2 ht), if_pos ht]
  have hr := rowH_any hb hl h1 h2 ht
  by_cases hz : (entOf L h).2.1 = 0 /\ (entOf L h).2.2.1 = 0
  ·rw [if_pos hz, hr.2 hz]; rfl
  ·rw [if_neg hz]
   have : isRoot (rowH L h) = true := by
    cases hq : isRoot (rowH L h) with
    | true => rfl
    | false => exact absurd (hr.1 hq) hz
   rw [this]; rfl
 ·rw [if_neg (fun e => ht (wh_zero.1 e)), if_neg ht]
  unfold mkV
  rcases wh_cases L h with h0 | h0 | h0 | h0
  ·exact absurd (wh_zero.1 h0) ht
  ·rw [h0]; rfl
  ·rw [h0]; rfl
  ·rw [h0]; rfl
theorem hFK_yes {L : List Int} {k : Nat} (hb : Byt L) (hl : 288 <= L.length) (hk : k < 40) (h : wvH L ((k : Int) + 1) ≠ 0) : hFK L (k + 1) = hFK L k ++ [(wvH L ((k : Int) + 1), (k : Int) + 1)] := by
 show hFK L k ++ _ = _
 rw [hFault_wv hb hl (by omega) (by omega), if_neg h]
theorem hFK_no {L : List Int} {k : Nat} (hb : Byt L) (hl : 288 <= L.length) (hk : k < 40) (h : wvH L ((k : Int) + 1) = 0) : hFK L (k + 1) = hFK L k := by
 show hFK L k ++ _ = _
 rw [hFault_wv hb hl (by omega) (by omega), if_pos h, List.append_nil]
set_option maxRecDepth 100000 in
set_option maxHeartbeats 2000000 in
theorem fHandles_any (a : Option Addr) (cap : Nat) (L : List Int) (m : Nat) (w : World) (hbs : Bs w a cap L) (hq : lenB L.length = true) (hm : Mrk w m (entsK L 40) (mkV L)) :
  Calls Tryz.prog 68 #[.slice a L.length cap, .map (some m)] w fun r w' => ∃ v, r = .returned v /\ Lst flC 2 86 w' w.heap.size v (hFK L 40) /\ Below w.heap.size w w' := by
 have hl := lenB_iff.1 hq
 obtain ⟨i0, hi0, hz0, hz1, hz2⟩ := info_parts info_flt
 have hbl := hbs.2.2.1
 have HB := hide hbs
 have HM := hide hm
 have HY := hide (fun (k : Nat) => hFK_yes (L := L) (k := k) hbs.1 (by omega))
 have HNO := hide (fun (k : Nat) => hFK_no (L := L) (k := k) hbs.1 (by omega))
 clear hbs hm hq
 go_enter Tryz.func68, Tryz.ntmps68
 go_wp2_with fail
 go_loopw [5, 6] (fun v hv wr => ∃ k : Nat, k <= 40 /\ hv = .int .i64 ((k : Int) + 1) /\ Lst flC 2 86 wr w.heap.size v (hFK L k) /\ Below w.heap.size w wr) (fun _ hv _ => 41 - (intOf hv).toNat)
 case atStart => exact ⟨0, by omega, rfl, Lst.nil _ _, Below.refl _ _⟩
 case round =>
  obtain ⟨k, hk, rfl, hown, hbel⟩ := hrel
  obtain ⟨va, vm, vc, rfl⟩ := hown.shape
  by_cases hlt : k < 40
  ·have hlook := ((unhide HM).below hbel).look ((k : Int) + 1) (by omega)
   rw [any_entsK] at hlook
   unfold mrkV at hlook
   rw [any_entsK, hndB_iff.2 (show 1 <= (k : Int) + 1 /\ (k : Int) + 1 <= 40 by omega), Bool.true_and] at hlook
   have HYK := hide (unhide HY k hlt)
   have HNK := hide (unhide HNO k hlt)
   have HLN := hide (hFK_len L k)
   have HO := hide hown
   have HBEL := hide hbel
   have hsz := hbel.size
   by_cases ht : tagAt L ((k : Int) + 1) = 0
   ·have hwv : wvH L ((k : Int) + 1) = if isRoot (rowH L ((k : Int) + 1)) = true then 3 else 0 := by unfold wvH; rw [if_pos ht]
    have hb0 : (tagAt L ((k : Int) + 1) != 0) = false := by rw [ht]; rfl
    rw [hb0, if_neg (by simp)] at hlook
    have HH := hide (ofHandle_any ((k : Int) + 1) wr (by omega) (by omega))
    have hpl := plc_le (h := (k : Int) + 1) (by omega) (by omega)
    have HP := hide (fun (W : World) (hW : Below wr.heap.size wr W) => part_any a cap L (plc ((k : Int) + 1)) 5 W (((unhide HB).below hbel).below hW) (by omega))
    have HA := hide (fun (W : World) (a' : Option Addr) (c' : Nat) (h : Bs W a' c' (rowH L ((k : Int) + 1))) => isAny_any a' c' _ W h)
    have hrl : (rowH L ((k : Int) + 1)).length = 5 := by unfold rowH; simp; omega
    rw [hrl] at HA
    clear hown hbel ht hb0 hrl
    rw [hwv] at HYK HNK
    have HRH : Hid ((L.drop (plc ((k : Int) + 1))).take 5 = rowH L ((k : Int) + 1)) := hide rfl
    rw [unhide HRH] at HP
    generalize isRoot (rowH L ((k : Int) + 1)) = R at *
    generalize rowH L ((k : Int) + 1) = row at *
    generalize plc ((k : Int) + 1) = p at *
    clear hwv
    rw [show ((5 : Nat) : Int) = 5 from rfl] at HP
    cases R with
    | true =>
     have HE : Hid (hFK L (k + 1) = hFK L k ++ [(3, (k : Int) + 1)]) := hide (unhide HYK (by simp))
     clear HYK HNK
     go_wp2_with fail
     refine (unhide HH).mono ?_
     rintro e w1 ⟨rfl, hb1⟩
     have HP1 := hide (unhide HP w1 hb1)
     have HB1 := hide hb1
     clear hb1 HH HP
     go_wp2_with fail
     refine (unhide HP1).mono ?_
     rintro e w2 ⟨a2, c2, rfl, hbs2, hb2⟩
     have HA2 := hide (unhide HA w2 a2 c2 hbs2)
     have hB2 := (unhide HB1).trans (hb2.mono (unhide HB1).size)
     have HO4 := hide ((unhide HO).below hB2)
     have HB4 := hide ((unhide HBEL).trans (hB2.mono (unhide HBEL).size))
     clear hb2 hbs2 hB2 HP1 HB1 HA HO HBEL
     go_wp2_with fail
     refine (unhide HA2).mono ?_
     rintro e w3 ⟨rfl, hw3⟩
     subst hw3
     clear HA2
     have hbA : Below w2.heap.size w2 (w2.alloc (.cells #[.int .i64 3, .int .i64 ((k : Int) + 1)] 86)) := (Below.refl _ _).alloc (Nat.le_refl _) _
     have HOA := hide ((unhide HO4).below hbA)
     have HBA := hide ((unhide HB4).trans (hbA.mono (unhide HB4).size))
     have HGN : Hid ((w2.alloc (.cells #[.int .i64 3, .int .i64 ((k : Int) + 1)] 86)).heap[w2.heap.size]? = some (.cells (flC (3, (k : Int) + 1)).toArray 86 (0, 0))) := hide (heap_alloc_new w2 _)
     have hs4 := (unhide HB4).size
     clear hbA HO4 HB4
     go_wp2_with (at_builtin; refine wpList_append_lst rfl _ _ 38 rfl w.heap.size i0 (.agg #[.int .i64 0, .int .i64 0]) 16 Tryz.underlying38 hi0 hz0 hz1 hz2 rfl (by decide) (by decide) _ _ rfl (unhide HOA) w2.heap.size (3, (k : Int) + 1) rfl (unhide HGN) rfl (flC_one _) (Nat.le_trans (unhide HLN) (by omega)) (by simp; omega) ?_)
     intro v9 w9 hown9 hbel9
     have HO9 := hide hown9
     have HB9 := hide ((unhide HBA).trans hbel9)
     obtain ⟨a9, m9, c9, rfl⟩ := hown9.shape
     clear hown9 hbel9 HOA HBA HGN
     go_wp2
     go_roundw
     case rel => exact ⟨k + 1, by omega, by go_num, by rw [unhide HE]; exact unhide HO9, unhide HB9⟩
     case measure => simp [intOf]; omega
    | false =>
     have HE : Hid (hFK L (k + 1) = hFK L k) := hide (unhide HNK (by simp))
     clear HYK HNK
     go_wp2_with fail
     refine (unhide HH).mono ?_
     rintro e w1 ⟨rfl, hb1⟩
     have HP1 := hide (unhide HP w1 hb1)
     have HB1 := hide hb1
     clear hb1 HH HP
     go_wp2_with fail
     refine (unhide HP1).mono ?_
     rintro e w2 ⟨a2, c2, rfl, hbs2, hb2⟩
     have HA2 := hide (unhide HA w2 a2 c2 hbs2)
     have hB2 := (unhide HB1).trans (hb2.mono (unhide HB1).size)
     have HO4 := hide ((unhide HO).below hB2)
     have HB4 := hide ((unhide HBEL).trans (hB2.mono (unhide HBEL).size))
     clear hb2 hbs2 hB2 HP1 HB1 HA HO HBEL
     go_wp2_with fail
     refine (unhide HA2).mono ?_
     rintro e w3 ⟨rfl, hw3⟩
     subst hw3
     clear HA2
     go_wp2
     go_roundw
     case rel => exact ⟨k + 1, by omega, by go_num, by rw [unhide HE]; exact unhide HO4, unhide HB4⟩
     case measure => simp [intOf]; omega
   ·have hwv : wvH L ((k : Int) + 1) = mkV L ((k : Int) + 1) := by unfold wvH; rw [if_neg ht]
    have hb0 : (tagAt L ((k : Int) + 1) != 0) = true := bne_iff_ne.2 ht
    rw [hb0, if_pos rfl] at hlook
    rw [hwv] at HYK HNK
    clear hown hbel ht hb0 hwv
    generalize mkV L ((k : Int) + 1) = c at *
    by_cases hc : c = 0
    ·subst hc
     have HE : Hid (hFK L (k + 1) = hFK L k) := hide (unhide HNK rfl)
     clear HYK HNK
     go_wp2
     go_roundw
     case rel => exact ⟨k + 1, by omega, by go_num, by rw [unhide HE]; exact unhide HO, unhide HBEL⟩
     case measure => simp [intOf]; omega
    ·have HE : Hid (hFK L (k + 1) = hFK L k ++ [(c, (k : Int) + 1)]) := hide (unhide HYK hc)
     have hc' : (c != 0) = true := bne_iff_ne.2 hc
     have HO4 := HO
     have HB4 := HBEL
     clear HYK HNK HO HBEL
     have hbA : Below wr.heap.size wr (wr.alloc (.cells #[.int .i64 c, .int .i64 ((k : Int) + 1)] 86)) := (Below.refl _ _).alloc (Nat.le_refl _) _
     have HOA := hide ((unhide HO4).below hbA)
     have HBA := hide ((unhide HB4).trans (hbA.mono (unhide HB4).size))
     have HGN : Hid ((wr.alloc (.cells #[.int .i64 c, .int .i64 ((k : Int) + 1)] 86)).heap[wr.heap.size]? = some (.cells (flC (c, (k : Int) + 1)).toArray 86 (0, 0))) := hide (heap_alloc_new wr _)
     have hs4 := (unhide HB4).size
     clear hbA HO4 HB4
     go_wp2_with (at_builtin; refine wpList_append_lst rfl _ _ 38 rfl w.heap.size i0 (.agg #[.int .i64 0, .int .i64 0]) 16 Tryz.underlying38 hi0 hz0 hz1 hz2 rfl (by decide) (by decide) _ _ rfl (unhide HOA) wr.heap.size (c, (k : Int) + 1) rfl (unhide HGN) rfl (flC_one _) (Nat.le_trans (unhide HLN) (by omega)) (by simp; omega) ?_)
     intro v9 w9 hown9 hbel9
     have HO9 := hide hown9
     have HB9 := hide ((unhide HBA).trans hbel9)
     obtain ⟨a9, m9, c9, rfl⟩ := hown9.shape
     clear hown9 hbel9 HOA HBA HGN
     go_wp2
     go_roundw
     case rel => exact ⟨k + 1, by omega, by go_num, by rw [unhide HE]; exact unhide HO9, unhide HB9⟩
     case measure => simp [intOf]; omega
  ·obtain rfl : k = 40 := by omega
   have HO := hide hown
   have HBEL := hide hbel
   clear hown hbel
   go_wp2
   go_ret
   exact ⟨_, rfl, unhide HO, unhide HBEL⟩
def nbad (c : Int) (R I : Bool) (v : Int) : Bool := (c != 0) || (R || (!I || (v != 0)))
set_option maxRecDepth 100000 in
set_option maxHeartbeats 2000000 in
theorem nameOf_raw (a : Option Addr) (cap : Nat) (r : List Int) (m : Nat) (w : World) (s : ByteArray) (c : Int) (R I : Bool) (v : Int) (hbs : Bs w a cap r) (h11 : r.length = 11) (hs : (readOut (r.take 8)).1 = s) (hc : (readOut (r.take 8)).2 = c) (hR : isRoot ((r.drop 8).take 2) = R)
  (hlook : ∀ W, Below w.heap.size w W -> (Instr.lookup 121 (.map (some m)) (.int .i64 (r.getD 10 0)) true).run Tryz.prog W = .ok (.tuple #[.int .i64 v, .bool I]) W) :
  Calls Tryz.prog 98 #[.slice a 11 cap, .map (some m)] w fun e w' => e = .returned (.tuple #[.string (if nbad c R I v = true then { data := #[] } else s), .bool (!nbad c R I v)]) /\ Below w.heap.size w w' := by
 obtain ⟨a1, hs1, hb1⟩ := slice_hi (P := Tryz.prog) (t := 22) Tryz.underlying22 size_u8 hbs 8 (by omega)
 rw [h11, show ((8 : Nat) : Int) = 8 from rfl] at hs1
 have h8 : (r.take 8).length = 8 := by rw [List.length_take]; omega
 have HG := hide (getName_any a1 cap (r.take 8) w hb1)
 rw [h8, hs, hc] at HG
 obtain ⟨a2, hs2, hb2⟩ := slice_lohi (P := Tryz.prog) (t := 22) Tryz.underlying22 size_u8 hbs 8 10 (by omega) (by omega)
 rw [h11, show ((8 : Nat) : Int) = 8 from rfl, show ((10 : Nat) : Int) = 10 from rfl, show 10 - 8 = 2 from rfl] at hs2
 have h2 : ((r.drop 8).take 2).length = 2 := by simp; omega
 have HA := hide (fun (W : World) (hW : Below w.heap.size w W) => isAny_any a2 _ _ W (hb2.below hW))
 rw [hR, h2] at HA
 obtain ⟨b, off, rfl, hcell⟩ := hbs.at 10 (by omega)
 have hbd := hbs.1.getD 10
 have hlt := block_lt_of_cell hcell
 dsimp only at hlt
 have HL := hide hlook
 generalize r.getD 10 0 = x at *
 clear hlook hb1 hb2 hs hc hR h8 h2 hbs
 unfold nbad
 by_cases h0 : c = 0
 ·subst h0
  rw [errV_zero] at HG
  have hz : ((0 : Int) != 0) = false := rfl
  rw [hz, Bool.false_or]
  cases R with
  | true =>
   rw [Bool.true_or, if_pos rfl, Bool.not_true]
   go_enter Tryz.func98, Tryz.ntmps98
   go_wp2_with fail
   refine (unhide HG).mono ?_
   rintro e w1 ⟨rfl, hw1⟩
   have hc1 := (hw1.cell (block_lt_of_cell hcell)).trans hcell
   have hk1 := unhide HL w1 hw1
   have HA1 := hide (unhide HA w1 hw1)
   have HB1 := hide hw1
   have hl1 : b < w1.heap.size := Nat.lt_of_lt_of_le hlt hw1.size
   clear hw1 HG HL HA hcell hlt
   go_wp2_with (go_at_call 94; refine (unhide HA1).mono ?_; rintro e w2 ⟨rfl, hw2⟩; subst hw2)
   go_ret2
   exact ⟨rfl, unhide HB1⟩
  | false =>
   rw [Bool.false_or]
   cases I with
   | false =>
    rw [Bool.not_false, Bool.true_or, if_pos rfl, Bool.not_true]
    go_enter Tryz.func98, Tryz.ntmps98
    go_wp2_with fail
    refine (unhide HG).mono ?_
    rintro e w1 ⟨rfl, hw1⟩
    have hc1 := (hw1.cell (block_lt_of_cell hcell)).trans hcell
    have hk1 := unhide HL w1 hw1
    have HA1 := hide (unhide HA w1 hw1)
    have HB1 := hide hw1
    have hl1 : b < w1.heap.size := Nat.lt_of_lt_of_le hlt hw1.size
    clear hw1 HG HL HA hcell hlt
    go_wp2_with (go_at_call 94; refine (unhide HA1).mono ?_; rintro e w2 ⟨rfl, hw2⟩; subst hw2)
    go_ret2
    exact ⟨rfl, unhide HB1⟩
   | true =>
    rw [Bool.not_true, Bool.false_or]
    by_cases hv : v = 0
    ·subst hv
     rw [hz, if_neg (by simp), Bool.not_false]
     go_enter Tryz.func98, Tryz.ntmps98
     go_wp2_with fail
     refine (unhide HG).mono ?_
     rintro e w1 ⟨rfl, hw1⟩
     have hc1 := (hw1.cell (block_lt_of_cell hcell)).trans hcell
     have hk1 := unhide HL w1 hw1
     have HA1 := hide (unhide HA w1 hw1)
     have HB1 := hide hw1
     have hl1 : b < w1.heap.size := Nat.lt_of_lt_of_le hlt hw1.size
     clear hw1 HG HL HA hcell hlt
     go_wp2_with (go_at_call 94; refine (unhide HA1).mono ?_; rintro e w2 ⟨rfl, hw2⟩; subst hw2)
     go_ret2
     exact ⟨rfl, unhide HB1⟩
    ·have hv' : (v != 0) = true := bne_iff_ne.2 hv
     rw [hv', if_pos rfl, Bool.not_true]
     go_enter Tryz.func98, Tryz.ntmps98
     go_wp2_with fail
     refine (unhide HG).mono ?_
     rintro e w1 ⟨rfl, hw1⟩
     have hc1 := (hw1.cell (block_lt_of_cell hcell)).trans hcell
     have hk1 := unhide HL w1 hw1
     have HA1 := hide (unhide HA w1 hw1)
     have HB1 := hide hw1
     have hl1 : b < w1.heap.size := Nat.lt_of_lt_of_le hlt hw1.size
     clear hw1 HG HL HA hcell hlt
     go_wp2_with (go_at_call 94; refine (unhide HA1).mono ?_; rintro e w2 ⟨rfl, hw2⟩; subst hw2)
     go_ret2
     exact ⟨rfl, unhide HB1⟩
 ·rw [errV_pos _ h0] at HG
  have hz : (c != 0) = true := bne_iff_ne.2 h0
  rw [hz, Bool.true_or, if_pos rfl, Bool.not_true]
  clear hz h0
  go_enter Tryz.func98, Tryz.ntmps98
  go_wp2_with fail
  refine (unhide HG).mono ?_
  rintro e w1 ⟨rfl, hw1⟩
  have hc1 := (hw1.cell (block_lt_of_cell hcell)).trans hcell
  have hk1 := unhide HL w1 hw1
  have HB1 := hide hw1
  have hl1 : b < w1.heap.size := Nat.lt_of_lt_of_le hlt hw1.size
  clear hw1 HG HL HA hcell hlt
  go_wp2_with fail
  go_ret2
  exact ⟨rfl, unhide HB1⟩
theorem readOut_size (l : List Int) : (readOut l).1.size <= l.length := by
 unfold readOut
 split
 ·simp
 ·split
  ·simp
  ·have : (strOf (l.take (lettersN l))).size = (l.take (lettersN l)).length := by
    have h := strOf_data (l.take (lettersN l))
    have h2 := congrArg List.length h
    simpa using h2
   rw [this, List.length_take]
   omega
end Go.Proofs.YtifmemombecoaaaGreatDoor
namespace Go.Proofs.YtifmemombecoaaaGreatDoor
open Go.RowKit
set_option linter.unusedVariables false
end Go.Proofs.YtifmemombecoaaaGreatDoor
namespace Go.Proofs.YtifmemombecoaaaGreatDoor
open Go.RowKit Go.MapKept Go.ChangeMaps
set_option linter.unusedVariables false
def NmM (w : World) (m n : Nat) (ns : List ByteArray) : Prop :=
 ∃ Dm : DataW Unit, w.ownsMap Tryz.prog 9 (plainElem Tryz.prog 3) m n Dm /\ ∀ s : ByteArray, Maps.has Dm (.string s.data.toList) = ns.contains s
theorem NmM.made (w : World) : NmM (w.alloc (.map #[] 0)) w.heap.size 0 [] := ⟨.map [], World.ownsMap_made w _ _ _, fun s => rfl⟩
theorem NmM.lt {w : World} {m n : Nat} {ns : List ByteArray} (h : NmM w m n ns) : m < w.heap.size := by
 obtain ⟨Dm, h1, _⟩ := h
 exact h1.lt
theorem NmM.same {w w' : World} {m n : Nat} {ns : List ByteArray} (h : NmM w m n ns) (hs : w'.heap[m]? = w.heap[m]?) : NmM w' m n ns := by
 obtain ⟨Dm, ⟨es, clock, hb, r⟩, h2⟩ := h
 exact ⟨Dm, ⟨es, clock, hs.trans hb, r⟩, h2⟩
theorem NmM.below {w w' : World} {m n : Nat} {ns : List ByteArray} (h : NmM w m n ns) (hb : Below w.heap.size w w') : NmM w' m n ns := h.same (hb.block m h.lt)
theorem NmM.look {w : World} {m n : Nat} {ns : List ByteArray} (h : NmM w m n ns) (s : ByteArray) (hs : s.size <= maxLen) :
  ∃ v, (Instr.lookup 75 (.map (some m)) (.string s) true).run Tryz.prog w = .ok (.tuple #[.int .i64 v, .bool (ns.contains s)]) w := by
 obtain ⟨Dm, h1, h2⟩ := h
 have hkey := WideMaps.keyOf_string_mk (P := Tryz.prog) Tryz.underlying9 hs
 obtain ⟨v, ps, hrun, hv⟩ := h1.look_ok (Maps.string_keyed Tryz.underlying9) Tryz.underlying75 (zero_num w) (plainElem_int Tryz.underlying3 (a := 0) (by decide)) hkey
 obtain ⟨a, rfl, _⟩ := plainElem_int_inv Tryz.underlying3 hv
 exact ⟨a, by rw [hrun, h2 s]⟩
theorem NmM.store {w : World} {m n : Nat} {ns ns' : List ByteArray} (h : NmM w m n ns) (s : ByteArray) (i : Int) (hs : s.size <= maxLen) (hn : n <= 300) (hi : -9223372036854775808 <= i /\ i <= 9223372036854775807) (hns : ∀ t, ns'.contains t = (ns.contains t || (t == s))) :
  ∃ w', (Instr.mapUpdate 75 (.map (some m)) (.string s) (.int .i64 i)).run Tryz.prog w = .ok () w' /\ NmM w' m (n + 1) ns' /\ w.mapTurned w' m := by
 obtain ⟨Dm, h1, h2⟩ := h
 have hkey := WideMaps.keyOf_string_mk (P := Tryz.prog) Tryz.underlying9 hs
 obtain ⟨w', hrun, hown', ht⟩ := h1.store (Maps.string_keyed Tryz.underlying9) Tryz.underlying75 (by unfold maxLen; omega) hkey (plainElem_int Tryz.underlying3 (a := i) (WalkArith.wf_i64 hi))
 have hlit : WideAt.IsKeyLit (.string s.data.toList) := (Maps.string_keyed Tryz.underlying9).key hkey
 refine ⟨w', hrun, ⟨_, hown', fun t => ?_⟩, ht⟩
 rw [hns t]
 by_cases hj : t = s
 ·subst hj
  rw [Maps.has_put_same h1.isMap hlit, ba_beq.2 rfl, Bool.or_true]
 ·have hne : Lit.string t.data.toList ≠ Lit.string s.data.toList := by
   intro e; simp only [Lit.string.injEq] at e; exact hj (str_inj e)
  have e0 : (t == s) = false := by
   cases hq : (t == s) with
   | false => rfl
   | true => exact absurd (ba_beq.1 hq) hj
  rw [Maps.has_put_other hne, h2 t, e0, Bool.or_false]
theorem nbad_badR {L : List Int} {i : Nat} (hq : lenB L.length = true) (hi : i < 8) :
  nbad (readOut ((rowAt L i).take 8)).2 (isRoot (((rowAt L i).drop 8).take 2)) ((entsK L 40).any (fun e => e.1 == (rowAt L i).getD 10 0)) (mrkV (entsK L 40) (mkV L) ((rowAt L i).getD 10 0)) = badR L i := by
 have hl := lenB_iff.1 hq
 have h11 : (rowAt L i).length = 11 := rowAt_len (by omega)
 have hR : isRoot (((rowAt L i).drop 8).take 2) = (decide ((rowAt L i).getD 8 0 ≠ 0) || decide ((rowAt L i).getD 9 0 ≠ 0)) := by
  have hlen : (((rowAt L i).drop 8).take 2).length = 2 := by simp; omega
  have hg : ∀ j, j < 2 -> (((rowAt L i).drop 8).take 2).getD j 0 = (rowAt L i).getD (8 + j) 0 := fun j hj => by
   simp [List.getD, hj]
  have hz := isRoot_no (l := ((rowAt L i).drop 8).take 2)
  rw [hlen] at hz
  have g0 := hg 0 (by omega)
  have g1 := hg 1 (by omega)
  rw [Nat.add_zero] at g0
  cases hr : isRoot (((rowAt L i).drop 8).take 2) with
  | false =>
   have h0 := hz.1 hr 0 (by omega)
   have h1 := hz.1 hr 1 (by omega)
   rw [g0] at h0
   rw [g1] at h1
   rw [h0, h1]; rfl
  | true =>
   symm
   rw [Bool.or_eq_true, decide_eq_true_iff, decide_eq_true_iff]
   refine Classical.byContradiction fun hn => ?_
   have h8 : (rowAt L i).getD 8 0 = 0 := Classical.byContradiction fun h => hn (.inl h)
   have h9 : (rowAt L i).getD 9 0 = 0 := Classical.byContradiction fun h => hn (.inr h)
   have : isRoot (((rowAt L i).drop 8).take 2) = false := hz.2 (fun j hj => by
    match j, hj with
    | 0, _ => rw [g0]; exact h8
    | 1, _ => rw [g1]; exact h9
    | j + 2, hj => omega)
   rw [this] at hr
   cases hr
 unfold nbad badR mrkV
 rw [hR, any_entsK]
 generalize (rowAt L i).getD 10 0 = x
 have e1 : ∀ c : Int, (c != 0) = decide (c ≠ 0) := fun c => by
  by_cases h : c = 0
  ·subst h; rfl
  ·rw [bne_iff_ne.2 h, decide_eq_true h]
 rw [e1, Bool.or_assoc]
 congr 3
 have hw1 := wh_one (b := L) (h := x)
 have hw0 := wh_zero (b := L) (h := x)
 have hwc := wh_cases L x
 cases hndB x with
 | false => rfl
 | true =>
  rw [Bool.true_and, Bool.not_true, Bool.false_or]
  by_cases ht : tagAt L x = 0
  ·have : whE L x ≠ 1 := by rw [hw0.2 ht]; decide
   rw [ht, decide_eq_true this]; rfl
  ·rw [bne_iff_ne.2 ht, if_pos rfl, Bool.not_true, Bool.false_or, e1]
   unfold mkV
   rcases hwc with h | h | h | h
   ·exact absurd (hw0.1 h) ht
   ·rw [h]; rfl
   ·rw [h]; rfl
   ·rw [h]; rfl
theorem nameOf_any (a : Option Addr) (cap : Nat) (L : List Int) (i m : Nat) (w : World) (hbs : Bs w a cap (rowAt L i)) (hq : lenB L.length = true) (hi : i < 8) (hm : Mrk w m (entsK L 40) (mkV L)) :
  Calls Tryz.prog 98 #[.slice a 11 cap, .map (some m)] w fun e w' => e = .returned (.tuple #[.string (if badR L i = true then { data := #[] } else nameAt L i), .bool (!badR L i)]) /\ Below w.heap.size w w' := by
 have hl := lenB_iff.1 hq
 rw [<- nbad_badR hq hi]
 have hbd := hbs.1.getD 10
 exact nameOf_raw a cap (rowAt L i) m w _ _ _ _ _ hbs (rowAt_len (by omega)) rfl rfl rfl (fun W hW => (hm.below hW).look _ (by omega))
theorem rFK_no {L : List Int} {k : Nat} (h : rFault L k = []) : rFK L (k + 1) = rFK L k := by
 show rFK L k ++ _ = _
 rw [h, List.append_nil]
theorem rFK_one {L : List Int} {k : Nat} {f : Int × Int} (h : rFault L k = [f]) : rFK L (k + 1) = rFK L k ++ [f] := by
 show rFK L k ++ _ = _
 rw [h]
theorem nmsK_no {L : List Int} {k : Nat} (h : fineR L k (nmsK L k) = false) : nmsK L (k + 1) = nmsK L k := by
 show nmsK L k ++ _ = _
 rw [h, if_neg (by simp), List.append_nil]
theorem nmsK_one {L : List Int} {k : Nat} (h : fineR L k (nmsK L k) = true) : nmsK L (k + 1) = nmsK L k ++ [nameAt L k] := by
 show nmsK L k ++ _ = _
 rw [if_pos h]
theorem Lst.base {α : Type} {enc : α -> List Value} {k T : Nat} {w : World} {B B' : Nat} {v : Value} {l : List α} (h : Lst enc k T w B v l) (hb : B' <= B) : Lst enc k T w B' v l := by
 refine ⟨h.1, ?_⟩
 rcases h.2 with h0 | ⟨g, cap, cur, rfl, hB, hc, h3⟩
 ·exact .inl h0
 ·exact .inr ⟨g, cap, cur, rfl, by omega, hc, h3⟩
theorem NmM.more {w : World} {m n n' : Nat} {ns : List ByteArray} (h : NmM w m n ns) (hn : n <= n') : NmM w m n' ns := by
 obtain ⟨Dm, ⟨es, clock, hb, F, hs, r⟩, h2⟩ := h
 exact ⟨Dm, ⟨es, clock, hb, F, by omega, r⟩, h2⟩
theorem cont_in {ns : List ByteArray} {s t : ByteArray} (h : ns.contains s = true) : ns.contains t = (ns.contains t || (t == s)) := by
 by_cases e : t = s
 ·subst e; rw [h]; rfl
 ·have e0 : (t == s) = false := by
   cases hq : (t == s) with
   | false => rfl
   | true => exact absurd (ba_beq.1 hq) e
  rw [e0, Bool.or_false]
theorem cont_new {ns : List ByteArray} {s t : ByteArray} : (ns ++ [s]).contains t = (ns.contains t || (t == s)) := by
 haveI := ba_lawful
 rw [List.contains_eq_any_beq, List.contains_eq_any_beq, List.any_append, List.any_cons, List.any_nil, Bool.or_false]
set_option maxRecDepth 100000 in
set_option maxHeartbeats 4000000 in
theorem fRoots_any (a : Option Addr) (cap : Nat) (L : List Int) (m : Nat) (w : World) (hbs : Bs w a cap L) (hq : lenB L.length = true) (hm : Mrk w m (entsK L 40) (mkV L)) :
  Calls Tryz.prog 69 #[.slice a L.length cap, .map (some m)] w fun r w' => ∃ v, r = .returned v /\ Lst flC 2 86 w' w.heap.size v (rFK L 8) /\ Below w.heap.size w w' := by
 have hl := lenB_iff.1 hq
 obtain ⟨i0, hi0, hz0, hz1, hz2⟩ := info_parts info_flt
 have hbl := hbs.2.2.1
 have HB := hide hbs
 have HM := hide hm
 have HQ := hide hq
 have hmm := @run_makeMap Tryz.prog
 clear hbs hm hq
 go_enter Tryz.func69, Tryz.ntmps69
 go_wp2_with fail
 go_loopw [5, 14] (fun v iv wr => ∃ k : Nat, k <= 8 /\ iv = .int .i64 (k : Int) /\ Lst flC 2 86 wr (w.heap.size + 1) v (rFK L k) /\ NmM wr w.heap.size k (nmsK L k) /\ Below w.heap.size w wr) (fun _ iv _ => 8 - (intOf iv).toNat)
 case atStart => exact ⟨0, by omega, rfl, Lst.nil _ _, NmM.made w, (Below.refl _ _).alloc (Nat.le_refl _) _⟩
 case round =>
  obtain ⟨k, hk, rfl, hown, hnm, hbel⟩ := hrel
  obtain ⟨va, vm, vc, rfl⟩ := hown.shape
  by_cases hlt : k < 8
  ·have HLN := hide (rFK_len L k)
   have HO := hide hown
   have HNN := hide hnm
   have HBEL := hide hbel
   have HH := hide (ofRoot_any k wr hlt)
   have HP := hide (fun (W : World) (hW : Below wr.heap.size wr W) => part_any a cap L (200 + 11 * k) 11 W (((unhide HB).below hbel).below hW) (by omega))
   have HA := hide (fun (W : World) (a' : Option Addr) (c' : Nat) (h : Bs W a' c' (rowAt L k)) => isAny_any a' c' _ W h)
   have HNAME := hide (fun (W : World) (a' : Option Addr) (c' : Nat) (h : Bs W a' c' (rowAt L k)) (hW : Below wr.heap.size wr W) => nameOf_any a' c' L k m W h (unhide HQ) hlt (((unhide HM).below hbel).below hW))
   have hrl : (rowAt L k).length = 11 := rowAt_len (by omega)
   rw [hrl] at HA
   have HRH : Hid ((L.drop (200 + 11 * k)).take 11 = rowAt L k) := hide rfl
   rw [unhide HRH, show ((11 : Nat) : Int) = 11 from rfl] at HP
   clear HRH hrl hown hnm hbel
   have hns : (nameAt L k).size <= maxLen := by
    have := readOut_size ((rowAt L k).take 8)
    unfold nameAt
    rw [List.length_take] at this
    unfold maxLen
    omega
   have hfr : rFault L k = if isRoot (rowAt L k) = false then [] else if badR L k = true then [(4, (k : Int))] else if (nmsK L k).contains (nameAt L k) = true then [(5, (k : Int))] else [] := rfl
   have hfi : fineR L k (nmsK L k) = (isRoot (rowAt L k) && (!badR L k && !(nmsK L k).contains (nameAt L k))) := rfl
   have HF0 := hide (fun h => rFK_no (L := L) (k := k) h)
   have HF1 := hide (fun f h => rFK_one (L := L) (k := k) (f := f) h)
   have HK0 := hide (fun h => nmsK_no (L := L) (k := k) h)
   have HK1 := hide (fun h => nmsK_one (L := L) (k := k) h)
   rw [hfr] at HF0 HF1
   rw [hfi] at HK0 HK1
   clear hfr hfi
   have HCI := hide (fun t => cont_in (ns := nmsK L k) (s := nameAt L k) (t := t))
   generalize hcq : (nmsK L k).contains (nameAt L k) = C at *
   have HCQ := hide hcq
   clear hcq
   generalize isRoot (rowAt L k) = R at *
   generalize badR L k = D at *
   generalize rowAt L k = row at *
   generalize 200 + 11 * k = p at *
   cases R with
   | false =>
    have HE : Hid (rFK L (k + 1) = rFK L k) := hide (unhide HF0 rfl)
    have HG : Hid (nmsK L (k + 1) = nmsK L k) := hide (unhide HK0 rfl)
    clear HF0 HF1 HK0 HK1 HCI HCQ
    go_wp2_with fail
    refine (unhide HH).mono ?_
    rintro e w1 ⟨rfl, hb1⟩
    have HP1 := hide (unhide HP w1 hb1)
    have HB1 := hide hb1
    clear hb1 HH HP
    go_wp2_with fail
    refine (unhide HP1).mono ?_
    rintro e w2 ⟨a2, c2, rfl, hbs2, hb2⟩
    have HA2 := hide (unhide HA w2 a2 c2 hbs2)
    have hB2 := (unhide HB1).trans (hb2.mono (unhide HB1).size)
    have HNM := hide (unhide HNAME w2 a2 c2 hbs2 hB2)
    have HO4 := hide ((unhide HO).below hB2)
    have HN4 := hide ((unhide HNN).below hB2)
    have HB4 := hide ((unhide HBEL).trans (hB2.mono (unhide HBEL).size))
    clear hb2 hbs2 hB2 HP1 HB1 HA HO HBEL HNN HNAME
    go_wp2_with (go_at_call 94; refine (unhide HA2).mono ?_; rintro e w3 ⟨rfl, hw3⟩; subst hw3)
    go_roundw
    case rel => exact ⟨k + 1, by omega, by go_num, by rw [unhide HE]; exact unhide HO4, by rw [unhide HG]; exact (unhide HN4).more (Nat.le_succ _), unhide HB4⟩
    case measure => simp [intOf]; omega
   | true =>
    cases D with
    | true =>
     have HE : Hid (rFK L (k + 1) = rFK L k ++ [(4, (k : Int))]) := hide (unhide HF1 _ rfl)
     have HG : Hid (nmsK L (k + 1) = nmsK L k) := hide (unhide HK0 rfl)
     clear HF0 HF1 HK0 HK1 HCI HCQ
     go_wp2_with fail
     refine (unhide HH).mono ?_
     rintro e w1 ⟨rfl, hb1⟩
     have HP1 := hide (unhide HP w1 hb1)
     have HB1 := hide hb1
     clear hb1 HH HP
     go_wp2_with fail
     refine (unhide HP1).mono ?_
     rintro e w2 ⟨a2, c2, rfl, hbs2, hb2⟩
     have HA2 := hide (unhide HA w2 a2 c2 hbs2)
     have hB2 := (unhide HB1).trans (hb2.mono (unhide HB1).size)
     have HNM := hide (unhide HNAME w2 a2 c2 hbs2 hB2)
     have HO4 := hide ((unhide HO).below hB2)
     have HN4 := hide ((unhide HNN).below hB2)
     have HB4 := hide ((unhide HBEL).trans (hB2.mono (unhide HBEL).size))
     clear hb2 hbs2 hB2 HP1 HB1 HA HO HBEL HNN HNAME
     go_wp2_with (go_at_call 94; refine (unhide HA2).mono ?_; rintro e w3 ⟨rfl, hw3⟩; subst hw3)
     refine (unhide HNM).mono ?_
     rintro e w5 ⟨rfl, hb5⟩
     have HO5 := hide ((unhide HO4).below hb5)
     have HN5 := hide ((unhide HN4).below hb5)
     have HB5 := hide ((unhide HB4).trans (hb5.mono (unhide HB4).size))
     clear HO4 HN4 HB4 hb5 HNM HA2
     have HO4 := HO5
     have HN4 := HN5
     have HB4 := HB5
     clear HO5 HN5 HB5
     have hbA : Below w5.heap.size w5 (w5.alloc (.cells #[.int .i64 4, .int .i64 (k : Int)] 86)) := (Below.refl _ _).alloc (Nat.le_refl _) _
     have HOA := hide ((unhide HO4).below hbA)
     have HNA := hide ((unhide HN4).below hbA)
     have HBA := hide ((unhide HB4).trans (hbA.mono (unhide HB4).size))
     have HGN : Hid ((w5.alloc (.cells #[.int .i64 4, .int .i64 (k : Int)] 86)).heap[w5.heap.size]? = some (.cells (flC (4, (k : Int))).toArray 86 (0, 0))) := hide (heap_alloc_new w5 _)
     have hs4 := (unhide HN4).lt
     clear hbA HO4 HB4 HN4
     go_wp2_with (at_builtin; refine wpList_append_lst rfl _ _ 38 rfl (w.heap.size + 1) i0 (.agg #[.int .i64 0, .int .i64 0]) 16 Tryz.underlying38 hi0 hz0 hz1 hz2 rfl (by decide) (by decide) _ _ rfl (unhide HOA) w5.heap.size (4, (k : Int)) rfl (unhide HGN) rfl (flC_one _) (Nat.le_trans (unhide HLN) (by omega)) (by simp; omega) ?_)
     intro v9 w9 hown9 hbel9
     have hn9 := (unhide HNA).same (hbel9.block _ (Nat.lt_succ_self _))
     have hB9 := (unhide HBA).trans (hbel9.mono (Nat.le_succ _))
     have HO9 := hide hown9
     have HN9 := hide hn9
     have HB9 := hide hB9
     obtain ⟨a9, m9, c9, rfl⟩ := hown9.shape
     clear hown9 hbel9 hn9 hB9 HOA HBA HNA HGN
     go_wp2
     go_roundw
     case rel => exact ⟨k + 1, by omega, by go_num, by rw [unhide HE]; exact unhide HO9, by rw [unhide HG]; exact (unhide HN9).more (Nat.le_succ _), unhide HB9⟩
     case measure => simp [intOf]; omega
    | false =>
     cases C with
     | true =>
      have HE : Hid (rFK L (k + 1) = rFK L k ++ [(5, (k : Int))]) := hide (unhide HF1 _ rfl)
      have HG : Hid (nmsK L (k + 1) = nmsK L k) := hide (unhide HK0 rfl)
      have HST := hide (fun (W : World) (h : NmM W w.heap.size k (nmsK L k)) => h.store (ns' := nmsK L k) (nameAt L k) k hns (by omega) (by omega) (fun t => unhide HCI t rfl))
      have HLK := hide (fun (W : World) (h : NmM W w.heap.size k (nmsK L k)) => h.look (nameAt L k) hns)
      rw [unhide HCQ] at HLK
      clear HF0 HF1 HK0 HK1 HCI HCQ
      generalize nameAt L k = name at *
      go_wp2_with fail
      refine (unhide HH).mono ?_
      rintro e w1 ⟨rfl, hb1⟩
      have HP1 := hide (unhide HP w1 hb1)
      have HB1 := hide hb1
      clear hb1 HH HP
      go_wp2_with fail
      refine (unhide HP1).mono ?_
      rintro e w2 ⟨a2, c2, rfl, hbs2, hb2⟩
      have HA2 := hide (unhide HA w2 a2 c2 hbs2)
      have hB2 := (unhide HB1).trans (hb2.mono (unhide HB1).size)
      have HNM := hide (unhide HNAME w2 a2 c2 hbs2 hB2)
      have HO4 := hide ((unhide HO).below hB2)
      have HN4 := hide ((unhide HNN).below hB2)
      have HB4 := hide ((unhide HBEL).trans (hB2.mono (unhide HBEL).size))
      clear hb2 hbs2 hB2 HP1 HB1 HA HO HBEL HNN HNAME
      go_wp2_with (go_at_call 94; refine (unhide HA2).mono ?_; rintro e w3 ⟨rfl, hw3⟩; subst hw3)
      refine (unhide HNM).mono ?_
      rintro e w5 ⟨rfl, hb5⟩
      have HO5 := hide ((unhide HO4).below hb5)
      have HN5 := hide ((unhide HN4).below hb5)
      have HB5 := hide ((unhide HB4).trans (hb5.mono (unhide HB4).size))
      clear HO4 HN4 HB4 hb5 HNM HA2
      have HO4 := HO5
      have HN4 := HN5
      have HB4 := HB5
      clear HO5 HN5 HB5
      obtain ⟨lv, hlk⟩ := unhide HLK w5 (unhide HN4)
      have hbA : Below w5.heap.size w5 (w5.alloc (.cells #[.int .i64 5, .int .i64 (k : Int)] 86)) := (Below.refl _ _).alloc (Nat.le_refl _) _
      have HOA := hide ((unhide HO4).below hbA)
      have HNA := hide ((unhide HN4).below hbA)
      have HBA := hide ((unhide HB4).trans (hbA.mono (unhide HB4).size))
      have HGN : Hid ((w5.alloc (.cells #[.int .i64 5, .int .i64 (k : Int)] 86)).heap[w5.heap.size]? = some (.cells (flC (5, (k : Int))).toArray 86 (0, 0))) := hide (heap_alloc_new w5 _)
      have hs4 := (unhide HN4).lt
      clear hbA HO4 HB4 HN4
      go_wp2_with (at_builtin; refine wpList_append_lst rfl _ _ 38 rfl (w.heap.size + 1) i0 (.agg #[.int .i64 0, .int .i64 0]) 16 Tryz.underlying38 hi0 hz0 hz1 hz2 rfl (by decide) (by decide) _ _ rfl (unhide HOA) w5.heap.size (5, (k : Int)) rfl (unhide HGN) rfl (flC_one _) (Nat.le_trans (unhide HLN) (by omega)) (by simp; omega) ?_)
      intro v9 w9 hown9 hbel9
      have hn9 := (unhide HNA).same (hbel9.block _ (Nat.lt_succ_self _))
      have hB9 := (unhide HBA).trans (hbel9.mono (Nat.le_succ _))
      obtain ⟨w10, hst, hn10, htn⟩ := unhide HST w9 hn9
      have HB10 := hide (hB9.grown htn.grown hB9.size (fun j hj => by cases hj; exact Nat.le_refl _))
      have HO10 := hide (hown9.turned htn (Nat.lt_succ_self _))
      have HN10 := hide hn10
      obtain ⟨a9, m9, c9, rfl⟩ := hown9.shape
      clear hown9 hbel9 hn9 hB9 HOA HBA HNA HGN htn hn10 HST HLK
      go_wp2
      go_roundw
      case rel => exact ⟨k + 1, by omega, by go_num, by rw [unhide HE]; exact unhide HO10, by rw [unhide HG]; exact unhide HN10, unhide HB10⟩
      case measure => simp [intOf]; omega
     | false =>
      have HE : Hid (rFK L (k + 1) = rFK L k) := hide (unhide HF0 rfl)
      have HG : Hid (nmsK L (k + 1) = nmsK L k ++ [nameAt L k]) := hide (unhide HK1 rfl)
      have HST := hide (fun (W : World) (h : NmM W w.heap.size k (nmsK L k)) => h.store (ns' := nmsK L k ++ [nameAt L k]) (nameAt L k) k hns (by omega) (by omega) (fun t => cont_new))
      have HLK := hide (fun (W : World) (h : NmM W w.heap.size k (nmsK L k)) => h.look (nameAt L k) hns)
      rw [unhide HCQ] at HLK
      clear HF0 HF1 HK0 HK1 HCI HCQ
      generalize nameAt L k = name at *
      go_wp2_with fail
      refine (unhide HH).mono ?_
      rintro e w1 ⟨rfl, hb1⟩
      have HP1 := hide (unhide HP w1 hb1)
      have HB1 := hide hb1
      clear hb1 HH HP
      go_wp2_with fail
      refine (unhide HP1).mono ?_
      rintro e w2 ⟨a2, c2, rfl, hbs2, hb2⟩
      have HA2 := hide (unhide HA w2 a2 c2 hbs2)
      have hB2 := (unhide HB1).trans (hb2.mono (unhide HB1).size)
      have HNM := hide (unhide HNAME w2 a2 c2 hbs2 hB2)
      have HO4 := hide ((unhide HO).below hB2)
      have HN4 := hide ((unhide HNN).below hB2)
      have HB4 := hide ((unhide HBEL).trans (hB2.mono (unhide HBEL).size))
      clear hb2 hbs2 hB2 HP1 HB1 HA HO HBEL HNN HNAME
      go_wp2_with (go_at_call 94; refine (unhide HA2).mono ?_; rintro e w3 ⟨rfl, hw3⟩; subst hw3)
      refine (unhide HNM).mono ?_
      rintro e w5 ⟨rfl, hb5⟩
      have HO5 := hide ((unhide HO4).below hb5)
      have HN5 := hide ((unhide HN4).below hb5)
      have HB5 := hide ((unhide HB4).trans (hb5.mono (unhide HB4).size))
      clear HO4 HN4 HB4 hb5 HNM HA2
      have HO4 := HO5
      have HN4 := HN5
      have HB4 := HB5
      clear HO5 HN5 HB5
      obtain ⟨lv, hlk⟩ := unhide HLK w5 (unhide HN4)
      obtain ⟨w10, hst, hn10, htn⟩ := unhide HST w5 (unhide HN4)
      have HB10 := hide ((unhide HB4).grown htn.grown (unhide HB4).size (fun j hj => by cases hj; exact Nat.le_refl _))
      have HO10 := hide ((unhide HO4).turned htn (Nat.lt_succ_self _))
      have HN10 := hide hn10
      clear HO4 HN4 HB4 htn hn10 HST HLK
      go_wp2
      go_roundw
      case rel => exact ⟨k + 1, by omega, by go_num, by rw [unhide HE]; exact unhide HO10, by rw [unhide HG]; exact unhide HN10, unhide HB10⟩
      case measure => simp [intOf]; omega
  ·obtain rfl : k = 8 := by omega
   have HO := hide (hown.base (Nat.le_succ w.heap.size))
   have HBEL := hide hbel
   clear hown hbel hnm
   go_wp2
   go_ret
   exact ⟨_, rfl, unhide HO, unhide HBEL⟩
end Go.Proofs.YtifmemombecoaaaGreatDoor
