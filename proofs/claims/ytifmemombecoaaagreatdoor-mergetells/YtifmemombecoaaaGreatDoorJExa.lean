/-
  Parts of the proofs, joined by program.
-/
import Derived.Test.YtifmemombecoaaaGreatDoorProg
import Derived.Test.YtifmemombecoaaaGreatDoorJChp
import Derived.Test.YtifmemombecoaaaGreatDoorJNum
import Derived.Shelf.SlSortCmp.QuietGrown
import Derived.Deep.SlicePairs
import Derived.Shelf.SlicesQ.IndexFunc
import Derived.Shelf.SlGeneric
import Derived.Ground.SlgfProg
namespace Go.Proofs.YtifmemombecoaaaGreatDoor
open Go.RowKit Go.Sort
set_option linter.unusedVariables false
def exV (e : (Int × Int)) : Value := .agg #[.int .i64 e.1, .int .i64 e.2]
def InI (e : (Int × Int)) : Prop := (-9223372036854775808 <= e.1 /\ e.1 <= 9223372036854775807) /\ -9223372036854775808 <= e.2 /\ e.2 <= 9223372036854775807
def Sm (e : (Int × Int)) : Prop := (-9000 <= e.1 /\ e.1 <= 9000) /\ -9000 <= e.2 /\ e.2 <= 9000
theorem below_draws {B : Nat} {w w' : World} (h : Below B w w') (n : Nat) : Below B w (w'.drewN n) := by
 induction n with
 | zero => exact h
 | succ n ih => exact ih.drew
theorem grow_below {w : World} {q : Nat} {os : Array Obj} : Below w.heap.size w (grow (w.drewN q) os) := by
 have : ∀ (os : List Obj) (W : World), Below w.heap.size w W -> w.heap.size <= W.heap.size -> Below w.heap.size w (grow W os.toArray) := by
  intro os
  induction os with
  | nil => intro W h _; rw [show grow W #[] = W from grow_empty W]; exact h
  | cons o r ih =>
   intro W h hs
   have e : grow W (o :: r).toArray = grow (W.alloc o) r.toArray := by
    rw [alloc_eq_grow, grow_grow]
    congr 1
    simp
   rw [e]
   refine ih _ (h.alloc hs _) (by simp; omega)
 have h := this os.toList (w.drewN q) (below_draws (Below.refl _ _) q) (Nat.le_refl _)
 simpa using h
def bhd (e : (Int × Int)) : Int := wrap64 (e.1 + e.2)
def overW (a b : (Int × Int)) : Bool := decide (a.1 < bhd b) && decide (b.1 < bhd a)
theorem bhd_sm {e : (Int × Int)} (h : Sm e) : bhd e = e.1 + e.2 := by
 obtain ⟨⟨h1, h2⟩, h3, h4⟩ := h
 unfold bhd wrap64
 omega
theorem overW_sm {a b : (Int × Int)} (ha : Sm a) (hb : Sm b) : overW a b = over a b := by unfold overW over; rw [bhd_sm ha, bhd_sm hb]
theorem behind_w (e : (Int × Int)) (w : World) :
  Calls Tryz.prog 175 #[.agg #[.int .i64 e.1, .int .i64 e.2]] w fun x w' => x = .returned (.int .i64 (bhd e)) /\ ∃ q os, w' = grow (w.drewN q) os := by
 obtain ⟨x, y⟩ := e
 dsimp only
 go_enter Tryz.func175, Tryz.ntmps175
 go_wp2
 go_ret
 exact ⟨rfl, 0, _, by rw [alloc_eq_grow]; rfl⟩
theorem behind_any (e : (Int × Int)) (w : World) (h : Sm e) :
  Calls Tryz.prog 175 #[.agg #[.int .i64 e.1, .int .i64 e.2]] w fun x w' => x = .returned (.int .i64 (e.1 + e.2)) /\ Below w.heap.size w w' :=
 (behind_w e w).mono fun x w' ⟨h1, q, os, h2⟩ => ⟨by rw [h1, bhd_sm h], by rw [h2]; exact grow_below⟩
theorem isThere_any (n : Int) (e : (Int × Int)) (w : World) (h0 : 0 <= n) (hn : n <= 6400) (h : InI e) :
  Calls Tryz.prog 157 #[.int .i64 n, .agg #[.int .i64 e.1, .int .i64 e.2]] w fun x w' => x = .returned (.bool (there n e)) /\ Below w.heap.size w w' := by
 obtain ⟨x, y⟩ := e
 obtain ⟨⟨h1, h2⟩, h3, h4⟩ := h
 dsimp only at *
 unfold there
 dsimp only
 by_cases g1 : 0 <= x
 ·by_cases g2 : 1 <= y
  ·rw [decide_eq_true g1, decide_eq_true g2]
   go_enter Tryz.func157, Tryz.ntmps157
   go_wp2
   go_ret
   exact ⟨rfl, (Below.refl _ _).alloc (Nat.le_refl _) _⟩
  ·rw [decide_eq_true g1, decide_eq_false g2]
   go_enter Tryz.func157, Tryz.ntmps157
   go_wp2
   go_ret
   exact ⟨rfl, (Below.refl _ _).alloc (Nat.le_refl _) _⟩
 ·rw [decide_eq_false g1]
  go_enter Tryz.func157, Tryz.ntmps157
  go_wp2
  go_ret
  exact ⟨rfl, (Below.refl _ _).alloc (Nat.le_refl _) _⟩
theorem cells_two (w : World) (x y : Value) (t : TypeId) (n : Nat) (os : Array Obj) : (grow ((w.alloc (.cells #[x, y] t)).drewN n) os).cell? ⟨w.heap.size, 0, none⟩ = some x /\ (grow ((w.alloc (.cells #[x, y] t)).drewN n) os).cell? ⟨w.heap.size, 1, none⟩ = some y := by
 constructor
 ·refine cell_grown (by simp) ?_ n os
  rw [cell_of_row _ _ _ _ _ (0, 0) (heap_alloc_new w _)]; rfl
 ·refine cell_grown (by simp) ?_ n os
  rw [cell_of_row _ _ _ _ _ (0, 0) (heap_alloc_new w _)]; rfl
theorem cells_two_old (w : World) (x y x' y' : Value) (t : TypeId) (n : Nat) (os : Array Obj) : (grow (((w.alloc (.cells #[x, y] t)).alloc (.cells #[x', y'] t)).drewN n) os).cell? ⟨w.heap.size, 0, none⟩ = some x /\ (grow (((w.alloc (.cells #[x, y] t)).alloc (.cells #[x', y'] t)).drewN n) os).cell? ⟨w.heap.size, 1, none⟩ = some y := by
 have h := cells_two w x y t 0 #[]
 rw [show grow ((w.alloc (.cells #[x, y] t)).drewN 0) #[] = w.alloc (.cells #[x, y] t) from grow_empty _] at h
 refine ⟨cell_grown (by simp; omega) ?_ n os, cell_grown (by simp; omega) ?_ n os⟩
 ·rw [World.cell?_alloc_lt _ _ ⟨w.heap.size, 0, none⟩ (by simp)]; exact h.1
 ·rw [World.cell?_alloc_lt _ _ ⟨w.heap.size, 1, none⟩ (by simp)]; exact h.2
set_option maxRecDepth 100000 in
set_option maxHeartbeats 1000000 in
theorem isOver_w (a b : (Int × Int)) (w : World) :
  Calls Tryz.prog 159 #[.agg #[.int .i64 a.1, .int .i64 a.2], .agg #[.int .i64 b.1, .int .i64 b.2]] w fun x w' => x = .returned (.bool (overW a b)) /\ ∃ q os, w' = grow (w.drewN q) os := by
 have mixed : Tryz.prog.follows .mixedOrders = true := by kernel_rfl
 have ca := fun W => behind_w a W
 have cb := fun W => behind_w b W
 obtain ⟨x, y⟩ := a
 obtain ⟨u, v⟩ := b
 unfold overW
 generalize bhd (x, y) = p at *
 generalize bhd (u, v) = q at *
 have HA := hide ca
 have HB := hide cb
 have l1 := fun n os => (cells_two_old w (.int .i64 x) (.int .i64 y) (.int .i64 u) (.int .i64 v) 58 n os).1
 have l2 := fun n os => (cells_two_old w (.int .i64 x) (.int .i64 y) (.int .i64 u) (.int .i64 v) 58 n os).2
 have l3 := fun n os => (cells_two (w.alloc (.cells #[.int .i64 x, .int .i64 y] 58)) (.int .i64 u) (.int .i64 v) 58 n os).1
 have l4 := fun n os => (cells_two (w.alloc (.cells #[.int .i64 x, .int .i64 y] 58)) (.int .i64 u) (.int .i64 v) 58 n os).2
 rw [show (w.alloc (.cells #[.int .i64 x, .int .i64 y] 58)).heap.size = w.heap.size + 1 by simp] at l3 l4
 clear ca cb
 dsimp only at *
 have hfin : ∀ n os, ∃ q os', grow (((w.alloc (.cells #[.int .i64 x, .int .i64 y] 58)).alloc (.cells #[.int .i64 u, .int .i64 v] 58)).drewN n) os = grow (w.drewN q) os' := fun n os => ⟨n, _, by rw [alloc_eq_grow, alloc_eq_grow, grow_grow]; show grow (grow (w.drewN n) _) os = _; rw [grow_grow]⟩
 have HF := hide hfin
 clear hfin
 by_cases c1 : x < q
 ·rw [decide_eq_true c1, Bool.true_and]
  go_enter Tryz.func159, Tryz.ntmps159
  go_wp2_with fail
  generalize (w.alloc (.cells #[.int .i64 x, .int .i64 y] 58)).alloc (.cells #[.int .i64 u, .int .i64 v] 58) = W at *
  go_quiet_grown (first | (go_at_call 175; first | exact Calls.grown_of (unhide HB _) | exact Calls.grown_of (unhide HA _)))
  go_wp2
  go_ret
  exact ⟨rfl, unhide HF _ _⟩
 ·have dd : decide (x < q) = false := decide_eq_false c1
  rw [dd, Bool.false_and]
  go_enter Tryz.func159, Tryz.ntmps159
  go_wp2_with fail
  generalize (w.alloc (.cells #[.int .i64 x, .int .i64 y] 58)).alloc (.cells #[.int .i64 u, .int .i64 v] 58) = W at *
  go_quiet_grown (first | (go_at_call 175; first | exact Calls.grown_of (unhide HB _) | exact Calls.grown_of (unhide HA _)))
  go_wp2
  go_ret
  exact ⟨rfl, unhide HF _ _⟩
end Go.Proofs.YtifmemombecoaaaGreatDoor
namespace Go.Proofs.YtifmemombecoaaaGreatDoor
open Go.RowKit Go.Sort Go.Shelf
set_option linter.unusedVariables false
def exCont_ren : Ren := { f := fun | 8 => 117 | 6 => 140 | n => n, t := fun | 22 => 159 | 23 => 58 | 25 => 198 | 4 => 4 | 3 => 3 | 0 => 0 | n => n, g := fun n => n }
theorem exCont : SlLaysH0.n8 Tryz.prog exCont_ren := { mixed := by kernel_rfl, f6 := ⟨ "slices.IndexFunc[[]vaultkeel/api.Extent,vaultkeel/api.Extent]", by decide, Tryz.func140.trans rfl⟩, f8 := ⟨ "slices.ContainsFunc[[]vaultkeel/api.Extent,vaultkeel/api.Extent]", by decide, Tryz.func117.trans rfl⟩, t0 := Tryz.underlying0, a0 := Tryz.isAgg0, z0 := Tryz.sizeOf0, v0 := Tryz.zeroValue0, t3 := Tryz.underlying3, a3 := Tryz.isAgg3, z3 := Tryz.sizeOf3, v3 := Tryz.zeroValue3, t4 := Tryz.underlying4, a4 := Tryz.isAgg4, z4 := Tryz.sizeOf4, v4 := Tryz.zeroValue4, t22 := Tryz.underlying159, a22 := Tryz.isAgg159, z22 := Tryz.sizeOf159, v22 := Tryz.zeroValue159, t25 := Tryz.underlying198, a25 := Tryz.isAgg198, z25 := Tryz.sizeOf198, v25 := Tryz.zeroValue198 }
def exC (e : (Int × Int)) : List Value := [.int .i64 e.1, .int .i64 e.2]
def Exs (w : World) (a : Option Addr) (cap : Nat) (l : List (Int × Int)) : Prop :=
 (∀ e ∈ l, InI e) /\ (l.length <= cap /\ (a = none -> cap = 0)) /\ l.length <= 8796093021952 /\ (l ≠ [] -> ∃ b off, a = some ⟨b, off, none⟩ /\ ∀ i, i < l.length -> w.cell? ⟨b, off + i * 2, none⟩ = some (.int .i64 (l.getD i (0, 0)).1) /\ w.cell? ⟨b, off + i * 2 + 1, none⟩ = some (.int .i64 (l.getD i (0, 0)).2))
theorem Exs.below {w w' : World} {a : Option Addr} {cap : Nat} {l : List (Int × Int)} (h : Exs w a cap l) (hb : Below w.heap.size w w') : Exs w' a cap l := by
 obtain ⟨h1, h2, h3, h4⟩ := h
 refine ⟨h1, h2, h3, fun hne => ?_⟩
 obtain ⟨b, off, rfl, hc⟩ := h4 hne
 refine ⟨b, off, rfl, fun i hi => ?_⟩
 obtain ⟨c0, c1⟩ := hc i hi
 exact ⟨(hb.cell (block_lt_of_cell c0)).trans c0, (hb.cell (block_lt_of_cell c1)).trans c1⟩
theorem Exs.inI {w : World} {a : Option Addr} {cap : Nat} {l : List (Int × Int)} (h : Exs w a cap l) (i : Nat) : InI (l.getD i (0, 0)) := by
 by_cases hi : i < l.length
 ·have : l.getD i (0, 0) = l[i] := by simp [List.getD, hi]
  rw [this]; exact h.1 _ (List.getElem_mem hi)
 ·have : l.getD i (0, 0) = (0, 0) := by simp [List.getD, List.getElem?_eq_none (by omega : l.length <= i)]
  rw [this]; unfold InI; decide
theorem sm_there {n : Int} {e : (Int × Int)} (hn : n <= 6400) (h : there n e = true) : Sm e := by
 have := there_iff.1 h
 unfold Sm
 omega
theorem check1_any (e x : (Int × Int)) (g : Nat) (W : World) (c0 : W.cell? ⟨g, 0, none⟩ = some (.int .i64 e.1)) (c1 : W.cell? ⟨g, 1, none⟩ = some (.int .i64 e.2)) :
  Calls Tryz.prog 158 #[.agg #[.int .i64 x.1, .int .i64 x.2], .pointer (some ⟨g, 0, none⟩)] W fun r w' => r = .returned (.bool (overW e x)) /\ Below W.heap.size W w' := by
 have hg := block_lt_of_cell c0
 dsimp only at hg
 have d0 : (W.alloc (.cells #[.int .i64 x.1, .int .i64 x.2] 58)).cell? ⟨g, 0, none⟩ = some (.int .i64 e.1) := by rw [World.cell?_alloc_lt _ _ ⟨g, 0, none⟩ hg]; exact c0
 have d1 : (W.alloc (.cells #[.int .i64 x.1, .int .i64 x.2] 58)).cell? ⟨g, 1, none⟩ = some (.int .i64 e.2) := by rw [World.cell?_alloc_lt _ _ ⟨g, 1, none⟩ hg]; exact c1
 have HO := hide (isOver_w e x (W.alloc (.cells #[.int .i64 x.1, .int .i64 x.2] 58)))
 generalize overW e x = r at *
 clear c0 c1
 go_enter Tryz.func158, Tryz.ntmps158
 go_wp2_with fail
 refine (unhide HO).mono ?_
 rintro e' w1 ⟨rfl, q, os, rfl⟩
 go_wp2
 go_ret
 exact ⟨rfl, ((Below.refl _ W).alloc (Nat.le_refl _) _).trans (grow_below.mono (by simp))⟩
theorem exs_slice_hi {w : World} {b off cap : Nat} {l : List (Int × Int)} (i : Nat) (hi : i <= l.length) (hl : l.length <= cap) (h0 : 0 < cap) (w' : World) :
  (Instr.slice 159 (.slice (some ⟨b, off, none⟩) l.length cap) none (some (.int .i64 i)) none).run Tryz.prog w' = .ok (.slice (some ⟨b, off, none⟩) i cap) w' := by
 have he : Tryz.prog.elem 159 = 58 := by simp [Program.elem, Tryz.underlying159]
 rw [run_slice_h (P := Tryz.prog) (w := w') 159 _ l.length cap (by rw [he]; exact Tryz.underlying159) .i64 i (by omega) (by omega), he, Tryz.sizeOf58 w']
 simp only [Result.andThen, sliced]
 rw [if_neg (by omega)]
 simp [Addr.add]
theorem chkL_step {n : Int} {l : List (Int × Int)} {k : Nat} (hk : k < l.length) : chkL n (l.take k) (l.drop k) = if there n (l.getD k (0, 0)) = false then 1 else if (l.take k).any (over (l.getD k (0, 0))) = true then 7 else chkL n (l.take (k + 1)) (l.drop (k + 1)) := by
 rw [List.drop_eq_getElem_cons hk]
 have e : l.getD k (0, 0) = l[k] := by simp [List.getD, hk]
 rw [e, List.take_succ_eq_append_getElem hk]
 rfl
theorem any_over {n : Int} {e : (Int × Int)} {l : List (Int × Int)} (hn : n <= 6400) (he : there n e = true) (hl : ∀ x ∈ l, there n x = true) : l.any (overW e) = l.any (over e) := by
 induction l with
 | nil => rfl
 | cons x r ih =>
  rw [List.any_cons, List.any_cons, ih (fun y hy => hl y (by simp [hy])), overW_sm (sm_there hn he) (sm_there hn (hl x (by simp)))]
theorem check_big (n : Int) (a : Option Addr) (len cap : Nat) (w : World) (hn : n < 0 \/ 6400 < n) :
  Calls Tryz.prog 141 #[.int .i64 n, .slice a len cap] w fun e w' => e = .returned (errV 1) /\ w = w' := by
 rw [errV_pos 1 (by decide)]
 by_cases h : n < 0
 ·go_enter Tryz.func141, Tryz.ntmps141
  go_wp2
  go_ret
  exact ⟨rfl, rfl⟩
 ·have h2 : 6400 < n := by omega
  go_enter Tryz.func141, Tryz.ntmps141
  go_wp2
  go_ret
  exact ⟨rfl, rfl⟩
theorem check_many (n : Int) (a : Option Addr) (len cap : Nat) (w : World) (h0 : 0 <= n) (hn : n <= 6400) (hl : 200 < len) (hb : len <= 8796093021952) :
  Calls Tryz.prog 141 #[.int .i64 n, .slice a len cap] w fun e w' => e = .returned (errV 4) /\ w = w' := by
 rw [errV_pos 4 (by decide)]
 have g1 : ¬ n < 0 := by omega
 have g2 : ¬ 6400 < n := by omega
 go_enter Tryz.func141, Tryz.ntmps141
 go_wp2
 go_ret
 exact ⟨rfl, rfl⟩
set_option maxHeartbeats 1000000 in
theorem check_few (n : Int) (a : Option Addr) (cap : Nat) (l : List (Int × Int)) (w : World) (hl : Exs w a cap l) (h0 : 0 <= n) (hn : n <= 6400) (hN : l.length <= 200) :
  Calls Tryz.prog 141 #[.int .i64 n, .slice a l.length cap] w fun e w' => e = .returned (errV (chkL n [] l)) /\ Below w.heap.size w w' := by
 have g1 : ¬ n < 0 := by omega
 have g2 : ¬ 6400 < n := by omega
 have g3 : ¬ (200 : Int) < l.length := by omega
 have HL := hide hl
 clear hl
 go_enter Tryz.func141, Tryz.ntmps141
 go_wp2_with fail
 go_loopw [20] (fun v wr => ∃ k : Nat, k <= l.length /\ v = .int .i64 k /\ Below w.heap.size w wr /\ chkL n [] l = chkL n (l.take k) (l.drop k) /\ ∀ e ∈ l.take k, there n e = true) (fun v _ => l.length - (intOf v).toNat)
 case atStart => exact ⟨0, Nat.zero_le _, rfl, Below.refl _ _, by rw [List.take_zero, List.drop_zero], fun e he => by rw [List.take_zero] at he; cases he⟩
 case round =>
  obtain ⟨k, hk, rfl, hbel, hz, hgd⟩ := hrel
  by_cases hlt : k < l.length
  ·have hne : l ≠ [] := by intro e; rw [e] at hlt; simp at hlt
   obtain ⟨b, off, rfl, hcell⟩ := (unhide HL).2.2.2 hne
   obtain ⟨c0, c1⟩ := hcell k hlt
   have hbw := block_lt_of_cell c0
   dsimp only at hbw
   rw [<- hbel.cell (block_lt_of_cell c0)] at c0
   rw [<- hbel.cell (block_lt_of_cell c1)] at c1
   have hin := (unhide HL).inI k
   have hcap := (unhide HL).2.1.1
   have hsl := fun w' => exs_slice_hi (w := w) (b := b) (off := off) k hk hcap (by omega) w'
   rw [chkL_step hlt] at hz
   have hmem : l.getD k (0, 0) = l[k] := by simp [List.getD, hlt]
   have htk : ∀ e ∈ l.take (k + 1), there n (l.getD k (0, 0)) = true -> there n e = true := fun e he hth => by
    rw [List.take_succ_eq_append_getElem hlt] at he
    rcases List.mem_append.1 he with he | he
    ·exact hgd e he
    ·rw [List.mem_singleton.1 he, <- hmem]; exact hth
   have hany : there n (l.getD k (0, 0)) = true -> (l.take k).any (overW (l.getD k (0, 0))) = (l.take k).any (over (l.getD k (0, 0))) := fun hth => any_over hn hth hgd
   have hbA : Below w.heap.size w (wr.alloc (.cells #[.int .i64 (l.getD k (0, 0)).1, .int .i64 (l.getD k (0, 0)).2] 58)) := hbel.alloc hbel.size _
   have HT := hide (isThere_any n (l.getD k (0, 0)) (wr.alloc (.cells #[.int .i64 (l.getD k (0, 0)).1, .int .i64 (l.getD k (0, 0)).2] 58)) h0 hn hin)
   have HC0 : Hid ((wr.alloc (.cells #[.int .i64 (l.getD k (0, 0)).1, .int .i64 (l.getD k (0, 0)).2] 58)).cell? ⟨wr.heap.size, 0, none⟩ = some (.int .i64 (l.getD k (0, 0)).1)) := hide (by rw [cell_of_row _ _ _ _ _ (0, 0) (heap_alloc_new wr _)]; rfl)
   have HC1 : Hid ((wr.alloc (.cells #[.int .i64 (l.getD k (0, 0)).1, .int .i64 (l.getD k (0, 0)).2] 58)).cell? ⟨wr.heap.size, 1, none⟩ = some (.int .i64 (l.getD k (0, 0)).2)) := hide (by rw [cell_of_row _ _ _ _ _ (0, 0) (heap_alloc_new wr _)]; rfl)
   have HCELL := hide hcell
   have HZ := hide hz
   have HTK := hide htk
   have HANY := hide hany
   have HBA := hide hbA
   clear hz htk hany hcell hgd hin hmem hbA hbel hne
   generalize l.getD k (0, 0) = e at *
   cases hth : there n e with
   | false =>
    rw [hth] at HT
    have HE : Hid (chkL n [] l = 1) := hide (by rw [unhide HZ, if_pos hth])
    clear HZ HTK HANY hth
    go_wp2_with fail
    refine (unhide HT).mono ?_
    rintro e' w1 ⟨rfl, hb1⟩
    have HB1 := hide ((unhide HBA).trans (hb1.mono (unhide HBA).size))
    clear hb1
    go_wp2
    go_ret
    exact ⟨by rw [unhide HE]; rfl, unhide HB1⟩
   | true =>
    rw [hth] at HT
    have HTH := hide hth
    clear hth
    go_wp2_with fail
    refine (unhide HT).mono ?_
    rintro e' w1 ⟨rfl, hb1⟩
    have HB1 := hide ((unhide HBA).trans (hb1.mono (unhide HBA).size))
    have hd0 := (hb1.cell (block_lt_of_cell (unhide HC0))).trans (unhide HC0)
    have hd1 := (hb1.cell (block_lt_of_cell (unhide HC1))).trans (unhide HC1)
    have hcon := AnyQ.slices_ContainsFunc exCont 2 Tryz.isAgg58 Tryz.sizeOf58 exC (fun _ => rfl) (overW e) 158 #[.pointer (some ⟨wr.heap.size, 0, none⟩)] (enters_of Tryz.func158 (by kernel_rfl) rfl) b off k cap l w1
     (fun W x hW => (check1_any e x wr.heap.size W ((hW.cell (block_lt_of_cell hd0)).trans hd0) ((hW.cell (block_lt_of_cell hd1)).trans hd1)).mono fun r w' ⟨hr, hbb⟩ => ⟨hr, hW.trans (hbb.mono hW.size)⟩)
     hk (by omega) (by have := (unhide HB1).size; omega)
     (fun j hj i v hv => by
      obtain ⟨q0, q1⟩ := unhide HCELL j hj
      have ej : l[j]! = l.getD j (0, 0) := by simp [List.getD, hj]
      rw [ej] at hv
      match i, hv with
      | 0, hv => obtain rfl := Option.some.inj hv; exact ((unhide HB1).cell (block_lt_of_cell q0)).trans q0
      | 1, hv => obtain rfl := Option.some.inj hv; exact ((unhide HB1).cell (block_lt_of_cell q1)).trans q1
      | i + 2, hv => simp [exC] at hv)
    change Calls Tryz.prog 117 _ _ _ at hcon
    rw [unhide HANY (unhide HTH)] at hcon
    have HCON := hide hcon
    clear hcon hb1 hd0 hd1 HC0 HC1 HT
    have HZ2 : Hid (chkL n [] l = if (l.take k).any (over e) = true then 7 else chkL n (l.take (k + 1)) (l.drop (k + 1))) := hide (by rw [unhide HZ, if_neg (by rw [unhide HTH]; simp)])
    clear HZ HANY
    generalize (l.take k).any (over e) = r at *
    cases r with
    | true =>
     have HE : Hid (chkL n [] l = 7) := hide (by rw [unhide HZ2, if_pos rfl])
     clear HZ2
     go_wp2_with fail
     refine (unhide HCON).mono ?_
     rintro e' w2 ⟨rfl, hb2⟩
     have HB2 := hide ((unhide HB1).trans (hb2.mono (unhide HB1).size))
     clear hb2
     go_wp2
     go_ret
     exact ⟨by rw [unhide HE]; rfl, unhide HB2⟩
    | false =>
     go_wp2_with fail
     refine (unhide HCON).mono ?_
     rintro e' w2 ⟨rfl, hb2⟩
     have HB2 := hide ((unhide HB1).trans (hb2.mono (unhide HB1).size))
     clear hb2
     go_wp2
     go_roundw
     case rel => exact ⟨k + 1, by omega, by go_num, unhide HB2, by rw [unhide HZ2]; simp, fun x hx => unhide HTK x hx (unhide HTH)⟩
     case measure => simp [intOf]; omega
  ·obtain rfl : k = l.length := by omega
   have HE : Hid (chkL n [] l = 0) := hide (by rw [hz, List.drop_eq_nil_of_le (Nat.le_refl _)]; rfl)
   clear hz hgd
   go_wp2
   go_ret
   exact ⟨by rw [unhide HE]; rfl, hbel⟩
theorem check_all (n : Int) (a : Option Addr) (cap : Nat) (l : List (Int × Int)) (w : World) (hl : Exs w a cap l) :
  Calls Tryz.prog 141 #[.int .i64 n, .slice a l.length cap] w fun e w' => e = .returned (errV (chk n l)) /\ Below w.heap.size w w' := by
 unfold chk
 by_cases h1 : n < 0 \/ 6400 < n
 ·rw [if_pos h1]
  exact (check_big n a l.length cap w h1).mono fun e w' ⟨he, hw⟩ => ⟨he, by rw [<- hw]; exact Below.refl _ _⟩
 ·rw [if_neg h1]
  by_cases h2 : 200 < l.length
  ·rw [if_pos h2]
   exact (check_many n a l.length cap w (by omega) (by omega) h2 hl.2.2.1).mono fun e w' ⟨he, hw⟩ => ⟨he, by rw [<- hw]; exact Below.refl _ _⟩
  ·rw [if_neg h2]
   exact check_few n a cap l w hl (by omega) (by omega) (by omega)
end Go.Proofs.YtifmemombecoaaaGreatDoor
