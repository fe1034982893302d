/-
  Extents in memory; the small functions of package extent. (Part of the proofs over package extent.)
-/
import Derived.Test.YtfbloliakmehbaaGreatProg
import Derived.Test.YtfbloliakmehbaaGreatJChp
import Derived.Test.YtfbloliakmehbaaGreatJNum
import Derived.Shelf.SlSortCmp.QuietGrown
import Derived.Deep.SlicePairs
namespace Go.Proofs.YtfbloliakmehbaaGreat
open Go.RowKit Go.Sort
set_option linter.unusedVariables false

/-- An extent as a value. -/
def exV (e : (Int × Int)) : Value := .agg #[.int .i64 e.1, .int .i64 e.2]
/-- Both numbers are ints. -/
def InI (e : (Int × Int)) : Prop := (-9223372036854775808 ≤ e.1 ∧ e.1 ≤ 9223372036854775807) ∧ -9223372036854775808 ≤ e.2 ∧ e.2 ≤ 9223372036854775807
/-- Both numbers are small. -/
def Sm (e : (Int × Int)) : Prop := (-9000 ≤ e.1 ∧ e.1 ≤ 9000) ∧ -9000 ≤ e.2 ∧ e.2 ≤ 9000

theorem below_draws {B : Nat} {w w' : World} (h : Below B w w') (n : Nat) : Below B w (w'.drewN n) := by
  induction n with
  | zero => exact h
  | succ n ih => exact ih.drew
theorem grow_below {w : World} {q : Nat} {os : Array Obj} : Below w.heap.size w (grow (w.drewN q) os) := by
  have : ∀ (os : List Obj) (W : World), Below w.heap.size w W → w.heap.size ≤ W.heap.size → Below w.heap.size w (grow W os.toArray) := by
    intro os
    induction os with
    | nil => intro W h _; rw [show grow W #[] = W from grow_empty W]; exact h
    | cons o r ih =>
      intro W h hs
      have e : grow W (o :: r).toArray = grow (W.alloc o) r.toArray := by
        rw [alloc_eq_grow, grow_grow]
        congr 1
        simp
      rw [e]
      refine ih _ (h.alloc hs _) (by simp; omega)
  have h := this os.toList (w.drewN q) (below_draws (Below.refl _ _) q) (Nat.le_refl _)
  simpa using h

/-- The first byte behind an extent, as the machine adds up. -/
def bhd (e : (Int × Int)) : Int := wrap64 (e.1 + e.2)
def overW (a b : (Int × Int)) : Bool := decide (a.1 < bhd b) && decide (b.1 < bhd a)
theorem bhd_sm {e : (Int × Int)} (h : Sm e) : bhd e = e.1 + e.2 := by
  obtain ⟨⟨h1, h2⟩, h3, h4⟩ := h
  unfold bhd wrap64
  omega
theorem overW_sm {a b : (Int × Int)} (ha : Sm a) (hb : Sm b) : overW a b = over a b := by unfold overW over; rw [bhd_sm ha, bhd_sm hb]
theorem behind_w (e : (Int × Int)) (w : World) :
    Calls Tryz.prog 204 #[.agg #[.int .i64 e.1, .int .i64 e.2]] w fun x w' => x = .returned (.int .i64 (bhd e)) ∧ ∃ q os, w' = grow (w.drewN q) os := by
  obtain ⟨x, y⟩ := e
  dsimp only
  go_enter Tryz.func204, Tryz.ntmps204
  go_wp2
  go_ret
  exact ⟨rfl, 0, _, by rw [alloc_eq_grow]; rfl⟩
theorem behind_any (e : (Int × Int)) (w : World) (h : Sm e) :
    Calls Tryz.prog 204 #[.agg #[.int .i64 e.1, .int .i64 e.2]] w fun x w' => x = .returned (.int .i64 (e.1 + e.2)) ∧ Below w.heap.size w w' :=
  (behind_w e w).mono fun x w' ⟨h1, q, os, h2⟩ => ⟨by rw [h1, bhd_sm h], by rw [h2]; exact grow_below⟩

theorem isThere_any (n : Int) (e : (Int × Int)) (w : World) (h0 : 0 ≤ n) (hn : n ≤ 6400) (h : InI e) :
    Calls Tryz.prog 243 #[.int .i64 n, .agg #[.int .i64 e.1, .int .i64 e.2]] w fun x w' => x = .returned (.bool (there n e)) ∧ Below w.heap.size w w' := by
  obtain ⟨x, y⟩ := e
  obtain ⟨⟨h1, h2⟩, h3, h4⟩ := h
  dsimp only at *
  unfold there
  dsimp only
  by_cases g1 : 0 ≤ x
  · by_cases g2 : 1 ≤ y
    · rw [decide_eq_true g1, decide_eq_true g2]
      go_enter Tryz.func243, Tryz.ntmps243
      go_wp2
      go_ret
      exact ⟨rfl, (Below.refl _ _).alloc (Nat.le_refl _) _⟩
    · rw [decide_eq_true g1, decide_eq_false g2]
      go_enter Tryz.func243, Tryz.ntmps243
      go_wp2
      go_ret
      exact ⟨rfl, (Below.refl _ _).alloc (Nat.le_refl _) _⟩
  · rw [decide_eq_false g1]
    go_enter Tryz.func243, Tryz.ntmps243
    go_wp2
    go_ret
    exact ⟨rfl, (Below.refl _ _).alloc (Nat.le_refl _) _⟩

/-- A block of two cells that was laid last, and all that grew since. -/
theorem cells_two (w : World) (x y : Value) (t : TypeId) (n : Nat) (os : Array Obj) : (grow ((w.alloc (.cells #[x, y] t)).drewN n) os).cell? ⟨w.heap.size, 0, none⟩ = some x ∧ (grow ((w.alloc (.cells #[x, y] t)).drewN n) os).cell? ⟨w.heap.size, 1, none⟩ = some y := by
  constructor
  · refine cell_grown (by simp) ?_ n os
    rw [cell_of_row _ _ _ _ _ (0, 0) (heap_alloc_new w _)]; rfl
  · refine cell_grown (by simp) ?_ n os
    rw [cell_of_row _ _ _ _ _ (0, 0) (heap_alloc_new w _)]; rfl
theorem cells_two_old (w : World) (x y x' y' : Value) (t : TypeId) (n : Nat) (os : Array Obj) : (grow (((w.alloc (.cells #[x, y] t)).alloc (.cells #[x', y'] t)).drewN n) os).cell? ⟨w.heap.size, 0, none⟩ = some x ∧ (grow (((w.alloc (.cells #[x, y] t)).alloc (.cells #[x', y'] t)).drewN n) os).cell? ⟨w.heap.size, 1, none⟩ = some y := by
  have h := cells_two w x y t 0 #[]
  rw [show grow ((w.alloc (.cells #[x, y] t)).drewN 0) #[] = w.alloc (.cells #[x, y] t) from grow_empty _] at h
  refine ⟨cell_grown (by simp; omega) ?_ n os, cell_grown (by simp; omega) ?_ n os⟩
  · rw [World.cell?_alloc_lt _ _ ⟨w.heap.size, 0, none⟩ (by simp)]; exact h.1
  · rw [World.cell?_alloc_lt _ _ ⟨w.heap.size, 1, none⟩ (by simp)]; exact h.2

set_option maxRecDepth 100000 in
set_option maxHeartbeats 1000000 in
theorem isOver_w (a b : (Int × Int)) (w : World) :
    Calls Tryz.prog 245 #[.agg #[.int .i64 a.1, .int .i64 a.2], .agg #[.int .i64 b.1, .int .i64 b.2]] w fun x w' => x = .returned (.bool (overW a b)) ∧ ∃ q os, w' = grow (w.drewN q) os := by
  have mixed : Tryz.prog.follows .mixedOrders = true := by kernel_rfl
  have ca := fun W => behind_w a W
  have cb := fun W => behind_w b W
  obtain ⟨x, y⟩ := a
  obtain ⟨u, v⟩ := b
  unfold overW
  generalize bhd (x, y) = p at *
  generalize bhd (u, v) = q at *
  have HA := hide ca
  have HB := hide cb
  have l1 := fun n os => (cells_two_old w (.int .i64 x) (.int .i64 y) (.int .i64 u) (.int .i64 v) 68 n os).1
  have l2 := fun n os => (cells_two_old w (.int .i64 x) (.int .i64 y) (.int .i64 u) (.int .i64 v) 68 n os).2
  have l3 := fun n os => (cells_two (w.alloc (.cells #[.int .i64 x, .int .i64 y] 68)) (.int .i64 u) (.int .i64 v) 68 n os).1
  have l4 := fun n os => (cells_two (w.alloc (.cells #[.int .i64 x, .int .i64 y] 68)) (.int .i64 u) (.int .i64 v) 68 n os).2
  rw [show (w.alloc (.cells #[.int .i64 x, .int .i64 y] 68)).heap.size = w.heap.size + 1 by simp] at l3 l4
  clear ca cb
  dsimp only at *
  have hfin : ∀ n os, ∃ q os', grow (((w.alloc (.cells #[.int .i64 x, .int .i64 y] 68)).alloc (.cells #[.int .i64 u, .int .i64 v] 68)).drewN n) os = grow (w.drewN q) os' := fun n os => ⟨n, _, by rw [alloc_eq_grow, alloc_eq_grow, grow_grow]; show grow (grow (w.drewN n) _) os = _; rw [grow_grow]⟩
  have HF := hide hfin
  clear hfin
  by_cases c1 : x < q
  · rw [decide_eq_true c1, Bool.true_and]
    go_enter Tryz.func245, Tryz.ntmps245
    go_wp2_with fail
    generalize (w.alloc (.cells #[.int .i64 x, .int .i64 y] 68)).alloc (.cells #[.int .i64 u, .int .i64 v] 68) = W at *
    go_quiet_grown (first | (go_at_call 204; first | exact Calls.grown_of (unhide HB _) | exact Calls.grown_of (unhide HA _)))
    go_wp2
    go_ret
    exact ⟨rfl, unhide HF _ _⟩
  · have dd : decide (x < q) = false := decide_eq_false c1
    rw [dd, Bool.false_and]
    go_enter Tryz.func245, Tryz.ntmps245
    go_wp2_with fail
    generalize (w.alloc (.cells #[.int .i64 x, .int .i64 y] 68)).alloc (.cells #[.int .i64 u, .int .i64 v] 68) = W at *
    go_quiet_grown (first | (go_at_call 204; first | exact Calls.grown_of (unhide HB _) | exact Calls.grown_of (unhide HA _)))
    go_wp2
    go_ret
    exact ⟨rfl, unhide HF _ _⟩
end Go.Proofs.YtfbloliakmehbaaGreat
