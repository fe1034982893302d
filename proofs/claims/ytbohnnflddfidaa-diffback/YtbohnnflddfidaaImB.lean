/-
  Contracts of package image: Get; a copy in which bytes are laid. (Part of the proofs over package image.)
-/
import Derived.Test.YtbohnnflddfidaaImA
import Derived.Test.YtbohnnflddfidaaOwnV
import Derived.Laws.ResultCell
import Derived.Lib.SliceRun
namespace Go.Proofs.Ytbohnnflddfidaa
open Go.RowKit
set_option linter.unusedVariables false

theorem sz_alloc (w : World) (o : Obj) : (w.alloc o).heap.size = w.heap.size + 1 := by simp
/-- An entry as a value. -/
def entV (e : (Int × Int × Int × Int)) : Value := .agg #[.int .i64 e.1, .int .i64 e.2.1, .int .i64 e.2.2.1, .int .i64 e.2.2.2]
/-- Block g is an entry. -/
def EnB (w : World) (g : Nat) (e : (Int × Int × Int × Int)) : Prop := w.heap[g]? = some (.cells #[.int .i64 e.1, .int .i64 e.2.1, .int .i64 e.2.2.1, .int .i64 e.2.2.2] 37 (0, 0))
section
variable {w : World} {g : Nat} {e : (Int × Int × Int × Int)}
theorem EnB.lt (h : EnB w g e) : g < w.heap.size := (Array.getElem?_eq_some_iff.1 h).1
theorem EnB.cells (h : EnB w g e) : w.cell? ⟨g, 0, none⟩ = some (.int .i64 e.1) ∧ w.cell? ⟨g, 1, none⟩ = some (.int .i64 e.2.1) ∧ w.cell? ⟨g, 2, none⟩ = some (.int .i64 e.2.2.1) ∧ w.cell? ⟨g, 3, none⟩ = some (.int .i64 e.2.2.2) := by
  simp only [cell_of_row _ _ _ _ _ _ h]
  exact ⟨rfl, rfl, rfl, rfl⟩
theorem EnB.fr (h : EnB w g e) (i : Nat) : w.frozen? ⟨g, i, none⟩ = false := frozen_of_row w g i _ _ h
theorem EnB.set (h : EnB w g e) (a b c d : Int) : EnB ((((w.setCell ⟨g, 0, none⟩ (.int .i64 a)).setCell ⟨g, 1, none⟩ (.int .i64 b)).setCell ⟨g, 2, none⟩ (.int .i64 c)).setCell ⟨g, 3, none⟩ (.int .i64 d)) g (a, b, c, d) := by
  have h1 := heap_setCell_same w g 0 _ _ (.int .i64 a) h
  have h2 := heap_setCell_same _ g 1 _ _ (.int .i64 b) h1
  have h3 := heap_setCell_same _ g 2 _ _ (.int .i64 c) h2
  exact heap_setCell_same _ g 3 _ _ (.int .i64 d) h3
theorem EnB.below {w' : World} {B : Nat} (h : EnB w g e) (hb : Below B w w') (hg : g < B) : EnB w' g e := (hb.block g hg).trans h
end
theorem EnB.new (w : World) (e : (Int × Int × Int × Int)) : EnB (w.alloc (.cells #[.int .i64 e.1, .int .i64 e.2.1, .int .i64 e.2.2.1, .int .i64 e.2.2.2] 37)) w.heap.size e := heap_alloc_new w _
theorem size_ent : (Try.prog.info? 37).map (·.size) = some 4 := by kernel_rfl
theorem results_ent {fn : Func} {p q : Tmp} (h : fn.results = #[.cell p 37, .tmp q]) (tmps : Array Value) (w : World) (g : Nat) (e : (Int × Int × Int × Int))
    (hp : tmps.getD p undef = .pointer (some ⟨g, 0, none⟩)) (hg : EnB w g e) :
    (results fn tmps).run Try.prog w = .ok (.tuple #[entV e, tmps.getD q undef]) w := by
  rw [results_cell_tmp h, hp]
  have := run_loadVar_row (P := Try.prog) w g 37 37 _ (0, 0) _ hg Try.underlying37 rfl (by rw [size_ent]; rfl)
  simp [asAddr, this, Result.andThen]
  rfl

end Go.Proofs.Ytbohnnflddfidaa
