/-
  Contracts of package image: Get; a copy in which bytes are laid. (Part of the proofs over package image.)
-/
import Derived.Test.YtllpeknpplpgeaaGreatDoorImA
import Derived.Test.YtllpeknpplpgeaaGreatDoorOwnV
import Derived.Laws.ResultCell
import Derived.Lib.SliceRun
namespace Go.Proofs.YtllpeknpplpgeaaGreatDoor
open Go.RowKit
set_option linter.unusedVariables false

theorem sz_alloc (w : World) (o : Obj) : (w.alloc o).heap.size = w.heap.size + 1 := by simp
/-- An entry as a value. -/
def entV (e : (Int × Int × Int × Int)) : Value := .agg #[.int .i64 e.1, .int .i64 e.2.1, .int .i64 e.2.2.1, .int .i64 e.2.2.2]
/-- Block g is an entry. -/
def EnB (w : World) (g : Nat) (e : (Int × Int × Int × Int)) : Prop := w.heap[g]? = some (.cells #[.int .i64 e.1, .int .i64 e.2.1, .int .i64 e.2.2.1, .int .i64 e.2.2.2] 47 (0, 0))
section
variable {w : World} {g : Nat} {e : (Int × Int × Int × Int)}
theorem EnB.lt (h : EnB w g e) : g < w.heap.size := (Array.getElem?_eq_some_iff.1 h).1
theorem EnB.cells (h : EnB w g e) : w.cell? ⟨g, 0, none⟩ = some (.int .i64 e.1) ∧ w.cell? ⟨g, 1, none⟩ = some (.int .i64 e.2.1) ∧ w.cell? ⟨g, 2, none⟩ = some (.int .i64 e.2.2.1) ∧ w.cell? ⟨g, 3, none⟩ = some (.int .i64 e.2.2.2) := by
  simp only [cell_of_row _ _ _ _ _ _ h]
  exact ⟨rfl, rfl, rfl, rfl⟩
theorem EnB.fr (h : EnB w g e) (i : Nat) : w.frozen? ⟨g, i, none⟩ = false := frozen_of_row w g i _ _ h
theorem EnB.set (h : EnB w g e) (a b c d : Int) : EnB ((((w.setCell ⟨g, 0, none⟩ (.int .i64 a)).setCell ⟨g, 1, none⟩ (.int .i64 b)).setCell ⟨g, 2, none⟩ (.int .i64 c)).setCell ⟨g, 3, none⟩ (.int .i64 d)) g (a, b, c, d) := by
  have h1 := heap_setCell_same w g 0 _ _ (.int .i64 a) h
  have h2 := heap_setCell_same _ g 1 _ _ (.int .i64 b) h1
  have h3 := heap_setCell_same _ g 2 _ _ (.int .i64 c) h2
  exact heap_setCell_same _ g 3 _ _ (.int .i64 d) h3
theorem EnB.below {w' : World} {B : Nat} (h : EnB w g e) (hb : Below B w w') (hg : g < B) : EnB w' g e := (hb.block g hg).trans h
end
theorem EnB.new (w : World) (e : (Int × Int × Int × Int)) : EnB (w.alloc (.cells #[.int .i64 e.1, .int .i64 e.2.1, .int .i64 e.2.2.1, .int .i64 e.2.2.2] 47)) w.heap.size e := heap_alloc_new w _
theorem size_ent : (Tryz.prog.info? 47).map (·.size) = some 4 := by kernel_rfl
theorem results_ent {fn : Func} {p q : Tmp} (h : fn.results = #[.cell p 47, .tmp q]) (tmps : Array Value) (w : World) (g : Nat) (e : (Int × Int × Int × Int))
    (hp : tmps.getD p undef = .pointer (some ⟨g, 0, none⟩)) (hg : EnB w g e) :
    (results fn tmps).run Tryz.prog w = .ok (.tuple #[entV e, tmps.getD q undef]) w := by
  rw [results_cell_tmp h, hp]
  have := run_loadVar_row (P := Tryz.prog) w g 47 47 _ (0, 0) _ hg Tryz.underlying47 rfl (by rw [size_ent]; rfl)
  simp [asAddr, this, Result.andThen]
  rfl

theorem iGet_no (a : Option Addr) (cap : Nat) (l : List Int) (h : Int) (w : World) (hb : Bs w a cap l) (hc : chkE l h ≠ 0) :
    Calls Tryz.prog 71 #[.slice a l.length cap, .int .i64 h] w fun e w' => e = .returned (.tuple #[entV ent0, errV (chkE l h)]) ∧ Below w.heap.size w w' := by
  have hb0 : Below w.heap.size w (w.alloc (.cells #[.int .i64 0, .int .i64 0, .int .i64 0, .int .i64 0] 47)) := (Below.refl _ _).alloc (Nat.le_refl _) _
  have HC := hide (check_any a cap l h _ (hb.below hb0))
  have HB0 := hide hb0
  rw [errV_pos _ hc] at HC ⊢
  generalize chkE l h = c at *
  generalize l.length = N at *
  clear hb hc hb0
  go_enter Tryz.func71, Tryz.ntmps71
  go_wp2_with fail
  refine (unhide HC).mono ?_
  rintro e w1 ⟨rfl, hw1⟩
  subst hw1
  go_wp2
  refine bodyPost_ret (results_ent Tryz.results71 _ _ w.heap.size ent0 rfl (EnB.new w ent0)) rfl ?_
  exact ⟨rfl, unhide HB0⟩

set_option maxHeartbeats 1000000 in
theorem iGet_yes (a : Option Addr) (cap : Nat) (l : List Int) (h : Int) (w : World) (hb : Bs w a cap l) (hc : chkE l h = 0) :
    Calls Tryz.prog 71 #[.slice a l.length cap, .int .i64 h] w fun e w' => e = .returned (.tuple #[entV (entOf l h), .nilIface]) ∧ Below w.heap.size w w' := by
  obtain ⟨hl0, hh0, ht⟩ := chkE_zero.1 hc
  have hl1 := lenB_iff.1 hl0
  have hh1 := hndB_iff.1 hh0
  have hp := plc_le hh1.1 hh1.2
  have hb0 : Below w.heap.size w (w.alloc (.cells #[.int .i64 0, .int .i64 0, .int .i64 0, .int .i64 0] 47)) := (Below.refl _ _).alloc (Nat.le_refl _) _
  have hb1 := hb.below hb0
  have HC := hide (check_any a cap l h _ hb1)
  rw [hc, errV_zero] at HC
  have HE := hide (entryAt_any h (w.alloc (.cells #[.int .i64 0, .int .i64 0, .int .i64 0, .int .i64 0] 47)) hh1.1 hh1.2)
  obtain ⟨a', hlo, hb2⟩ := slice_lo (P := Tryz.prog) (t := 22) Tryz.underlying22 size_u8 hb1 (plc h) (by omega)
  have hdl : (l.drop (plc h)).length = l.length - plc h := by simp
  have HG1 := hide (get_yes a' (cap - plc h) (l.drop (plc h)) 1 2 _ hb2 (by omega) (by omega) (by omega) (by omega))
  have HG2 := hide (get_yes a' (cap - plc h) (l.drop (plc h)) 3 2 _ hb2 (by omega) (by omega) (by omega) (by omega))
  obtain ⟨b, off, rfl, hcell⟩ := hb2.at 0 (by omega)
  rw [hdl] at HG1 HG2
  have e1 : getV (l.drop (plc h)) (1 : Int).toNat (2 : Int).toNat = getV l (plc h + 1) 2 := by
    unfold getV; rw [List.drop_drop]; rfl
  have e3 : getV (l.drop (plc h)) (3 : Int).toNat (2 : Int).toNat = getV l (plc h + 3) 2 := by
    unfold getV; rw [List.drop_drop]; rfl
  rw [e1] at HG1
  rw [e3] at HG2
  have hc0 : (l.drop (plc h)).getD 0 0 = tagAt l h := by rw [drop_getD, Nat.add_zero]; rfl
  rw [hc0, Nat.add_zero] at hcell
  have hbd := hb.1.getD (plc h)
  have hbd' : 0 ≤ tagAt l h ∧ tagAt l h ≤ 255 := hbd
  have h3 := hb.2.2.1
  have hcap := hb.2.1
  unfold entOf
  have hmore : ((0 : Nat) : Int) < ((l.length - plc h : Nat) : Int) := by omega
  clear hb hb1 hb2 hb0 e1 e3 hc0 hbd hdl ht hc hl0 hh0
  generalize getV l (plc h + 1) 2 = x at *
  generalize getV l (plc h + 3) 2 = y at *
  generalize tagAt l h = t at *
  generalize plc h = p at *
  generalize l.length = N at *
  go_enter Tryz.func71, Tryz.ntmps71
  go_wp2_with fail
  refine (unhide HC).mono ?_
  rintro e w1 ⟨rfl, hw1⟩
  subst hw1
  go_wp2_with fail
  refine (unhide HE).mono ?_
  rintro e w1 ⟨rfl, hw1⟩
  subst hw1
  go_wp2_with fail
  refine (unhide HG1).mono ?_
  rintro e w1 ⟨rfl, hw1⟩
  subst hw1
  go_wp2_with fail
  refine (unhide HG2).mono ?_
  rintro e w1 ⟨rfl, hw1⟩
  subst hw1
  go_wp2
  refine bodyPost_ret (results_ent Tryz.results71 _ _ w.heap.size (h, x, y, t - 1) rfl (EnB.new w (h, x, y, t - 1))) rfl ?_
  exact ⟨rfl, (Below.refl _ _).alloc (Nat.le_refl _) _⟩
theorem iGet_any (a : Option Addr) (cap : Nat) (l : List Int) (h : Int) (w : World) (hb : Bs w a cap l) :
    Calls Tryz.prog 71 #[.slice a l.length cap, .int .i64 h] w fun e w' => e = .returned (.tuple #[entV (getE l h), errV (chkE l h)]) ∧ Below w.heap.size w w' := by
  unfold getE
  by_cases hc : chkE l h = 0
  · rw [if_pos hc, hc, errV_zero]
    exact iGet_yes a cap l h w hb hc
  · rw [if_neg hc]
    exact iGet_no a cap l h w hb hc
end Go.Proofs.YtllpeknpplpgeaaGreatDoor
