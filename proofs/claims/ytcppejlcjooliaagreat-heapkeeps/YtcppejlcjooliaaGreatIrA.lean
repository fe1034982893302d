/-
  Contracts of the reference: whether there may be so many bytes, a handle, its entry. (Part of the proofs over package image.)
-/
import Derived.Test.YtcppejlcjooliaaGreatImF
import Derived.Test.YtcppejlcjooliaaGreatRefNumA
namespace Go.Proofs.YtcppejlcjooliaaGreat
open Go.RowKit
set_option linter.unusedVariables false

theorem rImage_any (n : Int) (w : World) :
    Calls Tryz.prog 22 #[.int .i64 n] w fun e w' => e = .returned (.bool (lenB n)) ∧ w = w' := by
  unfold lenB
  by_cases h1 : 288 ≤ n
  · rw [decide_eq_true h1, Bool.true_and]
    go_enter Tryz.func22, Tryz.ntmps22
    go_wp2
    go_ret
    exact ⟨rfl, rfl⟩
  · rw [decide_eq_false h1, Bool.false_and]
    go_enter Tryz.func22, Tryz.ntmps22
    go_wp2
    go_ret
    exact ⟨rfl, rfl⟩
theorem rHandle_any (n : Int) (w : World) :
    Calls Tryz.prog 42 #[.int .i64 n] w fun e w' => e = .returned (.bool (hndB n)) ∧ w = w' := by
  unfold hndB
  by_cases h1 : 1 ≤ n
  · rw [decide_eq_true h1, Bool.true_and]
    go_enter Tryz.func42, Tryz.ntmps42
    go_wp2
    go_ret
    exact ⟨rfl, rfl⟩
  · rw [decide_eq_false h1, Bool.false_and]
    go_enter Tryz.func42, Tryz.ntmps42
    go_wp2
    go_ret
    exact ⟨rfl, rfl⟩

set_option maxHeartbeats 1000000 in
theorem rEntry_any (a : Option Addr) (cap : Nat) (l : List Int) (h : Int) (w : World) (hb : Bs w a cap l) (hl : 288 ≤ l.length) (h1 : 1 ≤ h) (h2 : h ≤ 40) :
    Calls Tryz.prog 27 #[.slice a l.length cap, .int .i64 h] w fun e w' => e = .returned (.tuple #[entV (entOf l h), .bool (tagAt l h != 0)]) ∧ Below w.heap.size w w' := by
  have hp := plc_le h1 h2
  have hpe : ((plc h : Nat) : Int) = 5 * (h - 1) := by unfold plc; omega
  obtain ⟨a1, hs1, hb1⟩ := slice_lohi (P := Tryz.prog) (t := 22) Tryz.underlying22 size_u8 hb (plc h + 1) (plc h + 3) (by omega) (by omega)
  obtain ⟨a2, hs2, hb2⟩ := slice_lohi (P := Tryz.prog) (t := 22) Tryz.underlying22 size_u8 hb (plc h + 3) (plc h + 5) (by omega) (by omega)
  have e1 : plc h + 3 - (plc h + 1) = 2 := by omega
  have e2 : plc h + 5 - (plc h + 3) = 2 := by omega
  rw [e1] at hs1 hb1
  rw [e2] at hs2 hb2
  have l1 : ((l.drop (plc h + 1)).take 2).length = 2 := by simp; omega
  have l2 : ((l.drop (plc h + 3)).take 2).length = 2 := by simp; omega
  have HN1 := hide (fun (W : World) (hW : Below w.heap.size w W) => rNumber a1 _ _ W (hb1.below hW) (by omega))
  have HN2 := hide (fun (W : World) (hW : Below w.heap.size w W) => rNumber a2 _ _ W (hb2.below hW) (by omega))
  rw [l1] at HN1
  rw [l2] at HN2
  have g1 : numOf ((l.drop (plc h + 1)).take 2) = getV l (plc h + 1) 2 := rfl
  have g2 : numOf ((l.drop (plc h + 3)).take 2) = getV l (plc h + 3) 2 := rfl
  rw [g1] at HN1
  rw [g2] at HN2
  obtain ⟨b, off, rfl, hcell⟩ := hb.at (plc h) (by omega)
  have hblt := block_lt_of_cell hcell
  dsimp only at hblt
  have h3 := hb.2.2.1
  have hbd : 0 ≤ tagAt l h ∧ tagAt l h ≤ 255 := hb.1.getD (plc h)
  have ht : l.getD (plc h) 0 = tagAt l h := rfl
  rw [ht] at hcell
  have hcell' : w.cell? ⟨b, off + (5 * (h - 1)).toNat, none⟩ = some (.int .u8 (tagAt l h)) := hcell
  unfold entOf
  have q1 : ((plc h + 1 : Nat) : Int) = (plc h : Int) + 1 := by omega
  have q3 : ((plc h + 3 : Nat) : Int) = (plc h : Int) + 3 := by omega
  have q5 : ((plc h + 5 : Nat) : Int) = (plc h : Int) + 5 := by omega
  rw [q1, q3, hpe] at hs1
  rw [q3, q5, hpe] at hs2
  have hmore : 5 * (h - 1) < (l.length : Int) := by omega
  clear hcell hb hb1 hb2 l1 l2 g1 g2 e1 e2 ht q1 q3 q5
  generalize getV l (plc h + 1) 2 = x at *
  generalize getV l (plc h + 3) 2 = y at *
  generalize tagAt l h = t at *
  generalize plc h = p at *
  generalize l.length = N at *
  go_enter Tryz.func27, Tryz.ntmps27
  go_wp2_with fail
  refine (unhide HN1 _ (((Below.refl _ w).alloc (Nat.le_refl _) _).alloc (by simp) _)).mono ?_
  rintro e w1 ⟨rfl, hw1⟩
  subst hw1
  go_wp2_with fail
  refine (unhide HN2 _ (((Below.refl _ w).alloc (Nat.le_refl _) _).alloc (by simp) _)).mono ?_
  rintro e w1 ⟨rfl, hw1⟩
  subst hw1
  go_wp2_with fail
  go_region
  go_wp2
  have hbl : Below (w.alloc (.cells #[.int .i64 h, .int .i64 x, .int .i64 y, .int .i64 (t - 1)] 56)).heap.size (w.alloc (.cells #[.int .i64 h, .int .i64 x, .int .i64 y, .int .i64 (t - 1)] 56)) (((w.alloc (.cells #[.int .i64 h, .int .i64 x, .int .i64 y, .int .i64 (t - 1)] 56)).alloc (.cells #[.int .i64 h, .int .i64 x, .int .i64 y, .int .i64 (t - 1)] 56)).drew) := ((Below.refl _ _).alloc (Nat.le_refl _) _).drew
  refine bodyPost_ret (results_ent Tryz.results27 _ _ w.heap.size (h, x, y, t - 1) rfl ((EnB.new w (h, x, y, t - 1)).below hbl (by simp))) rfl ?_
  exact ⟨rfl, ((Below.refl _ w).alloc (Nat.le_refl _) _).trans (hbl.mono (by simp))⟩

end Go.Proofs.YtcppejlcjooliaaGreat
