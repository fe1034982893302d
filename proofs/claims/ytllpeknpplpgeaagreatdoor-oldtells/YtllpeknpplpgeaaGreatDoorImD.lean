/-
  Contracts of package image: the bytes of an entry; Put; Drop. (Part of the proofs over package image.)
-/
import Derived.Test.YtllpeknpplpgeaaGreatDoorImC
import Derived.Deep.RegionWith
namespace Go.Proofs.YtllpeknpplpgeaaGreatDoor
open Go.RowKit
set_option linter.unusedVariables false

theorem rowE_put (x a l t : Int) (ht : 0 ≤ t ∧ t ≤ 15) : putK (putK ((zerosB 5).set 0 (t + 1)) 1 a 2) 3 l 2 = rowE (x, a, l, t) := by
  have e : (t + 1) % 256 = t + 1 := by omega
  simp [putK, rowE, zerosB, e]

set_option maxRecDepth 100000 in
set_option maxHeartbeats 1000000 in
theorem entryRow_any (x a l t : Int) (w : World) (ht : 0 ≤ t ∧ t ≤ 15) (ha : 0 ≤ a ∧ a ≤ 65535) (hl : 0 ≤ l ∧ l ≤ 65535) :
    Calls Tryz.prog 74 #[.agg #[.int .i64 x, .int .i64 a, .int .i64 l, .int .i64 t]] w fun e w' => ∃ g, e = .returned (.tuple #[.slice (some ⟨g, 0, none⟩) 5 5, .nilIface]) ∧ Bs w' (some ⟨g, 0, none⟩) 5 (rowE (x, a, l, t)) ∧ Below w.heap.size w w' := by
  obtain ⟨i0, hi, hz0, hz1, hz2⟩ := info_parts info_u8
  have hb0 : Below w.heap.size w (w.alloc (.cells #[.int .i64 x, .int .i64 a, .int .i64 l, .int .i64 t] 47)) := (Below.refl _ _).alloc (Nat.le_refl _) _
  have HEN := hide (EnB.new w (x, a, l, t))
  have HB0 := hide hb0
  clear hb0
  obtain ⟨t1, t2⟩ := ht
  go_enter Tryz.func74, Tryz.ntmps74
  go_wp2_with (at_make; refine wpList_make_u8 rfl _ _ 22 rfl i0 Tryz.underlying22 hi hz0 hz1 hz2 _ _ _ _ 5 rfl rfl rfl rfl (by omega) ?_; intro w2 hk2 hs2 hb2; rw [sz_alloc] at hk2 hs2; have hen := (unhide HEN).below hb2 (by simp); obtain ⟨c0, c1, c2, c3⟩ := hen.cells; have hcl := hk2.cell 0 (by rw [length_zerosB]; omega); have hfz := hk2.frozen 0; have HB2 := hide ((unhide HB0).trans (hb2.mono (by simp))); have HK2 := hide hk2; have HEN2 := hide hen; clear hk2 hb2 hen)
  have hk3 := (unhide HK2).set 0 (t + 1)
  have hb3 : Below w.heap.size w (w2.setCell ⟨w.heap.size + 1, 0, none⟩ (.int .u8 (t + 1))) := (unhide HB2).setCell (by exact Nat.le_succ _) _
  have hen3 : EnB (w2.setCell ⟨w.heap.size + 1, 0, none⟩ (.int .u8 (t + 1))) w.heap.size (x, a, l, t) := (heap_setCell_other _ _ _ _ (by show w.heap.size ≠ w.heap.size + 1; omega)).trans (unhide HEN2)
  clear HK2 HB2 HEN2 HEN HB0 c0 c1 c2 c3 hcl hfz
  generalize w2.setCell ⟨w.heap.size + 1, 0, none⟩ (.int .u8 (t + 1)) = w3 at *
  have hR := rowE_put x a l t ⟨t1, t2⟩
  have hl0 : ((zerosB 5).set 0 (t + 1)).length = 5 := by simp [zerosB]
  have hby : Byt ((zerosB 5).set 0 (t + 1)) := byt_set (byt_zerosB 5) 0 _ (by omega)
  generalize (zerosB 5).set 0 (t + 1) = R0 at *
  have HP1 := hide (put_nat (some ⟨w.heap.size + 1, 0, none⟩) R0.length R0 1 2 a w3 (hk3.bs hby (by omega)) (by omega) (by omega) ha.1 (by show ¬ most ((2 : Nat) : Int) < a; simp [most]; omega) (by omega))
  rw [hl0] at HP1
  obtain ⟨c0, c1, c2, c3⟩ := hen3.cells
  have HEN3 := hide hen3
  have HB3 := hide hb3
  clear hk3 hen3 hb3
  go_wp2_with fail
  refine (unhide HP1).mono ?_
  rintro e w4 ⟨g1, rfl, hg1, hk4, hb4⟩
  have hen4 := (unhide HEN3).below hb4 (unhide HEN3).lt
  have HB4 := hide ((unhide HB3).trans (hb4.mono (unhide HB3).size))
  have hl4 : (putK R0 1 a 2).length = 5 := by rw [length_putK]; exact hl0
  have hby4 : Byt (putK R0 1 a 2) := byt_putK hby 1 a 2
  have HP2 := hide (put_nat (some ⟨g1, 0, none⟩) (putK R0 1 a 2).length (putK R0 1 a 2) 3 2 l w4 (hk4.bs hby4 (by omega)) (by omega) (by omega) hl.1 (by show ¬ most ((2 : Nat) : Int) < l; simp [most]; omega) (by omega))
  rw [hl4] at HP2
  obtain ⟨d0, d1, d2, d3⟩ := hen4.cells
  have HR := hide hR
  have HBY := hide (byt_putK hby4 3 l 2)
  have HL := hide (length_putK (putK R0 1 a 2) 3 l 2)
  clear hk4 hen4 hb4 HP1 HEN3 HB3 c0 c1 c2 c3 hR hby hby4
  generalize putK R0 1 a 2 = R1 at *
  go_wp2_with fail
  refine (unhide HP2).mono ?_
  rintro e w5 ⟨g2, rfl, hg2, hk5, hb5⟩
  have HK5 := hide hk5
  have HB5 := hide ((unhide HB4).trans (hb5.mono (unhide HB4).size))
  clear hk5 hb5 HP2 HB4 d0 d1 d2 d3
  go_wp2
  go_ret2
  have h5 : (putK R1 3 l 2).length = 5 := (unhide HL).trans hl4
  have hbs := (unhide HK5).bs (unhide HBY) (by omega)
  rw [h5, unhide HR] at hbs
  exact ⟨g2, rfl, hbs, unhide HB5⟩

/-- The world in which so many zeros have been made. (A name of its own, so that the walk leaves it standing.) -/
def mkW (w : World) (n : Nat) : World := w.alloc (.cells ((zerosB n).map (Value.int .u8)).toArray 5)
theorem mkW_blk (w : World) (n : Nat) : Blk (mkW w n) w.heap.size (zerosB n) := heap_alloc_new w _
theorem mkW_below (w : World) (n : Nat) : Below w.heap.size w (mkW w n) := (Below.refl _ _).alloc (Nat.le_refl _) _
theorem run_make_u8 (w : World) (n : Nat) (hn : n ≤ 1000000) : Sem.run Tryz.prog (Instr.makeSlice 22 (.int .i64 n) (.int .i64 n)) w = .ok (.slice (some ⟨w.heap.size, 0, none⟩) n n) (mkW w n) := by
  obtain ⟨i0, hi, hz0, hz1, hz2⟩ := info_parts info_u8
  have hrun := run_make (P := Tryz.prog) w 22 5 i0 _ Tryz.underlying22 hi hz0 .i64 .i64 n n (by omega) (by omega) (by rw [hz2]; omega) (by omega)
  rw [hrun, hz1, Nat.mul_one, Int.toNat_natCast]
  unfold mkW
  rw [← made_zeros, Array.toArray_toList]

end Go.Proofs.YtllpeknpplpgeaaGreatDoor
