/-
  Contracts of package check: a copy without what has a fault. (Part of the proofs over package check.)
-/
import Derived.Test.YtccailoccgbehaaGreatDoorChA
namespace Go.Proofs.YtccailoccgbehaaGreatDoor
open Go.RowKit
set_option linter.unusedVariables false

/-- 'clear' of a part of a row of bytes. -/
theorem run_clear_u8 {P : Program} (w : World) (dT ty : TypeId) (hu : P.underlying dT = some (.slice 5)) (hz : ∀ w, (zeroValue 5).run P w = .ok (.int .u8 0) w)
    (B g off n dCap c : Nat) (cur : Array Value) (z : List Int) (h0 : 0 < n) (hfit : off + n ≤ z.length) (hg : Row w B g c cur z) :
    (Builtin.clear_ #[dT] ty #[.slice (some ⟨g, off, none⟩) n dCap]).run P w = .ok (.tuple #[]) (laidW w g cur off (zerosB n)) := by
  obtain ⟨h1, h2, h3, h4, h5⟩ := hg
  have hst := run_storeCells_at P g off 5 ((zerosB n).map (Value.int .u8)) 0 cur w h2 (by simp [length_zerosB]; omega) (oneCell_u8 _)
  have hzc : (Builtin.zeroCells (Value.int .u8 0).cells n).toList = (zerosB n).map (Value.int .u8) := by
    simp [Builtin.zeroCells, Value.cells, zerosB, List.map_replicate]
    rw [List.eq_replicate_iff]
    simp [Nat.mod_one]
  obtain ⟨m, rfl⟩ : ∃ m, n = m + 1 := ⟨n - 1, by omega⟩
  have hst' : (storeCells ⟨g, off, none⟩ ((zerosB (m + 1)).map (Value.int .u8))).run P w = .ok () (laidW w g cur off (zerosB (m + 1))) := by
    rw [laidW]
    simpa [splice] using hst
  simp only [Builtin.clear_, run_underlying hu, hz, hzc, hst', Sem.run_bind, Sem.run_pure, Result.andThen, List.getElem?_toArray, List.getElem?_cons_zero]
theorem zero_u8 (w : World) : (zeroValue 5).run Tryz.prog w = .ok (.int .u8 0) w := by
  have h : (Tryz.prog.info? 5).map (fun i => (i.zero, i.size, i.bytes)) = some (some (.int .u8 0), 1, 1) := by kernel_rfl
  obtain ⟨i0, hi, hz0, hz1, hz2⟩ := info_parts h
  simp [zeroValue, typeInfo, hi, hz0]
/-! ### where what has a fault stands -/
def flC (f : Int × Int) : List Value := [.int .i64 f.1, .int .i64 f.2]
theorem flC_len (f : Int × Int) : (flC f).length = 2 := rfl
theorem flC_one (f : Int × Int) : ∀ u ∈ flC f, u.oneCell' = true := by
  intro u hu
  unfold flC at hu
  rcases List.mem_cons.1 hu with rfl | hu
  · rfl
  rw [List.mem_singleton.1 hu]
  rfl
theorem info_flt : (Tryz.prog.info? 47).map (fun i => (i.zero, i.size, i.bytes)) = some (some (.agg #[.int .i64 0, .int .i64 0]), 2, 16) := by kernel_rfl
theorem Sls.flt {w : World} {b off cap : Nat} {l : List (Int × Int)} (hc : ∀ i x, l[i]? = some x → ∀ j u, (flC x)[j]? = some u → w.cell? ⟨b, off + i * 2 + j, none⟩ = some u) {i : Nat} {e : (Int × Int)} (h : l[i]? = some e) :
    w.cell? ⟨b, off + i * 2, none⟩ = some (.int .i64 e.1) ∧ w.cell? ⟨b, off + i * 2 + 1, none⟩ = some (.int .i64 e.2) :=
  ⟨hc i e h 0 _ rfl, hc i e h 1 _ rfl⟩
/-- A fault as Check tells it. -/
def FaultIn (f : Int × Int) : Prop := FaultOk f ∧ f.1 ≤ 5
theorem faults_in {b : List Int} {f : Int × Int} (hf : f ∈ faults b) : FaultIn f := by
  refine ⟨faults_ok hf, ?_⟩
  unfold faults at hf
  rcases List.mem_append.1 hf with hf | hf
  · obtain ⟨j, hj, hf⟩ := mem_hFK.1 hf
    have := hFault_mem hf
    omega
  · obtain ⟨j, hj, hf⟩ := mem_rFK.1 hf
    have := rFault_mem hf
    omega
/-- Where its bytes stand, and how many there are. -/
def pOf (f : Int × Int) : Nat := if 3 < f.1 then 200 + 11 * f.2.toNat else plc f.2
def nOf (f : Int × Int) : Nat := if 3 < f.1 then 11 else 5
theorem wipeF_eq (b : List Int) (f : Int × Int) : wipeF b f = splice b (pOf f) (zerosB (nOf f)) := by
  unfold wipeF pOf nOf
  by_cases h : 3 < f.1
  · rw [if_pos h, if_pos h, if_pos h]
  · rw [if_neg h, if_neg h, if_neg h]
theorem nOf_fit {f : Int × Int} (hf : FaultIn f) : 0 < nOf f ∧ pOf f + nOf f ≤ 288 := by
  unfold pOf nOf
  rcases hf.1 with ⟨h1, h2, h3⟩ | ⟨h1, h2, h3⟩
  · have := plc_le h2 h3
    rw [if_neg (by omega), if_neg (by omega)]
    omega
  · rw [if_pos h1, if_pos h1]
    omega
/-- Block g is an extent. -/
def ExtB (w : World) (g : Nat) (x n : Int) : Prop := w.heap[g]? = some (.cells #[.int .i64 x, .int .i64 n] 41 (0, 0))
theorem ExtB.cells {w : World} {g : Nat} {x n : Int} (h : ExtB w g x n) : w.cell? ⟨g, 0, none⟩ = some (.int .i64 x) ∧ w.cell? ⟨g, 1, none⟩ = some (.int .i64 n) := by
  simp only [cell_of_row _ _ _ _ _ _ h]
  exact ⟨rfl, rfl⟩
theorem ExtB.set {w : World} {g : Nat} {x n : Int} (h : ExtB w g x n) (y m : Int) : ExtB ((w.setCell ⟨g, 0, none⟩ (.int .i64 y)).setCell ⟨g, 1, none⟩ (.int .i64 m)) g y m := by
  have h1 := heap_setCell_same w g 0 _ _ (.int .i64 y) h
  exact heap_setCell_same _ g 1 _ _ (.int .i64 m) h1
theorem placeOf_any (f : Int × Int) (w : World) (hf : FaultIn f) :
    Calls Tryz.prog 49 #[.agg #[.int .i64 f.1, .int .i64 f.2]] w fun e w' => e = .returned (.agg #[.int .i64 (pOf f : Nat), .int .i64 (nOf f : Nat)]) ∧ Below w.heap.size w w' := by
  obtain ⟨x, y⟩ := f
  have hb0 : Below w.heap.size w ((w.alloc (.cells #[.int .i64 x, .int .i64 y] 47)).alloc (.cells #[.int .i64 0, .int .i64 0] 41)) := ((Below.refl _ w).alloc (Nat.le_refl _) _).alloc (by simp) _
  have HB0 := hide hb0
  have hn : ((w.alloc (.cells #[.int .i64 x, .int .i64 y] 47)).alloc (.cells #[.int .i64 0, .int .i64 0] 41)).heap[w.heap.size + 1]? = some (.cells #[.int .i64 0, .int .i64 0] 41 (0, 0)) := by
    have := heap_alloc_new (w.alloc (.cells #[.int .i64 x, .int .i64 y] 47)) (.cells #[.int .i64 0, .int .i64 0] 41)
    rw [sz_alloc] at this
    exact this
  have HN := hide hn
  unfold pOf nOf
  rcases hf.1 with ⟨h1, h2, h3⟩ | ⟨h1, h2, h3⟩
  · dsimp only at h1 h2 h3 ⊢
    rw [if_neg (by omega), if_neg (by omega)]
    have HP := hide (ofHandle_any y ((w.alloc (.cells #[.int .i64 x, .int .i64 y] 47)).alloc (.cells #[.int .i64 0, .int .i64 0] 41)) h2 h3)
    have e4 : (x == 4) = false := by rw [beq_eq_false_iff_ne]; omega
    have e5 : (x == 5) = false := by rw [beq_eq_false_iff_ne]; omega
    generalize plc y = p at *
    clear hn hb0 hf h1 h2 h3
    go_enter Tryz.func49, Tryz.ntmps49
    go_wp2_with fail
    refine (unhide HP).mono ?_
    rintro e w1 ⟨rfl, hb1⟩
    have hro : ExtB w1 (w.heap.size + 1) 0 0 := (hb1.block _ (by simp)).trans (unhide HN)
    obtain ⟨c0, c1⟩ := hro.cells
    have f0 := frozen_of_row _ _ 0 _ _ hro
    have f1 := frozen_of_row _ _ 1 _ _ hro
    have HRO := hide hro
    have HB1 := hide ((unhide HB0).trans (hb1.mono (unhide HB0).size))
    clear hro hb1 HB0 HN HP
    go_wp2
    refine bodyPost_ret (results_cell_row rfl _ _ (w.heap.size + 1) 41 _ (0, 0) _ rfl ((unhide HRO).set p 5) Tryz.underlying41 rfl (by rw [size_ext]; rfl)) rfl ?_
    exact ⟨rfl, ((unhide HB1).setCell (by simp) _).setCell (by simp) _⟩
  · dsimp only at h1 h2 h3 ⊢
    rw [if_pos h1, if_pos h1]
    obtain ⟨I, rfl⟩ := Int.eq_ofNat_of_zero_le h2
    rw [Int.toNat_natCast]
    have HP := hide (ofRoot_any I ((w.alloc (.cells #[.int .i64 x, .int .i64 (I : Int)] 47)).alloc (.cells #[.int .i64 0, .int .i64 0] 41)) (by omega))
    have hx : x = 4 ∨ x = 5 := by have := hf.2; dsimp only at this; omega
    generalize 200 + 11 * I = p at *
    generalize (I : Int) = y at *
    clear hn hb0 hf h1 h2 h3
    rcases hx with rfl | rfl
    all_goals
      go_enter Tryz.func49, Tryz.ntmps49
      go_wp2_with fail
      refine (unhide HP).mono ?_
      rintro e w1 ⟨rfl, hb1⟩
      have hro : ExtB w1 (w.heap.size + 1) 0 0 := (hb1.block _ (by simp)).trans (unhide HN)
      obtain ⟨c0, c1⟩ := hro.cells
      have f0 := frozen_of_row _ _ 0 _ _ hro
      have f1 := frozen_of_row _ _ 1 _ _ hro
      have HRO := hide hro
      have HB1 := hide ((unhide HB0).trans (hb1.mono (unhide HB0).size))
      clear hro hb1 HB0 HN HP
      go_wp2
      refine bodyPost_ret (results_cell_row rfl _ _ (w.heap.size + 1) 41 _ (0, 0) _ rfl ((unhide HRO).set p 11) Tryz.underlying41 rfl (by rw [size_ext]; rfl)) rfl ?_
      exact ⟨rfl, ((unhide HB1).setCell (by simp) _).setCell (by simp) _⟩

set_option maxHeartbeats 1000000 in
theorem without_any (a : Option Addr) (cap : Nat) (b : List Int) (fa : Option Addr) (fc : Nat) (l : List (Int × Int)) (w : World) (hbs : Bs w a cap b) (hfs : Sls flC 2 w fa fc l) (hb : 288 ≤ b.length) (hin : ∀ f ∈ l, FaultIn f) :
    Calls Tryz.prog 27 #[.slice a b.length cap, .slice fa l.length fc] w fun e w' => ∃ g c, e = .returned (.slice (some ⟨g, 0, none⟩) b.length c) ∧ Own w' w.heap.size g c (wipes b l) ∧ Below w.heap.size w w' := by
  have HC := hide (clone_u8 a cap b w hbs (by intro e; rw [e] at hb; simp at hb))
  have hbl := hbs.2.2.1
  have hfl := hfs.2.2.1
  have HFS := hide hfs
  have HIN := hide hin
  clear hbs hfs hin
  go_enter Tryz.func27, Tryz.ntmps27
  go_wp2_with fail
  refine (unhide HC).mono ?_
  rintro e w1 ⟨g, c, rfl, hown, hb1⟩
  have HO1 := hide hown
  have HB1 := hide hb1
  have hcm : b.length ≤ c ∧ c ≤ maxLen := by
    rcases hown.2 with ⟨h', _⟩ | ⟨g', cap', cur, h', hb, h2, h3, h4, h5, h6⟩
    · simp at h'
    · simp only [Value.slice.injEq, Option.some.injEq, Addr.mk.injEq, and_true, true_and] at h'
      obtain ⟨rfl, rfl⟩ := h'
      exact ⟨h3, h4⟩
  clear hown hb1 HC
  go_wp2_with fail
  go_loopw [12] (fun iv wr => ∃ (k : Nat) (cur : Array Value), k ≤ l.length ∧ iv = .int .i64 k ∧ Row wr w.heap.size g c cur (wipes b (l.take k)) ∧ Below w.heap.size w wr) (fun iv _ => l.length - (intOf iv).toNat)
  case atStart =>
    obtain ⟨cur, hrow⟩ := Row.of_own (unhide HO1)
    exact ⟨0, cur, Nat.zero_le _, rfl, hrow, unhide HB1⟩
  case round =>
    obtain ⟨k, cur, hk, rfl, hrow, hbel⟩ := hrel
    have hwl : (wipes b (l.take k)).length = b.length := wipes_len hb (fun f hf => (unhide HIN f (List.mem_of_mem_take hf)).1)
    by_cases hlt : k < l.length
    · have hne : l ≠ [] := by intro e; rw [e] at hlt; simp at hlt
      obtain ⟨b1, o1, rfl, hc1⟩ := ((unhide HFS).below hbel).2.2.2 hne
      obtain ⟨f, hf⟩ : ∃ f, l[k]? = some f := ⟨l[k], List.getElem?_eq_getElem hlt⟩
      obtain ⟨q0, q1⟩ := Sls.flt (cap := 0) hc1 hf
      have hfi : FaultIn f := unhide HIN f (List.mem_of_getElem? hf)
      obtain ⟨hn0, hnf⟩ := nOf_fit hfi
      have htk : wipes b (l.take (k + 1)) = splice (wipes b (l.take k)) (pOf f) (zerosB (nOf f)) := by
        rw [← wipeF_eq, List.take_add_one, hf]
        unfold wipes
        rw [List.foldl_append]
        rfl
      have HTK := hide htk
      have HA : Hid (∀ W : World, Calls Tryz.prog 49 #[.agg #[.int .i64 f.1, .int .i64 f.2]] W fun e w' => e = .returned (.agg #[.int .i64 (pOf f : Nat), .int .i64 (nOf f : Nat)]) ∧ Below W.heap.size W w') := hide (fun W => placeOf_any f W hfi)
      have HP : Hid (∀ W : World, Calls Tryz.prog 43 #[.slice (some ⟨g, 0, none⟩) b.length c, .agg #[.int .i64 (pOf f : Nat), .int .i64 (nOf f : Nat)]] W fun e w' => e = .returned (.slice (some ⟨g, pOf f, none⟩) (nOf f) (c - pOf f)) ∧ Below W.heap.size W w') := hide (fun W => part_row g c b.length (pOf f) (nOf f) W hbl (by omega) hcm.1 (by omega))
      have HROW := hide hrow
      have HBEL := hide hbel
      have hb2 : Below w.heap.size w (wr.alloc (.cells #[.int .i64 f.1, .int .i64 f.2] 47)) := hbel.alloc hbel.size _
      have HB2 := hide hb2
      have hbA : Below wr.heap.size wr (wr.alloc (.cells #[.int .i64 f.1, .int .i64 f.2] 47)) := (Below.refl _ _).alloc (Nat.le_refl _) _
      have HBA := hide hbA
      clear hrow hbel hc1 hne htk hfi hb2 hbA
      generalize pOf f = p at *
      generalize nOf f = n at *
      obtain ⟨x, y⟩ := f
      dsimp only at *
      clear hf
      go_wp2_with fail
      refine (unhide HA _).mono ?_
      rintro e w2 ⟨rfl, hb2⟩
      have hB2 := (unhide HBA).trans (hb2.mono (unhide HBA).size)
      have HB3 := hide hB2
      clear hb2 hB2 HBA HA
      go_wp2_with fail
      refine (unhide HP _).mono ?_
      rintro e w3 ⟨rfl, hb3⟩
      have hB3 := (unhide HB3).trans (hb3.mono (unhide HB3).size)
      have hrow3 : Row w3 w.heap.size g c cur (wipes b (l.take k)) := ⟨(unhide HROW).1, (hB3.block g (Array.getElem?_eq_some_iff.1 (unhide HROW).2.1).1).trans (unhide HROW).2.1, (unhide HROW).2.2⟩
      have hcl : ∀ ty, (Builtin.clear_ #[22] ty #[.slice (some ⟨g, p, none⟩) n (c - p)]).run Tryz.prog w3 = .ok (.tuple #[]) (laidW w3 g cur p (zerosB n)) := fun ty => run_clear_u8 w3 _ ty Tryz.underlying22 zero_u8 w.heap.size g p n _ c cur _ hn0 (by omega) hrow3
      have HR3 := hide (laidW_row hrow3 (show p + (zerosB n).length ≤ _ by rw [length_zerosB]; omega))
      have HBE := hide (laidW_below (cur := cur) (l := zerosB n) (off := p) ((unhide HBEL).trans (hB3.mono (unhide HBEL).size)) (unhide HROW).1)
      clear hb3 hB3 hrow3 HB3 HP HROW HBEL HB2
      go_wp2
      go_roundw
      case rel => exact ⟨k + 1, _, by omega, by go_num, by rw [unhide HTK]; exact unhide HR3, unhide HBE⟩
      case measure => simp [intOf]; omega
    · obtain rfl : k = l.length := by omega
      rw [List.take_length] at hrow hwl
      have HROW := hide hrow
      have HBEL := hide hbel
      clear hrow hbel
      go_wp2
      go_ret
      exact ⟨g, c, rfl, (unhide HROW).own hcm.2, unhide HBEL⟩
end Go.Proofs.YtccailoccgbehaaGreatDoor
