/-
  Joined by program: OlMem; OlA; OlB; OlC; StepLst; OlD; OlE; OlF; OlG; HpRow; OlH. (Parts of the proofs over the packages of the program.)
-/
import Derived.Test.YtllpeknpplpgeaaGreatDoorImRow
import Derived.Test.YtllpeknpplpgeaaGreatDoorJHp
import Derived.Test.YtllpeknpplpgeaaGreatDoorNumOut
import Derived.WalkLawsBesides
import Derived.Test.YtllpeknpplpgeaaGreatDoorJCh
import Derived.Deep.AppendLies
import Derived.Test.YtllpeknpplpgeaaGreatDoorJOu
import Derived.Deep.RegionLaw
import Derived.Defers
import Derived.Recover
import Derived.Test.YtllpeknpplpgeaaGreatDoorImE
import Derived.Test.YtllpeknpplpgeaaGreatDoorImH
/-! How a reading of an image of old stands in memory. (Part of the proofs over package old.) -/
namespace Go.Proofs.YtllpeknpplpgeaaGreatDoor
open Go.RowKit
set_option linter.unusedVariables false

/-- An object as it stands in memory: its entry; its bytes, with the address and the capacity of their slice. -/
def ojC (o : (Int × Int × Int × Int) × Option Addr × Nat × List Int) : List Value := [.int .i64 o.1.1, .int .i64 o.1.2.1, .int .i64 o.1.2.2.1, .int .i64 o.1.2.2.2, .slice o.2.1 o.2.2.2.length o.2.2.1]
def ojP (o : (Int × Int × Int × Int) × Option Addr × Nat × List Int) : (Int × Int × Int × Int) × List Int := (o.1, o.2.2.2)
theorem ojC_len (o : (Int × Int × Int × Int) × Option Addr × Nat × List Int) : (ojC o).length = 5 := rfl
theorem ojC_one (o : (Int × Int × Int × Int) × Option Addr × Nat × List Int) : ∀ u ∈ ojC o, u.oneCell' = true := by
  intro u hu
  unfold ojC at hu
  rcases List.mem_cons.1 hu with rfl | hu
  · rfl
  rcases List.mem_cons.1 hu with rfl | hu
  · rfl
  rcases List.mem_cons.1 hu with rfl | hu
  · rfl
  rcases List.mem_cons.1 hu with rfl | hu
  · rfl
  rw [List.mem_singleton.1 hu]
  rfl
theorem info_oj : (Tryz.prog.info? 102).map (fun i => (i.zero, i.size, i.bytes)) = some (some (.agg #[.int .i64 0, .int .i64 0, .int .i64 0, .int .i64 0, .slice none 0 0]), 5, 56) := by kernel_rfl
theorem Sls.oj {w : World} {b off : Nat} {l : List ((Int × Int × Int × Int) × Option Addr × Nat × List Int)} (hc : ∀ i x, l[i]? = some x → ∀ j u, (ojC x)[j]? = some u → w.cell? ⟨b, off + i * 5 + j, none⟩ = some u) {i : Nat} {o : (Int × Int × Int × Int) × Option Addr × Nat × List Int} (h : l[i]? = some o) :
    w.cell? ⟨b, off + i * 5, none⟩ = some (.int .i64 o.1.1) ∧ w.cell? ⟨b, off + i * 5 + 1, none⟩ = some (.int .i64 o.1.2.1) ∧ w.cell? ⟨b, off + i * 5 + 2, none⟩ = some (.int .i64 o.1.2.2.1) ∧ w.cell? ⟨b, off + i * 5 + 3, none⟩ = some (.int .i64 o.1.2.2.2) ∧ w.cell? ⟨b, off + i * 5 + 4, none⟩ = some (.slice o.2.1 o.2.2.2.length o.2.2.1) :=
  ⟨hc i o h 0 _ rfl, hc i o h 1 _ rfl, hc i o h 2 _ rfl, hc i o h 3 _ rfl, hc i o h 4 _ rfl⟩
/-- What a row of another element type owns, an append leaves standing. -/
theorem Lst.stays {α β : Type} {enc : α → List Value} {fnc : β → List Value} {k T k' T' : Nat} {w w' : World} {B B' : Nat} {v v' : Value} {l : List α} {l' : List β} (h : Lst enc k T w B v l) (h' : Lst fnc k' T' w B' v' l') (hne : T ≠ T')
    (hk : ∀ j, j < w.heap.size → v.ownBlock ≠ some j → w'.heap[j]? = w.heap[j]?) : Lst fnc k' T' w' B' v' l' := by
  refine ⟨h'.1, ?_⟩
  rcases h'.2 with h0 | ⟨g, cap, cur, rfl, hB, hc, h3⟩
  · exact .inl h0
  · refine .inr ⟨g, cap, cur, rfl, hB, (hk g (Array.getElem?_eq_some_iff.1 hc).1 (fun e => ?_)).trans hc, h3⟩
    rcases h.2 with ⟨rfl, _⟩ | ⟨g1, cap1, cur1, rfl, hB1, hc1, _⟩
    · cases e
    · simp [Value.ownBlock] at e
      subst e
      rw [hc1] at hc
      simp at hc
      exact hne hc.2
theorem Lst.lay {α : Type} {enc : α → List Value} {k T : Nat} {w : World} {B g i : Nat} {v c : Value} {l : List α} (h : Lst enc k T w B v l) (hg : g < B) : Lst enc k T (w.setCell ⟨g, i, none⟩ c) B v l := by
  refine ⟨h.1, ?_⟩
  rcases h.2 with h0 | ⟨g', cap', cur, rfl, hB, hc, h3⟩
  · exact .inl h0
  · exact .inr ⟨g', cap', cur, rfl, hB, (heap_setCell_other w ⟨g, i, none⟩ g' c (by show g' ≠ g; omega)).trans hc, h3⟩
/-- A reading, in block p, which was the next one in w0: what is left of the bytes, where the next object is to stand, what was read. -/
def RdV (w0 w : World) (p : Nat) (ar : Option Addr) (cr : Nat) (vO vR : Value) (os : List ((Int × Int × Int × Int) × Option Addr × Nat × List Int)) (r : List Int) (n : Nat) (R : List (ByteArray × Int)) : Prop :=
  p = w0.heap.size ∧ w.heap[p]? = some (.cells #[.slice ar r.length cr, .int .i64 n, vO, vR] 100 (0, 0)) ∧ Bs w0 ar cr r ∧ Lst ojC 5 102 w (p + 1) vO os ∧ (∀ o ∈ os, Bs w0 o.2.1 o.2.2.1 o.2.2.2) ∧ Lst roC 2 57 w (p + 1) vR R ∧ Below w0.heap.size w0 w
def Rd (w0 w : World) (p : Nat) (r : List Int) (n : Nat) (O : List ((Int × Int × Int × Int) × List Int)) (R : List (ByteArray × Int)) : Prop := ∃ ar cr vO vR os, RdV w0 w p ar cr vO vR os r n R ∧ os.map ojP = O
section
variable {w0 w w' : World} {p : Nat} {ar : Option Addr} {cr : Nat} {vO vR : Value} {os : List ((Int × Int × Int × Int) × Option Addr × Nat × List Int)} {r : List Int} {n : Nat} {R : List (ByteArray × Int)}
theorem RdV.cells (h : RdV w0 w p ar cr vO vR os r n R) : w.cell? ⟨p, 0, none⟩ = some (.slice ar r.length cr) ∧ w.cell? ⟨p, 1, none⟩ = some (.int .i64 n) ∧ w.cell? ⟨p, 2, none⟩ = some vO ∧ w.cell? ⟨p, 3, none⟩ = some vR := by
  have hc := h.2.1
  refine ⟨?_, ?_, ?_, ?_⟩ <;> (rw [cell_of_row _ _ _ _ _ _ hc]; rfl)
theorem RdV.frozen (h : RdV w0 w p ar cr vO vR os r n R) (j : Nat) : w.frozen? ⟨p, j, none⟩ = false := frozen_of_row _ _ j _ _ h.2.1
theorem RdV.lt (h : RdV w0 w p ar cr vO vR os r n R) : p < w.heap.size := (Array.getElem?_eq_some_iff.1 h.2.1).1
theorem RdV.below (h : RdV w0 w p ar cr vO vR os r n R) (hb : Below w.heap.size w w') : RdV w0 w' p ar cr vO vR os r n R := by
  obtain ⟨h1, h2, h3, h4, h5, h6, h7⟩ := h
  exact ⟨h1, (hb.block p (Array.getElem?_eq_some_iff.1 h2).1).trans h2, h3, h4.below hb, h5, h6.below hb, h7.trans (hb.mono h7.size)⟩
theorem RdV.world (h : RdV w0 w p ar cr vO vR os r n R) : Below w0.heap.size w0 w := h.2.2.2.2.2.2
/-- What is left becomes another slice. -/
theorem RdV.rest (h : RdV w0 w p ar cr vO vR os r n R) {a2 : Option Addr} {c2 : Nat} {r2 : List Int} (hb : Bs w0 a2 c2 r2) : RdV w0 (w.setCell ⟨p, 0, none⟩ (.slice a2 r2.length c2)) p a2 c2 vO vR os r2 n R := by
  obtain ⟨h1, h2, h3, h4, h5, h6, h7⟩ := h
  exact ⟨h1, heap_setCell_same w p 0 _ _ _ h2, hb, h4.lay (Nat.lt_succ_self _), h5, h6.lay (Nat.lt_succ_self _), h7.setCell (by show w0.heap.size ≤ p; omega) _⟩
theorem RdV.place (h : RdV w0 w p ar cr vO vR os r n R) (m : Nat) : RdV w0 (w.setCell ⟨p, 1, none⟩ (.int .i64 m)) p ar cr vO vR os r m R := by
  obtain ⟨h1, h2, h3, h4, h5, h6, h7⟩ := h
  exact ⟨h1, heap_setCell_same w p 1 _ _ _ h2, h3, h4.lay (Nat.lt_succ_self _), h5, h6.lay (Nat.lt_succ_self _), h7.setCell (by show w0.heap.size ≤ p; omega) _⟩
/-- One object more: its row has turned, and then the cell that holds it. -/
theorem RdV.object (h : RdV w0 w p ar cr vO vR os r n R) {v' : Value} {y : (Int × Int × Int × Int) × Option Addr × Nat × List Int} (hy : Bs w0 y.2.1 y.2.2.1 y.2.2.2) (hL : Lst ojC 5 102 w' (p + 1) v' (os ++ [y])) (hb : Below (p + 1) w w')
    (hk : ∀ j, j < w.heap.size → vO.ownBlock ≠ some j → w'.heap[j]? = w.heap[j]?) : RdV w0 (w'.setCell ⟨p, 2, none⟩ v') p ar cr v' vR (os ++ [y]) r n R := by
  obtain ⟨h1, h2, h3, h4, h5, h6, h7⟩ := h
  have hlt := (Array.getElem?_eq_some_iff.1 h2).1
  have h2' := (hb.block p (Nat.lt_succ_self _)).trans h2
  refine ⟨h1, heap_setCell_same w' p 2 _ _ _ h2', h3, hL.lay (Nat.lt_succ_self _), fun o ho => ?_, (h4.stays h6 (by decide) hk).lay (Nat.lt_succ_self _), (h7.trans (hb.mono (by omega))).setCell (by show w0.heap.size ≤ p; omega) _⟩
  rcases List.mem_append.1 ho with ho | ho
  · exact h5 o ho
  · rw [List.mem_singleton.1 ho]; exact hy
theorem RdV.root (h : RdV w0 w p ar cr vO vR os r n R) {v' : Value} {y : (ByteArray × Int)} (hL : Lst roC 2 57 w' (p + 1) v' (R ++ [y])) (hb : Below (p + 1) w w')
    (hk : ∀ j, j < w.heap.size → vR.ownBlock ≠ some j → w'.heap[j]? = w.heap[j]?) : RdV w0 (w'.setCell ⟨p, 3, none⟩ v') p ar cr vO v' os r n (R ++ [y]) := by
  obtain ⟨h1, h2, h3, h4, h5, h6, h7⟩ := h
  have hlt := (Array.getElem?_eq_some_iff.1 h2).1
  have h2' := (hb.block p (Nat.lt_succ_self _)).trans h2
  exact ⟨h1, heap_setCell_same w' p 3 _ _ _ h2', h3, (h6.stays h4 (by decide) hk).lay (Nat.lt_succ_self _), h5, hL.lay (Nat.lt_succ_self _), (h7.trans (hb.mono (by omega))).setCell (by show w0.heap.size ≤ p; omega) _⟩
end
theorem Rd.below {w0 w w' : World} {p n : Nat} {r : List Int} {O : List ((Int × Int × Int × Int) × List Int)} {R : List (ByteArray × Int)} (h : Rd w0 w p r n O R) (hb : Below w.heap.size w w') : Rd w0 w' p r n O R := by
  obtain ⟨ar, cr, vO, vR, os, h1, h2⟩ := h
  exact ⟨ar, cr, vO, vR, os, h1.below hb, h2⟩
theorem Rd.world {w0 w : World} {p n : Nat} {r : List Int} {O : List ((Int × Int × Int × Int) × List Int)} {R : List (ByteArray × Int)} (h : Rd w0 w p r n O R) : Below w0.heap.size w0 w := by
  obtain ⟨ar, cr, vO, vR, os, h1, h2⟩ := h
  exact h1.world
/-- How a reading ends that meets a fault. -/
def Flt (x : Int) : Ending := .panicked [{ v := .iface 98 (.agg #[.int .i64 x]), recovered := false }]
end Go.Proofs.YtllpeknpplpgeaaGreatDoor
/-! Contracts of package old: need, and what reads bytes. (Part of the proofs over package old.) -/
namespace Go.Proofs.YtllpeknpplpgeaaGreatDoor
open Go.RowKit
set_option linter.unusedVariables false

theorem need_yes (b : Bool) (x : Int) (w : World) (hb : b = true) : Calls Tryz.prog 83 #[.bool b, .int .i64 x] w fun e w' => e = .returned (.tuple #[]) ∧ w = w' := by
  subst hb
  go_enter Tryz.func83, Tryz.ntmps83
  go_wp2
  go_end0
  exact ⟨rfl, rfl⟩
theorem need_no (b : Bool) (x : Int) (w : World) (hb : b = false) : Calls Tryz.prog 83 #[.bool b, .int .i64 x] w fun e w' => e = Flt x ∧ w = w' := by
  subst hb
  go_enter Tryz.func83, Tryz.ntmps83
  go_wp2
  exact ⟨rfl, rfl, rfl⟩
section
variable {w0 w : World} {p n : Nat} {r : List Int} {O : List ((Int × Int × Int × Int) × List Int)} {R : List (ByteArray × Int)}
set_option maxHeartbeats 1000000 in
theorem rdTake_yes (h : Rd w0 w p r n O R) (m : Nat) (hm : m ≤ r.length) :
    Calls Tryz.prog 84 #[.pointer (some ⟨p, 0, none⟩), .int .i64 m] w fun e w' => ∃ a' c', e = .returned (.slice a' m c') ∧ Bs w0 a' c' (r.take m) ∧ Rd w0 w' p (r.drop m) n O R := by
  obtain ⟨ar, cr, vO, vR, os, hv, rfl⟩ := h
  obtain ⟨c0, c1, c2, c3⟩ := hv.cells
  have f0 := hv.frozen 0
  have hb := hv.2.2.1
  have hbl := hb.2.2.1
  obtain ⟨a1, hs1, hb1⟩ := slice_hi (P := Tryz.prog) (t := 22) Tryz.underlying22 size_u8 hb m hm
  obtain ⟨a2, hs2, hb2⟩ := slice_lo (P := Tryz.prog) (t := 22) Tryz.underlying22 size_u8 hb m hm
  have HN := hide (fun (b : Bool) (W : World) (hx : b = true) => need_yes b 2 W hx)
  have HEND := hide (hv.rest hb2)
  have HB1 := hide hb1
  have hld : (r.drop m).length = r.length - m := List.length_drop
  rw [hld] at HEND
  clear hv hb hb1 hb2 hld
  generalize hN : r.length = N at *
  have hmI : decide ((m : Int) ≤ (N : Int)) = true := decide_eq_true (by omega)
  clear hN c1 c2 c3
  go_enter Tryz.func84, Tryz.ntmps84
  go_wp2_with fail
  refine (unhide HN _ _ (by first | rfl | exact hmI | (simp; done) | (simp; omega))).mono ?_
  rintro e w1 ⟨rfl, rfl⟩
  go_wp2
  go_ret
  exact ⟨a1, cr, rfl, unhide HB1, a2, cr - m, vO, vR, os, unhide HEND, rfl⟩
theorem rdTake_no (h : Rd w0 w p r n O R) (m : Nat) (hm : r.length < m) :
    Calls Tryz.prog 84 #[.pointer (some ⟨p, 0, none⟩), .int .i64 m] w fun e w' => e = Flt 2 ∧ Below w0.heap.size w0 w' := by
  obtain ⟨ar, cr, vO, vR, os, hv, rfl⟩ := h
  obtain ⟨c0, c1, c2, c3⟩ := hv.cells
  have hb := hv.2.2.1
  have hbl := hb.2.2.1
  have HN := hide (fun (b : Bool) (W : World) (hx : b = false) => need_no b 2 W hx)
  have HB := hide hv.world
  clear hv hb
  generalize hN : r.length = N at *
  have hmI : decide ((m : Int) ≤ (N : Int)) = false := decide_eq_false (by omega)
  clear hN c1 c2 c3
  go_enter Tryz.func84, Tryz.ntmps84
  go_wp2_with fail
  refine (unhide HN _ _ (by first | rfl | exact hmI | (simp; done) | (simp; omega))).mono ?_
  rintro e w1 ⟨rfl, rfl⟩
  exact ⟨rfl, rfl, unhide HB⟩
end
end Go.Proofs.YtllpeknpplpgeaaGreatDoor
/-! Contracts of package old: numbers, counts, handles. (Part of the proofs over package old.) -/
namespace Go.Proofs.YtllpeknpplpgeaaGreatDoor
open Go.RowKit
set_option linter.unusedVariables false

theorem getV_zero {r : List Int} (s : Nat) : getV (r.take s) 0 s = getV r 0 s := by
  unfold getV
  rw [List.drop_zero, List.drop_zero, List.take_take, Nat.min_self]
theorem getV_one {r : List Int} (h : 1 ≤ r.length) : getV r 0 1 = r.getD 0 0 := by
  rw [getV_succ _ _ _ (by omega)]
  simp [getV, numOf]
section
variable {w0 w : World} {p n : Nat} {r : List Int} {O : List ((Int × Int × Int × Int) × List Int)} {R : List (ByteArray × Int)}
set_option maxHeartbeats 1000000 in
theorem rdNum_yes (h : Rd w0 w p r n O R) (s : Nat) (h1 : 1 ≤ s) (h4 : s ≤ 4) (hs : s ≤ r.length) :
    Calls Tryz.prog 114 #[.pointer (some ⟨p, 0, none⟩), .int .i64 s] w fun e w' => e = .returned (.int .i64 (getV r 0 s)) ∧ Rd w0 w' p (r.drop s) n O R := by
  have HT := hide (rdTake_yes h s hs)
  have hl : (r.take s).length = s := by rw [List.length_take]; omega
  have HG := hide (fun (W : World) (a' : Option Addr) (c' : Nat) (hb : Bs W a' c' (r.take s)) => get_yes a' c' (r.take s) 0 s W hb (by omega) (by omega) (by omega) (by omega))
  rw [hl, Int.toNat_natCast, Int.toNat_zero, getV_zero] at HG
  generalize getV r 0 s = V at *
  clear h hl
  go_enter Tryz.func114, Tryz.ntmps114
  go_wp2_with fail
  refine (unhide HT).mono ?_
  rintro e w1 ⟨a', c', rfl, hb1, hr1⟩
  have HC := hide (unhide HG w1 a' c' (hb1.below hr1.world))
  have HR := hide hr1
  clear hb1 hr1 HT HG
  go_wp2_with fail
  refine (unhide HC).mono ?_
  rintro e w2 ⟨rfl, rfl⟩
  go_wp2
  go_ret
  exact ⟨rfl, unhide HR⟩
theorem rdNum_no (h : Rd w0 w p r n O R) (s : Nat) (hs : r.length < s) :
    Calls Tryz.prog 114 #[.pointer (some ⟨p, 0, none⟩), .int .i64 s] w fun e w' => e = Flt 2 ∧ Below w0.heap.size w0 w' := by
  have HT := hide (rdTake_no h s hs)
  clear h hs
  go_enter Tryz.func114, Tryz.ntmps114
  go_wp2_with fail
  refine (unhide HT).mono ?_
  rintro e w1 ⟨rfl, hb1⟩
  exact ⟨rfl, rfl, hb1⟩
/-- A number of so many bytes: they lack, or are read. -/
theorem rdNum_any (h : Rd w0 w p r n O R) (s : Nat) (h1 : 1 ≤ s) (h4 : s ≤ 4) :
    Calls Tryz.prog 114 #[.pointer (some ⟨p, 0, none⟩), .int .i64 s] w fun e w' => (r.length < s ∧ e = Flt 2 ∧ Below w0.heap.size w0 w') ∨ (s ≤ r.length ∧ e = .returned (.int .i64 (getV r 0 s)) ∧ Rd w0 w' p (r.drop s) n O R) := by
  by_cases hs : s ≤ r.length
  · exact (rdNum_yes h s h1 h4 hs).mono fun e w' hx => .inr ⟨hs, hx⟩
  · exact (rdNum_no h s (by omega)).mono fun e w' hx => .inl ⟨by omega, hx⟩
/-- How many come. -/
theorem rdCount_any (h : Rd w0 w p r n O R) (hb : Byt r) (m : Nat) (hm : m ≤ 255) :
    Calls Tryz.prog 85 #[.pointer (some ⟨p, 0, none⟩), .int .i64 m] w fun e w' => ((r.length = 0 ∨ (m : Int) < r.getD 0 0) ∧ e = Flt 2 ∧ Below w0.heap.size w0 w') ∨ ((1 ≤ r.length ∧ r.getD 0 0 ≤ m) ∧ e = .returned (.int .i64 (r.getD 0 0)) ∧ Rd w0 w' p (r.drop 1) n O R) := by
  have HT := hide (rdNum_any h 1 (Nat.le_refl _) (by omega))
  have HV := hide (fun (hx : 1 ≤ r.length) => getV_one hx)
  have hbd := hb.getD 0
  have HN := hide (fun (b : Bool) (W : World) (hx : b = false) => need_no b 2 W hx)
  have HY := hide (fun (b : Bool) (W : World) (hx : b = true) => need_yes b 2 W hx)
  generalize r.getD 0 0 = V at *
  clear h hb
  go_enter Tryz.func85, Tryz.ntmps85
  go_wp2_with fail
  refine (unhide HT).mono ?_
  rintro e w1 (⟨hs, rfl, hb1⟩ | ⟨hs, rfl, hr1⟩)
  · exact ⟨rfl, .inl ⟨.inl (by omega), rfl, hb1⟩⟩
  rw [unhide HV hs]
  have HR := hide hr1
  have HS := hide hs
  clear hr1 hs HT HV
  by_cases hlt : (m : Int) < V
  · have hmI : decide (V ≤ (m : Int)) = false := decide_eq_false (by omega)
    go_wp2_with fail
    refine (unhide HN _ _ (by first | rfl | exact hmI | (simp; done) | (simp; omega))).mono ?_
    rintro e w2 ⟨rfl, rfl⟩
    exact ⟨rfl, .inl ⟨.inr hlt, rfl, (unhide HR).world⟩⟩
  · have hmI : decide (V ≤ (m : Int)) = true := decide_eq_true (by omega)
    go_wp2_with fail
    refine (unhide HY _ _ (by first | rfl | exact hmI | (simp; done) | (simp; omega))).mono ?_
    rintro e w2 ⟨rfl, rfl⟩
    go_wp2
    go_ret
    exact .inr ⟨⟨unhide HS, by omega⟩, rfl, unhide HR⟩
/-- What is wrong with a handle that is read. -/
def hdE (r : List Int) : Int := if r.length = 0 then 2 else if hndB (r.getD 0 0) = false then 1 else 0
theorem rdHandle_any (h : Rd w0 w p r n O R) (hb : Byt r) :
    Calls Tryz.prog 115 #[.pointer (some ⟨p, 0, none⟩)] w fun e w' => (hdE r ≠ 0 ∧ e = Flt (hdE r) ∧ Below w0.heap.size w0 w') ∨ ((hdE r = 0 ∧ 1 ≤ r.length ∧ 1 ≤ r.getD 0 0 ∧ r.getD 0 0 ≤ 40) ∧ e = .returned (.int .i64 (r.getD 0 0)) ∧ Rd w0 w' p (r.drop 1) n O R) := by
  have HT := hide (rdNum_any h 1 (Nat.le_refl _) (by omega))
  have HV := hide (fun (hx : 1 ≤ r.length) => getV_one hx)
  have HE0 := hide (fun (hx : r.length < 1) => show hdE r = 2 by unfold hdE; rw [if_pos (by omega)])
  have HE1 := hide (fun (hx : 1 ≤ r.length) (hy : hndB (r.getD 0 0) = false) => show hdE r = 1 by unfold hdE; rw [if_neg (by omega), if_pos hy])
  have HE2 := hide (fun (hx : 1 ≤ r.length) (hy : hndB (r.getD 0 0) = true) => show hdE r = 0 by unfold hdE; rw [if_neg (by omega), if_neg (by rw [hy]; simp)])
  have hbd := hb.getD 0
  have HN := hide (fun (b : Bool) (W : World) (hx : b = false) => need_no b 1 W hx)
  have HY := hide (fun (b : Bool) (W : World) (hx : b = true) => need_yes b 1 W hx)
  generalize hdE r = X at *
  generalize r.getD 0 0 = V at *
  clear h hb
  go_enter Tryz.func115, Tryz.ntmps115
  go_wp2_with fail
  refine (unhide HT).mono ?_
  rintro e w1 (⟨hs, rfl, hb1⟩ | ⟨hs, rfl, hr1⟩)
  · exact ⟨rfl, .inl ⟨by rw [unhide HE0 hs]; decide, by rw [unhide HE0 hs]; rfl, hb1⟩⟩
  rw [unhide HV hs]
  have HR := hide hr1
  have HS := hide hs
  clear hr1 hs HT HV HE0
  by_cases h1 : 1 ≤ V
  · by_cases h2 : V ≤ 40
    · have HX := hide (unhide HE2 (unhide HS) (hndB_iff.2 ⟨h1, h2⟩))
      go_wp2_with fail
      refine (unhide HY _ _ (by first | rfl | (simp; done) | (simp; omega))).mono ?_
      rintro e w2 ⟨rfl, rfl⟩
      go_wp2
      go_ret
      exact .inr ⟨⟨unhide HX, unhide HS, h1, h2⟩, rfl, unhide HR⟩
    · have HX := hide (unhide HE1 (unhide HS) (by cases hq : hndB V with | false => rfl | true => exact absurd (hndB_iff.1 hq).2 h2))
      go_wp2_with fail
      refine (unhide HN _ _ (by first | rfl | (simp; done) | (simp; omega))).mono ?_
      rintro e w2 ⟨rfl, rfl⟩
      exact ⟨rfl, .inl ⟨by rw [unhide HX]; decide, by rw [unhide HX]; rfl, (unhide HR).world⟩⟩
  · have HX := hide (unhide HE1 (unhide HS) (by cases hq : hndB V with | false => rfl | true => exact absurd (hndB_iff.1 hq).1 h1))
    go_wp2_with fail
    refine (unhide HN _ _ (by first | rfl | (simp; done) | (simp; omega))).mono ?_
    rintro e w2 ⟨rfl, rfl⟩
    exact ⟨rfl, .inl ⟨by rw [unhide HX]; decide, by rw [unhide HX]; rfl, (unhide HR).world⟩⟩
end
end Go.Proofs.YtllpeknpplpgeaaGreatDoor
/-! Contracts of package old: whether an object of that handle, a root of that name was read. (Part of the proofs over package old.) -/
namespace Go.Proofs.YtllpeknpplpgeaaGreatDoor
open Go.RowKit
set_option linter.unusedVariables false

theorem has1_any (q : Nat) (x a l t : Int) (ad : Option Addr) (m c : Nat) (h : Int) (w : World) (hq : w.cell? ⟨q, 0, none⟩ = some (.int .i64 h)) :
    Calls Tryz.prog 131 #[.agg #[.int .i64 x, .int .i64 a, .int .i64 l, .int .i64 t, .slice ad m c], .pointer (some ⟨q, 0, none⟩)] w fun e w' => e = .returned (.bool (x == h)) ∧ Below w.heap.size w w' := by
  have hq2 : (w.alloc (.cells #[.int .i64 x, .int .i64 a, .int .i64 l, .int .i64 t, .slice ad m c] 102)).cell? ⟨q, 0, none⟩ = some (.int .i64 h) := (((Below.refl w.heap.size w).alloc (Nat.le_refl _) _).cell (block_lt_of_cell hq)).trans hq
  clear hq
  go_enter Tryz.func131, Tryz.ntmps131
  go_wp2
  go_ret
  exact ⟨rfl, (Below.refl _ _).alloc (Nat.le_refl _) _⟩
set_option maxHeartbeats 1000000 in
theorem ojIndex_any (q : Nat) (h : Int) (a : Option Addr) (cap : Nat) (l : List ((Int × Int × Int × Int) × Option Addr × Nat × List Int)) (w : World) (hs : Sls ojC 5 w a cap l) (hq : w.cell? ⟨q, 0, none⟩ = some (.int .i64 h)) :
    Calls Tryz.prog 142 #[.slice a l.length cap, .func (.func 131) #[] #[.pointer (some ⟨q, 0, none⟩)]] w fun e w' => ∃ i : Int, e = .returned (.int .i64 i) ∧ decide (0 ≤ i) = l.any (fun o => o.1.1 == h) ∧ Below w.heap.size w w' := by
  have hl := hs.2.2.1
  have HS := hide hs
  have HQ := hide hq
  clear hs hq
  go_enter Tryz.func142, Tryz.ntmps142
  go_wp2
  go_loopw [5, 8] (fun _ iv wr => ∃ k : Nat, k ≤ l.length ∧ iv = .int .i64 k ∧ (l.take k).any (fun o => o.1.1 == h) = false ∧ Below w.heap.size w wr) (fun _ iv _ => l.length - (intOf iv).toNat)
  case atStart => exact ⟨0, Nat.zero_le _, rfl, rfl, Below.refl _ _⟩
  case round =>
    obtain ⟨k, hk, rfl, hall, hbel⟩ := hrel
    by_cases hlt : k < l.length
    · have hne : l ≠ [] := by intro e; rw [e] at hlt; simp at hlt
      obtain ⟨b1, o1, rfl, hc1⟩ := ((unhide HS).below hbel).2.2.2 hne
      obtain ⟨f, hf⟩ : ∃ f, l[k]? = some f := ⟨l[k], List.getElem?_eq_getElem hlt⟩
      obtain ⟨q0, q1, q2, q3, q4⟩ := Sls.oj hc1 hf
      have hq := (hbel.cell (block_lt_of_cell (unhide HQ))).trans (unhide HQ)
      have HC := hide (has1_any q f.1.1 f.1.2.1 f.1.2.2.1 f.1.2.2.2 f.2.1 f.2.2.2.length f.2.2.1 h wr hq)
      have htk : l.take (k + 1) = l.take k ++ [f] := by rw [List.take_add_one, hf]; rfl
      have HTK := hide htk
      have HALL := hide hall
      have HMEM := hide (List.mem_of_getElem? hf)
      have HBEL := hide hbel
      clear hc1 hf hne hq hall hbel htk
      cases hx : (f.1.1 == h)
      · have hnew : (l.take (k + 1)).any (fun o => o.1.1 == h) = false := by rw [unhide HTK, List.any_append, unhide HALL]; simp [hx]
        have HNEW := hide hnew
        rw [hx] at HC
        clear hnew hx
        generalize f.1.1 = x1 at *
        generalize f.1.2.1 = x2 at *
        generalize f.1.2.2.1 = x3 at *
        generalize f.1.2.2.2 = x4 at *
        generalize f.2.1 = x5 at *
        generalize f.2.2.2.length = x6 at *
        generalize f.2.2.1 = x7 at *
        go_wp2_with (go_at_call 131; refine (unhide HC).mono ?_; rintro e w1 ⟨rfl, hb1⟩; have HB1 := hide ((unhide HBEL).trans (hb1.mono (unhide HBEL).size)); clear hb1)
        go_roundw
        case rel => exact ⟨k + 1, by omega, by go_num, unhide HNEW, unhide HB1⟩
        case measure => simp [intOf]; omega
      · have hnew : l.any (fun o => o.1.1 == h) = true := List.any_eq_true.2 ⟨_, unhide HMEM, hx⟩
        have HNEW := hide hnew
        rw [hx] at HC
        clear hnew hx HTK HMEM
        generalize f.1.1 = x1 at *
        generalize f.1.2.1 = x2 at *
        generalize f.1.2.2.1 = x3 at *
        generalize f.1.2.2.2 = x4 at *
        generalize f.2.1 = x5 at *
        generalize f.2.2.2.length = x6 at *
        generalize f.2.2.1 = x7 at *
        go_wp2_with (go_at_call 131; refine (unhide HC).mono ?_; rintro e w1 ⟨rfl, hb1⟩; have HB1 := hide ((unhide HBEL).trans (hb1.mono (unhide HBEL).size)); clear hb1)
        go_ret
        exact ⟨k, rfl, by rw [unhide HNEW]; exact decide_eq_true (by omega), unhide HB1⟩
    · obtain rfl : k = l.length := by omega
      rw [List.take_length] at hall
      have HALL := hide hall
      have HBEL := hide hbel
      clear hall hbel
      go_wp2
      go_ret
      exact ⟨-1, rfl, by rw [unhide HALL]; rfl, unhide HBEL⟩
theorem ojCont_any (q : Nat) (h : Int) (a : Option Addr) (cap : Nat) (l : List ((Int × Int × Int × Int) × Option Addr × Nat × List Int)) (w : World) (hs : Sls ojC 5 w a cap l) (hq : w.cell? ⟨q, 0, none⟩ = some (.int .i64 h)) :
    Calls Tryz.prog 130 #[.slice a l.length cap, .func (.func 131) #[] #[.pointer (some ⟨q, 0, none⟩)]] w fun e w' => e = .returned (.bool (l.any (fun o => o.1.1 == h))) ∧ Below w.heap.size w w' := by
  have HI := hide (ojIndex_any q h a cap l w hs hq)
  generalize l.any (fun o => o.1.1 == h) = R at *
  generalize l.length = N at *
  clear hs hq
  go_enter Tryz.func130, Tryz.ntmps130
  go_wp2_with fail
  refine (unhide HI).mono ?_
  rintro e w1 ⟨i, rfl, hi, hb1⟩
  have HB := hide hb1
  have HR := hide hi
  clear hb1 hi HI
  go_wp2
  go_ret
  exact ⟨by rw [← unhide HR]; rfl, unhide HB⟩
section
variable {w0 w : World} {p n : Nat} {r : List Int} {O : List ((Int × Int × Int × Int) × List Int)} {R : List (ByteArray × Int)}
theorem hasO_map (os : List ((Int × Int × Int × Int) × Option Addr × Nat × List Int)) (h : Int) : os.any (fun o => o.1.1 == h) = hasO (os.map ojP) h := by
  unfold hasO
  rw [List.any_map]
  congr 1
theorem rdHas_any (hr : Rd w0 w p r n O R) (hO : O.length ≤ 1000) (h : Int) :
    Calls Tryz.prog 116 #[.pointer (some ⟨p, 0, none⟩), .int .i64 h] w fun e w' => e = .returned (.bool (hasO O h)) ∧ Rd w0 w' p r n O R := by
  have hB0 : Below w.heap.size w (w.alloc (.cells #[.int .i64 h] 3)) := (Below.refl _ _).alloc (Nat.le_refl _) _
  have HR := hide (hr.below hB0)
  obtain ⟨ar, cr, vO, vR, os, hv, rfl⟩ := hr
  have hv2 := hv.below hB0
  rw [← hasO_map]
  rw [List.length_map] at hO
  obtain ⟨a, c, rfl, hs⟩ := hv2.2.2.2.1.sls ojC_len (by omega)
  obtain ⟨c0, c1, c2, c3⟩ := hv2.cells
  have hnew : (w.alloc (.cells #[.int .i64 h] 3)).cell? ⟨w.heap.size, 0, none⟩ = some (.int .i64 h) := by rw [cell_of_row _ _ _ _ _ _ (heap_alloc_new w _)]; rfl
  have HC := hide (ojCont_any w.heap.size h a c os _ hs hnew)
  have hmf : ∀ (fn : Fn) (first cap : Array Value) (w : World), (Instr.makeFunc fn first cap).run Tryz.prog w = .ok (.func fn first cap) w := fun _ _ _ _ => rfl
  generalize os.any (fun o => o.1.1 == h) = X at *
  generalize os.length = N at *
  clear hv hv2 hs hB0 c0 c1 c3
  go_enter Tryz.func116, Tryz.ntmps116
  go_wp2_with fail
  refine (unhide HC).mono ?_
  rintro e w1 ⟨rfl, hb1⟩
  have HR1 := hide ((unhide HR).below hb1)
  clear hb1 HC HR
  go_wp2
  go_ret
  exact ⟨rfl, unhide HR1⟩
theorem beq_dec (t s : ByteArray) : (t == s) = decide (t = s) := by
  by_cases e : t = s
  · rw [decide_eq_true e]; exact ba_beq.2 e
  · rw [decide_eq_false e]
    cases hq : (t == s) with
    | false => rfl
    | true => exact absurd (ba_beq.1 hq) e
theorem leads1_any (q : Nat) (t s : ByteArray) (x : Int) (w : World) (hq : w.cell? ⟨q, 0, none⟩ = some (.string s)) :
    Calls Tryz.prog 133 #[.agg #[.string t, .int .i64 x], .pointer (some ⟨q, 0, none⟩)] w fun e w' => e = .returned (.bool (t == s)) ∧ Below w.heap.size w w' := by
  have hq2 : (w.alloc (.cells #[.string t, .int .i64 x] 57)).cell? ⟨q, 0, none⟩ = some (.string s) := (((Below.refl w.heap.size w).alloc (Nat.le_refl _) _).cell (block_lt_of_cell hq)).trans hq
  have heq : (t.toList == s.toList) = decide (t = s) := by
    by_cases e : t = s
    · rw [decide_eq_true e]; exact toL_iff.2 e
    · rw [decide_eq_false e]; exact toL_no e
  clear hq
  rw [beq_dec]
  generalize decide (t = s) = D at *
  go_enter Tryz.func133, Tryz.ntmps133
  go_wp2
  go_ret
  exact ⟨rfl, (Below.refl _ _).alloc (Nat.le_refl _) _⟩
set_option maxHeartbeats 1000000 in
theorem orIndex_any (q : Nat) (s : ByteArray) (a : Option Addr) (cap : Nat) (l : List (ByteArray × Int)) (w : World) (hs : Sls roC 2 w a cap l) (hq : w.cell? ⟨q, 0, none⟩ = some (.string s)) :
    Calls Tryz.prog 143 #[.slice a l.length cap, .func (.func 133) #[] #[.pointer (some ⟨q, 0, none⟩)]] w fun e w' => ∃ i : Int, e = .returned (.int .i64 i) ∧ decide (0 ≤ i) = l.any (fun r => r.1 == s) ∧ Below w.heap.size w w' := by
  have hl := hs.2.2.1
  have HS := hide hs
  have HQ := hide hq
  clear hs hq
  go_enter Tryz.func143, Tryz.ntmps143
  go_wp2
  go_loopw [5, 8] (fun _ iv wr => ∃ k : Nat, k ≤ l.length ∧ iv = .int .i64 k ∧ (l.take k).any (fun r => r.1 == s) = false ∧ Below w.heap.size w wr) (fun _ iv _ => l.length - (intOf iv).toNat)
  case atStart => exact ⟨0, Nat.zero_le _, rfl, rfl, Below.refl _ _⟩
  case round =>
    obtain ⟨k, hk, rfl, hall, hbel⟩ := hrel
    by_cases hlt : k < l.length
    · have hne : l ≠ [] := by intro e; rw [e] at hlt; simp at hlt
      obtain ⟨b1, o1, rfl, hc1⟩ := ((unhide HS).below hbel).2.2.2 hne
      obtain ⟨f, hf⟩ : ∃ f, l[k]? = some f := ⟨l[k], List.getElem?_eq_getElem hlt⟩
      obtain ⟨q0, q1⟩ := Sls.root (cap := 0) hc1 hf
      have hq := (hbel.cell (block_lt_of_cell (unhide HQ))).trans (unhide HQ)
      obtain ⟨t, x⟩ := f
      have HC := hide (leads1_any q t s x wr hq)
      have htk : l.take (k + 1) = l.take k ++ [(t, x)] := by rw [List.take_add_one, hf]; rfl
      have HTK := hide htk
      have HALL := hide hall
      have HMEM := hide (List.mem_of_getElem? hf)
      have HBEL := hide hbel
      dsimp only at *
      clear hc1 hf hne hq hall hbel htk
      cases hx : (t == s)
      · have hnew : (l.take (k + 1)).any (fun r => r.1 == s) = false := by rw [unhide HTK, List.any_append, unhide HALL]; simp [hx]
        have HNEW := hide hnew
        rw [hx] at HC
        clear hnew hx
        go_wp2_with (go_at_call 133; refine (unhide HC).mono ?_; rintro e w1 ⟨rfl, hb1⟩; have HB1 := hide ((unhide HBEL).trans (hb1.mono (unhide HBEL).size)); clear hb1)
        go_roundw
        case rel => exact ⟨k + 1, by omega, by go_num, unhide HNEW, unhide HB1⟩
        case measure => simp [intOf]; omega
      · have hnew : l.any (fun r => r.1 == s) = true := List.any_eq_true.2 ⟨_, unhide HMEM, hx⟩
        have HNEW := hide hnew
        rw [hx] at HC
        clear hnew hx
        go_wp2_with (go_at_call 133; refine (unhide HC).mono ?_; rintro e w1 ⟨rfl, hb1⟩; have HB1 := hide ((unhide HBEL).trans (hb1.mono (unhide HBEL).size)); clear hb1)
        go_ret
        exact ⟨k, rfl, by rw [unhide HNEW]; exact decide_eq_true (by omega), unhide HB1⟩
    · obtain rfl : k = l.length := by omega
      rw [List.take_length] at hall
      have HALL := hide hall
      have HBEL := hide hbel
      clear hall hbel
      go_wp2
      go_ret
      exact ⟨-1, rfl, by rw [unhide HALL]; rfl, unhide HBEL⟩
theorem orCont_any (q : Nat) (s : ByteArray) (a : Option Addr) (cap : Nat) (l : List (ByteArray × Int)) (w : World) (hs : Sls roC 2 w a cap l) (hq : w.cell? ⟨q, 0, none⟩ = some (.string s)) :
    Calls Tryz.prog 132 #[.slice a l.length cap, .func (.func 133) #[] #[.pointer (some ⟨q, 0, none⟩)]] w fun e w' => e = .returned (.bool (l.any (fun r => r.1 == s))) ∧ Below w.heap.size w w' := by
  have HI := hide (orIndex_any q s a cap l w hs hq)
  generalize l.any (fun r => r.1 == s) = R at *
  generalize l.length = N at *
  clear hs hq
  go_enter Tryz.func132, Tryz.ntmps132
  go_wp2_with fail
  refine (unhide HI).mono ?_
  rintro e w1 ⟨i, rfl, hi, hb1⟩
  have HB := hide hb1
  have HR := hide hi
  clear hb1 hi HI
  go_wp2
  go_ret
  exact ⟨by rw [← unhide HR]; rfl, unhide HB⟩
theorem rdLeads_any (hr : Rd w0 w p r n O R) (hR : R.length ≤ 1000) (s : ByteArray) :
    Calls Tryz.prog 117 #[.pointer (some ⟨p, 0, none⟩), .string s] w fun e w' => e = .returned (.bool (hasR R s)) ∧ Rd w0 w' p r n O R := by
  have hB0 : Below w.heap.size w (w.alloc (.cells #[.string s] 9)) := (Below.refl _ _).alloc (Nat.le_refl _) _
  have HR := hide (hr.below hB0)
  obtain ⟨ar, cr, vO, vR, os, hv, rfl⟩ := hr
  have hv2 := hv.below hB0
  unfold hasR
  obtain ⟨a, c, rfl, hs⟩ := hv2.2.2.2.2.2.1.sls roC_len (by omega)
  obtain ⟨c0, c1, c2, c3⟩ := hv2.cells
  have hnew : (w.alloc (.cells #[.string s] 9)).cell? ⟨w.heap.size, 0, none⟩ = some (.string s) := by rw [cell_of_row _ _ _ _ _ _ (heap_alloc_new w _)]; rfl
  have HC := hide (orCont_any w.heap.size s a c R _ hs hnew)
  have hmf : ∀ (fn : Fn) (first cap : Array Value) (w : World), (Instr.makeFunc fn first cap).run Tryz.prog w = .ok (.func fn first cap) w := fun _ _ _ _ => rfl
  generalize R.any (fun o => o.1 == s) = X at *
  generalize R.length = N at *
  clear hv hv2 hs hB0 c0 c1 c2
  go_enter Tryz.func117, Tryz.ntmps117
  go_wp2_with fail
  refine (unhide HC).mono ?_
  rintro e w1 ⟨rfl, hb1⟩
  have HR1 := hide ((unhide HR).below hb1)
  clear hb1 HC HR
  go_wp2
  go_ret
  exact ⟨rfl, unhide HR1⟩
end
end Go.Proofs.YtllpeknpplpgeaaGreatDoor
/-! 'append(v, y)' for rows of any struct, as a step of a region that draws its order. (Part of the proofs.) -/
namespace Go.Proofs.YtllpeknpplpgeaaGreatDoor
open Go.RowKit
set_option linter.unusedVariables false

section
variable {α : Type} {enc : α → List Value} {k T : Nat}
theorem Lst.lowB {w : World} {B B' : Nat} {v : Value} {l : List α} (h : Lst enc k T w B' v l) (hB : B ≤ B') : Lst enc k T w B v l := by
  refine ⟨h.1, ?_⟩
  rcases h.2 with h0 | ⟨g, cap, cur, hv, hb, h3⟩
  · exact .inl h0
  · exact .inr ⟨g, cap, cur, hv, Nat.le_trans hB hb, h3⟩
theorem step_append_lst {P : Program} {w : World} {ops : Array Oper} {o : Oper} {a : Act} {K : Act → World → Prop} {Q : Exit → Act → World → Prop} {E : Prop} (hgd : o.guard = none) (s x : Operand) (t : TypeId)
    (ho : o.op = .call { callee := .builtin .append, args := #[s, x], argTypes := #[t, t] }) (B : Nat) (i0 : TypeInfo) (z : Value) (bytes : Nat)
    (ht : P.underlying t = some (.slice T)) (hi : P.info? T = some i0) (hz : i0.zero = some z) (hsize : i0.size = k) (hby : i0.bytes = bytes) (hzs : z.cells.size = k) (hsz : 0 < k) (hbb : bytes ≤ 100)
    (v : Value) (l : List α) (hs : a.eval s = v) (hown : Lst enc k T w B v l) (g : Nat) (y : α) (hx : a.eval x = .slice (some ⟨g, 0, none⟩) 1 1)
    (hy : w.heap[g]? = some (.cells (enc y).toArray T (0, 0))) (hk : (enc y).length = k) (h1 : ∀ u ∈ enc y, u.oneCell' = true) (hn : l.length ≤ 1000) (hB : B ≤ w.heap.size)
    (h : ∀ g' cap w', Lst enc k T w' B (.slice (some ⟨g', 0, none⟩) (l.length + 1) cap) (l ++ [y]) → Below B w w' → (∀ j, j < w.heap.size → v.ownBlock ≠ some j → w'.heap[j]? = w.heap[j]?) → K (a.put o.dst (.slice (some ⟨g', 0, none⟩) (l.length + 1) cap)) w') :
    if Region.wanted o (yielded ops a.tmps) = true then Oper.wp P o a w K Q else E := by
  refine step_append_lies w hgd s x t ho B T i0 z k bytes ht hi hz hsize hby hzs hsz v l.length (l.flatMap enc) hs hown ⟨g, 0, none⟩ 1 1 (enc y) hx (by rw [hk, Nat.one_mul]) (World.news_of_block hy) h1 (by decide) (by unfold maxLen; omega) (Nat.le_trans (Nat.mul_le_mul (show l.length + 1 ≤ 1001 by omega) hbb) (by decide)) hB w.heap.size rfl ?_
  intro g' cap w' ho' hg' _ _
  refine h g' cap w' ?_ ((Below.refl _ _).grown hg' hB (fun k hk => hown.block k hk)) (fun j hj hne => hg'.block j hj (fun e => hne e.symm))
  unfold Lst
  rw [List.length_append, List.flatMap_append]
  simpa using ho'
end
end Go.Proofs.YtllpeknpplpgeaaGreatDoor
/-! Contracts of package old: one object is read. (Part of the proofs over package old.) -/
namespace Go.Proofs.YtllpeknpplpgeaaGreatDoor
open Go.RowKit
set_option linter.unusedVariables false

theorem obC_hd {r : List Int} {a : Nat} {O : List ((Int × Int × Int × Int) × List Int)} (h : hdE r ≠ 0) : obC r a O = hdE r := by
  unfold hdE at h ⊢
  unfold obC
  by_cases h1 : r.length = 0
  · rw [if_pos h1, if_pos h1]
  rw [if_neg h1] at h ⊢
  rw [if_neg h1]
  by_cases h2 : hndB (r.getD 0 0) = false
  · rw [if_pos h2, if_pos h2]
  · rw [if_neg h2] at h
    exact absurd rfl h
theorem hdE_zero {r : List Int} (h : hdE r = 0) : ¬ r.length = 0 ∧ ¬ hndB (r.getD 0 0) = false := by
  unfold hdE at h
  by_cases h1 : r.length = 0
  · rw [if_pos h1] at h; exact absurd h (by decide)
  rw [if_neg h1] at h
  by_cases h2 : hndB (r.getD 0 0) = false
  · rw [if_pos h2] at h; exact absurd h (by decide)
  exact ⟨h1, h2⟩
section
variable {r : List Int} {a : Nat} {O : List ((Int × Int × Int × Int) × List Int)}
theorem obC_has (h : hdE r = 0) (h2 : hasO O (r.getD 0 0) = true) : obC r a O = 7 := by
  unfold obC
  rw [if_neg (hdE_zero h).1, if_neg (hdE_zero h).2, if_pos h2]
theorem obC_t0 (h : hdE r = 0) (h2 : hasO O (r.getD 0 0) = false) (h3 : r.length ≤ 1) : obC r a O = 2 := by
  unfold obC
  rw [if_neg (hdE_zero h).1, if_neg (hdE_zero h).2, if_neg (by rw [h2]; simp), if_pos h3]
theorem obC_t1 (h : hdE r = 0) (h2 : hasO O (r.getD 0 0) = false) (h3 : ¬ r.length ≤ 1) (h4 : 15 < r.getD 1 0) : obC r a O = 1 := by
  unfold obC
  rw [if_neg (hdE_zero h).1, if_neg (hdE_zero h).2, if_neg (by rw [h2]; simp), if_neg h3, if_pos h4]
theorem obC_l0 (h : hdE r = 0) (h2 : hasO O (r.getD 0 0) = false) (h3 : ¬ r.length ≤ 1) (h4 : ¬ 15 < r.getD 1 0) (h5 : r.length < 4) : obC r a O = 2 := by
  unfold obC
  rw [if_neg (hdE_zero h).1, if_neg (hdE_zero h).2, if_neg (by rw [h2]; simp), if_neg h3, if_neg h4, if_pos h5]
theorem obC_l1 (h : hdE r = 0) (h2 : hasO O (r.getD 0 0) = false) (h4 : ¬ 15 < r.getD 1 0) (h5 : ¬ r.length < 4) (h6 : getV r 2 2 < 1 ∨ 1000 < getV r 2 2) : obC r a O = 1 := by
  unfold obC
  rw [if_neg (hdE_zero h).1, if_neg (hdE_zero h).2, if_neg (by rw [h2]; simp), if_neg (by omega), if_neg h4, if_neg h5, if_pos h6]
theorem obC_b0 (h : hdE r = 0) (h2 : hasO O (r.getD 0 0) = false) (h4 : ¬ 15 < r.getD 1 0) (h5 : ¬ r.length < 4) (h6 : ¬ (getV r 2 2 < 1 ∨ 1000 < getV r 2 2)) (h7 : r.length < 4 + obN r) : obC r a O = 2 := by
  unfold obC
  rw [if_neg (hdE_zero h).1, if_neg (hdE_zero h).2, if_neg (by rw [h2]; simp), if_neg (by omega), if_neg h4, if_neg h5, if_neg h6, if_pos h7]
theorem obC_f (h : hdE r = 0) (h2 : hasO O (r.getD 0 0) = false) (h4 : ¬ 15 < r.getD 1 0) (h5 : ¬ r.length < 4) (h6 : ¬ (getV r 2 2 < 1 ∨ 1000 < getV r 2 2)) (h7 : ¬ r.length < 4 + obN r) : obC r a O = if 6400 < a + obN r then 4 else 0 := by
  unfold obC
  rw [if_neg (hdE_zero h).1, if_neg (hdE_zero h).2, if_neg (by rw [h2]; simp), if_neg (by omega), if_neg h4, if_neg h5, if_neg h6, if_neg h7]
end
theorem getV_drop {r : List Int} : getV (r.drop 2) 0 2 = getV r 2 2 := by
  unfold getV
  rw [List.drop_zero]
theorem getD_drop1 {r : List Int} : (r.drop 1).getD 0 0 = r.getD 1 0 := by simp [List.getD]
section
variable {w0 w : World} {p n : Nat} {r : List Int} {O : List ((Int × Int × Int × Int) × List Int)} {R : List (ByteArray × Int)}
set_option maxRecDepth 100000 in
set_option maxHeartbeats 4000000 in
theorem rdObject_any (h : Rd w0 w p r n O R) (hb : Byt r) (hn : n ≤ 6400) (hO : O.length ≤ 1000) :
    Calls Tryz.prog 86 #[.pointer (some ⟨p, 0, none⟩)] w fun e w' => (obC r n O ≠ 0 ∧ e = Flt (obC r n O) ∧ Below w0.heap.size w0 w') ∨ (obC r n O = 0 ∧ e = .returned (.tuple #[]) ∧ Rd w0 w' p (r.drop (4 + obN r)) (n + obN r) (O ++ [obX r n]) R) := by
  have H1 := hide (rdHandle_any h hb)
  have HHD := hide (fun (hx : hdE r ≠ 0) => obC_hd (a := n) (O := O) hx)
  have HHA := hide (fun (hx : hdE r = 0) (h2 : hasO O (r.getD 0 0) = true) => obC_has (a := n) hx h2)
  have HT0 := hide (fun (hx : hdE r = 0) (h2 : hasO O (r.getD 0 0) = false) h3 => obC_t0 (a := n) hx h2 h3)
  have HT1 := hide (fun (hx : hdE r = 0) (h2 : hasO O (r.getD 0 0) = false) h3 h4 => obC_t1 (a := n) hx h2 h3 h4)
  have HL0 := hide (fun (hx : hdE r = 0) (h2 : hasO O (r.getD 0 0) = false) h3 h4 h5 => obC_l0 (a := n) hx h2 h3 h4 h5)
  have HL1 := hide (fun (hx : hdE r = 0) (h2 : hasO O (r.getD 0 0) = false) h4 h5 h6 => obC_l1 (a := n) hx h2 h4 h5 h6)
  have HB0 := hide (fun (hx : hdE r = 0) (h2 : hasO O (r.getD 0 0) = false) h4 h5 h6 h7 => obC_b0 (a := n) hx h2 h4 h5 h6 h7)
  have HF := hide (fun (hx : hdE r = 0) (h2 : hasO O (r.getD 0 0) = false) h4 h5 h6 h7 => obC_f (a := n) hx h2 h4 h5 h6 h7)
  have HOX : Hid (obX r n = ((r.getD 0 0, (n : Int), getV r 2 2, r.getD 1 0), (r.drop 4).take (obN r))) := hide rfl
  have HON : Hid (obN r = (getV r 2 2).toNat) := hide rfl
  have HG1 := hide (fun (hx : 1 ≤ (r.drop 1).length) => (getV_one hx).trans getD_drop1)
  have HG2 : Hid (getV (r.drop 2) 0 2 = getV r 2 2) := hide getV_drop
  have HBD1 := hide (hb.getD 1)
  have HN := hide (fun (x : Int) (b : Bool) (W : World) (hx : b = false) => need_no b x W hx)
  have HY := hide (fun (x : Int) (b : Bool) (W : World) (hx : b = true) => need_yes b x W hx)
  generalize obC r n O = X at *
  generalize r.getD 0 0 = V0 at *
  generalize r.getD 1 0 = V1 at *
  generalize getV r 2 2 = V2 at *
  generalize obX r n = OX at *
  generalize obN r = M at *
  clear h hb
  go_enter Tryz.func86, Tryz.ntmps86
  go_wp2_with fail
  refine (unhide H1).mono ?_
  rintro e w1 (⟨hs, rfl, hb1⟩ | ⟨⟨hz, hl, hv1, hv2⟩, rfl, hr1⟩)
  · exact ⟨rfl, .inl ⟨by rw [unhide HHD hs]; exact hs, by rw [unhide HHD hs]; rfl, hb1⟩⟩
  have HZ := hide hz
  have HLN := hide hl
  have HR1 := hide (rdHas_any hr1 hO V0)
  clear hz hl hr1 H1 HHD
  go_wp2_with fail
  refine (unhide HR1).mono ?_
  rintro e w2 ⟨rfl, hr2⟩
  clear HR1
  cases hq : hasO O V0
  case true =>
    have HX := hide (unhide HHA (unhide HZ) hq)
    clear hq
    go_wp2_with fail
    refine (unhide HN _ _ _ (by first | rfl | (simp; done) | (simp; omega))).mono ?_
    rintro e w3 ⟨rfl, rfl⟩
    exact ⟨rfl, .inl ⟨by rw [unhide HX]; decide, by rw [unhide HX]; rfl, hr2.world⟩⟩
  have HQ := hide hq
  have HR2 := hide (rdNum_any hr2 1 (Nat.le_refl _) (by omega))
  clear hq hr2 HHA
  go_wp2_with fail
  refine (unhide HY _ _ _ (by first | rfl | (simp; done) | (simp; omega))).mono ?_
  rintro e w3 ⟨rfl, rfl⟩
  go_wp2_with fail
  refine (unhide HR2).mono ?_
  clear HR2
  rintro e w4 (⟨hs, rfl, hb4⟩ | ⟨hs, rfl, hr4⟩)
  · have hx := unhide HT0 (unhide HZ) (unhide HQ) (by rw [List.length_drop] at hs; omega)
    exact ⟨rfl, .inl ⟨by rw [hx]; decide, by rw [hx]; rfl, hb4⟩⟩
  rw [unhide HG1 hs]
  rw [List.drop_drop, show 1 + 1 = 2 from rfl] at hr4
  have hl1 : ¬ r.length ≤ 1 := by rw [List.length_drop] at hs; omega
  have HL1N := hide hl1
  have HR4 := hide hr4
  have hbd1 := unhide HBD1
  clear hs hr4 hl1 HG1 HT0 HBD1
  by_cases h15 : V1 ≤ 15
  case neg =>
    have HX := hide (unhide HT1 (unhide HZ) (unhide HQ) (unhide HL1N) (by omega))
    go_wp2_with fail
    refine (unhide HN _ _ _ (by first | rfl | (simp; done) | (simp; omega))).mono ?_
    rintro e w5 ⟨rfl, rfl⟩
    exact ⟨rfl, .inl ⟨by rw [unhide HX]; decide, by rw [unhide HX]; rfl, (unhide HR4).world⟩⟩
  have h15' : ¬ 15 < V1 := by omega
  have H15 := hide h15'
  have HR5 := hide (rdNum_any (unhide HR4) 2 (by omega) (by omega))
  clear h15' HR4 HT1
  go_wp2_with fail
  refine (unhide HY _ _ _ (by first | rfl | (simp; done) | (simp; omega))).mono ?_
  rintro e w5 ⟨rfl, rfl⟩
  go_wp2_with fail
  refine (unhide HR5).mono ?_
  clear HR5
  rintro e w6 (⟨hs, rfl, hb6⟩ | ⟨hs, rfl, hr6⟩)
  · have hx := unhide HL0 (unhide HZ) (unhide HQ) (unhide HL1N) (unhide H15) (by have := unhide HL1N; rw [List.length_drop] at hs; omega)
    exact ⟨rfl, .inl ⟨by rw [hx]; decide, by rw [hx]; rfl, hb6⟩⟩
  rw [unhide HG2]
  rw [List.drop_drop, show 2 + 2 = 4 from rfl] at hr6
  have hl4 : ¬ r.length < 4 := by rw [List.length_drop] at hs; omega
  have HL4 := hide hl4
  have HR6 := hide hr6
  clear hs hr6 hl4 HG2 HL0
  by_cases hv21 : 1 ≤ V2
  case neg =>
    have HX := hide (unhide HL1 (unhide HZ) (unhide HQ) (unhide H15) (unhide HL4) (.inl (by omega)))
    go_wp2_with fail
    refine (unhide HN _ _ _ (by first | rfl | (simp; done) | (simp; omega))).mono ?_
    rintro e w7 ⟨rfl, rfl⟩
    exact ⟨rfl, .inl ⟨by rw [unhide HX]; decide, by rw [unhide HX]; rfl, (unhide HR6).world⟩⟩
  by_cases hv22 : V2 ≤ 1000
  case neg =>
    have HX := hide (unhide HL1 (unhide HZ) (unhide HQ) (unhide H15) (unhide HL4) (.inr (by omega)))
    go_wp2_with fail
    refine (unhide HN _ _ _ (by first | rfl | (simp; done) | (simp; omega))).mono ?_
    rintro e w7 ⟨rfl, rfl⟩
    exact ⟨rfl, .inl ⟨by rw [unhide HX]; decide, by rw [unhide HX]; rfl, (unhide HR6).world⟩⟩
  have hV2 : V2 = (M : Int) := by have := unhide HON; omega
  subst hV2
  have hv2' : ¬ ((M : Int) < 1 ∨ 1000 < (M : Int)) := by omega
  have HV2 := hide hv2'
  clear hv2' HL1 HON
  go_wp2_with fail
  refine (unhide HY _ _ _ (by first | rfl | (simp; done) | (simp; omega))).mono ?_
  rintro e w7 ⟨rfl, rfl⟩
  by_cases hm : M ≤ (r.drop 4).length
  case neg =>
    have HX := hide (unhide HB0 (unhide HZ) (unhide HQ) (unhide H15) (unhide HL4) (unhide HV2) (by have := unhide HL4; rw [List.length_drop] at hm; omega))
    have HR7 := hide (rdTake_no (unhide HR6) M (by omega))
    clear hm HR6
    go_wp2_with fail
    refine (unhide HR7).mono ?_
    rintro e w8 ⟨rfl, hb8⟩
    exact ⟨rfl, .inl ⟨by rw [unhide HX]; decide, by rw [unhide HX]; rfl, hb8⟩⟩
  have hml : ¬ r.length < 4 + M := by have := unhide HL4; rw [List.length_drop] at hm; omega
  have HXF := hide (unhide HF (unhide HZ) (unhide HQ) (unhide H15) (unhide HL4) (unhide HV2) hml)
  have HR7 := hide (rdTake_yes (unhide HR6) M hm)
  have hbl : ((r.drop 4).take M).length = M := by rw [List.length_take]; omega
  have HBL := hide hbl
  clear hm hml hbl HR6 HF HB0 HZ HQ H15 HL4 HV2 HLN HL1N
  go_wp2_with fail
  refine (unhide HR7).mono ?_
  clear HR7
  rintro e w8 ⟨a8, c8, rfl, hb8, hr8⟩
  rw [List.drop_drop] at hr8
  generalize (r.drop 4).take M = BD at *
  generalize hRD : r.drop (4 + M) = RD at hr8
  have HRD : Hid (r.drop (4 + M) = RD) := hide hRD
  clear hRD
  obtain ⟨ar, cr, vO, vR, os, hv, hos⟩ := hr8
  have HOS := hide hos
  have hol : os.length ≤ 1000 := by rw [← hos, List.length_map] at hO; exact hO
  obtain ⟨q0, q1, q2, q3⟩ := hv.cells
  have HV := hide hv
  have HB8 := hide hb8
  clear hv hb8 hos hO q0 q3
  by_cases hf : n + M ≤ 6400
  case neg =>
    have hx := unhide HXF
    rw [if_pos (by omega)] at hx
    have HX := hide hx
    have hmI : decide ((M : Int) ≤ 6400 - (n : Int)) = false := decide_eq_false (by omega)
    clear hx HXF q2
    go_wp2_with fail
    refine (unhide HN _ _ _ (by first | rfl | exact hmI | (simp; done) | (simp; omega))).mono ?_
    rintro e w9 ⟨rfl, rfl⟩
    exact ⟨rfl, .inl ⟨by rw [unhide HX]; decide, by rw [unhide HX]; rfl, (unhide HV).world⟩⟩
  have hx := unhide HXF
  rw [if_neg (by omega)] at hx
  have HX := hide hx
  have hmI : decide ((M : Int) ≤ 6400 - (n : Int)) = true := decide_eq_true (by omega)
  clear hx HXF
  go_wp2_with fail
  refine (unhide HY _ _ _ (by first | rfl | exact hmI | (simp; done) | (simp; omega))).mono ?_
  rintro e w9 ⟨rfl, rfl⟩
  have hB9 : Below w8.heap.size w8 (w8.alloc (.cells #[.int .i64 n, .int .i64 M] 45)) := (Below.refl _ _).alloc (Nat.le_refl _) _
  have hv9 := (unhide HV).below hB9
  obtain ⟨s0, s1, s2, s3⟩ := hv9.cells
  have f2 := hv9.frozen 2
  have hen := heap_alloc_new w8 (.cells #[.int .i64 n, .int .i64 M] 45)
  have t0 : (w8.alloc (.cells #[.int .i64 n, .int .i64 M] 45)).cell? ⟨w8.heap.size, 0, none⟩ = some (.int .i64 n) := by rw [cell_of_row _ _ _ _ _ _ hen]; rfl
  have t1 : (w8.alloc (.cells #[.int .i64 n, .int .i64 M] 45)).cell? ⟨w8.heap.size, 1, none⟩ = some (.int .i64 M) := by rw [cell_of_row _ _ _ _ _ _ hen]; rfl
  have h9s : w8.heap.size < (w8.alloc (.cells #[.int .i64 n, .int .i64 M] 45)).heap.size := by simp
  clear s0 s3 hen hB9 q2 HV
  obtain ⟨i0, hi0, hz0, hz1, hz2⟩ := info_parts info_oj
  go_wp2_with fail
  clear q1
  generalize w8.alloc (.cells #[.int .i64 n, .int .i64 M] 45) = w9 at *
  have hd9 : Below w9.heap.size w9 w9.drew := below_drew (Below.refl _ _)
  have ha9 : Below w9.drew.heap.size w9.drew (w9.drew.alloc (.cells #[.int .i64 V0, .int .i64 n, .int .i64 M, .int .i64 V1, .slice a8 M c8] 102)) := (Below.refl _ _).alloc (Nat.le_refl _) _
  have hvA := (hv9.below hd9).below ha9
  have HO3 := hide hvA.2.2.2.1
  have hplt := hvA.lt
  have hplt9 := hv9.lt
  have HGN : Hid ((w9.drew.alloc (.cells #[.int .i64 V0, .int .i64 n, .int .i64 M, .int .i64 V1, .slice a8 M c8] 102)).heap[w9.heap.size]? = some (.cells (ojC ((V0, (n : Int), (M : Int), V1), a8, c8, BD)).toArray 102 (0, 0))) := hide (by
    unfold ojC
    dsimp only
    rw [unhide HBL]
    exact heap_alloc_new w9.drew _)
  have HVA := hide hvA
  clear hv9 hd9 ha9 hvA
  go_region_law (refine step_append_lst (by rfl) (.tmp 49) (.tmp 56) 58 (by rfl) (p + 1) i0 (.agg #[.int .i64 0, .int .i64 0, .int .i64 0, .int .i64 0, .slice none 0 0]) 56 Tryz.underlying58 hi0 hz0 hz1 hz2 rfl (by decide) (by decide) _ os (by rfl) (unhide HO3) w9.heap.size ((V0, (n : Int), (M : Int), V1), a8, c8, BD) (by rfl) (unhide HGN) rfl (ojC_one _) hol (by first | exact hplt | (simp; omega)) ?_; intro g10 c10 w10 hL10 hb10 hk10; have hbk := (hb10.block p (Nat.lt_succ_self _)).trans (unhide HVA).2.1; have hc10 : w10.cell? ⟨p, 2, none⟩ = some vO := (by rw [cell_of_row _ _ _ _ _ _ hbk]; rfl); have hf10 := frozen_of_row _ _ 2 _ _ hbk; have hvB := (unhide HVA).object (unhide HB8) hL10 hb10 hk10)
  all_goals
    obtain ⟨s10, s11, s12, s13⟩ := hvB.cells
    have f11 := hvB.frozen 1
    have hend := hvB.place (n + M)
    rw [Int.natCast_add] at hend
    have HEND := hide hend
    have HMAP : Hid ((os ++ [((V0, (n : Int), (M : Int), V1), a8, c8, BD)]).map ojP = O ++ [OX]) := hide (by rw [List.map_append, unhide HOS, unhide HOX]; rfl)
    clear hvB hend hL10 hb10 hk10 hbk hc10 hf10 s10 s12 s13 s1 s2 t0 t1 f2 HVA HGN HO3
    generalize w10.setCell ⟨p, 2, none⟩ (.slice (some ⟨g10, 0, none⟩) (os.length + 1) c10) = w11 at *
    go_wp2
    go_end0
    exact .inr ⟨unhide HX, rfl, by rw [unhide HRD]; exact ⟨_, _, _, _, _, unhide HEND, unhide HMAP⟩⟩
end
end Go.Proofs.YtllpeknpplpgeaaGreatDoor
/-! Contracts of package old: one root is read. (Part of the proofs over package old.) -/
namespace Go.Proofs.YtllpeknpplpgeaaGreatDoor
open Go.RowKit
set_option linter.unusedVariables false

section
variable {r : List Int} {O : List ((Int × Int × Int × Int) × List Int)} {R : List (ByteArray × Int)}
theorem roF_l (h : r.length < 8) : roF r O R = 2 := by
  unfold roF
  rw [if_pos h]
theorem roF_n (h : ¬ r.length < 8) (h2 : (readOut (r.take 8)).2 ≠ 0) : roF r O R = 2 := by
  unfold roF
  rw [if_neg h, if_pos h2]
theorem roF_h (h : ¬ r.length < 8) (h2 : (readOut (r.take 8)).2 = 0) (h3 : hasR R (readOut (r.take 8)).1 = true) : roF r O R = 7 := by
  unfold roF
  rw [if_neg h, if_neg (fun hx => hx h2), if_pos h3]
theorem getD_drop8 : (r.drop 8).getD 0 0 = r.getD 8 0 := by simp [List.getD]
theorem roF_hd (h : ¬ r.length < 8) (h2 : (readOut (r.take 8)).2 = 0) (h3 : hasR R (readOut (r.take 8)).1 = false) (h4 : hdE (r.drop 8) ≠ 0) : roF r O R = hdE (r.drop 8) := by
  unfold roF
  rw [if_neg h, if_neg (fun hx => hx h2), if_neg (by rw [h3]; simp)]
  unfold hdE at h4 ⊢
  rw [getD_drop8] at h4 ⊢
  by_cases h5 : r.length < 9
  · rw [if_pos h5, if_pos (by rw [List.length_drop]; omega)]
  rw [if_neg h5]
  have h6 : ¬ (r.drop 8).length = 0 := by rw [List.length_drop]; omega
  rw [if_neg h6] at h4 ⊢
  by_cases h7 : hndB (r.getD 8 0) = false
  · rw [if_pos h7, if_pos h7]
  · rw [if_neg h7] at h4
    exact absurd rfl h4
theorem roF_ob (h : ¬ r.length < 8) (h2 : (readOut (r.take 8)).2 = 0) (h3 : hasR R (readOut (r.take 8)).1 = false) (h4 : hdE (r.drop 8) = 0) : roF r O R = if hasO O (r.getD 8 0) = false then 5 else 0 := by
  obtain ⟨h5, h6⟩ := hdE_zero h4
  rw [getD_drop8] at h6
  unfold roF
  rw [if_neg h, if_neg (fun hx => hx h2), if_neg (by rw [h3]; simp), if_neg (by rw [List.length_drop] at h5; omega), if_neg h6]
end
section
variable {w0 w : World} {p n : Nat} {r : List Int} {O : List ((Int × Int × Int × Int) × List Int)} {R : List (ByteArray × Int)}
set_option maxRecDepth 100000 in
set_option maxHeartbeats 4000000 in
theorem rdRoot_any (h : Rd w0 w p r n O R) (hb : Byt r) (hO : O.length ≤ 1000) (hR : R.length ≤ 1000) :
    Calls Tryz.prog 87 #[.pointer (some ⟨p, 0, none⟩)] w fun e w' => (roF r O R ≠ 0 ∧ e = Flt (roF r O R) ∧ Below w0.heap.size w0 w') ∨ (roF r O R = 0 ∧ e = .returned (.tuple #[]) ∧ Rd w0 w' p (r.drop 9) n O (R ++ [((readOut (r.take 8)).1, r.getD 8 0)])) := by
  have HL0 := hide (fun hx => roF_l (r := r) (O := O) (R := R) hx)
  have HN0 := hide (fun hx h2 => roF_n (r := r) (O := O) (R := R) hx h2)
  have HH0 := hide (fun hx h2 h3 => roF_h (r := r) (O := O) (R := R) hx h2 h3)
  have HHD := hide (fun hx h2 h3 h4 => roF_hd (r := r) (O := O) (R := R) hx h2 h3 h4)
  have HOB := hide (fun hx h2 h3 h4 => roF_ob (r := r) (O := O) (R := R) hx h2 h3 h4)
  have HG8 : Hid ((r.drop 8).getD 0 0 = r.getD 8 0) := hide getD_drop8
  have HB8 : Hid (Byt (r.drop 8)) := hide (fun z hz => hb z (List.mem_of_mem_drop hz))
  have HN := hide (fun (x : Int) (b : Bool) (W : World) (hx : b = false) => need_no b x W hx)
  have HY := hide (fun (x : Int) (b : Bool) (W : World) (hx : b = true) => need_yes b x W hx)
  have HGN := hide (fun (W : World) (a' : Option Addr) (c' : Nat) (hx : Bs W a' c' (r.take 8)) => getName_any a' c' (r.take 8) W hx)
  have HTY := hide (fun hx => rdTake_yes h 8 hx)
  have HTN := hide (fun hx => rdTake_no h 8 hx)
  generalize roF r O R = X at *
  generalize r.getD 8 0 = V at *
  have hl8 : ¬ r.length < 8 → (r.take 8).length = 8 := fun hx => by rw [List.length_take]; omega
  have HL8 := hide hl8
  clear h hb hl8
  by_cases h8 : r.length < 8
  · have hx := unhide HL0 h8
    have HX := hide hx
    have HC := hide (unhide HTN h8)
    clear hx h8
    go_enter Tryz.func87, Tryz.ntmps87
    go_wp2_with fail
    refine (unhide HC).mono ?_
    rintro e w1 ⟨rfl, hb1⟩
    exact ⟨rfl, .inl ⟨by rw [unhide HX]; decide, by rw [unhide HX]; rfl, hb1⟩⟩
  have H8 := hide h8
  have HC := hide (unhide HTY (by omega))
  have hl := unhide HL8 h8
  rw [hl] at HGN
  clear h8 hl HTY HTN HL0 HL8
  generalize (readOut (r.take 8)).1 = S at *
  generalize (readOut (r.take 8)).2 = E at *
  go_enter Tryz.func87, Tryz.ntmps87
  go_wp2_with fail
  refine (unhide HC).mono ?_
  rintro e w1 ⟨a1, c1, rfl, hb1, hr1⟩
  have HC1 := hide (unhide HGN w1 a1 c1 (hb1.below hr1.world))
  have HR1 := hide hr1
  clear HC HGN hb1 hr1
  go_wp2_with fail
  refine (unhide HC1).mono ?_
  rintro e w2 ⟨rfl, hb2⟩
  have HR2 := hide ((unhide HR1).below hb2)
  clear hb2 HR1 HC1
  by_cases hE : E = 0
  case neg =>
    have HX := hide (unhide HN0 (unhide H8) hE)
    rw [errV_pos E hE]
    go_wp2_with fail
    refine (unhide HN _ _ _ (by first | rfl | (simp; done) | (simp; omega))).mono ?_
    rintro e w3 ⟨rfl, rfl⟩
    exact ⟨rfl, .inl ⟨by rw [unhide HX]; decide, by rw [unhide HX]; rfl, (unhide HR2).world⟩⟩
  subst hE
  rw [show errV 0 = .nilIface from rfl]
  have HC2 := hide (rdLeads_any (unhide HR2) hR S)
  clear HN0 HR2
  go_wp2_with fail
  refine (unhide HY _ _ _ (by first | rfl | (simp; done) | (simp; omega))).mono ?_
  rintro e w3 ⟨rfl, rfl⟩
  go_wp2_with fail
  refine (unhide HC2).mono ?_
  rintro e w4 ⟨rfl, hr4⟩
  clear HC2
  cases hq : hasR R S
  case true =>
    have HX := hide (unhide HH0 (unhide H8) (by first | rfl | trivial) hq)
    clear hq
    go_wp2_with fail
    refine (unhide HN _ _ _ (by first | rfl | (simp; done) | (simp; omega))).mono ?_
    rintro e w5 ⟨rfl, rfl⟩
    exact ⟨rfl, .inl ⟨by rw [unhide HX]; decide, by rw [unhide HX]; rfl, hr4.world⟩⟩
  have HQ := hide hq
  have HC4 := hide (rdHandle_any hr4 (unhide HB8))
  rw [unhide HG8] at HC4
  clear hq hr4 HH0 HB8
  go_wp2_with fail
  refine (unhide HY _ _ _ (by first | rfl | (simp; done) | (simp; omega))).mono ?_
  rintro e w5 ⟨rfl, rfl⟩
  go_wp2_with fail
  refine (unhide HC4).mono ?_
  clear HC4
  rintro e w6 (⟨hs, rfl, hb6⟩ | ⟨⟨hz, hl, hv1, hv2⟩, rfl, hr6⟩)
  · have hx := unhide HHD (unhide H8) (by first | rfl | trivial) (unhide HQ) hs
    exact ⟨rfl, .inl ⟨by rw [hx]; exact hs, by rw [hx]; rfl, hb6⟩⟩
  have HXF := hide (unhide HOB (unhide H8) (by first | rfl | trivial) (unhide HQ) hz)
  rw [List.drop_drop, show 8 + 1 = 9 from rfl] at hr6
  have HC6 := hide (rdHas_any hr6 hO V)
  clear hz hl hr6 HHD HOB HQ HG8 H8
  go_wp2_with fail
  refine (unhide HC6).mono ?_
  rintro e w7 ⟨rfl, hr7⟩
  clear HC6
  cases hq : hasO O V
  case false =>
    have hx := unhide HXF
    rw [if_pos hq] at hx
    have HX := hide hx
    clear hq hx
    go_wp2_with fail
    refine (unhide HN _ _ _ (by first | rfl | (simp; done) | (simp; omega))).mono ?_
    rintro e w8 ⟨rfl, rfl⟩
    exact ⟨rfl, .inl ⟨by rw [unhide HX]; decide, by rw [unhide HX]; rfl, hr7.world⟩⟩
  have hx := unhide HXF
  rw [if_neg (by rw [hq]; simp)] at hx
  have HX := hide hx
  obtain ⟨ar, cr, vO, vR, os, hv, hos⟩ := hr7
  have HOS := hide hos
  obtain ⟨q0, q1, q2, q3⟩ := hv.cells
  have hf3 := hv.frozen 3
  have hplt := hv.lt
  have hB9 : Below w7.heap.size w7 (w7.alloc (.cells #[.string S, .int .i64 V] 57)) := (Below.refl _ _).alloc (Nat.le_refl _) _
  have hv9 := hv.below hB9
  have HO9 := hide hv9.2.2.2.2.2.1
  have HV9 := hide hv9
  have HNEW : Hid ((w7.alloc (.cells #[.string S, .int .i64 V] 57)).heap[w7.heap.size]? = some (.cells (roC (S, V)).toArray 57 (0, 0))) := hide (heap_alloc_new w7 _)
  obtain ⟨i0, hi0, hz0, hz1, hz2⟩ := info_parts info_root
  clear hq hx hos HXF q0 q1 q2 hv hB9 hv9
  go_wp2_with fail
  refine (unhide HY _ _ _ (by first | rfl | (simp; done) | (simp; omega))).mono ?_
  rintro e w8 ⟨rfl, rfl⟩
  go_wp2_with (at_builtin; refine wpList_append_lst2 rfl _ _ 59 rfl (p + 1) i0 (.agg #[.string ByteArray.empty, .int .i64 0]) 24 Tryz.underlying59 hi0 hz0 hz1 hz2 rfl (by decide) (by decide) _ R rfl (unhide HO9) w7.heap.size (S, V) rfl (unhide HNEW) rfl (roC_one _) hR (by simp; omega) ?_; intro v10 w10 hL10 hb10 hk10; obtain ⟨va10, vm10, vc10, rfl⟩ := hL10.shape; have hbk := (hb10.block p (Nat.lt_succ_self _)).trans (unhide HV9).2.1; have hc10 : w10.cell? ⟨p, 3, none⟩ = some vR := (by rw [cell_of_row _ _ _ _ _ _ hbk]; rfl); have hf10 := frozen_of_row _ _ 3 _ _ hbk; have HVB := hide ((unhide HV9).root hL10 hb10 hk10); clear hL10 hb10 hk10 hbk)
  go_end0
  exact .inr ⟨unhide HX, rfl, ⟨_, _, _, _, _, unhide HVB, unhide HOS⟩⟩
end
end Go.Proofs.YtllpeknpplpgeaaGreatDoor
/-! Contracts of package old: the whole reading. (Part of the proofs over package old.) -/
namespace Go.Proofs.YtllpeknpplpgeaaGreatDoor
open Go.RowKit
set_option linter.unusedVariables false

section
variable {b r : List Int} {a : Nat} {O : List ((Int × Int × Int × Int) × List Int)} {R : List (ByteArray × Int)}
theorem obK_stop (k : Nat) (h : obC r a O ≠ 0) : obK (k + 1) r a O = (obC r a O, [], 0, []) := by
  show (if obC r a O ≠ 0 then _ else _) = _
  rw [if_pos h]
theorem obK_go (k : Nat) (h : obC r a O = 0) : obK (k + 1) r a O = obK k (r.drop (4 + obN r)) (a + obN r) (O ++ [obX r a]) := by
  show (if obC r a O ≠ 0 then _ else _) = _
  rw [if_neg (fun hx => hx h)]
theorem roK_stop (k : Nat) (h : roF r O R ≠ 0) : roK (k + 1) r O R = (roF r O R, [], []) := by
  show (if roF r O R ≠ 0 then _ else _) = _
  rw [if_pos h]
theorem roK_go (k : Nat) (h : roF r O R = 0) : roK (k + 1) r O R = roK k (r.drop 9) O (R ++ [((readOut (r.take 8)).1, r.getD 8 0)]) := by
  show (if roF r O R ≠ 0 then _ else _) = _
  rw [if_neg (fun hx => hx h)]
theorem obC_room (h : obC r a O = 0) : a + obN r ≤ 6400 := by
  by_cases hx : a + obN r ≤ 6400
  · exact hx
  · unfold obC at h
    rw [if_pos (show 6400 < a + obN r by omega)] at h
    repeat' split at h
    all_goals exact absurd h (by decide)
theorem upK_hd (h : hdB b = false) : upK b = (2, [], []) := by unfold upK; rw [if_pos h]
theorem upK_n (h : hdB b = true) (h2 : b.length < 5 ∨ 40 < b.getD 4 0) : upK b = (2, [], []) := by unfold upK; rw [if_neg (by rw [h]; simp), if_pos h2]
theorem upK_o (h : hdB b = true) (h2 : ¬ (b.length < 5 ∨ 40 < b.getD 4 0)) (h3 : (upB b).1 ≠ 0) : upK b = ((upB b).1, [], []) := by unfold upK; rw [if_neg (by rw [h]; simp), if_neg h2, if_pos h3]
theorem upK_m (h : hdB b = true) (h2 : ¬ (b.length < 5 ∨ 40 < b.getD 4 0)) (h3 : (upB b).1 = 0) (h4 : (upB b).2.1.length = 0 ∨ 8 < (upB b).2.1.getD 0 0) : upK b = (2, [], []) := by unfold upK; rw [if_neg (by rw [h]; simp), if_neg h2, if_neg (fun hx => hx h3), if_pos h4]
theorem upK_r (h : hdB b = true) (h2 : ¬ (b.length < 5 ∨ 40 < b.getD 4 0)) (h3 : (upB b).1 = 0) (h4 : ¬ ((upB b).2.1.length = 0 ∨ 8 < (upB b).2.1.getD 0 0)) (h5 : (upC (upB b)).1 ≠ 0) : upK b = ((upC (upB b)).1, [], []) := by unfold upK; rw [if_neg (by rw [h]; simp), if_neg h2, if_neg (fun hx => hx h3), if_neg h4, if_pos h5]
theorem upK_e (h : hdB b = true) (h2 : ¬ (b.length < 5 ∨ 40 < b.getD 4 0)) (h3 : (upB b).1 = 0) (h4 : ¬ ((upB b).2.1.length = 0 ∨ 8 < (upB b).2.1.getD 0 0)) (h5 : (upC (upB b)).1 = 0) (h6 : (upC (upB b)).2.1 ≠ []) : upK b = (2, [], []) := by unfold upK; rw [if_neg (by rw [h]; simp), if_neg h2, if_neg (fun hx => hx h3), if_neg h4, if_neg (fun hx => hx h5), if_pos h6]
theorem upK_ok (h : hdB b = true) (h2 : ¬ (b.length < 5 ∨ 40 < b.getD 4 0)) (h3 : (upB b).1 = 0) (h4 : ¬ ((upB b).2.1.length = 0 ∨ 8 < (upB b).2.1.getD 0 0)) (h5 : (upC (upB b)).1 = 0) (h6 : (upC (upB b)).2.1 = []) : upK b = (0, (upB b).2.2.2, (upC (upB b)).2.2) := by unfold upK; rw [if_neg (by rw [h]; simp), if_neg h2, if_neg (fun hx => hx h3), if_neg h4, if_neg (fun hx => hx h5), if_neg (fun hx => hx h6)]
theorem hdB_len (h : b.length < 4) : hdB b = false := by unfold hdB; rw [decide_eq_false (by omega)]; rfl
theorem hdB_take (h : 4 ≤ b.length) : hdB b = decide (b.take 4 = [79, 76, 68, 49]) := by
  match b, h with
  | x0 :: x1 :: x2 :: x3 :: l, _ =>
    show (decide (4 ≤ (x0 :: x1 :: x2 :: x3 :: l).length) && (decide (x0 = 79) && (decide (x1 = 76) && (decide (x2 = 68) && decide (x3 = 49))))) = decide ([x0, x1, x2, x3] = [79, 76, 68, 49])
    rw [decide_eq_true (by simp), Bool.true_and]
    by_cases h0 : x0 = 79 <;> by_cases h1 : x1 = 76 <;> by_cases h2 : x2 = 68 <;> by_cases h3 : x3 = 49 <;> simp [h0, h1, h2, h3]
theorem strL_old : strL { data := #[79, 76, 68, 49] } = [79, 76, 68, 49] := by decide
theorem toL_old : ({ data := #[79, 76, 68, 49] } : ByteArray).toList = [79, 76, 68, 49] := by rw [ByteArray.toList_eq]
theorem hdB_str (h : 4 ≤ b.length) (hb : Byt b) : ((strOf (b.take 4)).toList == [79, 76, 68, 49]) = hdB b := by
  rw [hdB_take h, ← toL_old]
  by_cases e : b.take 4 = [79, 76, 68, 49]
  · rw [decide_eq_true e]
    refine toL_iff.2 ?_
    rw [e, ← strL_old, strOf_strL]
  · rw [decide_eq_false e]
    refine toL_no (fun hx => e ?_)
    rw [← strL_strOf (b.take 4) (fun z hz => hb z (List.mem_of_mem_take hz)), hx, strL_old]
end
section
variable {w0 w : World} {p : Nat} {b : List Int}
set_option maxRecDepth 100000 in
set_option maxHeartbeats 4000000 in
theorem rdAll_any (h : Rd w0 w p b 288 [] []) (hb : Byt b) :
    Calls Tryz.prog 54 #[.pointer (some ⟨p, 0, none⟩)] w fun e w' => ((upK b).1 ≠ 0 ∧ e = Flt (upK b).1 ∧ Below w0.heap.size w0 w') ∨ ((upK b).1 = 0 ∧ e = .returned (.tuple #[]) ∧ ∃ r n, Rd w0 w' p r n (upK b).2.1 (upK b).2.2) := by
  have HN := hide (fun (x : Int) (b : Bool) (W : World) (hx : b = false) => need_no b x W hx)
  have HY := hide (fun (x : Int) (b : Bool) (W : World) (hx : b = true) => need_yes b x W hx)
  by_cases h4 : 4 ≤ b.length
  case neg =>
    have HX := hide (upK_hd (hdB_len (b := b) (by omega)))
    have HC := hide (rdTake_no h 4 (by omega))
    clear h hb h4
    generalize upK b = X at *
    go_enter Tryz.func54, Tryz.ntmps54
    go_wp2_with fail
    refine (unhide HC).mono ?_
    rintro e w1 ⟨rfl, hb1⟩
    exact ⟨rfl, .inl ⟨by rw [unhide HX]; decide, by rw [unhide HX]; rfl, hb1⟩⟩
  have HC := hide (rdTake_yes h 4 h4)
  have HEQ := hide (hdB_str h4 hb)
  have HBY := hide hb
  have HCV := hide (fun (W : World) (a' : Option Addr) (c' : Nat) (hx : Bs W a' c' (b.take 4)) => conv_str (P := Tryz.prog) Tryz.underlying22 Tryz.underlying5 Tryz.underlying9 hx)
  have hl4 : (b.take 4).length = 4 := by rw [List.length_take]; omega
  rw [hl4] at HCV
  generalize strOf (b.take 4) = S4 at *
  clear h hb hl4
  go_enter Tryz.func54, Tryz.ntmps54
  go_wp2_with fail
  refine (unhide HC).mono ?_
  rintro e w1 ⟨a1, c1, rfl, hb1, hr1⟩
  have hcv := unhide HCV w1 a1 c1 (hb1.below hr1.world)
  have HR1 := hide hr1
  clear hb1 hr1 HC HCV
  have heq := unhide HEQ
  cases hHD : hdB b
  case false =>
    rw [hHD] at heq
    have HX := hide (upK_hd hHD)
    clear hHD HEQ
    go_wp2_with fail
    refine (unhide HN _ _ _ (by first | exact heq | rfl | (simp; done))).mono ?_
    rintro e w2 ⟨rfl, rfl⟩
    exact ⟨rfl, .inl ⟨by rw [unhide HX]; decide, by rw [unhide HX]; rfl, (unhide HR1).world⟩⟩
  rw [hHD] at heq
  have HHD := hide hHD
  have HB4 : Hid (Byt (b.drop 4)) := hide (fun z hz => unhide HBY z (List.mem_of_mem_drop hz))
  have HC1 := hide (rdCount_any (unhide HR1) (unhide HB4) 40 (by omega))
  have hgd : (b.drop 4).getD 0 0 = b.getD 4 0 := by simp [List.getD]
  rw [hgd] at HC1
  have hbd := (unhide HBY).getD 4
  clear hHD HEQ HR1 hgd
  go_wp2_with fail
  refine (unhide HY _ _ _ (by first | exact heq | rfl | (simp; done))).mono ?_
  rintro e w2 ⟨rfl, rfl⟩
  clear heq hcv
  go_wp2_with fail
  refine (unhide HC1).mono ?_
  clear HC1
  rintro e w3 (⟨hs, rfl, hb3⟩ | ⟨⟨hs, h40⟩, rfl, hr3⟩)
  · have hx := upK_n (unhide HHD) (by rw [List.length_drop] at hs; omega)
    exact ⟨rfl, .inl ⟨by rw [hx]; decide, by rw [hx]; rfl, hb3⟩⟩
  have hn : ¬ (b.length < 5 ∨ 40 < b.getD 4 0) := by rw [List.length_drop] at hs; omega
  have HNN := hide hn
  rw [List.drop_drop, show 4 + 1 = 5 from rfl] at hr3
  have HR3 := hide hr3
  have HUB : Hid (obK (b.getD 4 0).toNat (b.drop 5) 288 [] = upB b) := hide rfl
  have HBY5 : Hid (Byt (b.drop 5)) := hide (fun z hz => unhide HBY z (List.mem_of_mem_drop hz))
  obtain ⟨N, hN⟩ := Int.eq_ofNat_of_zero_le hbd.1
  have hN40 : N ≤ 40 := by omega
  rw [hN, Int.toNat_natCast] at HUB
  rw [hN]
  have HXO := hide (fun h3 => upK_o (unhide HHD) (unhide HNN) h3)
  have HXM := hide (fun h3 h4 => upK_m (unhide HHD) (unhide HNN) h3 h4)
  have HXR := hide (fun h3 h4 h5 => upK_r (unhide HHD) (unhide HNN) h3 h4 h5)
  have HXE := hide (fun h3 h4 h5 h6 => upK_e (unhide HHD) (unhide HNN) h3 h4 h5 h6)
  have HXK := hide (fun h3 h4 h5 h6 => upK_ok (unhide HHD) (unhide HNN) h3 h4 h5 h6)
  clear hs h40 hn hr3 hbd hN HHD HNN HB4 HBY h4
  generalize hXX : upK b = X at *
  have HXX := hide hXX
  clear hXX
  generalize upB b = U at *
  go_wp2_with fail
  go_loopw [9] (fun iv wr => ∃ (k : Nat) (r : List Int) (n : Nat) (O : List ((Int × Int × Int × Int) × List Int)), k ≤ N ∧ iv = .int .i64 k ∧ Rd w0 wr p r n O [] ∧ Byt r ∧ n ≤ 6400 ∧ O.length = k ∧ obK (N - k) r n O = U) (fun iv _ => N - (intOf iv).toNat)
  case atStart => exact ⟨0, _, 288, [], Nat.zero_le _, rfl, unhide HR3, unhide HBY5, by omega, rfl, unhide HUB⟩
  case round =>
    obtain ⟨k, r, n, O, hk, rfl, hr, hby, hn, hO, hU⟩ := hrel
    by_cases hlt : k < N
    · have HC4 := hide (rdObject_any hr hby hn (by omega))
      have HBYr := hide hby
      have HU := hide hU
      clear hr hby hU
      go_wp2_with fail
      refine (unhide HC4).mono ?_
      clear HC4
      rintro e w4 (⟨hs, rfl, hb4⟩ | ⟨hs, rfl, hr4⟩)
      · have hU' := unhide HU
        rw [show N - k = (N - (k + 1)) + 1 by omega, obK_stop _ hs] at hU'
        have hx := unhide HXO (by rw [← hU']; exact hs)
        rw [← hU'] at hx
        replace hx := (unhide HXX).trans hx
        exact ⟨rfl, .inl ⟨by rw [hx]; exact hs, by rw [hx]; rfl, hb4⟩⟩
      · have hU' := unhide HU
        rw [show N - k = (N - (k + 1)) + 1 by omega, obK_go _ hs] at hU'
        have HU' := hide hU'
        have HRM := hide (obC_room hs)
        have HR4 := hide hr4
        clear hU' hr4 hs HU
        go_wp2
        go_roundw
        case rel => exact ⟨k + 1, _, _, _, by omega, by go_num, unhide HR4, fun z hz => unhide HBYr z (List.mem_of_mem_drop hz), unhide HRM, by rw [List.length_append, List.length_singleton, hO], unhide HU'⟩
        case measure => simp [intOf]; omega
    · obtain rfl : k = N := by omega
      rw [Nat.sub_self] at hU
      have hU2 : U = (0, r, n, O) := hU.symm
      subst hU2
      have HC5 := hide (rdCount_any hr hby 8 (by omega))
      have hbd8 := hby.getD 0
      have HBYr := hide hby
      have HUC : Hid (roK (r.getD 0 0).toNat (r.drop 1) O [] = upC (0, r, n, O)) := hide rfl
      dsimp only at HXM HXR HXE HXK
      generalize upC (0, r, n, O) = V at *
      clear hr hby hU hlt HXO
      go_wp2_with fail
      refine (unhide HC5).mono ?_
      clear HC5
      rintro e w5 (⟨hs, rfl, hb5⟩ | ⟨⟨hs, h8⟩, rfl, hr5⟩)
      · have hx := unhide HXM (by first | rfl | trivial) hs
        replace hx := (unhide HXX).trans hx
        exact ⟨rfl, .inl ⟨by rw [hx]; decide, by rw [hx]; rfl, hb5⟩⟩
      have hn8 : ¬ (r.length = 0 ∨ 8 < r.getD 0 0) := by omega
      have HN8 := hide hn8
      have HR5 := hide hr5
      have HBY1 : Hid (Byt (r.drop 1)) := hide (fun z hz => unhide HBYr z (List.mem_of_mem_drop hz))
      obtain ⟨M, hM⟩ := Int.eq_ofNat_of_zero_le hbd8.1
      have hM8 : M ≤ 8 := by omega
      rw [hM, Int.toNat_natCast] at HUC
      rw [hM]
      clear hs h8 hn8 hr5 hbd8 hM HBYr
      go_wp2_with fail
      go_loopw [16] (fun iv wr => ∃ (j : Nat) (q : List Int) (R : List (ByteArray × Int)), j ≤ M ∧ iv = .int .i64 j ∧ Rd w0 wr p q n O R ∧ Byt q ∧ R.length = j ∧ roK (M - j) q O R = V) (fun iv _ => M - (intOf iv).toNat)
      case atStart => exact ⟨0, _, [], Nat.zero_le _, rfl, unhide HR5, unhide HBY1, rfl, unhide HUC⟩
      case round =>
        obtain ⟨j, q, R, hj, rfl, hr, hby, hRl, hU⟩ := hrel
        by_cases hlt : j < M
        · have HC6 := hide (rdRoot_any hr hby (by omega) (by omega))
          have HBYr := hide hby
          have HU := hide hU
          clear hr hby hU
          go_wp2_with fail
          refine (unhide HC6).mono ?_
          clear HC6
          rintro e w6 (⟨hs, rfl, hb6⟩ | ⟨hs, rfl, hr6⟩)
          · have hU' := unhide HU
            rw [show M - j = (M - (j + 1)) + 1 by omega, roK_stop _ hs] at hU'
            have hx := unhide HXR (by first | rfl | trivial) (unhide HN8) (by rw [← hU']; exact hs)
            rw [← hU'] at hx
            replace hx := (unhide HXX).trans hx
            exact ⟨rfl, .inl ⟨by rw [hx]; exact hs, by rw [hx]; rfl, hb6⟩⟩
          · have hU' := unhide HU
            rw [show M - j = (M - (j + 1)) + 1 by omega, roK_go _ hs] at hU'
            have HU' := hide hU'
            have HR6 := hide hr6
            clear hU' hr6 hs HU
            go_wp2
            go_roundw
            case rel => exact ⟨j + 1, _, _, by omega, by go_num, unhide HR6, fun z hz => unhide HBYr z (List.mem_of_mem_drop hz), by rw [List.length_append, List.length_singleton, hRl], unhide HU'⟩
            case measure => simp [intOf]; omega
        · obtain rfl : j = M := by omega
          rw [Nat.sub_self] at hU
          have hU2 : V = (0, q, R) := hU.symm
          subst hU2
          dsimp only at HXE HXK
          have HR7 := hide hr
          obtain ⟨ar, cr, vO, vR, os, hv, hos⟩ := hr
          obtain ⟨q0, q1, q2, q3⟩ := hv.cells
          have hql := hv.2.2.1.2.2.1
          clear hU hlt hby hv hos q1 q2 q3 HXR
          by_cases hq0 : q.length = 0
          · have hx := unhide HXK (by first | rfl | trivial) (unhide HN8) (by first | rfl | trivial) (List.eq_nil_of_length_eq_zero hq0)
            replace hx := (unhide HXX).trans hx
            have HX := hide hx
            clear hx
            rw [hq0] at q0
            go_wp2_with fail
            refine (unhide HY _ _ _ (by first | rfl | (simp; done) | (simp; omega))).mono ?_
            rintro e w8 ⟨rfl, rfl⟩
            go_wp2
            go_end0
            exact .inr ⟨by rw [unhide HX], rfl, q, n, by rw [unhide HX]; exact unhide HR7⟩
          · have hx := unhide HXE (by first | rfl | trivial) (unhide HN8) (by first | rfl | trivial) (fun h => hq0 (by rw [h]; rfl))
            replace hx := (unhide HXX).trans hx
            have HX := hide hx
            have hmI : decide ((q.length : Int) = 0) = false := decide_eq_false (by omega)
            clear hx
            generalize q.length = Q at *
            go_wp2_with fail
            refine (unhide HN _ _ _ (by first | rfl | exact hmI | (simp; done) | (simp; omega))).mono ?_
            rintro e w8 ⟨rfl, rfl⟩
            exact ⟨rfl, .inl ⟨by rw [unhide HX]; decide, by rw [unhide HX]; rfl, (unhide HR7).world⟩⟩
end
end Go.Proofs.YtllpeknpplpgeaaGreatDoor
/-! Contracts of package old: read; a fault that ends the reading is caught there. (Part of the proofs over package old.) -/
namespace Go.Proofs.YtllpeknpplpgeaaGreatDoor
open Go.RowKit
set_option linter.unusedVariables false

theorem catch_idle (p q s : Addr) (w : World) :
    CallsD Tryz.prog 53 #[.pointer (some p), .pointer (some q), .pointer (some s)] .returning w fun e u' w' => e = .returned (.tuple #[]) ∧ u' = .returning ∧ w' = w := by
  refine callsD_of_wpS Tryz.func53 rfl fun c₀ cs hu => ?_
  apply wpS_seq
  apply wpS_region
  simp [wpOpsS, go_sem, recoverD, hu, Tryz.ntmps53, Exit.thenS]
  refine wpS_of_wp ?_
  change Code.wp _ _ _ ⟨#[.pointer (some p), .pointer (some q), .pointer (some s), undef, undef, undef, .nilIface, undef, undef, undef, undef, undef, undef, undef, undef], []⟩ w
  go_wp2
  refine ⟨rfl, .returning, ?_, .tuple #[], results_none rfl _ _ _, rfl, rfl, rfl⟩
  rw [← hu]
set_option maxRecDepth 100000 in
set_option maxHeartbeats 1000000 in
theorem catch_fault (g : Nat) (v0 v1 v2 : Value) (x : Int) (older : List PanicEntry) (w : World) (h0 : w.heap[g]? = some (.cells #[v0] 58 (0, 0))) (h1 : w.heap[g + 1]? = some (.cells #[v1] 59 (0, 0))) (h2 : w.heap[g + 2]? = some (.cells #[v2] 26 (0, 0))) :
    CallsD Tryz.prog 53 #[.pointer (some ⟨g, 0, none⟩), .pointer (some ⟨g + 1, 0, none⟩), .pointer (some ⟨g + 2, 0, none⟩)] (.panicking ({ v := .iface 98 (.agg #[.int .i64 x]), recovered := false } :: older)) w fun e u' w' =>
      e = .returned (.tuple #[]) ∧ u' = .panicking ({ v := .iface 98 (.agg #[.int .i64 x]), recovered := true } :: older) ∧ w'.heap[g]? = some (.cells #[.slice none 0 0] 58 (0, 0)) ∧ w'.heap[g + 1]? = some (.cells #[.slice none 0 0] 59 (0, 0)) ∧ w'.heap[g + 2]? = some (.cells #[.iface 63 (.int .i64 x)] 26 (0, 0)) ∧ Below g w w' := by
  have hB : Below w.heap.size w (w.alloc (.cells #[.int .i64 x] 98)) := (Below.refl _ _).alloc (Nat.le_refl _) _
  have hlt := (Array.getElem?_eq_some_iff.1 h2).1
  have hlt1 := (Array.getElem?_eq_some_iff.1 h1).1
  have hlt0 := (Array.getElem?_eq_some_iff.1 h0).1
  have k0 := (hB.block g hlt0).trans h0
  have k1 := (hB.block (g + 1) hlt1).trans h1
  have k2 := (hB.block (g + 2) hlt).trans h2
  have HBW := hide (hB.mono (Nat.le_of_lt hlt0))
  have hen := heap_alloc_new w (.cells #[.int .i64 x] 98)
  have c0 : (w.alloc (.cells #[.int .i64 x] 98)).cell? ⟨g, 0, none⟩ = some v0 := by rw [cell_of_row _ _ _ _ _ _ k0]; rfl
  have c1 : (w.alloc (.cells #[.int .i64 x] 98)).cell? ⟨g + 1, 0, none⟩ = some v1 := by rw [cell_of_row _ _ _ _ _ _ k1]; rfl
  have c2 : (w.alloc (.cells #[.int .i64 x] 98)).cell? ⟨g + 2, 0, none⟩ = some v2 := by rw [cell_of_row _ _ _ _ _ _ k2]; rfl
  have c3 : (w.alloc (.cells #[.int .i64 x] 98)).cell? ⟨w.heap.size, 0, none⟩ = some (.int .i64 x) := by rw [cell_of_row _ _ _ _ _ _ hen]; rfl
  have f0 := frozen_of_row _ _ 0 _ _ k0
  have f1 := frozen_of_row _ _ 0 _ _ k1
  have f2 := frozen_of_row _ _ 0 _ _ k2
  have HK0 := hide k0
  have HK1 := hide k1
  have HK2 := hide k2
  have n0 : ¬ w.heap.size = g := by omega
  have n1 : ¬ w.heap.size = g + 1 := by omega
  have n2 : ¬ w.heap.size = g + 2 := by omega
  have has : ∀ (v : Value) (W : World), (Instr.typeAssert (.iface 98 v) 20 98 true).run Tryz.prog W = .ok (.tuple #[v, .bool true]) W := fun _ _ => by kernel_rfl
  clear h0 h1 h2 hen k0 k1 k2 hB
  refine callsD_of_wpS Tryz.func53 rfl fun c₀ cs hu => ?_
  apply wpS_seq
  apply wpS_region
  simp [wpOpsS, go_sem, recoverD, hu, Tryz.ntmps53, Exit.thenS]
  refine wpS_of_wp ?_
  change Code.wp _ _ _ ⟨#[.pointer (some ⟨g, 0, none⟩), .pointer (some ⟨g + 1, 0, none⟩), .pointer (some ⟨g + 2, 0, none⟩), undef, undef, undef, .iface 98 (.agg #[.int .i64 x]), undef, undef, undef, undef, undef, undef, undef, undef], []⟩ w
  go_wp2_with fail
  generalize w.alloc (.cells #[.int .i64 x] 98) = W at *
  go_region
  have e0 := heap_setCell_same W g 0 _ _ (.slice none 0 0) (unhide HK0)
  have e1 := (heap_setCell_other W ⟨g, 0, none⟩ (g + 1) (.slice none 0 0) (by show g + 1 ≠ g; omega)).trans (unhide HK1)
  have e2 := (heap_setCell_other W ⟨g, 0, none⟩ (g + 2) (.slice none 0 0) (by show g + 2 ≠ g; omega)).trans (unhide HK2)
  have e3 := (heap_setCell_other _ ⟨g + 1, 0, none⟩ g (.slice none 0 0) (by show g ≠ g + 1; omega)).trans e0
  have e4 := heap_setCell_same _ (g + 1) 0 _ _ (.slice none 0 0) e1
  have e5 := (heap_setCell_other _ ⟨g + 1, 0, none⟩ (g + 2) (.slice none 0 0) (by show g + 2 ≠ g + 1; omega)).trans e2
  have e6 := (heap_setCell_other _ ⟨g + 2, 0, none⟩ g (.iface 63 (.int .i64 x)) (by show g ≠ g + 2; omega)).trans e3
  have e7 := (heap_setCell_other _ ⟨g + 2, 0, none⟩ (g + 1) (.iface 63 (.int .i64 x)) (by show g + 1 ≠ g + 2; omega)).trans e4
  have e8 := heap_setCell_same _ (g + 2) 0 _ _ (.iface 63 (.int .i64 x)) e5
  refine ⟨rfl, _, rfl, .tuple #[], results_none rfl _ _ _, rfl, rfl, e6, e7, e8, ?_⟩
  exact below_drew ((((unhide HBW).setCell (Nat.le_refl _) _).setCell (by show g ≤ g + 1; omega) _).setCell (by show g ≤ g + 2; omega) _)
/-- A cell that holds no byte may be another: bytes stay. -/
theorem Bs.other {w : World} {g : Nat} {x v : Value} {T : TypeId} {a : Option Addr} {cap : Nat} {l : List Int} (h : Bs w a cap l) (hg : w.heap[g]? = some (.cells #[x] T (0, 0))) (hx : ∀ z, x ≠ .int .u8 z) : Bs (w.setCell ⟨g, 0, none⟩ v) a cap l := by
  obtain ⟨h1, h2, h3, h4, h5⟩ := h
  refine ⟨h1, h2, h3, h4, fun hne => ?_⟩
  obtain ⟨b, off, rfl, hc⟩ := h5 hne
  refine ⟨b, off, rfl, fun i hi => ?_⟩
  have hq := hc i hi
  by_cases e : b = g
  · subst e
    rw [cell_of_row _ _ _ _ _ _ hg] at hq
    exfalso
    by_cases h0 : off + i = 0
    · rw [h0] at hq
      simp at hq
      exact hx _ hq
    · rw [Array.getElem?_eq_none (by simp; omega)] at hq
      cases hq
  · exact (World.cell?_of_block (a := ⟨b, off + i, none⟩) (heap_setCell_other w ⟨g, 0, none⟩ b v e)).trans hq
theorem Rd.start {w0 : World} {a : Option Addr} {cap : Nat} {b : List Int} (hb : Bs w0 a cap b) : Rd w0 (w0.alloc (.cells #[.slice a b.length cap, .int .i64 288, .slice none 0 0, .slice none 0 0] 100)) w0.heap.size b 288 [] [] :=
  ⟨a, cap, .slice none 0 0, .slice none 0 0, [], ⟨rfl, heap_alloc_new w0 _, hb, Lst.nil _ _, fun o ho => (by cases ho), Lst.nil _ _, (Below.refl _ _).alloc (Nat.le_refl _) _⟩, rfl⟩
set_option maxRecDepth 100000 in
set_option maxHeartbeats 2000000 in
theorem rdRead_any (a : Option Addr) (cap : Nat) (b : List Int) (w : World) (hbs : Bs w a cap b) :
    Calls Tryz.prog 25 #[.slice a b.length cap] w fun e w' => ∃ vO vR os, e = .returned (.tuple #[vO, vR, errV (upK b).1]) ∧ Lst ojC 5 102 w' w.heap.size vO os ∧ os.map ojP = (upK b).2.1 ∧ (∀ o ∈ os, Bs w' o.2.1 o.2.2.1 o.2.2.2) ∧ Lst roC 2 57 w' w.heap.size vR (upK b).2.2 ∧ Below w.heap.size w w' := by
  have hmf : ∀ (fn : Fn) (first cap : Array Value) (w : World), (Instr.makeFunc fn first cap).run Tryz.prog w = .ok (.func fn first cap) w := fun _ _ _ _ => rfl
  have hB1 : Below w.heap.size w (w.alloc (.cells #[.slice none 0 0] 58)) := (Below.refl _ _).alloc (Nat.le_refl _) _
  have hB2 : Below (w.alloc (.cells #[.slice none 0 0] 58)).heap.size (w.alloc (.cells #[.slice none 0 0] 58)) ((w.alloc (.cells #[.slice none 0 0] 58)).alloc (.cells #[.slice none 0 0] 59)) := (Below.refl _ _).alloc (Nat.le_refl _) _
  have hB3 : Below ((w.alloc (.cells #[.slice none 0 0] 58)).alloc (.cells #[.slice none 0 0] 59)).heap.size ((w.alloc (.cells #[.slice none 0 0] 58)).alloc (.cells #[.slice none 0 0] 59)) (((w.alloc (.cells #[.slice none 0 0] 58)).alloc (.cells #[.slice none 0 0] 59)).alloc (.cells #[.nilIface] 26)) := (Below.refl _ _).alloc (Nat.le_refl _) _
  have k0 : (((w.alloc (.cells #[.slice none 0 0] 58)).alloc (.cells #[.slice none 0 0] 59)).alloc (.cells #[.nilIface] 26)).heap[w.heap.size]? = some (.cells #[.slice none 0 0] 58 (0, 0)) := (hB3.block _ (by simp; omega)).trans ((hB2.block _ (by simp)).trans (heap_alloc_new w _))
  have k1 : (((w.alloc (.cells #[.slice none 0 0] 58)).alloc (.cells #[.slice none 0 0] 59)).alloc (.cells #[.nilIface] 26)).heap[w.heap.size + 1]? = some (.cells #[.slice none 0 0] 59 (0, 0)) := (hB3.block _ (by simp)).trans (by have := heap_alloc_new (w.alloc (.cells #[.slice none 0 0] 58)) (.cells #[.slice none 0 0] 59); simpa using this)
  have k2 : (((w.alloc (.cells #[.slice none 0 0] 58)).alloc (.cells #[.slice none 0 0] 59)).alloc (.cells #[.nilIface] 26)).heap[w.heap.size + 2]? = some (.cells #[.nilIface] 26 (0, 0)) := by have := heap_alloc_new ((w.alloc (.cells #[.slice none 0 0] 58)).alloc (.cells #[.slice none 0 0] 59)) (.cells #[.nilIface] 26); simpa using this
  have hsz : (((w.alloc (.cells #[.slice none 0 0] 58)).alloc (.cells #[.slice none 0 0] 59)).alloc (.cells #[.nilIface] 26)).heap.size = w.heap.size + 3 := by simp
  have hBB := (hB1.trans (hB2.mono hB1.size)).trans (hB3.mono (hB1.trans (hB2.mono hB1.size)).size)
  have hall := rdAll_any (Rd.start (hbs.below hBB)) hbs.1
  obtain ⟨u1, u2, u3⟩ := up_code hbs.1
  have HU2 := hide u2
  have HBS := hide hbs
  have HALL := hide hall
  have HK0 := hide k0
  have HK1 := hide k1
  have HK2 := hide k2
  have HBB := hide hBB
  have HSZ := hide hsz
  clear hB1 hB2 hB3 hBB hall k0 k1 k2 hsz u1 u2 u3 hbs
  go_enter_defers Tryz.func25, Tryz.ntmps25
  go_wp2_with fail
  generalize ((w.alloc (.cells #[.slice none 0 0] 58)).alloc (.cells #[.slice none 0 0] 59)).alloc (.cells #[.nilIface] 26) = w3 at *
  rw [show w.heap.size + 1 + 1 + 1 = w3.heap.size from (unhide HSZ).symm, show w.heap.size + 1 + 1 = w.heap.size + 2 from rfl]
  refine (unhide HALL).mono ?_
  clear HALL
  rintro e w4 (⟨hs, rfl, hb4⟩ | ⟨hs, rfl, r, n, hr4⟩)
  · have hsz := unhide HSZ
    have k0 := (hb4.block w.heap.size (by omega)).trans (unhide HK0)
    have k1 := (hb4.block (w.heap.size + 1) (by omega)).trans (unhide HK1)
    have k2 := (hb4.block (w.heap.size + 2) (by omega)).trans (unhide HK2)
    refine leaves_cons (f := 53) (args := #[.pointer (some ⟨w.heap.size, 0, none⟩), .pointer (some ⟨w.heap.size + 1, 0, none⟩), .pointer (some ⟨w.heap.size + 2, 0, none⟩)]) (by simp) (by simp [go_sem]) ?_
    refine (catch_fault w.heap.size _ _ _ _ _ w4 k0 k1 k2).mono ?_
    rintro e u' w5 ⟨rfl, rfl, e0, e1, e2, hb5⟩
    have c0 : w5.cell? ⟨w.heap.size, 0, none⟩ = some (.slice none 0 0) := by rw [cell_of_row _ _ _ _ _ _ e0]; rfl
    have c1 : w5.cell? ⟨w.heap.size + 1, 0, none⟩ = some (.slice none 0 0) := by rw [cell_of_row _ _ _ _ _ _ e1]; rfl
    have c2 : w5.cell? ⟨w.heap.size + 2, 0, none⟩ = some (.iface 63 (.int .i64 (upK b).1)) := by rw [cell_of_row _ _ _ _ _ _ e2]; rfl
    simp [Leaves, settle, results, Tryz.results25, go_sem, c0, c1, c2]
    obtain ⟨z1, z2, z3⟩ := unhide HU2 hs
    rw [z2, z3]
    have hB4 := (unhide HBB).trans (hb4.mono (unhide HBB).size)
    exact ⟨_, _, ⟨rfl, rfl, (errV_pos _ hs).symm⟩, [], Lst.nil _ _, rfl, fun _ _ _ _ _ _ _ h => (by cases h), Lst.nil _ _, hB4.trans hb5⟩
  · have hsz := unhide HSZ
    obtain ⟨ar, cr, vO, vR, os, hv, hos⟩ := hr4
    have hb4 := hv.world
    have k0 := (hb4.block w.heap.size (by omega)).trans (unhide HK0)
    have k1 := (hb4.block (w.heap.size + 1) (by omega)).trans (unhide HK1)
    have k2 := (hb4.block (w.heap.size + 2) (by omega)).trans (unhide HK2)
    obtain ⟨oa, om, oc, rfl⟩ := hv.2.2.2.1.shape
    obtain ⟨ra, rm, rc, rfl⟩ := hv.2.2.2.2.2.1.shape
    obtain ⟨q0, q1, q2, q3⟩ := hv.cells
    have c0 : w4.cell? ⟨w.heap.size, 0, none⟩ = some (.slice none 0 0) := by rw [cell_of_row _ _ _ _ _ _ k0]; rfl
    have c1 : w4.cell? ⟨w.heap.size + 1, 0, none⟩ = some (.slice none 0 0) := by rw [cell_of_row _ _ _ _ _ _ k1]; rfl
    have c2 : w4.cell? ⟨w.heap.size + 2, 0, none⟩ = some .nilIface := by rw [cell_of_row _ _ _ _ _ _ k2]; rfl
    have f0 := frozen_of_row _ _ 0 _ _ k0
    have f1 := frozen_of_row _ _ 0 _ _ k1
    have f2 := frozen_of_row _ _ 0 _ _ k2
    have HK0 := hide k0
    have HK1 := hide k1
    have HK2 := hide k2
    have HV := hide hv
    have HOS := hide hos
    have HS := hide hs
    rw [hsz] at q2 q3
    clear q0 q1 k0 k1 k2 hv hos hs hb4
    go_wp2_with fail
    clear hsz
    go_region
    all_goals
      go_wp2
      refine leaves_cons (f := 53) (args := #[.pointer (some ⟨w.heap.size, 0, none⟩), .pointer (some ⟨w.heap.size + 1, 0, none⟩), .pointer (some ⟨w.heap.size + 2, 0, none⟩)]) (by simp) (by simp [go_sem]) ?_
      refine (catch_idle _ _ _ _).mono ?_
      rintro e u' w5 ⟨rfl, rfl, rfl⟩
      simp [Leaves, settle, results, Tryz.results25, go_sem, c0, c1, c2]
      have hsz := unhide HSZ
      have hv := unhide HV
      have hS := unhide HS
      have e0 := unhide HK0
      have e1 := (heap_setCell_other w4 ⟨w.heap.size, 0, none⟩ (w.heap.size + 1) (.slice oa om oc) (by show w.heap.size + 1 ≠ w.heap.size; omega)).trans (unhide HK1)
      have e2 := (heap_setCell_other w4 ⟨w.heap.size, 0, none⟩ (w.heap.size + 2) (.slice oa om oc) (by show w.heap.size + 2 ≠ w.heap.size; omega)).trans (unhide HK2)
      have e5 := (heap_setCell_other _ ⟨w.heap.size + 1, 0, none⟩ (w.heap.size + 2) (.slice ra rm rc) (by show w.heap.size + 2 ≠ w.heap.size + 1; omega)).trans e2
      refine ⟨_, _, ⟨rfl, rfl, by rw [hS]; rfl⟩, os, ?_, unhide HOS, fun x1 x2 x3 x4 x5 x6 x7 hm => ?_, ?_, ?_⟩
      · exact Lst.lowB ((((hv.2.2.2.1.lay (by omega)).lay (by omega)).lay (by omega)).below (below_drew (Below.refl _ _))) (by omega)
      · have hbo := ((hv.2.2.2.2.1 _ hm).below hv.world)
        exact (((hbo.other e0 (fun z h => by cases h)).other e1 (fun z h => by cases h)).other e5 (fun z h => by cases h)).below (below_drew (Below.refl _ _))
      · exact Lst.lowB ((((hv.2.2.2.2.2.1.lay (by omega)).lay (by omega)).lay (by omega)).below (below_drew (Below.refl _ _))) (by omega)
      · exact below_drew ((((((unhide HBB).trans (hv.world.mono (by omega))).setCell (Nat.le_refl _) _).setCell (by show w.heap.size ≤ w.heap.size + 1; omega) _).setCell (by show w.heap.size ≤ w.heap.size + 2; omega) _))
end Go.Proofs.YtllpeknpplpgeaaGreatDoor
/-! Contracts of package image once more: what Put and Drop give is a row of its own, that may be written. (Part of the proofs over package heap.) -/
namespace Go.Proofs.YtllpeknpplpgeaaGreatDoor
open Go.RowKit
set_option linter.unusedVariables false

section
variable {w w' : World} {B B' g c : Nat} {cur : Array Value} {l : List Int}
theorem Row.lt (h : Row w B g c cur l) : g < w.heap.size := (Array.getElem?_eq_some_iff.1 h.2.1).1
theorem Row.below (h : Row w B g c cur l) (hb : Below w.heap.size w w') : Row w' B g c cur l := ⟨h.1, (hb.block g h.lt).trans h.2.1, h.2.2⟩
theorem Row.low (h : Row w B' g c cur l) (hB : B ≤ B') : Row w B g c cur l := ⟨Nat.le_trans hB h.1, h.2⟩
end
/-- How a call that answers bytes of its own and something ends. -/
def EndsR (w : World) (L : List Int) (x : Value) (e : Ending) (w' : World) : Prop :=
  ∃ g c cur, e = .returned (.tuple #[.slice (some ⟨g, 0, none⟩) L.length c, x]) ∧ Row w' w.heap.size g c cur L ∧ Below w.heap.size w w'
/-- A copy in which bytes are laid. -/
theorem with_row (a : Option Addr) (cap : Nat) (l : List Int) (p : Nat) (ra : Option Addr) (rc : Nat) (r : List Int) (w : World) (hb : Bs w a cap l) (hr : Bs w ra rc r) (h0 : r ≠ []) (hfit : p + r.length ≤ l.length) :
    Calls Tryz.prog 75 #[.slice a l.length cap, .int .i64 p, .slice ra r.length rc] w fun e w' => ∃ g' c' cur', e = .returned (.slice (some ⟨g', 0, none⟩) l.length c') ∧ Row w' w.heap.size g' c' cur' (splice l p r) ∧ Below w.heap.size w w' := by
  have hrl : 0 < r.length := by
    cases r with
    | nil => exact absurd rfl h0
    | cons _ _ => simp
  have HC := hide (clone_u8 a cap l w hb (by intro e; rw [e] at hfit; simp only [List.length_nil] at hfit; omega))
  have HR := hide hr
  have hbl := hb.2.2.1
  clear hb hr
  go_enter Tryz.func75, Tryz.ntmps75
  go_wp2_with fail
  refine (unhide HC).mono ?_
  rintro e w1 ⟨g, c, rfl, hown, hb1⟩
  obtain ⟨cur, hrow⟩ := Row.of_own hown
  have hcut := cut_row (P := Tryz.prog) Tryz.underlying22 size_u8 g c l.length p (by omega) hrow.2.2.1 (by have := hrow.2.2.1; omega)
  have hcopy : Sem.run Tryz.prog (Builtin.copy_ #[22, 22] 3 #[.slice (some ⟨g, p, none⟩) (l.length - p) (c - p), .slice ra r.length rc]) w1 = .ok (.int .i64 r.length) (laidW w1 g cur p r) :=
    run_copy_laid w1 _ _ _ Tryz.underlying22 size_u8 _ g p _ _ c cur ra rc l r (by omega) h0 hfit hrow ((unhide HR).below hb1)
  have HW := hide (laidW_row hrow hfit)
  have HB := hide (laidW_below (cur := cur) (l := r) (off := p) hb1 hrow.1)
  clear hown hrow hb1 HC HR
  go_wp2
  go_ret
  exact ⟨g, c, _, rfl, unhide HW, unhide HB⟩
set_option maxHeartbeats 1000000 in
theorem iPut_row (b : Option Addr) (cap : Nat) (L : List Int) (x a l t : Int) (w : World) (hbs : Bs w b cap L) (h0 : putE L (x, a, l, t) = 0) :
    Calls Tryz.prog 42 #[.slice b L.length cap, .agg #[.int .i64 x, .int .i64 a, .int .i64 l, .int .i64 t]] w (EndsR w (splice L (plc x) (rowE (x, a, l, t))) .nilIface) := by
  obtain ⟨q1, q2, q3⟩ := putE_zero.1 h0
  dsimp only at q2 q3
  have hlen := lenB_iff.1 q1
  have hx := hndB_iff.1 q2
  have hp := plc_le hx.1 hx.2
  have HC := hide (ckEnt_any L (x, a, l, t) (w.alloc (.cells #[.int .i64 x, .int .i64 a, .int .i64 l, .int .i64 t] 47)) hbs.2.2.1 (by dsimp only; omega))
  rw [h0, errV_zero] at HC
  unfold entV at HC
  dsimp only at HC
  have HE := hide (fun W => entryRow_any x a l t W ⟨q3.1, q3.2.1⟩ (by omega) (by omega))
  have HP := hide (fun W => entryAt_any x W hx.1 hx.2)
  have hrl : (rowE (x, a, l, t)).length = 5 := rfl
  have HW := hide (fun (W : World) (g : Nat) (h5 : Bs W b cap L) (h6 : Bs W (some ⟨g, 0, none⟩) 5 (rowE (x, a, l, t))) => with_row b cap L (plc x) (some ⟨g, 0, none⟩) 5 (rowE (x, a, l, t)) W h5 h6 (by intro e; cases e) (by omega))
  rw [hrl] at HW
  have HN := hide (EnB.new w (x, a, l, t))
  have HLEN := hide (length_splice (z := L) (l := rowE (x, a, l, t)) (off := plc x) (by omega))
  have HBS := hide hbs
  have hb3 := hbs.2.2.1
  clear h0 q1 q2 q3 hbs hrl
  generalize rowE (x, a, l, t) = R at *
  go_enter Tryz.func42, Tryz.ntmps42
  go_wp2_with fail
  refine (unhide HC).mono ?_
  rintro e w1 ⟨rfl, hb1⟩
  have hB1 : Below w.heap.size w w1 := ((Below.refl _ w).alloc (Nat.le_refl _) _).trans (hb1.mono (by simp))
  have hen1 := (unhide HN).below hb1 (by simp)
  obtain ⟨c0, c1, c2, c3⟩ := hen1.cells
  have HEN1 := hide hen1
  have HB1 := hide hB1
  clear hb1 hB1 hen1 HC HN
  go_wp2_with fail
  refine (unhide HE _).mono ?_
  rintro e w2 ⟨g, rfl, hbr, hb2⟩
  have hen2 := (unhide HEN1).below hb2 (unhide HEN1).lt
  obtain ⟨d0, d1, d2, d3⟩ := hen2.cells
  have HB2 := hide ((unhide HB1).trans (hb2.mono (unhide HB1).size))
  have HW2 := hide (unhide HW w2 g ((unhide HBS).below (unhide HB2)) hbr)
  clear hb2 hen2 hbr HEN1 HB1 HW HE c0 c1 c2 c3
  go_wp2_with fail
  refine (unhide HP _).mono ?_
  rintro e w3 ⟨rfl, hw3⟩
  subst hw3
  go_wp2_with fail
  refine (unhide HW2).mono ?_
  rintro e w4 ⟨a4, c4, cur4, rfl, hbs4, hb4⟩
  have HB4 := hide ((unhide HB2).trans (hb4.mono (unhide HB2).size))
  have HBS4 := hide hbs4
  have HSZ4 := hide (unhide HB2).size
  clear hbs4 hb4 HB2 HW2 d0 d1 d2 d3
  go_wp2
  go_ret2
  exact ⟨a4, c4, cur4, by rw [unhide HLEN]; rfl, (unhide HBS4).low (unhide HSZ4), unhide HB4⟩

end Go.Proofs.YtllpeknpplpgeaaGreatDoor
/-! Contracts of package old: laid, Up. (Part of the proofs over package old.) -/
namespace Go.Proofs.YtllpeknpplpgeaaGreatDoor
open Go.RowKit
set_option linter.unusedVariables false

theorem layO1_len {out : List Int} {o : (Int × Int × Int × Int) × List Int} (h : MayO out o) : (layO1 out o).length = 6400 ∧ Byt (layO1 out o) ∧ (putL out o.1).length = 6400 ∧ putL out o.1 = splice out (plc o.1.1) (rowE o.1) := by
  obtain ⟨h1, h2, h3, h4, h5, h6, h7, h8, h9, h10, h11, h12, h13⟩ := h
  have hp := plc_le h10 h11
  have e : putL out o.1 = splice out (plc o.1.1) (rowE o.1) := by unfold putL; rw [if_pos h1]
  have hl : (putL out o.1).length = 6400 := by
    rw [e, length_splice (by show plc o.1.1 + 5 ≤ out.length; omega)]
    exact h2
  have hby : Byt (putL out o.1) := by rw [e]; exact byt_splice h3 (byt_rowE _)
  refine ⟨?_, ?_, hl, e⟩
  · unfold layO1
    rw [length_splice (by omega)]
    exact hl
  · unfold layO1
    exact byt_splice hby h4
theorem layO_len {O : List ((Int × Int × Int × Int) × List Int)} (h : LaysO O (zerosB 6400)) : ∀ k, k ≤ O.length → (layO (O.take k) (zerosB 6400)).length = 6400 ∧ Byt (layO (O.take k) (zerosB 6400))
  | 0, _ => ⟨length_zerosB _, byt_zerosB _⟩
  | k + 1, hk => by
    have hx : O[k]? = some O[k] := List.getElem?_eq_getElem (by omega)
    rw [layO_next hx]
    have := layO1_len (h k _ hx)
    exact ⟨this.1, this.2.1⟩
theorem new_6400 : newL 6400 = zerosB 6400 ∧ newE 6400 = 0 := by
  unfold newL newE
  exact ⟨rfl, rfl⟩
set_option maxRecDepth 100000 in
set_option maxHeartbeats 4000000 in
theorem laid_any (oa ra : Option Addr) (oc rc : Nat) (os : List ((Int × Int × Int × Int) × Option Addr × Nat × List Int)) (R : List (ByteArray × Int)) (w : World) (hos : Sls ojC 5 w oa oc os) (hbo : ∀ o ∈ os, Bs w o.2.1 o.2.2.1 o.2.2.2) (hrs : Sls roC 2 w ra rc R)
    (hO : LaysO (os.map ojP) (zerosB 6400)) (hR : LaysR R (layO (os.map ojP) (zerosB 6400))) :
    Calls Tryz.prog 26 #[.slice oa os.length oc, .slice ra R.length rc] w (Ends w (layR R 0 (layO (os.map ojP) (zerosB 6400))) .nilIface) := by
  have hol := hos.2.2.1
  have hrl := hrs.2.2.1
  have HNEW := hide (new_any 6400 w)
  rw [new_6400.1, new_6400.2] at HNEW
  have HOS := hide hos
  have HBO := hide hbo
  have HRS := hide hrs
  have HO := hide hO
  have HR := hide hR
  have HLO := hide (layO_len hO)
  have HEO : Hid (layO ((os.map ojP).take os.length) (zerosB 6400) = layO (os.map ojP) (zerosB 6400)) := hide (by rw [List.take_of_length_le (by rw [List.length_map]; exact Nat.le_refl _)])
  clear hos hbo hrs hO hR
  go_enter Tryz.func26, Tryz.ntmps26
  go_wp2_with fail
  refine (unhide HNEW).mono ?_
  rintro e w1 ⟨a1, c1, rfl, hb1, hB1⟩
  rw [length_zerosB, show errV 0 = .nilIface from rfl]
  have HB1 := hide hb1
  have HBW1 := hide hB1
  clear hb1 hB1 HNEW
  go_wp2_with fail
  go_loopw [6, 7, 21] (fun bv ev iv wr => ∃ (k : Nat) (a' : Option Addr) (c' : Nat), k ≤ os.length ∧ bv = .slice a' 6400 c' ∧ ev = .nilIface ∧ iv = .int .i64 k ∧ Bs wr a' c' (layO ((os.map ojP).take k) (zerosB 6400)) ∧ Below w.heap.size w wr) (fun _ _ iv _ => os.length - (intOf iv).toNat)
  case atStart => exact ⟨0, a1, c1, Nat.zero_le _, rfl, rfl, rfl, unhide HB1, unhide HBW1⟩
  case round =>
    obtain ⟨k, a', c', hk, rfl, rfl, rfl, hb, hB⟩ := hrel
    by_cases hlt : k < os.length
    · have hne : os ≠ [] := by intro e; rw [e] at hlt; simp at hlt
      obtain ⟨b1, o1, rfl, hc1⟩ := ((unhide HOS).below hB).2.2.2 hne
      obtain ⟨f, hf⟩ : ∃ f, os[k]? = some f := ⟨os[k], List.getElem?_eq_getElem hlt⟩
      obtain ⟨q0, q1, q2, q3, q4⟩ := Sls.oj hc1 hf
      have hfo := (unhide HBO f (List.mem_of_getElem? hf)).below hB
      have hfp : (os.map ojP)[k]? = some (ojP f) := by rw [List.getElem?_map, hf]; rfl
      have hmay := unhide HO k _ hfp
      have hlen := layO1_len hmay
      have hnext := layO_next hfp (zerosB 6400)
      generalize layO ((os.map ojP).take k) (zerosB 6400) = L at *
      obtain ⟨⟨h, x, l, t⟩, ad, cc, BD⟩ := f
      replace hmay : MayO L ((h, x, l, t), BD) := hmay
      replace hlen : (splice (putL L (h, x, l, t)) x.toNat BD).length = 6400 ∧ Byt (splice (putL L (h, x, l, t)) x.toNat BD) ∧ (putL L (h, x, l, t)).length = 6400 ∧ putL L (h, x, l, t) = splice L (plc h) (rowE (h, x, l, t)) := hlen
      replace hnext : layO ((os.map ojP).take (k + 1)) (zerosB 6400) = splice (putL L (h, x, l, t)) x.toNat BD := hnext
      dsimp only at q0 q1 q2 q3 q4 hfo
      obtain ⟨m1, m2, m3, m4, m5, m6, m7, m8, m9, m10, m11, m12, m13⟩ := hmay
      dsimp only at m1 m2 m3 m4 m5 m6 m7 m8 m9 m10 m11 m12 m13
      obtain ⟨X, rfl⟩ := Int.eq_ofNat_of_zero_le (show 0 ≤ x by omega)
      rw [Int.toNat_natCast] at hlen hnext
      obtain ⟨n1, n2, n3, n4⟩ := hlen
      have hBA : Below wr.heap.size wr (wr.alloc (.cells #[.int .i64 h, .int .i64 X, .int .i64 l, .int .i64 t, .slice ad BD.length cc] 102)) := (Below.refl _ _).alloc (Nat.le_refl _) _
      have HPUT := hide (iPut_row a' c' L h X l t _ (hb.below hBA) m1)
      rw [m2] at HPUT
      have HFO := hide (hfo.below hBA)
      have HBA := hide (hB.trans (hBA.mono hB.size))
      have hen := heap_alloc_new wr (.cells #[.int .i64 h, .int .i64 X, .int .i64 l, .int .i64 t, .slice ad BD.length cc] 102)
      have HEN := hide hen
      have HLS : Hid ((splice L (plc h) (rowE (h, (X : Int), l, t))).length = 6400) := hide (by rw [← n4]; exact n3)
      have HNX := hide hnext
      have HBY := hide n2
      have HLEN := hide n1
      have HN4 := hide n4
      have hBl : BD.length ≤ 1000 := m9
      have hXB : X + BD.length ≤ 6400 := by omega
      have hBn : BD ≠ [] := by intro e; rw [e] at m8; simp at m8
      have HBN := hide hBn
      clear hc1 hf hne hfp hfo hnext n1 n2 n3 n4 hBA hen hb hB m1 m2 m3 m4 m7 m10 m11 m12 m13 hBn
      go_wp2_with fail
      refine (unhide HPUT).mono ?_
      rintro e w2 ⟨g2, c2, cur2, rfl, hrow2, hB2⟩
      rw [unhide HLS]
      have hen2 := (hB2.block wr.heap.size (by simp)).trans (unhide HEN)
      have t1 : w2.cell? ⟨wr.heap.size, 1, none⟩ = some (.int .i64 X) := by rw [cell_of_row _ _ _ _ _ _ hen2]; rfl
      have t4 : w2.cell? ⟨wr.heap.size, 4, none⟩ = some (.slice ad BD.length cc) := by rw [cell_of_row _ _ _ _ _ _ hen2]; rfl
      have hlc := hrow2.2.2.1
      rw [unhide HLS] at hlc
      have hcut := cut_row (P := Tryz.prog) Tryz.underlying22 size_u8 g2 c2 6400 X (by omega) hlc (by omega)
      have hrowd : Row w2.drew _ g2 c2 cur2 _ := hrow2.below (below_drew (Below.refl _ _))
      have hcp : ∀ ty, Sem.run Tryz.prog (Builtin.copy_ #[22, 22] ty #[.slice (some ⟨g2, X, none⟩) (6400 - X) (c2 - X), .slice ad BD.length cc]) w2.drew = .ok (.int .i64 BD.length) (laidW w2.drew g2 cur2 X BD) :=
        fun ty => run_copy_laid w2.drew _ _ ty Tryz.underlying22 size_u8 _ g2 X _ _ c2 cur2 ad cc _ BD (by omega) (unhide HBN) (by rw [unhide HLS]; exact hXB) hrowd (((unhide HFO).below hB2).below (below_drew (Below.refl _ _)))
      have hrow3 := laidW_row hrowd (show X + BD.length ≤ _ by rw [unhide HLS]; exact hXB)
      rw [← unhide HN4] at hrow3
      have HBS3 := hide (hrow3.bs (unhide HBY) (by rw [unhide HLEN]; omega))
      have HB3 := hide (laidW_below (cur := cur2) (l := BD) (off := X) (below_drew ((unhide HBA).trans (hB2.mono (unhide HBA).size))) (Nat.le_trans (unhide HBA).size hrow2.1))
      have HCP := hide hcp
      have e0 : (0 : Int) ≤ (X : Int) := by omega
      have e1 : (X : Int) ≤ 6400 := by omega
      clear hcp hrow3 hrowd hrow2 hB2 hen2 hlc HPUT HFO HBA HEN HLS q0 q1 q2 q3 q4 m5 m6
      generalize laidW w2.drew g2 cur2 X BD = w3 at *
      go_wp2_with fail
      go_region_law (refine step_copy_run (by rfl) (.tmp 40) (.tmp 42) 22 22 (by rfl) (.slice (some ⟨g2, X, none⟩) (6400 - X) (c2 - X)) (.slice ad BD.length cc) (by rfl) (by rfl) (.int .i64 BD.length) w3 (unhide HCP _) ?_)
      all_goals
        go_wp2
        go_roundw
        case rel => exact ⟨k + 1, _, _, by omega, rfl, rfl, by go_num, by rw [unhide HNX]; exact unhide HBS3, unhide HB3⟩
        case measure => simp [intOf]; omega
    · obtain rfl : k = os.length := by omega
      rw [unhide HEO] at hb
      have hll := (unhide HLO os.length (by rw [List.length_map]; exact Nat.le_refl _))
      rw [unhide HEO] at hll
      have HLL := hide hll
      have HB := hide hb
      have HBW := hide hB
      have HER : Hid (layR (R.take R.length) 0 (layO (os.map ojP) (zerosB 6400)) = layR R 0 (layO (os.map ojP) (zerosB 6400))) := hide (by rw [List.take_length])
      clear hlt hb hB hll HLO HEO HO HBO HOS HB1 HBW1
      generalize layO (os.map ojP) (zerosB 6400) = L0 at *
      go_wp2_with fail
      go_loopw [6, 7, 47] (fun bv ev iv wr => ∃ (j : Nat) (a' : Option Addr) (c' : Nat), j ≤ R.length ∧ bv = .slice a' 6400 c' ∧ ev = .nilIface ∧ iv = .int .i64 j ∧ Bs wr a' c' (layR (R.take j) 0 L0) ∧ (layR (R.take j) 0 L0).length = 6400 ∧ Below w.heap.size w wr) (fun _ _ iv _ => R.length - (intOf iv).toNat)
      case atStart => exact ⟨0, _, _, Nat.zero_le _, rfl, rfl, rfl, unhide HB, (unhide HLL).1, unhide HBW⟩
      case round =>
        obtain ⟨j, a2, c2, hj, rfl, rfl, rfl, hb, hbl, hB⟩ := hrel
        by_cases hlt : j < R.length
        · have hne : R ≠ [] := by intro e; rw [e] at hlt; simp at hlt
          obtain ⟨b1, o1, rfl, hc1⟩ := ((unhide HRS).below hB).2.2.2 hne
          obtain ⟨f, hf⟩ : ∃ f, R[j]? = some f := ⟨R[j], List.getElem?_eq_getElem hlt⟩
          obtain ⟨q0, q1⟩ := Sls.root (cap := 0) hc1 hf
          obtain ⟨hp1, hp2, hp3⟩ := unhide HR j f hf
          have hnext := layR_next hf L0
          have hns : f.1.size ≤ 140737488351232 := by
            obtain ⟨_, _, _, hre⟩ := prE_zero.1 hp1
            unfold rowRE at hre
            by_cases h0 : noRoot f = true
            · have := (noRoot_iff.1 h0).1; omega
            · rw [if_neg h0] at hre
              by_cases h1 : hndB f.2 = false
              · rw [if_pos h1] at hre; exact absurd hre (by decide)
              rw [if_neg h1] at hre
              by_cases h2 : nameB f.1 = true
              · have := (nameB_iff.1 h2).2.1; omega
              · rw [if_neg h2] at hre; exact absurd hre (by decide)
          have hpl : (prL (layR (R.take j) 0 L0) j f).length = 6400 := by
            obtain ⟨_, p1, p2, hre⟩ := prE_zero.1 hp1
            unfold prL
            rw [if_pos hp1, length_splice, hp2]
            have := rowR_len hre
            rw [Int.toNat_natCast, this, hp2]
            omega
          have hBA : Below wr.heap.size wr (wr.alloc (.cells #[.string f.1, .int .i64 f.2] 57)) := (Below.refl _ _).alloc (Nat.le_refl _) _
          have HPUT := hide (iPutRoot_any a2 c2 (layR (R.take j) 0 L0) j f _ (hb.below hBA) hns)
          rw [hp1, show errV 0 = .nilIface from rfl, hbl] at HPUT
          unfold rootV at HPUT
          have HBA := hide (hB.trans (hBA.mono hB.size))
          have HNX := hide hnext
          have HPL := hide hpl
          obtain ⟨s, z⟩ := f
          dsimp only at q0 q1 HPUT
          clear hc1 hf hne hp1 hp2 hp3 hnext hns hpl hBA hb hbl hB
          go_wp2_with fail
          refine (unhide HPUT).mono ?_
          rintro e w5 ⟨a5, c5, rfl, hb5, hB5⟩
          rw [unhide HPL]
          have HB5 := hide hb5
          have HBW5 := hide ((unhide HBA).trans (hB5.mono (unhide HBA).size))
          clear hb5 hB5 HPUT HBA q0 q1
          go_wp2
          go_roundw
          case rel => exact ⟨j + 1, _, _, by omega, rfl, rfl, by go_num, by rw [unhide HNX]; exact unhide HB5, by rw [unhide HNX]; exact unhide HPL, unhide HBW5⟩
          case measure => simp [intOf]; omega
        · obtain rfl : j = R.length := by omega
          rw [unhide HER] at hb hbl
          have HB := hide hb
          have HBW := hide hB
          have HBL := hide hbl
          clear hb hB hbl hlt
          go_wp2
          go_ret2
          exact ⟨_, _, by rw [unhide HBL]; rfl, unhide HB, unhide HBW⟩
set_option maxHeartbeats 1000000 in
theorem up_any (a : Option Addr) (cap : Nat) (b : List Int) (w : World) (hbs : Bs w a cap b) :
    Calls Tryz.prog 6 #[.slice a b.length cap] w (Ends w (upS b).2 (errV (upS b).1)) := by
  obtain ⟨u1, u2, u3⟩ := up_code hbs.1
  have HRD := hide (rdRead_any a cap b w hbs)
  have hbl := hbs.2.2.1
  rw [u1]
  by_cases h0 : (upK b).1 = 0
  · obtain ⟨z1, z2, z3, z4, z5⟩ := u3 h0
    rw [h0, show errV 0 = .nilIface from rfl] at HRD
    rw [h0, show errV 0 = .nilIface from rfl, z1]
    have HL := hide (fun (oa ra : Option Addr) (oc rc : Nat) (os : List ((Int × Int × Int × Int) × Option Addr × Nat × List Int)) (W : World) (e : os.map ojP = (upK b).2.1) h1 h2 h3 => laid_any oa ra oc rc os (upK b).2.2 W h1 h2 h3 (by rw [e]; exact z2) (by rw [e]; exact z3))
    clear hbs u1 u2 u3 h0 z1 z2 z3
    generalize (upK b).2.1 = O at *
    generalize (upK b).2.2 = R at *
    go_enter Tryz.func6, Tryz.ntmps6
    go_wp2_with fail
    refine (unhide HRD).mono ?_
    rintro e w1 ⟨vO, vR, os, rfl, hLO, hos, hbo, hLR, hB1⟩
    have hol : os.length ≤ 40 := by rw [← hos, List.length_map] at z4; exact z4
    obtain ⟨oa, oc, rfl, hsO⟩ := hLO.sls ojC_len (by omega)
    obtain ⟨ra, rc, rfl, hsR⟩ := hLR.sls roC_len (by omega)
    have hC := unhide HL oa ra oc rc os w1 hos hsO hbo hsR
    rw [hos] at hC
    have HC := hide hC
    have HB1 := hide hB1
    generalize layR R 0 (layO O (zerosB 6400)) = LL at *
    clear hLO hos hbo hLR hB1 hsO hsR HRD HL hC z4
    go_wp2_with fail
    refine (unhide HC).mono ?_
    rintro e w2 ⟨a2, c2, rfl, hb2, hB2⟩
    have HB2 := hide hb2
    have HBW := hide ((unhide HB1).trans (hB2.mono (unhide HB1).size))
    clear hb2 hB2 HC HB1
    go_wp2
    go_ret2
    exact ⟨_, _, rfl, unhide HB2, unhide HBW⟩
  · obtain ⟨z1, z2, z3⟩ := u2 h0
    rw [z1, errV_pos _ h0]
    rw [errV_pos _ h0] at HRD
    clear hbs u1 u2 u3 h0 z1 z2 z3
    generalize (upK b).1 = X at *
    go_enter Tryz.func6, Tryz.ntmps6
    go_wp2_with fail
    refine (unhide HRD).mono ?_
    rintro e w1 ⟨vO, vR, os, rfl, hLO, hos, hbo, hLR, hB1⟩
    have HB1 := hide hB1
    clear hLO hos hbo hLR hB1 HRD
    go_wp2
    go_ret2
    exact ⟨none, 0, rfl, bs_nil _, unhide HB1⟩
end Go.Proofs.YtllpeknpplpgeaaGreatDoor
