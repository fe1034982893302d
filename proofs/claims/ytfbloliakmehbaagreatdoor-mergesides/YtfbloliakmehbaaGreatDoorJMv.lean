/-
  Parts of the proofs, joined by program.
-/
import Derived.Test.YtfbloliakmehbaaGreatDoorJMvp
import Derived.Test.YtfbloliakmehbaaGreatDoorJHq
import Derived.Test.YtfbloliakmehbaaGreatDoorJHp
import Derived.Shelf.SlSortCmp.QuietGrown
import Derived.Deep.RegionHeld3
import Derived.Test.YtfbloliakmehbaaGreatDoorJEy
import Derived.Test.YtfbloliakmehbaaGreatDoorJIn
import Derived.Deep.QuietTactic
namespace Go.Proofs.YtfbloliakmehbaaGreatDoor
open Go.RowKit Go.Sort
set_option linter.unusedVariables false
theorem mvBehind_w (x y : Int) (w : World) (hx : 0 <= x /\ x <= 100000) (hy : 0 <= y /\ y <= 100000) :
  Calls Tryz.prog 173 #[.agg #[.int .i64 x, .int .i64 y]] w fun e w' => e = .returned (.int .i64 (x + y)) /\ ∃ q os, w' = grow (w.drewN q) os := by
 go_enter Tryz.func173, Tryz.ntmps173
 go_wp2
 go_ret
 exact ⟨rfl, 0, _, by rw [alloc_eq_grow]; rfl⟩
theorem ex_take {l : List (Int × Int × Int × Int)} {k : Nat} {e : (Int × Int × Int × Int)} (h : l[k]? = some e) : (0, 288) :: ((l.map exE).take (k + 1)) = ((0, 288) :: (l.map exE).take k) ++ [(e.2.1, e.2.2.1)] := by
 rw [List.take_add_one, List.getElem?_map, h]
 rfl
set_option maxHeartbeats 2000000 in
theorem taken_any (a : Option Addr) (cap : Nat) (l : List (Int × Int × Int × Int)) (w : World) (hs : Sls enC 4 w a cap l) (hl : l.length <= 40) :
  Calls Tryz.prog 170 #[.slice a l.length cap] w fun e w' => ∃ v, e = .returned v /\ Lst exC 2 69 w' w.heap.size v ((0, 288) :: l.map exE) /\ Below w.heap.size w w' := by
 obtain ⟨i0, hi0, hz0, hz1, hz2⟩ := info_parts info_exH
 have hcap := hs.2.2.1
 have HS := hide hs
 clear hs
 have HST : Hid (Lst exC 2 69 (w.alloc (.cells #[.int .i64 0, .int .i64 288] 69)) w.heap.size (.slice (some ⟨w.heap.size, 0, none⟩) 1 1) [(0, 288)]) := hide ⟨rfl, .inr ⟨w.heap.size, 1, #[.int .i64 0, .int .i64 288], rfl, Nat.le_refl _, heap_alloc_new w _, Nat.le_refl _, by decide, rfl, rfl⟩⟩
 go_enter Tryz.func170, Tryz.ntmps170
 go_wp2_with fail
 go_loopw [3, 10] (fun v iv wr => ∃ k : Nat, k <= l.length /\ iv = .int .i64 k /\ Lst exC 2 69 wr w.heap.size v ((0, 288) :: (l.map exE).take k) /\ Below w.heap.size w wr) (fun _ iv _ => l.length - (intOf iv).toNat)
 case atStart => exact ⟨0, Nat.zero_le _, rfl, unhide HST, (Below.refl _ _).alloc (Nat.le_refl _) _⟩
 case round =>
  obtain ⟨k, hk, rfl, hown, hbel⟩ := hrel
  obtain ⟨va, vm, vc, rfl⟩ := hown.shape
  by_cases hlt : k < l.length
  ·have hne : l ≠ [] := by intro e; rw [e] at hlt; simp at hlt
   obtain ⟨b1, o1, rfl, hc1⟩ := ((unhide HS).below hbel).2.2.2 hne
   obtain ⟨f, hf⟩ : ∃ f, l[k]? = some f := ⟨l[k], List.getElem?_eq_getElem hlt⟩
   obtain ⟨q0, q1, q2, q3⟩ := Sls.ent (cap := 0) hc1 hf
   have HT := hide (ex_take hf)
   have hml : ((0, 288) :: (l.map exE).take k).length <= 41 := by simp; omega
   obtain ⟨x, y, z, t⟩ := f
   dsimp only at *
   have hB1 := hbel.alloc hbel.size (.cells #[.int .i64 x, .int .i64 y, .int .i64 z, .int .i64 t] 71)
   have HB3 := hide (hB1.alloc hB1.size (.cells #[.int .i64 y, .int .i64 z] 69))
   have HO3 := hide ((hown.below ((Below.refl _ _).alloc (Nat.le_refl _) (.cells #[.int .i64 x, .int .i64 y, .int .i64 z, .int .i64 t] 71))).below ((Below.refl _ _).alloc (Nat.le_refl _) (.cells #[.int .i64 y, .int .i64 z] 69)))
   have HGN : Hid (((wr.alloc (.cells #[.int .i64 x, .int .i64 y, .int .i64 z, .int .i64 t] 71)).alloc (.cells #[.int .i64 y, .int .i64 z] 69)).heap[wr.heap.size + 1]? = some (.cells (exC (y, z)).toArray 69 (0, 0))) := hide (by
    have := heap_alloc_new (wr.alloc (.cells #[.int .i64 x, .int .i64 y, .int .i64 z, .int .i64 t] 71)) (.cells #[.int .i64 y, .int .i64 z] 69)
    rw [sz_alloc] at this
    exact this)
   have hsz := hbel.size
   clear hc1 hf hne hbel hB1 hown
   generalize (0, 288) :: (l.map exE).take k = TK at *
   go_wp2_with (at_builtin; refine wpList_append_lst rfl _ _ 200 rfl w.heap.size i0 (.agg #[.int .i64 0, .int .i64 0]) 16 Tryz.underlying200 hi0 hz0 hz1 hz2 rfl (by decide) (by decide) _ _ rfl (unhide HO3) (wr.heap.size + 1) (y, z) rfl (unhide HGN) rfl (exC_one _) (by omega) (by simp; omega) ?_)
   intro v9 w9 hown9 hbel9
   rw [<- unhide HT] at hown9
   have HO9 := hide hown9
   have HB9 := hide ((unhide HB3).trans hbel9)
   obtain ⟨a9, m9, c9, rfl⟩ := hown9.shape
   clear hown9 hbel9 HO3 HB3 HGN q0 q1 q2 q3
   go_wp2
   go_roundw
   case rel => exact ⟨k + 1, by omega, by go_num, unhide HO9, unhide HB9⟩
   case measure => simp [intOf]; omega
  ·obtain rfl : k = l.length := by omega
   rw [List.take_of_length_le (by simp)] at hown
   have HO := hide hown
   have HB := hide hbel
   clear hown hbel
   go_wp2
   go_ret
   exact ⟨_, rfl, unhide HO, unhide HB⟩
set_option maxRecDepth 100000 in
set_option maxHeartbeats 1000000 in
theorem step1_any (q : Nat) (e : (Int × Int × Int × Int)) (x y : Int) (w : World) (hx : 0 <= x /\ x <= 100000) (hy : 0 <= y /\ y <= 100000) (h0 : w.cell? ⟨q, 0, none⟩ = some (.int .i64 x)) (h1 : w.cell? ⟨q, 1, none⟩ = some (.int .i64 y)) :
  Calls Tryz.prog 172 #[.agg #[.int .i64 e.1, .int .i64 e.2.1, .int .i64 e.2.2.1, .int .i64 e.2.2.2], .pointer (some ⟨q, 0, none⟩)] w fun r w' => r = .returned (.bool (e.2.1 == x + y)) /\ Below w.heap.size w w' := by
 obtain ⟨z1, z2, z3, z4⟩ := e
 dsimp only
 have mixed : Tryz.prog.follows .mixedOrders = true := by kernel_rfl
 have HC := hide (fun W => mvBehind_w x y W hx hy)
 have hq := block_lt_of_cell h0
 dsimp only at hq
 have hen := EnB.new w (z1, z2, z3, z4)
 obtain ⟨c0, c1, c2, c3⟩ := hen.cells
 have d0 : (w.alloc (.cells #[.int .i64 z1, .int .i64 z2, .int .i64 z3, .int .i64 z4] 71)).cell? ⟨q, 0, none⟩ = some (.int .i64 x) := (((Below.refl w.heap.size w).alloc (Nat.le_refl _) _).cell (block_lt_of_cell h0)).trans h0
 have d1 : (w.alloc (.cells #[.int .i64 z1, .int .i64 z2, .int .i64 z3, .int .i64 z4] 71)).cell? ⟨q, 1, none⟩ = some (.int .i64 y) := (((Below.refl w.heap.size w).alloc (Nat.le_refl _) _).cell (block_lt_of_cell h1)).trans h1
 dsimp only at c1
 have l0 := fun n os => cell_grown (w := w.alloc (.cells #[.int .i64 z1, .int .i64 z2, .int .i64 z3, .int .i64 z4] 71)) (by simp; omega) d0 n os
 have l1 := fun n os => cell_grown (w := w.alloc (.cells #[.int .i64 z1, .int .i64 z2, .int .i64 z3, .int .i64 z4] 71)) (by simp; omega) d1 n os
 have l2 := fun n os => cell_grown (w := w.alloc (.cells #[.int .i64 z1, .int .i64 z2, .int .i64 z3, .int .i64 z4] 71)) (by simp) c1 n os
 have hB : Below w.heap.size w (w.alloc (.cells #[.int .i64 z1, .int .i64 z2, .int .i64 z3, .int .i64 z4] 71)) := (Below.refl _ _).alloc (Nat.le_refl _) _
 have HF := hide (fun n os => hB.trans ((grow_below (w := w.alloc (.cells #[.int .i64 z1, .int .i64 z2, .int .i64 z3, .int .i64 z4] 71)) (q := n) (os := os)).mono hB.size))
 clear hen c0 c1 c2 c3 d0 d1 h0 h1 hB
 generalize x + y = s at *
 go_enter Tryz.func172, Tryz.ntmps172
 go_wp2_with fail
 generalize w.alloc (.cells #[.int .i64 z1, .int .i64 z2, .int .i64 z3, .int .i64 z4] 71) = W at *
 go_quiet_grown ((go_at_call 173; with_reducible exact Calls.grown_of (unhide HC _)))
 go_wp2
 go_ret
 exact ⟨rfl, unhide HF _ _⟩
set_option maxHeartbeats 1000000 in
theorem mvIndex_any (q : Nat) (x y : Int) (a : Option Addr) (cap : Nat) (l : List (Int × Int × Int × Int)) (w : World) (hx : 0 <= x /\ x <= 100000) (hy : 0 <= y /\ y <= 100000) (hs : Sls enC 4 w a cap l) (h0 : w.cell? ⟨q, 0, none⟩ = some (.int .i64 x)) (h1 : w.cell? ⟨q, 1, none⟩ = some (.int .i64 y)) :
  Calls Tryz.prog 171 #[.slice a l.length cap, .func (.func 172) #[] #[.pointer (some ⟨q, 0, none⟩)]] w fun e w' => ∃ i : Int, e = .returned (.int .i64 i) /\ ((i = -1 /\ ∀ f ∈ l, f.2.1 ≠ x + y) \/ ∃ (k : Nat) (f : (Int × Int × Int × Int)), i = k /\ l[k]? = some f /\ f.2.1 = x + y) /\ Below w.heap.size w w' := by
 have hl := hs.2.2.1
 have HS := hide hs
 have H0 := hide h0
 have H1 := hide h1
 clear hs h0 h1
 go_enter Tryz.func171, Tryz.ntmps171
 go_wp2
 go_loopw [5, 8] (fun _ iv wr => ∃ k : Nat, k <= l.length /\ iv = .int .i64 k /\ (∀ f ∈ l.take k, f.2.1 ≠ x + y) /\ Below w.heap.size w wr) (fun _ iv _ => l.length - (intOf iv).toNat)
 case atStart => exact ⟨0, Nat.zero_le _, rfl, fun f hf => by simp at hf, Below.refl _ _⟩
 case round =>
  obtain ⟨k, hk, rfl, hV, hbel⟩ := hrel
  by_cases hlt : k < l.length
  ·have hne : l ≠ [] := by intro e; rw [e] at hlt; simp at hlt
   obtain ⟨b1, o1, rfl, hc1⟩ := ((unhide HS).below hbel).2.2.2 hne
   obtain ⟨f, hf⟩ : ∃ f, l[k]? = some f := ⟨l[k], List.getElem?_eq_getElem hlt⟩
   obtain ⟨q0, q1, q2, q3⟩ := Sls.ent (cap := 0) hc1 hf
   have g0 := (hbel.cell (block_lt_of_cell (unhide H0))).trans (unhide H0)
   have g1 := (hbel.cell (block_lt_of_cell (unhide H1))).trans (unhide H1)
   have HC := hide (step1_any q f x y wr hx hy g0 g1)
   have hst : l.take (k + 1) = l.take k ++ [f] := by rw [List.take_add_one, hf]; rfl
   have HFK := hide hf
   have HST := hide hst
   have HV := hide hV
   have HBEL := hide hbel
   obtain ⟨z1, z2, z3, z4⟩ := f
   dsimp only at *
   clear hc1 hf hne g0 g1 hbel hst hV
   generalize hs9 : x + y = s at *
   have HS9 := hide hs9
   clear hs9
   cases he : (z2 == s)
   ·rw [he] at HC
    have HNE := hide (beq_eq_false_iff_ne.1 he)
    clear he
    go_wp2_with (go_at_call 172; refine (unhide HC).mono ?_; rintro e w1 ⟨rfl, hb1⟩; have HB1 := hide ((unhide HBEL).trans (hb1.mono (unhide HBEL).size)); clear hb1)
    go_roundw
    case rel =>
     refine ⟨k + 1, by omega, by go_num, fun f hf => ?_, unhide HB1⟩
     rw [unhide HST] at hf
     rcases List.mem_append.1 hf with hf | hf
     ·exact unhide HV f hf
     ·rw [List.mem_singleton.1 hf]; exact unhide HNE
    case measure => simp [intOf]; omega
   ·rw [he] at HC
    have HEQ := hide (eq_of_beq he)
    clear he
    go_wp2_with (go_at_call 172; refine (unhide HC).mono ?_; rintro e w1 ⟨rfl, hb1⟩; have HB1 := hide ((unhide HBEL).trans (hb1.mono (unhide HBEL).size)); clear hb1)
    go_ret
    exact ⟨k, rfl, .inr ⟨k, _, rfl, unhide HFK, (unhide HEQ).trans (unhide HS9).symm⟩, unhide HB1⟩
  ·have hkq : k = l.length := by omega
   rw [hkq, List.take_length] at hV
   have hge : ¬ ((k : Int) < (l.length : Int)) := by omega
   have HV := hide hV
   have HBEL := hide hbel
   clear hV hkq hlt hk hbel
   go_wp2
   go_ret
   first
    | exact ⟨-1, rfl, .inl ⟨rfl, unhide HV⟩, unhide HBEL⟩
    | exact ⟨-1, rfl, .inl ⟨rfl, fun a b c d hm => unhide HV (a, b, c, d) hm⟩, unhide HBEL⟩
theorem EnB.at1 {w : World} {g : Nat} {e : (Int × Int × Int × Int)} (h : EnB w g e) (z : Int) : EnB (w.setCell ⟨g, 1, none⟩ (.int .i64 z)) g (e.1, z, e.2.2) := heap_setCell_same w g 1 _ _ (.int .i64 z) h
set_option maxRecDepth 100000 in
set_option maxHeartbeats 2000000 in
theorem moved_any (a : Option Addr) (cap : Nat) (L : List Int) (h : Int) (x : Nat) (w : World) (hbs : Bs w a cap L) (hf : Fine L) (h1 : 1 <= h) (h2 : h <= 40) (ht : tagAt L h ≠ 0) (hx : 288 <= x) (hle : (x : Int) <= (entOf L h).2.1) :
  Calls Tryz.prog 174 #[.slice a L.length cap, .agg #[.int .i64 (entOf L h).1, .int .i64 (entOf L h).2.1, .int .i64 (entOf L h).2.2.1, .int .i64 (entOf L h).2.2.2], .int .i64 x] w (EndsR w (mvB L h x) .nilIface) := by
 have mixed : Tryz.prog.follows .mixedOrders = true := by kernel_rfl
 have hen := hf.ent h1 h2 ht
 have he : putE L (h, (x : Int), (entOf L h).2.2.1, (entOf L h).2.2.2) = 0 := putE_zero.2 ⟨hf.len0, hndB_iff.2 ⟨h1, h2⟩, hen.2.2.2.2.1, hen.2.2.2.2.2, hen.2.1, hen.2.2.1, by dsimp only; omega, by dsimp only; omega⟩
 have hPl := putL_len he
 have hob : (objOf L h).2 = (L.drop (entOf L h).2.1.toNat).take (entOf L h).2.2.1.toNat := by
  unfold objOf objE partL
  rw [if_neg ht]
 have hl := hf.len
 have hLl := hbs.2.2.1
 have hmv : mvB L h x = splice (putL L (h, (x : Int), (entOf L h).2.2.1, (entOf L h).2.2.2)) x (objOf L h).2 := rfl
 have heq : (entOf L h).1 = h := rfl
 have hsp : splice L (plc h) (rowE (h, (x : Int), (entOf L h).2.2.1, (entOf L h).2.2.2)) = putL L (h, (x : Int), (entOf L h).2.2.1, (entOf L h).2.2.2) := by unfold putL; rw [if_pos he]
 have HP := hide (fun (W : World) (hW : Below w.heap.size w W) => iPut_row a cap L h (x : Int) (entOf L h).2.2.1 (entOf L h).2.2.2 W (hbs.below hW) he)
 rw [hsp] at HP
 unfold EndsR at HP
 rw [hPl] at HP
 rw [heq, hmv, hob]
 clear hmv hob he hsp heq
 generalize entOf L h = E at *
 obtain ⟨e1, e2, e3, e4⟩ := E
 dsimp only at *
 obtain ⟨n1, n2, n3, n4, n5, n6⟩ := hen
 obtain ⟨X, rfl⟩ := Int.eq_ofNat_of_zero_le (show 0 <= e2 by omega)
 obtain ⟨Y, rfl⟩ := Int.eq_ofNat_of_zero_le (show 0 <= e3 by omega)
 rw [Int.toNat_natCast, Int.toNat_natCast]
 obtain ⟨p1, hs1, hb1⟩ := slice_lohi (P := Tryz.prog) (t := 22) Tryz.underlying22 size_u8 hbs X (X + Y) (by omega) (by omega)
 rw [show X + Y - X = Y by omega, show ((X + Y : Nat) : Int) = (X : Int) + Y by omega] at hs1
 rw [show X + Y - X = Y by omega] at hb1
 have hbl : ((L.drop X).take Y).length = Y := by simp; omega
 have hbne : (L.drop X).take Y ≠ [] := by intro e; rw [e] at hbl; simp at hbl; omega
 have HBODY := hide hb1
 have HBL := hide hbl
 have HBNE := hide hbne
 have HC := hide (fun W => mvBehind_w (X : Int) (Y : Int) W (by omega) (by omega))
 have hB0 : Below w.heap.size w (w.alloc (.cells #[.int .i64 h, .int .i64 X, .int .i64 Y, .int .i64 e4] 71)) := (Below.refl _ _).alloc (Nat.le_refl _) _
 have hen0 := EnB.new w (h, (X : Int), (Y : Int), e4)
 obtain ⟨c0, c1, c2, c3⟩ := hen0.cells
 dsimp only at c1 c2
 have k1 := fun n os => cell_grown hen0.lt c1 n os
 have k2 := fun n os => cell_grown hen0.lt c2 n os
 have HG := hide (fun n os => (show Below w.heap.size w (grow ((w.alloc (.cells #[.int .i64 h, .int .i64 X, .int .i64 Y, .int .i64 e4] 71)).drewN n) os) /\ EnB (grow ((w.alloc (.cells #[.int .i64 h, .int .i64 X, .int .i64 Y, .int .i64 e4] 71)).drewN n) os) w.heap.size (h, (X : Int), (Y : Int), e4) from ⟨hB0.trans (grow_below.mono hB0.size), hen0.below grow_below hen0.lt⟩))
 have HBS := hide hbs
 have HFIT : Hid (x + Y <= (putL L (h, (x : Int), (Y : Int), e4)).length) := hide (by rw [hPl]; omega)
 have HPL := hide hPl
 clear hbs hf ht hb1 hbl hbne hen0 c0 c1 c2 c3 hB0 hPl
 generalize putL L (h, (x : Int), (Y : Int), e4) = P at *
 generalize (L.drop X).take Y = BO at *
 generalize hN : L.length = N at *
 have HN := hide hN
 clear hN
 go_enter Tryz.func174, Tryz.ntmps174
 go_wp2_with fail
 generalize w.alloc (.cells #[.int .i64 h, .int .i64 X, .int .i64 Y, .int .i64 e4] 71) = W at *
 go_quiet_grown ((go_at_call 173; with_reducible exact Calls.grown_of (unhide HC _)))
 obtain ⟨hb2, hen2⟩ := unhide HG nq osq
 clear HG HC k1 k2
 generalize grow (W.drewN nq) osq = w2 at *
 obtain ⟨c0, c1, c2, c3⟩ := hen2.cells
 have hfr2 := hen2.fr 1
 have hlt2 := hen2.lt
 have hen3 := hen2.at1 (x : Int)
 have hb3 : Below w.heap.size w (w2.setCell ⟨w.heap.size, 1, none⟩ (.int .i64 x)) := hb2.setCell (Nat.le_refl _) _
 have HP3 := hide (unhide HP _ hb3)
 obtain ⟨d0, d1, d2, d3⟩ := hen3.cells
 have HB3 := hide hb3
 dsimp only at c0 c1 c2 c3 d0 d1 d2 d3
 clear hen2 hb2 hen3 hb3 HP
 go_wp2_with fail
 refine (unhide HP3).mono ?_
 rintro e w4 ⟨g4, c4, cur4, rfl, hr4, hb4⟩
 have hc4 := hr4.2.2.1
 rw [unhide HPL] at hc4
 have hcut := cut_row (P := Tryz.prog) Tryz.underlying22 size_u8 g4 c4 N x (by omega) hc4 (by omega)
 have hB4 := (unhide HB3).trans (hb4.mono (unhide HB3).size)
 have hcopy : Sem.run Tryz.prog (Builtin.copy_ #[22, 22] 3 #[.slice (some ⟨g4, x, none⟩) (N - x) (c4 - x), .slice p1 Y (cap - X)]) w4 = .ok (.int .i64 Y) (laidW w4 g4 cur4 x BO) := by
  have := run_copy_laid (P := Tryz.prog) w4 22 22 3 Tryz.underlying22 size_u8 _ g4 x (N - x) (c4 - x) c4 cur4 p1 (cap - X) P BO (by rw [unhide HBL]; omega) (unhide HBNE) (by rw [unhide HBL]; exact unhide HFIT) hr4 ((unhide HBODY).below hB4)
  rw [unhide HBL] at this
  exact this
 have HR := hide ((laidW_row hr4 (show x + BO.length <= _ by rw [unhide HBL]; exact unhide HFIT)).low (unhide HB3).size)
 have HB := hide (laidW_below (cur := cur4) (l := BO) (off := x) hB4 (Nat.le_trans (unhide HB3).size hr4.1))
 have HLEN := hide (length_splice (z := P) (l := BO) (off := x) (by rw [unhide HBL]; exact unhide HFIT))
 clear hr4 hb4 hB4 HP3 c0 c1 c2 c3 d0 d1 d2 d3 hfr2
 go_wp2
 go_ret2
 exact ⟨g4, c4, _, by rw [unhide HLEN, unhide HPL]; rfl, unhide HR, unhide HB⟩
theorem ents_where {L : List Int} (hf : Fine L) {x y : (Int × Int × Int × Int)} (hx : x ∈ entsK L 40) (hy : y ∈ entsK L 40) (h : x.2.1 = y.2.1) : x = y := by
 by_cases hne : x.1 = y.1
 ·exact ents_one hx hy hne
 ·have h1 := ents_apart hf hx hy hne
  have h2 := ent_in hf hx
  have h3 := ent_in hf hy
  unfold Ahead at h1
  omega
theorem tk_in {L : List Int} (hf : Fine L) : ∀ e ∈ tknL L, InI e := fun e he => by
 have hl := hf.len
 unfold tknL at he
 unfold InI
 rcases List.mem_cons.1 he with rfl | he
 ·dsimp only; omega
 ·obtain ⟨x, hx, rfl⟩ := List.mem_map.1 he
  have := ent_in hf hx
  unfold exE
  dsimp only
  omega
theorem step_runs {w : World} {a : Option Addr} {cap : Nat} {L : List Int} (hbs : Bs w a cap L) (hf : Fine L) :
  Calls Tryz.prog 60 #[.slice a L.length cap] w fun e w1 => ∃ a1 c1, e = .returned (.tuple #[.slice a1 (entsK L 40).length c1, .nilIface]) /\ Sls enC 4 w1 a1 c1 (entsK L 40) /\ Below w.heap.size w w1 /\
   Hid (Calls Tryz.prog 170 #[.slice a1 (entsK L 40).length c1] w1 fun e w2 => ∃ a2 c2, e = .returned (.slice a2 (tknL L).length c2) /\
    Hid (Calls Tryz.prog 163 #[.int .i64 L.length, .slice a2 (tknL L).length c2] w2 fun e w3 => ∃ a3 c3, e = .returned (.tuple #[.slice a3 (freeL (L.length : Int) (tknL L)).length c3, .nilIface]) /\ Exs w3 a3 c3 (freeL (L.length : Int) (tknL L)) /\ Sls enC 4 w3 a1 c1 (entsK L 40) /\ Below w.heap.size w w3)) := by
 have hel := entsK_len L 40
 have hch := tk_chk hf
 have hsm := freeL_small hch
 have hl := hf.len
 refine (iEnts_yes a cap L w hbs hf.len0).mono ?_
 rintro e w1 ⟨v1, rfl, ho1, hb1⟩
 obtain ⟨a1, c1, rfl, hs1⟩ := ho1.sls enC_len (by omega)
 refine ⟨a1, c1, rfl, hs1, hb1, hide ?_⟩
 refine (taken_any a1 c1 (entsK L 40) w1 hs1 hel).mono ?_
 rintro e w2 ⟨v2, rfl, ho2, hb2⟩
 have ho2' : ExO w2 w1.heap.size v2 (tknL L) := ho2
 obtain ⟨a2, c2, rfl, hx2⟩ := ho2'.exs (tk_in hf) (by have := tknL_len L; omega)
 refine ⟨a2, c2, rfl, hide ?_⟩
 refine (frees_any (L.length : Int) a2 c2 (tknL L) w2 hx2).mono ?_
 rintro e w3 ⟨v3, rfl, ho3, hb3⟩
 obtain ⟨a3, c3, rfl, hx3⟩ := ho3.exs (fun e he => by have := hsm.1 e he; unfold InI; omega) (by omega)
 have hB2 := hb1.trans (hb2.mono hb1.size)
 exact ⟨a3, c3, by rw [hch]; rfl, hx3, (hs1.below hb2).below hb3, hB2.trans (hb3.mono hB2.size)⟩
set_option maxRecDepth 100000 in
set_option maxHeartbeats 2000000 in
theorem mvStep_no (a : Option Addr) (cap : Nat) (L : List Int) (w : World) (hbs : Bs w a cap L) (hf : Fine L) (h : mvS L = none) :
  Calls Tryz.prog 142 #[.slice a L.length cap] w fun e w' => e = .returned (.tuple #[.slice none 0 0, .bool false, .nilIface]) /\ Below w.heap.size w w' := by
 have HR := hide (step_runs hbs hf)
 have hl := hf.len
 have hel := entsK_len L 40
 have htl := tknL_len L
 have hcase := mv_none hf h
 have hsm := (freeL_small (tk_chk hf)).1
 clear hbs hf h
 generalize freeL (L.length : Int) (tknL L) = FR at *
 generalize entsK L 40 = EN at *
 generalize (tknL L).length = TN at *
 generalize L.length = N at *
 rcases hcase with rfl | ⟨⟨x, y⟩, rfl, hno⟩
 ·go_enter Tryz.func142, Tryz.ntmps142
  go_wp2_with fail
  refine (unhide HR).mono ?_
  rintro e w1 ⟨a1, c1, rfl, _, _, HT⟩
  clear HR
  go_wp2_with fail
  refine (unhide HT).mono ?_
  rintro e w2 ⟨a2, c2, rfl, HF⟩
  clear HT
  go_wp2_with fail
  refine (unhide HF).mono ?_
  rintro e w3 ⟨a3, c3, rfl, _, _, hb3⟩
  have HB := hide hb3
  clear HF hb3
  go_wp2
  go_ret3
  exact ⟨rfl, unhide HB⟩
 ·have hxy := hsm (x, y) (by simp)
  dsimp only at hxy hno
  have HNO := hide hno
  clear hsm hno
  go_enter Tryz.func142, Tryz.ntmps142
  go_wp2_with fail
  refine (unhide HR).mono ?_
  rintro e w1 ⟨a1, c1, rfl, _, _, HT⟩
  clear HR
  go_wp2_with fail
  refine (unhide HT).mono ?_
  rintro e w2 ⟨a2, c2, rfl, HF⟩
  clear HT
  go_wp2_with fail
  refine (unhide HF).mono ?_
  rintro e w3 ⟨a3, c3, rfl, hx3, hs3, hb3⟩
  obtain ⟨b3, o3, rfl, hc3⟩ := hx3.2.2.2 (by simp)
  obtain ⟨q0, q1⟩ := hc3 0 (by simp)
  simp only [Nat.zero_mul, Nat.add_zero, List.getD_cons_zero] at q0 q1
  have hB4 : Below w3.heap.size w3 (w3.alloc (.cells #[.int .i64 x, .int .i64 y] 69)) := (Below.refl _ _).alloc (Nat.le_refl _) _
  have HI := hide (mvIndex_any w3.heap.size x y a1 c1 EN (w3.alloc (.cells #[.int .i64 x, .int .i64 y] 69)) (by omega) (by omega) (hs3.below hB4) (by rw [cell_of_row _ _ _ _ _ (0, 0) (heap_alloc_new w3 _)]; rfl) (by rw [cell_of_row _ _ _ _ _ (0, 0) (heap_alloc_new w3 _)]; rfl))
  have HB := hide (hb3.trans (hB4.mono hb3.size))
  clear HF hb3 hx3 hs3 hc3 hB4
  go_wp2_with fail
  refine (unhide HI).mono ?_
  rintro e w5 ⟨i, rfl, hi, hb5⟩
  have HB5 := hide ((unhide HB).trans (hb5.mono (unhide HB).size))
  rcases hi with ⟨rfl, _⟩ | ⟨k, f, _, hk, hat⟩
  ·clear hb5 HI HB HNO
   go_wp2
   go_ret3
   exact ⟨rfl, unhide HB5⟩
  ·exact absurd hat (unhide HNO f (List.mem_of_getElem? hk))
set_option maxRecDepth 100000 in
set_option maxHeartbeats 4000000 in
theorem mvStep_yes (a : Option Addr) (cap : Nat) (L : List Int) (w : World) (hbs : Bs w a cap L) (hf : Fine L) {c : List Int} (h : mvS L = some c) :
  Calls Tryz.prog 142 #[.slice a L.length cap] w fun e w' => ∃ g cp cur, e = .returned (.tuple #[.slice (some ⟨g, 0, none⟩) L.length cp, .bool true, .nilIface]) /\ Row w' w.heap.size g cp cur c /\ Below w.heap.size w w' := by
 have HR := hide (step_runs hbs hf)
 have hl := hf.len
 have hel := entsK_len L 40
 have htl := tknL_len L
 have has := (step_as hf h).1
 obtain ⟨⟨x, y⟩, r, i, E, hfr, hi, hat, _, hc, hx, hy⟩ := mv_some hf h
 have hem := List.mem_of_getElem? hi
 have hin := ent_in hf hem
 have hsm := (freeL_small (tk_chk hf)).1 (x, y) (by rw [hfr]; simp)
 have HUN := hide (fun (f : (Int × Int × Int × Int)) (hfm : f ∈ entsK L 40) (he : f.2.1 = x + y) => ents_where hf hfm hem (he.trans hat.symm))
 dsimp only at *
 obtain ⟨X, rfl⟩ := Int.eq_ofNat_of_zero_le (show 0 <= x by omega)
 rw [Int.toNat_natCast] at hc
 have HM := hide (fun (W : World) (hW : Below w.heap.size w W) => moved_any a cap L E.1 X W (hbs.below hW) hf hin.2.1 hin.2.2.1 hin.2.2.2.1 (by omega) (by rw [<- hin.1]; omega))
 rw [<- hin.1, <- hc] at HM
 unfold EndsR at HM
 rw [has.len] at HM
 have HNE := hide (show ∃ f ∈ entsK L 40, f.2.1 = (X : Int) + y from ⟨E, hem, hat⟩)
 rw [hfr] at HR
 clear hbs hf h hfr hi hat hem hin hc has
 generalize entsK L 40 = EN at *
 generalize (tknL L).length = TN at *
 generalize L.length = N at *
 have hr0 : ¬ ((r.length : Int) + 1 = 0) := by omega
 go_enter Tryz.func142, Tryz.ntmps142
 go_wp2_with fail
 refine (unhide HR).mono ?_
 rintro e w1 ⟨a1, c1, rfl, _, _, HT⟩
 clear HR
 go_wp2_with fail
 refine (unhide HT).mono ?_
 rintro e w2 ⟨a2, c2, rfl, HF⟩
 clear HT
 go_wp2_with fail
 refine (unhide HF).mono ?_
 rintro e w3 ⟨a3, c3, rfl, hx3, hs3, hb3⟩
 obtain ⟨b3, o3, rfl, hc3⟩ := hx3.2.2.2 (by simp)
 obtain ⟨q0, q1⟩ := hc3 0 (by simp)
 simp only [Nat.zero_mul, Nat.add_zero, List.getD_cons_zero] at q0 q1
 have hrl : ((X : Int), y) :: r ≠ [] := by simp
 have hB4 : Below w3.heap.size w3 (w3.alloc (.cells #[.int .i64 X, .int .i64 y] 69)) := (Below.refl _ _).alloc (Nat.le_refl _) _
 have f0 : (w3.alloc (.cells #[.int .i64 X, .int .i64 y] 69)).cell? ⟨w3.heap.size, 0, none⟩ = some (.int .i64 X) := by rw [cell_of_row _ _ _ _ _ (0, 0) (heap_alloc_new w3 _)]; rfl
 have f1 : (w3.alloc (.cells #[.int .i64 X, .int .i64 y] 69)).cell? ⟨w3.heap.size, 1, none⟩ = some (.int .i64 y) := by rw [cell_of_row _ _ _ _ _ (0, 0) (heap_alloc_new w3 _)]; rfl
 have HI := hide (mvIndex_any w3.heap.size X y a1 c1 EN (w3.alloc (.cells #[.int .i64 X, .int .i64 y] 69)) (by omega) (by omega) (hs3.below hB4) f0 f1)
 have HS := hide (hs3.below hB4)
 have F0 := hide f0
 have HB := hide (hb3.trans (hB4.mono hb3.size))
 have hcl3 := hx3.2.2.1
 rw [List.length_cons] at hcl3 ⊢
 clear HF hb3 hx3 hs3 hc3 hB4 f0 f1
 generalize hRL : r.length + 1 = RL at *
 have hRLi : (0 : Int) < (RL : Int) := by omega
 clear hRL
 go_wp2_with fail
 refine (unhide HI).mono ?_
 rintro e w5 ⟨i5, rfl, hi5, hb5⟩
 have hB5 := (unhide HB).trans (hb5.mono (unhide HB).size)
 rcases hi5 with ⟨rfl, hno⟩ | ⟨k, f, rfl, hk, hat5⟩
 ·obtain ⟨f, hf1, hf2⟩ := unhide HNE
  exact absurd hf2 (hno f hf1)
 ·obtain rfl := unhide HUN f (List.mem_of_getElem? hk) hat5
  have hkl := (List.getElem?_eq_some_iff.1 hk).1
  obtain ⟨b1, o1, rfl, hc1⟩ := ((unhide HS).below hb5).2.2.2 (by intro e; rw [e] at hkl; simp at hkl)
  obtain ⟨e0, e1, e2, e3⟩ := Sls.ent (cap := 0) hc1 hk
  have g0 := (hb5.cell (p := ⟨w3.heap.size, 0, none⟩) (block_lt_of_cell (unhide F0))).trans (unhide F0)
  have hbd : Below w5.heap.size w5 w5.drew := below_drew (Below.refl _ _)
  have HM5 : Hid (Calls Tryz.prog 174 #[.slice a N cap, .agg #[.int .i64 f.1, .int .i64 f.2.1, .int .i64 f.2.2.1, .int .i64 f.2.2.2], .int .i64 X] w5.drew fun e w' => ∃ g cp cur, e = .returned (.tuple #[.slice (some ⟨g, 0, none⟩) N cp, .nilIface]) /\ Row w' w.heap.size g cp cur c /\ Below w.heap.size w w' /\ w'.cell? ⟨b1, o1 + k * 4, none⟩ = some (.int .i64 f.1) /\ w'.cell? ⟨b1, o1 + k * 4 + 1, none⟩ = some (.int .i64 f.2.1) /\ w'.cell? ⟨b1, o1 + k * 4 + 2, none⟩ = some (.int .i64 f.2.2.1) /\ w'.cell? ⟨b1, o1 + k * 4 + 3, none⟩ = some (.int .i64 f.2.2.2) /\ w'.cell? ⟨w3.heap.size, 0, none⟩ = some (.int .i64 X)) := hide (by
   have hBd := hB5.trans (hbd.mono hB5.size)
   refine (unhide HM _ hBd).mono ?_
   rintro e w' ⟨g, cp, cur, rfl, hr, hb⟩
   have hb' := hbd.trans (hb.mono hbd.size)
   exact ⟨g, cp, cur, rfl, hr.low hBd.size, hBd.trans (hb.mono hBd.size), (hb'.cell (block_lt_of_cell e0)).trans e0, (hb'.cell (block_lt_of_cell e1)).trans e1, (hb'.cell (block_lt_of_cell e2)).trans e2, (hb'.cell (block_lt_of_cell e3)).trans e3, (hb'.cell (p := ⟨w3.heap.size, 0, none⟩) (block_lt_of_cell g0)).trans g0⟩)
  obtain ⟨z1, z2, z3, z4⟩ := f
  dsimp only at *
  have hkE : (k : Int) < (EN.length : Int) := by omega
  clear hb5 hB5 HI HS HB HNE HUN HM hk hc1 F0 hat5 hbd
  generalize EN.length = M at *
  go_wp2_with fail
  go_region_held3 (fun w' => w'.cell? ⟨b1, o1 + k * 4, none⟩ = some (.int .i64 z1) /\ w'.cell? ⟨b1, o1 + k * 4 + 1, none⟩ = some (.int .i64 z2) /\ w'.cell? ⟨b1, o1 + k * 4 + 2, none⟩ = some (.int .i64 z3) /\ w'.cell? ⟨b1, o1 + k * 4 + 3, none⟩ = some (.int .i64 z4) /\ w'.cell? ⟨w3.heap.size, 0, none⟩ = some (.int .i64 X)) (first | go_keep | (go_split_ands; refine ⟨?_, ?_, ?_, ?_, ?_⟩ <;> go_keep))
   ((go_at_call 174; refine (unhide HM5).mono ?_; rintro e w6 ⟨g6, c6, cur6, rfl, hr6, hb6, r0, r1, r2, r3, r4⟩))
  have HR6 := hide hr6
  have HB6 := hide hb6
  clear hr6 hb6 HM5 e0 e1 e2 e3 g0 r0 r1 r2 r3 r4
  go_wp2_with fail
  go_quiet (fail)
  go_wp2
  go_ret3
  exact ⟨g6, c6, cur6, rfl, ⟨(unhide HR6).1, (unhide HR6).2⟩, below_draws (unhide HB6) nq⟩
theorem mvS_byt {L c : List Int} (hb : Byt L) (h : mvS L = some c) : Byt c := by
 unfold mvS at h
 cases h2 : mvOn 288 (srtE L) with
 | none => rw [h2] at h; cases h
 | some x =>
  rw [h2] at h
  obtain rfl : mvB L x.1.1 x.2.toNat = c := by simpa using h
  exact mv_byt hb _ _
set_option maxRecDepth 100000 in
set_option maxHeartbeats 1000000 in
theorem mvSteps_any (a : Option Addr) (cap : Nat) (L : List Int) (w : World) (hbs : Bs w a cap L) (hf : Fine L) :
  Calls Tryz.prog 95 #[.slice a L.length cap] w fun e w' => ∃ a' c', e = .returned (.tuple #[.slice a' L.length c', .int .i64 (mvN 288 (srtE L)), .nilIface]) /\ Bs w' a' c' (mvA L) /\ Below w.heap.size w w' := by
 have h40 := mvN_forty (L := L)
 have HST : Hid (∃ M : List Int, Fine M /\ M.length = L.length /\ 0 + mvN 288 (srtE M) = mvN 288 (srtE L) /\ mvA M = mvA L /\ Bs w a cap M) := hide ⟨L, hf, rfl, Nat.zero_add _, rfl, hbs⟩
 have hLl := hbs.2.2.1
 clear hbs hf
 generalize mvN 288 (srtE L) = K at *
 generalize mvA L = MA at *
 generalize hN : L.length = N at *
 clear hN
 go_enter Tryz.func95, Tryz.ntmps95
 go_wp2_with fail
 go_loopw [0, 5] (fun bv nv wr => ∃ (k : Nat) (q : Option Addr) (cq : Nat) (M : List Int), k <= K /\ bv = .slice q N cq /\ nv = .int .i64 k /\ Fine M /\ M.length = N /\ k + mvN 288 (srtE M) = K /\ mvA M = MA /\ Bs wr q cq M /\ Below w.heap.size w wr) (fun _ nv _ => 41 - (intOf nv).toNat)
 case atStart =>
  obtain ⟨M, m1, m2, m3, m4, m5⟩ := unhide HST
  exact ⟨0, a, cap, M, Nat.zero_le _, rfl, rfl, m1, m2, m3, m4, m5, Below.refl _ _⟩
 case round =>
  obtain ⟨k, q, cq, M, hk, rfl, rfl, m1, m2, m3, m4, m5, hbel⟩ := hrel
  cases hq : mvS M with
  | none =>
   have HC := hide (mvStep_no q cq M wr m5 m1 hq)
   rw [m2] at HC
   have hK : k = K := by have := (mvS_none m1 hq).2; omega
   have HA : Hid (M = MA) := hide (by rw [<- m4, mvA_none hq])
   have HBS := hide m5
   have HBEL := hide hbel
   have HK := hide hK
   clear m1 m2 m3 m4 m5 hbel hK hq HST
   go_wp2_with fail
   refine (unhide HC).mono ?_
   rintro e w1 ⟨rfl, hb1⟩
   have HB1 := hide ((unhide HBEL).trans (hb1.mono (unhide HBEL).size))
   have HBS1 := hide ((unhide HBS).below hb1)
   clear hb1 HC HBS HBEL
   go_wp2
   go_ret3
   exact ⟨q, cq, by rw [unhide HK]; rfl, by rw [<- unhide HA]; exact unhide HBS1, unhide HB1⟩
  | some c =>
   have HC := hide (mvStep_yes q cq M wr m5 m1 hq)
   rw [m2] at HC
   obtain ⟨has, hn⟩ := step_as m1 hq
   have hby := mvS_byt m5.1 hq
   have hcl : c.length = N := by rw [has.len]; exact m2
   have H1 := hide has.fine
   have H2 := hide hcl
   have H3 : Hid (k + 1 + mvN 288 (srtE c) = K) := hide (by omega)
   have H4 : Hid (mvA c = MA) := hide (by rw [<- m4, mvA_some m1 hq])
   have hkK : k + 1 <= K := by omega
   have HBY := hide hby
   have HBEL := hide hbel
   clear m1 m2 m3 m4 m5 hbel hq HST has hn hby hcl
   go_wp2_with fail
   refine (unhide HC).mono ?_
   rintro e w1 ⟨g1, c1, cur1, rfl, hr1, hb1⟩
   have HB1 := hide ((unhide HBEL).trans (hb1.mono (unhide HBEL).size))
   have HBS1 := hide (hr1.bs (unhide HBY) (by rw [unhide H2]; omega))
   clear hb1 HC HBEL hr1
   go_wp2
   go_roundw
   case rel => exact ⟨k + 1, some ⟨g1, 0, none⟩, c1, c, hkK, rfl, by go_num, unhide H1, unhide H2, unhide H3, unhide H4, unhide HBS1, unhide HB1⟩
   case measure => simp [intOf]; omega
section
variable {w : World} {B p g c : Nat} {L : List Int}
set_option maxRecDepth 100000 in
theorem mvAll_any (h : Hp w B p g c L) (hB : B <= w.heap.size) :
  Calls Tryz.prog 47 #[.pointer (some ⟨p, 0, none⟩)] w fun e w' => e = .returned (.tuple #[.int .i64 (mvN 288 (srtE L)), .nilIface]) /\ ∃ g' c', Hp w' B p g' c' (mvA L) /\ Turn (foot p g) (foot p g') w w' := by
 have HB := hide (hBytes_any p g c B L w h)
 obtain ⟨has, _⟩ := mvA_as h.fine
 have hbyt := h.byt
 have hlen := h.len
 have HS := hide (fun (W : World) (a1 : Option Addr) (c1 : Nat) (hbs : Bs W a1 c1 L) => mvSteps_any a1 c1 L W hbs h.fine)
 have HR := hide (fun (W : World) (hW : Below w.heap.size w W) (a2 : Option Addr) (c2 : Nat) (hbs : Bs W a2 c2 (mvA L)) => hReplace_yes (h.below hW) (Nat.le_trans hB hW.size) hbs has.fine has.len)
 rw [has.len] at HR
 have HBY := hide hbyt
 clear h hbyt has
 generalize mvN 288 (srtE L) = K at *
 generalize mvA L = MA at *
 generalize hN : L.length = N at *
 have HN := hide hN
 clear hN
 go_enter Tryz.func47, Tryz.ntmps47
 go_wp2_with fail
 refine (unhide HB).mono ?_
 rintro e w1 ⟨a1, c1, rfl, ho1, hb1⟩
 obtain ⟨a1', c1', e1, hbs1⟩ := ho1.bs (unhide HBY) (by rw [unhide HN]; omega)
 rw [unhide HN] at e1
 simp only [Value.slice.injEq, true_and] at e1
 obtain ⟨rfl, rfl⟩ := e1
 have HS1 := hide (unhide HS w1 a1 c1 hbs1)
 have HB1 := hide hb1
 clear ho1 hb1 hbs1 HB HS
 go_wp2_with fail
 refine (unhide HS1).mono ?_
 rintro e w2 ⟨a2, c2, rfl, hbs2, hb2⟩
 have hB2 := (unhide HB1).trans (hb2.mono (unhide HB1).size)
 have HR2 := hide (unhide HR w2 hB2 a2 c2 hbs2)
 have HB2 := hide hB2
 clear hbs2 hb2 hB2 HS1 HR HB1
 go_wp2_with fail
 refine (unhide HR2).mono ?_
 rintro e w3 ⟨rfl, g3, c3, hh3, ht3⟩
 have HH3 := hide hh3
 have HT3 := hide ((Turn.of_below (S := foot p g) (unhide HB2)).trans ht3)
 clear hh3 ht3 HR2 HB2
 go_wp2
 go_ret2
 first
  | exact ⟨rfl, g3, c3, unhide HH3, unhide HT3⟩
  | exact ⟨rfl, g3, ⟨c3, unhide HH3⟩, unhide HT3⟩
end
end Go.Proofs.YtfbloliakmehbaaGreatDoor
