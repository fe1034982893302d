/-
  Parts of the proofs, joined by program.
-/
import Derived.Test.YtfbloliakmehbaaGreatDoorJCh
import Derived.Test.YtfbloliakmehbaaGreatDoorJIl
import Derived.Test.YtfbloliakmehbaaGreatDoorJCi
import Derived.Test.YtfbloliakmehbaaGreatDoorJExa
import Derived.Shelf.SlMaps.Equal
import Derived.Shelf.SlGeneric
import Derived.Ground.SlmeProg
import Derived.Test.YtfbloliakmehbaaGreatDoorProg
import Derived.Test.YtfbloliakmehbaaGreatDoorJIn
namespace Go.Proofs.YtfbloliakmehbaaGreatDoor
open Go.RowKit
theorem right_ents {b : List Int} (hf : faults b = []) : ∀ e ∈ entsK b 40, InL b.length e := by
 intro e he
 obtain ⟨j, hj, ht, rfl⟩ := mem_entsK.1 he
 have hn : hFault b ((j : Int) + 1) = [] := Classical.byContradiction fun h => by
  obtain ⟨f, hm⟩ := List.exists_mem_of_ne_nil _ h
  have := faults_hand (b := b) (h := (j : Int) + 1) (by omega) (by omega) hm
  rw [hf] at this
  cases this
 rcases hFault_nil.1 hn with h | h
 ·obtain ⟨_, hp, _⟩ := wh_one.1 h
  obtain ⟨_, _, h3⟩ := putE_zero.1 hp
  unfold InL
  omega
 ·exact absurd h.1 ht
end Go.Proofs.YtfbloliakmehbaaGreatDoor
namespace Go.Proofs.YtfbloliakmehbaaGreatDoor
open Go.RowKit Go.Sort
set_option linter.unusedVariables false
theorem part_w (a : Option Addr) (cap N : Nat) (x n : Nat) (a1 : Option Addr) (hN : N <= 140737488351232) (hx : x + n <= N) (hs : ∀ w', (Instr.slice 22 (.slice a N cap) (some (.int .i64 (x : Int))) (some (.int .i64 ((x : Int) + n))) none).run Tryz.prog w' = .ok (.slice a1 n (cap - x)) w') (w : World) :
  Calls Tryz.prog 104 #[.slice a N cap, .agg #[.int .i64 (x : Int), .int .i64 (n : Int)]] w fun e w' => e = .returned (.slice a1 n (cap - x)) /\ ∃ q os, w' = grow (w.drewN q) os := by
 go_enter Tryz.func104, Tryz.ntmps104
 go_wp2
 go_ret
 exact ⟨rfl, 0, _, by rw [alloc_eq_grow]; rfl⟩
theorem grow_bel {w W : World} {q : Nat} {os : Array Obj} (h : W = grow (w.drewN q) os) : Below w.heap.size w W := by rw [h]; exact grow_below
set_option maxRecDepth 100000 in
set_option maxHeartbeats 2000000 in
theorem so1_any (A B : List Int) (aa ab : Option Addr) (ca cb : Nat) (x y : (Int × Int × Int × Int)) (ga gb : Nat) (w : World) (hA : Bs w aa ca A) (hB : Bs w ab cb B)
  (hga : w.cell? ⟨ga, 0, none⟩ = some (.slice aa A.length ca)) (hgb : w.cell? ⟨gb, 0, none⟩ = some (.slice ab B.length cb))
  (hx : 0 <= x.2.1 /\ 0 <= x.2.2.1 /\ x.2.1 + x.2.2.1 <= A.length) (hy : 0 <= y.2.1 /\ 0 <= y.2.2.1 /\ y.2.1 + y.2.2.1 <= B.length) :
  Calls Tryz.prog 103 #[entV x, entV y, .pointer (some ⟨ga, 0, none⟩), .pointer (some ⟨gb, 0, none⟩)] w fun r w' => r = .returned (.bool (eqEnt A B x y)) /\ Below w.heap.size w w' := by
 have mixed : Tryz.prog.follows .mixedOrders = true := by kernel_rfl
 obtain ⟨x1, x2, x3, x4⟩ := x
 obtain ⟨y1, y2, y3, y4⟩ := y
 dsimp only at hx hy
 obtain ⟨X2, rfl⟩ := Int.eq_ofNat_of_zero_le hx.1
 obtain ⟨X3, rfl⟩ := Int.eq_ofNat_of_zero_le hx.2.1
 obtain ⟨Y2, rfl⟩ := Int.eq_ofNat_of_zero_le hy.1
 obtain ⟨Y3, rfl⟩ := Int.eq_ofNat_of_zero_le hy.2.1
 unfold eqEnt entV
 dsimp only
 have hb0 : Below w.heap.size w ((w.alloc (.cells #[.int .i64 x1, .int .i64 (X2 : Int), .int .i64 (X3 : Int), .int .i64 x4] 71)).alloc (.cells #[.int .i64 y1, .int .i64 (Y2 : Int), .int .i64 (Y3 : Int), .int .i64 y4] 71)) := ((Below.refl _ w).alloc (Nat.le_refl _) _).alloc (by simp) _
 have hA0 := hA.below hb0
 have hB0 := hB.below hb0
 have hga0 := (hb0.cell (block_lt_of_cell hga)).trans hga
 have hgb0 := (hb0.cell (block_lt_of_cell hgb)).trans hgb
 have hga1 := block_lt_of_cell hga0
 have hgb1 := block_lt_of_cell hgb0
 have hEx := (EnB.new w (x1, (X2 : Int), (X3 : Int), x4)).below ((Below.refl _ _).alloc (Nat.le_refl _) (.cells #[.int .i64 y1, .int .i64 (Y2 : Int), .int .i64 (Y3 : Int), .int .i64 y4] 71)) (by simp)
 have hEy := EnB.new (w.alloc (.cells #[.int .i64 x1, .int .i64 (X2 : Int), .int .i64 (X3 : Int), .int .i64 x4] 71)) (y1, (Y2 : Int), (Y3 : Int), y4)
 rw [sz_alloc] at hEy
 obtain ⟨c0, c1, c2, c3⟩ := hEx.cells
 obtain ⟨d0, d1, d2, d3⟩ := hEy.cells
 have hlx := hEx.lt
 have hly := hEy.lt
 obtain ⟨p1, hs1, hb1⟩ := slice_lohi (P := Tryz.prog) (t := 22) Tryz.underlying22 size_u8 hA0 X2 (X2 + X3) (by omega) (by omega)
 obtain ⟨p2, hs2, hb2⟩ := slice_lohi (P := Tryz.prog) (t := 22) Tryz.underlying22 size_u8 hB0 Y2 (Y2 + Y3) (by omega) (by omega)
 rw [show X2 + X3 - X2 = X3 by omega, show ((X2 + X3 : Nat) : Int) = (X2 : Int) + X3 by omega] at hs1
 rw [show Y2 + Y3 - Y2 = Y3 by omega, show ((Y2 + Y3 : Nat) : Int) = (Y2 : Int) + Y3 by omega] at hs2
 rw [show X2 + X3 - X2 = X3 by omega] at hb1
 rw [show Y2 + Y3 - Y2 = Y3 by omega] at hb2
 have HP1 := hide (fun W => part_w aa ca A.length X2 X3 p1 hA.2.2.1 (by omega) hs1 W)
 have HP2 := hide (fun W => part_w ab cb B.length Y2 Y3 p2 hB.2.2.1 (by omega) hs2 W)
 have e1 : partL A (X2 : Int) (X3 : Int) = (A.drop X2).take X3 := by unfold partL; rw [Int.toNat_natCast, Int.toNat_natCast]
 have e2 : partL B (Y2 : Int) (Y3 : Int) = (B.drop Y2).take Y3 := by unfold partL; rw [Int.toNat_natCast, Int.toNat_natCast]
 rw [e1, e2]
 have l1 : ((A.drop X2).take X3).length = X3 := by simp; omega
 have l2 : ((B.drop Y2).take Y3).length = Y3 := by simp; omega
 have HQ := hide (fun (n : Nat) (os : Array Obj) => bytesEq_any p1 p2 _ _ _ _ (grow (((w.alloc (.cells #[.int .i64 x1, .int .i64 (X2 : Int), .int .i64 (X3 : Int), .int .i64 x4] 71)).alloc (.cells #[.int .i64 y1, .int .i64 (Y2 : Int), .int .i64 (Y3 : Int), .int .i64 y4] 71)).drewN n) os) (hb1.below grow_below) (hb2.below grow_below))
 rw [l1, l2] at HQ
 have HB0 := hide hb0
 have hAl := hA.2.2.1
 have hBl := hB.2.2.1
 generalize decide ((A.drop X2).take X3 = (B.drop Y2).take Y3) = r at *
 dsimp only at *
 by_cases h1 : x1 = y1
 ·have h1b : (x1 == y1) = true := beq_iff_eq.2 h1
  by_cases h2 : x4 = y4
  ·have h2b : (x4 == y4) = true := beq_iff_eq.2 h2
   rw [decide_eq_true h1, decide_eq_true h2, Bool.true_and, Bool.true_and]
   have k0 := fun n os => cell_grown hlx c0 n os
   have k1 := fun n os => cell_grown hlx c1 n os
   have k2 := fun n os => cell_grown hlx c2 n os
   have k3 := fun n os => cell_grown hlx c3 n os
   have m0 := fun n os => cell_grown hly d0 n os
   have m1 := fun n os => cell_grown hly d1 n os
   have m2 := fun n os => cell_grown hly d2 n os
   have m3 := fun n os => cell_grown hly d3 n os
   have n0 := fun n os => cell_grown hga1 hga0 n os
   have n1 := fun n os => cell_grown hgb1 hgb0 n os
   clear c0 c1 c2 c3 d0 d1 d2 d3 hlx hly hga hgb hga0 hgb0 hga1 hgb1 hEx hEy hb0 hb1 hb2 hs1 hs2 hA hB hA0 hB0 e1 e2 l1 l2 h1 h2
   generalize A.length = NA at *
   generalize B.length = NB at *
   go_enter Tryz.func103, Tryz.ntmps103
   go_wp2_with fail
   generalize (w.alloc (.cells #[.int .i64 x1, .int .i64 (X2 : Int), .int .i64 (X3 : Int), .int .i64 x4] 71)).alloc (.cells #[.int .i64 y1, .int .i64 (Y2 : Int), .int .i64 (Y3 : Int), .int .i64 y4] 71) = W at *
   go_quiet_grown (first | (go_at_call 104; first | with_reducible exact Calls.grown_of (unhide HP1 _) | with_reducible exact Calls.grown_of (unhide HP2 _)) | (go_at_call 66; exact Calls.grown_of ((unhide HQ _ _).mono fun e w' h => ⟨h.1, 0, #[], by rw [<- h.2]; exact (grow_empty _).symm⟩)))
   go_wp2
   go_ret
   exact ⟨rfl, (unhide HB0).trans (grow_below.mono (unhide HB0).size)⟩
  ·have h2b : (x4 == y4) = false := beq_eq_false_iff_ne.2 h2
   rw [decide_eq_false h2, Bool.false_and, Bool.and_false]
   clear hEx hEy hb0 hb1 hb2 hs1 hs2 hA hB hA0 hB0 e1 e2 l1 l2 h1 h2 HQ HP1 HP2 hga hgb
   go_enter Tryz.func103, Tryz.ntmps103
   go_wp2_with fail
   generalize (w.alloc (.cells #[.int .i64 x1, .int .i64 (X2 : Int), .int .i64 (X3 : Int), .int .i64 x4] 71)).alloc (.cells #[.int .i64 y1, .int .i64 (Y2 : Int), .int .i64 (Y3 : Int), .int .i64 y4] 71) = W at *
   go_quiet (fail)
   go_wp2
   go_ret
   exact ⟨rfl, below_drewN (unhide HB0) nq⟩
 ·have h1b : (x1 == y1) = false := beq_eq_false_iff_ne.2 h1
  rw [decide_eq_false h1, Bool.false_and]
  clear hEx hEy hb0 hb1 hb2 hs1 hs2 hA hB hA0 hB0 e1 e2 l1 l2 h1 HQ HP1 HP2 hga hgb
  go_enter Tryz.func103, Tryz.ntmps103
  go_wp2_with fail
  generalize (w.alloc (.cells #[.int .i64 x1, .int .i64 (X2 : Int), .int .i64 (X3 : Int), .int .i64 x4] 71)).alloc (.cells #[.int .i64 y1, .int .i64 (Y2 : Int), .int .i64 (Y3 : Int), .int .i64 y4] 71) = W at *
  go_quiet (fail)
  go_wp2
  go_ret
  exact ⟨rfl, below_drewN (unhide HB0) nq⟩
theorem eqAll_len {α β : Type} {f : α -> β -> Bool} : ∀ {l : List α} {m : List β}, l.length ≠ m.length -> eqAll f l m = false
 | [], [], h => absurd rfl h
 | [], y :: m, _ => rfl
 | x :: l, [], _ => rfl
 | x :: l, y :: m, h => by
  unfold eqAll
  rw [eqAll_len (fun e => h (by simp [e])), Bool.and_false]
theorem eqAll_at {α β : Type} {f : α -> β -> Bool} {l : List α} {m : List β} {j : Nat} {x : α} {y : β} (hx : l[j]? = some x) (hy : m[j]? = some y) : eqAll f (l.drop j) (m.drop j) = (f x y && eqAll f (l.drop (j + 1)) (m.drop (j + 1))) := by
 obtain ⟨h1, rfl⟩ := List.getElem?_eq_some_iff.1 hx
 obtain ⟨h2, rfl⟩ := List.getElem?_eq_some_iff.1 hy
 rw [List.drop_eq_getElem_cons h1, List.drop_eq_getElem_cons h2]
 rfl
set_option maxRecDepth 100000 in
set_option maxHeartbeats 2000000 in
theorem equalF_any (A B : List Int) (aa ab : Option Addr) (ca cb : Nat) (ga gb : Nat) (e1 e2 : Option Addr) (c1 c2 : Nat) (E1 E2 : List (Int × Int × Int × Int)) (w : World) (hA : Bs w aa ca A) (hB : Bs w ab cb B)
  (hga : w.cell? ⟨ga, 0, none⟩ = some (.slice aa A.length ca)) (hgb : w.cell? ⟨gb, 0, none⟩ = some (.slice ab B.length cb)) (h1 : Sls enC 4 w e1 c1 E1) (h2 : Sls enC 4 w e2 c2 E2) (hx : ∀ e ∈ E1, InL A.length e) (hy : ∀ e ∈ E2, InL B.length e) :
  Calls Tryz.prog 102 #[.slice e1 E1.length c1, .slice e2 E2.length c2, .func (.func 103) #[] #[.pointer (some ⟨ga, 0, none⟩), .pointer (some ⟨gb, 0, none⟩)]] w fun r w' => r = .returned (.bool (eqAll (eqEnt A B) E1 E2)) /\ Below w.heap.size w w' := by
 have hl1 := h1.2.2.1
 have hl2 := h2.2.2.1
 by_cases hlen : E1.length = E2.length
 ·have HS := hide (fun (W : World) (x y : (Int × Int × Int × Int)) (hW : Below w.heap.size w W) (h3 : InL A.length x) (h4 : InL B.length y) => so1_any A B aa ab ca cb x y ga gb W (hA.below hW) (hB.below hW) ((hW.cell (block_lt_of_cell hga)).trans hga) ((hW.cell (block_lt_of_cell hgb)).trans hgb) h3 h4)
  have H1 := hide h1
  have H2 := hide h2
  have HX := hide hx
  have HY := hide hy
  generalize hall : eqAll (eqEnt A B) E1 E2 = R
  have HALL : Hid (eqAll (eqEnt A B) (E1.drop 0) (E2.drop 0) = R) := hide (by rw [List.drop_zero, List.drop_zero]; exact hall)
  have HLE := hide hlen
  rw [<- hlen]
  clear h1 h2 hx hy hA hB hga hgb hall hlen hl2
  go_enter Tryz.func102, Tryz.ntmps102
  go_wp2_with fail
  go_loopw [17] (fun jv wr => ∃ j : Nat, j <= E1.length /\ jv = .int .i64 (j : Int) /\ Below w.heap.size w wr /\ eqAll (eqEnt A B) (E1.drop j) (E2.drop j) = R) (fun jv _ => E1.length - (intOf jv).toNat)
  case atStart => exact ⟨0, Nat.zero_le _, rfl, Below.refl _ _, unhide HALL⟩
  case round =>
   obtain ⟨j, hj, rfl, hbel, hR⟩ := hrel
   by_cases hjl : j < E1.length
   ·have hjl2 : j < E2.length := by have := unhide HLE; omega
    obtain ⟨b1, o1, rfl, hc1⟩ := ((unhide H1).below hbel).2.2.2 (by intro e; rw [e] at hjl; simp at hjl)
    obtain ⟨b2, o2, rfl, hc2⟩ := ((unhide H2).below hbel).2.2.2 (by intro e; rw [e] at hjl2; simp at hjl2)
    obtain ⟨x, hxj⟩ : ∃ x, E1[j]? = some x := ⟨E1[j], List.getElem?_eq_getElem hjl⟩
    obtain ⟨y, hyj⟩ : ∃ y, E2[j]? = some y := ⟨E2[j], List.getElem?_eq_getElem hjl2⟩
    obtain ⟨q0, q1, q2, q3⟩ := Sls.ent (cap := 0) hc1 hxj
    obtain ⟨r0, r1, r2, r3⟩ := Sls.ent (cap := 0) hc2 hyj
    rw [eqAll_at hxj hyj] at hR
    have hbA : Below wr.heap.size wr ((wr.alloc (.cells #[.int .i64 x.1, .int .i64 x.2.1, .int .i64 x.2.2.1, .int .i64 x.2.2.2] 71)).alloc (.cells #[.int .i64 y.1, .int .i64 y.2.1, .int .i64 y.2.2.1, .int .i64 y.2.2.2] 71)) := ((Below.refl _ _).alloc (Nat.le_refl _) _).alloc (by simp) _
    have hBA := hbel.trans (hbA.mono hbel.size)
    have HC := hide (unhide HS _ x y hBA (unhide HX x (List.mem_of_getElem? hxj)) (unhide HY y (List.mem_of_getElem? hyj)))
    have HBA := hide hBA
    have HR := hide hR
    have g1 := block_lt_of_cell q0
    have g2 := block_lt_of_cell r0
    unfold entV at HC
    generalize eqEnt A B x y = T at *
    obtain ⟨x1, x2, x3, x4⟩ := x
    obtain ⟨y1, y2, y3, y4⟩ := y
    dsimp only at *
    clear hc1 hc2 hxj hyj hbA hBA hR hbel
    cases T with
    | true =>
     go_wp2_with fail
     refine (unhide HC).mono ?_
     rintro e w1 ⟨rfl, hb1⟩
     have HB1 := hide ((unhide HBA).trans (hb1.mono (unhide HBA).size))
     clear hb1 HC HBA
     go_wp2
     go_roundw
     case rel => exact ⟨j + 1, by omega, by go_num, unhide HB1, by have := unhide HR; rwa [Bool.true_and] at this⟩
     case measure => simp [intOf]; omega
    | false =>
     have HRF : Hid (false = R) := hide (by have := unhide HR; rwa [Bool.false_and] at this)
     go_wp2_with fail
     refine (unhide HC).mono ?_
     rintro e w1 ⟨rfl, hb1⟩
     have HB1 := hide ((unhide HBA).trans (hb1.mono (unhide HBA).size))
     clear hb1 HC HBA HR
     go_wp2
     go_ret
     exact ⟨by rw [<- unhide HRF]; rfl, unhide HB1⟩
   ·have hjq : j = E1.length := by omega
    have hRT : true = R := by
     rw [hjq, List.drop_length, unhide HLE, List.drop_length] at hR
     exact hR
    have hge : ¬ ((j : Int) < (E1.length : Int)) := by omega
    have HBE := hide hbel
    have HRT := hide hRT
    clear hjq hjl hbel hR hRT hj
    go_wp2
    go_ret
    exact ⟨by rw [<- unhide HRT]; rfl, unhide HBE⟩
 ·rw [eqAll_len hlen]
  have hneb : ((E1.length : Int) != (E2.length : Int)) = true := bne_iff_ne.2 (by omega)
  generalize E1.length = n1 at *
  generalize E2.length = n2 at *
  clear h1 h2 hx hy hA hB hga hgb hlen
  go_enter Tryz.func102, Tryz.ntmps102
  go_wp2
  go_ret
  exact ⟨rfl, Below.refl _ _⟩
end Go.Proofs.YtfbloliakmehbaaGreatDoor
namespace Go.Proofs.YtfbloliakmehbaaGreatDoor
open Go.RowKit Go.Shelf
set_option linter.unusedVariables false
def mpEq_ren : Ren := { f := fun | 6 => 106 | n => n, t := fun | 23 => 86 | 24 => 86 | 26 => 9 | 27 => 3 | 4 => 4 | 3 => 3 | 0 => 0 | 36 => 153 | n => n, g := fun n => n }
theorem mpEq : SlLaysEq.n6 Tryz.prog mpEq_ren := { mixed := by kernel_rfl, f6 := ⟨ "maps.Equal[map[string]int,map[string]int,string,int]", by decide, Tryz.func106.trans rfl⟩, t0 := Tryz.underlying0, a0 := Tryz.isAgg0, z0 := Tryz.sizeOf0, v0 := Tryz.zeroValue0, t3 := Tryz.underlying3, a3 := Tryz.isAgg3, z3 := Tryz.sizeOf3, v3 := Tryz.zeroValue3, t4 := Tryz.underlying4, a4 := Tryz.isAgg4, z4 := Tryz.sizeOf4, v4 := Tryz.zeroValue4, t23 := Tryz.underlying86, a23 := Tryz.isAgg86, z23 := Tryz.sizeOf86, v23 := Tryz.zeroValue86, t24 := Tryz.underlying86, a24 := Tryz.isAgg86, z24 := Tryz.sizeOf86, v24 := Tryz.zeroValue86, a26 := Tryz.isAgg9, z26 := Tryz.sizeOf9, a27 := Tryz.isAgg3, z27 := Tryz.sizeOf3, t36 := Tryz.underlying153, a36 := Tryz.isAgg153, z36 := Tryz.sizeOf153 }
end Go.Proofs.YtfbloliakmehbaaGreatDoor
namespace Go.Proofs.YtfbloliakmehbaaGreatDoor
open Go.RowKit Go.MapKept Go.ChangeMaps Go.Shelf
set_option linter.unusedVariables false
def keyD (r : (ByteArray × Int)) : Lit × DataW Unit := (.string r.1.data.toList, .lit (.int .i64 r.2))
def LdM (w : World) (m : Nat) (M : List (ByteArray × Int)) : Prop :=
 ∃ es : List (Lit × DataW Unit), w.ownsMap Tryz.prog 9 (plainElem Tryz.prog 3) m M.length (.map es) /\ es.length = M.length /\ ∀ p, p ∈ es ↔ ∃ r ∈ M, p = keyD r
theorem LdM.made (w : World) : LdM (w.alloc (.map #[] 0)) w.heap.size [] := ⟨[], World.ownsMap_made w _ _ _, rfl, fun p => by simp⟩
theorem LdM.lt {w : World} {m : Nat} {M : List (ByteArray × Int)} (h : LdM w m M) : m < w.heap.size := by
 obtain ⟨Dm, h1, _⟩ := h
 exact h1.lt
theorem LdM.same {w w' : World} {m : Nat} {M : List (ByteArray × Int)} (h : LdM w m M) (hs : w'.heap[m]? = w.heap[m]?) : LdM w' m M := by
 obtain ⟨Dm, ⟨es, clock, hb, r⟩, h2⟩ := h
 exact ⟨Dm, ⟨es, clock, hs.trans hb, r⟩, h2⟩
theorem LdM.below {w w' : World} {m : Nat} {M : List (ByteArray × Int)} (h : LdM w m M) (hb : Below w.heap.size w w') : LdM w' m M := h.same (hb.block m h.lt)
theorem LdM.store {w : World} {m : Nat} {M : List (ByteArray × Int)} (h : LdM w m M) (r : (ByteArray × Int)) (hs : r.1.size <= maxLen) (hn : M.length <= 300) (hi : -9223372036854775808 <= r.2 /\ r.2 <= 9223372036854775807) (hnew : ∀ q ∈ M, q.1 ≠ r.1) :
  ∃ w', (Instr.mapUpdate 86 (.map (some m)) (.string r.1) (.int .i64 r.2)).run Tryz.prog w = .ok () w' /\ LdM w' m (M ++ [r]) /\ w.mapTurned w' m := by
 obtain ⟨es, h1, hlen, h2⟩ := h
 have hkey := WideMaps.keyOf_string_mk (P := Tryz.prog) Tryz.underlying9 hs
 obtain ⟨w', hrun, hown', ht⟩ := h1.store (Maps.string_keyed Tryz.underlying9) Tryz.underlying86 (by unfold maxLen; omega) hkey (plainElem_int Tryz.underlying3 (a := r.2) (WalkArith.wf_i64 hi))
 have hfil : es.filter (fun p => !p.1.sameKey (.string r.1.data.toList)) = es := by
  rw [List.filter_eq_self]
  intro p hp
  obtain ⟨q, hq, rfl⟩ := (h2 p).1 hp
  cases hk : (keyD q).1.sameKey (.string r.1.data.toList) with
  | false => rfl
  | true =>
   have e : (Lit.string q.1.data.toList) = .string r.1.data.toList := WideAt.sameKey_eq hk
   simp only [Lit.string.injEq] at e
   exact absurd (str_inj e) (hnew q hq)
 have hput : (DataW.map es).put (.string r.1.data.toList) (.lit (.int .i64 r.2)) = .map (DataW.insert (keyD r) es) := by
  show DataW.map (DataW.insert _ (es.filter _)) = _
  rw [hfil]
  rfl
 rw [hput] at hown'
 refine ⟨w', hrun, ⟨_, by rw [List.length_append]; exact hown', ?_, fun p => ?_⟩, ht⟩
 ·have : ∀ (l : List (Lit × DataW Unit)) (x : Lit × DataW Unit), (DataW.insert x l).length = l.length + 1 := by
   intro l
   induction l with
   | nil => intro x; rfl
   | cons y l ih =>
    intro x
    unfold DataW.insert
    split
    ·rfl
    ·rw [List.length_cons, ih]; rfl
  rw [this, hlen, List.length_append]; rfl
 ·rw [mem_insert_iff, h2 p]
  constructor
  ·rintro (rfl | ⟨q, hq, rfl⟩)
   ·exact ⟨r, by simp, rfl⟩
   ·exact ⟨q, by simp [hq], rfl⟩
  ·rintro ⟨q, hq, rfl⟩
   rcases List.mem_append.1 hq with hq | hq
   ·exact .inr ⟨q, hq, rfl⟩
   ·rw [List.mem_singleton.1 hq]; exact .inl rfl
def eqI : DataW Unit -> DataW Unit -> Bool
 | .lit (.int _ a), .lit (.int _ b) => a == b
 | _, _ => false
theorem maps_eq (L1 L2 : List (ByteArray × Int)) (m1 m2 : Nat) (w : World) (h1 : LdM w m1 L1) (h2 : LdM w m2 L2) (p1 : Apart L1) (p2 : Apart L2) :
  Calls Tryz.prog 106 #[.map (some m1), .map (some m2)] w fun r w' => r = .returned (.bool (sameR L1 L2)) /\ Below w.heap.size w w' := by
 obtain ⟨es1, o1, n1, k1⟩ := h1
 obtain ⟨es2, o2, n2, k2⟩ := h2
 have hK := Maps.string_keyed (P := Tryz.prog) Tryz.underlying9
 have hcall := AnyEq.maps_Equal_opt mpEq hK (plainElem Tryz.prog 3) (plainElem Tryz.prog 3) eqI (some m1) (some m2) (.map es1) (.map es2) w (.inr ⟨m1, _, rfl, o1⟩) (.inr ⟨m2, _, rfl, o2⟩) (.int .i64 0) zero_num (.lit (.int .i64 0)) [] (plainElem_int Tryz.underlying3 (a := 0) (by decide)) ?_
 ·change Calls Tryz.prog 106 _ _ _ at hcall
  have hval : Lib.equalFuncD eqI (.map es1) (.map es2) = sameR L1 L2 := by
   obtain ⟨_, ht2, hp2⟩ := o2.tidy hK
   cases ht2
   have hkl : ∀ p ∈ es2, WideAt.IsKeyLit p.1 := fun p hp => by
    obtain ⟨q, hq, rfl⟩ := (k2 p).1 hp
    exact trivial
   have hgood : ∀ r : (ByteArray × Int), Lib.goodD eqI (.map es2) (keyD r) = true ↔ r ∈ L2 := fun r => by
    unfold Lib.goodD
    rw [Bool.and_eq_true]
    constructor
    ·rintro ⟨g1, g2⟩
     obtain ⟨p, hp, hs⟩ := List.any_eq_true.1 (show es2.any (fun p => p.1.sameKey (keyD r).1) = true from g1)
     have e1 : p.1 = (keyD r).1 := WideAt.sameKey_eq hs
     obtain ⟨q, hq, rfl⟩ := (k2 p).1 hp
     have hat : (DataW.map es2).atKey (keyD r).1 .nil = (keyD q).2 := WideAt.atKey_mem .nil (e1 ▸ hkl _ hp) hp2 (by rw [<- e1]; exact hp)
     rw [hat] at g2
     have e3 : r.2 = q.2 := by
      have : (r.2 == q.2) = true := g2
      exact beq_iff_eq.1 this
     have e4 : q.1 = r.1 := by
      simp only [keyD, Lit.string.injEq] at e1
      exact str_inj e1
     have : q = r := Prod.ext e4 e3.symm
     rw [<- this]; exact hq
    ·intro hr
     have hp : keyD r ∈ es2 := (k2 _).2 ⟨r, hr, rfl⟩
     have hat : (DataW.map es2).atKey (keyD r).1 .nil = (keyD r).2 := WideAt.atKey_mem .nil (hkl _ hp) hp2 hp
     refine ⟨List.any_eq_true.2 ⟨keyD r, hp, WideAt.sameKey_self (hkl _ hp)⟩, ?_⟩
     rw [hat]
     show (r.2 == r.2) = true
     exact beq_self_eq_true _
   have hiff : Lib.equalFuncD eqI (.map es1) (.map es2) = true ↔ sameR L1 L2 = true := by
    rw [sameR_iff p1 p2]
    unfold Lib.equalFuncD
    rw [Bool.and_eq_true, decide_eq_true_iff, List.all_eq_true]
    have e1 : Maps.size (DataW.map es1 : DataW Unit) = L1.length := n1
    have e2 : Maps.size (DataW.map es2 : DataW Unit) = L2.length := n2
    rw [e1, e2]
    constructor
    ·rintro ⟨g1, g2⟩
     exact ⟨g1, fun r hr => (hgood r).1 (g2 (keyD r) ((k1 _).2 ⟨r, hr, rfl⟩))⟩
    ·rintro ⟨g1, g2⟩
     refine ⟨g1, fun p hp => ?_⟩
     obtain ⟨r, hr, rfl⟩ := (k1 p).1 hp
     exact (hgood r).2 (g2 r hr)
   cases h3 : Lib.equalFuncD eqI (.map es1) (.map es2) <;> cases h4 : sameR L1 L2
   ·rfl
   ·rw [h3, h4] at hiff; simp at hiff
   ·rw [h3, h4] at hiff; simp at hiff
   ·rfl
  rw [hval] at hcall
  exact hcall.mono fun r w' ⟨hr, hg⟩ => ⟨hr, (Below.refl _ w).grown hg (Nat.le_refl _) (fun k hk => by cases hk)⟩
 ·intro W x y xd yd xp yp hx hy
  obtain ⟨a, rfl, e1, _⟩ := plainElem_int_inv Tryz.underlying3 hx
  obtain ⟨b, rfl, e2, _⟩ := plainElem_int_inv Tryz.underlying3 hy
  have e1' := congrArg Prod.fst e1
  have e2' := congrArg Prod.fst e2
  dsimp only at e1' e2'
  subst e1' e2'
  constructor
  ·simp [binOp, eqI, Op.intCmp]
   rfl
  ·intro a b
   simp [eqGuard]
theorem roots_size {L : List Int} : ∀ {k : Nat} {r : (ByteArray × Int)}, r ∈ rootsK L k -> r.1.size <= 8
 | 0, r, h => by simp [rootsK] at h
 | k + 1, r, h => by
  unfold rootsK at h
  rcases List.mem_append.1 h with h | h
  ·exact roots_size h
  ·split at h
   ·rw [List.mem_singleton.1 h]
    have := readOut_size ((rowAt L k).take 8)
    rw [List.length_take] at this
    show (readOut ((rowAt L k).take 8)).1.size <= 8
    omega
   ·cases h
theorem apart_new {R : List (ByteArray × Int)} (h : Apart R) {k : Nat} {r : (ByteArray × Int)} (hr : R[k]? = some r) : ∀ q ∈ R.take k, q.1 ≠ r.1 := by
 intro q hq e
 have hn := h.nodup
 obtain ⟨hk, rfl⟩ := List.getElem?_eq_some_iff.1 hr
 rw [<- List.take_append_drop k R, List.map_append, List.nodup_append] at hn
 refine hn.2.2 q.1 (List.mem_map.2 ⟨q, hq, rfl⟩) R[k].1 (List.mem_map.2 ⟨R[k], ?_, rfl⟩) e
 exact List.mem_of_getElem? (i := 0) (by rw [List.getElem?_drop]; simp [hk])
set_option maxRecDepth 100000 in
set_option maxHeartbeats 1000000 in
theorem leads_any (a : Option Addr) (cap : Nat) (L : List Int) (w : World) (hbs : Bs w a cap L) (hq : lenB L.length = true) (hf : faults L = []) :
  Calls Tryz.prog 105 #[.slice a L.length cap] w fun e w' => ∃ m, e = .returned (.tuple #[.map (some m), .nilIface]) /\ LdM w' m (rootsK L 8) /\ Below w.heap.size w w' := by
 have HR := hide (iRoots_yes a cap L w hbs hq)
 have hap := apart_roots hf
 have HSZ := hide (fun (r : (ByteArray × Int)) (h : r ∈ rootsK L 8) => roots_size h)
 have hlen := rootsK_len L 8
 have hbl := hbs.2.2.1
 have hmm := @run_makeMap Tryz.prog
 have HAP := hide hap
 generalize rootsK L 8 = R at *
 clear hbs hq hf hap
 go_enter Tryz.func105, Tryz.ntmps105
 go_wp2_with fail
 refine (unhide HR).mono ?_
 rintro e w1 ⟨v1, rfl, hown1, hb1⟩
 obtain ⟨a1, c1, rfl, hsl1⟩ := hown1.sls roC_len (by omega)
 have HS1 := hide hsl1
 have HB1 := hide hb1
 clear hown1 hsl1 hb1 HR
 go_wp2_with fail
 go_loopw [20] (fun iv wr => ∃ k : Nat, k <= R.length /\ iv = .int .i64 (k : Int) /\ LdM wr w1.heap.size (R.take k) /\ Below w1.heap.size w1 wr) (fun iv _ => R.length - (intOf iv).toNat)
 case atStart => exact ⟨0, Nat.zero_le _, rfl, LdM.made w1, (Below.refl _ _).alloc (Nat.le_refl _) _⟩
 case round =>
  obtain ⟨k, hk, rfl, hld, hbel⟩ := hrel
  by_cases hlt : k < R.length
  ·obtain ⟨b1, o1, rfl, hc1⟩ := ((unhide HS1).below hbel).2.2.2 (by intro e; rw [e] at hlt; simp at hlt)
   obtain ⟨r, hr⟩ : ∃ r, R[k]? = some r := ⟨R[k], List.getElem?_eq_getElem hlt⟩
   obtain ⟨q0, q1⟩ := Sls.root (cap := 0) hc1 hr
   have hrm := List.mem_of_getElem? hr
   have hsz := unhide HSZ r hrm
   have hpos := (unhide HAP).pos r hrm
   have hnew := apart_new (unhide HAP) hr
   have htk : R.take (k + 1) = R.take k ++ [r] := by rw [List.take_add_one, hr]; rfl
   have hbA : Below wr.heap.size wr (wr.alloc (.cells #[.string r.1, .int .i64 r.2] 76)) := (Below.refl _ _).alloc (Nat.le_refl _) _
   obtain ⟨w2, hst, hld2, htn⟩ := (hld.below hbA).store r (by unfold maxLen; omega) (by rw [List.length_take]; omega) (by omega) hnew
   rw [<- htk] at hld2
   have hBA := hbel.trans (hbA.mono hbel.size)
   have HB2 := hide (hBA.grown htn.grown hBA.size (fun j hj => by cases hj; exact Nat.le_refl _))
   have HL2 := hide hld2
   have g1 := block_lt_of_cell q0
   obtain ⟨s, h⟩ := r
   dsimp only at *
   clear hc1 hr hrm hsz hpos hnew htk hbA hld2 htn hBA hld hbel
   go_wp2
   go_roundw
   case rel => exact ⟨k + 1, by omega, by go_num, unhide HL2, unhide HB2⟩
   case measure => simp [intOf]; omega
  ·have hkq : k = R.length := by omega
   rw [hkq, List.take_length] at hld
   have HL := hide hld
   have HB2 := hide ((unhide HB1).trans (hbel.mono (unhide HB1).size))
   have hge : ¬ ((k : Int) < (R.length : Int)) := by omega
   clear hkq hlt hk hld hbel
   go_wp2
   go_ret2
   exact ⟨_, rfl, unhide HL, unhide HB2⟩
set_option maxRecDepth 100000 in
theorem sameRoots_any (a1 a2 : Option Addr) (c1 c2 : Nat) (A B : List Int) (w : World) (hA : Bs w a1 c1 A) (hB : Bs w a2 c2 B) (hqA : lenB A.length = true) (hqB : lenB B.length = true) (hfA : faults A = []) (hfB : faults B = []) :
  Calls Tryz.prog 52 #[.slice a1 A.length c1, .slice a2 B.length c2] w fun e w' => e = .returned (.tuple #[.bool (sameR (rootsK A 8) (rootsK B 8)), .nilIface]) /\ Below w.heap.size w w' := by
 have HL1 := hide (leads_any a1 c1 A w hA hqA hfA)
 have HL2 := hide (fun (W : World) (hW : Below w.heap.size w W) => leads_any a2 c2 B W (hB.below hW) hqB hfB)
 have hap1 := apart_roots hfA
 have hap2 := apart_roots hfB
 have HM := hide (fun (W : World) (m1 m2 : Nat) (h1 : LdM W m1 (rootsK A 8)) (h2 : LdM W m2 (rootsK B 8)) => maps_eq _ _ m1 m2 W h1 h2 hap1 hap2)
 generalize rootsK A 8 = R1 at *
 generalize rootsK B 8 = R2 at *
 clear hA hB hqA hqB hfA hfB hap1 hap2
 generalize sameR R1 R2 = S at *
 go_enter Tryz.func52, Tryz.ntmps52
 go_wp2_with fail
 refine (unhide HL1).mono ?_
 rintro e w1 ⟨m1, rfl, hl1, hb1⟩
 have HL2W := hide (unhide HL2 w1 hb1)
 have HB1 := hide hb1
 have HM1 := hide hl1
 clear hb1 hl1 HL1 HL2
 go_wp2_with fail
 refine (unhide HL2W).mono ?_
 rintro e w2 ⟨m2, rfl, hl2, hb2⟩
 have HE := hide (unhide HM w2 m1 m2 ((unhide HM1).below hb2) hl2)
 have HB2 := hide ((unhide HB1).trans (hb2.mono (unhide HB1).size))
 clear hb2 hl2 HL2W HM1 HM HB1
 go_wp2_with fail
 refine (unhide HE).mono ?_
 rintro e w3 ⟨rfl, hb3⟩
 have HB3 := hide ((unhide HB2).trans (hb3.mono (unhide HB2).size))
 clear hb3 HE HB2
 go_wp2
 go_ret2
 exact ⟨rfl, unhide HB3⟩
set_option maxRecDepth 100000 in
theorem sameObj_any (a1 a2 : Option Addr) (c1 c2 : Nat) (A B : List Int) (w : World) (hA : Bs w a1 c1 A) (hB : Bs w a2 c2 B) (hqA : lenB A.length = true) (hqB : lenB B.length = true) (hfA : faults A = []) (hfB : faults B = []) :
  Calls Tryz.prog 51 #[.slice a1 A.length c1, .slice a2 B.length c2] w fun e w' => e = .returned (.tuple #[.bool (sameO A B 40), .nilIface]) /\ Below w.heap.size w w' := by
 have hb0 : Below w.heap.size w ((w.alloc (.cells #[.slice a1 A.length c1] 22)).alloc (.cells #[.slice a2 B.length c2] 22)) := ((Below.refl _ w).alloc (Nat.le_refl _) _).alloc (by simp) _
 have hA0 := hA.below hb0
 have hB0 := hB.below hb0
 have hc1 : ((w.alloc (.cells #[.slice a1 A.length c1] 22)).alloc (.cells #[.slice a2 B.length c2] 22)).cell? ⟨w.heap.size, 0, none⟩ = some (.slice a1 A.length c1) := by
  rw [World.cell?_alloc_lt _ _ _ (by simp), cell_of_row _ _ _ _ _ (0, 0) (heap_alloc_new w _)]
  rfl
 have hc2 : ((w.alloc (.cells #[.slice a1 A.length c1] 22)).alloc (.cells #[.slice a2 B.length c2] 22)).cell? ⟨w.heap.size + 1, 0, none⟩ = some (.slice a2 B.length c2) := by
  have h := heap_alloc_new (w.alloc (.cells #[.slice a1 A.length c1] 22)) (.cells #[.slice a2 B.length c2] 22)
  rw [sz_alloc] at h
  rw [cell_of_row _ _ _ _ _ (0, 0) h]
  rfl
 have HE1 := hide (iEnts_yes a1 c1 A _ hA0 hqA)
 have HE2 := hide (fun (W : World) (hW : Below ((w.alloc (.cells #[.slice a1 A.length c1] 22)).alloc (.cells #[.slice a2 B.length c2] 22)).heap.size ((w.alloc (.cells #[.slice a1 A.length c1] 22)).alloc (.cells #[.slice a2 B.length c2] 22)) W) => iEnts_yes a2 c2 B W (hB0.below hW) hqB)
 have HQ := hide (fun (W : World) (e1 e2 : Option Addr) (d1 d2 : Nat) (hW : Below ((w.alloc (.cells #[.slice a1 A.length c1] 22)).alloc (.cells #[.slice a2 B.length c2] 22)).heap.size ((w.alloc (.cells #[.slice a1 A.length c1] 22)).alloc (.cells #[.slice a2 B.length c2] 22)) W) (h1 : Sls enC 4 W e1 d1 (entsK A 40)) (h2 : Sls enC 4 W e2 d2 (entsK B 40)) =>
  equalF_any A B a1 a2 c1 c2 w.heap.size (w.heap.size + 1) e1 e2 d1 d2 _ _ W (hA0.below hW) (hB0.below hW) ((hW.cell (block_lt_of_cell hc1)).trans hc1) ((hW.cell (block_lt_of_cell hc2)).trans hc2) h1 h2 (right_ents hfA) (right_ents hfB))
 rw [eqAll_objs hA.1 hB.1] at HQ
 have hl1 := entsK_len A 40
 have hl2 := entsK_len B 40
 have HB0 := hide hb0
 have HC1 := hide hc1
 have HC2 := hide hc2
 have hbA := hA.2.2.1
 have hbB := hB.2.2.1
 generalize sameO A B 40 = S at *
 generalize entsK A 40 = E1 at *
 generalize entsK B 40 = E2 at *
 clear hA hB hA0 hB0 hqA hqB hfA hfB hb0 hc1 hc2
 generalize A.length = NA at *
 generalize B.length = NB at *
 go_enter Tryz.func51, Tryz.ntmps51
 go_wp2_with fail
 refine (unhide HE1).mono ?_
 rintro e w1 ⟨v1, rfl, hown1, hb1⟩
 obtain ⟨p1, d1, rfl, hsl1⟩ := hown1.sls enC_len (by omega)
 have HE2W := hide (unhide HE2 w1 hb1)
 have HS1 := hide hsl1
 have HB1 := hide hb1
 have k2 := (hb1.cell (block_lt_of_cell (unhide HC2))).trans (unhide HC2)
 have g2 : w.heap.size + 1 < w1.heap.size := by have := hb1.size; simp at this; omega
 clear hown1 hsl1 hb1 HE1 HE2
 go_wp2_with fail
 refine (unhide HE2W).mono ?_
 rintro e w2 ⟨v2, rfl, hown2, hb2⟩
 obtain ⟨p2, d2, rfl, hsl2⟩ := hown2.sls enC_len (by omega)
 have hB2 := (unhide HB1).trans (hb2.mono (unhide HB1).size)
 have HQ2 := hide (unhide HQ w2 p1 p2 d1 d2 hB2 ((unhide HS1).below hb2) hsl2)
 have HB2 := hide ((unhide HB0).trans (hB2.mono (unhide HB0).size))
 clear hown2 hsl2 hb2 hB2 HE2W HS1 HB1 HQ k2
 go_wp2_with fail
 refine (unhide HQ2).mono ?_
 rintro e w3 ⟨rfl, hb3⟩
 have HB3 := hide ((unhide HB2).trans (hb3.mono (unhide HB2).size))
 clear hb3 HQ2 HB2
 go_wp2
 go_ret2
 exact ⟨rfl, unhide HB3⟩
end Go.Proofs.YtfbloliakmehbaaGreatDoor
namespace Go.Proofs.YtfbloliakmehbaaGreatDoor
open Go.RowKit
set_option linter.unusedVariables false
theorem same_no1 (a1 a2 : Option Addr) (n1 n2 c1 c2 : Nat) (w : World) (h1 : n1 <= 140737488351232) (hq : lenB n1 = false) :
  Calls Tryz.prog 16 #[.slice a1 n1 c1, .slice a2 n2 c2] w fun e w' => e = .returned (.tuple #[.bool false, errV 3]) /\ Below w.heap.size w w' := by
 have HC := hide (chk_no a1 n1 c1 w h1 hq)
 rw [errV_pos 3 (by decide)] at HC ⊢
 clear hq
 go_enter Tryz.func16, Tryz.ntmps16
 go_wp2_with fail
 refine (unhide HC).mono ?_
 rintro e w1 ⟨rfl, hw⟩
 subst hw
 go_wp2
 go_ret2
 exact ⟨rfl, Below.refl _ _⟩
set_option maxRecDepth 100000 in
theorem same_no2 (a1 a2 : Option Addr) (n2 c1 c2 : Nat) (A : List Int) (w : World) (hA : Bs w a1 c1 A) (hqA : lenB A.length = true) (h2 : n2 <= 140737488351232) (hq : lenB n2 = false) :
  Calls Tryz.prog 16 #[.slice a1 A.length c1, .slice a2 n2 c2] w fun e w' => e = .returned (.tuple #[.bool false, errV 3]) /\ Below w.heap.size w w' := by
 have HC1 := hide (chk_yes a1 c1 A w hA hqA)
 have HC := hide (fun W => chk_no a2 n2 c2 W h2 hq)
 rw [errV_pos 3 (by decide)] at HC ⊢
 have hfl := faults_len A
 have hbl := hA.2.2.1
 generalize faults A = F at *
 generalize A.length = NA at *
 clear hq hqA hA
 go_enter Tryz.func16, Tryz.ntmps16
 go_wp2_with fail
 refine (unhide HC1).mono ?_
 rintro e w1 ⟨v1, rfl, hown1, hb1⟩
 obtain ⟨p1, d1, rfl, hsl1⟩ := hown1.sls flC_len (by omega)
 have HB1 := hide hb1
 clear hown1 hsl1 hb1 HC1
 go_wp2_with fail
 refine (unhide HC _).mono ?_
 rintro e w2 ⟨rfl, hw⟩
 subst hw
 go_wp2
 go_ret2
 exact ⟨rfl, unhide HB1⟩
set_option maxRecDepth 100000 in
theorem same_state (a1 a2 : Option Addr) (c1 c2 : Nat) (A B : List Int) (w : World) (hA : Bs w a1 c1 A) (hB : Bs w a2 c2 B) (hqA : lenB A.length = true) (hqB : lenB B.length = true) (hf : ¬ (faults A = [] /\ faults B = [])) :
  Calls Tryz.prog 16 #[.slice a1 A.length c1, .slice a2 B.length c2] w fun e w' => e = .returned (.tuple #[.bool false, errV 6]) /\ Below w.heap.size w w' := by
 have HC1 := hide (chk_yes a1 c1 A w hA hqA)
 have HC2 := hide (fun (W : World) (hW : Below w.heap.size w W) => chk_yes a2 c2 B W (hB.below hW) hqB)
 rw [errV_pos 6 (by decide)]
 have hfl := faults_len A
 have hgl := faults_len B
 have hpos : (0 : Int) < (faults A).length + (faults B).length := by
  have : 0 < (faults A).length \/ 0 < (faults B).length := by
   refine Classical.byContradiction fun h => hf ⟨?_, ?_⟩
   ·exact List.eq_nil_of_length_eq_zero (by omega)
   ·exact List.eq_nil_of_length_eq_zero (by omega)
  omega
 have hbl := hA.2.2.1
 have hbl2 := hB.2.2.1
 clear hf hqA hqB hA hB
 generalize faults A = F at *
 generalize faults B = G at *
 generalize A.length = NA at *
 generalize B.length = NB at *
 go_enter Tryz.func16, Tryz.ntmps16
 go_wp2_with fail
 refine (unhide HC1).mono ?_
 rintro e w1 ⟨v1, rfl, hown1, hb1⟩
 obtain ⟨p1, d1, rfl, hsl1⟩ := hown1.sls flC_len (by omega)
 have HC2W := hide (unhide HC2 w1 hb1)
 have HB1 := hide hb1
 clear hown1 hsl1 hb1 HC1 HC2
 go_wp2_with fail
 refine (unhide HC2W).mono ?_
 rintro e w2 ⟨v2, rfl, hown2, hb2⟩
 obtain ⟨p2, d2, rfl, hsl2⟩ := hown2.sls flC_len (by omega)
 have HB2 := hide ((unhide HB1).trans (hb2.mono (unhide HB1).size))
 clear hown2 hsl2 hb2 HC2W HB1
 generalize F.length = FN at *
 generalize G.length = GN at *
 go_wp2
 go_ret2
 exact ⟨rfl, unhide HB2⟩
set_option maxRecDepth 100000 in
theorem same_yes (a1 a2 : Option Addr) (c1 c2 : Nat) (A B : List Int) (w : World) (hA : Bs w a1 c1 A) (hB : Bs w a2 c2 B) (hqA : lenB A.length = true) (hqB : lenB B.length = true) (hfA : faults A = []) (hfB : faults B = []) :
  Calls Tryz.prog 16 #[.slice a1 A.length c1, .slice a2 B.length c2] w fun e w' => e = .returned (.tuple #[.bool (sameO A B 40 && sameR (rootsK A 8) (rootsK B 8)), .nilIface]) /\ Below w.heap.size w w' := by
 have HC1 := hide (chk_yes a1 c1 A w hA hqA)
 have HC2 := hide (fun (W : World) (hW : Below w.heap.size w W) => chk_yes a2 c2 B W (hB.below hW) hqB)
 rw [hfA] at HC1
 rw [hfB] at HC2
 have HO := hide (fun (W : World) (hW : Below w.heap.size w W) => sameObj_any a1 a2 c1 c2 A B W (hA.below hW) (hB.below hW) hqA hqB hfA hfB)
 have HR := hide (fun (W : World) (hW : Below w.heap.size w W) => sameRoots_any a1 a2 c1 c2 A B W (hA.below hW) (hB.below hW) hqA hqB hfA hfB)
 have hbl := hA.2.2.1
 have hbl2 := hB.2.2.1
 clear hqA hqB hA hB hfA hfB
 generalize sameO A B 40 = S1 at *
 generalize sameR (rootsK A 8) (rootsK B 8) = S2 at *
 generalize A.length = NA at *
 generalize B.length = NB at *
 go_enter Tryz.func16, Tryz.ntmps16
 go_wp2_with fail
 refine (unhide HC1).mono ?_
 rintro e w1 ⟨v1, rfl, hown1, hb1⟩
 obtain ⟨p1, d1, rfl, hsl1⟩ := hown1.sls flC_len (by simp)
 have HC2W := hide (unhide HC2 w1 hb1)
 have HB1 := hide hb1
 clear hown1 hsl1 hb1 HC1 HC2
 go_wp2_with fail
 refine (unhide HC2W).mono ?_
 rintro e w2 ⟨v2, rfl, hown2, hb2⟩
 obtain ⟨p2, d2, rfl, hsl2⟩ := hown2.sls flC_len (by simp)
 have hB2 := (unhide HB1).trans (hb2.mono (unhide HB1).size)
 have HO2 := hide (unhide HO w2 hB2)
 have HB2 := hide hB2
 clear hown2 hsl2 hb2 hB2 HC2W HB1 HO
 go_wp2_with fail
 refine (unhide HO2).mono ?_
 rintro e w3 ⟨rfl, hb3⟩
 have hB3 := (unhide HB2).trans (hb3.mono (unhide HB2).size)
 have HR3 := hide (unhide HR w3 hB3)
 have HB3 := hide hB3
 clear hb3 hB3 HO2 HB2 HR
 cases S1 with
 | false =>
  clear HR3
  go_wp2
  go_ret2
  exact ⟨rfl, unhide HB3⟩
 | true =>
  go_wp2_with fail
  refine (unhide HR3).mono ?_
  rintro e w4 ⟨rfl, hb4⟩
  have HB4 := hide ((unhide HB3).trans (hb4.mono (unhide HB3).size))
  clear hb4 HR3 HB3
  go_wp2
  go_ret2
  exact ⟨rfl, unhide HB4⟩
theorem same_any (a1 a2 : Option Addr) (c1 c2 : Nat) (A B : List Int) (w : World) (hA : Bs w a1 c1 A) (hB : Bs w a2 c2 B) :
  Calls Tryz.prog 16 #[.slice a1 A.length c1, .slice a2 B.length c2] w fun e w' => e = .returned (.tuple #[.bool (sameB A B), errV (sameE A B)]) /\ Below w.heap.size w w' := by
 unfold sameB sameE
 cases hqA : lenB A.length with
 | false =>
  rw [if_pos rfl]
  exact same_no1 a1 a2 _ _ c1 c2 w hA.2.2.1 hqA
 | true =>
  rw [if_neg (by simp)]
  cases hqB : lenB B.length with
  | false =>
   rw [if_pos rfl]
   exact same_no2 a1 a2 _ c1 c2 A w hA hqA hB.2.2.1 hqB
  | true =>
   rw [if_neg (by simp)]
   by_cases hf : faults A = [] /\ faults B = []
   ·rw [if_pos hf, errV_zero]
    exact same_yes a1 a2 c1 c2 A B w hA hB hqA hqB hf.1 hf.2
   ·rw [if_neg hf]
    exact same_state a1 a2 c1 c2 A B w hA hB hqA hqB hf
end Go.Proofs.YtfbloliakmehbaaGreatDoor
