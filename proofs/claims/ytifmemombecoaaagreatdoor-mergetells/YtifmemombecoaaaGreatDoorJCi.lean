/-
  Parts of the proofs, joined by program.
-/
import Derived.Shelf.Spec.SlicesGrow
import Derived.Shelf.SlGeneric
import Derived.Ground.Names8Prog
import Derived.Test.YtifmemombecoaaaGreatDoorProg
import Derived.Test.YtifmemombecoaaaGreatDoorJCh
import Derived.Laws.AppendOwnNone
import Derived.Test.YtifmemombecoaaaGreatDoorJAs
namespace Go.Proofs.YtifmemombecoaaaGreatDoor
open Go.RowKit Go.Shelf
set_option linter.unusedVariables false
def flGrow_ren : Ren := { f := fun | 4 => 93 | n => n, t := fun | 22 => 38 | 25 => 86 | 3 => 3 | 4 => 4 | 9 => 9 | 20 => 20 | 0 => 0 | 2 => 3 | n => n, g := fun n => n }
theorem flGrow : Lays8.n4 Tryz.prog flGrow_ren := { mixed := by kernel_rfl, f4 := ⟨ "slices.Grow[[]vaultkeel/api.Fault,vaultkeel/api.Fault]", by decide, Tryz.func93.trans rfl⟩, t0 := Tryz.underlying0, a0 := Tryz.isAgg0, z0 := Tryz.sizeOf0, v0 := Tryz.zeroValue0, t3 := Tryz.underlying3, a3 := Tryz.isAgg3, z3 := Tryz.sizeOf3, v3 := Tryz.zeroValue3, t4 := Tryz.underlying4, a4 := Tryz.isAgg4, z4 := Tryz.sizeOf4, v4 := Tryz.zeroValue4, t9 := Tryz.underlying9, a9 := Tryz.isAgg9, z9 := Tryz.sizeOf9, v9 := Tryz.zeroValue9, t20 := Tryz.underlying20, a20 := Tryz.isAgg20, z20 := Tryz.sizeOf20, v20 := Tryz.zeroValue20, t22 := Tryz.underlying38, a22 := Tryz.isAgg38, z22 := Tryz.sizeOf38, v22 := Tryz.zeroValue38 }
theorem grow_any (n : Nat) (w : World) (hn : n <= 1000) :
  Calls Tryz.prog 93 #[.slice none 0 0, .int .i64 n] w fun r w' => ∃ v, r = .returned v /\ Lst flC 2 86 w' w.heap.size v [] /\ Below w.heap.size w w' := by
 obtain ⟨i0, hi0, hz0, hz1, hz2⟩ := info_parts info_flt
 by_cases h0 : n = 0
 ·subst h0
  have h := Any8.slices_Grow_room flGrow none 0 0 0 w (Nat.le_refl _) (by decide) (by decide) (Nat.le_refl _)
  exact h.mono fun r w' ⟨hr, hw⟩ => ⟨_, hr, Lst.nil _ _, by rw [hw]; exact Below.refl _ _⟩
 ·have h := Any8.slices_Grow_grow flGrow i0 _ hi0 hz0 (by omega) none 0 0 n [] w (Nat.le_refl _) (by omega) (by rw [hz2]; omega) (by omega) (by simp) (fun _ => rfl) (fun a ha => by cases ha)
  refine h.mono fun r w' ⟨hr, hw⟩ => ⟨_, hr, ?_, by rw [hw]; exact (Below.refl _ w).drew.alloc (Nat.le_refl _) _⟩
  rw [hw]
  have hz : ∀ m : Nat, (Builtin.zeroCells (Value.agg #[.int .i64 0, .int .i64 0]).cells m).size = m * 2 := fun m => by simp [Builtin.zeroCells, Value.cells]
  have hge := grownCap_ge w (0 + n) 0 (flGrow_ren.t 25)
  refine ⟨by simp, .inr ⟨w.heap.size, _, _, rfl, Nat.le_refl _, heap_alloc_new w.drew _, Nat.zero_le _, grownCap_le_maxLen w _ _ _ (by unfold maxLen; omega), ?_, by simp⟩⟩
  rw [Array.size_append, Array.size_append, hz, hz]
  generalize grownCap w (0 + n) 0 _ = G at *
  simp
  omega
set_option maxRecDepth 100000 in
set_option maxHeartbeats 1000000 in
theorem concat_any (g : Nat) (a1 a2 : Option Addr) (c1 c2 : Nat) (l1 l2 : List (Int × Int)) (w : World) (hg : w.heap[g]? = some (.cells #[.slice a1 l1.length c1, .slice a2 l2.length c2] 38 (0, 0))) (h1 : Sls flC 2 w a1 c1 l1) (h2 : Sls flC 2 w a2 c2 l2) (hn1 : l1.length <= 400) (hn2 : l2.length <= 400) :
  Calls Tryz.prog 67 #[.slice (some ⟨g, 0, none⟩) 2 2] w fun r w' => ∃ v, r = .returned v /\ Lst flC 2 86 w' w.heap.size v (l1 ++ l2) /\ Below w.heap.size w w' := by
 obtain ⟨i0, hi0, hz0, hz1, hz2⟩ := info_parts info_flt
 have q0 : w.cell? ⟨g, 0, none⟩ = some (.slice a1 l1.length c1) := by rw [cell_of_row _ _ _ _ _ _ hg]; rfl
 have q1 : w.cell? ⟨g, 1, none⟩ = some (.slice a2 l2.length c2) := by rw [cell_of_row _ _ _ _ _ _ hg]; rfl
 have hglt := block_lt_of_cell q0
 dsimp only at hglt
 have HG := hide (grow_any (l1.length + l2.length) w (by omega))
 rw [show ((l1.length + l2.length : Nat) : Int) = (l1.length : Int) + l2.length by omega] at HG
 have H1 := hide h1
 have H2 := hide h2
 clear h1 h2 hg
 go_enter Tryz.func67, Tryz.ntmps67
 go_wp2_with fail
 go_loop [3, 11] (fun sz iv => (iv = .int .i64 0 /\ sz = .int .i64 0) \/ (iv = .int .i64 1 /\ sz = .int .i64 (l1.length : Int)) \/ (iv = .int .i64 2 /\ sz = .int .i64 ((l1.length : Int) + l2.length))) (fun _ iv => 2 - (intOf iv).toNat)
 case atStart => exact .inl ⟨rfl, rfl⟩
 case round =>
  rcases hrel with ⟨rfl, rfl⟩ | ⟨rfl, rfl⟩ | ⟨rfl, rfl⟩
  ·go_wp2
   go_round
   case rel => exact .inr (.inl ⟨rfl, rfl⟩)
   case measure => simp [intOf]
  ·go_wp2
   go_round
   case rel => exact .inr (.inr ⟨rfl, rfl⟩)
   case measure => simp [intOf]
  ·go_wp2_with fail
   refine (unhide HG).mono ?_
   rintro e w1 ⟨v1, rfl, hown1, hb1⟩
   obtain ⟨va, vm, vc, rfl⟩ := hown1.shape
   have HO1 := hide hown1
   have HB1 := hide hb1
   clear hown1 hb1 HG
   go_wp2_with fail
   go_loopw [6, 27] (fun v iv wr => Below w.heap.size w wr /\ ((iv = .int .i64 0 /\ Lst flC 2 86 wr w.heap.size v []) \/ (iv = .int .i64 1 /\ Lst flC 2 86 wr w.heap.size v l1) \/ (iv = .int .i64 2 /\ Lst flC 2 86 wr w.heap.size v (l1 ++ l2)))) (fun _ iv _ => 2 - (intOf iv).toNat)
   case atStart => exact ⟨unhide HB1, .inl ⟨rfl, unhide HO1⟩⟩
   case round =>
    obtain ⟨hbel, hrel⟩ := hrel
    have hgl : g < wr.heap.size := Nat.lt_of_lt_of_le hglt hbel.size
    have hsz := hbel.size
    have r0 := (hbel.cell (block_lt_of_cell q0)).trans q0
    have r1 := (hbel.cell (block_lt_of_cell q1)).trans q1
    have HS1 := hide ((unhide H1).below hbel)
    have HS2 := hide ((unhide H2).below hbel)
    have HBEL := hide hbel
    clear hbel
    rcases hrel with ⟨rfl, hown⟩ | ⟨rfl, hown⟩ | ⟨rfl, hown⟩
    ·obtain ⟨ya, ym, yc, rfl⟩ := hown.shape
     have HO := hide hown
     clear hown
     go_wp2_with (at_builtin; refine wpList_append_sls rfl _ _ 38 rfl w.heap.size i0 (.agg #[.int .i64 0, .int .i64 0]) 16 Tryz.underlying38 hi0 hz0 hz1 hz2 rfl (by decide) (by decide) _ _ rfl (unhide HO) a1 c1 l1 rfl (unhide HS1) flC_len flC_one (by simp; omega) hsz ?_)
     intro v9 w9 hown9 hbel9
     have HO9 := hide hown9
     have HB9 := hide ((unhide HBEL).trans hbel9)
     obtain ⟨a9, m9, c9, rfl⟩ := hown9.shape
     clear hown9 hbel9 HO HBEL
     go_wp2
     go_roundw
     case rel => exact ⟨unhide HB9, .inr (.inl ⟨rfl, unhide HO9⟩)⟩
     case measure => simp [intOf]
    ·obtain ⟨ya, ym, yc, rfl⟩ := hown.shape
     have HO := hide hown
     clear hown
     go_wp2_with (at_builtin; refine wpList_append_sls rfl _ _ 38 rfl w.heap.size i0 (.agg #[.int .i64 0, .int .i64 0]) 16 Tryz.underlying38 hi0 hz0 hz1 hz2 rfl (by decide) (by decide) _ _ rfl (unhide HO) a2 c2 l2 rfl (unhide HS2) flC_len flC_one (by omega) hsz ?_)
     intro v9 w9 hown9 hbel9
     have HO9 := hide hown9
     have HB9 := hide ((unhide HBEL).trans hbel9)
     obtain ⟨a9, m9, c9, rfl⟩ := hown9.shape
     clear hown9 hbel9 HO HBEL
     go_wp2
     go_roundw
     case rel => exact ⟨unhide HB9, .inr (.inr ⟨rfl, unhide HO9⟩)⟩
     case measure => simp [intOf]
    ·obtain ⟨ya, ym, yc, rfl⟩ := hown.shape
     have HO := hide hown
     clear hown
     go_wp2
     go_ret
     exact ⟨_, rfl, unhide HO, unhide HBEL⟩
end Go.Proofs.YtifmemombecoaaaGreatDoor
namespace Go.Proofs.YtifmemombecoaaaGreatDoor
open Go.RowKit
set_option linter.unusedVariables false
def chkF (L : List Int) : List (Int × Int) := if lenB L.length = true then faults L else []
theorem chk_no (a : Option Addr) (len cap : Nat) (w : World) (hl : len <= 140737488351232) (hq : lenB len = false) :
  Calls Tryz.prog 41 #[.slice a len cap] w fun e w' => e = .returned (.tuple #[.slice none 0 0, errV 3]) /\ w = w' := by
 have HE := hide (iEnts_no a len cap w hl hq)
 rw [errV_pos 3 (by decide)] at HE ⊢
 clear hq
 go_enter Tryz.func41, Tryz.ntmps41
 go_wp2_with fail
 refine (unhide HE).mono ?_
 rintro e w1 ⟨rfl, hw⟩
 subst hw
 go_wp2
 go_ret2
 exact ⟨rfl, rfl⟩
set_option maxRecDepth 100000 in
set_option maxHeartbeats 1000000 in
theorem chk_yes (a : Option Addr) (cap : Nat) (L : List Int) (w : World) (hbs : Bs w a cap L) (hq : lenB L.length = true) :
  Calls Tryz.prog 41 #[.slice a L.length cap] w fun e w' => ∃ v, e = .returned (.tuple #[v, .nilIface]) /\ Lst flC 2 86 w' w.heap.size v (faults L) /\ Below w.heap.size w w' := by
 have HE := hide (iEnts_yes a cap L w hbs hq)
 have hbl := hbs.2.2.1
 have HB := hide hbs
 have HQ := hide hq
 have HBY := hide hbs.1
 clear hq hbs
 go_enter Tryz.func41, Tryz.ntmps41
 go_wp2_with fail
 refine (unhide HE).mono ?_
 rintro e w1 ⟨v1, rfl, hown1, hb1⟩
 obtain ⟨a1, c1, rfl, hsl1⟩ := hown1.sls enC_len (Nat.le_trans (entsK_len L 40) (by decide))
 have HM := hide (marksOf_any L a1 c1 w1 (unhide HBY) (unhide HQ) hsl1)
 have HB1 := hide hb1
 have hel : (entsK L 40).length <= 40 := entsK_len L 40
 generalize (entsK L 40).length = EN at *
 clear hown1 hsl1 hb1 HE
 go_wp2_with fail
 refine (unhide HM).mono ?_
 rintro e w2 ⟨rfl, hm2, hb2⟩
 have hB2 := (unhide HB1).trans (hb2.mono (unhide HB1).size)
 have HH := hide (fHandles_any a cap L w1.heap.size w2 ((unhide HB).below hB2) (unhide HQ) hm2)
 have HM2 := hide hm2
 have HB2 := hide hB2
 clear hm2 hb2 hB2 HM HB1
 go_wp2_with fail
 refine (unhide HH).mono ?_
 rintro e w3 ⟨v3, rfl, hown3, hb3⟩
 have hB3 := (unhide HB2).trans (hb3.mono (unhide HB2).size)
 have HR := hide (fRoots_any a cap L w1.heap.size w3 ((unhide HB).below hB3) (unhide HQ) ((unhide HM2).below hb3))
 obtain ⟨a3, c3, rfl, hsl3⟩ := hown3.sls flC_len (Nat.le_trans (hFK_len L 40) (by decide))
 have HS3 := hide hsl3
 have HB3 := hide hB3
 clear hown3 hsl3 hb3 hB3 HH HB2 HM2
 go_wp2_with fail
 refine (unhide HR).mono ?_
 rintro e w4 ⟨v4, rfl, hown4, hb4⟩
 obtain ⟨a4, c4, rfl, hsl4⟩ := hown4.sls flC_len (Nat.le_trans (rFK_len L 8) (by decide))
 have hB4 := (unhide HB3).trans (hb4.mono (unhide HB3).size)
 have hbA : Below w4.heap.size w4 (w4.alloc (.cells #[.slice a3 (hFK L 40).length c3, .slice a4 (rFK L 8).length c4] 38)) := (Below.refl _ _).alloc (Nat.le_refl _) _
 have HC := hide (concat_any w4.heap.size a3 a4 c3 c4 _ _ (w4.alloc (.cells #[.slice a3 (hFK L 40).length c3, .slice a4 (rFK L 8).length c4] 38)) (heap_alloc_new w4 _) (((unhide HS3).below hb4).below hbA) (hsl4.below hbA) (Nat.le_trans (hFK_len L 40) (by decide)) (Nat.le_trans (rFK_len L 8) (by decide)))
 have HB5 := hide (hB4.trans (hbA.mono hB4.size))
 have hh1 : (hFK L 40).length <= 40 := hFK_len L 40
 have hh2 : (rFK L 8).length <= 8 := rFK_len L 8
 have HF : Hid (faults L = hFK L 40 ++ rFK L 8) := hide rfl
 generalize hFK L 40 = F1 at *
 generalize rFK L 8 = F2 at *
 clear hown4 hsl4 hb4 hB4 hbA HR HB3 HS3
 go_wp2_with fail
 refine (unhide HC).mono ?_
 rintro e w6 ⟨v6, rfl, hown6, hb6⟩
 have HO6 := hide (hown6.base (unhide HB5).size)
 have HB6 := hide ((unhide HB5).trans (hb6.mono (unhide HB5).size))
 obtain ⟨a6, m6, c6, rfl⟩ := hown6.shape
 clear hown6 hb6 HC HB5
 go_wp2
 go_ret2
 exact ⟨_, rfl, by rw [unhide HF]; exact unhide HO6, unhide HB6⟩
theorem chk_any (a : Option Addr) (cap : Nat) (L : List Int) (w : World) (hbs : Bs w a cap L) :
  Calls Tryz.prog 41 #[.slice a L.length cap] w fun e w' => ∃ v, e = .returned (.tuple #[v, errV (lenE L.length)]) /\ Lst flC 2 86 w' w.heap.size v (chkF L) /\ Below w.heap.size w w' := by
 unfold lenE chkF
 cases hq : lenB L.length with
 | true =>
  rw [if_pos rfl, if_pos rfl, errV_zero]
  exact chk_yes a cap L w hbs hq
 | false =>
  rw [if_neg (by simp), if_neg (by simp)]
  exact (chk_no a L.length cap w hbs.2.2.1 hq).mono fun e w' ⟨he, hw⟩ => ⟨_, he, Lst.nil _ _, by rw [hw]; exact Below.refl _ _⟩
theorem byt_wipes : ∀ {l : List (Int × Int)} {b : List Int}, Byt b -> Byt (wipes b l)
 | [], b, h => h
 | f :: l, b, h => by
  show Byt (wipes (wipeF b f) l)
  refine byt_wipes ?_
  rw [wipeF_eq]
  exact byt_splice h (byt_zerosB _)
theorem byt_mendL {b : List Int} (h : Byt b) : Byt (mendL b) := byt_wipes h
def mendO (L : List Int) : List Int := if lenB L.length = true then mendL L else []
end Go.Proofs.YtifmemombecoaaaGreatDoor
