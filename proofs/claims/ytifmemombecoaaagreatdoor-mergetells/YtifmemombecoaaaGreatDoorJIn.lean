/-
  Parts of the proofs, joined by program.
-/
import Derived.Test.YtifmemombecoaaaGreatDoorJIm
import Derived.Test.YtifmemombecoaaaGreatDoorJRef
namespace Go.Proofs.YtifmemombecoaaaGreatDoor
open Go.RowKit
set_option linter.unusedVariables false
def lenE (n : Int) : Int := if lenB n = true then 0 else 3
theorem tag_chk {l : List Int} {h : Int} (hq : lenB l.length = true) (h1 : 1 <= h) (h2 : h <= 40) (ht : tagAt l h ≠ 0) : chkE l h = 0 := chkE_zero.2 ⟨hq, hndB_iff.2 ⟨h1, h2⟩, ht⟩
theorem entsK_yes {l : List Int} {k : Nat} (ht : tagAt l ((k : Int) + 1) ≠ 0) : entsK l (k + 1) = entsK l k ++ [entOf l ((k : Int) + 1)] := by
 show entsK l k ++ _ = _
 rw [if_neg ht]
theorem entsK_no {l : List Int} {k : Nat} (ht : tagAt l ((k : Int) + 1) = 0) : entsK l (k + 1) = entsK l k := by
 show entsK l k ++ _ = _
 rw [if_pos ht, List.append_nil]
theorem iEnts_no (a : Option Addr) (len cap : Nat) (w : World) (hl : len <= 140737488351232) (hq : lenB len = false) :
  Calls Tryz.prog 42 #[.slice a len cap] w fun e w' => e = .returned (.tuple #[.slice none 0 0, errV 3]) /\ w = w' := by
 rw [errV_pos 3 (by decide)]
 have HL := hide (fun W => isLength_any len W)
 rw [hq] at HL
 clear hq
 go_enter Tryz.func42, Tryz.ntmps42
 go_wp2_with (go_at_call 70; refine (unhide HL _).mono ?_; rintro e w1 ⟨rfl, rfl⟩)
 go_ret2
 exact ⟨rfl, rfl⟩
set_option maxRecDepth 100000 in
set_option maxHeartbeats 2000000 in
theorem iEnts_yes (a : Option Addr) (cap : Nat) (l : List Int) (w : World) (hb : Bs w a cap l) (hq : lenB l.length = true) :
  Calls Tryz.prog 42 #[.slice a l.length cap] w fun e w' => ∃ v, e = .returned (.tuple #[v, .nilIface]) /\ Lst enC 4 60 w' w.heap.size v (entsK l 40) /\ Below w.heap.size w w' := by
 have HL := hide (fun W => isLength_any l.length W)
 have hl := lenB_iff.1 hq
 have HQ := hide hq
 rw [hq] at HL
 clear hq
 obtain ⟨i0, hi0, hz0, hz1, hz2⟩ := info_parts info_ent
 have HB := hide hb
 have hbl := hb.2.2.1
 clear hb
 go_enter Tryz.func42, Tryz.ntmps42
 go_wp2_with (go_at_call 70; refine (unhide HL _).mono ?_; rintro e w1 ⟨rfl, rfl⟩)
 go_loopw [4, 5] (fun v hv wr => ∃ k : Nat, k <= 40 /\ hv = .int .i64 ((k : Int) + 1) /\ Lst enC 4 60 wr w.heap.size v (entsK l k) /\ Below w.heap.size w wr) (fun _ hv _ => 41 - (intOf hv).toNat)
 case atStart => exact ⟨0, by omega, rfl, Lst.nil _ _, Below.refl _ _⟩
 case round =>
  obtain ⟨k, hk, rfl, hown, hbel⟩ := hrel
  obtain ⟨va, vm, vc, rfl⟩ := hown.shape
  by_cases hlt : k < 40
  ·have hbs := (unhide HB).below hbel
   have HH := hide (has_any a cap l ((k : Int) + 1) wr hbs (by omega) (by omega) (by omega))
   by_cases ht : tagAt l ((k : Int) + 1) = 0
   ·rw [ht] at HH
    have HE := hide (entsK_no ht)
    have HO := hide hown
    have HBEL := hide hbel
    clear ht hown hbel hbs
    go_wp2_with (go_at_call 71; refine (unhide HH).mono ?_; rintro e w1 ⟨rfl, hw1⟩; subst hw1)
    go_roundw
    case rel => exact ⟨k + 1, by omega, by go_num, by rw [unhide HE]; exact unhide HO, unhide HBEL⟩
    case measure => simp [intOf]; omega
   ·rw [bne_iff_ne.2 ht] at HH
    have HG := hide (iGet_yes a cap l ((k : Int) + 1) wr hbs (tag_chk (unhide HQ) (by omega) (by omega) ht))
    have HE := hide (entsK_yes ht)
    have HLN := hide (entsK_len l k)
    have HO := hide hown
    have HBEL := hide hbel
    clear ht hown hbel hbs
    generalize hent : entOf l ((k : Int) + 1) = ent at *
    clear hent
    obtain ⟨x, y, z, t⟩ := ent
    unfold entV at HG
    dsimp only at HG
    go_wp2_with (first | (go_at_call 71; refine (unhide HH).mono ?_; rintro e w1 ⟨rfl, hw1⟩; subst hw1))
    refine (unhide HG).mono ?_
    rintro e w1 ⟨rfl, hb1⟩
    have hB1 := (unhide HBEL).trans (hb1.mono (unhide HBEL).size)
    have hB2 := hB1.alloc hB1.size (.cells #[.int .i64 x, .int .i64 y, .int .i64 z, .int .i64 t] 60)
    have HB3 := hide (hB2.alloc hB2.size (.cells #[.int .i64 x, .int .i64 y, .int .i64 z, .int .i64 t] 60))
    have HO3 := hide ((((unhide HO).below hb1).below ((Below.refl _ _).alloc (Nat.le_refl _) (.cells #[.int .i64 x, .int .i64 y, .int .i64 z, .int .i64 t] 60))).below ((Below.refl _ _).alloc (Nat.le_refl _) (.cells #[.int .i64 x, .int .i64 y, .int .i64 z, .int .i64 t] 60)))
    have hsz := (unhide HBEL).size
    have hsz1 := hb1.size
    have HGN : Hid (((w1.alloc (.cells #[.int .i64 x, .int .i64 y, .int .i64 z, .int .i64 t] 60)).alloc (.cells #[.int .i64 x, .int .i64 y, .int .i64 z, .int .i64 t] 60)).heap[w1.heap.size + 1]? = some (.cells (enC (x, y, z, t)).toArray 60 (0, 0))) := hide (by
     have := heap_alloc_new (w1.alloc (.cells #[.int .i64 x, .int .i64 y, .int .i64 z, .int .i64 t] 60)) (.cells #[.int .i64 x, .int .i64 y, .int .i64 z, .int .i64 t] 60)
     rw [sz_alloc] at this
     exact this)
    clear hb1 hB1 hB2 HO HBEL HG HH
    go_wp2_with (at_builtin; refine wpList_append_lst rfl _ _ 96 rfl w.heap.size i0 (.agg #[.int .i64 0, .int .i64 0, .int .i64 0, .int .i64 0]) 32 Tryz.underlying96 hi0 hz0 hz1 hz2 rfl (by decide) (by decide) _ _ rfl (unhide HO3) (w1.heap.size + 1) (x, y, z, t) rfl (unhide HGN) rfl (enC_one _) (Nat.le_trans (unhide HLN) (by omega)) (by simp; omega) ?_)
    intro v9 w9 hown9 hbel9
    have HO9 := hide hown9
    have HB9 := hide ((unhide HB3).trans hbel9)
    obtain ⟨a9, m9, c9, rfl⟩ := hown9.shape
    clear hown9 hbel9 HO3 HB3 HGN
    go_wp2
    go_roundw
    case rel => exact ⟨k + 1, by omega, by go_num, by rw [unhide HE]; exact unhide HO9, unhide HB9⟩
    case measure => simp [intOf]; omega
  ·obtain rfl : k = 40 := by omega
   have HO := hide hown
   have HBEL := hide hbel
   clear hown hbel
   go_wp2
   go_ret2
   exact ⟨_, rfl, unhide HO, unhide HBEL⟩
theorem iEnts_any (a : Option Addr) (cap : Nat) (l : List Int) (w : World) (hb : Bs w a cap l) :
  Calls Tryz.prog 42 #[.slice a l.length cap] w fun e w' => ∃ v, e = .returned (.tuple #[v, errV (lenE l.length)]) /\ Lst enC 4 60 w' w.heap.size v (ents l) /\ Below w.heap.size w w' := by
 unfold lenE ents
 cases hq : lenB l.length with
 | true =>
  rw [if_pos rfl, if_pos rfl, errV_zero]
  exact iEnts_yes a cap l w hb hq
 | false =>
  rw [if_neg (by simp), if_neg (by simp)]
  exact (iEnts_no a l.length cap w hb.2.2.1 hq).mono fun e w' ⟨he, hw⟩ => ⟨_, he, Lst.nil _ _, by rw [hw]; exact Below.refl _ _⟩
def rootV (r : (ByteArray × Int)) : Value := .agg #[.string r.1, .int .i64 r.2]
def RoB (w : World) (g : Nat) (r : (ByteArray × Int)) : Prop := w.heap[g]? = some (.cells #[.string r.1, .int .i64 r.2] 65 (0, 0))
section
variable {w : World} {g : Nat} {r : (ByteArray × Int)}
theorem RoB.lt (h : RoB w g r) : g < w.heap.size := (Array.getElem?_eq_some_iff.1 h).1
theorem RoB.cells (h : RoB w g r) : w.cell? ⟨g, 0, none⟩ = some (.string r.1) /\ w.cell? ⟨g, 1, none⟩ = some (.int .i64 r.2) := by
 simp only [cell_of_row _ _ _ _ _ _ h]
 exact ⟨rfl, rfl⟩
theorem RoB.below {w' : World} {B : Nat} (h : RoB w g r) (hb : Below B w w') (hg : g < B) : RoB w' g r := (hb.block g hg).trans h
end
theorem RoB.new (w : World) (r : (ByteArray × Int)) : RoB (w.alloc (.cells #[.string r.1, .int .i64 r.2] 65)) w.heap.size r := heap_alloc_new w _
theorem rowR_set (s : ByteArray) (h : Int) (hn : NameOk s) (h1 : 1 <= h) (h2 : h <= 40) : (splice (zerosB 11) 0 (nameL s)).set 10 h = rowR (s, h) := by
 have hl := length_nameL s hn.2.1
 have hne : ¬ noRoot (s, h) = true := by
  rw [noRoot_iff]
  rintro ⟨_, h0⟩
  dsimp only at h0
  omega
 unfold rowR
 rw [if_neg hne]
 have hm : h % 256 = h := by omega
 have e : splice (zerosB 11) 0 (nameL s) = nameL s ++ [0, 0, 0] := by
  unfold splice
  rw [List.take_zero, List.nil_append, Nat.zero_add, hl]
  rfl
 rw [e, List.set_append_right _ _ (by omega), hl]
 dsimp only
 rw [hm]
 rfl
set_option maxRecDepth 100000 in
set_option maxHeartbeats 1000000 in
theorem rootRow_none (s : ByteArray) (h : Int) (w : World) (h0 : s.size = 0) (hh : h = 0) :
  Calls Tryz.prog 116 #[.agg #[.string s, .int .i64 h]] w (Ends w (zerosB 11) .nilIface) := by
 subst hh
 obtain ⟨i0, hi, hz0, hz1, hz2⟩ := info_parts info_u8
 have he : s.toList.isEmpty = true := empty_yes s h0
 have HEN := hide (RoB.new w (s, 0))
 go_enter Tryz.func116, Tryz.ntmps116
 go_wp2_with (at_make; refine wpList_make_u8 rfl _ _ 22 rfl i0 Tryz.underlying22 hi hz0 hz1 hz2 _ _ _ _ 11 rfl rfl rfl rfl (by omega) ?_; intro w2 hk2 hs2 hb2; rw [sz_alloc] at hk2 hs2; have hen := (unhide HEN).below hb2 (by simp); obtain ⟨c0, c1⟩ := hen.cells; have HB2 := hide (((Below.refl _ w).alloc (Nat.le_refl _) _).trans (hb2.mono (by simp))); have HK2 := hide hk2; clear hk2 hb2 hen)
 go_ret2
 have hlen := length_zerosB 11
 exact ⟨_, 11, by rw [hlen]; rfl, (unhide HK2).bs (byt_zerosB 11) (by decide), unhide HB2⟩
set_option maxRecDepth 100000 in
set_option maxHeartbeats 1000000 in
theorem rootRow_range (s : ByteArray) (h : Int) (w : World) (h0 : ¬ (s.size = 0 /\ h = 0)) (hh : hndB h = false) :
  Calls Tryz.prog 116 #[.agg #[.string s, .int .i64 h]] w (Ends w [] (errV 1)) := by
 rw [errV_pos 1 (by decide)]
 obtain ⟨i0, hi, hz0, hz1, hz2⟩ := info_parts info_u8
 have HEN := hide (RoB.new w (s, h))
 have HH := hide (fun W => isHandle_any h W)
 rw [hh] at HH
 clear hh
 by_cases hs : s.size = 0
 ·have he : s.toList.isEmpty = true := empty_yes s hs
  have h1 : ¬ h = 0 := fun e => h0 ⟨hs, e⟩
  clear h0
  go_enter Tryz.func116, Tryz.ntmps116
  go_wp2_with (first | (at_make; refine wpList_make_u8 rfl _ _ 22 rfl i0 Tryz.underlying22 hi hz0 hz1 hz2 _ _ _ _ 11 rfl rfl rfl rfl (by omega) ?_; intro w2 hk2 hs2 hb2; rw [sz_alloc] at hk2 hs2; have hen := (unhide HEN).below hb2 (by simp); obtain ⟨c0, c1⟩ := hen.cells; have HB2 := hide (((Below.refl _ w).alloc (Nat.le_refl _) _).trans (hb2.mono (by simp))); clear hk2 hb2 hen) | (go_at_call 121; refine (unhide HH _).mono ?_; rintro e w3 ⟨rfl, hw3⟩; subst hw3))
  go_ret2
  exact ⟨none, 0, rfl, bs_nil _, unhide HB2⟩
 ·have he : s.toList.isEmpty = false := empty_no s (by omega)
  clear h0
  go_enter Tryz.func116, Tryz.ntmps116
  go_wp2_with (first | (at_make; refine wpList_make_u8 rfl _ _ 22 rfl i0 Tryz.underlying22 hi hz0 hz1 hz2 _ _ _ _ 11 rfl rfl rfl rfl (by omega) ?_; intro w2 hk2 hs2 hb2; rw [sz_alloc] at hk2 hs2; have hen := (unhide HEN).below hb2 (by simp); obtain ⟨c0, c1⟩ := hen.cells; have HB2 := hide (((Below.refl _ w).alloc (Nat.le_refl _) _).trans (hb2.mono (by simp))); clear hk2 hb2 hen) | (go_at_call 121; refine (unhide HH _).mono ?_; rintro e w3 ⟨rfl, hw3⟩; subst hw3))
  go_ret2
  exact ⟨none, 0, rfl, bs_nil _, unhide HB2⟩
set_option maxRecDepth 100000 in
set_option maxHeartbeats 1000000 in
theorem rootRow_bad (s : ByteArray) (h : Int) (w : World) (hs : s.size <= 140737488351232) (hh : hndB h = true) (hn : ¬ NameOk s) :
  Calls Tryz.prog 116 #[.agg #[.string s, .int .i64 h]] w (Ends w [] (errV 2)) := by
 rw [errV_pos 2 (by decide)]
 obtain ⟨i0, hi, hz0, hz1, hz2⟩ := info_parts info_u8
 have HEN := hide (RoB.new w (s, h))
 have HH := hide (fun W => isHandle_any h W)
 have hh1 := hndB_iff.1 hh
 have h1 : ¬ h = 0 := by omega
 have HP := hide (fun W => putName_fail s W hs hn)
 rw [hh] at HH
 clear hh hn
 have hcase : s.toList.isEmpty = true \/ s.toList.isEmpty = false := by cases s.toList.isEmpty <;> simp
 rcases hcase with he | he
 all_goals
  go_enter Tryz.func116, Tryz.ntmps116
  go_wp2_with (first | (at_make; refine wpList_make_u8 rfl _ _ 22 rfl i0 Tryz.underlying22 hi hz0 hz1 hz2 _ _ _ _ 11 rfl rfl rfl rfl (by omega) ?_; intro w2 hk2 hs2 hb2; rw [sz_alloc] at hk2 hs2; have hen := (unhide HEN).below hb2 (by simp); obtain ⟨c0, c1⟩ := hen.cells; have HB2 := hide (((Below.refl _ w).alloc (Nat.le_refl _) _).trans (hb2.mono (by simp))); clear hk2 hb2 hen) | (go_at_call 121; refine (unhide HH _).mono ?_; rintro e w3 ⟨rfl, hw3⟩; subst hw3) | (go_at_call 139; refine (unhide HP _).mono ?_; rintro e w4 ⟨rfl, hb4⟩; have HB4 := hide ((unhide HB2).trans (hb4.mono (unhide HB2).size)); clear hb4))
  go_ret2
  exact ⟨none, 0, rfl, bs_nil _, unhide HB4⟩
set_option maxRecDepth 100000 in
set_option maxHeartbeats 1000000 in
theorem rootRow_yes (s : ByteArray) (h : Int) (w : World) (hh : hndB h = true) (hn : NameOk s) :
  Calls Tryz.prog 116 #[.agg #[.string s, .int .i64 h]] w (Ends w (rowR (s, h)) .nilIface) := by
 obtain ⟨i0, hi, hz0, hz1, hz2⟩ := info_parts info_u8
 have HEN := hide (RoB.new w (s, h))
 have HH := hide (fun W => isHandle_any h W)
 have hh1 := hndB_iff.1 hh
 have h1 : ¬ h = 0 := by omega
 have he : s.toList.isEmpty = false := empty_no s hn.1
 have HP := hide (fun W => putName_yes s W hn.1 hn.2.1 hn.2.2)
 have hnl := length_nameL s hn.2.1
 have hnb := byt_nameL s
 have HR := hide (rowR_set s h hn hh1.1 hh1.2)
 rw [hh] at HH
 clear hh hn
 generalize nameL s = N at *
 go_enter Tryz.func116, Tryz.ntmps116
 go_wp2_with (first | (at_make; refine wpList_make_u8 rfl _ _ 22 rfl i0 Tryz.underlying22 hi hz0 hz1 hz2 _ _ _ _ 11 rfl rfl rfl rfl (by omega) ?_; intro w2 hk2 hs2 hb2; rw [sz_alloc] at hk2 hs2; have hen := (unhide HEN).below hb2 (by simp); obtain ⟨c0, c1⟩ := hen.cells; have HB2 := hide (((Below.refl _ w).alloc (Nat.le_refl _) _).trans (hb2.mono (by simp))); have HK2 := hide hk2; have HEN2 := hide hen; clear hk2 hb2 hen) | (go_at_call 121; refine (unhide HH _).mono ?_; rintro e w3 ⟨rfl, hw3⟩; subst hw3))
 refine (unhide HP _).mono ?_
 rintro e w4 ⟨g, rfl, hg, hk4, hb4⟩
 have hk4' := (unhide HK2).below hb4
 have hen4 := (unhide HEN2).below hb4 (unhide HEN2).lt
 have HB4 := hide ((unhide HB2).trans (hb4.mono (unhide HB2).size))
 have hbs4 := hk4.bs hnb (by omega)
 have hzl := length_zerosB 11
 have hcopy : Sem.run Tryz.prog (Builtin.copy_ #[22, 22] 3 #[.slice (some ⟨w.heap.size + 1, 0, none⟩) 11 11, .slice (some ⟨g, 0, none⟩) 8 8]) w4 = .ok (.int .i64 8) (rowW w4 (w.heap.size + 1) (splice (zerosB 11) 0 N)) := by
  have := run_copy_at (P := Tryz.prog) w4 22 22 3 Tryz.underlying22 size_u8 (w.heap.size + 1) 0 11 11 (some ⟨w.heap.size + 1, 0, none⟩) (some ⟨g, 0, none⟩) N.length (zerosB 11) N (by omega) (fun _ => rfl) (by omega) hk4' hbs4
  rw [hnl] at this
  exact this
 have hk5 : Blk (rowW w4 (w.heap.size + 1) (splice (zerosB 11) 0 N)) (w.heap.size + 1) (splice (zerosB 11) 0 N) := rowW_blk hk4' _
 have hb5 : Below w.heap.size w (rowW w4 (w.heap.size + 1) (splice (zerosB 11) 0 N)) := rowW_below _ (unhide HB4) (Nat.le_succ _)
 have hen5 : RoB (rowW w4 (w.heap.size + 1) (splice (zerosB 11) 0 N)) w.heap.size (s, h) := (setRow_other w4 _ _ _ (by omega)).trans hen4
 have hsl : (splice (zerosB 11) 0 N).length = 11 := by rw [length_splice (by omega)]; exact hzl
 obtain ⟨d0, d1⟩ := hen5.cells
 have hcl := hk5.cell 10 (by omega)
 have hfz := hk5.frozen 10
 have HBY : Hid (Byt (rowR (s, h))) := hide (byt_rowR _)
 have HK5 := hide hk5
 have HB5 := hide hb5
 clear hk4 hk4' hen4 hen5 hk5 hb5 hb4 hbs4 HB4 HB2 HK2 HEN2 HP c0 c1 hnb
 generalize splice (zerosB 11) 0 N = X at *
 generalize rowW w4 (w.heap.size + 1) X = w5 at *
 generalize X.getD 10 0 = x0 at *
 go_wp2
 go_ret2
 have hk6 := (unhide HK5).set 10 h
 rw [unhide HR] at hk6
 have hrl : (rowR (s, h)).length = 11 := by rw [<- unhide HR, List.length_set]; exact hsl
 exact ⟨some ⟨w.heap.size + 1, 0, none⟩, (rowR (s, h)).length, by rw [hrl]; rfl, hk6.bs (unhide HBY) (by omega), (unhide HB5).setCell (by exact Nat.le_succ _) _⟩
theorem rootRow_any (r : (ByteArray × Int)) (w : World) (hs : r.1.size <= 140737488351232) :
  Calls Tryz.prog 116 #[rootV r] w (Ends w (if rowRE r = 0 then rowR r else []) (errV (rowRE r))) := by
 obtain ⟨s, h⟩ := r
 dsimp only at hs
 unfold rootV
 dsimp only
 by_cases h0 : noRoot (s, h) = true
 ·have e : rowRE (s, h) = 0 := by unfold rowRE; rw [if_pos h0]
  have e2 : rowR (s, h) = zerosB 11 := by unfold rowR; rw [if_pos h0]
  rw [e, if_pos rfl, e2, errV_zero]
  have := noRoot_iff.1 h0
  exact rootRow_none s h w this.1 this.2
 ·have h0' : ¬ (s.size = 0 /\ h = 0) := fun h => h0 (noRoot_iff.2 h)
  cases hh : hndB h with
  | false =>
   have e : rowRE (s, h) = 1 := by unfold rowRE; rw [if_neg h0, if_pos hh]
   rw [e, if_neg (by decide)]
   exact rootRow_range s h w h0' hh
  | true =>
   by_cases hn : nameB s = true
   ·have e : rowRE (s, h) = 0 := by unfold rowRE; rw [if_neg h0, if_neg (by dsimp only; rw [hh]; simp), if_pos hn]
    rw [e, if_pos rfl, errV_zero]
    exact rootRow_yes s h w hh (nameB_iff.1 hn)
   ·have e : rowRE (s, h) = 2 := by unfold rowRE; rw [if_neg h0, if_neg (by dsimp only; rw [hh]; simp), if_neg hn]
    rw [e, if_neg (by decide)]
    exact rootRow_bad s h w hs hh (fun h => hn (nameB_iff.2 h))
theorem pr_len (b : Option Addr) (len cap : Nat) (i : Int) (s : ByteArray) (h : Int) (w : World) (hb : len <= 140737488351232) (hq : lenB len = false) :
  Calls Tryz.prog 91 #[.slice b len cap, .int .i64 i, .agg #[.string s, .int .i64 h]] w (Ends w [] (errV 3)) := by
 rw [errV_pos 3 (by decide)]
 have HL := hide (fun W => isLength_any len W)
 rw [hq] at HL
 clear hq
 go_enter Tryz.func91, Tryz.ntmps91
 go_wp2_with (go_at_call 70; refine (unhide HL _).mono ?_; rintro e w1 ⟨rfl, rfl⟩)
 go_ret2
 exact ⟨none, 0, rfl, bs_nil _, (Below.refl _ _).alloc (Nat.le_refl _) _⟩
theorem pr_range (b : Option Addr) (len cap : Nat) (i : Int) (s : ByteArray) (h : Int) (w : World) (hb : len <= 140737488351232) (hq : lenB len = true) (hi : i < 0 \/ 7 < i) :
  Calls Tryz.prog 91 #[.slice b len cap, .int .i64 i, .agg #[.string s, .int .i64 h]] w (Ends w [] (errV 1)) := by
 rw [errV_pos 1 (by decide)]
 have HL := hide (fun W => isLength_any len W)
 have HI := hide (fun W => isPlace_any i W)
 rw [hq] at HL
 have hp : plcB i = false := by unfold plcB; rw [Bool.and_eq_false_iff, decide_eq_false_iff_not, decide_eq_false_iff_not]; omega
 rw [hp] at HI
 clear hq hi hp
 go_enter Tryz.func91, Tryz.ntmps91
 go_wp2_with (first | (go_at_call 70; refine (unhide HL _).mono ?_; rintro e w1 ⟨rfl, rfl⟩) | (go_at_call 115; refine (unhide HI _).mono ?_; rintro e w1 ⟨rfl, rfl⟩))
 go_ret2
 exact ⟨none, 0, rfl, bs_nil _, (Below.refl _ _).alloc (Nat.le_refl _) _⟩
set_option maxHeartbeats 1000000 in
theorem pr_row (b : Option Addr) (cap : Nat) (L : List Int) (i : Nat) (r : (ByteArray × Int)) (w : World) (hbs : Bs w b cap L) (hq : lenB L.length = true) (hi : i <= 7) (hs : r.1.size <= 140737488351232) :
  Calls Tryz.prog 91 #[.slice b L.length cap, .int .i64 i, .agg #[.string r.1, .int .i64 r.2]] w (Ends w (if rowRE r = 0 then splice L (200 + 11 * i) (rowR r) else []) (errV (rowRE r))) := by
 have HL := hide (fun W => isLength_any L.length W)
 have hlen := lenB_iff.1 hq
 have HRO := hide (rootRow_any r (w.alloc (.cells #[.string r.1, .int .i64 r.2] 65)) hs)
 have HRL := hide (fun h => rowR_len (r := r) h)
 have HP := hide (fun W => rootAt_any i W (by omega))
 have hb3 := hbs.2.2.1
 have HBS := hide hbs
 have HB0 : Hid (Below w.heap.size w (w.alloc (.cells #[.string r.1, .int .i64 r.2] 65))) := hide ((Below.refl _ _).alloc (Nat.le_refl _) _)
 have HI := hide (fun W => isPlace_any i W)
 have hp : plcB i = true := by unfold plcB; rw [Bool.and_eq_true, decide_eq_true_iff, decide_eq_true_iff]; omega
 rw [hp] at HI
 rw [hq] at HL
 clear hp
 unfold rootV at HRO
 clear hq hbs
 generalize rowR r = R at *
 generalize rowRE r = c at *
 by_cases hc : c = 0
 ·subst hc
  rw [if_pos rfl] at HRO ⊢
  rw [errV_zero] at HRO ⊢
  have hrl := unhide HRL rfl
  have HW := hide (fun (W : World) (ra : Option Addr) (rc : Nat) (h5 : Bs W b cap L) (h6 : Bs W ra rc R) => with_any b cap L (200 + 11 * i) ra rc R W h5 h6 (by intro e; rw [e] at hrl; simp at hrl) (by omega))
  have HLEN := hide (length_splice (z := L) (l := R) (off := 200 + 11 * i) (by omega))
  rw [hrl] at HW
  generalize 200 + 11 * i = p at *
  clear HRL
  go_enter Tryz.func91, Tryz.ntmps91
  go_wp2_with (first | (go_at_call 70; refine (unhide HL _).mono ?_; rintro e w1 ⟨rfl, rfl⟩) | (go_at_call 115; refine (unhide HI _).mono ?_; rintro e w1 ⟨rfl, rfl⟩))
  refine (unhide HRO).mono ?_
  rintro e w2 ⟨a2, c2, rfl, hbs2, hb2⟩
  have hB2 := (unhide HB0).trans (hb2.mono (unhide HB0).size)
  have HW2 := hide (unhide HW w2 a2 c2 ((unhide HBS).below hB2) hbs2)
  have HB2 := hide hB2
  rw [hrl]
  clear hbs2 hb2 hB2 HW HB0 HRO
  go_wp2_with (go_at_call 82; refine (unhide HP _).mono ?_; rintro e w3 ⟨rfl, hw3⟩; subst hw3)
  refine (unhide HW2).mono ?_
  rintro e w4 ⟨a4, c4, rfl, hbs4, hb4⟩
  have HB4 := hide ((unhide HB2).trans (hb4.mono (unhide HB2).size))
  have HBS4 := hide hbs4
  clear hbs4 hb4 HB2 HW2
  go_wp2
  go_ret2
  exact ⟨a4, c4, by rw [unhide HLEN]; rfl, unhide HBS4, unhide HB4⟩
 ·rw [if_neg hc] at HRO ⊢
  rw [errV_pos _ hc] at HRO ⊢
  clear HRL HP HBS hc
  go_enter Tryz.func91, Tryz.ntmps91
  go_wp2_with (first | (go_at_call 70; refine (unhide HL _).mono ?_; rintro e w1 ⟨rfl, rfl⟩) | (go_at_call 115; refine (unhide HI _).mono ?_; rintro e w1 ⟨rfl, rfl⟩))
  refine (unhide HRO).mono ?_
  rintro e w2 ⟨a2, c2, rfl, hbs2, hb2⟩
  have HB2 := hide ((unhide HB0).trans (hb2.mono (unhide HB0).size))
  clear hbs2 hb2
  go_wp2
  go_ret2
  exact ⟨none, 0, rfl, bs_nil _, unhide HB2⟩
theorem iPutRoot_any (b : Option Addr) (cap : Nat) (L : List Int) (i : Int) (r : (ByteArray × Int)) (w : World) (hbs : Bs w b cap L) (hs : r.1.size <= 140737488351232) :
  Calls Tryz.prog 91 #[.slice b L.length cap, .int .i64 i, rootV r] w (Ends w (prL L i r) (errV (prE L i r))) := by
 have hl := hbs.2.2.1
 unfold rootV
 cases hq : lenB L.length with
 | false =>
  have e : prE L i r = 3 := by unfold prE; rw [if_pos hq]
  have e2 : prL L i r = [] := by unfold prL; rw [e, if_neg (by decide)]
  rw [e, e2]
  exact pr_len b L.length cap i r.1 r.2 w hl hq
 | true =>
  by_cases hi : i < 0 \/ 7 < i
  ·have e : prE L i r = 1 := by unfold prE; rw [if_neg (by rw [hq]; simp), if_pos hi]
   have e2 : prL L i r = [] := by unfold prL; rw [e, if_neg (by decide)]
   rw [e, e2]
   exact pr_range b L.length cap i r.1 r.2 w hl hq hi
  ·have e : prE L i r = rowRE r := by unfold prE; rw [if_neg (by rw [hq]; simp), if_neg hi]
   obtain ⟨I, rfl⟩ := Int.eq_ofNat_of_zero_le (show 0 <= i by omega)
   unfold prL
   rw [e, Int.toNat_natCast]
   exact pr_row b cap L I r w hbs hq (by omega) hs
theorem roots1_any (c : Int) (w : World) : Calls Tryz.prog 84 #[.int .u8 c] w fun e w' => e = .returned (.bool (c != 0)) /\ w = w' := by
 go_enter Tryz.func84, Tryz.ntmps84
 go_wp2
 go_ret
 exact ⟨rfl, rfl⟩
set_option maxHeartbeats 400000 in
theorem indexFunc_any (a : Option Addr) (cap : Nat) (l : List Int) (w : World) (hbs : Bs w a cap l) :
  Calls Tryz.prog 108 #[.slice a l.length cap, .func (.func 84) #[] #[]] w fun e w' => e = .returned (.int .i64 (firstNz l)) /\ w = w' := by
 have hl : l.length <= 140737488351232 := hbs.2.2.1
 have HN := hide (fun k => firstNz_nat (l := l) (k := k))
 have HM := hide (firstNz_neg (l := l))
 generalize firstNz l = F at *
 go_enter Tryz.func108, Tryz.ntmps108
 go_wp2
 go_loop [5, 8] (fun _ i => ∃ k : Nat, k <= l.length /\ i = .int .i64 k /\ ∀ j, j < k -> (l.getD j 0 != 0) = false) (fun _ i => l.length - (intOf i).toNat)
 case atStart => exact ⟨0, by omega, rfl, fun j hj => absurd hj (Nat.not_lt_zero j)⟩
 case round =>
  obtain ⟨k, hk, rfl, hall⟩ := hrel
  have HA : Hid (∀ j, j < k -> (l.getD j 0 != 0) = false) := hall
  clear hall
  by_cases hlt : k < l.length
  ·obtain ⟨b, off, rfl, hcell⟩ := hbs.at k hlt
   have HC := hide (roots1_any (l.getD k 0) w)
   have HK := hide (unhide HN k hlt)
   clear hbs
   have HF := hide (fun h => First.step (f := fun j => (l.getD j 0 != 0)) (unhide HA) h)
   generalize l.getD k 0 = c at *
   cases hb : (c != 0)
   ·rw [hb] at HC
    have HS := hide (unhide HF hb)
    clear hb
    go_wp2_with (go_at_call 84; refine (unhide HC).mono ?_; rintro e w' ⟨rfl, rfl⟩)
    go_round
    case rel => exact ⟨k + 1, by omega, by go_num, unhide HS⟩
    case measure => simp [intOf]; omega
   ·rw [hb] at HC
    have HS := hide (unhide HK hb (unhide HA))
    clear hb
    go_wp2_with (go_at_call 84; refine (unhide HC).mono ?_; rintro e w' ⟨rfl, rfl⟩)
    go_ret
    exact ⟨by rw [unhide HS]; rfl, rfl⟩
  ·obtain rfl : k = l.length := by omega
   go_wp2
   go_ret
   exact ⟨by rw [unhide HM (unhide HA)]; rfl, rfl⟩
theorem contains_any (a : Option Addr) (cap : Nat) (l : List Int) (w : World) (hbs : Bs w a cap l) :
  Calls Tryz.prog 83 #[.slice a l.length cap, .func (.func 84) #[] #[]] w fun e w' => e = .returned (.bool (isRoot l)) /\ w = w' := by
 have HI := hide (indexFunc_any a cap l w hbs)
 have hv : firstNz l = -1 /\ isRoot l = false \/ 0 <= firstNz l /\ isRoot l = true := by
  unfold firstNz
  cases isRoot l with
  | true => rw [if_pos rfl]; exact .inr ⟨by omega, rfl⟩
  | false => rw [if_neg (by simp)]; exact .inl ⟨rfl, rfl⟩
 generalize firstNz l = F at *
 generalize isRoot l = R at *
 generalize l.length = N at *
 rcases hv with ⟨rfl, rfl⟩ | ⟨h, rfl⟩
 all_goals
  go_enter Tryz.func83, Tryz.ntmps83
  go_wp2_with (go_at_call 108; refine (unhide HI).mono ?_; rintro e w1 ⟨rfl, rfl⟩)
  go_ret
  exact ⟨rfl, rfl⟩
theorem size_root : (Tryz.prog.info? 65).map (·.size) = some 2 := by kernel_rfl
theorem RoB.set {w : World} {g : Nat} {r : (ByteArray × Int)} (h : RoB w g r) (s : ByteArray) (x : Int) : RoB ((w.setCell ⟨g, 0, none⟩ (.string s)).setCell ⟨g, 1, none⟩ (.int .i64 x)) g (s, x) := by
 have h1 := heap_setCell_same w g 0 _ _ (.string s) h
 exact heap_setCell_same _ g 1 _ _ (.int .i64 x) h1
set_option maxHeartbeats 1000000 in
theorem rootOf_any (a : Option Addr) (cap : Nat) (r : List Int) (w : World) (hb : Bs w a cap r) (h11 : r.length = 11) :
  Calls Tryz.prog 85 #[.slice a 11 cap] w fun e w' => e = .returned (.agg #[.string (rootOf r).1, .int .i64 (rootOf r).2]) /\ Below w.heap.size w w' := by
 have hb0 : Below w.heap.size w (w.alloc (.cells #[.string { data := #[] }, .int .i64 0] 65)) := (Below.refl _ _).alloc (Nat.le_refl _) _
 have hb1 := hb.below hb0
 obtain ⟨a', hhi, hb2⟩ := slice_hi (P := Tryz.prog) (t := 22) Tryz.underlying22 size_u8 hb1 8 (by omega)
 rw [h11, show ((8 : Nat) : Int) = 8 from rfl] at hhi
 have h8 : (r.take 8).length = 8 := by rw [List.length_take]; omega
 have HG := hide (getName_any a' cap (r.take 8) _ hb2)
 rw [h8] at HG
 have HN := hide (RoB.new w (({ data := #[] } : ByteArray), 0))
 have HBS := hide hb
 have HB0 := hide hb0
 unfold rootOf
 dsimp only
 generalize (readOut (r.take 8)).1 = s at *
 generalize (readOut (r.take 8)).2 = c at *
 generalize hx : r.getD 10 0 = x
 have HX := hide hx
 clear hb hb1 hb2 hb0 hx
 go_enter Tryz.func85, Tryz.ntmps85
 go_wp2_with fail
 refine (unhide HG).mono ?_
 rintro e w1 ⟨rfl, hb1⟩
 have hro := (unhide HN).below hb1 (by simp)
 obtain ⟨c0, c1⟩ := hro.cells
 have f0 := frozen_of_row _ _ 0 _ _ hro
 have f1 := frozen_of_row _ _ 1 _ _ hro
 have hB1 := (unhide HB0).trans (hb1.mono (unhide HB0).size)
 have hbs1 := (unhide HBS).below hB1
 obtain ⟨b, off, rfl, hcell⟩ := hbs1.at 10 (by omega)
 have hbd := hbs1.1.getD 10
 have HRO := hide hro
 have HB1 := hide hB1
 dsimp only at c0 c1
 clear hro hB1 hbs1 hb1 HB0 HN HG HBS
 rw [unhide HX] at hcell hbd
 go_wp2
 refine bodyPost_ret (results_cell_row rfl _ _ w.heap.size 65 _ (0, 0) _ rfl ((unhide HRO).set s x) Tryz.underlying65 rfl (by rw [size_root]; rfl)) rfl ?_
 exact ⟨rfl, ((unhide HB1).setCell (Nat.le_refl _) _).setCell (Nat.le_refl _) _⟩
theorem iRoots_no (a : Option Addr) (len cap : Nat) (w : World) (hl : len <= 140737488351232) (hq : lenB len = false) :
  Calls Tryz.prog 53 #[.slice a len cap] w fun e w' => e = .returned (.tuple #[.slice none 0 0, errV 3]) /\ w = w' := by
 rw [errV_pos 3 (by decide)]
 have HL := hide (fun W => isLength_any len W)
 rw [hq] at HL
 clear hq
 go_enter Tryz.func53, Tryz.ntmps53
 go_wp2_with (go_at_call 70; refine (unhide HL _).mono ?_; rintro e w1 ⟨rfl, rfl⟩)
 go_ret2
 exact ⟨rfl, rfl⟩
theorem rootsK_yes {l : List Int} {k : Nat} (ht : isRoot (rowAt l k) = true) : rootsK l (k + 1) = rootsK l k ++ [rootOf (rowAt l k)] := by
 show rootsK l k ++ _ = _
 rw [if_pos ht]
theorem rootsK_no {l : List Int} {k : Nat} (ht : isRoot (rowAt l k) = false) : rootsK l (k + 1) = rootsK l k := by
 show rootsK l k ++ _ = _
 rw [if_neg (by rw [ht]; simp), List.append_nil]
set_option maxRecDepth 100000 in
set_option maxHeartbeats 2000000 in
theorem iRoots_yes (a : Option Addr) (cap : Nat) (l : List Int) (w : World) (hb : Bs w a cap l) (hq : lenB l.length = true) :
  Calls Tryz.prog 53 #[.slice a l.length cap] w fun e w' => ∃ v, e = .returned (.tuple #[v, .nilIface]) /\ Lst roC 2 65 w' w.heap.size v (rootsK l 8) /\ Below w.heap.size w w' := by
 have HL := hide (fun W => isLength_any l.length W)
 have hl := lenB_iff.1 hq
 rw [hq] at HL
 clear hq
 obtain ⟨i0, hi0, hz0, hz1, hz2⟩ := info_parts info_root
 have HB := hide hb
 have hbl := hb.2.2.1
 clear hb
 go_enter Tryz.func53, Tryz.ntmps53
 go_wp2_with (go_at_call 70; refine (unhide HL _).mono ?_; rintro e w1 ⟨rfl, rfl⟩)
 go_loopw [4, 12] (fun v hv wr => ∃ k : Nat, k <= 8 /\ hv = .int .i64 k /\ Lst roC 2 65 wr w.heap.size v (rootsK l k) /\ Below w.heap.size w wr) (fun _ hv _ => 8 - (intOf hv).toNat)
 case atStart => exact ⟨0, by omega, rfl, Lst.nil _ _, Below.refl _ _⟩
 case round =>
  obtain ⟨k, hk, rfl, hown, hbel⟩ := hrel
  obtain ⟨va, vm, vc, rfl⟩ := hown.shape
  by_cases hlt : k < 8
  ·have hbs := (unhide HB).below hbel
   have HP1 := hide (rootAt_any k wr (by omega))
   have HP2 := hide (rootAt_any (k + 1) wr (by omega))
   have ek : ((k + 1 : Nat) : Int) = (k : Int) + 1 := by omega
   rw [ek] at HP2
   obtain ⟨a', hlh, hb2⟩ := slice_lohi (P := Tryz.prog) (t := 22) Tryz.underlying22 size_u8 hbs (200 + 11 * k) (200 + 11 * (k + 1)) (by omega) (by omega)
   have e11 : 200 + 11 * (k + 1) - (200 + 11 * k) = 11 := by omega
   rw [e11] at hlh hb2
   have hr11 : (rowAt l k).length = 11 := rowAt_len (by omega)
   have HC := hide (contains_any a' (cap - (200 + 11 * k)) (rowAt l k) wr hb2)
   have HR := hide (rootOf_any a' (cap - (200 + 11 * k)) (rowAt l k) wr hb2 hr11)
   rw [hr11] at HC
   have HO := hide hown
   have HBEL := hide hbel
   have hp1 : (200 + 11 * k : Nat) <= l.length := by omega
   clear hown hbel hbs hb2 hr11 e11 ek
   generalize 200 + 11 * (k + 1) = p2 at *
   generalize 200 + 11 * k = p1 at *
   by_cases ht : isRoot (rowAt l k) = true
   ·rw [ht] at HC
    have HE := hide (rootsK_yes ht)
    have HLN := hide (rootsK_len l k)
    clear ht
    generalize hent : rootOf (rowAt l k) = ent at *
    clear hent
    obtain ⟨s, x⟩ := ent
    dsimp only at HR
    go_wp2_with (first | (go_at_call 82; refine (unhide HP1).mono ?_; rintro e w1 ⟨rfl, hw1⟩; subst hw1) | (go_at_call 82; refine (unhide HP2).mono ?_; rintro e w1 ⟨rfl, hw1⟩; subst hw1) | (go_at_call 83; refine (unhide HC).mono ?_; rintro e w1 ⟨rfl, hw1⟩; subst hw1))
    refine (unhide HR).mono ?_
    rintro e w1 ⟨rfl, hb1⟩
    have hB1 := (unhide HBEL).trans (hb1.mono (unhide HBEL).size)
    have HB3 := hide (hB1.alloc hB1.size (.cells #[.string s, .int .i64 x] 65))
    have HO3 := hide (((unhide HO).below hb1).below ((Below.refl _ _).alloc (Nat.le_refl _) (.cells #[.string s, .int .i64 x] 65)))
    have hsz := (unhide HBEL).size
    have hsz1 := hb1.size
    have HGN : Hid ((w1.alloc (.cells #[.string s, .int .i64 x] 65)).heap[w1.heap.size]? = some (.cells (roC (s, x)).toArray 65 (0, 0))) := hide (heap_alloc_new w1 _)
    clear hb1 hB1 HO HBEL HR HC
    go_wp2_with (at_builtin; refine wpList_append_lst rfl _ _ 62 rfl w.heap.size i0 (.agg #[.string ByteArray.empty, .int .i64 0]) 24 Tryz.underlying62 hi0 hz0 hz1 hz2 rfl (by decide) (by decide) _ _ rfl (unhide HO3) w1.heap.size (s, x) rfl (unhide HGN) rfl (roC_one _) (Nat.le_trans (unhide HLN) (by omega)) (by simp; omega) ?_)
    intro v9 w9 hown9 hbel9
    have HO9 := hide hown9
    have HB9 := hide ((unhide HB3).trans hbel9)
    obtain ⟨a9, m9, c9, rfl⟩ := hown9.shape
    clear hown9 hbel9 HO3 HB3 HGN
    go_wp2
    go_roundw
    case rel => exact ⟨k + 1, by omega, by go_num, by rw [unhide HE]; exact unhide HO9, unhide HB9⟩
    case measure => simp [intOf]; omega
   ·have ht' : isRoot (rowAt l k) = false := by simpa using ht
    rw [ht'] at HC
    have HE := hide (rootsK_no ht')
    clear ht ht' HR
    go_wp2_with (first | (go_at_call 82; refine (unhide HP1).mono ?_; rintro e w1 ⟨rfl, hw1⟩; subst hw1) | (go_at_call 82; refine (unhide HP2).mono ?_; rintro e w1 ⟨rfl, hw1⟩; subst hw1) | (go_at_call 83; refine (unhide HC).mono ?_; rintro e w1 ⟨rfl, hw1⟩; subst hw1))
    go_roundw
    case rel => exact ⟨k + 1, by omega, by go_num, by rw [unhide HE]; exact unhide HO, unhide HBEL⟩
    case measure => simp [intOf]; omega
  ·obtain rfl : k = 8 := by omega
   have HO := hide hown
   have HBEL := hide hbel
   clear hown hbel
   go_wp2
   go_ret2
   exact ⟨_, rfl, unhide HO, unhide HBEL⟩
theorem iRoots_any (a : Option Addr) (cap : Nat) (l : List Int) (w : World) (hb : Bs w a cap l) :
  Calls Tryz.prog 53 #[.slice a l.length cap] w fun e w' => ∃ v, e = .returned (.tuple #[v, errV (lenE l.length)]) /\ Lst roC 2 65 w' w.heap.size v (roots l) /\ Below w.heap.size w w' := by
 unfold lenE roots
 cases hq : lenB l.length with
 | true =>
  rw [if_pos rfl, if_pos rfl, errV_zero]
  exact iRoots_yes a cap l w hb hq
 | false =>
  rw [if_neg (by simp), if_neg (by simp)]
  exact (iRoots_no a l.length cap w hb.2.2.1 hq).mono fun e w' ⟨he, hw⟩ => ⟨_, he, Lst.nil _ _, by rw [hw]; exact Below.refl _ _⟩
end Go.Proofs.YtifmemombecoaaaGreatDoor
