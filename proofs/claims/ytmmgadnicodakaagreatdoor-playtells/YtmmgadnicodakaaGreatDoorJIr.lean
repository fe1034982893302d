/-
  Joined by program: IrA; IrB; IrC. (Parts of the proofs over the packages of the program.)
-/
import Derived.Test.YtmmgadnicodakaaGreatDoorJIn
import Derived.Test.YtmmgadnicodakaaGreatDoorJRef
import Derived.Test.YtmmgadnicodakaaGreatDoorJIm
namespace Go.Proofs.YtmmgadnicodakaaGreatDoor
open Go.RowKit
set_option linter.unusedVariables false
set_option maxHeartbeats 1000000 in
theorem rEntry_any (a : Option Addr) (cap : Nat) (l : List Int) (h : Int) (w : World) (hb : Bs w a cap l) (hl : 288 ≤ l.length) (h1 : 1 ≤ h) (h2 : h ≤ 40) :
  Calls Tryz.prog 53 #[.slice a l.length cap, .int .i64 h] w fun e w' => e = .returned (.tuple #[entV (entOf l h), .bool (tagAt l h != 0)]) ∧ Below w.heap.size w w' := by
 have hp := plc_le h1 h2
 have hpe : ((plc h : Nat) : Int) = 5 * (h - 1) := by unfold plc; omega
 obtain ⟨a1, hs1, hb1⟩ := slice_lohi (P := Tryz.prog) (t := 33) Tryz.underlying33 size_u8 hb (plc h + 1) (plc h + 3) (by omega) (by omega)
 obtain ⟨a2, hs2, hb2⟩ := slice_lohi (P := Tryz.prog) (t := 33) Tryz.underlying33 size_u8 hb (plc h + 3) (plc h + 5) (by omega) (by omega)
 have e1 : plc h + 3 - (plc h + 1) = 2 := by omega
 have e2 : plc h + 5 - (plc h + 3) = 2 := by omega
 rw [e1] at hs1 hb1
 rw [e2] at hs2 hb2
 have l1 : ((l.drop (plc h + 1)).take 2).length = 2 := by simp; omega
 have l2 : ((l.drop (plc h + 3)).take 2).length = 2 := by simp; omega
 have HN1 := hide (fun (W : World) (hW : Below w.heap.size w W) => rNumber a1 _ _ W (hb1.below hW) (by omega))
 have HN2 := hide (fun (W : World) (hW : Below w.heap.size w W) => rNumber a2 _ _ W (hb2.below hW) (by omega))
 rw [l1] at HN1
 rw [l2] at HN2
 have g1 : numOf ((l.drop (plc h + 1)).take 2) = getV l (plc h + 1) 2 := rfl
 have g2 : numOf ((l.drop (plc h + 3)).take 2) = getV l (plc h + 3) 2 := rfl
 rw [g1] at HN1
 rw [g2] at HN2
 obtain ⟨b, off, rfl, hcell⟩ := hb.at (plc h) (by omega)
 have hblt := block_lt_of_cell hcell
 dsimp only at hblt
 have h3 := hb.2.2.1
 have hbd : 0 ≤ tagAt l h ∧ tagAt l h ≤ 255 := hb.1.getD (plc h)
 have ht : l.getD (plc h) 0 = tagAt l h := rfl
 rw [ht] at hcell
 have hcell' : w.cell? ⟨b, off + (5 * (h - 1)).toNat, none⟩ = some (.int .u8 (tagAt l h)) := hcell
 unfold entOf
 have q1 : ((plc h + 1 : Nat) : Int) = (plc h : Int) + 1 := by omega
 have q3 : ((plc h + 3 : Nat) : Int) = (plc h : Int) + 3 := by omega
 have q5 : ((plc h + 5 : Nat) : Int) = (plc h : Int) + 5 := by omega
 rw [q1, q3, hpe] at hs1
 rw [q3, q5, hpe] at hs2
 have hmore : 5 * (h - 1) < (l.length : Int) := by omega
 clear hcell hb hb1 hb2 l1 l2 g1 g2 e1 e2 ht q1 q3 q5
 generalize getV l (plc h + 1) 2 = x at *
 generalize getV l (plc h + 3) 2 = y at *
 generalize tagAt l h = t at *
 generalize plc h = p at *
 generalize l.length = N at *
 go_enter Tryz.func53, Tryz.ntmps53
 go_wp2_with fail
 refine (unhide HN1 _ (((Below.refl _ w).alloc (Nat.le_refl _) _).alloc (by simp) _)).mono ?_
 rintro e w1 ⟨rfl, hw1⟩
 subst hw1
 go_wp2_with fail
 refine (unhide HN2 _ (((Below.refl _ w).alloc (Nat.le_refl _) _).alloc (by simp) _)).mono ?_
 rintro e w1 ⟨rfl, hw1⟩
 subst hw1
 go_wp2_with fail
 go_region
 go_wp2
 have hbl : Below (w.alloc (.cells #[.int .i64 h, .int .i64 x, .int .i64 y, .int .i64 (t - 1)] 104)).heap.size (w.alloc (.cells #[.int .i64 h, .int .i64 x, .int .i64 y, .int .i64 (t - 1)] 104)) (((w.alloc (.cells #[.int .i64 h, .int .i64 x, .int .i64 y, .int .i64 (t - 1)] 104)).alloc (.cells #[.int .i64 h, .int .i64 x, .int .i64 y, .int .i64 (t - 1)] 104)).drew) := ((Below.refl _ _).alloc (Nat.le_refl _) _).drew
 refine bodyPost_ret (results_ent Tryz.results53 _ _ w.heap.size (h, x, y, t - 1) rfl ((EnB.new w (h, x, y, t - 1)).below hbl (by simp))) rfl ?_
 exact ⟨rfl, ((Below.refl _ w).alloc (Nat.le_refl _) _).trans (hbl.mono (by simp))⟩
set_option maxRecDepth 100000 in
set_option maxHeartbeats 2000000 in
theorem rEnts_any (a : Option Addr) (cap : Nat) (l : List Int) (w : World) (hb : Bs w a cap l) (hl : 288 ≤ l.length) :
  Calls Tryz.prog 15 #[.slice a l.length cap] w fun e w' => ∃ v, e = .returned v ∧ Lst enC 4 104 w' w.heap.size v (entsK l 40) ∧ Below w.heap.size w w' := by
 obtain ⟨i0, hi0, hz0, hz1, hz2⟩ := info_parts info_ent
 have HB := hide hb
 have hbl := hb.2.2.1
 clear hb
 go_enter Tryz.func15, Tryz.ntmps15
 go_wp2_with fail
 go_loopw [3, 4] (fun v hv wr => ∃ k : Nat, k ≤ 40 ∧ hv = .int .i64 ((k : Int) + 1) ∧ Lst enC 4 104 wr w.heap.size v (entsK l k) ∧ Below w.heap.size w wr) (fun _ hv _ => 41 - (intOf hv).toNat)
 case atStart => exact ⟨0, by omega, rfl, Lst.nil _ _, Below.refl _ _⟩
 case round =>
  obtain ⟨k, hk, rfl, hown, hbel⟩ := hrel
  obtain ⟨va, vm, vc, rfl⟩ := hown.shape
  by_cases hlt : k < 40
  ·have hbs := (unhide HB).below hbel
   have HG := hide (rEntry_any a cap l ((k : Int) + 1) wr hbs hl (by omega) (by omega))
   have HEY := hide (fun ht => entsK_yes (l := l) (k := k) ht)
   have HEN := hide (fun ht => entsK_no (l := l) (k := k) ht)
   have HLN := hide (entsK_len l k)
   have HO := hide hown
   have HBEL := hide hbel
   clear hown hbel hbs
   generalize hent : entOf l ((k : Int) + 1) = ent at *
   clear hent
   obtain ⟨x, y, z, t⟩ := ent
   unfold entV at HG
   dsimp only at HG
   have hsz := (unhide HBEL).size
   by_cases ht : tagAt l ((k : Int) + 1) = 0
   ·have HE := hide (unhide HEN ht)
    rw [ht] at HG
    clear ht HEY HEN
    go_wp2_with fail
    refine (unhide HG).mono ?_
    rintro e w1 ⟨rfl, hb1⟩
    have hB1 := (unhide HBEL).trans (hb1.mono (unhide HBEL).size)
    have HB2 := hide (hB1.alloc hB1.size (.cells #[.int .i64 x, .int .i64 y, .int .i64 z, .int .i64 t] 104))
    have HO2 := hide (((unhide HO).below hb1).below ((Below.refl _ _).alloc (Nat.le_refl _) (.cells #[.int .i64 x, .int .i64 y, .int .i64 z, .int .i64 t] 104)))
    clear hb1 hB1 HO HBEL HG
    go_wp2
    go_roundw
    case rel => exact ⟨k + 1, by omega, by go_num, by rw [unhide HE]; exact unhide HO2, unhide HB2⟩
    case measure => simp [intOf]; omega
   ·have HE := hide (unhide HEY ht)
    rw [bne_iff_ne.2 ht] at HG
    clear ht HEY HEN
    go_wp2_with fail
    refine (unhide HG).mono ?_
    rintro e w1 ⟨rfl, hb1⟩
    have hB1 := (unhide HBEL).trans (hb1.mono (unhide HBEL).size)
    have hB2 := hB1.alloc hB1.size (.cells #[.int .i64 x, .int .i64 y, .int .i64 z, .int .i64 t] 104)
    have HB3 := hide (hB2.alloc hB2.size (.cells #[.int .i64 x, .int .i64 y, .int .i64 z, .int .i64 t] 104))
    have HO3 := hide ((((unhide HO).below hb1).below ((Below.refl _ _).alloc (Nat.le_refl _) (.cells #[.int .i64 x, .int .i64 y, .int .i64 z, .int .i64 t] 104))).below ((Below.refl _ _).alloc (Nat.le_refl _) (.cells #[.int .i64 x, .int .i64 y, .int .i64 z, .int .i64 t] 104)))
    have hsz1 := hb1.size
    have HGN : Hid (((w1.alloc (.cells #[.int .i64 x, .int .i64 y, .int .i64 z, .int .i64 t] 104)).alloc (.cells #[.int .i64 x, .int .i64 y, .int .i64 z, .int .i64 t] 104)).heap[w1.heap.size + 1]? = some (.cells (enC (x, y, z, t)).toArray 104 (0, 0))) := hide (by
     have := heap_alloc_new (w1.alloc (.cells #[.int .i64 x, .int .i64 y, .int .i64 z, .int .i64 t] 104)) (.cells #[.int .i64 x, .int .i64 y, .int .i64 z, .int .i64 t] 104)
     rw [sz_alloc] at this
     exact this)
    clear hb1 hB1 hB2 HO HBEL HG
    go_wp2_with (at_builtin; refine wpList_append_lst rfl _ _ 28 rfl w.heap.size i0 (.agg #[.int .i64 0, .int .i64 0, .int .i64 0, .int .i64 0]) 32 Tryz.underlying28 hi0 hz0 hz1 hz2 rfl (by decide) (by decide) _ _ rfl (unhide HO3) (w1.heap.size + 1) (x, y, z, t) rfl (unhide HGN) rfl (enC_one _) (Nat.le_trans (unhide HLN) (by omega)) (by simp; omega) ?_)
    intro v9 w9 hown9 hbel9
    have HO9 := hide hown9
    have HB9 := hide ((unhide HB3).trans hbel9)
    obtain ⟨a9, m9, c9, rfl⟩ := hown9.shape
    clear hown9 hbel9 HO3 HB3 HGN
    go_wp2
    go_roundw
    case rel => exact ⟨k + 1, by omega, by go_num, by rw [unhide HE]; exact unhide HO9, unhide HB9⟩
    case measure => simp [intOf]; omega
  ·obtain rfl : k = 40 := by omega
   have HO := hide hown
   have HBEL := hide hbel
   clear hown hbel
   go_wp2
   go_ret
   exact ⟨_, rfl, unhide HO, unhide HBEL⟩
end Go.Proofs.YtmmgadnicodakaaGreatDoor
namespace Go.Proofs.YtmmgadnicodakaaGreatDoor
open Go.RowKit
set_option linter.unusedVariables false
end Go.Proofs.YtmmgadnicodakaaGreatDoor
namespace Go.Proofs.YtmmgadnicodakaaGreatDoor
open Go.RowKit
set_option linter.unusedVariables false
theorem rRootAt_any (a : Option Addr) (cap : Nat) (l : List Int) (k : Nat) (w : World) (hb : Bs w a cap l) (hl : 288 ≤ l.length) (hl2 : l.length ≤ 6400) (hk : k < 8) :
  Calls Tryz.prog 54 #[.slice a l.length cap, .int .i64 k] w fun e w' => ∃ a' c', e = .returned (.slice a' 11 c') ∧ Bs w a' c' (rowAt l k) ∧ w = w' := by
 obtain ⟨a', hs, hb'⟩ := slice_lohi (P := Tryz.prog) (t := 33) Tryz.underlying33 size_u8 hb (200 + 11 * k) (211 + 11 * k) (by omega) (by omega)
 have e1 : 211 + 11 * k - (200 + 11 * k) = 11 := by omega
 rw [e1] at hs hb'
 have q1 : ((200 + 11 * k : Nat) : Int) = 200 + 11 * (k : Int) := by omega
 have q2 : ((211 + 11 * k : Nat) : Int) = 211 + 11 * (k : Int) := by omega
 rw [q1, q2] at hs
 have HB := hide hb'
 clear hb hb' q1 q2 e1
 go_enter Tryz.func54, Tryz.ntmps54
 go_wp2
 go_ret
 exact ⟨a', _, rfl, unhide HB, rfl⟩
theorem isRoot_at {l : List Int} {k : Nat} (hk : k < l.length) (h : l.getD k 0 ≠ 0) : isRoot l = true := by
 unfold isRoot
 refine List.any_eq_true.2 ⟨l.getD k 0, ?_, bne_iff_ne.2 h⟩
 have : l.getD k 0 = l[k] := by simp [List.getD, hk]
 rw [this]
 exact List.getElem_mem hk
theorem isRoot_not {l : List Int} (h : ∀ j, j < l.length → l.getD j 0 = 0) : isRoot l = false := by
 unfold isRoot
 rw [List.any_eq_false]
 intro x hx
 obtain ⟨j, hj, rfl⟩ := List.getElem_of_mem hx
 have := h j hj
 rw [show l.getD j 0 = l[j] by simp [List.getD, hj]] at this
 rw [this]; simp
theorem rZero_any (a : Option Addr) (cap : Nat) (l : List Int) (w : World) (hb : Bs w a cap l) :
  Calls Tryz.prog 55 #[.slice a l.length cap] w fun e w' => e = .returned (.bool (!isRoot l)) ∧ w = w' := by
 have hn : l.length ≤ 140737488351232 := hb.2.2.1
 have HB := hide hb
 have HY := hide (fun k => isRoot_at (l := l) (k := k))
 have HN := hide (isRoot_not (l := l))
 generalize isRoot l = R at *
 clear hb
 go_enter Tryz.func55, Tryz.ntmps55
 go_wp2_with fail
 go_loop [3] (fun v => ∃ k : Nat, k ≤ l.length ∧ v = .int .i64 k ∧ ∀ j, j < k → l.getD j 0 = 0) (fun v => l.length - (intOf v).toNat)
 case atStart => exact ⟨0, by omega, rfl, fun j hj => absurd hj (Nat.not_lt_zero j)⟩
 case round =>
  obtain ⟨k, hk, rfl, hall⟩ := hrel
  by_cases hlt : k < l.length
  ·obtain ⟨b, off, rfl, hc⟩ := (unhide HB).at k hlt
   have HA := hide (fun (h : l.getD k 0 = 0) (j : Nat) (hj : j < k + 1) => show l.getD j 0 = 0 from by
    by_cases e : j = k
    ·rw [e]; exact h
    ·exact hall j (by omega))
   have HY2 := hide (unhide HY k hlt)
   clear hall HY
   generalize l.getD k 0 = c at *
   by_cases hz : c = 0
   ·subst hz
    go_wp2
    go_round
    case rel => exact ⟨k + 1, by omega, by go_num, unhide HA rfl⟩
    case measure => simp [intOf]; omega
   ·have HR := hide (unhide HY2 hz)
    go_wp2
    go_ret
    exact ⟨by rw [unhide HR]; rfl, rfl⟩
  ·obtain rfl : k = l.length := by omega
   have HR := hide (unhide HN hall)
   clear hall
   go_wp2
   go_ret
   exact ⟨by rw [unhide HR]; rfl, rfl⟩
set_option maxRecDepth 100000 in
set_option maxHeartbeats 2000000 in
theorem rRoots_any (a : Option Addr) (cap : Nat) (l : List Int) (w : World) (hb : Bs w a cap l) (hl : 288 ≤ l.length) (hl2 : l.length ≤ 6400) :
  Calls Tryz.prog 17 #[.slice a l.length cap] w fun e w' => ∃ v, e = .returned v ∧ Lst roC 2 108 w' w.heap.size v (rootsK l 8) ∧ Below w.heap.size w w' := by
 obtain ⟨i0, hi0, hz0, hz1, hz2⟩ := info_parts info_root
 have HB := hide hb
 have hbl := hb.2.2.1
 clear hb
 go_enter Tryz.func17, Tryz.ntmps17
 go_wp2_with fail
 go_loopw [3, 4] (fun v hv wr => ∃ k : Nat, k ≤ 8 ∧ hv = .int .i64 k ∧ Lst roC 2 108 wr w.heap.size v (rootsK l k) ∧ Below w.heap.size w wr) (fun _ hv _ => 8 - (intOf hv).toNat)
 case atStart => exact ⟨0, by omega, rfl, Lst.nil _ _, Below.refl _ _⟩
 case round =>
  obtain ⟨k, hk, rfl, hown, hbel⟩ := hrel
  obtain ⟨va, vm, vc, rfl⟩ := hown.shape
  by_cases hlt : k < 8
  ·have hbs := (unhide HB).below hbel
   have HG := hide (rRootAt_any a cap l k wr hbs hl hl2 hlt)
   have hr11 : (rowAt l k).length = 11 := rowAt_len (by omega)
   have HEY := hide (fun ht => rootsK_yes (l := l) (k := k) ht)
   have HEN := hide (fun ht => rootsK_no (l := l) (k := k) ht)
   have HLN := hide (rootsK_len l k)
   have HO := hide hown
   have HBEL := hide hbel
   have hsz := (unhide HBEL).size
   clear hown hbel hbs
   generalize rowAt l k = r at *
   go_wp2_with fail
   refine (unhide HG).mono ?_
   rintro e w1 ⟨a1, c1, rfl, hb1, hw1⟩
   subst hw1
   have HZ := hide (rZero_any a1 c1 r wr hb1)
   rw [hr11] at HZ
   have HB1 := hide hb1
   clear hb1 HG
   by_cases ht : isRoot r = true
   ·have HE := hide (unhide HEY ht)
    rw [ht] at HZ
    obtain ⟨a2, hhi, hb2⟩ := slice_hi (P := Tryz.prog) (t := 33) Tryz.underlying33 size_u8 (unhide HB1) 8 (by omega)
    rw [hr11, show ((8 : Nat) : Int) = 8 from rfl] at hhi
    have h8 : (r.take 8).length = 8 := by rw [List.length_take]; omega
    have HRD := hide (rRead_any a2 c1 (r.take 8) wr hb2)
    rw [h8] at HRD
    obtain ⟨b, off, rfl, hcell⟩ := (unhide HB1).at 10 (by omega)
    have hbd := (unhide HB1).1.getD 10
    unfold rootOf at HE
    clear ht HEY HEN hb2 h8 HB1
    generalize (readOut (r.take 8)).1 = s at *
    generalize (readOut (r.take 8)).2 = cc at *
    generalize r.getD 10 0 = x at *
    have HB3 := hide ((unhide HBEL).alloc (unhide HBEL).size (.cells #[.string s, .int .i64 x] 108))
    have HO3 := hide ((unhide HO).below ((Below.refl _ _).alloc (Nat.le_refl _) (.cells #[.string s, .int .i64 x] 108)))
    have HGN : Hid ((wr.alloc (.cells #[.string s, .int .i64 x] 108)).heap[wr.heap.size]? = some (.cells (roC (s, x)).toArray 108 (0, 0))) := hide (heap_alloc_new wr _)
    clear HO HBEL
    go_wp2_with (first | (go_at_call 55; refine (unhide HZ).mono ?_; rintro e w2 ⟨rfl, hw2⟩; subst hw2) | (go_at_call 56; refine (unhide HRD).mono ?_; rintro e w2 ⟨rfl, hw2⟩; subst hw2) | (at_builtin; refine wpList_append_lst rfl _ _ 29 rfl w.heap.size i0 (.agg #[.string ByteArray.empty, .int .i64 0]) 24 Tryz.underlying29 hi0 hz0 hz1 hz2 rfl (by decide) (by decide) _ _ rfl (unhide HO3) wr.heap.size (s, x) rfl (unhide HGN) rfl (roC_one _) (Nat.le_trans (unhide HLN) (by omega)) (by simp; omega) ?_))
    intro v9 w9 hown9 hbel9
    have HO9 := hide hown9
    have HB9 := hide ((unhide HB3).trans hbel9)
    obtain ⟨a9, m9, c9, rfl⟩ := hown9.shape
    clear hown9 hbel9 HO3 HB3 HGN
    go_wp2
    go_roundw
    case rel => exact ⟨k + 1, by omega, by go_num, by rw [unhide HE]; exact unhide HO9, unhide HB9⟩
    case measure => simp [intOf]; omega
   ·have ht' : isRoot r = false := by simpa using ht
    have HE := hide (unhide HEN ht')
    rw [ht'] at HZ
    clear ht ht' HEY HEN HB1
    go_wp2_with (go_at_call 55; refine (unhide HZ).mono ?_; rintro e w2 ⟨rfl, hw2⟩; subst hw2)
    go_roundw
    case rel => exact ⟨k + 1, by omega, by go_num, by rw [unhide HE]; exact unhide HO, unhide HBEL⟩
    case measure => simp [intOf]; omega
  ·obtain rfl : k = 8 := by omega
   have HO := hide hown
   have HBEL := hide hbel
   clear hown hbel
   go_wp2
   go_ret
   exact ⟨_, rfl, unhide HO, unhide HBEL⟩
end Go.Proofs.YtmmgadnicodakaaGreatDoor
