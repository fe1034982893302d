/-
  Contracts of the reference: whether there may be so many bytes, a handle, its entry. (Part of the proofs over package image.)
-/
import Derived.Test.YtccailoccgbehaaDoorImF
import Derived.Test.YtccailoccgbehaaDoorRefNumA
namespace Go.Proofs.YtccailoccgbehaaDoor
open Go.RowKit
set_option linter.unusedVariables false

theorem rImage_any (n : Int) (w : World) :
    Calls Tryd.prog 5 #[.int .i64 n] w fun e w' => e = .returned (.bool (lenB n)) ∧ w = w' := by
  unfold lenB
  by_cases h1 : 288 ≤ n
  · rw [decide_eq_true h1, Bool.true_and]
    go_enter Tryd.func5, Tryd.ntmps5
    go_wp2
    go_ret
    exact ⟨rfl, rfl⟩
  · rw [decide_eq_false h1, Bool.false_and]
    go_enter Tryd.func5, Tryd.ntmps5
    go_wp2
    go_ret
    exact ⟨rfl, rfl⟩
theorem rHandle_any (n : Int) (w : World) :
    Calls Tryd.prog 18 #[.int .i64 n] w fun e w' => e = .returned (.bool (hndB n)) ∧ w = w' := by
  unfold hndB
  by_cases h1 : 1 ≤ n
  · rw [decide_eq_true h1, Bool.true_and]
    go_enter Tryd.func18, Tryd.ntmps18
    go_wp2
    go_ret
    exact ⟨rfl, rfl⟩
  · rw [decide_eq_false h1, Bool.false_and]
    go_enter Tryd.func18, Tryd.ntmps18
    go_wp2
    go_ret
    exact ⟨rfl, rfl⟩

set_option maxHeartbeats 1000000 in
theorem rEntry_any (a : Option Addr) (cap : Nat) (l : List Int) (h : Int) (w : World) (hb : Bs w a cap l) (hl : 288 ≤ l.length) (h1 : 1 ≤ h) (h2 : h ≤ 40) :
    Calls Tryd.prog 19 #[.slice a l.length cap, .int .i64 h] w fun e w' => e = .returned (.tuple #[entV (entOf l h), .bool (tagAt l h != 0)]) ∧ Below w.heap.size w w' := by
  have hp := plc_le h1 h2
  have hpe : ((plc h : Nat) : Int) = 5 * (h - 1) := by unfold plc; omega
  obtain ⟨a1, hs1, hb1⟩ := slice_lohi (P := Tryd.prog) (t := 22) Tryd.underlying22 size_u8 hb (plc h + 1) (plc h + 3) (by omega) (by omega)
  obtain ⟨a2, hs2, hb2⟩ := slice_lohi (P := Tryd.prog) (t := 22) Tryd.underlying22 size_u8 hb (plc h + 3) (plc h + 5) (by omega) (by omega)
  have e1 : plc h + 3 - (plc h + 1) = 2 := by omega
  have e2 : plc h + 5 - (plc h + 3) = 2 := by omega
  rw [e1] at hs1 hb1
  rw [e2] at hs2 hb2
  have l1 : ((l.drop (plc h + 1)).take 2).length = 2 := by simp; omega
  have l2 : ((l.drop (plc h + 3)).take 2).length = 2 := by simp; omega
  have HN1 := hide (fun (W : World) (hW : Below w.heap.size w W) => rNumber a1 _ _ W (hb1.below hW) (by omega))
  have HN2 := hide (fun (W : World) (hW : Below w.heap.size w W) => rNumber a2 _ _ W (hb2.below hW) (by omega))
  rw [l1] at HN1
  rw [l2] at HN2
  have g1 : numOf ((l.drop (plc h + 1)).take 2) = getV l (plc h + 1) 2 := rfl
  have g2 : numOf ((l.drop (plc h + 3)).take 2) = getV l (plc h + 3) 2 := rfl
  rw [g1] at HN1
  rw [g2] at HN2
  obtain ⟨b, off, rfl, hcell⟩ := hb.at (plc h) (by omega)
  have hblt := block_lt_of_cell hcell
  dsimp only at hblt
  have h3 := hb.2.2.1
  have hbd : 0 ≤ tagAt l h ∧ tagAt l h ≤ 255 := hb.1.getD (plc h)
  have ht : l.getD (plc h) 0 = tagAt l h := rfl
  rw [ht] at hcell
  have hcell' : w.cell? ⟨b, off + (5 * (h - 1)).toNat, none⟩ = some (.int .u8 (tagAt l h)) := hcell
  unfold entOf
  have q1 : ((plc h + 1 : Nat) : Int) = (plc h : Int) + 1 := by omega
  have q3 : ((plc h + 3 : Nat) : Int) = (plc h : Int) + 3 := by omega
  have q5 : ((plc h + 5 : Nat) : Int) = (plc h : Int) + 5 := by omega
  rw [q1, q3, hpe] at hs1
  rw [q3, q5, hpe] at hs2
  have hmore : 5 * (h - 1) < (l.length : Int) := by omega
  clear hcell hb hb1 hb2 l1 l2 g1 g2 e1 e2 ht q1 q3 q5
  generalize getV l (plc h + 1) 2 = x at *
  generalize getV l (plc h + 3) 2 = y at *
  generalize tagAt l h = t at *
  generalize plc h = p at *
  generalize l.length = N at *
  go_enter Tryd.func19, Tryd.ntmps19
  go_wp2_with fail
  refine (unhide HN1 _ (((Below.refl _ w).alloc (Nat.le_refl _) _).alloc (by simp) _)).mono ?_
  rintro e w1 ⟨rfl, hw1⟩
  subst hw1
  go_wp2_with fail
  refine (unhide HN2 _ (((Below.refl _ w).alloc (Nat.le_refl _) _).alloc (by simp) _)).mono ?_
  rintro e w1 ⟨rfl, hw1⟩
  subst hw1
  go_wp2_with fail
  go_region
  go_wp2
  have hbl : Below (w.alloc (.cells #[.int .i64 h, .int .i64 x, .int .i64 y, .int .i64 (t - 1)] 26)).heap.size (w.alloc (.cells #[.int .i64 h, .int .i64 x, .int .i64 y, .int .i64 (t - 1)] 26)) (((w.alloc (.cells #[.int .i64 h, .int .i64 x, .int .i64 y, .int .i64 (t - 1)] 26)).alloc (.cells #[.int .i64 h, .int .i64 x, .int .i64 y, .int .i64 (t - 1)] 26)).drew) := ((Below.refl _ _).alloc (Nat.le_refl _) _).drew
  refine bodyPost_ret (results_ent Tryd.results19 _ _ w.heap.size (h, x, y, t - 1) rfl ((EnB.new w (h, x, y, t - 1)).below hbl (by simp))) rfl ?_
  exact ⟨rfl, ((Below.refl _ w).alloc (Nat.le_refl _) _).trans (hbl.mono (by simp))⟩

set_option maxRecDepth 100000 in
set_option maxHeartbeats 2000000 in
theorem rEnts_any (a : Option Addr) (cap : Nat) (l : List Int) (w : World) (hb : Bs w a cap l) (hl : 288 ≤ l.length) :
    Calls Tryd.prog 8 #[.slice a l.length cap] w fun e w' => ∃ v, e = .returned v ∧ Lst enC 4 26 w' w.heap.size v (entsK l 40) ∧ Below w.heap.size w w' := by
  obtain ⟨i0, hi0, hz0, hz1, hz2⟩ := info_parts info_ent
  have HB := hide hb
  have hbl := hb.2.2.1
  clear hb
  go_enter Tryd.func8, Tryd.ntmps8
  go_wp2_with fail
  go_loopw [3, 4] (fun v hv wr => ∃ k : Nat, k ≤ 40 ∧ hv = .int .i64 ((k : Int) + 1) ∧ Lst enC 4 26 wr w.heap.size v (entsK l k) ∧ Below w.heap.size w wr) (fun _ hv _ => 41 - (intOf hv).toNat)
  case atStart => exact ⟨0, by omega, rfl, Lst.nil _ _, Below.refl _ _⟩
  case round =>
    obtain ⟨k, hk, rfl, hown, hbel⟩ := hrel
    obtain ⟨va, vm, vc, rfl⟩ := hown.shape
    by_cases hlt : k < 40
    · have hbs := (unhide HB).below hbel
      have HG := hide (rEntry_any a cap l ((k : Int) + 1) wr hbs hl (by omega) (by omega))
      have HEY := hide (fun ht => entsK_yes (l := l) (k := k) ht)
      have HEN := hide (fun ht => entsK_no (l := l) (k := k) ht)
      have HLN := hide (entsK_len l k)
      have HO := hide hown
      have HBEL := hide hbel
      clear hown hbel hbs
      generalize hent : entOf l ((k : Int) + 1) = ent at *
      clear hent
      obtain ⟨x, y, z, t⟩ := ent
      unfold entV at HG
      dsimp only at HG
      have hsz := (unhide HBEL).size
      by_cases ht : tagAt l ((k : Int) + 1) = 0
      · have HE := hide (unhide HEN ht)
        rw [ht] at HG
        clear ht HEY HEN
        go_wp2_with fail
        refine (unhide HG).mono ?_
        rintro e w1 ⟨rfl, hb1⟩
        have hB1 := (unhide HBEL).trans (hb1.mono (unhide HBEL).size)
        have HB2 := hide (hB1.alloc hB1.size (.cells #[.int .i64 x, .int .i64 y, .int .i64 z, .int .i64 t] 26))
        have HO2 := hide (((unhide HO).below hb1).below ((Below.refl _ _).alloc (Nat.le_refl _) (.cells #[.int .i64 x, .int .i64 y, .int .i64 z, .int .i64 t] 26)))
        clear hb1 hB1 HO HBEL HG
        go_wp2
        go_roundw
        case rel => exact ⟨k + 1, by omega, by go_num, by rw [unhide HE]; exact unhide HO2, unhide HB2⟩
        case measure => simp [intOf]; omega
      · have HE := hide (unhide HEY ht)
        rw [bne_iff_ne.2 ht] at HG
        clear ht HEY HEN
        go_wp2_with fail
        refine (unhide HG).mono ?_
        rintro e w1 ⟨rfl, hb1⟩
        have hB1 := (unhide HBEL).trans (hb1.mono (unhide HBEL).size)
        have hB2 := hB1.alloc hB1.size (.cells #[.int .i64 x, .int .i64 y, .int .i64 z, .int .i64 t] 26)
        have HB3 := hide (hB2.alloc hB2.size (.cells #[.int .i64 x, .int .i64 y, .int .i64 z, .int .i64 t] 26))
        have HO3 := hide ((((unhide HO).below hb1).below ((Below.refl _ _).alloc (Nat.le_refl _) (.cells #[.int .i64 x, .int .i64 y, .int .i64 z, .int .i64 t] 26))).below ((Below.refl _ _).alloc (Nat.le_refl _) (.cells #[.int .i64 x, .int .i64 y, .int .i64 z, .int .i64 t] 26)))
        have hsz1 := hb1.size
        have HGN : Hid (((w1.alloc (.cells #[.int .i64 x, .int .i64 y, .int .i64 z, .int .i64 t] 26)).alloc (.cells #[.int .i64 x, .int .i64 y, .int .i64 z, .int .i64 t] 26)).heap[w1.heap.size + 1]? = some (.cells (enC (x, y, z, t)).toArray 26 (0, 0))) := hide (by
          have := heap_alloc_new (w1.alloc (.cells #[.int .i64 x, .int .i64 y, .int .i64 z, .int .i64 t] 26)) (.cells #[.int .i64 x, .int .i64 y, .int .i64 z, .int .i64 t] 26)
          rw [sz_alloc] at this
          exact this)
        clear hb1 hB1 hB2 HO HBEL HG
        go_wp2_with (at_builtin; refine wpList_append_lst rfl _ _ 35 rfl w.heap.size i0 (.agg #[.int .i64 0, .int .i64 0, .int .i64 0, .int .i64 0]) 32 Tryd.underlying35 hi0 hz0 hz1 hz2 rfl (by decide) (by decide) _ _ rfl (unhide HO3) (w1.heap.size + 1) (x, y, z, t) rfl (unhide HGN) rfl (enC_one _) (Nat.le_trans (unhide HLN) (by omega)) (by simp; omega) ?_)
        intro v9 w9 hown9 hbel9
        have HO9 := hide hown9
        have HB9 := hide ((unhide HB3).trans hbel9)
        obtain ⟨a9, m9, c9, rfl⟩ := hown9.shape
        clear hown9 hbel9 HO3 HB3 HGN
        go_wp2
        go_roundw
        case rel => exact ⟨k + 1, by omega, by go_num, by rw [unhide HE]; exact unhide HO9, unhide HB9⟩
        case measure => simp [intOf]; omega
    · obtain rfl : k = 40 := by omega
      have HO := hide hown
      have HBEL := hide hbel
      clear hown hbel
      go_wp2
      go_ret
      exact ⟨_, rfl, unhide HO, unhide HBEL⟩
end Go.Proofs.YtccailoccgbehaaDoor
