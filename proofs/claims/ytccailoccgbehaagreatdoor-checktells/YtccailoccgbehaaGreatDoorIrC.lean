/-
  Contracts of the reference: roots of an image. (Part of the proofs over package image.)
-/
import Derived.Test.YtccailoccgbehaaGreatDoorIrB
import Derived.Test.YtccailoccgbehaaGreatDoorImI
namespace Go.Proofs.YtccailoccgbehaaGreatDoor
open Go.RowKit
set_option linter.unusedVariables false

theorem rRootAt_any (a : Option Addr) (cap : Nat) (l : List Int) (k : Nat) (w : World) (hb : Bs w a cap l) (hl : 288 ≤ l.length) (hl2 : l.length ≤ 6400) (hk : k < 8) :
    Calls Tryz.prog 16 #[.slice a l.length cap, .int .i64 k] w fun e w' => ∃ a' c', e = .returned (.slice a' 11 c') ∧ Bs w a' c' (rowAt l k) ∧ w = w' := by
  obtain ⟨a', hs, hb'⟩ := slice_lohi (P := Tryz.prog) (t := 22) Tryz.underlying22 size_u8 hb (200 + 11 * k) (211 + 11 * k) (by omega) (by omega)
  have e1 : 211 + 11 * k - (200 + 11 * k) = 11 := by omega
  rw [e1] at hs hb'
  have q1 : ((200 + 11 * k : Nat) : Int) = 200 + 11 * (k : Int) := by omega
  have q2 : ((211 + 11 * k : Nat) : Int) = 211 + 11 * (k : Int) := by omega
  rw [q1, q2] at hs
  have HB := hide hb'
  clear hb hb' q1 q2 e1
  go_enter Tryz.func16, Tryz.ntmps16
  go_wp2
  go_ret
  exact ⟨a', _, rfl, unhide HB, rfl⟩

theorem isRoot_at {l : List Int} {k : Nat} (hk : k < l.length) (h : l.getD k 0 ≠ 0) : isRoot l = true := by
  unfold isRoot
  refine List.any_eq_true.2 ⟨l.getD k 0, ?_, bne_iff_ne.2 h⟩
  have : l.getD k 0 = l[k] := by simp [List.getD, hk]
  rw [this]
  exact List.getElem_mem hk
theorem isRoot_not {l : List Int} (h : ∀ j, j < l.length → l.getD j 0 = 0) : isRoot l = false := by
  unfold isRoot
  rw [List.any_eq_false]
  intro x hx
  obtain ⟨j, hj, rfl⟩ := List.getElem_of_mem hx
  have := h j hj
  rw [show l.getD j 0 = l[j] by simp [List.getD, hj]] at this
  rw [this]; simp
theorem rZero_any (a : Option Addr) (cap : Nat) (l : List Int) (w : World) (hb : Bs w a cap l) :
    Calls Tryz.prog 17 #[.slice a l.length cap] w fun e w' => e = .returned (.bool (!isRoot l)) ∧ w = w' := by
  have hn : l.length ≤ 140737488351232 := hb.2.2.1
  have HB := hide hb
  have HY := hide (fun k => isRoot_at (l := l) (k := k))
  have HN := hide (isRoot_not (l := l))
  generalize isRoot l = R at *
  clear hb
  go_enter Tryz.func17, Tryz.ntmps17
  go_wp2_with fail
  go_loop [3] (fun v => ∃ k : Nat, k ≤ l.length ∧ v = .int .i64 k ∧ ∀ j, j < k → l.getD j 0 = 0) (fun v => l.length - (intOf v).toNat)
  case atStart => exact ⟨0, by omega, rfl, fun j hj => absurd hj (Nat.not_lt_zero j)⟩
  case round =>
    obtain ⟨k, hk, rfl, hall⟩ := hrel
    by_cases hlt : k < l.length
    · obtain ⟨b, off, rfl, hc⟩ := (unhide HB).at k hlt
      have HA := hide (fun (h : l.getD k 0 = 0) (j : Nat) (hj : j < k + 1) => show l.getD j 0 = 0 from by
        by_cases e : j = k
        · rw [e]; exact h
        · exact hall j (by omega))
      have HY2 := hide (unhide HY k hlt)
      clear hall HY
      generalize l.getD k 0 = c at *
      by_cases hz : c = 0
      · subst hz
        go_wp2
        go_round
        case rel => exact ⟨k + 1, by omega, by go_num, unhide HA rfl⟩
        case measure => simp [intOf]; omega
      · have HR := hide (unhide HY2 hz)
        go_wp2
        go_ret
        exact ⟨by rw [unhide HR]; rfl, rfl⟩
    · obtain rfl : k = l.length := by omega
      have HR := hide (unhide HN hall)
      clear hall
      go_wp2
      go_ret
      exact ⟨by rw [unhide HR]; rfl, rfl⟩

set_option maxRecDepth 100000 in
set_option maxHeartbeats 2000000 in
theorem rRoots_any (a : Option Addr) (cap : Nat) (l : List Int) (w : World) (hb : Bs w a cap l) (hl : 288 ≤ l.length) (hl2 : l.length ≤ 6400) :
    Calls Tryz.prog 29 #[.slice a l.length cap] w fun e w' => ∃ v, e = .returned v ∧ Lst roC 2 72 w' w.heap.size v (rootsK l 8) ∧ Below w.heap.size w w' := by
  obtain ⟨i0, hi0, hz0, hz1, hz2⟩ := info_parts info_root
  have HB := hide hb
  have hbl := hb.2.2.1
  clear hb
  go_enter Tryz.func29, Tryz.ntmps29
  go_wp2_with fail
  go_loopw [3, 4] (fun v hv wr => ∃ k : Nat, k ≤ 8 ∧ hv = .int .i64 k ∧ Lst roC 2 72 wr w.heap.size v (rootsK l k) ∧ Below w.heap.size w wr) (fun _ hv _ => 8 - (intOf hv).toNat)
  case atStart => exact ⟨0, by omega, rfl, Lst.nil _ _, Below.refl _ _⟩
  case round =>
    obtain ⟨k, hk, rfl, hown, hbel⟩ := hrel
    obtain ⟨va, vm, vc, rfl⟩ := hown.shape
    by_cases hlt : k < 8
    · have hbs := (unhide HB).below hbel
      have HG := hide (rRootAt_any a cap l k wr hbs hl hl2 hlt)
      have hr11 : (rowAt l k).length = 11 := rowAt_len (by omega)
      have HEY := hide (fun ht => rootsK_yes (l := l) (k := k) ht)
      have HEN := hide (fun ht => rootsK_no (l := l) (k := k) ht)
      have HLN := hide (rootsK_len l k)
      have HO := hide hown
      have HBEL := hide hbel
      have hsz := (unhide HBEL).size
      clear hown hbel hbs
      generalize rowAt l k = r at *
      go_wp2_with fail
      refine (unhide HG).mono ?_
      rintro e w1 ⟨a1, c1, rfl, hb1, hw1⟩
      subst hw1
      have HZ := hide (rZero_any a1 c1 r wr hb1)
      rw [hr11] at HZ
      have HB1 := hide hb1
      clear hb1 HG
      by_cases ht : isRoot r = true
      · have HE := hide (unhide HEY ht)
        rw [ht] at HZ
        obtain ⟨a2, hhi, hb2⟩ := slice_hi (P := Tryz.prog) (t := 22) Tryz.underlying22 size_u8 (unhide HB1) 8 (by omega)
        rw [hr11, show ((8 : Nat) : Int) = 8 from rfl] at hhi
        have h8 : (r.take 8).length = 8 := by rw [List.length_take]; omega
        have HRD := hide (rRead_any a2 c1 (r.take 8) wr hb2)
        rw [h8] at HRD
        obtain ⟨b, off, rfl, hcell⟩ := (unhide HB1).at 10 (by omega)
        have hbd := (unhide HB1).1.getD 10
        unfold rootOf at HE
        clear ht HEY HEN hb2 h8 HB1
        generalize (readOut (r.take 8)).1 = s at *
        generalize (readOut (r.take 8)).2 = cc at *
        generalize r.getD 10 0 = x at *
        have HB3 := hide ((unhide HBEL).alloc (unhide HBEL).size (.cells #[.string s, .int .i64 x] 72))
        have HO3 := hide ((unhide HO).below ((Below.refl _ _).alloc (Nat.le_refl _) (.cells #[.string s, .int .i64 x] 72)))
        have HGN : Hid ((wr.alloc (.cells #[.string s, .int .i64 x] 72)).heap[wr.heap.size]? = some (.cells (roC (s, x)).toArray 72 (0, 0))) := hide (heap_alloc_new wr _)
        clear HO HBEL
        go_wp2_with (first | (go_at_call 17; refine (unhide HZ).mono ?_; rintro e w2 ⟨rfl, hw2⟩; subst hw2) | (go_at_call 18; refine (unhide HRD).mono ?_; rintro e w2 ⟨rfl, hw2⟩; subst hw2) | (at_builtin; refine wpList_append_lst rfl _ _ 68 rfl w.heap.size i0 (.agg #[.string ByteArray.empty, .int .i64 0]) 24 Tryz.underlying68 hi0 hz0 hz1 hz2 rfl (by decide) (by decide) _ _ rfl (unhide HO3) wr.heap.size (s, x) rfl (unhide HGN) rfl (roC_one _) (Nat.le_trans (unhide HLN) (by omega)) (by simp; omega) ?_))
        intro v9 w9 hown9 hbel9
        have HO9 := hide hown9
        have HB9 := hide ((unhide HB3).trans hbel9)
        obtain ⟨a9, m9, c9, rfl⟩ := hown9.shape
        clear hown9 hbel9 HO3 HB3 HGN
        go_wp2
        go_roundw
        case rel => exact ⟨k + 1, by omega, by go_num, by rw [unhide HE]; exact unhide HO9, unhide HB9⟩
        case measure => simp [intOf]; omega
      · have ht' : isRoot r = false := by simpa using ht
        have HE := hide (unhide HEN ht')
        rw [ht'] at HZ
        clear ht ht' HEY HEN HB1
        go_wp2_with (go_at_call 17; refine (unhide HZ).mono ?_; rintro e w2 ⟨rfl, hw2⟩; subst hw2)
        go_roundw
        case rel => exact ⟨k + 1, by omega, by go_num, by rw [unhide HE]; exact unhide HO, unhide HBEL⟩
        case measure => simp [intOf]; omega
    · obtain rfl : k = 8 := by omega
      have HO := hide hown
      have HBEL := hide hbel
      clear hown hbel
      go_wp2
      go_ret
      exact ⟨_, rfl, unhide HO, unhide HBEL⟩
end Go.Proofs.YtccailoccgbehaaGreatDoor
