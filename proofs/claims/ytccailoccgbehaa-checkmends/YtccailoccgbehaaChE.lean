/-
  Contracts of package check: the faults of handles. (Part of the proofs over package check.)
-/
import Derived.Test.YtccailoccgbehaaChD
import Derived.Deep.QuietTactic
namespace Go.Proofs.Ytccailoccgbehaa
open Go.RowKit Go.MapKept Go.ChangeMaps
set_option linter.unusedVariables false

theorem any_entsK {L : List Int} {z : Int} : (entsK L 40).any (fun e => e.1 == z) = (hndB z && (tagAt L z != 0)) := by
  have hiff : (entsK L 40).any (fun e => e.1 == z) = true ↔ (hndB z && (tagAt L z != 0)) = true := by
    rw [List.any_eq_true, Bool.and_eq_true, bne_iff_ne, hndB_iff]
    constructor
    · rintro ⟨e, he, hz⟩
      obtain ⟨j, hj, ht, rfl⟩ := mem_entsK.1 he
      have hz' : (j : Int) + 1 = z := by
        have := (beq_iff_eq.1 hz)
        exact this
      subst hz'
      exact ⟨by omega, ht⟩
    · rintro ⟨⟨h1, h2⟩, ht⟩
      obtain ⟨n, rfl⟩ : ∃ n : Nat, z = (n : Int) + 1 := ⟨(z - 1).toNat, by omega⟩
      exact ⟨entOf L ((n : Int) + 1), mem_entsK.2 ⟨n, by omega, ht, rfl⟩, beq_iff_eq.2 rfl⟩
  cases h3 : (entsK L 40).any (fun e => e.1 == z) <;> cases h4 : (hndB z && (tagAt L z != 0))
  · rfl
  · rw [h3, h4] at hiff; simp at hiff
  · rw [h3, h4] at hiff; simp at hiff
  · rfl
/-- The five bytes of a handle. -/
def rowH (L : List Int) (h : Int) : List Int := (L.drop (plc h)).take 5
theorem isRoot_no {l : List Int} : isRoot l = false ↔ ∀ j, j < l.length → l.getD j 0 = 0 := by
  unfold isRoot
  rw [List.any_eq_false]
  constructor
  · intro h j hj
    have := h l[j] (List.getElem_mem hj)
    have e : l.getD j 0 = l[j] := by simp [List.getD, hj]
    rw [e]
    simpa using this
  · intro h x hx
    obtain ⟨j, hj, rfl⟩ := List.getElem_of_mem hx
    have := h j hj
    have e : l.getD j 0 = l[j] := by simp [List.getD, hj]
    rw [e] at this
    simp [this]
theorem rowH_any {L : List Int} {h : Int} (hb : Byt L) (hl : 288 ≤ L.length) (h1 : 1 ≤ h) (h2 : h ≤ 40) (ht : tagAt L h = 0) : isRoot (rowH L h) = false ↔ ((entOf L h).2.1 = 0 ∧ (entOf L h).2.2.1 = 0) := by
  have hp := plc_le h1 h2
  have hg : ∀ j, j < 5 → (rowH L h).getD j 0 = L.getD (plc h + j) 0 := fun j hj => by
    unfold rowH
    simp [List.getD, hj]
  have hlen : (rowH L h).length = 5 := by unfold rowH; simp; omega
  rw [isRoot_no, hlen]
  unfold entOf
  dsimp only
  rw [getV_two _ _ (by omega), getV_two _ _ (by omega)]
  have b1 := hb.getD (plc h + 1)
  have b2 := hb.getD (plc h + 1 + 1)
  have b3 := hb.getD (plc h + 3)
  have b4 := hb.getD (plc h + 3 + 1)
  have g0 := hg 0 (by omega)
  have g1 := hg 1 (by omega)
  have g2 := hg 2 (by omega)
  have g3 := hg 3 (by omega)
  have g4 := hg 4 (by omega)
  unfold tagAt at ht
  rw [Nat.add_zero, ht] at g0
  rw [show plc h + 1 + 1 = plc h + 2 by omega] at *
  rw [show plc h + 3 + 1 = plc h + 4 by omega] at *
  constructor
  · intro hz
    have z1 := hz 1 (by omega)
    have z2 := hz 2 (by omega)
    have z3 := hz 3 (by omega)
    have z4 := hz 4 (by omega)
    omega
  · intro hz j hj
    match j, hj with
    | 0, _ => exact g0
    | 1, _ => omega
    | 2, _ => omega
    | 3, _ => omega
    | 4, _ => omega
    | j + 5, hj => omega
/-- What is wrong with a handle; 0: nothing. -/
def wvH (L : List Int) (h : Int) : Int := if tagAt L h = 0 then (if isRoot (rowH L h) = true then 3 else 0) else mkV L h
theorem hFault_wv {L : List Int} {h : Int} (hb : Byt L) (hl : 288 ≤ L.length) (h1 : 1 ≤ h) (h2 : h ≤ 40) : hFault L h = if wvH L h = 0 then [] else [(wvH L h, h)] := by
  unfold hFault wvH
  by_cases ht : tagAt L h = 0
  · rw [if_pos (wh_zero.2 ht), if_pos ht]
    have hr := rowH_any hb hl h1 h2 ht
    by_cases hz : (entOf L h).2.1 = 0 ∧ (entOf L h).2.2.1 = 0
    · rw [if_pos hz, hr.2 hz]; rfl
    · rw [if_neg hz]
      have : isRoot (rowH L h) = true := by
        cases hq : isRoot (rowH L h) with
        | true => rfl
        | false => exact absurd (hr.1 hq) hz
      rw [this]; rfl
  · rw [if_neg (fun e => ht (wh_zero.1 e)), if_neg ht]
    unfold mkV
    rcases wh_cases L h with h0 | h0 | h0 | h0
    · exact absurd (wh_zero.1 h0) ht
    · rw [h0]; rfl
    · rw [h0]; rfl
    · rw [h0]; rfl
theorem hFK_yes {L : List Int} {k : Nat} (hb : Byt L) (hl : 288 ≤ L.length) (hk : k < 40) (h : wvH L ((k : Int) + 1) ≠ 0) : hFK L (k + 1) = hFK L k ++ [(wvH L ((k : Int) + 1), (k : Int) + 1)] := by
  show hFK L k ++ _ = _
  rw [hFault_wv hb hl (by omega) (by omega), if_neg h]
theorem hFK_no {L : List Int} {k : Nat} (hb : Byt L) (hl : 288 ≤ L.length) (hk : k < 40) (h : wvH L ((k : Int) + 1) = 0) : hFK L (k + 1) = hFK L k := by
  show hFK L k ++ _ = _
  rw [hFault_wv hb hl (by omega) (by omega), if_pos h, List.append_nil]

set_option maxRecDepth 100000 in
set_option maxHeartbeats 2000000 in
theorem fHandles_any (a : Option Addr) (cap : Nat) (L : List Int) (m : Nat) (w : World) (hbs : Bs w a cap L) (hq : lenB L.length = true) (hm : Mrk w m (entsK L 40) (mkV L)) :
    Calls Try.prog 12 #[.slice a L.length cap, .map (some m)] w fun r w' => ∃ v, r = .returned v ∧ Lst flC 2 31 w' w.heap.size v (hFK L 40) ∧ Below w.heap.size w w' := by
  have hl := lenB_iff.1 hq
  obtain ⟨i0, hi0, hz0, hz1, hz2⟩ := info_parts info_flt
  have hbl := hbs.2.2.1
  have HB := hide hbs
  have HM := hide hm
  have HY := hide (fun (k : Nat) => hFK_yes (L := L) (k := k) hbs.1 (by omega))
  have HNO := hide (fun (k : Nat) => hFK_no (L := L) (k := k) hbs.1 (by omega))
  clear hbs hm hq
  go_enter Try.func12, Try.ntmps12
  go_wp2_with fail
  go_loopw [5, 6] (fun v hv wr => ∃ k : Nat, k ≤ 40 ∧ hv = .int .i64 ((k : Int) + 1) ∧ Lst flC 2 31 wr w.heap.size v (hFK L k) ∧ Below w.heap.size w wr) (fun _ hv _ => 41 - (intOf hv).toNat)
  case atStart => exact ⟨0, by omega, rfl, Lst.nil _ _, Below.refl _ _⟩
  case round =>
    obtain ⟨k, hk, rfl, hown, hbel⟩ := hrel
    obtain ⟨va, vm, vc, rfl⟩ := hown.shape
    by_cases hlt : k < 40
    · have hlook := ((unhide HM).below hbel).look ((k : Int) + 1) (by omega)
      rw [any_entsK] at hlook
      unfold mrkV at hlook
      rw [any_entsK, hndB_iff.2 (show 1 ≤ (k : Int) + 1 ∧ (k : Int) + 1 ≤ 40 by omega), Bool.true_and] at hlook
      have HYK := hide (unhide HY k hlt)
      have HNK := hide (unhide HNO k hlt)
      have HLN := hide (hFK_len L k)
      have HO := hide hown
      have HBEL := hide hbel
      have hsz := hbel.size
      by_cases ht : tagAt L ((k : Int) + 1) = 0
      · have hwv : wvH L ((k : Int) + 1) = if isRoot (rowH L ((k : Int) + 1)) = true then 3 else 0 := by unfold wvH; rw [if_pos ht]
        have hb0 : (tagAt L ((k : Int) + 1) != 0) = false := by rw [ht]; rfl
        rw [hb0, if_neg (by simp)] at hlook
        have HH := hide (ofHandle_any ((k : Int) + 1) wr (by omega) (by omega))
        have hpl := plc_le (h := (k : Int) + 1) (by omega) (by omega)
        have HP := hide (fun (W : World) (hW : Below wr.heap.size wr W) => part_any a cap L (plc ((k : Int) + 1)) 5 W (((unhide HB).below hbel).below hW) (by omega))
        have HA := hide (fun (W : World) (a' : Option Addr) (c' : Nat) (h : Bs W a' c' (rowH L ((k : Int) + 1))) => isAny_any a' c' _ W h)
        have hrl : (rowH L ((k : Int) + 1)).length = 5 := by unfold rowH; simp; omega
        rw [hrl] at HA
        clear hown hbel ht hb0 hrl
        rw [hwv] at HYK HNK
        have HRH : Hid ((L.drop (plc ((k : Int) + 1))).take 5 = rowH L ((k : Int) + 1)) := hide rfl
        rw [unhide HRH] at HP
        generalize isRoot (rowH L ((k : Int) + 1)) = R at *
        generalize rowH L ((k : Int) + 1) = row at *
        generalize plc ((k : Int) + 1) = p at *
        clear hwv
        rw [show ((5 : Nat) : Int) = 5 from rfl] at HP
        cases R with
        | true =>
          have HE : Hid (hFK L (k + 1) = hFK L k ++ [(3, (k : Int) + 1)]) := hide (unhide HYK (by simp))
          clear HYK HNK
          go_wp2_with fail
          refine (unhide HH).mono ?_
          rintro e w1 ⟨rfl, hb1⟩
          have HP1 := hide (unhide HP w1 hb1)
          have HB1 := hide hb1
          clear hb1 HH HP
          go_wp2_with fail
          refine (unhide HP1).mono ?_
          rintro e w2 ⟨a2, c2, rfl, hbs2, hb2⟩
          have HA2 := hide (unhide HA w2 a2 c2 hbs2)
          have hB2 := (unhide HB1).trans (hb2.mono (unhide HB1).size)
          have HO4 := hide ((unhide HO).below hB2)
          have HB4 := hide ((unhide HBEL).trans (hB2.mono (unhide HBEL).size))
          clear hb2 hbs2 hB2 HP1 HB1 HA HO HBEL
          go_wp2_with fail
          refine (unhide HA2).mono ?_
          rintro e w3 ⟨rfl, hw3⟩
          subst hw3
          clear HA2
          have hbA : Below w2.heap.size w2 (w2.alloc (.cells #[.int .i64 3, .int .i64 ((k : Int) + 1)] 31)) := (Below.refl _ _).alloc (Nat.le_refl _) _
          have HOA := hide ((unhide HO4).below hbA)
          have HBA := hide ((unhide HB4).trans (hbA.mono (unhide HB4).size))
          have HGN : Hid ((w2.alloc (.cells #[.int .i64 3, .int .i64 ((k : Int) + 1)] 31)).heap[w2.heap.size]? = some (.cells (flC (3, (k : Int) + 1)).toArray 31 (0, 0))) := hide (heap_alloc_new w2 _)
          have hs4 := (unhide HB4).size
          clear hbA HO4 HB4
          go_wp2_with (at_builtin; refine wpList_append_lst rfl _ _ 27 rfl w.heap.size i0 (.agg #[.int .i64 0, .int .i64 0]) 16 Try.underlying27 hi0 hz0 hz1 hz2 rfl (by decide) (by decide) _ _ rfl (unhide HOA) w2.heap.size (3, (k : Int) + 1) rfl (unhide HGN) rfl (flC_one _) (Nat.le_trans (unhide HLN) (by omega)) (by simp; omega) ?_)
          intro v9 w9 hown9 hbel9
          have HO9 := hide hown9
          have HB9 := hide ((unhide HBA).trans hbel9)
          obtain ⟨a9, m9, c9, rfl⟩ := hown9.shape
          clear hown9 hbel9 HOA HBA HGN
          go_wp2
          go_roundw
          case rel => exact ⟨k + 1, by omega, by go_num, by rw [unhide HE]; exact unhide HO9, unhide HB9⟩
          case measure => simp [intOf]; omega
        | false =>
          have HE : Hid (hFK L (k + 1) = hFK L k) := hide (unhide HNK (by simp))
          clear HYK HNK
          go_wp2_with fail
          refine (unhide HH).mono ?_
          rintro e w1 ⟨rfl, hb1⟩
          have HP1 := hide (unhide HP w1 hb1)
          have HB1 := hide hb1
          clear hb1 HH HP
          go_wp2_with fail
          refine (unhide HP1).mono ?_
          rintro e w2 ⟨a2, c2, rfl, hbs2, hb2⟩
          have HA2 := hide (unhide HA w2 a2 c2 hbs2)
          have hB2 := (unhide HB1).trans (hb2.mono (unhide HB1).size)
          have HO4 := hide ((unhide HO).below hB2)
          have HB4 := hide ((unhide HBEL).trans (hB2.mono (unhide HBEL).size))
          clear hb2 hbs2 hB2 HP1 HB1 HA HO HBEL
          go_wp2_with fail
          refine (unhide HA2).mono ?_
          rintro e w3 ⟨rfl, hw3⟩
          subst hw3
          clear HA2
          go_wp2
          go_roundw
          case rel => exact ⟨k + 1, by omega, by go_num, by rw [unhide HE]; exact unhide HO4, unhide HB4⟩
          case measure => simp [intOf]; omega
      · have hwv : wvH L ((k : Int) + 1) = mkV L ((k : Int) + 1) := by unfold wvH; rw [if_neg ht]
        have hb0 : (tagAt L ((k : Int) + 1) != 0) = true := bne_iff_ne.2 ht
        rw [hb0, if_pos rfl] at hlook
        rw [hwv] at HYK HNK
        clear hown hbel ht hb0 hwv
        generalize mkV L ((k : Int) + 1) = c at *
        by_cases hc : c = 0
        · subst hc
          have HE : Hid (hFK L (k + 1) = hFK L k) := hide (unhide HNK rfl)
          clear HYK HNK
          go_wp2
          go_roundw
          case rel => exact ⟨k + 1, by omega, by go_num, by rw [unhide HE]; exact unhide HO, unhide HBEL⟩
          case measure => simp [intOf]; omega
        · have HE : Hid (hFK L (k + 1) = hFK L k ++ [(c, (k : Int) + 1)]) := hide (unhide HYK hc)
          have hc' : (c != 0) = true := bne_iff_ne.2 hc
          have HO4 := HO
          have HB4 := HBEL
          clear HYK HNK HO HBEL
          have hbA : Below wr.heap.size wr (wr.alloc (.cells #[.int .i64 c, .int .i64 ((k : Int) + 1)] 31)) := (Below.refl _ _).alloc (Nat.le_refl _) _
          have HOA := hide ((unhide HO4).below hbA)
          have HBA := hide ((unhide HB4).trans (hbA.mono (unhide HB4).size))
          have HGN : Hid ((wr.alloc (.cells #[.int .i64 c, .int .i64 ((k : Int) + 1)] 31)).heap[wr.heap.size]? = some (.cells (flC (c, (k : Int) + 1)).toArray 31 (0, 0))) := hide (heap_alloc_new wr _)
          have hs4 := (unhide HB4).size
          clear hbA HO4 HB4
          go_wp2_with (at_builtin; refine wpList_append_lst rfl _ _ 27 rfl w.heap.size i0 (.agg #[.int .i64 0, .int .i64 0]) 16 Try.underlying27 hi0 hz0 hz1 hz2 rfl (by decide) (by decide) _ _ rfl (unhide HOA) wr.heap.size (c, (k : Int) + 1) rfl (unhide HGN) rfl (flC_one _) (Nat.le_trans (unhide HLN) (by omega)) (by simp; omega) ?_)
          intro v9 w9 hown9 hbel9
          have HO9 := hide hown9
          have HB9 := hide ((unhide HBA).trans hbel9)
          obtain ⟨a9, m9, c9, rfl⟩ := hown9.shape
          clear hown9 hbel9 HOA HBA HGN
          go_wp2
          go_roundw
          case rel => exact ⟨k + 1, by omega, by go_num, by rw [unhide HE]; exact unhide HO9, unhide HB9⟩
          case measure => simp [intOf]; omega
    · obtain rfl : k = 40 := by omega
      have HO := hide hown
      have HBEL := hide hbel
      clear hown hbel
      go_wp2
      go_ret
      exact ⟨_, rfl, unhide HO, unhide HBEL⟩
end Go.Proofs.Ytccailoccgbehaa
