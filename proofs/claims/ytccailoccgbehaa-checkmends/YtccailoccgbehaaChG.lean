/-
  Contracts of package check: the faults of roots. (Part of the proofs over package check.)
-/
import Derived.Test.YtccailoccgbehaaChF
import Derived.Test.YtccailoccgbehaaChStr
import Derived.StringKeys
namespace Go.Proofs.Ytccailoccgbehaa
open Go.RowKit Go.MapKept Go.ChangeMaps
set_option linter.unusedVariables false

/-! ### the map of names -/
def NmM (w : World) (m n : Nat) (ns : List ByteArray) : Prop :=
  ∃ Dm : DataW Unit, w.ownsMap Try.prog 9 (plainElem Try.prog 3) m n Dm ∧ ∀ s : ByteArray, Maps.has Dm (.string s.data.toList) = ns.contains s
theorem NmM.made (w : World) : NmM (w.alloc (.map #[] 0)) w.heap.size 0 [] := ⟨.map [], World.ownsMap_made w _ _ _, fun s => rfl⟩
theorem NmM.lt {w : World} {m n : Nat} {ns : List ByteArray} (h : NmM w m n ns) : m < w.heap.size := by
  obtain ⟨Dm, h1, _⟩ := h
  exact h1.lt
theorem NmM.same {w w' : World} {m n : Nat} {ns : List ByteArray} (h : NmM w m n ns) (hs : w'.heap[m]? = w.heap[m]?) : NmM w' m n ns := by
  obtain ⟨Dm, ⟨es, clock, hb, r⟩, h2⟩ := h
  exact ⟨Dm, ⟨es, clock, hs.trans hb, r⟩, h2⟩
theorem NmM.below {w w' : World} {m n : Nat} {ns : List ByteArray} (h : NmM w m n ns) (hb : Below w.heap.size w w') : NmM w' m n ns := h.same (hb.block m h.lt)
theorem NmM.look {w : World} {m n : Nat} {ns : List ByteArray} (h : NmM w m n ns) (s : ByteArray) (hs : s.size ≤ maxLen) :
    ∃ v, (Instr.lookup 62 (.map (some m)) (.string s) true).run Try.prog w = .ok (.tuple #[.int .i64 v, .bool (ns.contains s)]) w := by
  obtain ⟨Dm, h1, h2⟩ := h
  have hkey := WideMaps.keyOf_string_mk (P := Try.prog) Try.underlying9 hs
  obtain ⟨v, ps, hrun, hv⟩ := h1.look_ok (Maps.string_keyed Try.underlying9) Try.underlying62 (zero_num w) (plainElem_int Try.underlying3 (a := 0) (by decide)) hkey
  obtain ⟨a, rfl, _⟩ := plainElem_int_inv Try.underlying3 hv
  exact ⟨a, by rw [hrun, h2 s]⟩
theorem NmM.store {w : World} {m n : Nat} {ns ns' : List ByteArray} (h : NmM w m n ns) (s : ByteArray) (i : Int) (hs : s.size ≤ maxLen) (hn : n ≤ 300) (hi : -9223372036854775808 ≤ i ∧ i ≤ 9223372036854775807) (hns : ∀ t, ns'.contains t = (ns.contains t || (t == s))) :
    ∃ w', (Instr.mapUpdate 62 (.map (some m)) (.string s) (.int .i64 i)).run Try.prog w = .ok () w' ∧ NmM w' m (n + 1) ns' ∧ w.mapTurned w' m := by
  obtain ⟨Dm, h1, h2⟩ := h
  have hkey := WideMaps.keyOf_string_mk (P := Try.prog) Try.underlying9 hs
  obtain ⟨w', hrun, hown', ht⟩ := h1.store (Maps.string_keyed Try.underlying9) Try.underlying62 (by unfold maxLen; omega) hkey (plainElem_int Try.underlying3 (a := i) (WalkArith.wf_i64 hi))
  have hlit : WideAt.IsKeyLit (.string s.data.toList) := (Maps.string_keyed Try.underlying9).key hkey
  refine ⟨w', hrun, ⟨_, hown', fun t => ?_⟩, ht⟩
  rw [hns t]
  by_cases hj : t = s
  · subst hj
    rw [Maps.has_put_same h1.isMap hlit, ba_beq.2 rfl, Bool.or_true]
  · have hne : Lit.string t.data.toList ≠ Lit.string s.data.toList := by
      intro e; simp only [Lit.string.injEq] at e; exact hj (str_inj e)
    have e0 : (t == s) = false := by
      cases hq : (t == s) with
      | false => rfl
      | true => exact absurd (ba_beq.1 hq) hj
    rw [Maps.has_put_other hne, h2 t, e0, Bool.or_false]

/-! ### one root -/
theorem nbad_badR {L : List Int} {i : Nat} (hq : lenB L.length = true) (hi : i < 8) :
    nbad (readOut ((rowAt L i).take 8)).2 (isRoot (((rowAt L i).drop 8).take 2)) ((entsK L 40).any (fun e => e.1 == (rowAt L i).getD 10 0)) (mrkV (entsK L 40) (mkV L) ((rowAt L i).getD 10 0)) = badR L i := by
  have hl := lenB_iff.1 hq
  have h11 : (rowAt L i).length = 11 := rowAt_len (by omega)
  have hR : isRoot (((rowAt L i).drop 8).take 2) = (decide ((rowAt L i).getD 8 0 ≠ 0) || decide ((rowAt L i).getD 9 0 ≠ 0)) := by
    have hlen : (((rowAt L i).drop 8).take 2).length = 2 := by simp; omega
    have hg : ∀ j, j < 2 → (((rowAt L i).drop 8).take 2).getD j 0 = (rowAt L i).getD (8 + j) 0 := fun j hj => by
      simp [List.getD, hj]
    have hz := isRoot_no (l := ((rowAt L i).drop 8).take 2)
    rw [hlen] at hz
    have g0 := hg 0 (by omega)
    have g1 := hg 1 (by omega)
    rw [Nat.add_zero] at g0
    cases hr : isRoot (((rowAt L i).drop 8).take 2) with
    | false =>
      have h0 := hz.1 hr 0 (by omega)
      have h1 := hz.1 hr 1 (by omega)
      rw [g0] at h0
      rw [g1] at h1
      rw [h0, h1]; rfl
    | true =>
      symm
      rw [Bool.or_eq_true, decide_eq_true_iff, decide_eq_true_iff]
      refine Classical.byContradiction fun hn => ?_
      have h8 : (rowAt L i).getD 8 0 = 0 := Classical.byContradiction fun h => hn (.inl h)
      have h9 : (rowAt L i).getD 9 0 = 0 := Classical.byContradiction fun h => hn (.inr h)
      have : isRoot (((rowAt L i).drop 8).take 2) = false := hz.2 (fun j hj => by
        match j, hj with
        | 0, _ => rw [g0]; exact h8
        | 1, _ => rw [g1]; exact h9
        | j + 2, hj => omega)
      rw [this] at hr
      cases hr
  unfold nbad badR mrkV
  rw [hR, any_entsK]
  generalize (rowAt L i).getD 10 0 = x
  have e1 : ∀ c : Int, (c != 0) = decide (c ≠ 0) := fun c => by
    by_cases h : c = 0
    · subst h; rfl
    · rw [bne_iff_ne.2 h, decide_eq_true h]
  rw [e1, Bool.or_assoc]
  congr 3
  have hw1 := wh_one (b := L) (h := x)
  have hw0 := wh_zero (b := L) (h := x)
  have hwc := wh_cases L x
  cases hndB x with
  | false => rfl
  | true =>
    rw [Bool.true_and, Bool.not_true, Bool.false_or]
    by_cases ht : tagAt L x = 0
    · have : whE L x ≠ 1 := by rw [hw0.2 ht]; decide
      rw [ht, decide_eq_true this]; rfl
    · rw [bne_iff_ne.2 ht, if_pos rfl, Bool.not_true, Bool.false_or, e1]
      unfold mkV
      rcases hwc with h | h | h | h
      · exact absurd (hw0.1 h) ht
      · rw [h]; rfl
      · rw [h]; rfl
      · rw [h]; rfl
theorem nameOf_any (a : Option Addr) (cap : Nat) (L : List Int) (i m : Nat) (w : World) (hbs : Bs w a cap (rowAt L i)) (hq : lenB L.length = true) (hi : i < 8) (hm : Mrk w m (entsK L 40) (mkV L)) :
    Calls Try.prog 25 #[.slice a 11 cap, .map (some m)] w fun e w' => e = .returned (.tuple #[.string (if badR L i = true then { data := #[] } else nameAt L i), .bool (!badR L i)]) ∧ Below w.heap.size w w' := by
  have hl := lenB_iff.1 hq
  rw [← nbad_badR hq hi]
  have hbd := hbs.1.getD 10
  exact nameOf_raw a cap (rowAt L i) m w _ _ _ _ _ hbs (rowAt_len (by omega)) rfl rfl rfl (fun W hW => (hm.below hW).look _ (by omega))
/-! ### all roots -/
theorem rFK_no {L : List Int} {k : Nat} (h : rFault L k = []) : rFK L (k + 1) = rFK L k := by
  show rFK L k ++ _ = _
  rw [h, List.append_nil]
theorem rFK_one {L : List Int} {k : Nat} {f : Int × Int} (h : rFault L k = [f]) : rFK L (k + 1) = rFK L k ++ [f] := by
  show rFK L k ++ _ = _
  rw [h]
theorem nmsK_no {L : List Int} {k : Nat} (h : fineR L k (nmsK L k) = false) : nmsK L (k + 1) = nmsK L k := by
  show nmsK L k ++ _ = _
  rw [h, if_neg (by simp), List.append_nil]
theorem nmsK_one {L : List Int} {k : Nat} (h : fineR L k (nmsK L k) = true) : nmsK L (k + 1) = nmsK L k ++ [nameAt L k] := by
  show nmsK L k ++ _ = _
  rw [if_pos h]
theorem Lst.base {α : Type} {enc : α → List Value} {k T : Nat} {w : World} {B B' : Nat} {v : Value} {l : List α} (h : Lst enc k T w B v l) (hb : B' ≤ B) : Lst enc k T w B' v l := by
  refine ⟨h.1, ?_⟩
  rcases h.2 with h0 | ⟨g, cap, cur, rfl, hB, hc, h3⟩
  · exact .inl h0
  · exact .inr ⟨g, cap, cur, rfl, by omega, hc, h3⟩
theorem NmM.more {w : World} {m n n' : Nat} {ns : List ByteArray} (h : NmM w m n ns) (hn : n ≤ n') : NmM w m n' ns := by
  obtain ⟨Dm, ⟨es, clock, hb, F, hs, r⟩, h2⟩ := h
  exact ⟨Dm, ⟨es, clock, hb, F, by omega, r⟩, h2⟩
theorem cont_in {ns : List ByteArray} {s t : ByteArray} (h : ns.contains s = true) : ns.contains t = (ns.contains t || (t == s)) := by
  by_cases e : t = s
  · subst e; rw [h]; rfl
  · have e0 : (t == s) = false := by
      cases hq : (t == s) with
      | false => rfl
      | true => exact absurd (ba_beq.1 hq) e
    rw [e0, Bool.or_false]
theorem cont_new {ns : List ByteArray} {s t : ByteArray} : (ns ++ [s]).contains t = (ns.contains t || (t == s)) := by
  haveI := ba_lawful
  rw [List.contains_eq_any_beq, List.contains_eq_any_beq, List.any_append, List.any_cons, List.any_nil, Bool.or_false]

set_option maxRecDepth 100000 in
set_option maxHeartbeats 4000000 in
theorem fRoots_any (a : Option Addr) (cap : Nat) (L : List Int) (m : Nat) (w : World) (hbs : Bs w a cap L) (hq : lenB L.length = true) (hm : Mrk w m (entsK L 40) (mkV L)) :
    Calls Try.prog 13 #[.slice a L.length cap, .map (some m)] w fun r w' => ∃ v, r = .returned v ∧ Lst flC 2 31 w' w.heap.size v (rFK L 8) ∧ Below w.heap.size w w' := by
  have hl := lenB_iff.1 hq
  obtain ⟨i0, hi0, hz0, hz1, hz2⟩ := info_parts info_flt
  have hbl := hbs.2.2.1
  have HB := hide hbs
  have HM := hide hm
  have HQ := hide hq
  have hmm := @run_makeMap Try.prog
  clear hbs hm hq
  go_enter Try.func13, Try.ntmps13
  go_wp2_with fail
  go_loopw [5, 14] (fun v iv wr => ∃ k : Nat, k ≤ 8 ∧ iv = .int .i64 (k : Int) ∧ Lst flC 2 31 wr (w.heap.size + 1) v (rFK L k) ∧ NmM wr w.heap.size k (nmsK L k) ∧ Below w.heap.size w wr) (fun _ iv _ => 8 - (intOf iv).toNat)
  case atStart => exact ⟨0, by omega, rfl, Lst.nil _ _, NmM.made w, (Below.refl _ _).alloc (Nat.le_refl _) _⟩
  case round =>
    obtain ⟨k, hk, rfl, hown, hnm, hbel⟩ := hrel
    obtain ⟨va, vm, vc, rfl⟩ := hown.shape
    by_cases hlt : k < 8
    · have HLN := hide (rFK_len L k)
      have HO := hide hown
      have HNN := hide hnm
      have HBEL := hide hbel
      have HH := hide (ofRoot_any k wr hlt)
      have HP := hide (fun (W : World) (hW : Below wr.heap.size wr W) => part_any a cap L (200 + 11 * k) 11 W (((unhide HB).below hbel).below hW) (by omega))
      have HA := hide (fun (W : World) (a' : Option Addr) (c' : Nat) (h : Bs W a' c' (rowAt L k)) => isAny_any a' c' _ W h)
      have HNAME := hide (fun (W : World) (a' : Option Addr) (c' : Nat) (h : Bs W a' c' (rowAt L k)) (hW : Below wr.heap.size wr W) => nameOf_any a' c' L k m W h (unhide HQ) hlt (((unhide HM).below hbel).below hW))
      have hrl : (rowAt L k).length = 11 := rowAt_len (by omega)
      rw [hrl] at HA
      have HRH : Hid ((L.drop (200 + 11 * k)).take 11 = rowAt L k) := hide rfl
      rw [unhide HRH, show ((11 : Nat) : Int) = 11 from rfl] at HP
      clear HRH hrl hown hnm hbel
      have hns : (nameAt L k).size ≤ maxLen := by
        have := readOut_size ((rowAt L k).take 8)
        unfold nameAt
        rw [List.length_take] at this
        unfold maxLen
        omega
      have hfr : rFault L k = if isRoot (rowAt L k) = false then [] else if badR L k = true then [(4, (k : Int))] else if (nmsK L k).contains (nameAt L k) = true then [(5, (k : Int))] else [] := rfl
      have hfi : fineR L k (nmsK L k) = (isRoot (rowAt L k) && (!badR L k && !(nmsK L k).contains (nameAt L k))) := rfl
      have HF0 := hide (fun h => rFK_no (L := L) (k := k) h)
      have HF1 := hide (fun f h => rFK_one (L := L) (k := k) (f := f) h)
      have HK0 := hide (fun h => nmsK_no (L := L) (k := k) h)
      have HK1 := hide (fun h => nmsK_one (L := L) (k := k) h)
      rw [hfr] at HF0 HF1
      rw [hfi] at HK0 HK1
      clear hfr hfi
      have HCI := hide (fun t => cont_in (ns := nmsK L k) (s := nameAt L k) (t := t))
      generalize hcq : (nmsK L k).contains (nameAt L k) = C at *
      have HCQ := hide hcq
      clear hcq
      generalize isRoot (rowAt L k) = R at *
      generalize badR L k = D at *
      generalize rowAt L k = row at *
      generalize 200 + 11 * k = p at *
      cases R with
      | false =>
        have HE : Hid (rFK L (k + 1) = rFK L k) := hide (unhide HF0 rfl)
        have HG : Hid (nmsK L (k + 1) = nmsK L k) := hide (unhide HK0 rfl)
        clear HF0 HF1 HK0 HK1 HCI HCQ
        go_wp2_with fail
        refine (unhide HH).mono ?_
        rintro e w1 ⟨rfl, hb1⟩
        have HP1 := hide (unhide HP w1 hb1)
        have HB1 := hide hb1
        clear hb1 HH HP
        go_wp2_with fail
        refine (unhide HP1).mono ?_
        rintro e w2 ⟨a2, c2, rfl, hbs2, hb2⟩
        have HA2 := hide (unhide HA w2 a2 c2 hbs2)
        have hB2 := (unhide HB1).trans (hb2.mono (unhide HB1).size)
        have HNM := hide (unhide HNAME w2 a2 c2 hbs2 hB2)
        have HO4 := hide ((unhide HO).below hB2)
        have HN4 := hide ((unhide HNN).below hB2)
        have HB4 := hide ((unhide HBEL).trans (hB2.mono (unhide HBEL).size))
        clear hb2 hbs2 hB2 HP1 HB1 HA HO HBEL HNN HNAME
        go_wp2_with (go_at_call 21; refine (unhide HA2).mono ?_; rintro e w3 ⟨rfl, hw3⟩; subst hw3)
        go_roundw
        case rel => exact ⟨k + 1, by omega, by go_num, by rw [unhide HE]; exact unhide HO4, by rw [unhide HG]; exact (unhide HN4).more (Nat.le_succ _), unhide HB4⟩
        case measure => simp [intOf]; omega
      | true =>
        cases D with
        | true =>
          have HE : Hid (rFK L (k + 1) = rFK L k ++ [(4, (k : Int))]) := hide (unhide HF1 _ rfl)
          have HG : Hid (nmsK L (k + 1) = nmsK L k) := hide (unhide HK0 rfl)
          clear HF0 HF1 HK0 HK1 HCI HCQ
          go_wp2_with fail
          refine (unhide HH).mono ?_
          rintro e w1 ⟨rfl, hb1⟩
          have HP1 := hide (unhide HP w1 hb1)
          have HB1 := hide hb1
          clear hb1 HH HP
          go_wp2_with fail
          refine (unhide HP1).mono ?_
          rintro e w2 ⟨a2, c2, rfl, hbs2, hb2⟩
          have HA2 := hide (unhide HA w2 a2 c2 hbs2)
          have hB2 := (unhide HB1).trans (hb2.mono (unhide HB1).size)
          have HNM := hide (unhide HNAME w2 a2 c2 hbs2 hB2)
          have HO4 := hide ((unhide HO).below hB2)
          have HN4 := hide ((unhide HNN).below hB2)
          have HB4 := hide ((unhide HBEL).trans (hB2.mono (unhide HBEL).size))
          clear hb2 hbs2 hB2 HP1 HB1 HA HO HBEL HNN HNAME
          go_wp2_with (go_at_call 21; refine (unhide HA2).mono ?_; rintro e w3 ⟨rfl, hw3⟩; subst hw3)
          refine (unhide HNM).mono ?_
          rintro e w5 ⟨rfl, hb5⟩
          have HO5 := hide ((unhide HO4).below hb5)
          have HN5 := hide ((unhide HN4).below hb5)
          have HB5 := hide ((unhide HB4).trans (hb5.mono (unhide HB4).size))
          clear HO4 HN4 HB4 hb5 HNM HA2
          have HO4 := HO5
          have HN4 := HN5
          have HB4 := HB5
          clear HO5 HN5 HB5
          have hbA : Below w5.heap.size w5 (w5.alloc (.cells #[.int .i64 4, .int .i64 (k : Int)] 31)) := (Below.refl _ _).alloc (Nat.le_refl _) _
          have HOA := hide ((unhide HO4).below hbA)
          have HNA := hide ((unhide HN4).below hbA)
          have HBA := hide ((unhide HB4).trans (hbA.mono (unhide HB4).size))
          have HGN : Hid ((w5.alloc (.cells #[.int .i64 4, .int .i64 (k : Int)] 31)).heap[w5.heap.size]? = some (.cells (flC (4, (k : Int))).toArray 31 (0, 0))) := hide (heap_alloc_new w5 _)
          have hs4 := (unhide HN4).lt
          clear hbA HO4 HB4 HN4
          go_wp2_with (at_builtin; refine wpList_append_lst rfl _ _ 27 rfl (w.heap.size + 1) i0 (.agg #[.int .i64 0, .int .i64 0]) 16 Try.underlying27 hi0 hz0 hz1 hz2 rfl (by decide) (by decide) _ _ rfl (unhide HOA) w5.heap.size (4, (k : Int)) rfl (unhide HGN) rfl (flC_one _) (Nat.le_trans (unhide HLN) (by omega)) (by simp; omega) ?_)
          intro v9 w9 hown9 hbel9
          have hn9 := (unhide HNA).same (hbel9.block _ (Nat.lt_succ_self _))
          have hB9 := (unhide HBA).trans (hbel9.mono (Nat.le_succ _))
          have HO9 := hide hown9
          have HN9 := hide hn9
          have HB9 := hide hB9
          obtain ⟨a9, m9, c9, rfl⟩ := hown9.shape
          clear hown9 hbel9 hn9 hB9 HOA HBA HNA HGN
          go_wp2
          go_roundw
          case rel => exact ⟨k + 1, by omega, by go_num, by rw [unhide HE]; exact unhide HO9, by rw [unhide HG]; exact (unhide HN9).more (Nat.le_succ _), unhide HB9⟩
          case measure => simp [intOf]; omega
        | false =>
          cases C with
          | true =>
            have HE : Hid (rFK L (k + 1) = rFK L k ++ [(5, (k : Int))]) := hide (unhide HF1 _ rfl)
            have HG : Hid (nmsK L (k + 1) = nmsK L k) := hide (unhide HK0 rfl)
            have HST := hide (fun (W : World) (h : NmM W w.heap.size k (nmsK L k)) => h.store (ns' := nmsK L k) (nameAt L k) k hns (by omega) (by omega) (fun t => unhide HCI t rfl))
            have HLK := hide (fun (W : World) (h : NmM W w.heap.size k (nmsK L k)) => h.look (nameAt L k) hns)
            rw [unhide HCQ] at HLK
            clear HF0 HF1 HK0 HK1 HCI HCQ
            generalize nameAt L k = name at *
            go_wp2_with fail
            refine (unhide HH).mono ?_
            rintro e w1 ⟨rfl, hb1⟩
            have HP1 := hide (unhide HP w1 hb1)
            have HB1 := hide hb1
            clear hb1 HH HP
            go_wp2_with fail
            refine (unhide HP1).mono ?_
            rintro e w2 ⟨a2, c2, rfl, hbs2, hb2⟩
            have HA2 := hide (unhide HA w2 a2 c2 hbs2)
            have hB2 := (unhide HB1).trans (hb2.mono (unhide HB1).size)
            have HNM := hide (unhide HNAME w2 a2 c2 hbs2 hB2)
            have HO4 := hide ((unhide HO).below hB2)
            have HN4 := hide ((unhide HNN).below hB2)
            have HB4 := hide ((unhide HBEL).trans (hB2.mono (unhide HBEL).size))
            clear hb2 hbs2 hB2 HP1 HB1 HA HO HBEL HNN HNAME
            go_wp2_with (go_at_call 21; refine (unhide HA2).mono ?_; rintro e w3 ⟨rfl, hw3⟩; subst hw3)
            refine (unhide HNM).mono ?_
            rintro e w5 ⟨rfl, hb5⟩
            have HO5 := hide ((unhide HO4).below hb5)
            have HN5 := hide ((unhide HN4).below hb5)
            have HB5 := hide ((unhide HB4).trans (hb5.mono (unhide HB4).size))
            clear HO4 HN4 HB4 hb5 HNM HA2
            have HO4 := HO5
            have HN4 := HN5
            have HB4 := HB5
            clear HO5 HN5 HB5
            obtain ⟨lv, hlk⟩ := unhide HLK w5 (unhide HN4)
            have hbA : Below w5.heap.size w5 (w5.alloc (.cells #[.int .i64 5, .int .i64 (k : Int)] 31)) := (Below.refl _ _).alloc (Nat.le_refl _) _
            have HOA := hide ((unhide HO4).below hbA)
            have HNA := hide ((unhide HN4).below hbA)
            have HBA := hide ((unhide HB4).trans (hbA.mono (unhide HB4).size))
            have HGN : Hid ((w5.alloc (.cells #[.int .i64 5, .int .i64 (k : Int)] 31)).heap[w5.heap.size]? = some (.cells (flC (5, (k : Int))).toArray 31 (0, 0))) := hide (heap_alloc_new w5 _)
            have hs4 := (unhide HN4).lt
            clear hbA HO4 HB4 HN4
            go_wp2_with (at_builtin; refine wpList_append_lst rfl _ _ 27 rfl (w.heap.size + 1) i0 (.agg #[.int .i64 0, .int .i64 0]) 16 Try.underlying27 hi0 hz0 hz1 hz2 rfl (by decide) (by decide) _ _ rfl (unhide HOA) w5.heap.size (5, (k : Int)) rfl (unhide HGN) rfl (flC_one _) (Nat.le_trans (unhide HLN) (by omega)) (by simp; omega) ?_)
            intro v9 w9 hown9 hbel9
            have hn9 := (unhide HNA).same (hbel9.block _ (Nat.lt_succ_self _))
            have hB9 := (unhide HBA).trans (hbel9.mono (Nat.le_succ _))
            obtain ⟨w10, hst, hn10, htn⟩ := unhide HST w9 hn9
            have HB10 := hide (hB9.grown htn.grown hB9.size (fun j hj => by cases hj; exact Nat.le_refl _))
            have HO10 := hide (hown9.turned htn (Nat.lt_succ_self _))
            have HN10 := hide hn10
            obtain ⟨a9, m9, c9, rfl⟩ := hown9.shape
            clear hown9 hbel9 hn9 hB9 HOA HBA HNA HGN htn hn10 HST HLK
            go_wp2
            go_roundw
            case rel => exact ⟨k + 1, by omega, by go_num, by rw [unhide HE]; exact unhide HO10, by rw [unhide HG]; exact unhide HN10, unhide HB10⟩
            case measure => simp [intOf]; omega
          | false =>
            have HE : Hid (rFK L (k + 1) = rFK L k) := hide (unhide HF0 rfl)
            have HG : Hid (nmsK L (k + 1) = nmsK L k ++ [nameAt L k]) := hide (unhide HK1 rfl)
            have HST := hide (fun (W : World) (h : NmM W w.heap.size k (nmsK L k)) => h.store (ns' := nmsK L k ++ [nameAt L k]) (nameAt L k) k hns (by omega) (by omega) (fun t => cont_new))
            have HLK := hide (fun (W : World) (h : NmM W w.heap.size k (nmsK L k)) => h.look (nameAt L k) hns)
            rw [unhide HCQ] at HLK
            clear HF0 HF1 HK0 HK1 HCI HCQ
            generalize nameAt L k = name at *
            go_wp2_with fail
            refine (unhide HH).mono ?_
            rintro e w1 ⟨rfl, hb1⟩
            have HP1 := hide (unhide HP w1 hb1)
            have HB1 := hide hb1
            clear hb1 HH HP
            go_wp2_with fail
            refine (unhide HP1).mono ?_
            rintro e w2 ⟨a2, c2, rfl, hbs2, hb2⟩
            have HA2 := hide (unhide HA w2 a2 c2 hbs2)
            have hB2 := (unhide HB1).trans (hb2.mono (unhide HB1).size)
            have HNM := hide (unhide HNAME w2 a2 c2 hbs2 hB2)
            have HO4 := hide ((unhide HO).below hB2)
            have HN4 := hide ((unhide HNN).below hB2)
            have HB4 := hide ((unhide HBEL).trans (hB2.mono (unhide HBEL).size))
            clear hb2 hbs2 hB2 HP1 HB1 HA HO HBEL HNN HNAME
            go_wp2_with (go_at_call 21; refine (unhide HA2).mono ?_; rintro e w3 ⟨rfl, hw3⟩; subst hw3)
            refine (unhide HNM).mono ?_
            rintro e w5 ⟨rfl, hb5⟩
            have HO5 := hide ((unhide HO4).below hb5)
            have HN5 := hide ((unhide HN4).below hb5)
            have HB5 := hide ((unhide HB4).trans (hb5.mono (unhide HB4).size))
            clear HO4 HN4 HB4 hb5 HNM HA2
            have HO4 := HO5
            have HN4 := HN5
            have HB4 := HB5
            clear HO5 HN5 HB5
            obtain ⟨lv, hlk⟩ := unhide HLK w5 (unhide HN4)
            obtain ⟨w10, hst, hn10, htn⟩ := unhide HST w5 (unhide HN4)
            have HB10 := hide ((unhide HB4).grown htn.grown (unhide HB4).size (fun j hj => by cases hj; exact Nat.le_refl _))
            have HO10 := hide ((unhide HO4).turned htn (Nat.lt_succ_self _))
            have HN10 := hide hn10
            clear HO4 HN4 HB4 htn hn10 HST HLK
            go_wp2
            go_roundw
            case rel => exact ⟨k + 1, by omega, by go_num, by rw [unhide HE]; exact unhide HO10, by rw [unhide HG]; exact unhide HN10, unhide HB10⟩
            case measure => simp [intOf]; omega
    · obtain rfl : k = 8 := by omega
      have HO := hide (hown.base (Nat.le_succ w.heap.size))
      have HBEL := hide hbel
      clear hown hbel hnm
      go_wp2
      go_ret
      exact ⟨_, rfl, unhide HO, unhide HBEL⟩
end Go.Proofs.Ytccailoccgbehaa
