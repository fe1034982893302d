/-
  Parts of the proofs, joined by program.
-/
import Derived.Test.YtifmemombecoaaaGreatDoorJIr
import Derived.Test.YtifmemombecoaaaGreatDoorJCi
import Derived.Test.YtifmemombecoaaaGreatDoorJIl
namespace Go.Proofs.YtifmemombecoaaaGreatDoor
open Go.RowKit
set_option linter.unusedVariables false
def WtB (w : World) (g : Nat) (l : List Int) : Prop := w.heap[g]? = some (.cells (l.map (Value.int .i64)).toArray 3 (0, 0))
theorem WtB.lt {w : World} {g : Nat} {l : List Int} (h : WtB w g l) : g < w.heap.size := (Array.getElem?_eq_some_iff.1 h).1
theorem WtB.cell {w : World} {g : Nat} {l : List Int} (h : WtB w g l) {i : Nat} (hi : i < l.length) : w.cell? ⟨g, i, none⟩ = some (.int .i64 (l.getD i 0)) := by
 rw [cell_of_row _ _ _ _ _ _ h]
 simp [List.getD, hi]
theorem WtB.fr {w : World} {g : Nat} {l : List Int} (h : WtB w g l) (i : Nat) : w.frozen? ⟨g, i, none⟩ = false := frozen_of_row w g i _ _ h
theorem WtB.set {w : World} {g : Nat} {l : List Int} (h : WtB w g l) (i : Nat) (c : Int) : WtB (w.setCell ⟨g, i, none⟩ (.int .i64 c)) g (l.set i c) := by
 have h1 := heap_setCell_same w g i _ _ (.int .i64 c) h
 unfold WtB
 rw [h1, List.map_set]
 simp
theorem WtB.below {w w' : World} {g : Nat} {l : List Int} (h : WtB w g l) (hb : Below w.heap.size w w') : WtB w' g l := (hb.block g h.lt).trans h
theorem made_ints (n : Nat) : (madeCells (Value.int .i64 0).cells n).toList = (zerosB n).map (Value.int .i64) := by
 apply List.ext_getElem
 ·simp [madeCells, zerosB]
 ·intro i h1 h2
  simp [madeCells, zerosB, Value.cells, Nat.mod_one]
theorem wpList_make_int {P : Program} {w : World} {ops : Array Oper} {rest : List Oper} {o : Oper} {a : Act} {Q : Exit -> Act -> World -> Prop}
  (hg : o.guard = none) (l c : Operand) (t : TypeId) (hop : o.op = Op.makeSlice t l c)
  (i : TypeInfo) (h1 : P.underlying t = some (.slice 3)) (h2 : P.info? 3 = some i) (h3 : i.zero = some (.int .i64 0)) (h4 : i.size = 1) (h5 : i.bytes = 8)
  (kl kc : IntKind) (L C : Int) (n : Nat) (hl : a.eval l = .int kl L) (hc : a.eval c = .int kc C) (hL : L = (n : Int)) (hC : C = (n : Int)) (b2 : n <= 1000)
  (hK : ∀ w', WtB w' w.heap.size (zerosB n) -> w'.heap.size = w.heap.size + 1 -> Below w.heap.size w w' -> wpList P ops Q rest (a.put o.dst (.slice (some ⟨w.heap.size, 0, none⟩) n n)) w') :
  wpList P ops Q (o :: rest) a w := by
 refine wpList_plain hg fun K hK' => ?_
 have hrun := run_make (P := P) w t 3 i _ h1 h2 h3 kl kc n n (by omega) (by omega) (by rw [h5]; omega) (by omega)
 subst hL
 subst hC
 unfold Oper.wp
 simp [execOp, hop, hl, hc, hrun, Result.andThen]
 refine hK' _ _ (hK _ ?_ (by simp) ((Below.refl _ _).alloc (Nat.le_refl _) _))
 unfold WtB
 rw [heap_alloc_new, h4, Nat.mul_one]
 congr 2
 apply Array.toList_inj.1
 rw [made_ints]
theorem Lst.keep {α β : Type} {enc : α -> List Value} {fnc : β -> List Value} {k T k' T' : Nat} {w w' : World} {B B' : Nat} {v v' : Value} {l : List α} {l' : List β} (h : Lst enc k T w B v l) (h' : Lst fnc k' T' w B' v' l') (hne : T ≠ T')
  (hk : ∀ j, j < w.heap.size -> v.ownBlock ≠ some j -> w'.heap[j]? = w.heap[j]?) : Lst fnc k' T' w' B' v' l' := by
 refine ⟨h'.1, ?_⟩
 rcases h'.2 with h0 | ⟨g, cap, cur, rfl, hB, hc, h3⟩
 ·exact .inl h0
 ·refine .inr ⟨g, cap, cur, rfl, hB, (hk g (Array.getElem?_eq_some_iff.1 hc).1 (fun e => ?_)).trans hc, h3⟩
  rcases h.2 with ⟨rfl, _⟩ | ⟨g1, cap1, cur1, rfl, hB1, hc1, _⟩
  ·cases e
  ·simp [Value.ownBlock] at e
   subst e
   rw [hc1] at hc
   simp at hc
   exact hne hc.2
theorem WtB.keep {α : Type} {enc : α -> List Value} {k T : Nat} {w w' : World} {B g : Nat} {v : Value} {l : List α} {m : List Int} (h : Lst enc k T w B v l) (h' : WtB w g m) (hne : T ≠ 3)
  (hk : ∀ j, j < w.heap.size -> v.ownBlock ≠ some j -> w'.heap[j]? = w.heap[j]?) : WtB w' g m := by
 refine (hk g h'.lt (fun e => ?_)).trans h'
 rcases h.2 with ⟨rfl, _⟩ | ⟨g1, cap1, cur1, rfl, hB1, hc1, _⟩
 ·cases e
 ·simp [Value.ownBlock] at e
  subst e
  unfold WtB at h'
  rw [hc1] at h'
  simp at h'
  exact hne h'.2
def whL (L : List Int) (k : Nat) : List Int := (List.range 41).map fun j => if 1 <= j /\ j <= k then whE L j else 0
theorem whL_len (L : List Int) (k : Nat) : (whL L k).length = 41 := by simp [whL]
theorem whL_at {L : List Int} {k j : Nat} (hj : j < 41) : (whL L k).getD j 0 = if 1 <= j /\ j <= k then whE L j else 0 := by
 unfold whL
 simp [List.getD, hj]
theorem whL_zero (L : List Int) : whL L 0 = zerosB 41 := by
 apply List.ext_getElem
 ·simp [whL, zerosB]
 ·intro i h1 h2
  simp only [whL, zerosB, List.getElem_map, List.getElem_range, List.getElem_replicate]
  rw [if_neg (by omega)]
theorem whL_set {L : List Int} {k : Nat} (hk : k < 40) {c : Int} (hc : c = whE L ((k : Int) + 1)) : (whL L k).set (k + 1) c = whL L (k + 1) := by
 apply List.ext_getElem
 ·simp [whL]
 ·intro i h1 h2
  rw [List.getElem_set]
  simp only [whL, List.getElem_map, List.getElem_range]
  by_cases e : k + 1 = i
  ·subst e
   rw [if_pos rfl, if_pos (by omega), hc]
   congr 1
  ·rw [if_neg e]
   by_cases h3 : 1 <= i /\ i <= k
   ·rw [if_pos h3, if_pos (by omega)]
   ·rw [if_neg h3, if_neg (by omega)]
theorem whL_none {L : List Int} {k : Nat} (hk : k < 40) (hc : whE L ((k : Int) + 1) = 0) : whL L (k + 1) = whL L k := by
 rw [<- whL_set hk hc.symm]
 apply List.ext_getElem
 ·simp [whL]
 ·intro i h1 h2
  rw [List.getElem_set]
  by_cases e : k + 1 = i
  ·subst e
   rw [if_pos rfl]
   simp only [whL, List.getElem_map, List.getElem_range]
   rw [if_neg (by omega)]
  ·rw [if_neg e]
def stC (s : ByteArray) : List Value := [.string s]
theorem stC_len (s : ByteArray) : (stC s).length = 1 := rfl
theorem stC_one (s : ByteArray) : ∀ u ∈ stC s, u.oneCell' = true := by
 intro u hu
 unfold stC at hu
 rw [List.mem_singleton.1 hu]
 rfl
theorem info_str : (Tryz.prog.info? 9).map (fun i => (i.zero, i.size, i.bytes)) = some (some (.string ByteArray.empty), 1, 16) := by kernel_rfl
theorem info_int : (Tryz.prog.info? 3).map (fun i => (i.zero, i.size, i.bytes)) = some (some (.int .i64 0), 1, 8) := by kernel_rfl
theorem hFK_of {L : List Int} {k : Nat} {l : List (Int × Int)} (h : hFault L ((k : Int) + 1) = l) : hFK L (k + 1) = hFK L k ++ l := by
 show hFK L k ++ _ = _
 rw [h]
theorem okE_wh {L : List Int} {h : Int} : okE L h = true ↔ whE L h = 1 \/ whE L h = 2 := by
 unfold okE whE
 rw [Bool.and_eq_true, decide_eq_true_iff, decide_eq_true_iff]
 by_cases h1 : tagAt L h = 0
 ·rw [if_pos h1]; simp [h1]
 ·rw [if_neg h1]
  by_cases h2 : putE L (entOf L h) = 0
  ·rw [if_neg (by rw [h2]; simp)]
   constructor
   ·intro _; split
    ·exact .inr rfl
    ·exact .inl rfl
   ·intro _; exact ⟨h1, h2⟩
  ·rw [if_pos h2]
   constructor
   ·intro h; exact absurd h.2 h2
   ·intro h; omega
theorem Lst.cellset {α : Type} {enc : α -> List Value} {k T : Nat} {w : World} {B g i : Nat} {v c : Value} {l : List α} (h : Lst enc k T w B v l) (hg : g < B) : Lst enc k T (w.setCell ⟨g, i, none⟩ c) B v l := by
 refine ⟨h.1, ?_⟩
 rcases h.2 with h0 | ⟨g', cap', cur, rfl, hB, hc, h3⟩
 ·exact .inl h0
 ·exact .inr ⟨g', cap', cur, rfl, hB, (heap_setCell_other w ⟨g, i, none⟩ g' c (by show g' ≠ g; omega)).trans hc, h3⟩
theorem EnB.cellset {w : World} {g g' i : Nat} {c : Value} {e : (Int × Int × Int × Int)} (h : EnB w g e) (hg : g ≠ g') : EnB (w.setCell ⟨g', i, none⟩ c) g e := (heap_setCell_other w ⟨g', i, none⟩ g c hg).trans h
theorem whL_get {L : List Int} {k j : Nat} {c : Int} (hk : k < 40) (hj : j < k) : ((whL L k).set (k + 1) c).getD (j + 1) 0 = whE L ((j : Int) + 1) := by
 have h1 : j + 1 < (whL L k).length := by rw [whL_len]; omega
 rw [List.getD, List.getElem?_set_ne (by omega)]
 have := whL_at (L := L) (k := k) (j := j + 1) (by omega)
 rw [if_pos (by omega)] at this
 rw [List.getD] at this
 rw [this]
 rfl
theorem whL_self {L : List Int} {k : Nat} {c : Int} (hk : k < 40) : ((whL L k).set (k + 1) c).getD (k + 1) 0 = c := by
 have h1 : k + 1 < (whL L k).length := by rw [whL_len]; omega
 simp [List.getD, h1]
def twK (ns : List ByteArray) (s : ByteArray) (j : Nat) : Bool := (ns.take j).any (fun t => t.toList == s.toList)
theorem twK_succ {ns : List ByteArray} {s t : ByteArray} {j : Nat} (h : ns[j]? = some t) : twK ns s (j + 1) = (twK ns s j || (t.toList == s.toList)) := by
 unfold twK
 rw [List.take_add_one, h, List.any_append]
 simp
theorem twK_all {ns : List ByteArray} {s : ByteArray} : twK ns s ns.length = ns.contains s := by
 unfold twK
 rw [List.take_length]
 haveI := ba_lawful
 rw [List.contains_eq_any_beq]
 induction ns with
 | nil => rfl
 | cons t r ih =>
  rw [List.any_cons, List.any_cons, ih]
  congr 1
  by_cases e : t = s
  ·subst e
   rw [toL_iff.2 rfl, ba_beq.2 rfl]
  ·rw [toL_no e]
   cases hq : (s == t) with
   | false => rfl
   | true => exact absurd (ba_beq.1 hq).symm e
def lapV (L : List Int) (h : Int) (j : Nat) : Int := if lapK L h j = true then 2 else 1
set_option maxRecDepth 100000 in
set_option maxHeartbeats 8000000 in
theorem rChk_any (a : Option Addr) (cap : Nat) (L : List Int) (w : World) (hbs : Bs w a cap L) (hq : lenB L.length = true) :
  Calls Tryz.prog 12 #[.slice a L.length cap] w fun r w' => ∃ v, r = .returned v /\ Lst flC 2 86 w' w.heap.size v (faults L) /\ Below w.heap.size w w' := by
 have hl := lenB_iff.1 hq
 obtain ⟨i0, hi0, hz0, hz1, hz2⟩ := info_parts info_flt
 obtain ⟨i1, hi1, hy0, hy1, hy2⟩ := info_parts info_int
 have hbl := hbs.2.2.1
 have HB := hide hbs
 have HQ := hide hq
 have HBY := hide hbs.1
 have HFF : Hid (faults L = hFK L 40 ++ rFK L 8) := hide rfl
 generalize faults L = FL at *
 clear hbs hq
 go_enter Tryz.func12, Tryz.ntmps12
 go_wp2_with (at_make; refine wpList_make_int rfl _ _ 25 rfl i1 Tryz.underlying25 hi1 hy0 hy1 hy2 _ _ _ _ 41 rfl rfl rfl rfl (by omega) ?_; intro w2 hk2 hs2 hb2)
 go_loopw [3, 5] (fun v hv wr => ∃ k : Nat, k <= 40 /\ hv = .int .i64 ((k : Int) + 1) /\ Lst flC 2 86 wr (w.heap.size + 1) v (hFK L k) /\ WtB wr w.heap.size (whL L k) /\ Below w.heap.size w wr) (fun _ hv _ => 41 - (intOf hv).toNat)
 case atStart => exact ⟨0, by omega, rfl, Lst.nil _ _, by rw [whL_zero]; exact hk2, hb2⟩
 case round =>
  obtain ⟨k, hk, rfl, hown, hwt, hbel⟩ := hrel
  obtain ⟨va, vm, vc, rfl⟩ := hown.shape
  obtain ⟨wq, hwq⟩ : ∃ wq, wq = wr := ⟨wr, rfl⟩
  subst hwq
  clear hk2 hs2 hb2
  by_cases hlt : k < 40
  ·have HE := hide (rEntry_any a cap L ((k : Int) + 1) wq ((unhide HB).below hbel) (by omega) (by omega) (by omega))
   have HLN := hide (hFK_len L k)
   have hsm := ent_small (h := (k : Int) + 1) (unhide HBY) (by omega) (by omega) (by omega)
   have HF := hide (fun l h => hFK_of (L := L) (k := k) (l := l) h)
   have hfd : hFault L ((k : Int) + 1) = if whE L ((k : Int) + 1) = 0 then (if (entOf L ((k : Int) + 1)).2.1 = 0 /\ (entOf L ((k : Int) + 1)).2.2.1 = 0 then [] else [(3, (k : Int) + 1)]) else if whE L ((k : Int) + 1) = 3 then [(1, (k : Int) + 1)] else if whE L ((k : Int) + 1) = 2 then [(2, (k : Int) + 1)] else [] := rfl
   have hwd : whE L ((k : Int) + 1) = if tagAt L ((k : Int) + 1) = 0 then 0 else if putE L (entOf L ((k : Int) + 1)) ≠ 0 then 3 else lapV L ((k : Int) + 1) k := by
    unfold whE lapV
    rw [show ((k : Int) + 1 - 1).toNat = k by omega]
   rw [hfd] at HF
   have HSET := hide (fun c h => whL_set (L := L) (k := k) hlt (c := c) h)
   have HNONE := hide (fun h => whL_none (L := L) (k := k) hlt h)
   have HPUT := hide (fun (W : World) (e : (Int × Int × Int × Int)) (hW : Below wq.heap.size wq W) => rPutEntry_any a cap L e W (((unhide HB).below hbel).below hW) (unhide HQ))
   have HENT := hide (fun (W : World) (j : Nat) (hj : j < k) (hW : Below w.heap.size w W) => rEntry_any a cap L ((j : Int) + 1) W ((unhide HB).below hW) (by omega) (by omega) (by omega))
   have HOK := hide (fun (j : Nat) => okE_wh (L := L) (h := (j : Int) + 1))
   have HLP : Hid (∀ j : Nat, lapK L ((k : Int) + 1) (j + 1) = (lapK L ((k : Int) + 1) j || (okE L ((j : Int) + 1) && lapB (entOf L ((k : Int) + 1)) (entOf L ((j : Int) + 1))))) := hide (fun j => rfl)
   have HSMJ := hide (fun (j : Nat) (hj : j < k) => ent_small (h := (j : Int) + 1) (unhide HBY) (by omega) (by omega) (by omega))
   have HO := hide hown
   have HW := hide hwt
   have HBEL := hide hbel
   clear hown hwt hbel hfd
   have HPE : Hid (∀ c, putE L (entOf L ((k : Int) + 1)) = c -> putE L (entOf L ((k : Int) + 1)) = c) := hide (fun c h => h)
   generalize hent : entOf L ((k : Int) + 1) = ent at *
   have HENTQ := hide hent
   clear hent
   obtain ⟨x1, x2, x3, x4⟩ := ent
   unfold entV at HE
   dsimp only at *
   by_cases ht : tagAt L ((k : Int) + 1) = 0
   ·rw [ht] at HE
    rw [if_pos ht] at hwd
    have HWL : Hid (whL L (k + 1) = whL L k) := hide (unhide HNONE hwd)
    rw [hwd, if_pos rfl] at HF
    clear ht hwd HSET HNONE HPUT HENT HOK HLP HSMJ HPE HENTQ
    by_cases h2 : x2 = 0
    ·have h2b : (x2 == 0) = true := beq_iff_eq.2 h2
     by_cases h3 : x3 = 0
     ·have HE5 : Hid (hFK L (k + 1) = hFK L k ++ []) := hide (unhide HF _ (by rw [if_pos ⟨h2, h3⟩]))
      rw [List.append_nil] at HE5
      have h3b : (x3 == 0) = true := beq_iff_eq.2 h3
      clear HF h2 h3
      go_wp2_with fail
      refine (unhide HE).mono ?_
      rintro e w1 ⟨rfl, hb1⟩
      have hen := EnB.new w1 (x1, x2, x3, x4)
      have hbA : Below w1.heap.size w1 (w1.alloc (.cells #[.int .i64 x1, .int .i64 x2, .int .i64 x3, .int .i64 x4] 60)) := (Below.refl _ _).alloc (Nat.le_refl _) _
      have hB1 := hb1.trans (hbA.mono hb1.size)
      have HO4 := hide ((unhide HO).below hB1)
      have HW4 := hide ((unhide HW).below hB1)
      have HB4 := hide ((unhide HBEL).trans (hB1.mono (unhide HBEL).size))
      have HBQ := hide hB1
      have HEN := hide hen
      clear hb1 hen hbA hB1 HE HO HW HBEL
      go_wp2
      go_roundw
      case rel => exact ⟨k + 1, by omega, by go_num, by rw [unhide HE5]; exact unhide HO4, by rw [unhide HWL]; exact unhide HW4, unhide HB4⟩
      case measure => simp [intOf]; omega
     ·have HE5 : Hid (hFK L (k + 1) = hFK L k ++ [(3, (k : Int) + 1)]) := hide (unhide HF _ (by rw [if_neg (fun h => h3 h.2)]))
      have h3b : (x3 == 0) = false := beq_eq_false_iff_ne.2 h3
      clear HF h2 h3
      go_wp2_with fail
      refine (unhide HE).mono ?_
      rintro e w1 ⟨rfl, hb1⟩
      have hen := EnB.new w1 (x1, x2, x3, x4)
      have hbA : Below w1.heap.size w1 (w1.alloc (.cells #[.int .i64 x1, .int .i64 x2, .int .i64 x3, .int .i64 x4] 60)) := (Below.refl _ _).alloc (Nat.le_refl _) _
      have hB1 := hb1.trans (hbA.mono hb1.size)
      have HO4 := hide ((unhide HO).below hB1)
      have HW4 := hide ((unhide HW).below hB1)
      have HB4 := hide ((unhide HBEL).trans (hB1.mono (unhide HBEL).size))
      have HBQ := hide hB1
      have HEN := hide hen
      clear hb1 hen hbA hB1 HE HO HW HBEL
      have hbA : Below (w1.alloc (.cells #[.int .i64 x1, .int .i64 x2, .int .i64 x3, .int .i64 x4] 60)).heap.size (w1.alloc (.cells #[.int .i64 x1, .int .i64 x2, .int .i64 x3, .int .i64 x4] 60)) ((w1.alloc (.cells #[.int .i64 x1, .int .i64 x2, .int .i64 x3, .int .i64 x4] 60)).alloc (.cells #[.int .i64 3, .int .i64 ((k : Int) + 1)] 86)) := (Below.refl _ _).alloc (Nat.le_refl _) _
      have HOA := hide ((unhide HO4).below hbA)
      have HWA := hide ((unhide HW4).below hbA)
      have HBA := hide ((unhide HB4).trans (hbA.mono (unhide HB4).size))
      have hwsz : (w1.alloc (.cells #[.int .i64 x1, .int .i64 x2, .int .i64 x3, .int .i64 x4] 60)).heap.size = w1.heap.size + 1 := by simp
      have HGN : Hid (((w1.alloc (.cells #[.int .i64 x1, .int .i64 x2, .int .i64 x3, .int .i64 x4] 60)).alloc (.cells #[.int .i64 3, .int .i64 ((k : Int) + 1)] 86)).heap[w1.heap.size + 1]? = some (.cells (flC (3, ((k : Int) + 1))).toArray 86 (0, 0))) := hide (by have h := heap_alloc_new (w1.alloc (.cells #[.int .i64 x1, .int .i64 x2, .int .i64 x3, .int .i64 x4] 60)) (.cells #[.int .i64 3, .int .i64 ((k : Int) + 1)] 86); rw [hwsz] at h; exact h)
      have hs4 := (unhide HW4).lt
      rw [hwsz] at hs4
      clear hbA HO4 HB4 HW4 hwsz
      go_wp2_with (at_builtin; refine wpList_append_lst rfl _ _ 38 rfl (w.heap.size + 1) i0 (.agg #[.int .i64 0, .int .i64 0]) 16 Tryz.underlying38 hi0 hz0 hz1 hz2 rfl (by decide) (by decide) _ _ rfl (unhide HOA) (w1.heap.size + 1) (3, ((k : Int) + 1)) rfl (unhide HGN) rfl (flC_one _) (Nat.le_trans (unhide HLN) (by omega)) (by simp; omega) ?_)
      intro v9 w9 hown9 hbel9
      have HO9 := hide hown9
      have HW9 : Hid (WtB w9 w.heap.size _) := hide ((hbel9.block _ (Nat.lt_succ_self _)).trans (unhide HWA))
      have HB9 := hide ((unhide HBA).trans (hbel9.mono (Nat.le_succ _)))
      obtain ⟨a9, m9, c9, rfl⟩ := hown9.shape
      clear hown9 hbel9 HOA HBA HGN HWA
      go_wp2
      go_roundw
      case rel => exact ⟨k + 1, by omega, by go_num, by rw [unhide HE5]; exact unhide HO9, by rw [unhide HWL]; exact unhide HW9, unhide HB9⟩
      case measure => simp [intOf]; omega
    ·have HE5 : Hid (hFK L (k + 1) = hFK L k ++ [(3, (k : Int) + 1)]) := hide (unhide HF _ (by rw [if_neg (fun h => h2 h.1)]))
     have h2b : (x2 == 0) = false := beq_eq_false_iff_ne.2 h2
     clear HF h2
     go_wp2_with fail
     refine (unhide HE).mono ?_
     rintro e w1 ⟨rfl, hb1⟩
     have hen := EnB.new w1 (x1, x2, x3, x4)
     have hbA : Below w1.heap.size w1 (w1.alloc (.cells #[.int .i64 x1, .int .i64 x2, .int .i64 x3, .int .i64 x4] 60)) := (Below.refl _ _).alloc (Nat.le_refl _) _
     have hB1 := hb1.trans (hbA.mono hb1.size)
     have HO4 := hide ((unhide HO).below hB1)
     have HW4 := hide ((unhide HW).below hB1)
     have HB4 := hide ((unhide HBEL).trans (hB1.mono (unhide HBEL).size))
     have HBQ := hide hB1
     have HEN := hide hen
     clear hb1 hen hbA hB1 HE HO HW HBEL
     have hbA : Below (w1.alloc (.cells #[.int .i64 x1, .int .i64 x2, .int .i64 x3, .int .i64 x4] 60)).heap.size (w1.alloc (.cells #[.int .i64 x1, .int .i64 x2, .int .i64 x3, .int .i64 x4] 60)) ((w1.alloc (.cells #[.int .i64 x1, .int .i64 x2, .int .i64 x3, .int .i64 x4] 60)).alloc (.cells #[.int .i64 3, .int .i64 ((k : Int) + 1)] 86)) := (Below.refl _ _).alloc (Nat.le_refl _) _
     have HOA := hide ((unhide HO4).below hbA)
     have HWA := hide ((unhide HW4).below hbA)
     have HBA := hide ((unhide HB4).trans (hbA.mono (unhide HB4).size))
     have hwsz : (w1.alloc (.cells #[.int .i64 x1, .int .i64 x2, .int .i64 x3, .int .i64 x4] 60)).heap.size = w1.heap.size + 1 := by simp
     have HGN : Hid (((w1.alloc (.cells #[.int .i64 x1, .int .i64 x2, .int .i64 x3, .int .i64 x4] 60)).alloc (.cells #[.int .i64 3, .int .i64 ((k : Int) + 1)] 86)).heap[w1.heap.size + 1]? = some (.cells (flC (3, ((k : Int) + 1))).toArray 86 (0, 0))) := hide (by have h := heap_alloc_new (w1.alloc (.cells #[.int .i64 x1, .int .i64 x2, .int .i64 x3, .int .i64 x4] 60)) (.cells #[.int .i64 3, .int .i64 ((k : Int) + 1)] 86); rw [hwsz] at h; exact h)
     have hs4 := (unhide HW4).lt
     rw [hwsz] at hs4
     clear hbA HO4 HB4 HW4 hwsz
     go_wp2_with (at_builtin; refine wpList_append_lst rfl _ _ 38 rfl (w.heap.size + 1) i0 (.agg #[.int .i64 0, .int .i64 0]) 16 Tryz.underlying38 hi0 hz0 hz1 hz2 rfl (by decide) (by decide) _ _ rfl (unhide HOA) (w1.heap.size + 1) (3, ((k : Int) + 1)) rfl (unhide HGN) rfl (flC_one _) (Nat.le_trans (unhide HLN) (by omega)) (by simp; omega) ?_)
     intro v9 w9 hown9 hbel9
     have HO9 := hide hown9
     have HW9 : Hid (WtB w9 w.heap.size _) := hide ((hbel9.block _ (Nat.lt_succ_self _)).trans (unhide HWA))
     have HB9 := hide ((unhide HBA).trans (hbel9.mono (Nat.le_succ _)))
     obtain ⟨a9, m9, c9, rfl⟩ := hown9.shape
     clear hown9 hbel9 HOA HBA HGN HWA
     go_wp2
     go_roundw
     case rel => exact ⟨k + 1, by omega, by go_num, by rw [unhide HE5]; exact unhide HO9, by rw [unhide HWL]; exact unhide HW9, unhide HB9⟩
     case measure => simp [intOf]; omega
   ·rw [bne_iff_ne.2 ht] at HE
    rw [if_neg ht] at hwd
    by_cases hp : putE L (x1, x2, x3, x4) = 0
    ·rw [if_neg (by rw [hp]; simp)] at hwd
     have hw12 : whE L ((k : Int) + 1) = 1 \/ whE L ((k : Int) + 1) = 2 := by
      rw [hwd]; unfold lapV; split
      ·exact .inr rfl
      ·exact .inl rfl
     have HFA : Hid (hFK L (k + 1) = hFK L k ++ if lapV L ((k : Int) + 1) k = 2 then [(2, (k : Int) + 1)] else []) := hide (unhide HF _ (by rw [<- hwd]; rcases hw12 with h | h <;> rw [h] <;> rfl))
     have HWL : Hid (whL L (k + 1) = (whL L k).set (k + 1) (lapV L ((k : Int) + 1) k)) := hide (unhide HSET _ hwd.symm).symm
     clear HF hwd HSET HNONE HPE ht hw12
     go_wp2_with fail
     refine (unhide HE).mono ?_
     rintro e w1 ⟨rfl, hb1⟩
     have hen := EnB.new w1 (x1, x2, x3, x4)
     have hbA : Below w1.heap.size w1 (w1.alloc (.cells #[.int .i64 x1, .int .i64 x2, .int .i64 x3, .int .i64 x4] 60)) := (Below.refl _ _).alloc (Nat.le_refl _) _
     have hB1 := hb1.trans (hbA.mono hb1.size)
     have HO4 := hide ((unhide HO).below hB1)
     have HW4 := hide ((unhide HW).below hB1)
     have HB4 := hide ((unhide HBEL).trans (hB1.mono (unhide HBEL).size))
     have HBQ := hide hB1
     have HEN := hide hen
     clear hb1 hen hbA hB1 HE HO HW HBEL
     have HP1 := hide (unhide HPUT _ (x1, x2, x3, x4) (unhide HBQ))
     unfold entV at HP1
     dsimp only at HP1
     rw [hp] at HP1
     generalize putL L (x1, x2, x3, x4) = PL at *
     clear hp HPUT HBQ
     go_wp2_with fail
     refine (unhide HP1).mono ?_
     rintro e w5 ⟨a5, c5, rfl, hbs5, hb5⟩
     have hw5 := (unhide HW4).below hb5
     have hcell := hw5.cell (i := k + 1) (by rw [whL_len]; omega)
     have hfr := hw5.fr (k + 1)
     have hlt5 := hw5.lt
     have hne5 : w1.heap.size ≠ w.heap.size := by
      have h := (unhide HW4).lt
      have h2 := hb5.size
      intro e
      have h3 := (unhide HEN)
      rw [e] at h3
      unfold EnB at h3
      have h4 := unhide HW4
      unfold WtB at h4
      rw [h4] at h3
      simp at h3
     generalize (whL L k).getD (k + 1) 0 = old at *
     have HW5 := hide (hw5.set (k + 1) 1)
     have HE6 := hide (((unhide HEN).below hb5 (unhide HEN).lt).cellset (g' := w.heap.size) (i := k + 1) (c := .int .i64 1) hne5)
     have HO5 := hide (((unhide HO4).below hb5).cellset (g := w.heap.size) (i := k + 1) (c := .int .i64 1) (Nat.lt_succ_self _))
     have HB5 := hide (((unhide HB4).trans (hb5.mono (unhide HB4).size)).setCell (p := ⟨w.heap.size, k + 1, none⟩) (Nat.le_refl _) (.int .i64 1))
     clear hbs5 hb5 hw5 HW4 HO4 HB4 HP1 HEN
     go_wp2_with fail
     go_loopw [11] (fun jv wr => ∃ j : Nat, j <= k /\ jv = .int .i64 ((j : Int) + 1) /\ WtB wr w.heap.size ((whL L k).set (k + 1) (lapV L ((k : Int) + 1) j)) /\ Lst flC 2 86 wr (w.heap.size + 1) (.slice va vm vc) (hFK L k) /\ EnB wr w1.heap.size (x1, x2, x3, x4) /\ Below w.heap.size w wr) (fun jv _ => (k + 1) - (intOf jv).toNat)
     case atStart => exact ⟨0, by omega, rfl, unhide HW5, unhide HO5, unhide HE6, unhide HB5⟩
     case round =>
      obtain ⟨j, hj, rfl, hwtj, hoj, hej, hbj⟩ := hrel
      have HWJ := hide hwtj
      have HOJ := hide hoj
      have HEJ := hide hej
      have HBJ := hide hbj
      clear hwtj hoj hej hbj HW5 HO5 HE6 HB5 hcell hfr hlt5
      by_cases hjk : j < k
      ·have hlapj := unhide HLP j
       have hok := unhide HOK j
       have hsj := unhide HSMJ j hjk
       generalize hentj : entOf L ((j : Int) + 1) = entj at *
       obtain ⟨y1, y2, y3, y4⟩ := entj
       have HENJ := hide (unhide HENT wr j hjk (unhide HBJ))
       unfold lapB at hlapj
       dsimp only at *
       generalize hwc : whE L ((j : Int) + 1) = c at *
       rw [hentj] at HENJ
       unfold entV at HENJ
       dsimp only at HENJ
       generalize (tagAt L ((j : Int) + 1) != 0) = tb at *
       have HCQ := hide hwc
       clear hwc hentj HOK HLP HSMJ HENT HFA HWL HENTQ
       by_cases hc1 : c = 1
       ·have hok1 : okE L ((j : Int) + 1) = true := hok.2 (.inl hc1)
        have hc1b : (c == 1) = true := beq_iff_eq.2 hc1
        clear hc1 hok
        by_cases hA : x2 < y2 + y3
        ·by_cases hB : y2 < x2 + x3
         ·have HV : Hid (lapV L ((k : Int) + 1) (j + 1) = 2) := hide (by unfold lapV; rw [hlapj, decide_eq_true hA, decide_eq_true hB, hok1]; simp)
          clear hlapj
          go_wp2_with fail
          refine (unhide HENJ).mono ?_
          rintro e w6 ⟨rfl, hb6⟩
          have hbC : Below w6.heap.size w6 (w6.alloc (.cells #[.int .i64 y1, .int .i64 y2, .int .i64 y3, .int .i64 y4] 60)) := (Below.refl _ _).alloc (Nat.le_refl _) _
          have hB6 := hb6.trans (hbC.mono hb6.size)
          have HWa := hide ((unhide HWJ).below hb6)
          have HEa := hide ((unhide HEJ).below hb6 (unhide HEJ).lt)
          have HOa := hide ((unhide HOJ).below hb6)
          have HBa := hide ((unhide HBJ).trans (hb6.mono (unhide HBJ).size))
          have hwt6 := (unhide HWJ).below hB6
          have hc6 := hwt6.cell (i := j + 1) (by rw [List.length_set, whL_len]; omega)
          rw [whL_get hlt hjk] at hc6
          have hself := hwt6.cell (i := k + 1) (by rw [List.length_set, whL_len]; omega)
          rw [whL_self hlt] at hself
          have hfr6 := hwt6.fr (k + 1)
          have hen6 := (unhide HEJ).below hB6 (unhide HEJ).lt
          obtain ⟨d0, d1, d2, d3⟩ := hen6.cells
          obtain ⟨f0, f1, f2, f3⟩ := (EnB.new w6 (y1, y2, y3, y4)).cells
          have HW6 := hide hwt6
          have HE6 := hide hen6
          have HO6 := hide ((unhide HOJ).below hB6)
          have HB6 := hide ((unhide HBJ).trans (hB6.mono (unhide HBJ).size))
          have hg6 : w.heap.size < w6.heap.size := Nat.lt_of_lt_of_le (unhide HWJ).lt hb6.size
          have he6 : w1.heap.size < w6.heap.size := Nat.lt_of_lt_of_le (unhide HEJ).lt hb6.size
          dsimp only at d0 d1 d2 d3 f0 f1 f2 f3
          rw [unhide HCQ] at hc6
          clear hwt6 hen6 hb6 hbC hB6 HWJ HEJ HOJ HBJ HENJ
          have hbD : Below (w6.setCell ⟨w.heap.size, k + 1, none⟩ (.int .i64 2)).heap.size (w6.setCell ⟨w.heap.size, k + 1, none⟩ (.int .i64 2)) ((w6.setCell ⟨w.heap.size, k + 1, none⟩ (.int .i64 2)).alloc (.cells #[.int .i64 y1, .int .i64 y2, .int .i64 y3, .int .i64 y4] 60)) := (Below.refl _ _).alloc (Nat.le_refl _) _
          have hw7 := (unhide HWa).set (k + 1) 2
          rw [List.set_set] at hw7
          have HW7 := hide (hw7.below hbD)
          have HO7 := hide (((unhide HOa).cellset (g := w.heap.size) (i := k + 1) (c := .int .i64 2) (Nat.lt_succ_self _)).below hbD)
          have he7 := (unhide HEa).cellset (g' := w.heap.size) (i := k + 1) (c := .int .i64 2) hne5
          have HE7 := hide (he7.below hbD he7.lt)
          have hb7 := (unhide HBa).setCell (p := ⟨w.heap.size, k + 1, none⟩) (Nat.le_refl _) (.int .i64 2)
          have HB7 := hide (hb7.trans (hbD.mono hb7.size))
          have hcw6 := (unhide HWa).cell (i := k + 1) (by rw [List.length_set, whL_len]; omega)
          rw [whL_self hlt] at hcw6
          have hfw6 := (unhide HWa).fr (k + 1)
          clear HW6 HO6 HE6 HB6 hbD hw7 he7 hb7 HWa HEa HOa HBa
          go_wp2
          go_roundw
          case rel => exact ⟨j + 1, by omega, by go_num, by rw [unhide HV]; exact unhide HW7, unhide HO7, unhide HE7, unhide HB7⟩
          case measure => simp [intOf]; omega
         ·have HV : Hid (lapV L ((k : Int) + 1) (j + 1) = lapV L ((k : Int) + 1) j) := hide (by unfold lapV; rw [hlapj, decide_eq_false hB, Bool.and_false, Bool.and_false, Bool.or_false])
          clear hlapj
          go_wp2_with fail
          refine (unhide HENJ).mono ?_
          rintro e w6 ⟨rfl, hb6⟩
          have hbC : Below w6.heap.size w6 (w6.alloc (.cells #[.int .i64 y1, .int .i64 y2, .int .i64 y3, .int .i64 y4] 60)) := (Below.refl _ _).alloc (Nat.le_refl _) _
          have hB6 := hb6.trans (hbC.mono hb6.size)
          have HWa := hide ((unhide HWJ).below hb6)
          have HEa := hide ((unhide HEJ).below hb6 (unhide HEJ).lt)
          have HOa := hide ((unhide HOJ).below hb6)
          have HBa := hide ((unhide HBJ).trans (hb6.mono (unhide HBJ).size))
          have hwt6 := (unhide HWJ).below hB6
          have hc6 := hwt6.cell (i := j + 1) (by rw [List.length_set, whL_len]; omega)
          rw [whL_get hlt hjk] at hc6
          have hself := hwt6.cell (i := k + 1) (by rw [List.length_set, whL_len]; omega)
          rw [whL_self hlt] at hself
          have hfr6 := hwt6.fr (k + 1)
          have hen6 := (unhide HEJ).below hB6 (unhide HEJ).lt
          obtain ⟨d0, d1, d2, d3⟩ := hen6.cells
          obtain ⟨f0, f1, f2, f3⟩ := (EnB.new w6 (y1, y2, y3, y4)).cells
          have HW6 := hide hwt6
          have HE6 := hide hen6
          have HO6 := hide ((unhide HOJ).below hB6)
          have HB6 := hide ((unhide HBJ).trans (hB6.mono (unhide HBJ).size))
          have hg6 : w.heap.size < w6.heap.size := Nat.lt_of_lt_of_le (unhide HWJ).lt hb6.size
          have he6 : w1.heap.size < w6.heap.size := Nat.lt_of_lt_of_le (unhide HEJ).lt hb6.size
          dsimp only at d0 d1 d2 d3 f0 f1 f2 f3
          rw [unhide HCQ] at hc6
          clear hwt6 hen6 hb6 hbC hB6 HWJ HEJ HOJ HBJ HENJ
          clear HWa HEa HOa HBa
          go_wp2
          go_roundw
          case rel => exact ⟨j + 1, by omega, by go_num, by rw [unhide HV]; exact unhide HW6, unhide HO6, unhide HE6, unhide HB6⟩
          case measure => simp [intOf]; omega
        ·have HV : Hid (lapV L ((k : Int) + 1) (j + 1) = lapV L ((k : Int) + 1) j) := hide (by unfold lapV; rw [hlapj, decide_eq_false hA, Bool.false_and, Bool.and_false, Bool.or_false])
         clear hlapj
         go_wp2_with fail
         refine (unhide HENJ).mono ?_
         rintro e w6 ⟨rfl, hb6⟩
         have hbC : Below w6.heap.size w6 (w6.alloc (.cells #[.int .i64 y1, .int .i64 y2, .int .i64 y3, .int .i64 y4] 60)) := (Below.refl _ _).alloc (Nat.le_refl _) _
         have hB6 := hb6.trans (hbC.mono hb6.size)
         have HWa := hide ((unhide HWJ).below hb6)
         have HEa := hide ((unhide HEJ).below hb6 (unhide HEJ).lt)
         have HOa := hide ((unhide HOJ).below hb6)
         have HBa := hide ((unhide HBJ).trans (hb6.mono (unhide HBJ).size))
         have hwt6 := (unhide HWJ).below hB6
         have hc6 := hwt6.cell (i := j + 1) (by rw [List.length_set, whL_len]; omega)
         rw [whL_get hlt hjk] at hc6
         have hself := hwt6.cell (i := k + 1) (by rw [List.length_set, whL_len]; omega)
         rw [whL_self hlt] at hself
         have hfr6 := hwt6.fr (k + 1)
         have hen6 := (unhide HEJ).below hB6 (unhide HEJ).lt
         obtain ⟨d0, d1, d2, d3⟩ := hen6.cells
         obtain ⟨f0, f1, f2, f3⟩ := (EnB.new w6 (y1, y2, y3, y4)).cells
         have HW6 := hide hwt6
         have HE6 := hide hen6
         have HO6 := hide ((unhide HOJ).below hB6)
         have HB6 := hide ((unhide HBJ).trans (hB6.mono (unhide HBJ).size))
         have hg6 : w.heap.size < w6.heap.size := Nat.lt_of_lt_of_le (unhide HWJ).lt hb6.size
         have he6 : w1.heap.size < w6.heap.size := Nat.lt_of_lt_of_le (unhide HEJ).lt hb6.size
         dsimp only at d0 d1 d2 d3 f0 f1 f2 f3
         rw [unhide HCQ] at hc6
         clear hwt6 hen6 hb6 hbC hB6 HWJ HEJ HOJ HBJ HENJ
         clear HWa HEa HOa HBa
         go_wp2
         go_roundw
         case rel => exact ⟨j + 1, by omega, by go_num, by rw [unhide HV]; exact unhide HW6, unhide HO6, unhide HE6, unhide HB6⟩
         case measure => simp [intOf]; omega
       ·have hc1b : (c == 1) = false := beq_eq_false_iff_ne.2 hc1
        by_cases hc2 : c = 2
        ·have hok1 : okE L ((j : Int) + 1) = true := hok.2 (.inr hc2)
         have hc2b : (c == 2) = true := beq_iff_eq.2 hc2
         clear hc1 hc2 hok
         by_cases hA : x2 < y2 + y3
         ·by_cases hB : y2 < x2 + x3
          ·have HV : Hid (lapV L ((k : Int) + 1) (j + 1) = 2) := hide (by unfold lapV; rw [hlapj, decide_eq_true hA, decide_eq_true hB, hok1]; simp)
           clear hlapj
           go_wp2_with fail
           refine (unhide HENJ).mono ?_
           rintro e w6 ⟨rfl, hb6⟩
           have hbC : Below w6.heap.size w6 (w6.alloc (.cells #[.int .i64 y1, .int .i64 y2, .int .i64 y3, .int .i64 y4] 60)) := (Below.refl _ _).alloc (Nat.le_refl _) _
           have hB6 := hb6.trans (hbC.mono hb6.size)
           have HWa := hide ((unhide HWJ).below hb6)
           have HEa := hide ((unhide HEJ).below hb6 (unhide HEJ).lt)
           have HOa := hide ((unhide HOJ).below hb6)
           have HBa := hide ((unhide HBJ).trans (hb6.mono (unhide HBJ).size))
           have hwt6 := (unhide HWJ).below hB6
           have hc6 := hwt6.cell (i := j + 1) (by rw [List.length_set, whL_len]; omega)
           rw [whL_get hlt hjk] at hc6
           have hself := hwt6.cell (i := k + 1) (by rw [List.length_set, whL_len]; omega)
           rw [whL_self hlt] at hself
           have hfr6 := hwt6.fr (k + 1)
           have hen6 := (unhide HEJ).below hB6 (unhide HEJ).lt
           obtain ⟨d0, d1, d2, d3⟩ := hen6.cells
           obtain ⟨f0, f1, f2, f3⟩ := (EnB.new w6 (y1, y2, y3, y4)).cells
           have HW6 := hide hwt6
           have HE6 := hide hen6
           have HO6 := hide ((unhide HOJ).below hB6)
           have HB6 := hide ((unhide HBJ).trans (hB6.mono (unhide HBJ).size))
           have hg6 : w.heap.size < w6.heap.size := Nat.lt_of_lt_of_le (unhide HWJ).lt hb6.size
           have he6 : w1.heap.size < w6.heap.size := Nat.lt_of_lt_of_le (unhide HEJ).lt hb6.size
           dsimp only at d0 d1 d2 d3 f0 f1 f2 f3
           rw [unhide HCQ] at hc6
           clear hwt6 hen6 hb6 hbC hB6 HWJ HEJ HOJ HBJ HENJ
           have hbD : Below (w6.setCell ⟨w.heap.size, k + 1, none⟩ (.int .i64 2)).heap.size (w6.setCell ⟨w.heap.size, k + 1, none⟩ (.int .i64 2)) ((w6.setCell ⟨w.heap.size, k + 1, none⟩ (.int .i64 2)).alloc (.cells #[.int .i64 y1, .int .i64 y2, .int .i64 y3, .int .i64 y4] 60)) := (Below.refl _ _).alloc (Nat.le_refl _) _
           have hw7 := (unhide HWa).set (k + 1) 2
           rw [List.set_set] at hw7
           have HW7 := hide (hw7.below hbD)
           have HO7 := hide (((unhide HOa).cellset (g := w.heap.size) (i := k + 1) (c := .int .i64 2) (Nat.lt_succ_self _)).below hbD)
           have he7 := (unhide HEa).cellset (g' := w.heap.size) (i := k + 1) (c := .int .i64 2) hne5
           have HE7 := hide (he7.below hbD he7.lt)
           have hb7 := (unhide HBa).setCell (p := ⟨w.heap.size, k + 1, none⟩) (Nat.le_refl _) (.int .i64 2)
           have HB7 := hide (hb7.trans (hbD.mono hb7.size))
           have hcw6 := (unhide HWa).cell (i := k + 1) (by rw [List.length_set, whL_len]; omega)
           rw [whL_self hlt] at hcw6
           have hfw6 := (unhide HWa).fr (k + 1)
           clear HW6 HO6 HE6 HB6 hbD hw7 he7 hb7 HWa HEa HOa HBa
           go_wp2
           go_roundw
           case rel => exact ⟨j + 1, by omega, by go_num, by rw [unhide HV]; exact unhide HW7, unhide HO7, unhide HE7, unhide HB7⟩
           case measure => simp [intOf]; omega
          ·have HV : Hid (lapV L ((k : Int) + 1) (j + 1) = lapV L ((k : Int) + 1) j) := hide (by unfold lapV; rw [hlapj, decide_eq_false hB, Bool.and_false, Bool.and_false, Bool.or_false])
           clear hlapj
           go_wp2_with fail
           refine (unhide HENJ).mono ?_
           rintro e w6 ⟨rfl, hb6⟩
           have hbC : Below w6.heap.size w6 (w6.alloc (.cells #[.int .i64 y1, .int .i64 y2, .int .i64 y3, .int .i64 y4] 60)) := (Below.refl _ _).alloc (Nat.le_refl _) _
           have hB6 := hb6.trans (hbC.mono hb6.size)
           have HWa := hide ((unhide HWJ).below hb6)
           have HEa := hide ((unhide HEJ).below hb6 (unhide HEJ).lt)
           have HOa := hide ((unhide HOJ).below hb6)
           have HBa := hide ((unhide HBJ).trans (hb6.mono (unhide HBJ).size))
           have hwt6 := (unhide HWJ).below hB6
           have hc6 := hwt6.cell (i := j + 1) (by rw [List.length_set, whL_len]; omega)
           rw [whL_get hlt hjk] at hc6
           have hself := hwt6.cell (i := k + 1) (by rw [List.length_set, whL_len]; omega)
           rw [whL_self hlt] at hself
           have hfr6 := hwt6.fr (k + 1)
           have hen6 := (unhide HEJ).below hB6 (unhide HEJ).lt
           obtain ⟨d0, d1, d2, d3⟩ := hen6.cells
           obtain ⟨f0, f1, f2, f3⟩ := (EnB.new w6 (y1, y2, y3, y4)).cells
           have HW6 := hide hwt6
           have HE6 := hide hen6
           have HO6 := hide ((unhide HOJ).below hB6)
           have HB6 := hide ((unhide HBJ).trans (hB6.mono (unhide HBJ).size))
           have hg6 : w.heap.size < w6.heap.size := Nat.lt_of_lt_of_le (unhide HWJ).lt hb6.size
           have he6 : w1.heap.size < w6.heap.size := Nat.lt_of_lt_of_le (unhide HEJ).lt hb6.size
           dsimp only at d0 d1 d2 d3 f0 f1 f2 f3
           rw [unhide HCQ] at hc6
           clear hwt6 hen6 hb6 hbC hB6 HWJ HEJ HOJ HBJ HENJ
           clear HWa HEa HOa HBa
           go_wp2
           go_roundw
           case rel => exact ⟨j + 1, by omega, by go_num, by rw [unhide HV]; exact unhide HW6, unhide HO6, unhide HE6, unhide HB6⟩
           case measure => simp [intOf]; omega
         ·have HV : Hid (lapV L ((k : Int) + 1) (j + 1) = lapV L ((k : Int) + 1) j) := hide (by unfold lapV; rw [hlapj, decide_eq_false hA, Bool.false_and, Bool.and_false, Bool.or_false])
          clear hlapj
          go_wp2_with fail
          refine (unhide HENJ).mono ?_
          rintro e w6 ⟨rfl, hb6⟩
          have hbC : Below w6.heap.size w6 (w6.alloc (.cells #[.int .i64 y1, .int .i64 y2, .int .i64 y3, .int .i64 y4] 60)) := (Below.refl _ _).alloc (Nat.le_refl _) _
          have hB6 := hb6.trans (hbC.mono hb6.size)
          have HWa := hide ((unhide HWJ).below hb6)
          have HEa := hide ((unhide HEJ).below hb6 (unhide HEJ).lt)
          have HOa := hide ((unhide HOJ).below hb6)
          have HBa := hide ((unhide HBJ).trans (hb6.mono (unhide HBJ).size))
          have hwt6 := (unhide HWJ).below hB6
          have hc6 := hwt6.cell (i := j + 1) (by rw [List.length_set, whL_len]; omega)
          rw [whL_get hlt hjk] at hc6
          have hself := hwt6.cell (i := k + 1) (by rw [List.length_set, whL_len]; omega)
          rw [whL_self hlt] at hself
          have hfr6 := hwt6.fr (k + 1)
          have hen6 := (unhide HEJ).below hB6 (unhide HEJ).lt
          obtain ⟨d0, d1, d2, d3⟩ := hen6.cells
          obtain ⟨f0, f1, f2, f3⟩ := (EnB.new w6 (y1, y2, y3, y4)).cells
          have HW6 := hide hwt6
          have HE6 := hide hen6
          have HO6 := hide ((unhide HOJ).below hB6)
          have HB6 := hide ((unhide HBJ).trans (hB6.mono (unhide HBJ).size))
          have hg6 : w.heap.size < w6.heap.size := Nat.lt_of_lt_of_le (unhide HWJ).lt hb6.size
          have he6 : w1.heap.size < w6.heap.size := Nat.lt_of_lt_of_le (unhide HEJ).lt hb6.size
          dsimp only at d0 d1 d2 d3 f0 f1 f2 f3
          rw [unhide HCQ] at hc6
          clear hwt6 hen6 hb6 hbC hB6 HWJ HEJ HOJ HBJ HENJ
          clear HWa HEa HOa HBa
          go_wp2
          go_roundw
          case rel => exact ⟨j + 1, by omega, by go_num, by rw [unhide HV]; exact unhide HW6, unhide HO6, unhide HE6, unhide HB6⟩
          case measure => simp [intOf]; omega
        ·have hc2b : (c == 2) = false := beq_eq_false_iff_ne.2 hc2
         have hok1 : okE L ((j : Int) + 1) = false := by
          cases hq : okE L ((j : Int) + 1) with
          | false => rfl
          | true =>
           rcases hok.1 hq with h | h
           ·exact absurd h hc1
           ·exact absurd h hc2
         have HV : Hid (lapV L ((k : Int) + 1) (j + 1) = lapV L ((k : Int) + 1) j) := hide (by unfold lapV; rw [hlapj, hok1, Bool.false_and, Bool.or_false])
         clear hlapj hc1 hc2 hok
         go_wp2_with fail
         refine (unhide HENJ).mono ?_
         rintro e w6 ⟨rfl, hb6⟩
         have hbC : Below w6.heap.size w6 (w6.alloc (.cells #[.int .i64 y1, .int .i64 y2, .int .i64 y3, .int .i64 y4] 60)) := (Below.refl _ _).alloc (Nat.le_refl _) _
         have hB6 := hb6.trans (hbC.mono hb6.size)
         have HWa := hide ((unhide HWJ).below hb6)
         have HEa := hide ((unhide HEJ).below hb6 (unhide HEJ).lt)
         have HOa := hide ((unhide HOJ).below hb6)
         have HBa := hide ((unhide HBJ).trans (hb6.mono (unhide HBJ).size))
         have hwt6 := (unhide HWJ).below hB6
         have hc6 := hwt6.cell (i := j + 1) (by rw [List.length_set, whL_len]; omega)
         rw [whL_get hlt hjk] at hc6
         have hself := hwt6.cell (i := k + 1) (by rw [List.length_set, whL_len]; omega)
         rw [whL_self hlt] at hself
         have hfr6 := hwt6.fr (k + 1)
         have hen6 := (unhide HEJ).below hB6 (unhide HEJ).lt
         obtain ⟨d0, d1, d2, d3⟩ := hen6.cells
         obtain ⟨f0, f1, f2, f3⟩ := (EnB.new w6 (y1, y2, y3, y4)).cells
         have HW6 := hide hwt6
         have HE6 := hide hen6
         have HO6 := hide ((unhide HOJ).below hB6)
         have HB6 := hide ((unhide HBJ).trans (hB6.mono (unhide HBJ).size))
         have hg6 : w.heap.size < w6.heap.size := Nat.lt_of_lt_of_le (unhide HWJ).lt hb6.size
         have he6 : w1.heap.size < w6.heap.size := Nat.lt_of_lt_of_le (unhide HEJ).lt hb6.size
         dsimp only at d0 d1 d2 d3 f0 f1 f2 f3
         rw [unhide HCQ] at hc6
         clear hwt6 hen6 hb6 hbC hB6 HWJ HEJ HOJ HBJ HENJ
         clear HWa HEa HOa HBa
         go_wp2
         go_roundw
         case rel => exact ⟨j + 1, by omega, by go_num, by rw [unhide HV]; exact unhide HW6, unhide HO6, unhide HE6, unhide HB6⟩
         case measure => simp [intOf]; omega
      ·obtain rfl : j = k := by omega
       have hwk := unhide HWJ
       have hself := hwk.cell (i := j + 1) (by rw [List.length_set, whL_len]; omega)
       rw [whL_self hlt] at hself
       have hlv : lapV L ((j : Int) + 1) j = 1 \/ lapV L ((j : Int) + 1) j = 2 := by
        unfold lapV; split
        ·exact .inr rfl
        ·exact .inl rfl
       have hltw := hwk.lt
       have HW4 := HWJ
       have HO4 := HOJ
       have HB4 := HBJ
       clear hwk HWJ HOJ HBJ HEJ HENT HOK HLP HSMJ HENTQ
       generalize lapV L ((j : Int) + 1) j = lv at *
       rcases hlv with rfl | rfl
       ·have HE5 : Hid (hFK L (j + 1) = hFK L j) := hide (by have := unhide HFA; rwa [if_neg (by decide), List.append_nil] at this)
        clear HFA
        go_wp2
        go_roundw
        case rel => exact ⟨j + 1, by omega, by go_num, by rw [unhide HE5]; exact unhide HO4, by rw [unhide HWL]; exact unhide HW4, unhide HB4⟩
        case measure => simp [intOf]; omega
       ·have HE5 : Hid (hFK L (j + 1) = hFK L j ++ [(2, (j : Int) + 1)]) := hide (by have := unhide HFA; rwa [if_pos rfl] at this)
        clear HFA
        have hbA : Below wr.heap.size wr (wr.alloc (.cells #[.int .i64 2, .int .i64 ((j : Int) + 1)] 86)) := (Below.refl _ _).alloc (Nat.le_refl _) _
        have HOA := hide ((unhide HO4).below hbA)
        have HWA := hide ((unhide HW4).below hbA)
        have HBA := hide ((unhide HB4).trans (hbA.mono (unhide HB4).size))
        have hwsz : wr.heap.size = wr.heap.size := by simp
        have HGN : Hid ((wr.alloc (.cells #[.int .i64 2, .int .i64 ((j : Int) + 1)] 86)).heap[wr.heap.size]? = some (.cells (flC (2, ((j : Int) + 1))).toArray 86 (0, 0))) := hide (by have h := heap_alloc_new wr (.cells #[.int .i64 2, .int .i64 ((j : Int) + 1)] 86); rw [hwsz] at h; exact h)
        have hs4 := (unhide HW4).lt
        rw [hwsz] at hs4
        clear hbA HO4 HB4 HW4 hwsz
        go_wp2_with (at_builtin; refine wpList_append_lst rfl _ _ 38 rfl (w.heap.size + 1) i0 (.agg #[.int .i64 0, .int .i64 0]) 16 Tryz.underlying38 hi0 hz0 hz1 hz2 rfl (by decide) (by decide) _ _ rfl (unhide HOA) (wr.heap.size) (2, ((j : Int) + 1)) rfl (unhide HGN) rfl (flC_one _) (Nat.le_trans (unhide HLN) (by omega)) (by simp; omega) ?_)
        intro v9 w9 hown9 hbel9
        have HO9 := hide hown9
        have HW9 : Hid (WtB w9 w.heap.size _) := hide ((hbel9.block _ (Nat.lt_succ_self _)).trans (unhide HWA))
        have HB9 := hide ((unhide HBA).trans (hbel9.mono (Nat.le_succ _)))
        obtain ⟨a9, m9, c9, rfl⟩ := hown9.shape
        clear hown9 hbel9 HOA HBA HGN HWA
        go_wp2
        go_roundw
        case rel => exact ⟨j + 1, by omega, by go_num, by rw [unhide HE5]; exact unhide HO9, by rw [unhide HWL]; exact unhide HW9, unhide HB9⟩
        case measure => simp [intOf]; omega
    ·rw [if_pos hp] at hwd
     rw [hwd, if_neg (by decide), if_pos rfl] at HF
     have HE5 : Hid (hFK L (k + 1) = hFK L k ++ [(1, (k : Int) + 1)]) := hide (unhide HF _ rfl)
     have HWL : Hid (whL L (k + 1) = (whL L k).set (k + 1) 3) := hide (unhide HSET 3 hwd.symm).symm
     clear HF hwd HSET HNONE HENT HOK HLP HSMJ HPE HENTQ ht
     go_wp2_with fail
     refine (unhide HE).mono ?_
     rintro e w1 ⟨rfl, hb1⟩
     have hen := EnB.new w1 (x1, x2, x3, x4)
     have hbA : Below w1.heap.size w1 (w1.alloc (.cells #[.int .i64 x1, .int .i64 x2, .int .i64 x3, .int .i64 x4] 60)) := (Below.refl _ _).alloc (Nat.le_refl _) _
     have hB1 := hb1.trans (hbA.mono hb1.size)
     have HO4 := hide ((unhide HO).below hB1)
     have HW4 := hide ((unhide HW).below hB1)
     have HB4 := hide ((unhide HBEL).trans (hB1.mono (unhide HBEL).size))
     have HBQ := hide hB1
     have HEN := hide hen
     clear hb1 hen hbA hB1 HE HO HW HBEL
     have HP1 := hide (unhide HPUT _ (x1, x2, x3, x4) (unhide HBQ))
     unfold entV at HP1
     dsimp only at HP1
     generalize putL L (x1, x2, x3, x4) = PL at *
     generalize putE L (x1, x2, x3, x4) = PE at *
     have hpb : (PE != 0) = true := bne_iff_ne.2 hp
     clear hp HPUT HBQ
     go_wp2_with fail
     refine (unhide HP1).mono ?_
     rintro e w5 ⟨a5, c5, rfl, hbs5, hb5⟩
     have hw5 := (unhide HW4).below hb5
     have hcell := hw5.cell (i := k + 1) (by rw [whL_len]; omega)
     have hfr := hw5.fr (k + 1)
     have hlt5 := hw5.lt
     generalize (whL L k).getD (k + 1) 0 = old at *
     have HW5 := hide (hw5.set (k + 1) 3)
     have HO5 := hide (((unhide HO4).below hb5).cellset (g := w.heap.size) (i := k + 1) (c := .int .i64 3) (Nat.lt_succ_self _))
     have HB5 := hide (((unhide HB4).trans (hb5.mono (unhide HB4).size)).setCell (p := ⟨w.heap.size, k + 1, none⟩) (Nat.le_refl _) (.int .i64 3))
     clear hbs5 hb5 hw5 HW4 HO4 HB4 HP1
     have HW4 := HW5
     have HO4 := HO5
     have HB4 := HB5
     clear HW5 HO5 HB5
     have hbA : Below (w5.setCell ⟨w.heap.size, k + 1, none⟩ (.int .i64 3)).heap.size (w5.setCell ⟨w.heap.size, k + 1, none⟩ (.int .i64 3)) ((w5.setCell ⟨w.heap.size, k + 1, none⟩ (.int .i64 3)).alloc (.cells #[.int .i64 1, .int .i64 ((k : Int) + 1)] 86)) := (Below.refl _ _).alloc (Nat.le_refl _) _
     have HOA := hide ((unhide HO4).below hbA)
     have HWA := hide ((unhide HW4).below hbA)
     have HBA := hide ((unhide HB4).trans (hbA.mono (unhide HB4).size))
     have hwsz : (w5.setCell ⟨w.heap.size, k + 1, none⟩ (.int .i64 3)).heap.size = w5.heap.size := by simp
     have HGN : Hid (((w5.setCell ⟨w.heap.size, k + 1, none⟩ (.int .i64 3)).alloc (.cells #[.int .i64 1, .int .i64 ((k : Int) + 1)] 86)).heap[w5.heap.size]? = some (.cells (flC (1, ((k : Int) + 1))).toArray 86 (0, 0))) := hide (by have h := heap_alloc_new (w5.setCell ⟨w.heap.size, k + 1, none⟩ (.int .i64 3)) (.cells #[.int .i64 1, .int .i64 ((k : Int) + 1)] 86); rw [hwsz] at h; exact h)
     have hs4 := (unhide HW4).lt
     rw [hwsz] at hs4
     clear hbA HO4 HB4 HW4 hwsz
     go_wp2_with (at_builtin; refine wpList_append_lst rfl _ _ 38 rfl (w.heap.size + 1) i0 (.agg #[.int .i64 0, .int .i64 0]) 16 Tryz.underlying38 hi0 hz0 hz1 hz2 rfl (by decide) (by decide) _ _ rfl (unhide HOA) (w5.heap.size) (1, ((k : Int) + 1)) rfl (unhide HGN) rfl (flC_one _) (Nat.le_trans (unhide HLN) (by omega)) (by simp; omega) ?_)
     intro v9 w9 hown9 hbel9
     have HO9 := hide hown9
     have HW9 : Hid (WtB w9 w.heap.size _) := hide ((hbel9.block _ (Nat.lt_succ_self _)).trans (unhide HWA))
     have HB9 := hide ((unhide HBA).trans (hbel9.mono (Nat.le_succ _)))
     obtain ⟨a9, m9, c9, rfl⟩ := hown9.shape
     clear hown9 hbel9 HOA HBA HGN HWA
     go_wp2
     go_roundw
     case rel => exact ⟨k + 1, by omega, by go_num, by rw [unhide HE5]; exact unhide HO9, by rw [unhide HWL]; exact unhide HW9, unhide HB9⟩
     case measure => simp [intOf]; omega
  ·have h40 : k = 40 := by omega
   have hge : ¬ ((k : Int) + 1 <= 40) := by omega
   rw [h40] at hown hwt
   clear hlt hk h40
   have HO1 := hide hown
   have HW1 := hide hwt
   have HB1 := hide hbel
   have HWG : Hid (∀ x : Int, 1 <= x -> x <= 40 -> (whL L 40).getD x.toNat 0 = whE L x) := hide (fun x h1 h2 => by
    obtain ⟨n, rfl⟩ := Int.eq_ofNat_of_zero_le (show 0 <= x by omega)
    rw [Int.toNat_natCast, whL_at (by omega), if_pos (by omega)])
   have HWN : Hid ((whL L 40).length = 41) := hide (whL_len L 40)
   have HFN : Hid ((hFK L 40).length <= 40) := hide (hFK_len L 40)
   have HFL : Hid (FL = hFK L 40 ++ rFK L 8) := hide (unhide HFF)
   generalize hFK L 40 = F1 at *
   generalize whL L 40 = WL at *
   clear hown hwt hbel HFF
   obtain ⟨i2, hi2, hx0, hx1, hx2⟩ := info_parts info_str
   go_wp2_with fail
   go_loopw [3, 14, 15] (fun v nv iv wr => ∃ i : Nat, i <= 8 /\ iv = .int .i64 (i : Int) /\ Lst flC 2 86 wr (w.heap.size + 1) v (F1 ++ rFK L i) /\ Lst stC 1 9 wr (w.heap.size + 1) nv (nmsK L i) /\ WtB wr w.heap.size WL /\ Below w.heap.size w wr) (fun _ _ iv _ => 8 - (intOf iv).toNat)
   case atStart => exact ⟨0, by omega, rfl, by rw [show F1 ++ rFK L 0 = F1 from List.append_nil _]; exact unhide HO1, Lst.nil _ _, unhide HW1, unhide HB1⟩
   case round =>
    obtain ⟨i, hi, rfl, hown, hnm, hwt, hbel⟩ := hrel
    clear HO1 HW1 HB1
    obtain ⟨va, vm, vc, rfl⟩ := hown.shape
    obtain ⟨na, nc, rfl, hnsl⟩ := hnm.sls stC_len (Nat.le_trans (nmsK_len L i) (by omega))
    by_cases hlt : i < 8
    ·have hbs := (unhide HB).below hbel
     have HRA := hide (rRootAt_any a cap L i wr hbs (by omega) (by omega) hlt)
     have h11 : (rowAt L i).length = 11 := rowAt_len (by omega)
     have HZ := hide (fun (a' : Option Addr) (c' : Nat) (h : Bs wr a' c' (rowAt L i)) => rZero_any a' c' (rowAt L i) wr h)
     rw [h11] at HZ
     have HLN : Hid ((F1 ++ rFK L i).length <= 48) := hide (by rw [List.length_append]; have := unhide HFN; have := rFK_len L i; omega)
     have hfr : rFault L i = if isRoot (rowAt L i) = false then [] else if badR L i = true then [(4, (i : Int))] else if (nmsK L i).contains (nameAt L i) = true then [(5, (i : Int))] else [] := rfl
     have hfi : fineR L i (nmsK L i) = (isRoot (rowAt L i) && (!badR L i && !(nmsK L i).contains (nameAt L i))) := rfl
     have HF0 := hide (fun h => rFK_no (L := L) (k := i) h)
     have HF1 := hide (fun f h => rFK_one (L := L) (k := i) (f := f) h)
     have HK0 := hide (fun h => nmsK_no (L := L) (k := i) h)
     have HK1 := hide (fun h => nmsK_one (L := L) (k := i) h)
     rw [hfr] at HF0 HF1
     rw [hfi] at HK0 HK1
     have HO := hide hown
     have HN := hide hnm
     have HW := hide hwt
     have HBL := hide hbel
     have HNS := hide hnsl
     clear hown hnm hwt hbel hnsl hbs hfr hfi
     cases hR : isRoot (rowAt L i) with
     | false =>
      rw [hR] at HF0 HK0 HZ
      have HE5 : Hid (F1 ++ rFK L (i + 1) = F1 ++ rFK L i) := hide (by rw [unhide HF0 rfl])
      have HG5 : Hid (nmsK L (i + 1) = nmsK L i) := hide (unhide HK0 rfl)
      clear HF0 HF1 HK0 HK1 hR
      go_wp2_with fail
      refine (unhide HRA).mono ?_
      rintro e w3 ⟨a3, c3, rfl, hbs3, hw3⟩
      subst hw3
      have HZ3 := hide (unhide HZ a3 c3 hbs3)
      have HBS3 := hide hbs3
      clear hbs3
      go_wp2_with (go_at_call 36; refine (unhide HZ3).mono ?_; rintro e w4 ⟨rfl, hw4⟩; subst hw4)
      go_roundw
      case rel => exact ⟨i + 1, by omega, by go_num, by rw [unhide HE5]; exact unhide HO, by rw [unhide HG5]; exact unhide HN, unhide HW, unhide HBL⟩
      case measure => simp [intOf]; omega
     | true =>
      have hbd : badR L i = (decide ((readOut ((rowAt L i).take 8)).2 ≠ 0) || (decide ((rowAt L i).getD 8 0 ≠ 0) || (decide ((rowAt L i).getD 9 0 ≠ 0) || (!hndB ((rowAt L i).getD 10 0) || decide (whE L ((rowAt L i).getD 10 0) ≠ 1))))) := rfl
      rw [hR] at HF0 HF1 HK0 HK1 HZ
      rw [hbd] at HF0 HF1 HK0 HK1
      have hnm : nameAt L i = (readOut ((rowAt L i).take 8)).1 := rfl
      rw [hnm] at HF0 HF1 HK0 HK1
      have HNL := hide (nmsK_len L i)
      have hb10 : 0 <= (rowAt L i).getD 10 0 /\ (rowAt L i).getD 10 0 <= 255 := by
       rw [rowAt_getD (by omega)]
       exact (unhide HBY).getD _
      have HHD := hide (fun W => rHandle_any ((rowAt L i).getD 10 0) W)
      have HCW : Hid (hndB ((rowAt L i).getD 10 0) = true -> wr.cell? ⟨w.heap.size, ((rowAt L i).getD 10 0).toNat, none⟩ = some (.int .i64 (whE L ((rowAt L i).getD 10 0)))) := hide (fun h => by
       have hx := hndB_iff.1 h
       have h2 := (unhide HW).cell (i := ((rowAt L i).getD 10 0).toNat) (by rw [unhide HWN]; omega)
       rw [unhide HWG _ hx.1 hx.2] at h2
       exact h2)
      have hwl : w.heap.size < wr.heap.size := (unhide HW).lt
      clear hR hbd hnm
      generalize hrow : rowAt L i = row at *
      generalize hs : (readOut (row.take 8)).1 = s at *
      generalize hc : (readOut (row.take 8)).2 = c at *
      generalize hr8 : row.getD 8 0 = r8 at *
      generalize hr9 : row.getD 9 0 = r9 at *
      generalize hr10 : row.getD 10 0 = x at *
      generalize hwx : whE L x = v at *
      generalize hN : nmsK L i = ns at *
      generalize hNN : ns.length = NN at *
      clear hrow hwx hN
      have HNN := hide hNN
      have hnn8 : NN <= 8 := by have := unhide HNL; omega
      clear hNN
      by_cases h1 : c = 0
      ·have h1b : (c != 0) = false := by rw [h1]; rfl
       rw [decide_eq_false (fun h => h h1)] at HF0 HF1 HK0 HK1
       rw [Bool.false_or] at HF0 HF1 HK0 HK1
       by_cases h2 : r8 = 0
       ·have h2b : (r8 != 0) = false := by rw [h2]; rfl
        rw [decide_eq_false (fun h => h h2)] at HF0 HF1 HK0 HK1
        rw [Bool.false_or] at HF0 HF1 HK0 HK1
        by_cases h3 : r9 = 0
        ·have h3b : (r9 != 0) = false := by rw [h3]; rfl
         rw [decide_eq_false (fun h => h h3)] at HF0 HF1 HK0 HK1
         rw [Bool.false_or] at HF0 HF1 HK0 HK1
         cases hx : hndB x with
         | false =>
          rw [hx] at HHD
          rw [hx] at HF0 HF1 HK0 HK1
          rw [Bool.not_false] at HF0 HF1 HK0 HK1
          rw [Bool.true_or] at HF0 HF1 HK0 HK1
          have HE5 : Hid (F1 ++ rFK L (i + 1) = F1 ++ (rFK L i ++ [(4, (i : Int))])) := hide (by rw [unhide HF1 _ rfl])
          have HG5 : Hid (nmsK L (i + 1) = ns) := hide (unhide HK0 rfl)
          clear HF0 HF1 HK0 HK1
          go_wp2_with fail
          refine (unhide HRA).mono ?_
          rintro e w3 ⟨a3, c3, rfl, hbs3, hw3⟩
          subst hw3
          have HZ3 := hide (unhide HZ a3 c3 hbs3)
          obtain ⟨a8, hs8, hb8⟩ := slice_hi (P := Tryz.prog) (t := 22) Tryz.underlying22 size_u8 hbs3 8 (by omega)
          have HRD := hide (rRead_any a8 c3 (row.take 8) wr hb8)
          rw [show (row.take 8).length = 8 by rw [List.length_take]; omega, hc, hs] at HRD
          obtain ⟨b3, o3, rfl, hcells⟩ := hbs3.2.2.2.2 (by intro e; rw [e] at h11; simp at h11)
          have q8 := hcells 8 (by omega)
          have q9 := hcells 9 (by omega)
          have q10 := hcells 10 (by omega)
          rw [hr8] at q8
          rw [hr9] at q9
          rw [hr10] at q10
          rw [h11, show ((8 : Nat) : Int) = 8 from rfl] at hs8
          have hlt3 := block_lt_of_cell q8
          dsimp only at hlt3
          clear hcells hb8 hbs3 HRA HZ
          have hbA : Below wr.heap.size wr (wr.alloc (.cells #[.int .i64 4, .int .i64 (i : Int)] 86)) := (Below.refl _ _).alloc (Nat.le_refl _) _
          have HOA := hide ((unhide HO).below hbA)
          have HNA := hide ((unhide HN).below hbA)
          have HWA := hide ((unhide HW).below hbA)
          have HBA := hide ((unhide HBL).trans (hbA.mono (unhide HBL).size))
          have HGN : Hid ((wr.alloc (.cells #[.int .i64 4, .int .i64 (i : Int)] 86)).heap[wr.heap.size]? = some (.cells (flC (4, (i : Int))).toArray 86 (0, 0))) := hide (heap_alloc_new wr _)
          have hs4 := (unhide HW).lt
          clear hbA HO HN HW HBL
          go_wp2_with (first | (go_at_call 36; refine (unhide HZ3).mono ?_; rintro e w4 ⟨rfl, hw4⟩; subst hw4) | (go_at_call 37; refine (unhide HRD).mono ?_; rintro e w5 ⟨rfl, hw5⟩; subst hw5) | (go_at_call 38; refine (unhide HHD _).mono ?_; rintro e w6 ⟨rfl, hw6⟩; subst hw6) | (at_builtin; refine wpList_append_lst2 rfl _ _ 38 rfl (w.heap.size + 1) i0 (.agg #[.int .i64 0, .int .i64 0]) 16 Tryz.underlying38 hi0 hz0 hz1 hz2 rfl (by decide) (by decide) _ _ rfl (unhide HOA) wr.heap.size (4, (i : Int)) rfl (unhide HGN) rfl (flC_one _) (Nat.le_trans (unhide HLN) (by omega)) (by simp; omega) ?_))
          intro v9 w9 hown9 hbel9 hkeep
          have HO9 := hide hown9
          have hkp : ∀ j, j < (wr.alloc (.cells #[.int .i64 4, .int .i64 (i : Int)] 86)).heap.size -> (Value.slice va vm vc).ownBlock ≠ some j -> w9.heap[j]? = (wr.alloc (.cells #[.int .i64 4, .int .i64 (i : Int)] 86)).heap[j]? := fun j hj => hkeep j (by simpa using hj)
          have HN9 := hide ((unhide HOA).keep (unhide HNA) (by decide) hkp)
          have HW9 : Hid (WtB w9 w.heap.size _) := hide ((hbel9.block _ (Nat.lt_succ_self _)).trans (unhide HWA))
          have HB9 := hide ((unhide HBA).trans (hbel9.mono (Nat.le_succ _)))
          obtain ⟨a9, m9, c9, rfl⟩ := hown9.shape
          clear hown9 hbel9 hkeep hkp HOA HBA HGN HWA HNA
          go_wp2
          go_roundw
          case rel => exact ⟨i + 1, by omega, by go_num, by rw [unhide HE5]; exact unhide HO9, by rw [unhide HG5]; exact unhide HN9, unhide HW9, unhide HB9⟩
          case measure => simp [intOf]; omega
         | true =>
          rw [hx] at HHD
          have hcw := unhide HCW hx
          have hx40 := hndB_iff.1 hx
          rw [hx] at HF0 HF1 HK0 HK1
          rw [Bool.not_true] at HF0 HF1 HK0 HK1
          rw [Bool.false_or] at HF0 HF1 HK0 HK1
          by_cases h4 : v = 1
          ·have h4b : (v != 1) = false := by rw [h4]; rfl
           rw [decide_eq_false (fun h => h h4)] at HF0 HF1 HK0 HK1
           have HCI : Hid (twK ns s NN = ns.contains s) := hide (by rw [<- unhide HNN]; exact twK_all)
           generalize hC : ns.contains s = C at *
           clear hC
           go_wp2_with fail
           refine (unhide HRA).mono ?_
           rintro e w3 ⟨a3, c3, rfl, hbs3, hw3⟩
           subst hw3
           have HZ3 := hide (unhide HZ a3 c3 hbs3)
           obtain ⟨a8, hs8, hb8⟩ := slice_hi (P := Tryz.prog) (t := 22) Tryz.underlying22 size_u8 hbs3 8 (by omega)
           have HRD := hide (rRead_any a8 c3 (row.take 8) wr hb8)
           rw [show (row.take 8).length = 8 by rw [List.length_take]; omega, hc, hs] at HRD
           obtain ⟨b3, o3, rfl, hcells⟩ := hbs3.2.2.2.2 (by intro e; rw [e] at h11; simp at h11)
           have q8 := hcells 8 (by omega)
           have q9 := hcells 9 (by omega)
           have q10 := hcells 10 (by omega)
           rw [hr8] at q8
           rw [hr9] at q9
           rw [hr10] at q10
           rw [h11, show ((8 : Nat) : Int) = 8 from rfl] at hs8
           have hlt3 := block_lt_of_cell q8
           dsimp only at hlt3
           clear hcells hb8 hbs3 HRA HZ
           go_wp2_with (first | (go_at_call 36; refine (unhide HZ3).mono ?_; rintro e w4 ⟨rfl, hw4⟩; subst hw4) | (go_at_call 37; refine (unhide HRD).mono ?_; rintro e w5 ⟨rfl, hw5⟩; subst hw5) | (go_at_call 38; refine (unhide HHD _).mono ?_; rintro e w6 ⟨rfl, hw6⟩; subst hw6))
           clear HZ3 HRD HHD hs8 q8 q9 q10
           go_loopw [22, 23] (fun tv jv wi => ∃ j : Nat, j <= NN /\ jv = .int .i64 (j : Int) /\ tv = .bool (twK ns s j) /\ wi = wr) (fun _ jv _ => NN - (intOf jv).toNat)
           case atStart => exact ⟨0, Nat.zero_le _, rfl, rfl, rfl⟩
           case round =>
            obtain ⟨j, hj, rfl, rfl, hwi⟩ := hrel
            subst hwi
            by_cases hjl : j < NN
            ·have hjn : j < ns.length := by rw [unhide HNN]; exact hjl
             obtain ⟨bn, on, rfl, hcn⟩ := (unhide HNS).2.2.2 (by intro e; rw [e] at hjn; simp at hjn)
             obtain ⟨t, htj⟩ : ∃ t, ns[j]? = some t := ⟨ns[j], List.getElem?_eq_getElem hjn⟩
             have qn := hcn j t htj 0 _ rfl
             rw [Nat.mul_one, Nat.add_zero] at qn
             have HTS := hide (twK_succ (s := s) htj)
             clear hcn htj hjn
             generalize twK ns s j = A at *
             cases A with
             | true =>
              go_wp2
              go_roundw
              case rel => exact ⟨j + 1, by omega, by go_num, congrArg Value.bool (unhide HTS).symm, trivial⟩
              case measure => simp [intOf]; omega
             | false =>
              generalize hts : (t.toList == s.toList) = B at *
              cases B with
              | true =>
               go_wp2
               go_roundw
               case rel => exact ⟨j + 1, by omega, by go_num, congrArg Value.bool (unhide HTS).symm, trivial⟩
               case measure => simp [intOf]; omega
              | false =>
               go_wp2
               go_roundw
               case rel => exact ⟨j + 1, by omega, by go_num, congrArg Value.bool (unhide HTS).symm, trivial⟩
               case measure => simp [intOf]; omega
            ·have hjq : j = NN := by omega
             have hci := unhide HCI
             rw [<- hjq] at hci
             have hge2 : ¬ ((j : Int) < (NN : Int)) := by omega
             clear hjl hj hjq HCI
             generalize twK ns s j = A at *
             cases A with
             | true =>
              obtain rfl : C = true := hci.symm
              have HE5 : Hid (F1 ++ rFK L (i + 1) = F1 ++ (rFK L i ++ [(5, (i : Int))])) := hide (by rw [unhide HF1 _ rfl])
              have HG5 : Hid (nmsK L (i + 1) = ns) := hide (unhide HK0 rfl)
              clear HF0 HF1 HK0 HK1 hci
              have hbA : Below wr.heap.size wr (wr.alloc (.cells #[.int .i64 5, .int .i64 (i : Int)] 86)) := (Below.refl _ _).alloc (Nat.le_refl _) _
              have HOA := hide ((unhide HO).below hbA)
              have HNA := hide ((unhide HN).below hbA)
              have HWA := hide ((unhide HW).below hbA)
              have HBA := hide ((unhide HBL).trans (hbA.mono (unhide HBL).size))
              have HGN : Hid ((wr.alloc (.cells #[.int .i64 5, .int .i64 (i : Int)] 86)).heap[wr.heap.size]? = some (.cells (flC (5, (i : Int))).toArray 86 (0, 0))) := hide (heap_alloc_new wr _)
              have hs4 := (unhide HW).lt
              clear hbA HO HN HW HBL
              go_wp2_with ((at_builtin; refine wpList_append_lst2 rfl _ _ 38 rfl (w.heap.size + 1) i0 (.agg #[.int .i64 0, .int .i64 0]) 16 Tryz.underlying38 hi0 hz0 hz1 hz2 rfl (by decide) (by decide) _ _ rfl (unhide HOA) wr.heap.size (5, (i : Int)) rfl (unhide HGN) rfl (flC_one _) (Nat.le_trans (unhide HLN) (by omega)) (by simp; omega) ?_))
              intro v9 w9 hown9 hbel9 hkeep
              have HO9 := hide hown9
              have hkp : ∀ j, j < (wr.alloc (.cells #[.int .i64 5, .int .i64 (i : Int)] 86)).heap.size -> (Value.slice va vm vc).ownBlock ≠ some j -> w9.heap[j]? = (wr.alloc (.cells #[.int .i64 5, .int .i64 (i : Int)] 86)).heap[j]? := fun j hj => hkeep j (by simpa using hj)
              have HN9 := hide ((unhide HOA).keep (unhide HNA) (by decide) hkp)
              have HW9 : Hid (WtB w9 w.heap.size _) := hide ((hbel9.block _ (Nat.lt_succ_self _)).trans (unhide HWA))
              have HB9 := hide ((unhide HBA).trans (hbel9.mono (Nat.le_succ _)))
              obtain ⟨a9, m9, c9, rfl⟩ := hown9.shape
              clear hown9 hbel9 hkeep hkp HOA HBA HGN HWA HNA
              go_wp2
              go_roundw
              case rel => exact ⟨i + 1, by omega, by go_num, by rw [unhide HE5]; exact unhide HO9, by rw [unhide HG5]; exact unhide HN9, unhide HW9, unhide HB9⟩
              case measure => simp [intOf]; omega
             | false =>
              obtain rfl : C = false := hci.symm
              have HE5 : Hid (F1 ++ rFK L (i + 1) = F1 ++ rFK L i) := hide (by rw [unhide HF0 rfl])
              have HG5 : Hid (nmsK L (i + 1) = ns ++ [s]) := hide (unhide HK1 rfl)
              clear HF0 HF1 HK0 HK1 hci
              have hbA : Below wr.heap.size wr (wr.alloc (.cells #[.string s] 9)) := (Below.refl _ _).alloc (Nat.le_refl _) _
              have HOA := hide ((unhide HO).below hbA)
              have HNA := hide ((unhide HN).below hbA)
              have HWA := hide ((unhide HW).below hbA)
              have HBA := hide ((unhide HBL).trans (hbA.mono (unhide HBL).size))
              have HGN : Hid ((wr.alloc (.cells #[.string s] 9)).heap[wr.heap.size]? = some (.cells (stC s).toArray 9 (0, 0))) := hide (heap_alloc_new wr _)
              have hs4 := (unhide HW).lt
              clear hbA HO HN HW HBL
              go_wp2_with (at_builtin; refine wpList_append_lst2 rfl _ _ 61 rfl (w.heap.size + 1) i2 (.string ByteArray.empty) 16 Tryz.underlying61 hi2 hx0 hx1 hx2 rfl (by decide) (by decide) _ _ rfl (unhide HNA) wr.heap.size s rfl (unhide HGN) rfl (stC_one _) (by rw [unhide HNN]; have := unhide HNL; omega) (by simp; omega) ?_)
              intro v9 w9 hown9 hbel9 hkeep
              have HN9 := hide hown9
              have hkp : ∀ j, j < (wr.alloc (.cells #[.string s] 9)).heap.size -> (Value.slice na NN nc).ownBlock ≠ some j -> w9.heap[j]? = (wr.alloc (.cells #[.string s] 9)).heap[j]? := fun j hj => hkeep j (by simpa using hj)
              have HO9 := hide ((unhide HNA).keep (unhide HOA) (by decide) hkp)
              have HW9 : Hid (WtB w9 w.heap.size _) := hide ((hbel9.block _ (Nat.lt_succ_self _)).trans (unhide HWA))
              have HB9 := hide ((unhide HBA).trans (hbel9.mono (Nat.le_succ _)))
              obtain ⟨a9, m9, c9, rfl⟩ := hown9.shape
              clear hown9 hbel9 hkeep hkp HOA HBA HGN HWA HNA
              go_wp2
              go_roundw
              case rel => exact ⟨i + 1, by omega, by go_num, by rw [unhide HE5]; exact unhide HO9, by rw [unhide HG5]; exact unhide HN9, unhide HW9, unhide HB9⟩
              case measure => simp [intOf]; omega
          ·have h4b : (v != 1) = true := bne_iff_ne.2 h4
           rw [decide_eq_true h4] at HF0 HF1 HK0 HK1
           have HE5 : Hid (F1 ++ rFK L (i + 1) = F1 ++ (rFK L i ++ [(4, (i : Int))])) := hide (by rw [unhide HF1 _ rfl])
           have HG5 : Hid (nmsK L (i + 1) = ns) := hide (unhide HK0 rfl)
           clear HF0 HF1 HK0 HK1
           go_wp2_with fail
           refine (unhide HRA).mono ?_
           rintro e w3 ⟨a3, c3, rfl, hbs3, hw3⟩
           subst hw3
           have HZ3 := hide (unhide HZ a3 c3 hbs3)
           obtain ⟨a8, hs8, hb8⟩ := slice_hi (P := Tryz.prog) (t := 22) Tryz.underlying22 size_u8 hbs3 8 (by omega)
           have HRD := hide (rRead_any a8 c3 (row.take 8) wr hb8)
           rw [show (row.take 8).length = 8 by rw [List.length_take]; omega, hc, hs] at HRD
           obtain ⟨b3, o3, rfl, hcells⟩ := hbs3.2.2.2.2 (by intro e; rw [e] at h11; simp at h11)
           have q8 := hcells 8 (by omega)
           have q9 := hcells 9 (by omega)
           have q10 := hcells 10 (by omega)
           rw [hr8] at q8
           rw [hr9] at q9
           rw [hr10] at q10
           rw [h11, show ((8 : Nat) : Int) = 8 from rfl] at hs8
           have hlt3 := block_lt_of_cell q8
           dsimp only at hlt3
           clear hcells hb8 hbs3 HRA HZ
           have hbA : Below wr.heap.size wr (wr.alloc (.cells #[.int .i64 4, .int .i64 (i : Int)] 86)) := (Below.refl _ _).alloc (Nat.le_refl _) _
           have HOA := hide ((unhide HO).below hbA)
           have HNA := hide ((unhide HN).below hbA)
           have HWA := hide ((unhide HW).below hbA)
           have HBA := hide ((unhide HBL).trans (hbA.mono (unhide HBL).size))
           have HGN : Hid ((wr.alloc (.cells #[.int .i64 4, .int .i64 (i : Int)] 86)).heap[wr.heap.size]? = some (.cells (flC (4, (i : Int))).toArray 86 (0, 0))) := hide (heap_alloc_new wr _)
           have hs4 := (unhide HW).lt
           clear hbA HO HN HW HBL
           go_wp2_with (first | (go_at_call 36; refine (unhide HZ3).mono ?_; rintro e w4 ⟨rfl, hw4⟩; subst hw4) | (go_at_call 37; refine (unhide HRD).mono ?_; rintro e w5 ⟨rfl, hw5⟩; subst hw5) | (go_at_call 38; refine (unhide HHD _).mono ?_; rintro e w6 ⟨rfl, hw6⟩; subst hw6) | (at_builtin; refine wpList_append_lst2 rfl _ _ 38 rfl (w.heap.size + 1) i0 (.agg #[.int .i64 0, .int .i64 0]) 16 Tryz.underlying38 hi0 hz0 hz1 hz2 rfl (by decide) (by decide) _ _ rfl (unhide HOA) wr.heap.size (4, (i : Int)) rfl (unhide HGN) rfl (flC_one _) (Nat.le_trans (unhide HLN) (by omega)) (by simp; omega) ?_))
           intro v9 w9 hown9 hbel9 hkeep
           have HO9 := hide hown9
           have hkp : ∀ j, j < (wr.alloc (.cells #[.int .i64 4, .int .i64 (i : Int)] 86)).heap.size -> (Value.slice va vm vc).ownBlock ≠ some j -> w9.heap[j]? = (wr.alloc (.cells #[.int .i64 4, .int .i64 (i : Int)] 86)).heap[j]? := fun j hj => hkeep j (by simpa using hj)
           have HN9 := hide ((unhide HOA).keep (unhide HNA) (by decide) hkp)
           have HW9 : Hid (WtB w9 w.heap.size _) := hide ((hbel9.block _ (Nat.lt_succ_self _)).trans (unhide HWA))
           have HB9 := hide ((unhide HBA).trans (hbel9.mono (Nat.le_succ _)))
           obtain ⟨a9, m9, c9, rfl⟩ := hown9.shape
           clear hown9 hbel9 hkeep hkp HOA HBA HGN HWA HNA
           go_wp2
           go_roundw
           case rel => exact ⟨i + 1, by omega, by go_num, by rw [unhide HE5]; exact unhide HO9, by rw [unhide HG5]; exact unhide HN9, unhide HW9, unhide HB9⟩
           case measure => simp [intOf]; omega
        ·have h3b : (r9 != 0) = true := bne_iff_ne.2 h3
         rw [decide_eq_true h3] at HF0 HF1 HK0 HK1
         rw [Bool.true_or] at HF0 HF1 HK0 HK1
         have HE5 : Hid (F1 ++ rFK L (i + 1) = F1 ++ (rFK L i ++ [(4, (i : Int))])) := hide (by rw [unhide HF1 _ rfl])
         have HG5 : Hid (nmsK L (i + 1) = ns) := hide (unhide HK0 rfl)
         clear HF0 HF1 HK0 HK1
         go_wp2_with fail
         refine (unhide HRA).mono ?_
         rintro e w3 ⟨a3, c3, rfl, hbs3, hw3⟩
         subst hw3
         have HZ3 := hide (unhide HZ a3 c3 hbs3)
         obtain ⟨a8, hs8, hb8⟩ := slice_hi (P := Tryz.prog) (t := 22) Tryz.underlying22 size_u8 hbs3 8 (by omega)
         have HRD := hide (rRead_any a8 c3 (row.take 8) wr hb8)
         rw [show (row.take 8).length = 8 by rw [List.length_take]; omega, hc, hs] at HRD
         obtain ⟨b3, o3, rfl, hcells⟩ := hbs3.2.2.2.2 (by intro e; rw [e] at h11; simp at h11)
         have q8 := hcells 8 (by omega)
         have q9 := hcells 9 (by omega)
         have q10 := hcells 10 (by omega)
         rw [hr8] at q8
         rw [hr9] at q9
         rw [hr10] at q10
         rw [h11, show ((8 : Nat) : Int) = 8 from rfl] at hs8
         have hlt3 := block_lt_of_cell q8
         dsimp only at hlt3
         clear hcells hb8 hbs3 HRA HZ
         have hbA : Below wr.heap.size wr (wr.alloc (.cells #[.int .i64 4, .int .i64 (i : Int)] 86)) := (Below.refl _ _).alloc (Nat.le_refl _) _
         have HOA := hide ((unhide HO).below hbA)
         have HNA := hide ((unhide HN).below hbA)
         have HWA := hide ((unhide HW).below hbA)
         have HBA := hide ((unhide HBL).trans (hbA.mono (unhide HBL).size))
         have HGN : Hid ((wr.alloc (.cells #[.int .i64 4, .int .i64 (i : Int)] 86)).heap[wr.heap.size]? = some (.cells (flC (4, (i : Int))).toArray 86 (0, 0))) := hide (heap_alloc_new wr _)
         have hs4 := (unhide HW).lt
         clear hbA HO HN HW HBL
         go_wp2_with (first | (go_at_call 36; refine (unhide HZ3).mono ?_; rintro e w4 ⟨rfl, hw4⟩; subst hw4) | (go_at_call 37; refine (unhide HRD).mono ?_; rintro e w5 ⟨rfl, hw5⟩; subst hw5) | (go_at_call 38; refine (unhide HHD _).mono ?_; rintro e w6 ⟨rfl, hw6⟩; subst hw6) | (at_builtin; refine wpList_append_lst2 rfl _ _ 38 rfl (w.heap.size + 1) i0 (.agg #[.int .i64 0, .int .i64 0]) 16 Tryz.underlying38 hi0 hz0 hz1 hz2 rfl (by decide) (by decide) _ _ rfl (unhide HOA) wr.heap.size (4, (i : Int)) rfl (unhide HGN) rfl (flC_one _) (Nat.le_trans (unhide HLN) (by omega)) (by simp; omega) ?_))
         intro v9 w9 hown9 hbel9 hkeep
         have HO9 := hide hown9
         have hkp : ∀ j, j < (wr.alloc (.cells #[.int .i64 4, .int .i64 (i : Int)] 86)).heap.size -> (Value.slice va vm vc).ownBlock ≠ some j -> w9.heap[j]? = (wr.alloc (.cells #[.int .i64 4, .int .i64 (i : Int)] 86)).heap[j]? := fun j hj => hkeep j (by simpa using hj)
         have HN9 := hide ((unhide HOA).keep (unhide HNA) (by decide) hkp)
         have HW9 : Hid (WtB w9 w.heap.size _) := hide ((hbel9.block _ (Nat.lt_succ_self _)).trans (unhide HWA))
         have HB9 := hide ((unhide HBA).trans (hbel9.mono (Nat.le_succ _)))
         obtain ⟨a9, m9, c9, rfl⟩ := hown9.shape
         clear hown9 hbel9 hkeep hkp HOA HBA HGN HWA HNA
         go_wp2
         go_roundw
         case rel => exact ⟨i + 1, by omega, by go_num, by rw [unhide HE5]; exact unhide HO9, by rw [unhide HG5]; exact unhide HN9, unhide HW9, unhide HB9⟩
         case measure => simp [intOf]; omega
       ·have h2b : (r8 != 0) = true := bne_iff_ne.2 h2
        rw [decide_eq_true h2] at HF0 HF1 HK0 HK1
        rw [Bool.true_or] at HF0 HF1 HK0 HK1
        have HE5 : Hid (F1 ++ rFK L (i + 1) = F1 ++ (rFK L i ++ [(4, (i : Int))])) := hide (by rw [unhide HF1 _ rfl])
        have HG5 : Hid (nmsK L (i + 1) = ns) := hide (unhide HK0 rfl)
        clear HF0 HF1 HK0 HK1
        go_wp2_with fail
        refine (unhide HRA).mono ?_
        rintro e w3 ⟨a3, c3, rfl, hbs3, hw3⟩
        subst hw3
        have HZ3 := hide (unhide HZ a3 c3 hbs3)
        obtain ⟨a8, hs8, hb8⟩ := slice_hi (P := Tryz.prog) (t := 22) Tryz.underlying22 size_u8 hbs3 8 (by omega)
        have HRD := hide (rRead_any a8 c3 (row.take 8) wr hb8)
        rw [show (row.take 8).length = 8 by rw [List.length_take]; omega, hc, hs] at HRD
        obtain ⟨b3, o3, rfl, hcells⟩ := hbs3.2.2.2.2 (by intro e; rw [e] at h11; simp at h11)
        have q8 := hcells 8 (by omega)
        have q9 := hcells 9 (by omega)
        have q10 := hcells 10 (by omega)
        rw [hr8] at q8
        rw [hr9] at q9
        rw [hr10] at q10
        rw [h11, show ((8 : Nat) : Int) = 8 from rfl] at hs8
        have hlt3 := block_lt_of_cell q8
        dsimp only at hlt3
        clear hcells hb8 hbs3 HRA HZ
        have hbA : Below wr.heap.size wr (wr.alloc (.cells #[.int .i64 4, .int .i64 (i : Int)] 86)) := (Below.refl _ _).alloc (Nat.le_refl _) _
        have HOA := hide ((unhide HO).below hbA)
        have HNA := hide ((unhide HN).below hbA)
        have HWA := hide ((unhide HW).below hbA)
        have HBA := hide ((unhide HBL).trans (hbA.mono (unhide HBL).size))
        have HGN : Hid ((wr.alloc (.cells #[.int .i64 4, .int .i64 (i : Int)] 86)).heap[wr.heap.size]? = some (.cells (flC (4, (i : Int))).toArray 86 (0, 0))) := hide (heap_alloc_new wr _)
        have hs4 := (unhide HW).lt
        clear hbA HO HN HW HBL
        go_wp2_with (first | (go_at_call 36; refine (unhide HZ3).mono ?_; rintro e w4 ⟨rfl, hw4⟩; subst hw4) | (go_at_call 37; refine (unhide HRD).mono ?_; rintro e w5 ⟨rfl, hw5⟩; subst hw5) | (go_at_call 38; refine (unhide HHD _).mono ?_; rintro e w6 ⟨rfl, hw6⟩; subst hw6) | (at_builtin; refine wpList_append_lst2 rfl _ _ 38 rfl (w.heap.size + 1) i0 (.agg #[.int .i64 0, .int .i64 0]) 16 Tryz.underlying38 hi0 hz0 hz1 hz2 rfl (by decide) (by decide) _ _ rfl (unhide HOA) wr.heap.size (4, (i : Int)) rfl (unhide HGN) rfl (flC_one _) (Nat.le_trans (unhide HLN) (by omega)) (by simp; omega) ?_))
        intro v9 w9 hown9 hbel9 hkeep
        have HO9 := hide hown9
        have hkp : ∀ j, j < (wr.alloc (.cells #[.int .i64 4, .int .i64 (i : Int)] 86)).heap.size -> (Value.slice va vm vc).ownBlock ≠ some j -> w9.heap[j]? = (wr.alloc (.cells #[.int .i64 4, .int .i64 (i : Int)] 86)).heap[j]? := fun j hj => hkeep j (by simpa using hj)
        have HN9 := hide ((unhide HOA).keep (unhide HNA) (by decide) hkp)
        have HW9 : Hid (WtB w9 w.heap.size _) := hide ((hbel9.block _ (Nat.lt_succ_self _)).trans (unhide HWA))
        have HB9 := hide ((unhide HBA).trans (hbel9.mono (Nat.le_succ _)))
        obtain ⟨a9, m9, c9, rfl⟩ := hown9.shape
        clear hown9 hbel9 hkeep hkp HOA HBA HGN HWA HNA
        go_wp2
        go_roundw
        case rel => exact ⟨i + 1, by omega, by go_num, by rw [unhide HE5]; exact unhide HO9, by rw [unhide HG5]; exact unhide HN9, unhide HW9, unhide HB9⟩
        case measure => simp [intOf]; omega
      ·have h1b : (c != 0) = true := bne_iff_ne.2 h1
       rw [decide_eq_true h1] at HF0 HF1 HK0 HK1
       rw [Bool.true_or] at HF0 HF1 HK0 HK1
       have HE5 : Hid (F1 ++ rFK L (i + 1) = F1 ++ (rFK L i ++ [(4, (i : Int))])) := hide (by rw [unhide HF1 _ rfl])
       have HG5 : Hid (nmsK L (i + 1) = ns) := hide (unhide HK0 rfl)
       clear HF0 HF1 HK0 HK1
       go_wp2_with fail
       refine (unhide HRA).mono ?_
       rintro e w3 ⟨a3, c3, rfl, hbs3, hw3⟩
       subst hw3
       have HZ3 := hide (unhide HZ a3 c3 hbs3)
       obtain ⟨a8, hs8, hb8⟩ := slice_hi (P := Tryz.prog) (t := 22) Tryz.underlying22 size_u8 hbs3 8 (by omega)
       have HRD := hide (rRead_any a8 c3 (row.take 8) wr hb8)
       rw [show (row.take 8).length = 8 by rw [List.length_take]; omega, hc, hs] at HRD
       obtain ⟨b3, o3, rfl, hcells⟩ := hbs3.2.2.2.2 (by intro e; rw [e] at h11; simp at h11)
       have q8 := hcells 8 (by omega)
       have q9 := hcells 9 (by omega)
       have q10 := hcells 10 (by omega)
       rw [hr8] at q8
       rw [hr9] at q9
       rw [hr10] at q10
       rw [h11, show ((8 : Nat) : Int) = 8 from rfl] at hs8
       have hlt3 := block_lt_of_cell q8
       dsimp only at hlt3
       clear hcells hb8 hbs3 HRA HZ
       have hbA : Below wr.heap.size wr (wr.alloc (.cells #[.int .i64 4, .int .i64 (i : Int)] 86)) := (Below.refl _ _).alloc (Nat.le_refl _) _
       have HOA := hide ((unhide HO).below hbA)
       have HNA := hide ((unhide HN).below hbA)
       have HWA := hide ((unhide HW).below hbA)
       have HBA := hide ((unhide HBL).trans (hbA.mono (unhide HBL).size))
       have HGN : Hid ((wr.alloc (.cells #[.int .i64 4, .int .i64 (i : Int)] 86)).heap[wr.heap.size]? = some (.cells (flC (4, (i : Int))).toArray 86 (0, 0))) := hide (heap_alloc_new wr _)
       have hs4 := (unhide HW).lt
       clear hbA HO HN HW HBL
       go_wp2_with (first | (go_at_call 36; refine (unhide HZ3).mono ?_; rintro e w4 ⟨rfl, hw4⟩; subst hw4) | (go_at_call 37; refine (unhide HRD).mono ?_; rintro e w5 ⟨rfl, hw5⟩; subst hw5) | (go_at_call 38; refine (unhide HHD _).mono ?_; rintro e w6 ⟨rfl, hw6⟩; subst hw6) | (at_builtin; refine wpList_append_lst2 rfl _ _ 38 rfl (w.heap.size + 1) i0 (.agg #[.int .i64 0, .int .i64 0]) 16 Tryz.underlying38 hi0 hz0 hz1 hz2 rfl (by decide) (by decide) _ _ rfl (unhide HOA) wr.heap.size (4, (i : Int)) rfl (unhide HGN) rfl (flC_one _) (Nat.le_trans (unhide HLN) (by omega)) (by simp; omega) ?_))
       intro v9 w9 hown9 hbel9 hkeep
       have HO9 := hide hown9
       have hkp : ∀ j, j < (wr.alloc (.cells #[.int .i64 4, .int .i64 (i : Int)] 86)).heap.size -> (Value.slice va vm vc).ownBlock ≠ some j -> w9.heap[j]? = (wr.alloc (.cells #[.int .i64 4, .int .i64 (i : Int)] 86)).heap[j]? := fun j hj => hkeep j (by simpa using hj)
       have HN9 := hide ((unhide HOA).keep (unhide HNA) (by decide) hkp)
       have HW9 : Hid (WtB w9 w.heap.size _) := hide ((hbel9.block _ (Nat.lt_succ_self _)).trans (unhide HWA))
       have HB9 := hide ((unhide HBA).trans (hbel9.mono (Nat.le_succ _)))
       obtain ⟨a9, m9, c9, rfl⟩ := hown9.shape
       clear hown9 hbel9 hkeep hkp HOA HBA HGN HWA HNA
       go_wp2
       go_roundw
       case rel => exact ⟨i + 1, by omega, by go_num, by rw [unhide HE5]; exact unhide HO9, by rw [unhide HG5]; exact unhide HN9, unhide HW9, unhide HB9⟩
       case measure => simp [intOf]; omega
    ·have h8 : i = 8 := by omega
     have HO1 := hide (hown.base (Nat.le_succ w.heap.size))
     have HB1 := hide hbel
     clear hown hnm hwt hbel hnsl
     go_wp2
     go_ret
     exact ⟨_, rfl, by rw [unhide HFL, <- h8]; exact unhide HO1, unhide HB1⟩
theorem rFine_any (a : Option Addr) (cap : Nat) (L : List Int) (w : World) (hbs : Bs w a cap L) :
  Calls Tryz.prog 5 #[.slice a L.length cap] w fun e w' => e = .returned (.int .i64 (fineE L)) /\ Below w.heap.size w w' := by
 have HI := hide (rImage_any L.length w)
 have hbl := hbs.2.2.1
 unfold fineE
 cases hq : lenB L.length with
 | false =>
  rw [hq] at HI
  rw [if_pos rfl]
  clear hbs hq
  generalize L.length = N at *
  go_enter Tryz.func5, Tryz.ntmps5
  go_wp2_with fail
  refine (unhide HI).mono ?_
  rintro e w1 ⟨rfl, hw⟩
  subst hw
  go_wp2
  go_ret
  exact ⟨rfl, Below.refl _ _⟩
 | true =>
  have HC := hide (rChk_any a cap L w hbs hq)
  rw [hq] at HI
  rw [if_neg (by simp)]
  have hfl := faults_len L
  clear hbs hq
  generalize faults L = F at *
  generalize L.length = N at *
  by_cases hF : F = []
  ·subst hF
   rw [if_pos rfl]
   go_enter Tryz.func5, Tryz.ntmps5
   go_wp2_with fail
   refine (unhide HI).mono ?_
   rintro e w1 ⟨rfl, hw⟩
   subst hw
   clear HI
   go_wp2_with fail
   refine (unhide HC).mono ?_
   rintro e w2 ⟨v2, rfl, hown2, hb2⟩
   obtain ⟨p2, d2, rfl, hsl2⟩ := hown2.sls flC_len (by simp)
   have HB2 := hide hb2
   clear hown2 hsl2 hb2 HC
   go_wp2
   go_ret
   exact ⟨rfl, unhide HB2⟩
  ·rw [if_neg hF]
   have hpos : (0 : Int) < (F.length : Int) := by have := List.length_pos_iff.2 hF; omega
   clear hF
   go_enter Tryz.func5, Tryz.ntmps5
   go_wp2_with fail
   refine (unhide HI).mono ?_
   rintro e w1 ⟨rfl, hw⟩
   subst hw
   clear HI
   go_wp2_with fail
   refine (unhide HC).mono ?_
   rintro e w2 ⟨v2, rfl, hown2, hb2⟩
   obtain ⟨p2, d2, rfl, hsl2⟩ := hown2.sls flC_len (by omega)
   have HB2 := hide hb2
   clear hown2 hsl2 hb2 HC
   generalize F.length = FN at *
   go_wp2
   go_ret
   exact ⟨rfl, unhide HB2⟩
theorem wipes_take {b : List Int} {l : List (Int × Int)} {k : Nat} {f : Int × Int} (h : l[k]? = some f) : wipes b (l.take (k + 1)) = splice (wipes b (l.take k)) (pOf f) (zerosB (nOf f)) := by
 rw [<- wipeF_eq, List.take_add_one, h]
 unfold wipes
 rw [List.foldl_append]
 rfl
def oldB (n : Nat) : Value -> Nat
 | .slice (some ad) _ _ => if ad.block < n then 1 else 0
 | _ => 0
end Go.Proofs.YtifmemombecoaaaGreatDoor
