/-
  Parts of the proofs, joined by program.
-/
import Derived.Test.YtifmemombecoaaaGreatDoorJMga
import Derived.Test.YtifmemombecoaaaGreatDoorJChl
import Derived.Test.YtifmemombecoaaaGreatDoorJChp
import Derived.Test.YtifmemombecoaaaGreatDoorJMgc
import Derived.Test.YtifmemombecoaaaGreatDoorJMgb
import Derived.Test.YtifmemombecoaaaGreatDoorJMgp
namespace Go.Proofs.YtifmemombecoaaaGreatDoor
open Go.RowKit Go.MapKept Go.ChangeMaps
set_option linter.unusedVariables false
def leF (R : List (ByteArray × Int)) : ByteArray -> Option Int := fun s => (R.find? (fun r => r.1 == s)).map (·.2)
theorem leF_lead (R : List (ByteArray × Int)) (s : ByteArray) : (leF R s).getD 0 = leadOf R s := rfl
theorem leF_snoc {R : List (ByteArray × Int)} {r : (ByteArray × Int)} (hn : ∀ q ∈ R, q.1 ≠ r.1) : leF (R ++ [r]) = updF (leF R) r.1 (some r.2) := by
 funext s
 unfold leF updF
 rw [List.find?_append]
 by_cases e : s = r.1
 ·subst e
  have h0 : R.find? (fun q => q.1 == r.1) = none := List.find?_eq_none.2 (fun q hq h => hn q hq (ba_beq.1 h))
  rw [if_pos rfl, h0]
  have h1 : List.find? (fun q : (ByteArray × Int) => q.1 == r.1) [r] = some r := List.find?_cons_of_pos (p := fun q : (ByteArray × Int) => q.1 == r.1) (ba_beq.2 rfl)
  rw [h1]
  rfl
 ·rw [if_neg e]
  have h1 : List.find? (fun q : (ByteArray × Int) => q.1 == s) [r] = none := List.find?_eq_none.2 (fun q hq h => by
   rw [List.mem_singleton.1 hq] at h
   exact e (ba_beq.1 h).symm)
  rw [h1, Option.or_none]
def RdmS (w : World) (L : List Int) (W : World) (g : Nat) : Prop := Mp leM W g 8 (leF (rootsK L 8))
set_option maxRecDepth 100000 in
set_option maxHeartbeats 1000000 in
theorem readS (w0 : World) (a : Option Addr) (cap : Nat) (L : List Int) (w : World) (hbs0 : Bs w0 a cap L) (hw0 : Below w0.heap.size w0 w) (hf : Fine L) :
  Calls Tryz.prog 27 #[.slice a L.length cap] w fun e w' => ∃ g, e = .returned (.tuple #[.map (some g), .nilIface]) /\ w.heap.size <= g /\ RdmS w0 L w' g /\ Below w.heap.size w w' := by
 unfold RdmS
 have hbs := hbs0.below hw0
 clear hbs0 hw0
 have HR := hide (iRoots_yes a cap L w hbs hf.len0)
 have HSZ := hide (fun (r : (ByteArray × Int)) (h : r ∈ rootsK L 8) => roots_size h)
 have hlen := rootsK_len L 8
 have hbl := hbs.2.2.1
 have hmm := @run_makeMap Tryz.prog
 have HAP := hide (apart_roots hf.ok)
 generalize rootsK L 8 = R at *
 clear hbs hf
 go_enter Tryz.func27, Tryz.ntmps27
 go_wp2_with fail
 refine (unhide HR).mono ?_
 rintro e w1 ⟨v1, rfl, hown1, hb1⟩
 obtain ⟨a1, c1, rfl, hsl1⟩ := hown1.sls roC_len (by omega)
 have HS1 := hide hsl1
 have HB1 := hide hb1
 have hsz1 := hb1.size
 clear hown1 hsl1 hb1 HR
 go_wp2_with fail
 go_loopw [20] (fun iv wr => ∃ k : Nat, k <= R.length /\ iv = .int .i64 (k : Int) /\ Mp leM wr w1.heap.size k (leF (R.take k)) /\ Below w1.heap.size w1 wr) (fun iv _ => R.length - (intOf iv).toNat)
 case atStart => exact ⟨0, Nat.zero_le _, rfl, Mp.made leM w1, (Below.refl _ _).alloc (Nat.le_refl _) _⟩
 case round =>
  obtain ⟨k, hk, rfl, hld, hbel⟩ := hrel
  by_cases hlt : k < R.length
  ·obtain ⟨b1, o1, rfl, hc1⟩ := ((unhide HS1).below hbel).2.2.2 (by intro e; rw [e] at hlt; simp at hlt)
   obtain ⟨r, hr⟩ : ∃ r, R[k]? = some r := ⟨R[k], List.getElem?_eq_getElem hlt⟩
   obtain ⟨q0, q1⟩ := Sls.root (cap := 0) hc1 hr
   have hrm := List.mem_of_getElem? hr
   have hsz := unhide HSZ r hrm
   have hpos := (unhide HAP).pos r hrm
   have hnew := apart_new (unhide HAP) hr
   have htk : leF (R.take (k + 1)) = updF (leF (R.take k)) r.1 (some r.2) := by rw [List.take_add_one, hr]; exact leF_snoc hnew
   have hbA : Below wr.heap.size wr (wr.alloc (.cells #[.string r.1, .int .i64 r.2] 65)) := (Below.refl _ _).alloc (Nat.le_refl _) _
   obtain ⟨w2, hst, hld2, htn⟩ := (hld.below hbA).store (by unfold maxLen; omega) (k := r.1) (show r.1.size <= maxLen by unfold maxLen; omega) (le_eok (v := r.2) (by omega))
   have hst' : (Instr.mapUpdate 75 (.map (some w1.heap.size)) (.string r.1) (.int .i64 r.2)).run Tryz.prog (wr.alloc (.cells #[.string r.1, .int .i64 r.2] 65)) = .ok () w2 := hst
   rw [<- htk] at hld2
   have hBA := hbel.trans (hbA.mono hbel.size)
   have HB2 := hide (hBA.grown htn.grown hBA.size (fun j hj => by cases hj; exact Nat.le_refl _))
   have HL2 := hide hld2
   have g1 := block_lt_of_cell q0
   obtain ⟨s, h⟩ := r
   dsimp only at *
   clear hc1 hr hrm hsz hpos hnew htk hbA hld2 htn hBA hld hbel hst
   go_wp2
   go_roundw
   case rel => exact ⟨k + 1, by omega, by go_num, unhide HL2, unhide HB2⟩
   case measure => simp [intOf]; omega
  ·have hkq : k = R.length := by omega
   rw [hkq, List.take_length] at hld
   have HL := hide (hld.mono (m := 8) (by omega))
   have HB2 := hide ((unhide HB1).trans (hbel.mono (unhide HB1).size))
   have hge : ¬ ((k : Int) < (R.length : Int)) := by omega
   clear hkq hlt hk hld hbel
   go_wp2
   go_ret2
   exact ⟨_, rfl, hsz1, unhide HL, unhide HB2⟩
end Go.Proofs.YtifmemombecoaaaGreatDoor
namespace Go.Proofs.YtifmemombecoaaaGreatDoor
open Go.RowKit
set_option linter.unusedVariables false
theorem RdmS.same {w0 W W' : World} {L : List Int} {g : Nat} (h : RdmS w0 L W g) (hs : W'.heap[g]? = W.heap[g]?) : RdmS w0 L W' g := by
 exact Mp.same h hs
theorem RdmS.isMap {w0 W : World} {L : List Int} {g : Nat} (h : RdmS w0 L W g) : ∃ es clock, W.heap[g]? = some (.map es clock) := by
 exact Mp.isMap h
def RdmsS (w : World) (ims : List IM) (gs : List Nat) (W : World) : Prop := ∀ (i : Nat) x y, ims[i]? = some x -> gs[i]? = some y -> w.heap.size <= y /\ RdmS w x.2.2 W y
set_option maxRecDepth 100000 in
set_option maxHeartbeats 2000000 in
theorem eachS (ims : List IM) (g : Nat) (w : World) (h : Imz w g ims) (hf : ∀ x ∈ ims, Fine x.2.2) (hl : ims.length <= 10) :
  Calls Tryz.prog 26 #[.func (.func 27) #[] #[], .slice (some ⟨g, 0, none⟩) ims.length ims.length] w fun e w' => ∃ v gs, e = .returned (.tuple #[v, .nilIface]) /\ Lst mpC 1 75 w' w.heap.size v gs /\ gs.length = ims.length /\ RdmsS w ims gs w' /\ Below w.heap.size w w' := by
 obtain ⟨i0, hi0, hz0, hz1, hz2⟩ := info_parts info_mpS
 have HI := hide h
 have HF := hide hf
 clear h hf
 go_enter Tryz.func26, Tryz.ntmps26
 go_wp2
 go_loopw [6, 8, 9, 10, 13] (fun v _ _ _ iv wr => ∃ (k : Nat) (gs : List Nat), k <= ims.length /\ gs.length = k /\ iv = .int .i64 (k : Int) /\ Lst mpC 1 75 wr w.heap.size v gs /\ Hid (RdmsS w ims gs wr) /\ Below w.heap.size w wr) (fun _ _ _ _ iv _ => ims.length - (intOf iv).toNat)
 case atStart => exact ⟨0, [], Nat.zero_le _, rfl, rfl, Lst.nil _ _, hide (fun i x y _ hy => by simp at hy), Below.refl _ _⟩
 case round =>
  obtain ⟨k, gs, hk, hgk, rfl, hown, HR, hbel⟩ := hrel
  obtain ⟨va, vm, vc, rfl⟩ := hown.shape
  by_cases hlt : k < ims.length
  ·obtain ⟨x, hx⟩ : ∃ x, ims[k]? = some x := ⟨ims[k], List.getElem?_eq_getElem hlt⟩
   have hxm := List.mem_of_getElem? hx
   have hcell := ((unhide HI).below hbel).cell hx
   have HRD := hide (readS w x.1 x.2.1 x.2.2 wr ((unhide HI).2 x hxm) hbel (unhide HF x hxm))
   have hgl : g < wr.heap.size := Nat.lt_of_lt_of_le (unhide HI).1.lt hbel.size
   have HX := hide hx
   have HOWN := hide hown
   have HBE := hide hbel
   obtain ⟨xa, xc, xl⟩ := x
   unfold imV at hcell
   dsimp only at *
   generalize hxn : xl.length = XN at *
   have HXN := hide hxn
   clear hx hxm hown hbel hxn
   go_wp2_with fail
   refine (unhide HRD).mono ?_
   rintro e w2 ⟨y, rfl, hy, hrd, hb2⟩
   have hB2 : Below w.heap.size w w2 := (unhide HBE).trans (hb2.mono (unhide HBE).size)
   have hb3 : Below w2.heap.size w2 (w2.alloc (.cells #[.map (some y)] 75)) := (Below.refl _ _).alloc (Nat.le_refl _) _
   have HO3 := hide (((unhide HOWN).below hb2).below hb3)
   have HGN : Hid ((w2.alloc (.cells #[.map (some y)] 75)).heap[w2.heap.size]? = some (.cells (mpC y).toArray 75 (0, 0))) := hide (heap_alloc_new _ _)
   have HB3 := hide (hB2.trans (hb3.mono hB2.size))
   have HRD2 := hide hrd
   have HB23 := hide hb3
   have HBW2 := hide hb2
   have hsw := (unhide HBE).size
   have hs2 := hb2.size
   have hyl : y < w2.heap.size := by obtain ⟨es, cl, hm⟩ := hrd.isMap; exact (Array.getElem?_eq_some_iff.1 hm).1
   clear hrd hb2 hB2 hb3 HRD
   go_wp2_with (at_builtin; refine wpList_append_lst2 rfl _ _ 69 rfl w.heap.size i0 (.map none) 8 Tryz.underlying69 hi0 hz0 hz1 hz2 rfl (by decide) (by decide) _ _ rfl (unhide HO3) w2.heap.size y rfl (unhide HGN) rfl (mpC_one _) (by omega) (by simp; omega) ?_)
   intro v9 w9 hown9 hb9 hkeep
   have hsame : ∀ j, j < w2.heap.size -> (∃ es cl, w2.heap[j]? = some (.map es cl)) -> w9.heap[j]? = w2.heap[j]? := fun j hj hm => by
    obtain ⟨es, cl, hm⟩ := hm
    have hm3 := (unhide HB23).block j hj
    refine (hkeep j (by first | omega | (rw [sz_alloc]; omega)) (fun e => ?_)).trans hm3
    rcases (unhide HO3).2 with ⟨e0, _⟩ | ⟨gq, cap, cur, e0, _, hc, _⟩
    ·rw [e0] at e; simp [Value.ownBlock] at e
    ·rw [e0] at e
     simp [Value.ownBlock] at e
     subst e
     rw [hm3, hm] at hc
     cases hc
   have HR9 : Hid (RdmsS w ims (gs ++ [y]) w9) := hide (fun i x' y' hx' hy' => by
    by_cases hi : i < gs.length
    ·rw [List.getElem?_append_left hi] at hy'
     obtain ⟨h1, h2⟩ := unhide HR i x' y' hx' hy'
     obtain ⟨es, cl, hm⟩ := h2.isMap
     have hlt' := (Array.getElem?_eq_some_iff.1 hm).1
     have hs := (unhide HBW2).block y' hlt'
     exact ⟨h1, (h2.same hs).same (hsame y' (by omega) ⟨es, cl, hs.trans hm⟩)⟩
    ·rw [List.getElem?_append_right (by omega)] at hy'
     have hi0 : i - gs.length = 0 := by
      have := (List.getElem?_eq_some_iff.1 hy').1
      simp at this
      omega
     rw [hi0] at hy'
     simp at hy'
     subst hy'
     have hik : i = k := by omega
     subst hik
     have e2 := (unhide HX).symm.trans hx'
     obtain rfl := Option.some.inj e2
     exact ⟨by omega, (unhide HRD2).same (hsame y hyl (unhide HRD2).isMap)⟩)
   have HO9 := hide hown9
   have HB9 := hide ((unhide HB3).trans hb9)
   obtain ⟨a9, m9, c9, rfl⟩ := hown9.shape
   clear hown9 hb9 hkeep hsame HO3 HB3 HGN
   go_wp2
   go_roundw
   case rel => exact ⟨k + 1, gs ++ [y], by omega, by rw [List.length_append, hgk]; rfl, by go_num, unhide HO9, HR9, unhide HB9⟩
   case measure => simp [intOf]; omega
  ·have HO := hide hown
   have HB2 := hide hbel
   have hge : ¬ ((k : Int) < (ims.length : Int)) := by omega
   have HKE : Hid (gs.length = ims.length) := hide (by omega)
   clear hown hbel
   go_wp2
   go_ret2
   first | exact ⟨_, gs, rfl, unhide HO, unhide HKE, unhide HR, unhide HB2⟩ | exact ⟨_, rfl, gs, unhide HO, unhide HKE, unhide HR, unhide HB2⟩
def oT (m a b : List Int) (k : Int) : Int × List Int := if oL m k = oL a k then oL b k else oL a k
theorem oT_in {m a b : List Int} {k : Int} (h1 : 1 <= k) (h2 : k <= 40) : oT m a b k = thO m a b k := by
 have e : ∀ L, oL L k = objOf L k := fun L => by unfold oL; rw [if_pos ⟨h1, h2⟩]
 unfold oT thO
 rw [e, e, e]
theorem oT_out {m a b : List Int} {k : Int} (h : ¬ (1 <= k /\ k <= 40)) : oT m a b k = (-1, []) := by
 unfold oT oL
 rw [if_neg h, if_neg h, if_neg h, if_pos rfl]
theorem pkS_same {N : Nat} {O Q : Int -> Int × List Int} : ∀ k : Nat, (∀ h : Int, 1 <= h -> h <= k -> O h = Q h) -> pkS N O k = pkS N Q k
 | 0, _ => rfl
 | k + 1, h => by
  have ih := pkS_same (N := N) k (fun x h1 h2 => h x h1 (by omega))
  have e := h ((k : Int) + 1) (by omega) (by omega)
  show (if (pkS N O k).1 ≠ 0 then pkS N O k else if (O ((k : Int) + 1)).1 < 0 then pkS N O k
   else if N < (pkS N O k).2.1 + (O ((k : Int) + 1)).2.length then (4, 0, [])
   else (0, (pkS N O k).2.1 + (O ((k : Int) + 1)).2.length, pk1 (pkS N O k).2.2 (pkS N O k).2.1 ((k : Int) + 1) (O ((k : Int) + 1)).1 (O ((k : Int) + 1)).2)) = (if (pkS N Q k).1 ≠ 0 then pkS N Q k else if (Q ((k : Int) + 1)).1 < 0 then pkS N Q k
   else if N < (pkS N Q k).2.1 + (Q ((k : Int) + 1)).2.length then (4, 0, [])
   else (0, (pkS N Q k).2.1 + (Q ((k : Int) + 1)).2.length, pk1 (pkS N Q k).2.2 (pkS N Q k).2.1 ((k : Int) + 1) (Q ((k : Int) + 1)).1 (Q ((k : Int) + 1)).2))
  rw [ih, e]
theorem pkS_oT (N : Nat) (m a b : List Int) : pkS N (oT m a b) 40 = pkS N (thO m a b) 40 := pkS_same 40 (fun h h1 h2 => oT_in h1 (by omega))
theorem oT_ok {m a b : List Int} (ha : Fine a) (hba : Byt a) (hb : Fine b) (hbb : Byt b) : ObjsOk (oT m a b) := fun h h1 h2 => by
 rw [oT_in h1 h2]
 exact thO_ok ha hba hb hbb h h1 h2
section
variable {w : World} {Fm Fa Fb : Int -> Option OV} {m a b : List Int}
theorem ObF.three (hm : ObF w Fm (oL m)) (ha : ObF w Fa (oL a)) (hb : ObF w Fb (oL b)) : ObF w (thFO Fm Fa Fb hndL (fun k => decide (oL m k = oL a k)) (fun k => decide (oL m k = oL b k))) (oT m a b) := fun k => by
 unfold thFO tkFO
 by_cases hk : k ∈ hndL
 ·by_cases h1 : oL m k = oL a k
  ·have n1 : ¬ (hndL.filter fun k => !decide (oL m k = oL a k)).any (fun y => decide (y = k)) = true := fun h => by
    have := (List.mem_filter.1 (any_memO.1 h)).2
    rw [decide_eq_true h1] at this; cases this
   rw [if_neg n1]
   have e1 : oT m a b k = oL b k := by unfold oT; rw [if_pos h1]
   by_cases h2 : oL m k = oL b k
   ·have n2 : ¬ (hndL.filter fun k => !decide (oL m k = oL b k)).any (fun y => decide (y = k)) = true := fun h => by
     have := (List.mem_filter.1 (any_memO.1 h)).2
     rw [decide_eq_true h2] at this; cases this
    rw [if_neg n2, e1, <- h2]
    exact hm k
   ·have n2 : (hndL.filter fun k => !decide (oL m k = oL b k)).any (fun y => decide (y = k)) = true := any_memO.2 (List.mem_filter.2 ⟨hk, by rw [decide_eq_false h2]; rfl⟩)
    rw [if_pos n2, e1]
    exact hb k
  ·have n1 : (hndL.filter fun k => !decide (oL m k = oL a k)).any (fun y => decide (y = k)) = true := any_memO.2 (List.mem_filter.2 ⟨hk, by rw [decide_eq_false h1]; rfl⟩)
   have e1 : oT m a b k = oL a k := by unfold oT; rw [if_neg h1]
   rw [if_pos n1, e1]
   exact ha k
 ·have hno : ∀ q : Int -> Bool, ¬ (hndL.filter q).any (fun y => decide (y = k)) = true := fun q h => hk (List.mem_filter.1 (any_memO.1 h)).1
  rw [if_neg (hno _), if_neg (hno _), oT_out (fun h => hk (mem_hndL.2 h))]
  rcases hm k with h | ⟨t, x, c, l, h1, h2, h3, h4, h5, _⟩
  ·exact .inl ⟨h.1, rfl⟩
  ·exfalso
   have : oL m k = (-1, []) := by unfold oL; rw [if_neg (fun h => hk (mem_hndL.2 h))]
   rw [this] at h2
   have := congrArg Prod.fst h2
   dsimp only at this
   omega
end
theorem told_eq (m a b : List Int) : ((hndL.filter fun k => !decide (oL a k = oL b k)).filter fun k => !(decide (oL m k = oL a k) || decide (oL m k = oL b k))) = hndL.filter (thT m a b) := by
 rw [List.filter_filter]
 refine List.filter_congr (fun k hk => ?_)
 have hr := mem_hndL.1 hk
 unfold thT oL
 rw [if_pos hr, if_pos hr, if_pos hr]
 by_cases h1 : objOf m k = objOf a k <;> by_cases h2 : objOf m k = objOf b k <;> by_cases h3 : objOf a k = objOf b k <;> simp [h1, h2, h3]
theorem leF_in {R : List (ByteArray × Int)} {s : ByteArray} (h : (leF R s).isSome = true) : s ∈ R.map (·.1) := by
 unfold leF at h
 rw [Option.isSome_map] at h
 obtain ⟨r, hr⟩ := Option.isSome_iff_exists.1 h
 exact List.mem_map.2 ⟨r, List.mem_of_find?_eq_some hr, ba_beq.1 (List.find?_some (p := fun (r : (ByteArray × Int)) => r.1 == s) hr)⟩
theorem leF_pos {L : List Int} (hf : Fine L) {s : ByteArray} {h : Int} (hq : leF (rootsK L 8) s = some h) : 1 <= h /\ h <= 40 := by
 unfold leF at hq
 rw [Option.map_eq_some_iff] at hq
 obtain ⟨r, hr, rfl⟩ := hq
 exact (apart_roots hf.ok).pos r (List.mem_of_find?_eq_some hr)
section
variable {m a b : List Int}
def leT (m a b : List Int) : ByteArray -> Option Int := thFS (leF (rootsK m 8)) (leF (rootsK a 8)) (leF (rootsK b 8)) (mgN m a b) (fun s => leadOf (rootsK m 8) s == leadOf (rootsK a 8) s) (fun s => leadOf (rootsK m 8) s == leadOf (rootsK b 8) s)
theorem leT_lead {s : ByteArray} (hs : s ∈ mgN m a b) : (leT m a b s).getD 0 = mgH m a b s := by
 unfold leT thFS tkFS mgH
 by_cases h1 : leadOf (rootsK m 8) s = leadOf (rootsK a 8) s
 ·have n1 : ¬ ((mgN m a b).filter fun s => !(leadOf (rootsK m 8) s == leadOf (rootsK a 8) s)).any (fun y => decide (y = s)) = true := fun h => by
   have := (List.mem_filter.1 (any_memS.1 h)).2
   rw [beq_iff_eq.2 h1] at this; cases this
  rw [if_neg n1, if_pos h1.symm]
  by_cases h2 : leadOf (rootsK m 8) s = leadOf (rootsK b 8) s
  ·have n2 : ¬ ((mgN m a b).filter fun s => !(leadOf (rootsK m 8) s == leadOf (rootsK b 8) s)).any (fun y => decide (y = s)) = true := fun h => by
    have := (List.mem_filter.1 (any_memS.1 h)).2
    rw [beq_iff_eq.2 h2] at this; cases this
   rw [if_neg n2, <- h2]
   exact leF_lead _ _
  ·have n2 : ((mgN m a b).filter fun s => !(leadOf (rootsK m 8) s == leadOf (rootsK b 8) s)).any (fun y => decide (y = s)) = true := any_memS.2 (List.mem_filter.2 ⟨hs, by rw [beq_eq_false_iff_ne.2 h2]; rfl⟩)
   rw [if_pos n2]
   exact leF_lead _ _
 ·have n1 : ((mgN m a b).filter fun s => !(leadOf (rootsK m 8) s == leadOf (rootsK a 8) s)).any (fun y => decide (y = s)) = true := any_memS.2 (List.mem_filter.2 ⟨hs, by rw [beq_eq_false_iff_ne.2 h1]; rfl⟩)
  rw [if_pos n1, if_neg (fun e => h1 e.symm)]
  exact leF_lead _ _
theorem leT_of {s : ByteArray} : leT m a b s = leF (rootsK m 8) s \/ leT m a b s = leF (rootsK a 8) s \/ leT m a b s = leF (rootsK b 8) s := by
 unfold leT thFS tkFS
 split
 ·exact .inr (.inl rfl)
 ·split
  ·exact .inr (.inr rfl)
  ·exact .inl rfl
theorem leT_pos (hm : Fine m) (ha : Fine a) (hb : Fine b) {s : ByteArray} {h : Int} (hq : leT m a b s = some h) : 1 <= h /\ h <= 40 := by
 rcases leT_of (m := m) (a := a) (b := b) (s := s) with e | e | e
 ·exact leF_pos hm (by rw [<- e]; exact hq)
 ·exact leF_pos ha (by rw [<- e]; exact hq)
 ·exact leF_pos hb (by rw [<- e]; exact hq)
theorem mgN_m {s : ByteArray} (h : (leF (rootsK m 8) s).isSome = true) : s ∈ mgN m a b := mem_insL.2 (by rw [List.map_append, List.map_append, List.mem_append, List.mem_append]; exact .inl (.inl (leF_in h)))
theorem mgN_a {s : ByteArray} (h : (leF (rootsK a 8) s).isSome = true) : s ∈ mgN m a b := mem_insL.2 (by rw [List.map_append, List.map_append, List.mem_append, List.mem_append]; exact .inl (.inr (leF_in h)))
theorem mgN_b {s : ByteArray} (h : (leF (rootsK b 8) s).isSome = true) : s ∈ mgN m a b := mem_insL.2 (by rw [List.map_append, List.map_append, List.mem_append, List.mem_append]; exact .inr (leF_in h))
theorem leT_in {s : ByteArray} (h : (leT m a b s).isSome = true) : s ∈ mgN m a b := by
 rcases leT_of (m := m) (a := a) (b := b) (s := s) with e | e | e
 ·exact mgN_m (by rw [<- e]; exact h)
 ·exact mgN_a (by rw [<- e]; exact h)
 ·exact mgN_b (by rw [<- e]; exact h)
theorem insN_len (s : ByteArray) : ∀ l : List ByteArray, (insN l s).length <= l.length + 1
 | [] => by simp [insN]
 | x :: l => by
  unfold insN
  split
  ·simp
  ·split
   ·simp
   ·have := insN_len s l
    simp only [List.length_cons]
    omega
theorem insL_len (ns : List ByteArray) : ∀ l : List ByteArray, (ns.foldl insN l).length <= l.length + ns.length := by
 induction ns with
 | nil => intro l; exact Nat.le_refl _
 | cons s ns ih =>
  intro l
  have h1 := ih (insN l s)
  have h2 := insN_len s l
  show (ns.foldl insN (insN l s)).length <= _
  rw [List.length_cons]
  omega
theorem mgN_len : (mgN m a b).length <= 24 := by
 have h := insL_len ((rootsK m 8 ++ rootsK a 8 ++ rootsK b 8).map (·.1)) []
 have h1 := rootsK_len m 8
 have h2 := rootsK_len a 8
 have h3 := rootsK_len b 8
 rw [List.length_map, List.length_append, List.length_append] at h
 unfold mgN insL
 simp only [List.length_nil] at h
 omega
theorem nameB_size {s : ByteArray} (h : nameB s = true) : s.size <= 8 := (nameB_iff.1 h).2.1
theorem leT_roots (hm : Fine m) (ha : Fine a) (hb : Fine b) {out : List Int} {Fo : Int -> Option OV} (hlen : lenB out.length = true) (hout : ∀ h : Int, 1 <= h -> h <= 40 -> ((Fo h).isSome = true ↔ tagAt out h ≠ 0)) :
  (((mgN m a b).filter fun s => (keepF (leT m a b) (fun _ h => !(Fo h).isSome) s).isSome).map fun s => (s, (keepF (leT m a b) (fun _ h => !(Fo h).isSome) s).getD 0)) = mgR m a b out := by
 unfold mgR
 have key : ∀ s ∈ mgN m a b, (if (keepF (leT m a b) (fun _ h => !(Fo h).isSome) s).isSome = true then some (s, (keepF (leT m a b) (fun _ h => !(Fo h).isSome) s).getD 0) else none) = if chkE out (mgH m a b s) = 0 then some (s, mgH m a b s) else none := fun s hs => by
  have hl := leT_lead hs
  cases hq : leT m a b s with
  | none =>
   rw [hq] at hl
   have e0 : keepF (leT m a b) (fun _ h => !(Fo h).isSome) s = none := by unfold keepF; rw [hq]; rfl
   rw [e0, if_neg (by simp), if_neg]
   rw [<- hl]
   exact chk_zero_no out
  | some h =>
   rw [hq] at hl
   have hh : mgH m a b s = h := hl.symm
   obtain ⟨p1, p2⟩ := leT_pos hm ha hb hq
   rw [hh]
   by_cases ho : (Fo h).isSome = true
   ·have e0 : keepF (leT m a b) (fun _ h => !(Fo h).isSome) s = some h := by unfold keepF; rw [hq]; simp [Option.filter, ho]
    rw [e0, if_pos (by rfl), if_pos (chkE_zero.2 ⟨hlen, hndB_iff.2 ⟨p1, p2⟩, (hout h p1 p2).1 ho⟩)]
    rfl
   ·have e0 : keepF (leT m a b) (fun _ h => !(Fo h).isSome) s = none := by unfold keepF; rw [hq]; simp [Option.filter, ho]
    rw [e0, if_neg (by simp), if_neg (fun h2 => ho ((hout h p1 p2).2 (chkE_zero.1 h2).2.2))]
 generalize keepF (leT m a b) (fun _ h => !(Fo h).isSome) = G at *
 generalize mgN m a b = l at *
 induction l with
 | nil => rfl
 | cons s l ih =>
  have h1 := key s (by simp)
  have h2 := ih (fun x hx => key x (by simp [hx]))
  rw [List.filter_cons, List.filterMap_cons, <- h1]
  by_cases hG : (G s).isSome = true
  ·rw [if_pos hG, if_pos hG, List.map_cons, h2]
  ·rw [if_neg hG, if_neg hG, h2]
end
theorem RsN.pre {b out : List Int} {R : List (ByteArray × Int)} (o : RsN b out R) {s : ByteArray} {h : Int} (hi : R.length < 8) (hn : nameB s = true) (hc : chkE b h = 0) : prE out R.length (s, h) = 0 := by
 obtain ⟨q1, q2, q3⟩ := chkE_zero.1 hc
 have hh := hndB_iff.1 q2
 have hnr : ¬ noRoot (s, h) = true := fun hx => by have := (noRoot_iff.1 hx).2; dsimp only at this; omega
 have hre : rowRE (s, h) = 0 := by unfold rowRE; rw [if_neg hnr, if_neg (by rw [q2]; simp), if_pos hn]
 exact prE_zero.2 ⟨o.fine.len0, by omega, by omega, hre⟩
theorem puts_mgR {m a b out : List Int} (hm : Fine m) (ha : Fine a) (hb : Fine b) (bm : Byt m) (ba : Byt a) (bb : Byt b) (ho : Fine out) (bo : Byt out) (hr : ∀ i, i < 8 -> isRoot (rowAt out i) = false) (h8 : (mgR m a b out).length <= 8) : PutsR out.length out (mgR m a b out) := fun j hj => by
 have h0 : rootsK out 8 = [] := by
  rw [rootsK_none (b := out) (k := 0) 8 (Nat.zero_le _) (fun j _ hj => hr j hj)]
  rfl
 have st : RsN out out [] := ⟨ho, rfl, bo, h0, fun j _ hj => hr j hj, fun _ _ _ => ⟨rfl, rfl⟩⟩
 have hok : ∀ r ∈ mgR m a b out, nameB r.1 = true /\ chkE out r.2 = 0 := fun r hr => by
  have h := mem_mgR.1 hr
  refine ⟨mgN_ok hm ha hb bm ba bb (mgH_in (fun e => ?_)), h.2⟩
  have h2 := h.2
  rw [h.1, e] at h2
  exact chk_zero_no out h2
 have hnd := mgR_names (m := m) (a := a) (b := b) (out := out)
 generalize mgR m a b out = R at *
 have := RsN.all (R.take j) st (by rw [List.nil_append, List.length_take]; omega) (fun r hr => hok r (List.mem_of_mem_take hr)) (by rw [List.nil_append, List.map_take]; exact hnd.sublist (List.take_sublist _ _))
 rw [List.nil_append] at this
 refine ⟨this.len, fun r hrj => ?_⟩
 have hjl := (List.getElem?_eq_some_iff.1 hrj).1
 obtain ⟨q1, q2⟩ := hok r (List.mem_of_getElem? hrj)
 have hp := this.pre (s := r.1) (h := r.2) (by rw [List.length_take]; omega) q1 q2
 rw [List.length_take, Nat.min_eq_left (by omega)] at hp
 exact ⟨hp, nameB_size q1⟩
theorem ld_three {w : World} {F : Int -> Option OV} {m a b : List Int} (hm : Fine m) (ha : Fine a) (hb : Fine b) (bm : Byt m) (ba : Byt a) (bb : Byt b) (hF : ObF w F (oT m a b)) {R : List (ByteArray × Int)} (hR : R = ((mgN m a b).filter fun s => (keepF (leT m a b) (fun _ h => !(F h).isSome) s).isSome).map fun s => (s, (keepF (leT m a b) (fun _ h => !(F h).isSome) s).getD 0)) :
  ((pkS m.length (oT m a b) 40).1 = 0 -> R.length <= 8 -> PutsR m.length (pkS m.length (oT m a b) 40).2.2 R) /\ ldT (pkS m.length (oT m a b) 40) R = mgS m a b := by
 have hl := hm.len
 obtain ⟨i1, i2, i3⟩ := pkS_ok hl.1 hl.2 (thO_ok (m := m) ha ba hb bb) 40 (Nat.le_refl _)
 rw [pkS_oT]
 have key : (pkS m.length (thO m a b) 40).1 = 0 -> R = mgR m a b (pkS m.length (thO m a b) 40).2.2 := fun h0 => by
  obtain ⟨pk, _, po, _⟩ := i3 h0
  rw [hR]
  refine leT_roots hm ha hb pk.fine.len0 (fun h h1 h2 => ?_)
  have ho := po h h1 (by omega)
  rw [hF.some_iff h, oT_in h1 h2, <- ho]
  unfold objOf
  by_cases ht : tagAt (pkS m.length (thO m a b) 40).2.2 h = 0
  ·rw [if_pos ht]; simp [ht]
  ·rw [if_neg ht]
   have h4 := (pk.fine.ent h1 h2 ht).2.2.2.2.1
   refine ⟨fun _ => ht, fun _ e => ?_⟩
   have := congrArg Prod.fst e
   unfold objE at this
   dsimp only at this
   omega
 refine ⟨fun h0 h8 => ?_, ?_⟩
 ·obtain ⟨pk, _, _, _⟩ := i3 h0
  rw [key h0] at h8 ⊢
  have := puts_mgR hm ha hb bm ba bb pk.fine pk.byt pk.none_ h8
  rw [pk.len] at this
  exact this
 ·by_cases h0 : (pkS m.length (thO m a b) 40).1 = 0
  ·rw [key h0]
   rfl
  ·have e1 : ldT (pkS m.length (thO m a b) 40) R = ((pkS m.length (thO m a b) 40).1, []) := by unfold ldT; rw [if_pos h0]
   have e2 : mgS m a b = ((pkS m.length (thO m a b) 40).1, []) := by unfold mgS mgT; rw [if_pos h0]
   rw [e1, e2]
end Go.Proofs.YtifmemombecoaaaGreatDoor
