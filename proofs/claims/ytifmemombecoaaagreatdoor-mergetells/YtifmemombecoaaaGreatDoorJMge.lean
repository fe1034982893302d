/-
  Parts of the proofs, joined by program.
-/
import Derived.Test.YtifmemombecoaaaGreatDoorJMgd
import Derived.Deep.CutRange
import Derived.OrdersHeld
import Derived.Test.YtifmemombecoaaaGreatDoorJHt
import Derived.Test.YtifmemombecoaaaGreatDoorJRtp
import Derived.Test.YtifmemombecoaaaGreatDoorJHs
namespace Go.Proofs.YtifmemombecoaaaGreatDoor
open Go.RowKit Go.Shelf
set_option linter.unusedVariables false
theorem ims_three {w : World} {m a b : IM} (hM : Bs w m.1 m.2.1 m.2.2) (hA : Bs w a.1 a.2.1 a.2.2) (hB : Bs w b.1 b.2.1 b.2.2) : Imz (w.alloc (.cells #[imV m, imV a, imV b] 22)) w.heap.size [m, a, b] /\ Below w.heap.size w (w.alloc (.cells #[imV m, imV a, imV b] 22)) := by
 have hb : Below w.heap.size w (w.alloc (.cells #[imV m, imV a, imV b] 22)) := (Below.refl _ _).alloc (Nat.le_refl _) _
 refine ⟨⟨heap_alloc_new w _, fun x hx => ?_⟩, hb⟩
 simp at hx
 rcases hx with rfl | rfl | rfl
 ·exact hM.below hb
 ·exact hA.below hb
 ·exact hB.below hb
theorem three_of {gs : List Nat} (h : gs.length = 3) : ∃ x y z, gs = [x, y, z] := by
 match gs, h with
 | [x, y, z], _ => exact ⟨x, y, z, rfl⟩
theorem thObj (gm ga gb : Nat) (m a b : List Int) (wA W : World) (hM : RdmO wA m W gm) (hA : RdmO wA a W ga) (hB : RdmO wA b W gb) (hW : Below wA.heap.size wA W) :
  Calls Tryz.prog 28 #[.map (some gm), .map (some ga), .map (some gb), .func (.func 18) #[] #[]] W fun e w' => ∃ gE v F, e = .returned (.tuple #[.map (some gE), v]) /\ W.heap.size <= gE /\ (Mp obM w' gE 7000 F /\ ObF wA F (oT m a b)) /\ Lst inC 1 3 w' W.heap.size v (hndL.filter (thT m a b)) /\ Below W.heap.size W w' := by
 obtain ⟨Fm, hm, om⟩ := hM
 obtain ⟨Fa, ha, oa⟩ := hA
 obtain ⟨Fb, hb, ob⟩ := hB
 have sam : ∀ {F G : Int -> Option OV} {x y : List Int}, ObF wA F (oL x) -> ObF wA G (oL y) -> SamO W hndL F G (fun k => decide (oL x k = oL y k)) := fun o1 o2 => ⟨fun k _ W' hW' => o1.same o2 k W' (hW.trans (hW'.mono hW.size)), fun k _ h1 h2 => o1.none0 o2 k h1 h2⟩
 refine (threeO gm ga gb 40 40 40 Fm Fa Fb hndL _ _ _ W hm ha hb hndL_ris om.inU oa.inU ob.inU hndL_ok (by rw [hndL_len]; omega) (by omega) (sam om oa) (sam om ob) (sam oa ob)).mono ?_
 rintro e w' ⟨gE, v, rfl, h1, h2, h3, h4⟩
 rw [told_eq] at h3
 exact ⟨gE, v, _, rfl, h1, ⟨h2, ObF.three om oa ob⟩, h3, h4⟩
theorem thLead (gm ga gb : Nat) (m a b : List Int) (W : World) (hM : RdmS W m W gm) (hA : RdmS W a W ga) (hB : RdmS W b W gb) (hnm : ∀ s ∈ mgN m a b, s.size <= 8) :
  Calls Tryz.prog 29 #[.map (some gm), .map (some ga), .map (some gb), .func (.func 30) #[] #[]] W fun e w' => ∃ gE v, e = .returned (.tuple #[.map (some gE), v]) /\ W.heap.size <= gE /\ Mp leM w' gE 7000 (leT m a b) /\ (∃ l, Lst sgC 1 9 w' W.heap.size v l) /\ Below W.heap.size W w' := by
 have sam : ∀ (x y : List Int), SamS W (mgN m a b) (leF (rootsK x 8)) (leF (rootsK y 8)) (fun s => leadOf (rootsK x 8) s == leadOf (rootsK y 8) s) := fun x y => ⟨fun k _ W' hW' => isEq_any _ _ W', fun k _ h1 h2 => by
  show (leadOf (rootsK x 8) k == leadOf (rootsK y 8) k) = true
  rw [<- leF_lead, <- leF_lead, h1, h2]; rfl⟩
 refine (threeS gm ga gb 8 8 8 (leF (rootsK m 8)) (leF (rootsK a 8)) (leF (rootsK b 8)) (mgN m a b) _ _ _ W hM hA hB (insL_ris _) (fun k h => mgN_m h) (fun k h => mgN_a h) (fun k h => mgN_b h) (fun k hk => by show k.size <= maxLen; have := hnm k hk; unfold maxLen; omega) (by have := mgN_len (m := m) (a := a) (b := b); omega) (by omega) (sam m a) (sam m b) (sam a b)).mono ?_
 rintro e w' ⟨gE, v, rfl, h1, h2, h3, h4⟩
 exact ⟨gE, v, rfl, h1, h2, ⟨_, h3⟩, h4⟩
theorem mgS_none (m a b : List Int) (h : (mgS m a b).1 ≠ 0) : (mgS m a b).2 = [] := by
 unfold mgS mgT at h ⊢
 split at h
 ·rename_i h1; rw [if_pos h1]
 ·rename_i h1
  rw [if_neg h1]
  split at h
  ·rename_i h2; rw [if_pos h2]
  ·exact absurd rfl h
def thE (m a b : IM) : Int := if ckAll m.2.2.length [m, a, b] = 0 then (mgS m.2.2 a.2.2 b.2.2).1 else ckAll m.2.2.length [m, a, b]
def thL (m a b : IM) : List Int := if ckAll m.2.2.length [m, a, b] = 0 then (mgS m.2.2 a.2.2 b.2.2).2 else []
def thK (m a b : IM) : List Int := if thE m a b = 0 then hndL.filter (thT m.2.2 a.2.2 b.2.2) else []
def T3 (w w3 wx wA : World) (m a b : List Int) (bx gE : Nat) (v : Value) : Prop :=
 ∃ F, w3.heap.size <= gE /\ w3.heap.size <= bx /\ Mp obM wx gE 7000 F /\ ObF wA F (oT m a b) /\ Lst inC 1 3 wx w.heap.size v (hndL.filter (thT m a b)) /\ Below w3.heap.size w3 wx /\ wx.cell? ⟨bx, 0, none⟩ = some (.map (some gE))
theorem Lst.setLow {α : Type} {enc : α -> List Value} {k T : Nat} {w : World} {B b i : Nat} {v : Value} {l : List α} (h : Lst enc k T w B v l) (hb : b < B) (u : Value) : Lst enc k T (w.setCell ⟨b, i, none⟩ u) B v l := by
 refine ⟨h.1, ?_⟩
 rcases h.2 with h0 | ⟨g, cap, cur, e, hB, hc, r⟩
 ·exact .inl h0
 ·exact .inr ⟨g, cap, cur, e, hB, (Below.heap_setCell w ⟨b, i, none⟩ u g (by show g ≠ b; omega)).trans hc, r⟩
def C3 (w3 W w' wA : World) (m a b : List Int) (gE : Nat) (v : Value) (F : Int -> Option OV) : Prop :=
 w3.heap.size <= gE /\ Mp obM w' gE 7000 F /\ ObF wA F (oT m a b) /\ Lst inC 1 3 w' W.heap.size v (hndL.filter (thT m a b)) /\ Below w3.heap.size w3 w' /\ Below W.heap.size W w' /\ W.heap.size <= gE
section
variable {w w3 W w4 wA : World} {m a b : List Int} {gE : Nat} {v : Value} {F : Int -> Option OV}
theorem C3.callFirst (h : C3 w3 W w4 wA m a b gE v F) (hw : w.heap.size <= W.heap.size) : T3 w w3 (w4.alloc (.cells #[.map (some gE)] 50)) wA m a b w4.heap.size gE v := by
 obtain ⟨h1, h2, h3, h4, h5, h6, h7⟩ := h
 have hb : Below w4.heap.size w4 (w4.alloc (.cells #[.map (some gE)] 50)) := (Below.refl _ _).alloc (Nat.le_refl _) _
 exact ⟨F, h1, h5.size, h2.below hb, h3, Lst.lowM (h4.below hb) hw, h5.alloc h5.size _, cell_new1 _ _ _⟩
theorem C3.box (h : C3 w3 (w3.alloc (.cells #[.map none] 50)).drew w4 wA m a b gE v F) : w4.cell? ⟨w3.heap.size, 0, none⟩ = some (.map none) /\ w4.frozen? ⟨w3.heap.size, 0, none⟩ = false /\ w3.heap.size < w4.heap.size /\ Rw w4 w3.heap.size 50 [.map none] := by
 obtain ⟨h1, h2, h3, h4, h5, h6, h7⟩ := h
 have hs : (w3.alloc (.cells #[.map none] 50)).drew.heap.size = w3.heap.size + 1 := sz_alloc _ _
 have hr : Rw w4 w3.heap.size 50 [.map none] := (h6.block w3.heap.size (by rw [hs]; omega)).trans (heap_alloc_new w3 _)
 exact ⟨hr.cell rfl, hr.frozen 0, hr.lt, hr⟩
theorem C3.boxFirst (h : C3 w3 (w3.alloc (.cells #[.map none] 50)).drew w4 wA m a b gE v F) (hw : w.heap.size <= w3.heap.size) : T3 w w3 (w4.setCell ⟨w3.heap.size, 0, none⟩ (.map (some gE))) wA m a b w3.heap.size gE v := by
 obtain ⟨_, _, _, hr⟩ := h.box
 obtain ⟨h1, h2, h3, h4, h5, h6, h7⟩ := h
 have hs : (w3.alloc (.cells #[.map none] 50)).drew.heap.size = w3.heap.size + 1 := sz_alloc _ _
 rw [hs] at h4 h7
 exact ⟨F, h1, Nat.le_refl _, h2.same (Below.heap_setCell _ _ _ _ (by show gE ≠ w3.heap.size; omega)), h3, Lst.lowM (Lst.setLow h4 (by omega) _) (by omega), h5.setCell (Nat.le_refl _) _, (hr.set 0 _).cell rfl⟩
theorem cell_setB {b o : Nat} {u x : Value} (hb : b < w3.heap.size) (h : w4.cell? ⟨b, o, none⟩ = some x) : (w4.setCell ⟨w3.heap.size, 0, none⟩ u).cell? ⟨b, o, none⟩ = some x :=
 (((Below.refl w3.heap.size w4).setCell (p := ⟨w3.heap.size, 0, none⟩) (Nat.le_refl _) u).cell (p := ⟨b, o, none⟩) hb).trans h
end
set_option maxRecDepth 100000 in
set_option maxHeartbeats 4000000 in
theorem mThree_any (m a b : IM) (w : World) (hM : Bs w m.1 m.2.1 m.2.2) (hA : Bs w a.1 a.2.1 a.2.2) (hB : Bs w b.1 b.2.1 b.2.2) :
  Calls Tryz.prog 11 #[imV m, imV a, imV b] w fun e w' => ∃ x c v, e = .returned (.tuple #[.slice x (thL m a b).length c, v, errV (thE m a b)]) /\ Bs w' x c (thL m a b) /\ Lst inC 1 3 w' w.heap.size v (thK m a b) /\ Below w.heap.size w w' := by
 obtain ⟨hi, hb0⟩ := ims_three hM hA hB
 have HCK : Hid (Calls Tryz.prog 14 #[.slice (some ⟨w.heap.size, 0, none⟩) 3 3] (w.alloc (.cells #[imV m, imV a, imV b] 22)) fun e w' => e = .returned (errV (ckAll m.2.2.length [m, a, b])) /\ Below (w.alloc (.cells #[imV m, imV a, imV b] 22)).heap.size (w.alloc (.cells #[imV m, imV a, imV b] 22)) w') := hide (ckAll_any w.heap.size [m, a, b] m _ hi rfl (by show 3 <= 10; omega))
 have HB0 := hide hb0
 have HFI := hide (fun h => ckAll_zero (n := m.2.2.length) (l := [m, a, b]) h)
 have HEO := hide (fun (W : World) (hW : Below w.heap.size w W) (hf : ∀ x ∈ [m, a, b], Fine x.2.2 /\ x.2.2.length = m.2.2.length) => show Calls Tryz.prog 15 #[.func (.func 16) #[] #[], .slice (some ⟨W.heap.size, 0, none⟩) 3 3] (W.alloc (.cells #[imV m, imV a, imV b] 22)) _ from eachO [m, a, b] W.heap.size _ (ims_three (hM.below hW) (hA.below hW) (hB.below hW)).1 (fun x hx => (hf x hx).1) (by show 3 <= 10; omega))
 have HES := hide (fun (W : World) (hW : Below w.heap.size w W) (hf : ∀ x ∈ [m, a, b], Fine x.2.2 /\ x.2.2.length = m.2.2.length) => show Calls Tryz.prog 26 #[.func (.func 27) #[] #[], .slice (some ⟨W.heap.size, 0, none⟩) 3 3] (W.alloc (.cells #[imV m, imV a, imV b] 22)) _ from eachS [m, a, b] W.heap.size _ (ims_three (hM.below hW) (hA.below hW) (hB.below hW)).1 (fun x hx => (hf x hx).1) (by show 3 <= 10; omega))
 have HBI := hide (fun (W : World) (hW : Below w.heap.size w W) => (ims_three (hM.below hW) (hA.below hW) (hB.below hW)).2)
 have HKq : Hid (thK m a b = if thE m a b = 0 then hndL.filter (thT m.2.2 a.2.2 b.2.2) else []) := hide rfl
 have HEq : Hid (thE m a b = if ckAll m.2.2.length [m, a, b] = 0 then (mgS m.2.2 a.2.2 b.2.2).1 else ckAll m.2.2.length [m, a, b]) := hide rfl
 have HLq : Hid (thL m a b = if ckAll m.2.2.length [m, a, b] = 0 then (mgS m.2.2 a.2.2 b.2.2).2 else []) := hide rfl
 generalize thK m a b = TK at *
 generalize thE m a b = TE at *
 generalize thL m a b = TL at *
 have bym := hM.1
 have bya := hA.1
 have byb := hB.1
 generalize ckAll m.2.2.length [m, a, b] = C at *
 clear hi hb0 hM hA hB
 by_cases hC : C = 0
 ·subst hC
  rw [if_pos rfl] at HEq HLq
  rw [errV_zero] at HCK
  have hf := unhide HFI rfl
  have fm := hf m (by simp)
  have fa := hf a (by simp)
  have fb := hf b (by simp)
  have HFI2 := hide hf
  obtain ⟨ma, mc, ml⟩ := m
  obtain ⟨aa, ac, al⟩ := a
  obtain ⟨ba, bc, bl⟩ := b
  unfold imV at *
  dsimp only at *
  have HFM := hide fm.1
  have HFA := hide fa.1
  have HFB := hide fb.1
  have HYM := hide bym
  have HYA := hide bya
  have HYB := hide byb
  have hml := fm.1.len
  clear HFI hf fm fa fb bym bya byb
  go_enter Tryz.func11, Tryz.ntmps11
  go_wp2_with fail
  refine (unhide HCK).mono ?_
  rintro e w1 ⟨rfl, hb1⟩
  have hB1 : Below w.heap.size w w1 := (unhide HB0).trans (hb1.mono (unhide HB0).size)
  have HE1 := hide (unhide HEO w1 hB1 (unhide HFI2))
  have HB1a := hide (unhide HBI w1 hB1)
  have HB1 := hide hB1
  clear hb1 hB1 HCK HEO HB0
  go_wp2_with fail
  refine (unhide HE1).mono ?_
  rintro e w2 ⟨v2, gs, rfl, hL2, hgl2, hrd2, hb2⟩
  obtain ⟨g0, g1, g2, rfl⟩ := three_of hgl2
  obtain ⟨a2, c2, rfl, hsl2⟩ := hL2.sls mpC_len (by show 3 <= _; omega)
  obtain ⟨b2, o2, rfl, hc2⟩ := hsl2.2.2.2 (by simp)
  have k0 : w2.cell? ⟨b2, o2, none⟩ = some (.map (some g0)) := by have := hc2 0 g0 rfl 0 _ rfl; simpa using this
  have k1 : w2.cell? ⟨b2, o2 + 1, none⟩ = some (.map (some g1)) := by have := hc2 1 g1 rfl 0 _ rfl; simpa using this
  have k2 : w2.cell? ⟨b2, o2 + 2, none⟩ = some (.map (some g2)) := by have := hc2 2 g2 rfl 0 _ rfl; simpa using this
  have kl := block_lt_of_cell k0
  have r0 := (hrd2 0 _ _ rfl rfl).2
  have r1 := (hrd2 1 _ _ rfl rfl).2
  have r2 := (hrd2 2 _ _ rfl rfl).2
  dsimp only at r0 r1 r2
  have hB1a := unhide HB1a
  have hB2 : Below w.heap.size w w2 := ((unhide HB1).trans (hB1a.mono (unhide HB1).size)).trans (hb2.mono (Nat.le_trans (unhide HB1).size hB1a.size))
  have HR0 := hide r0
  have HR1 := hide r1
  have HR2 := hide r2
  have HK0 := hide k0
  have HK1 := hide k1
  have HK2 := hide k2
  have HBA2 := hide hb2
  have HE2 := hide (unhide HES w2 hB2 (unhide HFI2))
  have HB2a := hide (unhide HBI w2 hB2)
  have HB2 := hide hB2
  clear hL2 hgl2 hrd2 hsl2 hc2 r0 r1 r2 k0 k1 k2 hb2 hB2 hB1a HE1 HES HBI HFI2 HB1a HB1
  go_wp2_with fail
  refine (unhide HE2).mono ?_
  rintro e w3 ⟨v3, gs, rfl, hL3, hgl3, hrd3, hb3⟩
  obtain ⟨l0, l1, l2, rfl⟩ := three_of hgl3
  obtain ⟨a3, c3, rfl, hsl3⟩ := hL3.sls mpC_len (by show 3 <= _; omega)
  obtain ⟨b3, o3, rfl, hc3⟩ := hsl3.2.2.2 (by simp)
  have j0 : w3.cell? ⟨b3, o3, none⟩ = some (.map (some l0)) := by have := hc3 0 l0 rfl 0 _ rfl; simpa using this
  have j1 : w3.cell? ⟨b3, o3 + 1, none⟩ = some (.map (some l1)) := by have := hc3 1 l1 rfl 0 _ rfl; simpa using this
  have j2 : w3.cell? ⟨b3, o3 + 2, none⟩ = some (.map (some l2)) := by have := hc3 2 l2 rfl 0 _ rfl; simpa using this
  have jl := block_lt_of_cell j0
  have s0 := (hrd3 0 _ _ rfl rfl).2
  have s1 := (hrd3 1 _ _ rfl rfl).2
  have s2 := (hrd3 2 _ _ rfl rfl).2
  dsimp only at s0 s1 s2
  have hb23 : Below w2.heap.size w2 w3 := (unhide HB2a).trans (hb3.mono (unhide HB2a).size)
  have hB3 : Below w.heap.size w w3 := (unhide HB2).trans (hb23.mono (unhide HB2).size)
  have k0 := (hb23.cell (p := ⟨b2, o2, none⟩) kl).trans (unhide HK0)
  have k1 := (hb23.cell (p := ⟨b2, o2 + 1, none⟩) kl).trans (unhide HK1)
  have k2 := (hb23.cell (p := ⟨b2, o2 + 2, none⟩) kl).trans (unhide HK2)
  have HT := hide (fun (W : World) (hW : Below w3.heap.size w3 W) => show Calls Tryz.prog 28 #[.map (some g0), .map (some g1), .map (some g2), .func (.func 18) #[] #[]] W fun e w' => ∃ gE va vm vc F, e = .returned (.tuple #[.map (some gE), .slice va vm vc]) /\ C3 w3 W w' (w1.alloc (.cells #[.slice ma ml.length mc, .slice aa al.length ac, .slice ba bl.length bc] 22)) ml al bl gE (.slice va vm vc) F /\ w'.cell? ⟨b2, o2, none⟩ = some (.map (some g0)) /\ w'.cell? ⟨b2, o2 + 1, none⟩ = some (.map (some g1)) /\ w'.cell? ⟨b2, o2 + 2, none⟩ = some (.map (some g2)) from by
   have hW2 : Below w2.heap.size w2 W := hb23.trans (hW.mono hb23.size)
   refine (thObj g0 g1 g2 ml al bl _ W ((unhide HR0).same (hW2.block g0 (by obtain ⟨es, cl, hm⟩ := (unhide HR0).isMap; exact (Array.getElem?_eq_some_iff.1 hm).1))) ((unhide HR1).same (hW2.block g1 (by obtain ⟨es, cl, hm⟩ := (unhide HR1).isMap; exact (Array.getElem?_eq_some_iff.1 hm).1))) ((unhide HR2).same (hW2.block g2 (by obtain ⟨es, cl, hm⟩ := (unhide HR2).isMap; exact (Array.getElem?_eq_some_iff.1 hm).1))) ((unhide HBA2).trans (hW2.mono (unhide HBA2).size))).mono ?_
   rintro e w' ⟨gE, v, F, rfl, q1, ⟨q2, q3⟩, q4, q5⟩
   obtain ⟨va, vm, vc, rfl⟩ := q4.shape
   have q6 : Below w3.heap.size w3 w' := hW.trans (q5.mono hW.size)
   exact ⟨gE, va, vm, vc, F, rfl, ⟨Nat.le_trans hW.size q1, q2, q3, q4, q6, q5, q1⟩, (q6.cell (p := ⟨b2, o2, none⟩) (Nat.lt_of_lt_of_le kl hb23.size)).trans k0, (q6.cell (p := ⟨b2, o2 + 1, none⟩) (Nat.lt_of_lt_of_le kl hb23.size)).trans k1, (q6.cell (p := ⟨b2, o2 + 2, none⟩) (Nat.lt_of_lt_of_le kl hb23.size)).trans k2⟩)
  have hws := hB3.size
  have hb13 : Below (w1.alloc (.cells #[.slice ma ml.length mc, .slice aa al.length ac, .slice ba bl.length bc] 22)).heap.size (w1.alloc (.cells #[.slice ma ml.length mc, .slice aa al.length ac, .slice ba bl.length bc] 22)) w3 := (unhide HBA2).trans (hb23.mono (unhide HBA2).size)
  have HB3 := hide hB3
  have HS0 := hide s0
  have HS1 := hide s1
  have HS2 := hide s2
  have HJ0 := hide j0
  have HJ1 := hide j1
  have HJ2 := hide j2
  have kl3 : b2 < w3.heap.size := Nat.lt_of_lt_of_le kl hb23.size
  clear hL3 hgl3 hrd3 hsl3 hc3 s0 s1 s2 j0 j1 j2 hb3 hb23 hB3 HE2 HB2a HB2 HBA2 HR0 HR1 HR2 HK0 HK1 HK2
  go_upto_region 10 with fail
  go_cut [13, 14] from 48 to 60 (fun v13 v14 wx => ∃ bx gE va vm vc, v13 = .pointer (some ⟨bx, 0, none⟩) /\ v14 = .slice va vm vc /\ T3 w w3 wx (w1.alloc (.cells #[.slice ma ml.length mc, .slice aa al.length ac, .slice ba bl.length bc] 22)) ml al bl bx gE (.slice va vm vc))
  case first =>
   refine wp_region_held_drew (S := (fun w' => w'.cell? ⟨b2, o2, none⟩ = some (.map (some g0)) /\ w'.cell? ⟨b2, o2 + 1, none⟩ = some (.map (some g1)) /\ w'.cell? ⟨b2, o2 + 2, none⟩ = some (.map (some g2)))) (by kernel_rfl) ⟨k0, k1, k2⟩ (fun hHeld => ?_)
   refine wpAnyH_take (i := 0) (oi := { dst := some 49, op := Op.move (Operand.tmp 10), type := 43, pos := "merge.go:46", after := #[], guard := none }) (v := (.slice (some ⟨b2, o2, none⟩) 3 c2)) rfl (by kernel_rfl) (by kernel_rfl) (by kernel_rfl) (fun _ _ _ h => h) (Or.inl ⟨by rfl, fun wq hSw => by (try dsimp only at hSw); go_simp⟩) (by assumption) ?_
   try simp only [Act.put, List.setIfInBounds_toArray, List.set_cons_zero, List.set_cons_succ]
   refine wpAnyH_take (i := 1) (oi := { dst := some 50, op := Op.indexAddr 43 (Operand.tmp 49) (Operand.const (Value.int IntKind.i64 0)), type := 0, pos := "merge.go:46", after := #[{ on := 0, ground := Ground.data }], guard := none }) (v := (.pointer (some ⟨b2, o2, none⟩))) rfl (by kernel_rfl) (by kernel_rfl) (by kernel_rfl) (fun _ _ _ h => h) (Or.inl ⟨by rfl, fun wq hSw => by (try dsimp only at hSw); go_simp⟩) (by assumption) ?_
   try simp only [Act.put, List.setIfInBounds_toArray, List.set_cons_zero, List.set_cons_succ]
   refine wpAnyH_take (i := 2) (oi := { dst := some 51, op := Op.load 50 (Operand.tmp 50), type := 50, pos := "merge.go:46", after := #[{ on := 1, ground := Ground.data }], guard := none }) (v := (.map (some g0))) rfl (by kernel_rfl) (by kernel_rfl) (by kernel_rfl) (fun _ _ _ h => h) (Or.inl ⟨by rfl, fun wq hSw => by (try dsimp only at hSw); go_simp⟩) (by assumption) ?_
   try simp only [Act.put, List.setIfInBounds_toArray, List.set_cons_zero, List.set_cons_succ]
   refine wpAnyH_take (i := 3) (oi := { dst := some 52, op := Op.move (Operand.tmp 10), type := 43, pos := "merge.go:46", after := #[], guard := none }) (v := (.slice (some ⟨b2, o2, none⟩) 3 c2)) rfl (by kernel_rfl) (by kernel_rfl) (by kernel_rfl) (fun _ _ _ h => h) (Or.inl ⟨by rfl, fun wq hSw => by (try dsimp only at hSw); go_simp⟩) (by assumption) ?_
   try simp only [Act.put, List.setIfInBounds_toArray, List.set_cons_zero, List.set_cons_succ]
   refine wpAnyH_take (i := 4) (oi := { dst := some 53, op := Op.indexAddr 43 (Operand.tmp 52) (Operand.const (Value.int IntKind.i64 1)), type := 0, pos := "merge.go:46", after := #[{ on := 3, ground := Ground.data }], guard := none }) (v := (.pointer (some ⟨b2, o2 + 1, none⟩))) rfl (by kernel_rfl) (by kernel_rfl) (by kernel_rfl) (fun _ _ _ h => h) (Or.inl ⟨by rfl, fun wq hSw => by (try dsimp only at hSw); go_simp⟩) (by assumption) ?_
   try simp only [Act.put, List.setIfInBounds_toArray, List.set_cons_zero, List.set_cons_succ]
   refine wpAnyH_take (i := 5) (oi := { dst := some 54, op := Op.load 50 (Operand.tmp 53), type := 50, pos := "merge.go:46", after := #[{ on := 4, ground := Ground.data }], guard := none }) (v := (.map (some g1))) rfl (by kernel_rfl) (by kernel_rfl) (by kernel_rfl) (fun _ _ _ h => h) (Or.inl ⟨by rfl, fun wq hSw => by (try dsimp only at hSw); go_simp⟩) (by assumption) ?_
   try simp only [Act.put, List.setIfInBounds_toArray, List.set_cons_zero, List.set_cons_succ]
   refine wpAnyH_take (i := 6) (oi := { dst := some 55, op := Op.move (Operand.tmp 10), type := 43, pos := "merge.go:46", after := #[], guard := none }) (v := (.slice (some ⟨b2, o2, none⟩) 3 c2)) rfl (by kernel_rfl) (by kernel_rfl) (by kernel_rfl) (fun _ _ _ h => h) (Or.inl ⟨by rfl, fun wq hSw => by (try dsimp only at hSw); go_simp⟩) (by assumption) ?_
   try simp only [Act.put, List.setIfInBounds_toArray, List.set_cons_zero, List.set_cons_succ]
   refine wpAnyH_take (i := 7) (oi := { dst := some 56, op := Op.indexAddr 43 (Operand.tmp 55) (Operand.const (Value.int IntKind.i64 2)), type := 0, pos := "merge.go:46", after := #[{ on := 6, ground := Ground.data }], guard := none }) (v := (.pointer (some ⟨b2, o2 + 2, none⟩))) rfl (by kernel_rfl) (by kernel_rfl) (by kernel_rfl) (fun _ _ _ h => h) (Or.inl ⟨by rfl, fun wq hSw => by (try dsimp only at hSw); go_simp⟩) (by assumption) ?_
   try simp only [Act.put, List.setIfInBounds_toArray, List.set_cons_zero, List.set_cons_succ]
   refine wpAnyH_take (i := 8) (oi := { dst := some 57, op := Op.load 50 (Operand.tmp 56), type := 50, pos := "merge.go:46", after := #[{ on := 7, ground := Ground.data }], guard := none }) (v := (.map (some g2))) rfl (by kernel_rfl) (by kernel_rfl) (by kernel_rfl) (fun _ _ _ h => h) (Or.inl ⟨by rfl, fun wq hSw => by (try dsimp only at hSw); go_simp⟩) (by assumption) ?_
   try simp only [Act.put, List.setIfInBounds_toArray, List.set_cons_zero, List.set_cons_succ]
   refine wpAnyH_ready (rs := [9, 13]) (by kernel_rfl) (by simp) ?_
   refine AllReadyH.cons (o := { dst := some 58, op := Op.call { callee := Callee.value (Operand.func 28), args := #[Operand.tmp 51, Operand.tmp 54, Operand.tmp 57, Operand.func 18], argTypes := #[50, 50, 50, 51] }, type := 73, pos := "merge.go:46", after := #[{ on := 2, ground := Ground.data }, { on := 5, ground := Ground.data }, { on := 8, ground := Ground.data }], guard := none }) rfl (fun K hK => ?_) (AllReadyH.cons (o := { dst := some 13, op := Op.alloc 50, type := 0, pos := "merge.go:46", after := #[], guard := none }) rfl (fun K hK => ?_) AllReadyH.nil)
   ·skip
    go_simp
    refine (unhide HT _ (by repeat (first | exact Below.refl _ _ | refine Below.drew ?_))).mono ?_
    rintro e w4 ⟨gE, va, vm, vc, F, rfl, h4, t0, t1, t2⟩
    refine hK.out _ _ ⟨t0, t1, t2⟩ (fun hHeld1 => ?_)
    clear hK K hHeld
    try simp only [Act.put, List.setIfInBounds_toArray, List.set_cons_zero, List.set_cons_succ]
    refine wpAnyH_take (i := 10) (oi := { dst := some 48, op := Op.move (Operand.tmp 58), type := 73, pos := "merge.go:46", after := #[{ on := 9, ground := Ground.data }], guard := none }) (v := (.tuple #[.map (some gE), .slice va vm vc])) rfl (by kernel_rfl) (by kernel_rfl) (by kernel_rfl) (fun _ _ _ h => h) (Or.inl ⟨by rfl, fun wq hSw => by (try dsimp only at hSw); go_simp⟩) (by assumption) ?_
    try simp only [Act.put, List.setIfInBounds_toArray, List.set_cons_zero, List.set_cons_succ]
    refine wpAnyH_take (i := 11) (oi := { dst := some 59, op := Op.extract (Operand.tmp 48) 0, type := 50, pos := "merge.go:46", after := #[{ on := 10, ground := Ground.data }], guard := none }) (v := (.map (some gE))) rfl (by kernel_rfl) (by kernel_rfl) (by kernel_rfl) (fun _ _ _ h => h) (Or.inl ⟨by rfl, fun wq hSw => by (try dsimp only at hSw); go_simp⟩) (by assumption) ?_
    try simp only [Act.put, List.setIfInBounds_toArray, List.set_cons_zero, List.set_cons_succ]
    refine wpAnyH_take (i := 12) (oi := { dst := some 60, op := Op.extract (Operand.tmp 48) 1, type := 25, pos := "merge.go:46", after := #[{ on := 10, ground := Ground.data }, { on := 14, ground := Ground.gcOnly Departure.lateStores }], guard := none }) (v := (.slice va vm vc)) rfl (by kernel_rfl) (by kernel_rfl) (by kernel_rfl) (fun _ _ _ h => h) (Or.inl ⟨by rfl, fun wq hSw => by (try dsimp only at hSw); go_simp⟩) (by assumption) ?_
    try simp only [Act.put, List.setIfInBounds_toArray, List.set_cons_zero, List.set_cons_succ]
    refine wpAnyH_ready (rs := [13]) (by kernel_rfl) (by simp) ?_
    refine AllReadyH.cons (o := { dst := some 13, op := Op.alloc 50, type := 0, pos := "merge.go:46", after := #[], guard := none }) rfl (fun K hK => ?_) AllReadyH.nil
    go_simp
    refine hK.out _ _ ⟨cell_old _ t0, cell_old _ t1, cell_old _ t2⟩ (fun hHeld2 => ?_)
    clear hK K hHeld1
    try simp only [Act.put, List.setIfInBounds_toArray, List.set_cons_zero, List.set_cons_succ]
    refine wpAnyH_ready (rs := [14]) (by kernel_rfl) (by simp) ?_
    refine AllReadyH.cons (o := { dst := none, op := Op.store 50 (Operand.tmp 13) (Operand.tmp 59), type := 0, pos := "merge.go:46", after := #[{ on := 13, ground := Ground.data }, { on := 11, ground := Ground.data }, { on := 9, ground := Ground.chain }, { on := 0, ground := Ground.phase }, { on := 1, ground := Ground.phase }, { on := 2, ground := Ground.phase }, { on := 3, ground := Ground.phase }, { on := 4, ground := Ground.phase }, { on := 5, ground := Ground.phase }, { on := 6, ground := Ground.phase }, { on := 7, ground := Ground.phase }, { on := 8, ground := Ground.phase }, { on := 9, ground := Ground.phase }, { on := 10, ground := Ground.phase }, { on := 11, ground := Ground.phase }, { on := 12, ground := Ground.textOnly Departure.lateStores }, { on := 13, ground := Ground.phase }], guard := none }) rfl (fun K hK => ?_) AllReadyH.nil
    go_simp
    refine hK.out _ _ ⟨cell_old _ t0, cell_old _ t1, cell_old _ t2⟩ (fun hHeld3 => ?_)
    clear hK K hHeld2
    try simp only [Act.put, List.setIfInBounds_toArray, List.set_cons_zero, List.set_cons_succ]
    refine wpAnyH_take (i := 15) (oi := { dst := some 14, op := Op.assign (Operand.tmp 60), type := 25, pos := "merge.go:46", after := #[{ on := 12, ground := Ground.data }, { on := 14, ground := Ground.chain }, { on := 0, ground := Ground.phase }, { on := 1, ground := Ground.phase }, { on := 2, ground := Ground.phase }, { on := 3, ground := Ground.phase }, { on := 4, ground := Ground.phase }, { on := 5, ground := Ground.phase }, { on := 6, ground := Ground.phase }, { on := 7, ground := Ground.phase }, { on := 8, ground := Ground.phase }, { on := 9, ground := Ground.phase }, { on := 10, ground := Ground.phase }, { on := 11, ground := Ground.phase }, { on := 12, ground := Ground.phase }, { on := 13, ground := Ground.phase }, { on := 14, ground := Ground.phase }], guard := none }) (v := (.slice va vm vc)) rfl (by kernel_rfl) (by kernel_rfl) (by kernel_rfl) (fun _ _ _ h => h) (Or.inl ⟨by rfl, fun wq hSw => by (try dsimp only at hSw); go_simp⟩) (by assumption) ?_
    try simp only [Act.put, List.setIfInBounds_toArray, List.set_cons_zero, List.set_cons_succ]
    refine wpAnyH_done (by kernel_rfl) ?_ _
    go_wp2
    go_meet
    case rel => exact ⟨w4.heap.size, gE, va, vm, vc, rfl, rfl, h4.callFirst hws⟩
   ·skip
    go_simp
    refine hK.out _ _ ⟨cell_old _ k0, cell_old _ k1, cell_old _ k2⟩ (fun hHeld1 => ?_)
    clear hK K hHeld
    try simp only [Act.put, List.setIfInBounds_toArray, List.set_cons_zero, List.set_cons_succ]
    refine wpAnyH_ready (rs := [9]) (by kernel_rfl) (by simp) ?_
    refine AllReadyH.cons (o := { dst := some 58, op := Op.call { callee := Callee.value (Operand.func 28), args := #[Operand.tmp 51, Operand.tmp 54, Operand.tmp 57, Operand.func 18], argTypes := #[50, 50, 50, 51] }, type := 73, pos := "merge.go:46", after := #[{ on := 2, ground := Ground.data }, { on := 5, ground := Ground.data }, { on := 8, ground := Ground.data }], guard := none }) rfl (fun K hK => ?_) AllReadyH.nil
    go_simp
    refine (unhide HT _ (by repeat (first | exact Below.refl _ _ | refine Below.drew ?_ | refine Below.alloc ?_ (Nat.le_refl _) _))).mono ?_
    rintro e w4 ⟨gE, va, vm, vc, F, rfl, h4, t0, t1, t2⟩
    refine hK.out _ _ ⟨t0, t1, t2⟩ (fun hHeld2 => ?_)
    clear hK K hHeld1
    try simp only [Act.put, List.setIfInBounds_toArray, List.set_cons_zero, List.set_cons_succ]
    refine wpAnyH_take (i := 10) (oi := { dst := some 48, op := Op.move (Operand.tmp 58), type := 73, pos := "merge.go:46", after := #[{ on := 9, ground := Ground.data }], guard := none }) (v := (.tuple #[.map (some gE), .slice va vm vc])) rfl (by kernel_rfl) (by kernel_rfl) (by kernel_rfl) (fun _ _ _ h => h) (Or.inl ⟨by rfl, fun wq hSw => by (try dsimp only at hSw); go_simp⟩) (by assumption) ?_
    try simp only [Act.put, List.setIfInBounds_toArray, List.set_cons_zero, List.set_cons_succ]
    refine wpAnyH_take (i := 11) (oi := { dst := some 59, op := Op.extract (Operand.tmp 48) 0, type := 50, pos := "merge.go:46", after := #[{ on := 10, ground := Ground.data }], guard := none }) (v := (.map (some gE))) rfl (by kernel_rfl) (by kernel_rfl) (by kernel_rfl) (fun _ _ _ h => h) (Or.inl ⟨by rfl, fun wq hSw => by (try dsimp only at hSw); go_simp⟩) (by assumption) ?_
    try simp only [Act.put, List.setIfInBounds_toArray, List.set_cons_zero, List.set_cons_succ]
    refine wpAnyH_take (i := 12) (oi := { dst := some 60, op := Op.extract (Operand.tmp 48) 1, type := 25, pos := "merge.go:46", after := #[{ on := 10, ground := Ground.data }, { on := 14, ground := Ground.gcOnly Departure.lateStores }], guard := none }) (v := (.slice va vm vc)) rfl (by kernel_rfl) (by kernel_rfl) (by kernel_rfl) (fun _ _ _ h => h) (Or.inl ⟨by rfl, fun wq hSw => by (try dsimp only at hSw); go_simp⟩) (by assumption) ?_
    try simp only [Act.put, List.setIfInBounds_toArray, List.set_cons_zero, List.set_cons_succ]
    refine wpAnyH_ready (rs := [14]) (by kernel_rfl) (by simp) ?_
    refine AllReadyH.cons (o := { dst := none, op := Op.store 50 (Operand.tmp 13) (Operand.tmp 59), type := 0, pos := "merge.go:46", after := #[{ on := 13, ground := Ground.data }, { on := 11, ground := Ground.data }, { on := 9, ground := Ground.chain }, { on := 0, ground := Ground.phase }, { on := 1, ground := Ground.phase }, { on := 2, ground := Ground.phase }, { on := 3, ground := Ground.phase }, { on := 4, ground := Ground.phase }, { on := 5, ground := Ground.phase }, { on := 6, ground := Ground.phase }, { on := 7, ground := Ground.phase }, { on := 8, ground := Ground.phase }, { on := 9, ground := Ground.phase }, { on := 10, ground := Ground.phase }, { on := 11, ground := Ground.phase }, { on := 12, ground := Ground.textOnly Departure.lateStores }, { on := 13, ground := Ground.phase }], guard := none }) rfl (fun K hK => ?_) AllReadyH.nil
    obtain ⟨hx1, hx2, hx3, _⟩ := h4.box
    go_simp
    refine hK.out _ _ ⟨cell_setB kl3 t0, cell_setB kl3 t1, cell_setB kl3 t2⟩ (fun hHeld3 => ?_)
    clear hK K hHeld2
    try simp only [Act.put, List.setIfInBounds_toArray, List.set_cons_zero, List.set_cons_succ]
    refine wpAnyH_take (i := 15) (oi := { dst := some 14, op := Op.assign (Operand.tmp 60), type := 25, pos := "merge.go:46", after := #[{ on := 12, ground := Ground.data }, { on := 14, ground := Ground.chain }, { on := 0, ground := Ground.phase }, { on := 1, ground := Ground.phase }, { on := 2, ground := Ground.phase }, { on := 3, ground := Ground.phase }, { on := 4, ground := Ground.phase }, { on := 5, ground := Ground.phase }, { on := 6, ground := Ground.phase }, { on := 7, ground := Ground.phase }, { on := 8, ground := Ground.phase }, { on := 9, ground := Ground.phase }, { on := 10, ground := Ground.phase }, { on := 11, ground := Ground.phase }, { on := 12, ground := Ground.phase }, { on := 13, ground := Ground.phase }, { on := 14, ground := Ground.phase }], guard := none }) (v := (.slice va vm vc)) rfl (by kernel_rfl) (by kernel_rfl) (by kernel_rfl) (fun _ _ _ h => h) (Or.inl ⟨by rfl, fun wq hSw => by (try dsimp only at hSw); go_simp⟩) (by assumption) ?_
    try simp only [Act.put, List.setIfInBounds_toArray, List.set_cons_zero, List.set_cons_succ]
    refine wpAnyH_done (by kernel_rfl) ?_ _
    go_wp2
    go_meet
    case rel => exact ⟨w3.heap.size, gE, va, vm, vc, rfl, rfl, h4.boxFirst hws⟩
  case rest =>
   obtain ⟨bx, gE, va, vm, vc, rfl, rfl, hT3⟩ := hcut
   obtain ⟨F, q1, q2, q3, q4, q5, q6, q7⟩ := hT3
   have hgEl := q3.lt
   have hbxl := block_lt_of_cell q7
   have j0 := (q6.cell (p := ⟨b3, o3, none⟩) jl).trans (unhide HJ0)
   have j1 := (q6.cell (p := ⟨b3, o3 + 1, none⟩) jl).trans (unhide HJ1)
   have j2 := (q6.cell (p := ⟨b3, o3 + 2, none⟩) jl).trans (unhide HJ2)
   have jlc : b3 < wc.heap.size := Nat.lt_of_lt_of_le jl q6.size
   have HTL : Hid (Calls Tryz.prog 29 #[.map (some l0), .map (some l1), .map (some l2), .func (.func 30) #[] #[]] wc.drew fun e w' => ∃ gR ra rm rc, e = .returned (.tuple #[.map (some gR), .slice ra rm rc]) /\ (wc.heap.size <= gR /\ Mp leM w' gR 7000 (leT ml al bl) /\ Below wc.heap.size wc w') /\ w'.cell? ⟨b3, o3, none⟩ = some (.map (some l0)) /\ w'.cell? ⟨b3, o3 + 1, none⟩ = some (.map (some l1)) /\ w'.cell? ⟨b3, o3 + 2, none⟩ = some (.map (some l2))) := hide (by
    have hd : Below wc.heap.size wc wc.drew := (Below.refl _ _).drew
    have hrd : ∀ {L : List Int} {g : Nat}, RdmS (w2.alloc (.cells #[.slice ma ml.length mc, .slice aa al.length ac, .slice ba bl.length bc] 22)) L w3 g -> RdmS wc.drew L wc.drew g := fun {L g} h => by
     obtain ⟨es, cl, hm⟩ := h.isMap
     exact Mp.same h ((q6.block g (Array.getElem?_eq_some_iff.1 hm).1))
    refine (thLead l0 l1 l2 ml al bl wc.drew (hrd (unhide HS0)) (hrd (unhide HS1)) (hrd (unhide HS2)) (fun s hs => nameB_size (mgN_ok (unhide HFM) (unhide HFA) (unhide HFB) (unhide HYM) (unhide HYA) (unhide HYB) hs))).mono ?_
    rintro e w' ⟨gR, v, rfl, x1, x2, ⟨l, x3⟩, x4⟩
    obtain ⟨ra, rm, rc, rfl⟩ := x3.shape
    have x5 : Below wc.heap.size wc w' := hd.trans x4
    exact ⟨gR, ra, rm, rc, rfl, ⟨x1, x2, x5⟩, (x5.cell (p := ⟨b3, o3, none⟩) jlc).trans j0, (x5.cell (p := ⟨b3, o3 + 1, none⟩) jlc).trans j1, (x5.cell (p := ⟨b3, o3 + 2, none⟩) jlc).trans j2⟩)
   have HQ3 := hide q3
   have HQ4 := hide q4
   have HQ5 := hide q5
   have HQ7 := hide q7
   have hBc : Below w.heap.size w wc := (unhide HB3).trans (q6.mono (unhide HB3).size)
   have HBc := hide hBc
   have HBA3 := hide hb13
   have HQ6 := hide q6
   clear q3 q4 q5 q6 q7 hBc HT HJ0 HJ1 HJ2 HS0 HS1 HS2 HB3 k0 k1 k2
   go_upto_region 11 with fail
   go_region_held3 (fun w' => w'.cell? ⟨b3, o3, none⟩ = some (.map (some l0)) /\ w'.cell? ⟨b3, o3 + 1, none⟩ = some (.map (some l1)) /\ w'.cell? ⟨b3, o3 + 2, none⟩ = some (.map (some l2))) (first | go_keep | (go_split_ands; refine ⟨?_, ?_, ?_⟩ <;> go_keep))
    ((go_at_call 29; refine (unhide HTL).mono ?_; rintro e w5 ⟨gR, ra, rm, rc, rfl, h5, t0, t1, t2⟩))
   obtain ⟨y1, y2, y3⟩ := h5
   have m5 := (unhide HQ3).below y3
   have c5 := (y3.cell (p := ⟨bx, 0, none⟩) hbxl).trans (unhide HQ7)
   have hFp : ∀ h v, F h = some v -> 0 < v.2.2.1 := fun h v hv => by
    rcases unhide HQ4 h with ⟨e1, _⟩ | ⟨t, x, c, l, e1, _, _, e4, _⟩
    ·rw [hv] at e1; cases e1
    ·rw [hv] at e1
     obtain rfl := Option.some.inj e1
     exact List.length_pos_iff.2 e4
   have HDR := hide (delRoots bx gE 7000 gR 7000 F (leT ml al bl) w5 c5 m5 (by omega) hFp y2 (by omega))
   have hgR := y2.lt
   have HM5 := hide m5
   have HC5 := hide c5
   have HY3 := hide y3
   clear y2 y3 m5 c5 hFp j0 j1 j2 t0 t1 t2 HTL HQ3 HQ7
   go_wp2_with fail
   refine (unhide HDR).mono ?_
   rintro e w6 ⟨rfl, z1, z2⟩
   have hb56 : Below wc.heap.size w5 w6 := (Below.refl _ _).grown z2 (unhide HY3).size (fun j hj => by cases hj; exact y1)
   have hc6 : Below wc.heap.size wc w6 := (unhide HY3).trans hb56
   have c6 : w6.cell? ⟨bx, 0, none⟩ = some (.map (some gE)) := (hb56.cell (p := ⟨bx, 0, none⟩) hbxl).trans (unhide HC5)
   have m6 := (unhide HM5).belowB hb56 hgEl
   have hin : ∀ k, (F k).isSome = true -> k ∈ hndL := fun k hk => by
    have := ((unhide HQ4).some_iff k).1 hk
    refine Classical.byContradiction fun hn => this (oT_out (fun h => hn (mem_hndL.2 h)))
   have hinr : ∀ s, (keepF (leT ml al bl) (fun _ h => !(F h).isSome) s).isSome = true -> s ∈ mgN ml al bl := fun s hs => by
    unfold keepF at hs
    cases hq : leT ml al bl s with
    | none => rw [hq] at hs; cases hs
    | some h => exact leT_in (by rw [hq]; rfl)
   obtain ⟨lp, le⟩ := ld_three (unhide HFM) (unhide HFA) (unhide HFB) (unhide HYM) (unhide HYA) (unhide HYB) (unhide HQ4) rfl
   have hA6 : Below (w1.alloc (.cells #[.slice ma ml.length mc, .slice aa al.length ac, .slice ba bl.length bc] 22)).heap.size (w1.alloc (.cells #[.slice ma ml.length mc, .slice aa al.length ac, .slice ba bl.length bc] 22)) w6 := (unhide HBA3).trans (((unhide HQ6).trans (hc6.mono (unhide HQ6).size)).mono (unhide HBA3).size)
   have HLD := hide (mLaid_any ml.length gE gR 7000 7000 F (oT ml al bl) _ (mgN ml al bl) _ _ w6 hml m6 (unhide HQ4) hA6 hin (oT_ok (unhide HFA) (unhide HYA) (unhide HFB) (unhide HYB)) z1 (insL_ris _) hinr (by have := mgN_len (m := ml) (a := al) (b := bl); omega) rfl lp)
   rw [le] at HLD
   have hB6 : Below w.heap.size w w6 := (unhide HBc).trans (hc6.mono (unhide HBc).size)
   have HB6 := hide hB6
   have HL6 := hide ((unhide HQ5).below hc6)
   clear z1 z2 hb56 hc6 m6 hin hinr lp le hA6 hB6 HDR HM5 HC5 HY3 HBA3 HQ4 HQ5 HQ6 HBc
   have HSL0 : Hid ((mgS ml al bl).1 ≠ 0 -> (mgS ml al bl).2 = []) := hide (mgS_none ml al bl)
   generalize mgS ml al bl = SS at *
   obtain ⟨SE, SL⟩ := SS
   dsimp only at *
   go_wp2_with fail
   refine (unhide HLD).mono ?_
   rintro e w7 ⟨a7, c7, rfl, hb7, hB7⟩
   have HB7 := hide hb7
   have HBW7 := hide ((unhide HB6).trans (hB7.mono (unhide HB6).size))
   have HL7 := hide ((unhide HL6).below hB7)
   clear hb7 hB7 HLD HL6
   by_cases hSE : SE = 0
   ·subst hSE
    have HK2 : Hid (TK = hndL.filter (thT ml al bl)) := hide (by rw [unhide HKq, unhide HEq, if_pos rfl])
    rw [errV_zero]
    go_wp2
    go_ret3
    rw [unhide HK2, unhide HEq, unhide HLq]
    exact ⟨a7, c7, _, rfl, unhide HB7, unhide HL7, unhide HBW7⟩
   ·rw [errV_pos _ hSE]
    have HSL := hide (unhide HSL0 hSE)
    have HK2 : Hid (TK = []) := hide (by rw [unhide HKq, unhide HEq, if_neg hSE])
    go_wp2
    go_ret3
    rw [unhide HK2, unhide HEq, unhide HLq, unhide HSL, errV_pos _ hSE]
    exact ⟨none, 0, _, rfl, bs_nil _, Lst.nil _ _, unhide HBW7⟩
 ·rw [if_neg hC] at HEq HLq
  have HK2 : Hid (TK = []) := hide (by rw [unhide HKq, unhide HEq, if_neg hC])
  rw [errV_pos _ hC] at HCK
  clear HFI HEO HES HBI
  unfold imV at *
  go_enter Tryz.func11, Tryz.ntmps11
  go_wp2_with fail
  refine (unhide HCK).mono ?_
  rintro e w1 ⟨rfl, hb1⟩
  have HB1 := hide ((unhide HB0).trans (hb1.mono (unhide HB0).size))
  clear hb1 HCK HB0
  go_wp2
  go_ret3
  rw [unhide HK2, unhide HEq, unhide HLq, errV_pos _ hC]
  exact ⟨none, 0, _, rfl, bs_nil _, Lst.nil _ _, unhide HB1⟩
end Go.Proofs.YtifmemombecoaaaGreatDoor
namespace Go.Proofs.YtifmemombecoaaaGreatDoor
open Go.RowKit
set_option linter.unusedVariables false
theorem ckOne_right {L : List Int} (h : Fine L) : ckOne L = 0 := by
 unfold ckOne
 rw [if_neg (by rw [h.len0]; simp), if_pos]
 unfold chkF
 rw [if_pos h.len0]
 exact h.ok
theorem ckAll_right {n : Nat} {l : List IM} (h : ∀ x ∈ l, Fine x.2.2 /\ x.2.2.length = n) : ckAll n l = 0 := by
 unfold ckAll
 rw [if_neg]
 ·exact ckR_all (fun M hM => by obtain ⟨x, hx, rfl⟩ := List.mem_map.1 hM; exact ckOne_right (h x hx).1)
 ·intro hc
  unfold ckLen at hc
  obtain ⟨x, hx, h2⟩ := List.any_eq_true.1 hc
  exact of_decide_eq_true h2 (h x hx).2
theorem ckAll_len {n : Nat} {l : List IM} (h : ∃ x ∈ l, x.2.2.length ≠ n) : ckAll n l = 3 := by
 unfold ckAll
 rw [if_pos]
 unfold ckLen
 obtain ⟨x, hx, hn⟩ := h
 exact List.any_eq_true.2 ⟨x, hx, decide_eq_true hn⟩
theorem mvHs_comm (A B : List Int) : mvHs A B = mvHs B A := by
 unfold mvHs
 refine List.filter_congr (fun k _ => ?_)
 by_cases h : oL A k = oL B k
 ·rw [decide_eq_true h, decide_eq_true h.symm]
 ·rw [decide_eq_false h, decide_eq_false (fun e => h e.symm)]
theorem thE_right {m a b : IM} (h : ∀ x ∈ [m, a, b], Fine x.2.2 /\ x.2.2.length = m.2.2.length) : thE m a b = (mgS m.2.2 a.2.2 b.2.2).1 /\ thL m a b = (mgS m.2.2 a.2.2 b.2.2).2 := by
 unfold thE thL
 rw [ckAll_right h, if_pos rfl, if_pos rfl]
 exact ⟨rfl, rfl⟩
theorem three_same {m a b c : List Int} (hm : Fine m) (ha : Fine a) (hb : Fine b) (bm : Byt m) (ba : Byt a) (bb : Byt b) (hc : Fine c) (hlen : c.length = m.length) (hO : ∀ h : Int, 1 <= h -> h <= 40 -> thO m a b h = objOf c h) (hH : ∀ s, mgH m a b s = leadOf (rootsK c 8) s) :
  (mgS m a b).1 = 0 /\ (mgS m a b).2.length = m.length /\ sameB (mgS m a b).2 c = true /\ sameE (mgS m a b).2 c = 0 := by
 obtain ⟨h1, h2, h3, h4, h5⟩ := mgS_same hm ha hb bm ba bb hc hlen hO hH
 have e := sameE_fine h2 hc
 refine ⟨h1, h3, ?_, e⟩
 unfold sameB
 rw [e, h4, h5]
 rfl
theorem three_left {m a : List Int} (hm : Fine m) (ha : Fine a) (bm : Byt m) (ba : Byt a) (hlen : a.length = m.length) : (mgS m a m).1 = 0 /\ (mgS m a m).2.length = m.length /\ sameB (mgS m a m).2 a = true /\ sameE (mgS m a m).2 a = 0 /\ hndL.filter (thT m a m) = [] := by
 obtain ⟨h1, h2, h3, h4⟩ := three_same hm ha hm bm ba bm ha hlen (fun h _ _ => (thO_left h).1) (fun s => mgH_left s)
 exact ⟨h1, h2, h3, h4, List.filter_eq_nil_iff.2 (fun k _ => by rw [(thO_left k).2]; simp)⟩
theorem three_right {m a : List Int} (hm : Fine m) (ha : Fine a) (bm : Byt m) (ba : Byt a) (hlen : a.length = m.length) : (mgS m m a).1 = 0 /\ (mgS m m a).2.length = m.length /\ sameB (mgS m m a).2 a = true /\ sameE (mgS m m a).2 a = 0 /\ hndL.filter (thT m m a) = [] := by
 obtain ⟨h1, h2, h3, h4⟩ := three_same hm hm ha bm bm ba ha hlen (fun h _ _ => (thO_right h).1) (fun s => mgH_right s)
 exact ⟨h1, h2, h3, h4, List.filter_eq_nil_iff.2 (fun k _ => by rw [(thO_right k).2]; simp)⟩
theorem fact_two : alE (zerosB 300) 2 1 = 0 /\ Fine (alB (zerosB 300) 2 1) /\ (alB (zerosB 300) 2 1).length = 300 /\ mvHs (zerosB 300) (alB (zerosB 300) 2 1) = [1] := by
 obtain ⟨z1, z2, z3⟩ := zeros_fine (n := 300) (by decide) (by decide)
 have hzl := length_zerosB 300
 have hlow : lowH (zerosB 300) = 0 := (lowH_first _).unique ⟨Nat.zero_le _, fun j hj => absurd hj (Nat.not_lt_zero j), fun _ => decide_eq_true (z2 _)⟩
 have h0 : alE (zerosB 300) 2 1 = 0 := al_room (p := 0) z1 (by omega) (by decide) (by decide) (by decide) (by decide) (by decide) (by rw [hzl]; omega) (fun e he => by
  obtain ⟨h, _, _, ht, _⟩ := mem_takeL.1 he
  exact absurd (z2 h) ht)
 obtain ⟨x, M, hk⟩ := al_ok z1 h0
 obtain ⟨k1, k2, k3, k4, k5, k6⟩ := hk.keep z1 h0
 rw [hlow] at k3 k4 k5 k6
 refine ⟨h0, k1, k2.trans hzl, ?_⟩
 have hoz : ∀ k, oL (zerosB 300) k = (-1, []) := fun k => by
  unfold oL
  split
  ·exact objOf_none (z2 k)
  ·rfl
 have hne : oL (alB (zerosB 300) 2 1) 1 ≠ (-1, []) := fun e => by
  unfold oL at e
  rw [if_pos (by decide)] at e
  unfold objOf at e
  rw [if_neg (by simpa using k5)] at e
  have h4 := (k1.ent (h := 1) (by decide) (by decide) (by simpa using k5)).2.2.2.2.1
  have := congrArg Prod.fst e
  unfold objE at this
  dsimp only at this
  omega
 have hno : ∀ k, 1 <= k -> k <= 40 -> k ≠ 1 -> oL (alB (zerosB 300) 2 1) k = (-1, []) := fun k a b c => by
  unfold oL
  rw [if_pos ⟨a, b⟩]
  exact objOf_none (by rw [(k6 k a b (by simpa using c)).2.1]; exact z2 k)
 have hcong : mvHs (zerosB 300) (alB (zerosB 300) 2 1) = hndL.filter fun k => decide (k = 1) := by
  unfold mvHs
  refine List.filter_congr (fun k hk => ?_)
  have hr := mem_hndL.1 hk
  rw [hoz]
  by_cases h1 : k = 1
  ·subst h1
   rw [decide_eq_false (fun e => hne e.symm)]
   rfl
  ·rw [hno k hr.1 hr.2 h1, decide_eq_false h1]
   simp
 rw [hcong]
 rfl
end Go.Proofs.YtifmemombecoaaaGreatDoor
