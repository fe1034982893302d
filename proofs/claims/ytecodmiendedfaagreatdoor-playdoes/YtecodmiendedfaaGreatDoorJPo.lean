/-
  Parts of the proofs, joined by program.
-/
import Derived.Test.YtecodmiendedfaaGreatDoorJTf
import Derived.Test.YtecodmiendedfaaGreatDoorJOr
import Derived.Deep.RegionHeld3
import Derived.Test.YtecodmiendedfaaGreatDoorJSt
import Derived.Test.YtecodmiendedfaaGreatDoorJHq
import Derived.Test.YtecodmiendedfaaGreatDoorJRt
import Derived.Test.YtecodmiendedfaaGreatDoorJRh
import Derived.Test.YtecodmiendedfaaGreatDoorJMv
import Derived.Test.YtecodmiendedfaaGreatDoorJSu
namespace Go.Proofs.YtecodmiendedfaaGreatDoor
open Go.RowKit
set_option linter.unusedVariables false
def opV (r : OpR) : Value := .agg #[.int .i64 r.1, .int .i64 r.2.1, .int .i64 r.2.2.1, .int .i64 r.2.2.2.1, .string r.2.2.2.2.1, .slice r.2.2.2.2.2.1 r.2.2.2.2.2.2.2.length r.2.2.2.2.2.2.1]
def opP (r : OpR) : OpP := (r.1, r.2.1, r.2.2.1, r.2.2.2.1, r.2.2.2.2.1, r.2.2.2.2.2.2.2)
def opW (w : World) (o h a n : Int) (nm : ByteArray) (ad : Option Addr) (k cap : Nat) : World := w.alloc (.cells #[.int .i64 o, .int .i64 h, .int .i64 a, .int .i64 n, .string nm, .slice ad k cap] 36)
section
variable {Q : World -> Prop} (t x : Nat) (h a n : Int) (nm : ByteArray) (ad : Option Addr) (k cap : Nat) (w : World) (ev v : Value)
set_option maxRecDepth 100000 in
set_option maxHeartbeats 1000000 in
theorem do_1 (HH : Calls Tryz.prog 6 #[.pointer (some ⟨t, 0, none⟩)] (opW w 1 h a n nm ad k cap) fun e w' => e = .returned (.pointer (some ⟨x, 0, none⟩)) /\ opW w 1 h a n nm ad k cap = w')
  (HA : Calls Tryz.prog 40 #[.pointer (some ⟨x, 0, none⟩), .int .i64 n, .int .i64 a] (opW w 1 h a n nm ad k cap) fun e w' => e = .returned (.tuple #[v, ev]) /\ Q w') :
  Calls Tryz.prog 16 #[.pointer (some ⟨t, 0, none⟩), .agg #[.int .i64 1, .int .i64 h, .int .i64 a, .int .i64 n, .string nm, .slice ad k cap]] w fun e w' => e = .returned ev /\ Q w' := by
 unfold opW at HH HA
 have H1 := hide HH
 have H2 := hide HA
 clear HH HA
 go_enter Tryz.func16, Tryz.ntmps16
 go_wp2_with fail
 refine (unhide H1).mono ?_
 rintro e w1 ⟨rfl, rfl⟩
 go_wp2_with fail
 refine (unhide H2).mono ?_
 rintro e w2 ⟨rfl, hq⟩
 have HQ := hide hq
 clear hq H1 H2
 go_wp2
 go_ret
 exact ⟨rfl, unhide HQ⟩
set_option maxRecDepth 100000 in
set_option maxHeartbeats 1000000 in
theorem do_2 (HH : Calls Tryz.prog 6 #[.pointer (some ⟨t, 0, none⟩)] (opW w 2 h a n nm ad k cap) fun e w' => e = .returned (.pointer (some ⟨x, 0, none⟩)) /\ opW w 2 h a n nm ad k cap = w')
  (HA : Calls Tryz.prog 41 #[.pointer (some ⟨x, 0, none⟩), .int .i64 h] (opW w 2 h a n nm ad k cap) fun e w' => e = .returned ev /\ Q w') :
  Calls Tryz.prog 16 #[.pointer (some ⟨t, 0, none⟩), .agg #[.int .i64 2, .int .i64 h, .int .i64 a, .int .i64 n, .string nm, .slice ad k cap]] w fun e w' => e = .returned ev /\ Q w' := by
 unfold opW at HH HA
 have H1 := hide HH
 have H2 := hide HA
 clear HH HA
 go_enter Tryz.func16, Tryz.ntmps16
 go_wp2_with fail
 refine (unhide H1).mono ?_
 rintro e w1 ⟨rfl, rfl⟩
 go_wp2_with fail
 refine (unhide H2).mono ?_
 rintro e w2 ⟨rfl, hq⟩
 have HQ := hide hq
 clear hq H1 H2
 go_wp2
 go_ret
 exact ⟨rfl, unhide HQ⟩
set_option maxRecDepth 100000 in
set_option maxHeartbeats 1000000 in
theorem do_3 (HH : Calls Tryz.prog 6 #[.pointer (some ⟨t, 0, none⟩)] (opW w 3 h a n nm ad k cap) fun e w' => e = .returned (.pointer (some ⟨x, 0, none⟩)) /\ opW w 3 h a n nm ad k cap = w')
  (HA : Calls Tryz.prog 42 #[.pointer (some ⟨x, 0, none⟩), .int .i64 h, .int .i64 a, .slice ad k cap] (opW w 3 h a n nm ad k cap) fun e w' => e = .returned ev /\ Q w') :
  Calls Tryz.prog 16 #[.pointer (some ⟨t, 0, none⟩), .agg #[.int .i64 3, .int .i64 h, .int .i64 a, .int .i64 n, .string nm, .slice ad k cap]] w fun e w' => e = .returned ev /\ Q w' := by
 unfold opW at HH HA
 have H1 := hide HH
 have H2 := hide HA
 clear HH HA
 go_enter Tryz.func16, Tryz.ntmps16
 go_wp2_with fail
 refine (unhide H1).mono ?_
 rintro e w1 ⟨rfl, rfl⟩
 go_wp2_with fail
 refine (unhide H2).mono ?_
 rintro e w2 ⟨rfl, hq⟩
 have HQ := hide hq
 clear hq H1 H2
 go_wp2
 go_ret
 exact ⟨rfl, unhide HQ⟩
set_option maxRecDepth 100000 in
set_option maxHeartbeats 1000000 in
theorem do_4 (HH : Calls Tryz.prog 6 #[.pointer (some ⟨t, 0, none⟩)] (opW w 4 h a n nm ad k cap) fun e w' => e = .returned (.pointer (some ⟨x, 0, none⟩)) /\ opW w 4 h a n nm ad k cap = w')
  (HA : Calls Tryz.prog 43 #[.pointer (some ⟨x, 0, none⟩), .string nm, .int .i64 h] (opW w 4 h a n nm ad k cap) fun e w' => e = .returned (.tuple #[v, ev]) /\ Q w') :
  Calls Tryz.prog 16 #[.pointer (some ⟨t, 0, none⟩), .agg #[.int .i64 4, .int .i64 h, .int .i64 a, .int .i64 n, .string nm, .slice ad k cap]] w fun e w' => e = .returned ev /\ Q w' := by
 unfold opW at HH HA
 have H1 := hide HH
 have H2 := hide HA
 clear HH HA
 go_enter Tryz.func16, Tryz.ntmps16
 go_wp2_with fail
 refine (unhide H1).mono ?_
 rintro e w1 ⟨rfl, rfl⟩
 go_wp2_with fail
 refine (unhide H2).mono ?_
 rintro e w2 ⟨rfl, hq⟩
 have HQ := hide hq
 clear hq H1 H2
 go_wp2
 go_ret
 exact ⟨rfl, unhide HQ⟩
set_option maxRecDepth 100000 in
set_option maxHeartbeats 1000000 in
theorem do_5 (HH : Calls Tryz.prog 6 #[.pointer (some ⟨t, 0, none⟩)] (opW w 5 h a n nm ad k cap) fun e w' => e = .returned (.pointer (some ⟨x, 0, none⟩)) /\ opW w 5 h a n nm ad k cap = w')
  (HA : Calls Tryz.prog 44 #[.pointer (some ⟨x, 0, none⟩), .string nm] (opW w 5 h a n nm ad k cap) fun e w' => e = .returned ev /\ Q w') :
  Calls Tryz.prog 16 #[.pointer (some ⟨t, 0, none⟩), .agg #[.int .i64 5, .int .i64 h, .int .i64 a, .int .i64 n, .string nm, .slice ad k cap]] w fun e w' => e = .returned ev /\ Q w' := by
 unfold opW at HH HA
 have H1 := hide HH
 have H2 := hide HA
 clear HH HA
 go_enter Tryz.func16, Tryz.ntmps16
 go_wp2_with fail
 refine (unhide H1).mono ?_
 rintro e w1 ⟨rfl, rfl⟩
 go_wp2_with fail
 refine (unhide H2).mono ?_
 rintro e w2 ⟨rfl, hq⟩
 have HQ := hide hq
 clear hq H1 H2
 go_wp2
 go_ret
 exact ⟨rfl, unhide HQ⟩
set_option maxRecDepth 100000 in
set_option maxHeartbeats 1000000 in
theorem do_6 (HH : Calls Tryz.prog 6 #[.pointer (some ⟨t, 0, none⟩)] (opW w 6 h a n nm ad k cap) fun e w' => e = .returned (.pointer (some ⟨x, 0, none⟩)) /\ opW w 6 h a n nm ad k cap = w')
  (HA : Calls Tryz.prog 45 #[.pointer (some ⟨t, 0, none⟩)] (opW w 6 h a n nm ad k cap) fun e w' => e = .returned ev /\ Q w') :
  Calls Tryz.prog 16 #[.pointer (some ⟨t, 0, none⟩), .agg #[.int .i64 6, .int .i64 h, .int .i64 a, .int .i64 n, .string nm, .slice ad k cap]] w fun e w' => e = .returned ev /\ Q w' := by
 unfold opW at HH HA
 have H1 := hide HH
 have H2 := hide HA
 clear HH HA
 go_enter Tryz.func16, Tryz.ntmps16
 go_wp2_with fail
 refine (unhide H1).mono ?_
 rintro e w1 ⟨rfl, rfl⟩
 go_wp2_with fail
 refine (unhide H2).mono ?_
 rintro e w2 ⟨rfl, hq⟩
 have HQ := hide hq
 clear hq H1 H2
 go_wp2
 go_ret
 exact ⟨rfl, unhide HQ⟩
set_option maxRecDepth 100000 in
set_option maxHeartbeats 1000000 in
theorem do_7 (HH : Calls Tryz.prog 6 #[.pointer (some ⟨t, 0, none⟩)] (opW w 7 h a n nm ad k cap) fun e w' => e = .returned (.pointer (some ⟨x, 0, none⟩)) /\ opW w 7 h a n nm ad k cap = w')
  (HA : Calls Tryz.prog 46 #[.pointer (some ⟨t, 0, none⟩)] (opW w 7 h a n nm ad k cap) fun e w' => e = .returned (.tuple #[]) /\ Q w') :
  Calls Tryz.prog 16 #[.pointer (some ⟨t, 0, none⟩), .agg #[.int .i64 7, .int .i64 h, .int .i64 a, .int .i64 n, .string nm, .slice ad k cap]] w fun e w' => e = .returned .nilIface /\ Q w' := by
 unfold opW at HH HA
 have H1 := hide HH
 have H2 := hide HA
 clear HH HA
 go_enter Tryz.func16, Tryz.ntmps16
 go_wp2_with fail
 refine (unhide H1).mono ?_
 rintro e w1 ⟨rfl, rfl⟩
 go_wp2_with fail
 refine (unhide H2).mono ?_
 rintro e w2 ⟨rfl, hq⟩
 have HQ := hide hq
 clear hq H1 H2
 go_wp2
 go_ret
 exact ⟨rfl, unhide HQ⟩
set_option maxRecDepth 100000 in
set_option maxHeartbeats 1000000 in
theorem do_8 (HH : Calls Tryz.prog 6 #[.pointer (some ⟨t, 0, none⟩)] (opW w 8 h a n nm ad k cap) fun e w' => e = .returned (.pointer (some ⟨x, 0, none⟩)) /\ opW w 8 h a n nm ad k cap = w')
  (HA : Calls Tryz.prog 47 #[.pointer (some ⟨x, 0, none⟩)] (opW w 8 h a n nm ad k cap) fun e w' => e = .returned (.tuple #[v, ev]) /\ Q w') :
  Calls Tryz.prog 16 #[.pointer (some ⟨t, 0, none⟩), .agg #[.int .i64 8, .int .i64 h, .int .i64 a, .int .i64 n, .string nm, .slice ad k cap]] w fun e w' => e = .returned ev /\ Q w' := by
 unfold opW at HH HA
 have H1 := hide HH
 have H2 := hide HA
 clear HH HA
 go_enter Tryz.func16, Tryz.ntmps16
 go_wp2_with fail
 refine (unhide H1).mono ?_
 rintro e w1 ⟨rfl, rfl⟩
 go_wp2_with fail
 refine (unhide H2).mono ?_
 rintro e w2 ⟨rfl, hq⟩
 have HQ := hide hq
 clear hq H1 H2
 go_wp2
 go_ret
 exact ⟨rfl, unhide HQ⟩
set_option maxRecDepth 100000 in
set_option maxHeartbeats 1000000 in
theorem do_9 (HH : Calls Tryz.prog 6 #[.pointer (some ⟨t, 0, none⟩)] (opW w 9 h a n nm ad k cap) fun e w' => e = .returned (.pointer (some ⟨x, 0, none⟩)) /\ opW w 9 h a n nm ad k cap = w')
  (HA : Calls Tryz.prog 48 #[.pointer (some ⟨x, 0, none⟩)] (opW w 9 h a n nm ad k cap) fun e w' => e = .returned (.tuple #[v, ev]) /\ Q w') :
  Calls Tryz.prog 16 #[.pointer (some ⟨t, 0, none⟩), .agg #[.int .i64 9, .int .i64 h, .int .i64 a, .int .i64 n, .string nm, .slice ad k cap]] w fun e w' => e = .returned ev /\ Q w' := by
 unfold opW at HH HA
 have H1 := hide HH
 have H2 := hide HA
 clear HH HA
 go_enter Tryz.func16, Tryz.ntmps16
 go_wp2_with fail
 refine (unhide H1).mono ?_
 rintro e w1 ⟨rfl, rfl⟩
 go_wp2_with fail
 refine (unhide H2).mono ?_
 rintro e w2 ⟨rfl, hq⟩
 have HQ := hide hq
 clear hq H1 H2
 go_wp2
 go_ret
 exact ⟨rfl, unhide HQ⟩
set_option maxRecDepth 100000 in
set_option maxHeartbeats 1000000 in
theorem do_no (o : Int) (h1 : o ≠ 1) (h2 : o ≠ 2) (h3 : o ≠ 3) (h4 : o ≠ 4) (h5 : o ≠ 5) (h6 : o ≠ 6) (h7 : o ≠ 7) (h8 : o ≠ 8) (h9 : o ≠ 9) (HH : Calls Tryz.prog 6 #[.pointer (some ⟨t, 0, none⟩)] (opW w o h a n nm ad k cap) fun e w' => e = .returned (.pointer (some ⟨x, 0, none⟩)) /\ opW w o h a n nm ad k cap = w') :
  Calls Tryz.prog 16 #[.pointer (some ⟨t, 0, none⟩), .agg #[.int .i64 o, .int .i64 h, .int .i64 a, .int .i64 n, .string nm, .slice ad k cap]] w fun e w' => e = .returned (errV 1) /\ w' = opW w o h a n nm ad k cap := by
 unfold opW at HH ⊢
 have H1 := hide HH
 have t1 : (o == 1) = false := by simpa using h1
 have t2 : (o == 2) = false := by simpa using h2
 have t3 : (o == 3) = false := by simpa using h3
 have t4 : (o == 4) = false := by simpa using h4
 have t5 : (o == 5) = false := by simpa using h5
 have t6 : (o == 6) = false := by simpa using h6
 have t7 : (o == 7) = false := by simpa using h7
 have t8 : (o == 8) = false := by simpa using h8
 have t9 : (o == 9) = false := by simpa using h9
 clear HH h1 h2 h3 h4 h5 h6 h7 h8 h9
 rw [errV_pos 1 (by decide)]
 go_enter Tryz.func16, Tryz.ntmps16
 go_wp2_with fail
 refine (unhide H1).mono ?_
 rintro e w1 ⟨rfl, rfl⟩
 go_wp2
 go_ret
 exact ⟨rfl, rfl⟩
end
section
variable {w0 w w' : World} {t p q : Nat} {S : Nat -> Prop} {D : DS} {s : Int} {m n x g c : Nat} {L M : List Int} {gk ck : Nat} {K : List Int} {cut : Bool}
def StoH (w0 w : World) (t p q : Nat) (S : Nat -> Prop) (D : DS) (s : Int) (m x g : Nat) (M : List Int) (gk ck : Nat) (K : List Int) (cut : Bool) (w' : World) : Prop :=
 ∃ g' c', Sto w0 w' t p q S D s m x g' c' M gk ck K cut /\ Turn (foot x g) (foot x g') w w'
theorem Sto.call (h : Sto w0 w t p q S D s m x g c L gk ck K cut) {f : Nat} {ar : Array Value} {V : Value} (hM : M.length = L.length)
  (hc : Calls Tryz.prog f ar w fun e w' => e = .returned V /\ ∃ g' c', Hp w' w0.heap.size x g' c' M /\ Turn (foot x g) (foot x g') w w') :
  Calls Tryz.prog f ar w fun e w' => e = .returned V /\ StoH w0 w t p q S D s m x g M gk ck K cut w' :=
 hc.mono fun e w' ⟨he, g', c', hh, ht⟩ => ⟨he, g', c', h.heap hh ht hM, ht⟩
theorem StoH.over {w1 : World} (hb : Below w.heap.size w w1) (h : StoH w0 w1 t p q S D s m x g M gk ck K cut w') : StoH w0 w t p q S D s m x g M gk ck K cut w' := by
 obtain ⟨g', c', h1, h2⟩ := h
 exact ⟨g', c', h1, (Turn.of_below hb).trans h2⟩
theorem Sto.here (h : Sto w0 w t p q S D s m x g c L gk ck K cut) : StoH w0 w t p q S D s m x g L gk ck K cut w := ⟨g, c, h, Turn.of_below (Below.refl _ _)⟩
set_option maxRecDepth 100000 in
theorem Sto.abort (h : Sto w0 w t p q S D s m x g c L gk ck K cut) :
  Calls Tryz.prog 46 #[.pointer (some ⟨t, 0, none⟩)] w fun e w' => e = .returned (.tuple #[]) /\ StoH w0 w t p q S D s m x g K gk ck K cut w' := by
 have c2 := h.c2
 have c3 := h.c3
 have hd : Below w.heap.size w w.drew := below_drew (Below.refl _ _)
 have h' := h.below hd
 have HR : Hid (Calls Tryz.prog 85 #[.pointer (some ⟨x, 0, none⟩), .slice (some ⟨gk, 0, none⟩) K.length ck] w.drew fun e w' => e = .returned .nilIface /\ Hid (StoH w0 w t p q S D s m x g K gk ck K cut w') /\ w'.cell? ⟨t, 2, none⟩ = some (.pointer (some ⟨x, 0, none⟩)) /\ w'.cell? ⟨t, 3, none⟩ = some (.slice (some ⟨gk, 0, none⟩) K.length ck)) := hide
  ((h'.call (h.klen.trans h.len.symm) (hReplace_yes h'.hp h'.size h'.kbs h'.kf (h.klen.trans h.len.symm))).mono fun e w' hq => ⟨hq.1, hide (StoH.over hd hq.2), (by obtain ⟨_, _, hs, _⟩ := hq.2; exact hs.c2), (by obtain ⟨_, _, hs, _⟩ := hq.2; exact hs.c3)⟩)
 clear h h' hd
 generalize K.length = N at *
 go_enter Tryz.func46, Tryz.ntmps46
 go_wp2_with fail
 go_region_held3 (fun w' => w'.cell? ⟨t, 2, none⟩ = some (.pointer (some ⟨x, 0, none⟩)) /\ w'.cell? ⟨t, 3, none⟩ = some (.slice (some ⟨gk, 0, none⟩) N ck)) (first | go_keep | (go_split_ands; refine ⟨?_, ?_⟩ <;> go_keep))
  ((go_at_call 85; refine (unhide HR).mono ?_; rintro e w1 ⟨rfl, HX, c2', c3'⟩))
 go_wp2
 go_end0
 exact ⟨rfl, unhide HX⟩
def doK (L K : List Int) (o : OpP) : List Int := if o.1 = 7 then K else doB L o
def doE (L : List Int) (o : OpP) : Int := if o.1 = 7 then 0 else opE L o
theorem opW_below (w : World) (o h a n : Int) (nm : ByteArray) (ad : Option Addr) (k cap : Nat) : Below w.heap.size w (opW w o h a n nm ad k cap) := (Below.refl _ _).alloc (Nat.le_refl _) _
theorem Sto.do (h : Sto w0 w t p q S D s m x g c L gk ck K cut) (r : OpR) (hin : OpIn w r) (h6 : r.1 ≠ 6) :
  Calls Tryz.prog 16 #[.pointer (some ⟨t, 0, none⟩), opV r] w fun e w' => e = .returned (errV (doE L (opP r))) /\ StoH w0 w t p q S D s m x g (doK L K (opP r)) gk ck K cut w' := by
 obtain ⟨o, hd, a, k, nm, ad, cap, body⟩ := r
 obtain ⟨i1, i2, i3, i4, i5, i6⟩ := hin
 dsimp only at i1 i2 i3 i4 i5 i6 h6
 unfold opV
 dsimp only
 have hb := opW_below w o hd a k nm ad body.length cap
 have h' := h.below hb
 have HH := stHeap_any h'
 have hB := h'.size
 by_cases e1 : o = 1
 ·subst e1
  refine (do_1 t x hd a k nm ad body.length cap w _ _ HH (h'.call (al_len h'.hp.fine k a) (hAlloc_any x g c w0.heap.size L k a _ h'.hp hB))).mono fun e w' hq => ⟨hq.1, StoH.over hb hq.2⟩
 by_cases e2 : o = 2
 ·subst e2
  refine (do_2 t x hd a k nm ad body.length cap w _ HH (h'.call (frB_fine h'.hp.fine hd).2 (hFree_any x g c w0.heap.size L hd _ h'.hp hB))).mono fun e w' hq => ⟨hq.1, StoH.over hb hq.2⟩
 by_cases e3 : o = 3
 ·subst e3
  refine (do_3 t x hd a k nm ad body.length cap w _ HH (h'.call (wrB_fine h'.hp.fine hd a body).2 ((hWrite_any x g c w0.heap.size L hd a ad cap body _ h'.hp (i6.below hb) i3.2).mono fun e w' ⟨he, h1, h2⟩ => ⟨he, g, c, h1, h2⟩))).mono fun e w' hq => ⟨hq.1, StoH.over hb hq.2⟩
 by_cases e4 : o = 4
 ·subst e4
  refine (do_4 t x hd a k nm ad body.length cap w _ _ HH (h'.call (seF_fine h'.hp.fine nm hd).2 (roSet_any h'.hp hB nm hd i5))).mono fun e w' hq => ⟨hq.1, StoH.over hb hq.2⟩
 by_cases e5 : o = 5
 ·subst e5
  refine (do_5 t x hd a k nm ad body.length cap w _ HH (h'.call (unF_fine h'.hp.fine nm).2 (roUnset_any h'.hp hB nm i5))).mono fun e w' hq => ⟨hq.1, StoH.over hb hq.2⟩
 by_cases e7 : o = 7
 ·subst e7
  refine (do_7 t x hd a k nm ad body.length cap w HH h'.abort).mono fun e w' hq => ⟨hq.1, StoH.over hb hq.2⟩
 by_cases e8 : o = 8
 ·subst e8
  refine (do_8 t x hd a k nm ad body.length cap w _ _ HH (h'.call (mvT_fine h'.hp.fine).2 (mvStepH_any h'.hp hB))).mono fun e w' hq => ⟨hq.1, StoH.over hb hq.2⟩
 by_cases e9 : o = 9
 ·subst e9
  refine (do_9 t x hd a k nm ad body.length cap w _ _ HH (h'.call (swT_fine h'.hp.fine).2 (rhSweep_any h'.hp hB))).mono fun e w' hq => ⟨hq.1, StoH.over hb hq.2⟩
 ·have eE : doE L (opP (o, hd, a, k, nm, ad, cap, body)) = 1 := by
   unfold doE opE opP
   dsimp only
   rw [if_neg e7, if_neg e1, if_neg e2, if_neg e3, if_neg e4, if_neg e5, if_neg e8, if_neg e9]
  have eK : doK L K (opP (o, hd, a, k, nm, ad, cap, body)) = L := by
   unfold doK doB opP
   dsimp only
   rw [if_neg e7, if_neg e1, if_neg e2, if_neg e3, if_neg e4, if_neg e5, if_neg e8, if_neg e9]
  rw [eE, eK]
  refine (do_no t x hd a k nm ad body.length cap w o e1 e2 e3 e4 e5 h6 e7 e8 e9 HH).mono ?_
  rintro e w' ⟨rfl, rfl⟩
  exact ⟨rfl, StoH.over hb h'.here⟩
end
section
variable {w0 w w' : World} {t p x m n : Nat} {P : Ps} {F : Nat -> Prop}
end
section
variable {w0 w w' : World} {t p x m n : Nat} {P : Ps} {F : Nat -> Prop} {S : Nat -> Prop} {D : DS}
end
section
variable {w0 w w' : World} {t p x m n : Nat} {P : Ps} {F : Nat -> Prop}
end
def Kp (T : Nat -> Prop) (w w' : World) : Prop := ∀ k, T k -> w'.heap[k]? = w.heap[k]?
theorem Kp.trans {T : Nat -> Prop} {a b c : World} (h : Kp T a b) (k : Kp T b c) : Kp T a c := fun j hj => (k j hj).trans (h j hj)
def Tl (w0 w : World) (t p x : Nat) (s : Int) (m n : Nat) (L K : List Int) (T : Nat -> Prop) : Prop :=
 ∃ q S D g c gk ck a nl, Sto w0 w t p q S D s m x g c L gk ck K false /\ Neat D m s (prt K) a nl /\ D.left < 0 /\ D.secs.length = n /\ ∀ k, T k -> k < w.heap.size /\ ¬ footA S q t gk x g k
section
variable {w0 w w' : World} {t p x : Nat} {s : Int} {m n : Nat} {L K : List Int} {T T' : Nat -> Prop}
theorem Tl.base (h : Tl w0 w t p x s m n L K T) : Below w0.heap.size w0 w := by obtain ⟨q, S, D, g, c, gk, ck, a, nl, hs, _⟩ := h; exact hs.base
theorem Tl.fine (h : Tl w0 w t p x s m n L K T) : Fine L := by obtain ⟨q, S, D, g, c, gk, ck, a, nl, hs, _⟩ := h; exact hs.hp.fine
theorem Tl.below (h : Tl w0 w t p x s m n L K T) (hb : Below w.heap.size w w') : Tl w0 w' t p x s m n L K T := by
 obtain ⟨q, S, D, g, c, gk, ck, a, nl, hs, hn, hl, hd, hT⟩ := h
 exact ⟨q, S, D, g, c, gk, ck, a, nl, hs.below hb, hn, hl, hd, fun k hk => ⟨Nat.lt_of_lt_of_le (hT k hk).1 hb.size, (hT k hk).2⟩⟩
theorem Tl.kpB (h : Tl w0 w t p x s m n L K T) (hb : Below w.heap.size w w') : Kp T w w' := by
 obtain ⟨q, S, D, g, c, gk, ck, a, nl, hs, hn, hl, hd, hT⟩ := h
 exact fun k hk => hb.block k (hT k hk).1
theorem Tl.add (h : Tl w0 w t p x s m n L K T) (hb : Below w.heap.size w w') (hT2 : ∀ k, T' k -> T k \/ w.heap.size <= k /\ k < w'.heap.size) : Tl w0 w' t p x s m n L K T' := by
 obtain ⟨q, S, D, g, c, gk, ck, a, nl, hs, hn, hl, hd, hT⟩ := h
 refine ⟨q, S, D, g, c, gk, ck, a, nl, hs.below hb, hn, hl, hd, fun k hk => ?_⟩
 rcases hT2 k hk with h1 | ⟨h1, h2⟩
 ·exact ⟨Nat.lt_of_lt_of_le (hT k h1).1 hb.size, (hT k h1).2⟩
 ·exact ⟨h2, fun hf => by have := hs.foot_lt k hf; omega⟩
theorem Tl.heap (h : Tl w0 w t p x s m n L K T) : Calls Tryz.prog 6 #[.pointer (some ⟨t, 0, none⟩)] w fun e w' => e = .returned (.pointer (some ⟨x, 0, none⟩)) /\ w = w' := by
 obtain ⟨q, S, D, g, c, gk, ck, a, nl, hs, _⟩ := h
 exact stHeap_any hs
theorem Tl.commit (h : Tl w0 w t p x s m n L K T) (hs9 : s <= 999) (hfew : (drtN K L m).length <= 23) :
  Calls Tryz.prog 45 #[.pointer (some ⟨t, 0, none⟩)] w fun e w' => e = .returned .nilIface /\ ∃ s', s <= s' /\ s' <= s + 1 /\ Tl w0 w' t p x s' m n L L T /\ Kp T w w' := by
 obtain ⟨q, S, D, g, c, gk, ck, a, nl, hs, hn, hl, hd, hT⟩ := h
 have h1 := hn.s1
 have key : ∃ s' a' nl', (commitOut D s m (dfP K L m)).2.2 = 0 /\ (commitOut D s m (dfP K L m)).2.1 = s' /\ s <= s' /\ s' <= s + 1 /\ Neat (commitOut D s m (dfP K L m)).1 m s' (prt L) a' nl' /\ (commitOut D s m (dfP K L m)).1.left < 0 := by
  rcases st_commit hn hs9 hl hs.klen hs.len hs.hp.byt with ⟨k1, _⟩ | ⟨k1, k2⟩ | ⟨_, _, k3, k4, k5⟩
  ·omega
  ·subst k1
   rw [k2]
   exact ⟨s, a, nl, rfl, rfl, Int.le_refl _, by omega, hn, hl⟩
  ·exact ⟨s + 1, _, _, by rw [k3], by rw [k3], by omega, by omega, k4, k5⟩
 obtain ⟨s', a', nl', k1, k2, k3, k4, k5, k6⟩ := key
 have hsl := commitOut_seclen D s m (dfP K L m)
 refine (stCommit_yes hs (by omega) (by omega) k1).mono ?_
 rintro e w' ⟨rfl, S', gn, cn, hs', ht⟩
 rw [k2] at hs'
 exact ⟨rfl, s', k3, k4, ⟨q, S', _, g, c, gn, cn, a', nl', hs', k5, k6, hsl.trans hd, fun k hk => ⟨Nat.lt_of_lt_of_le (hT k hk).1 ht.size, fun hf => (hT k hk).2 (ht.foot k (hT k hk).1 hf)⟩⟩, fun k hk => ht.block k (hT k hk).1 (hT k hk).2⟩
theorem tl_create {S : Nat -> Prop} (h : Live w0 w p S (DS.new n)) (h1 : 57 <= n) (h2 : n <= 300) (hm : cntI n = m) :
  Calls Tryz.prog 5 #[.pointer (some ⟨p, 0, none⟩)] w fun e w' => ∃ t x, e = .returned (.tuple #[.pointer (some ⟨t, 0, none⟩), .nilIface]) /\ Tl w0 w' t p x 2 m n (zerosB (32 * m)) (zerosB (32 * m)) (fun _ => False) :=
 (stCreate_new h h1 h2 hm).mono fun e w' ⟨t, x, he, q, S', g, c, gk, hs⟩ => by
  have hm2 : m <= 200 /\ 48 + m <= n := by
   unfold cntI at hm
   split at hm <;> omega
  obtain ⟨_, z2, z4, z3⟩ := crD_neat (m := m) h1 h2 hm2.2 hm2.1
  exact ⟨t, x, he, q, S', _, g, c, gk, _, _, _, hs, z2, z4, z3, fun k hk => hk.elim⟩
end
def pdE (m : Nat) (L K : List Int) (o : OpP) : Int := if o.1 = 6 then (if 23 < (drtN K L m).length then 4 else 0) else doE L o
def pdL (L K : List Int) (o : OpP) : List Int := if o.1 = 6 then L else doK L K o
def pdK (m : Nat) (L K : List Int) (o : OpP) : List Int := if o.1 = 6 then (if 23 < (drtN K L m).length then K else L) else K
section
variable {w0 w w' : World} {t p x : Nat} {s : Int} {m n : Nat} {L K : List Int} {T : Nat -> Prop}
theorem Tl.commitNo (h : Tl w0 w t p x s m n L K T) (hs9 : s <= 999) (hmany : 23 < (drtN K L m).length) :
  Calls Tryz.prog 45 #[.pointer (some ⟨t, 0, none⟩)] w fun e w' => e = .returned (errV 4) /\ Tl w0 w' t p x s m n L K T /\ Kp T w w' := by
 obtain ⟨q, S, D, g, c, gk, ck, a, nl, hs, hn, hl, hd, hT⟩ := h
 have h1 := hn.s1
 have e : commitOut D s m (dfP K L m) = (D, s, 4) := by
  rcases st_commit hn hs9 hl hs.klen hs.len hs.hp.byt with ⟨_, k⟩ | ⟨k1, k2⟩ | ⟨_, k, _⟩
  ·exact k
  ·subst k1
   have : (drtN K K m).length = 0 := by
    have := drtN_few (K := K) (L := K) (m := m) (F := 0) (fun _ _ _ => rfl)
    omega
   omega
  ·omega
 have hc := stCommit_err hs (fun hh => by cases hh) (by omega) (by omega) (by rw [e]; show (4 : Int) ≠ 0; decide)
 rw [e] at hc
 refine hc.mono ?_
 rintro e w' ⟨rfl, S', hs', ht⟩
 have ef : (false || (!D.down && D.down)) = false := by cases D.down <;> rfl
 dsimp only at hs'
 rw [ef] at hs'
 exact ⟨rfl, ⟨q, S', D, g, c, gk, ck, a, nl, hs', hn, hl, hd, fun k hk => ⟨Nat.lt_of_lt_of_le (hT k hk).1 ht.size, fun hf => (hT k hk).2 (ht.foot k (hT k hk).1 hf)⟩⟩, fun k hk => ht.block k (hT k hk).1 (hT k hk).2⟩
theorem Tl.do (h : Tl w0 w t p x s m n L K T) (r : OpR) (hin : OpIn w r) (hs9 : s <= 999) :
  Calls Tryz.prog 16 #[.pointer (some ⟨t, 0, none⟩), opV r] w fun e w' => e = .returned (errV (pdE m L K (opP r))) /\ ∃ s', s <= s' /\ s' <= s + 1 /\ Tl w0 w' t p x s' m n (pdL L K (opP r)) (pdK m L K (opP r)) T /\ Kp T w w' := by
 by_cases h6 : r.1 = 6
 ·obtain ⟨o, hd, a, k, nm, ad, cap, body⟩ := r
  dsimp only at h6
  subst h6
  unfold opV pdE pdL pdK opP
  dsimp only
  rw [if_pos rfl, if_pos rfl, if_pos rfl]
  have hb := opW_below w 6 hd a k nm ad body.length cap
  have h' := h.below hb
  have hk' := h.kpB hb
  by_cases hm : 23 < (drtN K L m).length
  ·rw [if_pos hm, if_pos hm]
   refine do_6 (Q := fun w' => ∃ s', s <= s' /\ s' <= s + 1 /\ Tl w0 w' t p x s' m n L K T /\ Kp T w w') t x hd a k nm ad body.length cap w _ h'.heap ((h'.commitNo hs9 hm).mono fun e w' ⟨he, h1, h2⟩ => ⟨he, s, Int.le_refl _, by omega, h1, hk'.trans h2⟩)
  ·rw [if_neg hm, if_neg hm, errV_zero]
   refine do_6 (Q := fun w' => ∃ s', s <= s' /\ s' <= s + 1 /\ Tl w0 w' t p x s' m n L L T /\ Kp T w w') t x hd a k nm ad body.length cap w _ h'.heap ((h'.commit hs9 (by omega)).mono fun e w' ⟨he, s', h0, h1, h2, h3⟩ => ⟨he, s', h0, h1, h2, hk'.trans h3⟩)
 ·have e6 : (opP r).1 ≠ 6 := h6
  unfold pdE pdL pdK
  rw [if_neg e6, if_neg e6, if_neg e6]
  obtain ⟨q, S, D, g, c, gk, ck, a, nl, hs, hn, hl, hd, hT⟩ := h
  refine (hs.do r hin h6).mono ?_
  rintro e w' ⟨rfl, g', c', h1, h2⟩
  have hta := turn_footA h2 S q t gk
  exact ⟨rfl, s, Int.le_refl _, by omega, ⟨q, S, D, g', c', gk, ck, a, nl, h1, hn, hl, hd, fun k hk => ⟨Nat.lt_of_lt_of_le (hT k hk).1 h2.size, fun hf => (hT k hk).2 (hta.foot k (hT k hk).1 hf)⟩⟩, fun k hk => hta.block k (hT k hk).1 (hT k hk).2⟩
end
def TwoB (a b : Option Addr) : Nat -> Prop := fun j => (∃ y, a = some y /\ j = y.block) \/ (∃ y, b = some y /\ j = y.block)
structure Pds (w W : World) (t p x : Nat) (s : Int) (m n : Nat) (L K : List Int) (q : Option Addr) (cq : Nat) (qk : Option Addr) (ck : Nat) : Prop where
 tl : Tl w W t p x s m n L K (TwoB q qk)
 b : Bs W q cq L
 k : Bs W qk ck K
def Nxt (q qk : Option Addr) (W w' : World) (an : Option Addr) : Prop := ∀ y, an = some y -> TwoB q qk y.block \/ (W.heap.size <= y.block /\ y.block < w'.heap.size)
section
variable {w W w' : World} {t p x : Nat} {s : Int} {m n : Nat} {L K : List Int} {q qk : Option Addr} {cq ck : Nat}
theorem Bs.kp {a : Option Addr} {c : Nat} {l : List Int} {T : Nat -> Prop} (h : Bs W a c l) (hk : Kp T W w') (hT : ∀ y, a = some y -> T y.block) : Bs w' a c l := by
 obtain ⟨h1, h2, h3, h4, h5⟩ := h
 refine ⟨h1, h2, h3, h4, fun hne => ?_⟩
 obtain ⟨b, off, rfl, hc⟩ := h5 hne
 refine ⟨b, off, rfl, fun i hi => ?_⟩
 rw [<- hc i hi]
 exact World.cell?_of_block (a := ⟨b, off + i, none⟩) (hk b (hT _ rfl))
theorem Pds.below (h : Pds w W t p x s m n L K q cq qk ck) (hb : Below W.heap.size W w') : Pds w w' t p x s m n L K q cq qk ck := ⟨h.tl.below hb, h.b.below hb, h.k.below hb⟩
theorem Nxt.old : Nxt q qk W w' q := fun y hy => .inl (.inl ⟨y, hy, rfl⟩)
theorem Nxt.kept : Nxt q qk W w' qk := fun y hy => .inl (.inr ⟨y, hy, rfl⟩)
theorem Nxt.fresh {an : Option Addr} {cn : Nat} {l : List Int} (hbs : Bs w' an cn l) (hf : Fr W.heap.size an) (hne : l ≠ []) : Nxt q qk W w' an := fun y hy => by
 obtain ⟨b, off, e, hc⟩ := hbs.2.2.2.2 hne
 have h1 := hf y hy
 subst hy
 cases e
 exact .inr ⟨h1, block_lt_of_cell (hc 0 (List.length_pos_iff.2 hne))⟩
theorem Pds.do {w1 : World} (h : Pds w W t p x s m n L K q cq qk ck) (hb : Below W.heap.size W w1) (r : OpR) (hin : OpIn w1 r) (hs9 : s <= 999) {an ak : Option Addr} {cn cak : Nat} (h1 : Bs w1 an cn (pdL L K (opP r))) (h2 : Bs w1 ak cak (pdK m L K (opP r))) (n1 : Nxt q qk W w1 an) (n2 : Nxt q qk W w1 ak) :
  Calls Tryz.prog 16 #[.pointer (some ⟨t, 0, none⟩), opV r] w1 fun e w' => e = .returned (errV (pdE m L K (opP r))) /\ ∃ s', s <= s' /\ s' <= s + 1 /\ Pds w w' t p x s' m n (pdL L K (opP r)) (pdK m L K (opP r)) an cn ak cak := by
 have ht : Tl w w1 t p x s m n L K (TwoB an ak) := h.tl.add hb (fun k hk => by
  rcases hk with ⟨y, hy, rfl⟩ | ⟨y, hy, rfl⟩
  ·exact n1 y hy
  ·exact n2 y hy)
 refine (ht.do r hin hs9).mono ?_
 rintro e w' ⟨rfl, s', a1, a2, a3, a4⟩
 exact ⟨rfl, s', a1, a2, a3, h1.kp a4 (fun y hy => .inl ⟨y, hy, rfl⟩), h2.kp a4 (fun y hy => .inr ⟨y, hy, rfl⟩)⟩
end
structure PdR (m : Nat) (L K : List Int) (o : OpP) (q qk : Option Addr) (wo wx : World) (an : Option Addr) (cn : Nat) (Ln : List Int) (ak : Option Addr) (cak : Nat) : Prop where
 bel : Below wo.heap.size wo wx
 nb : Bs wx an cn Ln
 nx : pdE m L K o = 0 -> Ln = pdL L K o /\ Nxt q qk wo wx an
 kb : Bs wx ak cak (pdK m L K o)
 kx : Nxt q qk wo wx ak
section
variable {m : Nat} {L K : List Int} {o : OpP} {q qk : Option Addr} {wo wx : World} {cq ck : Nat}
theorem pdK_no (h : o.1 ≠ 6) : pdK m L K o = K := by unfold pdK; rw [if_neg h]
theorem PdR.ref {an : Option Addr} {cn : Nat} {E : Int} {X : List Int} (h6 : o.1 ≠ 6) (hE : pdE m L K o = E) (hX : E = 0 -> pdL L K o = X) (hk : Bs wo qk ck K) (hb : Below wo.heap.size wo wx) (hn : Bs wx an cn (if E = 0 then X else [])) (hf : Fr wo.heap.size an) (hX0 : X ≠ []) : PdR m L K o q qk wo wx an cn (if E = 0 then X else []) qk ck := by
 refine ⟨hb, hn, fun h0 => ?_, by rw [pdK_no h6]; exact hk.below hb, Nxt.kept⟩
 have e0 : E = 0 := by rw [<- hE]; exact h0
 rw [if_pos e0] at hn ⊢
 exact ⟨(hX e0).symm, Nxt.fresh hn hf hX0⟩
theorem PdR.at {an : Option Addr} {cn : Nat} {X : List Int} (h6 : o.1 ≠ 6) (hX : pdL L K o = X) (hk : Bs wo qk ck K) (hb : Below wo.heap.size wo wx) (hn : Bs wx an cn X) (hx : Nxt q qk wo wx an) : PdR m L K o q qk wo wx an cn X qk ck :=
 ⟨hb, hn, fun _ => ⟨hX.symm, hx⟩, by rw [pdK_no h6]; exact hk.below hb, Nxt.kept⟩
theorem PdR.no {E : Int} (h6 : o.1 ≠ 6) (hE : pdE m L K o = E) (h0 : E ≠ 0) (hk : Bs wo qk ck K) (hb : Below wo.heap.size wo wx) : PdR m L K o q qk wo wx none 0 [] qk ck :=
 ⟨hb, ⟨fun z hz => (by cases hz), Nat.le_refl _, by decide, fun _ => rfl, fun h => absurd rfl h⟩, fun h => absurd (hE ▸ h) h0, by rw [pdK_no h6]; exact hk.below hb, Nxt.kept⟩
theorem PdR.co (h6 : o.1 = 6) (hq : Bs wo q cq L) (hk : Bs wo qk ck K) (hb : Below wo.heap.size wo wx) : PdR m L K o q qk wo wx q cq L (if 23 < (drtN K L m).length then qk else q) (if 23 < (drtN K L m).length then ck else cq) := by
 refine ⟨hb, hq.below hb, fun _ => ⟨by unfold pdL; rw [if_pos h6], Nxt.old⟩, ?_, ?_⟩
 ·unfold pdK
  rw [if_pos h6]
  by_cases h : 23 < (drtN K L m).length
  ·rw [if_pos h, if_pos h, if_pos h]; exact hk.below hb
  ·rw [if_neg h, if_neg h, if_neg h]; exact hq.below hb
 ·by_cases h : 23 < (drtN K L m).length
  ·rw [if_pos h]; exact Nxt.kept
  ·rw [if_neg h]; exact Nxt.old
theorem PdR.pick {an : Option Addr} {cn : Nat} {Ln : List Int} {ak : Option Addr} {cak : Nat} (h : PdR m L K o q qk wo wx an cn Ln ak cak) (hq : Bs wo q cq L) (hno : pdE m L K o ≠ 0 -> pdL L K o = L) : (pdE m L K o = 0 -> Ln.length = (pdL L K o).length /\ Bs wx an cn (pdL L K o) /\ Nxt q qk wo wx an) /\ (pdE m L K o ≠ 0 -> Bs wx q cq (pdL L K o) /\ Nxt q qk wo wx q) := by
 refine ⟨fun h0 => ?_, fun h0 => ?_⟩
 ·obtain ⟨e, hx⟩ := h.nx h0
  have hn := h.nb
  rw [e] at hn
  exact ⟨by rw [e], hn, hx⟩
 ·rw [hno h0]
  exact ⟨hq.below h.bel, Nxt.old⟩
theorem pd_no (h : pdE m L K o ≠ 0) : pdL L K o = L := by
 unfold pdE at h
 unfold pdL
 by_cases h6 : o.1 = 6
 ·rw [if_pos h6]
 ·rw [if_neg h6] at h ⊢
  unfold doE at h
  unfold doK
  by_cases h7 : o.1 = 7
  ·rw [if_pos h7] at h; exact absurd rfl h
  ·rw [if_neg h7] at h ⊢
   unfold opE at h
   unfold doB
   by_cases h1 : o.1 = 1
   ·rw [if_pos h1] at h ⊢; unfold alB; rw [if_neg h]
   rw [if_neg h1] at h ⊢
   by_cases h2 : o.1 = 2
   ·rw [if_pos h2] at h ⊢; unfold frB; rw [if_neg h]
   rw [if_neg h2] at h ⊢
   by_cases h3 : o.1 = 3
   ·rw [if_pos h3] at h ⊢; unfold wrB; rw [if_neg h]
   rw [if_neg h3] at h ⊢
   by_cases h4 : o.1 = 4
   ·rw [if_pos h4] at h ⊢; unfold seF; rw [if_neg h]
   rw [if_neg h4] at h ⊢
   by_cases h5 : o.1 = 5
   ·rw [if_pos h5] at h ⊢; unfold unF; rw [if_neg h]
   rw [if_neg h5] at h ⊢
   by_cases h8 : o.1 = 8
   ·rw [if_pos h8] at h; exact absurd rfl h
   rw [if_neg h8] at h ⊢
   by_cases h9 : o.1 = 9
   ·rw [if_pos h9] at h; exact absurd rfl h
   rw [if_neg h9]
theorem pd_len {Z : Nat} (hf : Fine L) (h1 : L.length = Z) (h2 : K.length = Z) : (pdL L K o).length = Z := by
 unfold pdL doK
 by_cases h6 : o.1 = 6
 ·rw [if_pos h6]; exact h1
 ·rw [if_neg h6]
  by_cases h7 : o.1 = 7
  ·rw [if_pos h7]; exact h2
  ·rw [if_neg h7, (doB_fine hf o).2]; exact h1
end
end Go.Proofs.YtecodmiendedfaaGreatDoor
