/-
  Joined by program: PoA; PoB; PoC; PoD; PoG; PoE; PoF. (Parts of the proofs over the packages of the program.)
-/
import Derived.Test.YtmmgadnicodakaaGreatDoorJTf
import Derived.Test.YtmmgadnicodakaaGreatDoorJOr
import Derived.Deep.RegionHeld3
import Derived.Test.YtmmgadnicodakaaGreatDoorJIn
namespace Go.Proofs.YtmmgadnicodakaaGreatDoor
open Go.RowKit
set_option linter.unusedVariables false
def opV (r : OpR) : Value := .agg #[.int .i64 r.1, .int .i64 r.2.1, .int .i64 r.2.2.1, .int .i64 r.2.2.2.1, .string r.2.2.2.2.1, .slice r.2.2.2.2.2.1 r.2.2.2.2.2.2.2.length r.2.2.2.2.2.2.1]
def opP (r : OpR) : OpP := (r.1, r.2.1, r.2.2.1, r.2.2.2.1, r.2.2.2.2.1, r.2.2.2.2.2.2.2)
def opW (w : World) (o h a n : Int) (nm : ByteArray) (ad : Option Addr) (k cap : Nat) : World := w.alloc (.cells #[.int .i64 o, .int .i64 h, .int .i64 a, .int .i64 n, .string nm, .slice ad k cap] 35)
section
variable {Q : World → Prop} (t x : Nat) (h a n : Int) (nm : ByteArray) (ad : Option Addr) (k cap : Nat) (w : World) (ev v : Value)
set_option maxRecDepth 100000 in
set_option maxHeartbeats 1000000 in
theorem do_1 (HH : Calls Tryz.prog 11 #[.pointer (some ⟨t, 0, none⟩)] (opW w 1 h a n nm ad k cap) fun e w' => e = .returned (.pointer (some ⟨x, 0, none⟩)) ∧ opW w 1 h a n nm ad k cap = w')
  (HA : Calls Tryz.prog 18 #[.pointer (some ⟨x, 0, none⟩), .int .i64 n, .int .i64 a] (opW w 1 h a n nm ad k cap) fun e w' => e = .returned (.tuple #[v, ev]) ∧ Q w') :
  Calls Tryz.prog 13 #[.pointer (some ⟨t, 0, none⟩), .agg #[.int .i64 1, .int .i64 h, .int .i64 a, .int .i64 n, .string nm, .slice ad k cap]] w fun e w' => e = .returned ev ∧ Q w' := by
 unfold opW at HH HA
 have H1 := hide HH
 have H2 := hide HA
 clear HH HA
 go_enter Tryz.func13, Tryz.ntmps13
 go_wp2_with fail
 refine (unhide H1).mono ?_
 rintro e w1 ⟨rfl, rfl⟩
 go_wp2_with fail
 refine (unhide H2).mono ?_
 rintro e w2 ⟨rfl, hq⟩
 have HQ := hide hq
 clear hq H1 H2
 go_wp2
 go_ret
 exact ⟨rfl, unhide HQ⟩
set_option maxRecDepth 100000 in
set_option maxHeartbeats 1000000 in
theorem do_2 (HH : Calls Tryz.prog 11 #[.pointer (some ⟨t, 0, none⟩)] (opW w 2 h a n nm ad k cap) fun e w' => e = .returned (.pointer (some ⟨x, 0, none⟩)) ∧ opW w 2 h a n nm ad k cap = w')
  (HA : Calls Tryz.prog 46 #[.pointer (some ⟨x, 0, none⟩), .int .i64 h] (opW w 2 h a n nm ad k cap) fun e w' => e = .returned ev ∧ Q w') :
  Calls Tryz.prog 13 #[.pointer (some ⟨t, 0, none⟩), .agg #[.int .i64 2, .int .i64 h, .int .i64 a, .int .i64 n, .string nm, .slice ad k cap]] w fun e w' => e = .returned ev ∧ Q w' := by
 unfold opW at HH HA
 have H1 := hide HH
 have H2 := hide HA
 clear HH HA
 go_enter Tryz.func13, Tryz.ntmps13
 go_wp2_with fail
 refine (unhide H1).mono ?_
 rintro e w1 ⟨rfl, rfl⟩
 go_wp2_with fail
 refine (unhide H2).mono ?_
 rintro e w2 ⟨rfl, hq⟩
 have HQ := hide hq
 clear hq H1 H2
 go_wp2
 go_ret
 exact ⟨rfl, unhide HQ⟩
set_option maxRecDepth 100000 in
set_option maxHeartbeats 1000000 in
theorem do_3 (HH : Calls Tryz.prog 11 #[.pointer (some ⟨t, 0, none⟩)] (opW w 3 h a n nm ad k cap) fun e w' => e = .returned (.pointer (some ⟨x, 0, none⟩)) ∧ opW w 3 h a n nm ad k cap = w')
  (HA : Calls Tryz.prog 47 #[.pointer (some ⟨x, 0, none⟩), .int .i64 h, .int .i64 a, .slice ad k cap] (opW w 3 h a n nm ad k cap) fun e w' => e = .returned ev ∧ Q w') :
  Calls Tryz.prog 13 #[.pointer (some ⟨t, 0, none⟩), .agg #[.int .i64 3, .int .i64 h, .int .i64 a, .int .i64 n, .string nm, .slice ad k cap]] w fun e w' => e = .returned ev ∧ Q w' := by
 unfold opW at HH HA
 have H1 := hide HH
 have H2 := hide HA
 clear HH HA
 go_enter Tryz.func13, Tryz.ntmps13
 go_wp2_with fail
 refine (unhide H1).mono ?_
 rintro e w1 ⟨rfl, rfl⟩
 go_wp2_with fail
 refine (unhide H2).mono ?_
 rintro e w2 ⟨rfl, hq⟩
 have HQ := hide hq
 clear hq H1 H2
 go_wp2
 go_ret
 exact ⟨rfl, unhide HQ⟩
set_option maxRecDepth 100000 in
set_option maxHeartbeats 1000000 in
theorem do_4 (HH : Calls Tryz.prog 11 #[.pointer (some ⟨t, 0, none⟩)] (opW w 4 h a n nm ad k cap) fun e w' => e = .returned (.pointer (some ⟨x, 0, none⟩)) ∧ opW w 4 h a n nm ad k cap = w')
  (HA : Calls Tryz.prog 48 #[.pointer (some ⟨x, 0, none⟩), .string nm, .int .i64 h] (opW w 4 h a n nm ad k cap) fun e w' => e = .returned (.tuple #[v, ev]) ∧ Q w') :
  Calls Tryz.prog 13 #[.pointer (some ⟨t, 0, none⟩), .agg #[.int .i64 4, .int .i64 h, .int .i64 a, .int .i64 n, .string nm, .slice ad k cap]] w fun e w' => e = .returned ev ∧ Q w' := by
 unfold opW at HH HA
 have H1 := hide HH
 have H2 := hide HA
 clear HH HA
 go_enter Tryz.func13, Tryz.ntmps13
 go_wp2_with fail
 refine (unhide H1).mono ?_
 rintro e w1 ⟨rfl, rfl⟩
 go_wp2_with fail
 refine (unhide H2).mono ?_
 rintro e w2 ⟨rfl, hq⟩
 have HQ := hide hq
 clear hq H1 H2
 go_wp2
 go_ret
 exact ⟨rfl, unhide HQ⟩
set_option maxRecDepth 100000 in
set_option maxHeartbeats 1000000 in
theorem do_5 (HH : Calls Tryz.prog 11 #[.pointer (some ⟨t, 0, none⟩)] (opW w 5 h a n nm ad k cap) fun e w' => e = .returned (.pointer (some ⟨x, 0, none⟩)) ∧ opW w 5 h a n nm ad k cap = w')
  (HA : Calls Tryz.prog 49 #[.pointer (some ⟨x, 0, none⟩), .string nm] (opW w 5 h a n nm ad k cap) fun e w' => e = .returned ev ∧ Q w') :
  Calls Tryz.prog 13 #[.pointer (some ⟨t, 0, none⟩), .agg #[.int .i64 5, .int .i64 h, .int .i64 a, .int .i64 n, .string nm, .slice ad k cap]] w fun e w' => e = .returned ev ∧ Q w' := by
 unfold opW at HH HA
 have H1 := hide HH
 have H2 := hide HA
 clear HH HA
 go_enter Tryz.func13, Tryz.ntmps13
 go_wp2_with fail
 refine (unhide H1).mono ?_
 rintro e w1 ⟨rfl, rfl⟩
 go_wp2_with fail
 refine (unhide H2).mono ?_
 rintro e w2 ⟨rfl, hq⟩
 have HQ := hide hq
 clear hq H1 H2
 go_wp2
 go_ret
 exact ⟨rfl, unhide HQ⟩
set_option maxRecDepth 100000 in
set_option maxHeartbeats 1000000 in
theorem do_6 (HH : Calls Tryz.prog 11 #[.pointer (some ⟨t, 0, none⟩)] (opW w 6 h a n nm ad k cap) fun e w' => e = .returned (.pointer (some ⟨x, 0, none⟩)) ∧ opW w 6 h a n nm ad k cap = w')
  (HA : Calls Tryz.prog 19 #[.pointer (some ⟨t, 0, none⟩)] (opW w 6 h a n nm ad k cap) fun e w' => e = .returned ev ∧ Q w') :
  Calls Tryz.prog 13 #[.pointer (some ⟨t, 0, none⟩), .agg #[.int .i64 6, .int .i64 h, .int .i64 a, .int .i64 n, .string nm, .slice ad k cap]] w fun e w' => e = .returned ev ∧ Q w' := by
 unfold opW at HH HA
 have H1 := hide HH
 have H2 := hide HA
 clear HH HA
 go_enter Tryz.func13, Tryz.ntmps13
 go_wp2_with fail
 refine (unhide H1).mono ?_
 rintro e w1 ⟨rfl, rfl⟩
 go_wp2_with fail
 refine (unhide H2).mono ?_
 rintro e w2 ⟨rfl, hq⟩
 have HQ := hide hq
 clear hq H1 H2
 go_wp2
 go_ret
 exact ⟨rfl, unhide HQ⟩
set_option maxRecDepth 100000 in
set_option maxHeartbeats 1000000 in
theorem do_7 (HH : Calls Tryz.prog 11 #[.pointer (some ⟨t, 0, none⟩)] (opW w 7 h a n nm ad k cap) fun e w' => e = .returned (.pointer (some ⟨x, 0, none⟩)) ∧ opW w 7 h a n nm ad k cap = w')
  (HA : Calls Tryz.prog 50 #[.pointer (some ⟨t, 0, none⟩)] (opW w 7 h a n nm ad k cap) fun e w' => e = .returned (.tuple #[]) ∧ Q w') :
  Calls Tryz.prog 13 #[.pointer (some ⟨t, 0, none⟩), .agg #[.int .i64 7, .int .i64 h, .int .i64 a, .int .i64 n, .string nm, .slice ad k cap]] w fun e w' => e = .returned .nilIface ∧ Q w' := by
 unfold opW at HH HA
 have H1 := hide HH
 have H2 := hide HA
 clear HH HA
 go_enter Tryz.func13, Tryz.ntmps13
 go_wp2_with fail
 refine (unhide H1).mono ?_
 rintro e w1 ⟨rfl, rfl⟩
 go_wp2_with fail
 refine (unhide H2).mono ?_
 rintro e w2 ⟨rfl, hq⟩
 have HQ := hide hq
 clear hq H1 H2
 go_wp2
 go_ret
 exact ⟨rfl, unhide HQ⟩
set_option maxRecDepth 100000 in
set_option maxHeartbeats 1000000 in
theorem do_8 (HH : Calls Tryz.prog 11 #[.pointer (some ⟨t, 0, none⟩)] (opW w 8 h a n nm ad k cap) fun e w' => e = .returned (.pointer (some ⟨x, 0, none⟩)) ∧ opW w 8 h a n nm ad k cap = w')
  (HA : Calls Tryz.prog 51 #[.pointer (some ⟨x, 0, none⟩)] (opW w 8 h a n nm ad k cap) fun e w' => e = .returned (.tuple #[v, ev]) ∧ Q w') :
  Calls Tryz.prog 13 #[.pointer (some ⟨t, 0, none⟩), .agg #[.int .i64 8, .int .i64 h, .int .i64 a, .int .i64 n, .string nm, .slice ad k cap]] w fun e w' => e = .returned ev ∧ Q w' := by
 unfold opW at HH HA
 have H1 := hide HH
 have H2 := hide HA
 clear HH HA
 go_enter Tryz.func13, Tryz.ntmps13
 go_wp2_with fail
 refine (unhide H1).mono ?_
 rintro e w1 ⟨rfl, rfl⟩
 go_wp2_with fail
 refine (unhide H2).mono ?_
 rintro e w2 ⟨rfl, hq⟩
 have HQ := hide hq
 clear hq H1 H2
 go_wp2
 go_ret
 exact ⟨rfl, unhide HQ⟩
set_option maxRecDepth 100000 in
set_option maxHeartbeats 1000000 in
theorem do_9 (HH : Calls Tryz.prog 11 #[.pointer (some ⟨t, 0, none⟩)] (opW w 9 h a n nm ad k cap) fun e w' => e = .returned (.pointer (some ⟨x, 0, none⟩)) ∧ opW w 9 h a n nm ad k cap = w')
  (HA : Calls Tryz.prog 52 #[.pointer (some ⟨x, 0, none⟩)] (opW w 9 h a n nm ad k cap) fun e w' => e = .returned (.tuple #[v, ev]) ∧ Q w') :
  Calls Tryz.prog 13 #[.pointer (some ⟨t, 0, none⟩), .agg #[.int .i64 9, .int .i64 h, .int .i64 a, .int .i64 n, .string nm, .slice ad k cap]] w fun e w' => e = .returned ev ∧ Q w' := by
 unfold opW at HH HA
 have H1 := hide HH
 have H2 := hide HA
 clear HH HA
 go_enter Tryz.func13, Tryz.ntmps13
 go_wp2_with fail
 refine (unhide H1).mono ?_
 rintro e w1 ⟨rfl, rfl⟩
 go_wp2_with fail
 refine (unhide H2).mono ?_
 rintro e w2 ⟨rfl, hq⟩
 have HQ := hide hq
 clear hq H1 H2
 go_wp2
 go_ret
 exact ⟨rfl, unhide HQ⟩
set_option maxRecDepth 100000 in
set_option maxHeartbeats 1000000 in
theorem do_no (o : Int) (h1 : o ≠ 1) (h2 : o ≠ 2) (h3 : o ≠ 3) (h4 : o ≠ 4) (h5 : o ≠ 5) (h6 : o ≠ 6) (h7 : o ≠ 7) (h8 : o ≠ 8) (h9 : o ≠ 9) (HH : Calls Tryz.prog 11 #[.pointer (some ⟨t, 0, none⟩)] (opW w o h a n nm ad k cap) fun e w' => e = .returned (.pointer (some ⟨x, 0, none⟩)) ∧ opW w o h a n nm ad k cap = w') :
  Calls Tryz.prog 13 #[.pointer (some ⟨t, 0, none⟩), .agg #[.int .i64 o, .int .i64 h, .int .i64 a, .int .i64 n, .string nm, .slice ad k cap]] w fun e w' => e = .returned (errV 1) ∧ w' = opW w o h a n nm ad k cap := by
 unfold opW at HH ⊢
 have H1 := hide HH
 have t1 : (o == 1) = false := by simpa using h1
 have t2 : (o == 2) = false := by simpa using h2
 have t3 : (o == 3) = false := by simpa using h3
 have t4 : (o == 4) = false := by simpa using h4
 have t5 : (o == 5) = false := by simpa using h5
 have t6 : (o == 6) = false := by simpa using h6
 have t7 : (o == 7) = false := by simpa using h7
 have t8 : (o == 8) = false := by simpa using h8
 have t9 : (o == 9) = false := by simpa using h9
 clear HH h1 h2 h3 h4 h5 h6 h7 h8 h9
 rw [errV_pos 1 (by decide)]
 go_enter Tryz.func13, Tryz.ntmps13
 go_wp2_with fail
 refine (unhide H1).mono ?_
 rintro e w1 ⟨rfl, rfl⟩
 go_wp2
 go_ret
 exact ⟨rfl, rfl⟩
end
end Go.Proofs.YtmmgadnicodakaaGreatDoor
namespace Go.Proofs.YtmmgadnicodakaaGreatDoor
open Go.RowKit
set_option linter.unusedVariables false
section
variable {w0 w w' : World} {t p q : Nat} {S : Nat → Prop} {D : DS} {s : Int} {m n x g c : Nat} {L M : List Int} {gk ck : Nat} {K : List Int} {cut : Bool}
def StoH (w0 w : World) (t p q : Nat) (S : Nat → Prop) (D : DS) (s : Int) (m x g : Nat) (M : List Int) (gk ck : Nat) (K : List Int) (cut : Bool) (w' : World) : Prop :=
 ∃ g' c', Sto w0 w' t p q S D s m x g' c' M gk ck K cut ∧ Turn (foot x g) (foot x g') w w'
theorem Sto.call (h : Sto w0 w t p q S D s m x g c L gk ck K cut) {f : Nat} {ar : Array Value} {V : Value} (hM : M.length = L.length)
  (hc : Calls Tryz.prog f ar w fun e w' => e = .returned V ∧ ∃ g' c', Hp w' w0.heap.size x g' c' M ∧ Turn (foot x g) (foot x g') w w') :
  Calls Tryz.prog f ar w fun e w' => e = .returned V ∧ StoH w0 w t p q S D s m x g M gk ck K cut w' :=
 hc.mono fun e w' ⟨he, g', c', hh, ht⟩ => ⟨he, g', c', h.heap hh ht hM, ht⟩
theorem StoH.over {w1 : World} (hb : Below w.heap.size w w1) (h : StoH w0 w1 t p q S D s m x g M gk ck K cut w') : StoH w0 w t p q S D s m x g M gk ck K cut w' := by
 obtain ⟨g', c', h1, h2⟩ := h
 exact ⟨g', c', h1, (Turn.of_below hb).trans h2⟩
theorem Sto.here (h : Sto w0 w t p q S D s m x g c L gk ck K cut) : StoH w0 w t p q S D s m x g L gk ck K cut w := ⟨g, c, h, Turn.of_below (Below.refl _ _)⟩
set_option maxRecDepth 100000 in
theorem Sto.abort (h : Sto w0 w t p q S D s m x g c L gk ck K cut) :
  Calls Tryz.prog 50 #[.pointer (some ⟨t, 0, none⟩)] w fun e w' => e = .returned (.tuple #[]) ∧ StoH w0 w t p q S D s m x g K gk ck K cut w' := by
 have c2 := h.c2
 have c3 := h.c3
 have hd : Below w.heap.size w w.drew := below_drew (Below.refl _ _)
 have h' := h.below hd
 have HR : Hid (Calls Tryz.prog 103 #[.pointer (some ⟨x, 0, none⟩), .slice (some ⟨gk, 0, none⟩) K.length ck] w.drew fun e w' => e = .returned .nilIface ∧ Hid (StoH w0 w t p q S D s m x g K gk ck K cut w') ∧ w'.cell? ⟨t, 2, none⟩ = some (.pointer (some ⟨x, 0, none⟩)) ∧ w'.cell? ⟨t, 3, none⟩ = some (.slice (some ⟨gk, 0, none⟩) K.length ck)) := hide
  ((h'.call (h.klen.trans h.len.symm) (hReplace_yes h'.hp h'.size h'.kbs h'.kf (h.klen.trans h.len.symm))).mono fun e w' hq => ⟨hq.1, hide (StoH.over hd hq.2), (by obtain ⟨_, _, hs, _⟩ := hq.2; exact hs.c2), (by obtain ⟨_, _, hs, _⟩ := hq.2; exact hs.c3)⟩)
 clear h h' hd
 generalize K.length = N at *
 go_enter Tryz.func50, Tryz.ntmps50
 go_wp2_with fail
 go_region_held3 (fun w' => w'.cell? ⟨t, 2, none⟩ = some (.pointer (some ⟨x, 0, none⟩)) ∧ w'.cell? ⟨t, 3, none⟩ = some (.slice (some ⟨gk, 0, none⟩) N ck)) (first | go_keep | (go_split_ands; refine ⟨?_, ?_⟩ <;> go_keep))
  ((go_at_call 103; refine (unhide HR).mono ?_; rintro e w1 ⟨rfl, HX, c2', c3'⟩))
 go_wp2
 go_end0
 exact ⟨rfl, unhide HX⟩
def doK (L K : List Int) (o : OpP) : List Int := if o.1 = 7 then K else doB L o
def doE (L : List Int) (o : OpP) : Int := if o.1 = 7 then 0 else opE L o
theorem ps_do {m : Nat} {P : Ps} {o : OpP} (h6 : o.1 ≠ 6) : psDo m P o = ({ P with L := doK P.L P.K o }, doE P.L o) := by
 unfold psDo doK doE
 rw [if_neg h6]
 by_cases h7 : o.1 = 7
 ·rw [if_pos h7, if_pos h7, if_pos h7]
 ·rw [if_neg h7, if_neg h7, if_neg h7]
theorem opW_below (w : World) (o h a n : Int) (nm : ByteArray) (ad : Option Addr) (k cap : Nat) : Below w.heap.size w (opW w o h a n nm ad k cap) := (Below.refl _ _).alloc (Nat.le_refl _) _
theorem Sto.do (h : Sto w0 w t p q S D s m x g c L gk ck K cut) (r : OpR) (hin : OpIn w r) (h6 : r.1 ≠ 6) :
  Calls Tryz.prog 13 #[.pointer (some ⟨t, 0, none⟩), opV r] w fun e w' => e = .returned (errV (doE L (opP r))) ∧ StoH w0 w t p q S D s m x g (doK L K (opP r)) gk ck K cut w' := by
 obtain ⟨o, hd, a, k, nm, ad, cap, body⟩ := r
 obtain ⟨i1, i2, i3, i4, i5, i6⟩ := hin
 dsimp only at i1 i2 i3 i4 i5 i6 h6
 unfold opV
 dsimp only
 have hb := opW_below w o hd a k nm ad body.length cap
 have h' := h.below hb
 have HH := stHeap_any h'
 have hB := h'.size
 by_cases e1 : o = 1
 ·subst e1
  refine (do_1 t x hd a k nm ad body.length cap w _ _ HH (h'.call (al_len h'.hp.fine k a) (hAlloc_any x g c w0.heap.size L k a _ h'.hp hB))).mono fun e w' hq => ⟨hq.1, StoH.over hb hq.2⟩
 by_cases e2 : o = 2
 ·subst e2
  refine (do_2 t x hd a k nm ad body.length cap w _ HH (h'.call (frB_fine h'.hp.fine hd).2 (hFree_any x g c w0.heap.size L hd _ h'.hp hB))).mono fun e w' hq => ⟨hq.1, StoH.over hb hq.2⟩
 by_cases e3 : o = 3
 ·subst e3
  refine (do_3 t x hd a k nm ad body.length cap w _ HH (h'.call (wrB_fine h'.hp.fine hd a body).2 ((hWrite_any x g c w0.heap.size L hd a ad cap body _ h'.hp (i6.below hb) i3.2).mono fun e w' ⟨he, h1, h2⟩ => ⟨he, g, c, h1, h2⟩))).mono fun e w' hq => ⟨hq.1, StoH.over hb hq.2⟩
 by_cases e4 : o = 4
 ·subst e4
  refine (do_4 t x hd a k nm ad body.length cap w _ _ HH (h'.call (seF_fine h'.hp.fine nm hd).2 (roSet_any h'.hp hB nm hd i5))).mono fun e w' hq => ⟨hq.1, StoH.over hb hq.2⟩
 by_cases e5 : o = 5
 ·subst e5
  refine (do_5 t x hd a k nm ad body.length cap w _ HH (h'.call (unF_fine h'.hp.fine nm).2 (roUnset_any h'.hp hB nm i5))).mono fun e w' hq => ⟨hq.1, StoH.over hb hq.2⟩
 by_cases e7 : o = 7
 ·subst e7
  refine (do_7 t x hd a k nm ad body.length cap w HH h'.abort).mono fun e w' hq => ⟨hq.1, StoH.over hb hq.2⟩
 by_cases e8 : o = 8
 ·subst e8
  refine (do_8 t x hd a k nm ad body.length cap w _ _ HH (h'.call (mvT_fine h'.hp.fine).2 (mvStepH_any h'.hp hB))).mono fun e w' hq => ⟨hq.1, StoH.over hb hq.2⟩
 by_cases e9 : o = 9
 ·subst e9
  refine (do_9 t x hd a k nm ad body.length cap w _ _ HH (h'.call (swT_fine h'.hp.fine).2 (rhSweep_any h'.hp hB))).mono fun e w' hq => ⟨hq.1, StoH.over hb hq.2⟩
 ·have eE : doE L (opP (o, hd, a, k, nm, ad, cap, body)) = 1 := by
   unfold doE opE opP
   dsimp only
   rw [if_neg e7, if_neg e1, if_neg e2, if_neg e3, if_neg e4, if_neg e5, if_neg e8, if_neg e9]
  have eK : doK L K (opP (o, hd, a, k, nm, ad, cap, body)) = L := by
   unfold doK doB opP
   dsimp only
   rw [if_neg e7, if_neg e1, if_neg e2, if_neg e3, if_neg e4, if_neg e5, if_neg e8, if_neg e9]
  rw [eE, eK]
  refine (do_no t x hd a k nm ad body.length cap w o e1 e2 e3 e4 e5 h6 e7 e8 e9 HH).mono ?_
  rintro e w' ⟨rfl, rfl⟩
  exact ⟨rfl, StoH.over hb h'.here⟩
end
section
variable {w0 w w' : World} {t p x m n : Nat} {P : Ps} {F : Nat → Prop}
def TfT (w0 w : World) (t p x m : Nat) (P : Ps) (F : Nat → Prop) (w' : World) : Prop := ∃ F', Tf w0 w' t p x m P F' ∧ Turn F F' w w'
theorem Tf.do (h : Tf w0 w t p x m P F) (r : OpR) (hin : OpIn w r) (hz : Pz m n P) (h0 : 0 ≤ P.s) (hs : P.s ≤ 999) :
  Calls Tryz.prog 13 #[.pointer (some ⟨t, 0, none⟩), opV r] w fun e w' => e = .returned (errV (psDo m P (opP r)).2) ∧ TfT w0 w t p x m (psDo m P (opP r)).1 F w' := by
 by_cases h6 : r.1 = 6
 ·obtain ⟨o, hd, a, k, nm, ad, cap, body⟩ := r
  dsimp only at h6
  subst h6
  have e : psDo m P (opP (6, hd, a, k, nm, ad, cap, body)) = psCo m P := rfl
  rw [e]
  unfold opV
  dsimp only
  have hb := opW_below w 6 hd a k nm ad body.length cap
  have h' := h.below hb
  refine (do_6 (Q := TfT w0 w t p x m (psCo m P).1 F) t x hd a k nm ad body.length cap w _ h'.heap ((h'.commit h0 (by omega) (hz.stays hs)).mono fun e w' ⟨he, F', h1, h2⟩ => ⟨he, F', h1, (Turn.of_below hb).trans h2⟩))
 ·rw [ps_do (P := P) (o := opP r) h6]
  obtain ⟨q, S, g, c, gk, ck, hsto, rfl⟩ := h
  refine (hsto.do r hin h6).mono ?_
  rintro e w' ⟨rfl, g', c', h1, h2⟩
  exact ⟨rfl, _, ⟨q, S, g', c', gk, ck, h1, rfl⟩, turn_footA h2 S q t gk⟩
def RunAt (w0 w : World) (t p x m : Nat) (P : Ps) (F : Nat → Prop) (l : List OpR) (k : Nat) (w' : World) : Prop := TfT w0 w t p x m (psRun m P ((l.take k).map opP)) F w'
theorem ops_byt {W : World} {a : Option Addr} {cap : Nat} {l : List OpR} (ho : Ops W a cap l) : ∀ o ∈ l.map opP, Byt o.2.2.2.2.2 := fun o h => by
 obtain ⟨r, hr, rfl⟩ := List.mem_map.1 h
 exact (ho.2 r hr).2.2.2.2.2.1
theorem ops_snoc {l : List OpR} {k : Nat} {r : OpR} (h : l[k]? = some r) : (l.take (k + 1)).map opP = (l.take k).map opP ++ [opP r] := by
 rw [List.take_add_one, h]
 simp
theorem run_snoc {l : List OpR} {k : Nat} {r : OpR} (h : l[k]? = some r) : psRun m P ((l.take (k + 1)).map opP) = (psDo m (psRun m P ((l.take k).map opP)) (opP r)).1 := by
 rw [ops_snoc h, psRun_snoc]
theorem run_mid {W : World} {a : Option Addr} {cap : Nat} {l : List OpR} (ho : Ops W a cap l) (hz : Pz m n P) (hs : P.s + l.length ≤ 1000) {k : Nat} (hk : k ≤ l.length) :
  Pz m n (psRun m P ((l.take k).map opP)) ∧ P.s ≤ (psRun m P ((l.take k).map opP)).s ∧ (psRun m P ((l.take k).map opP)).s ≤ P.s + k := by
 have hl : ((l.take k).map opP).length = k := by simp; omega
 have := pz_run (n := n) ((l.take k).map opP) hz (by rw [hl]; omega) (fun o hm => ops_byt ho o (by
  obtain ⟨r, hr, rfl⟩ := List.mem_map.1 hm
  exact List.mem_map.2 ⟨r, List.mem_of_mem_take hr, rfl⟩))
 rw [hl] at this
 exact this
theorem TfT.do {wr : World} (h : TfT w0 w t p x m P F wr) (r : OpR) (hin : OpIn w0 r) (hz : Pz m n P) (h0 : 0 ≤ P.s) (hs : P.s ≤ 999) :
  Calls Tryz.prog 13 #[.pointer (some ⟨t, 0, none⟩), opV r] wr fun e w' => e = .returned (errV (psDo m P (opP r)).2) ∧ TfT w0 w t p x m (psDo m P (opP r)).1 F w' := by
 obtain ⟨F', h1, h2⟩ := h
 obtain ⟨a1, a2, a3, a4, a5, a6⟩ := hin
 refine (h1.do r ⟨a1, a2, a3, a4, a5, a6.below h1.base⟩ hz h0 hs).mono ?_
 rintro e w' ⟨he, F2, h3, h4⟩
 exact ⟨he, F2, h3, h2.trans h4⟩
theorem TfT.below {wr wr' : World} (h : TfT w0 w t p x m P F wr) (hb : Below wr.heap.size wr wr') : TfT w0 w t p x m P F wr' := by
 obtain ⟨F', h1, h2⟩ := h
 exact ⟨F', h1.below hb, h2.trans (Turn.of_below hb)⟩
theorem TfT.base {wr : World} (h : TfT w0 w t p x m P F wr) : Below w0.heap.size w0 wr := by
 obtain ⟨F', h1, h2⟩ := h
 exact h1.base
theorem Tf.same (h : Tf w0 w t p x m P F) : TfT w0 w t p x m P F w := ⟨F, h, Turn.of_below (Below.refl _ _)⟩
theorem RunAt.do {W wr : World} {a : Option Addr} {cap : Nat} {l : List OpR} {k : Nat} {r : OpR} (h : RunAt w0 w t p x m P F l k wr) (ho : Ops w0 a cap l) (hz : Pz m n P) (h0 : 0 ≤ P.s) (hs : P.s + l.length ≤ 1000) (hr : l[k]? = some r) :
  Calls Tryz.prog 13 #[.pointer (some ⟨t, 0, none⟩), opV r] wr fun e w' => e = .returned (errV (psDo m (psRun m P ((l.take k).map opP)) (opP r)).2) ∧ RunAt w0 w t p x m P F l (k + 1) w' := by
 have hk : k < l.length := (List.getElem?_eq_some_iff.1 hr).1
 obtain ⟨m1, m2, m3⟩ := run_mid ho hz hs (Nat.le_of_lt hk)
 unfold RunAt
 rw [run_snoc hr]
 exact TfT.do h r (ho.2 r (List.mem_of_getElem? hr)) m1 (by omega) (by omega)
set_option maxRecDepth 100000 in
set_option maxHeartbeats 1000000 in
theorem Tf.doAll (h : Tf w0 w t p x m P F) {a : Option Addr} {cap : Nat} {l : List OpR} (ho : Ops w0 a cap l) (hz : Pz m n P) (h0 : 0 ≤ P.s) (hs : P.s + l.length ≤ 1000) :
  Calls Tryz.prog 35 #[.pointer (some ⟨t, 0, none⟩), .slice a l.length cap] w fun e w' => e = .returned (.tuple #[]) ∧ TfT w0 w t p x m (psRun m P (l.map opP)) F w' := by
 have hll := ho.1.2.2.1
 have HO := hide ho
 have HS : Hid (RunAt w0 w t p x m P F l 0 w) := hide h.same
 have HZ := hide hz
 have HP0 := hide h0
 have HPS := hide hs
 have HE : Hid (RunAt w0 w t p x m P F l l.length = TfT w0 w t p x m (psRun m P (l.map opP)) F) := hide (by unfold RunAt; rw [List.take_length])
 clear h ho hz h0 hs
 go_enter Tryz.func35, Tryz.ntmps35
 go_wp2_with fail
 go_loopw [8] (fun kv wr => ∃ k : Nat, k ≤ l.length ∧ kv = .int .i64 k ∧ RunAt w0 w t p x m P F l k wr) (fun kv _ => l.length - (intOf kv).toNat)
 case atStart => exact ⟨0, Nat.zero_le _, rfl, unhide HS⟩
 case round =>
  obtain ⟨k, hk, rfl, hrun⟩ := hrel
  by_cases hlt : k < l.length
  ·have hr : l[k]? = some l[k] := List.getElem?_eq_getElem hlt
   generalize l[k] = r at hr
   obtain ⟨bo, oo, rfl, hco⟩ := (unhide HO).1.2.2.2 (by intro e; rw [e] at hlt; simp at hlt)
   obtain ⟨o0, o1, o2, o3, o4, o5⟩ := Sls.op hco hr
   have hbel := TfT.base hrun
   rw [← hbel.cell (block_lt_of_cell o0)] at o0
   rw [← hbel.cell (block_lt_of_cell o1)] at o1
   rw [← hbel.cell (block_lt_of_cell o2)] at o2
   rw [← hbel.cell (block_lt_of_cell o3)] at o3
   rw [← hbel.cell (block_lt_of_cell o4)] at o4
   rw [← hbel.cell (block_lt_of_cell o5)] at o5
   have hba : Below wr.heap.size wr (wr.alloc (.cells #[.int .i64 r.1, .int .i64 r.2.1, .int .i64 r.2.2.1, .int .i64 r.2.2.2.1, .string r.2.2.2.2.1, .slice r.2.2.2.2.2.1 r.2.2.2.2.2.2.2.length r.2.2.2.2.2.2.1] 35)) := (Below.refl _ _).alloc (Nat.le_refl _) _
   have hrun2 : RunAt w0 w t p x m P F l k _ := TfT.below hrun hba
   have hdo := hrun2.do (W := w) (unhide HO) (unhide HZ) (unhide HP0) (unhide HPS) hr
   generalize (psDo m (psRun m P ((l.take k).map opP)) (opP r)).2 = ev at hdo
   unfold opV at hdo
   obtain ⟨x0, x1, x2, x3, sn, ab, cb, body⟩ := r
   dsimp only at *
   have HDO := hide hdo
   have hku : (k : Int) < (l.length : Int) := by omega
   clear hco hr hrun hrun2 hba hbel hdo HS HE
   generalize body.length = BL at *
   go_wp2_with fail
   refine (unhide HDO).mono ?_
   rintro e w2 ⟨rfl, hq⟩
   have HQ := hide hq
   clear hq HDO o0 o1 o2 o3 o4 o5
   go_wp2
   go_roundw
   case rel => exact ⟨k + 1, by omega, by go_num, unhide HQ⟩
   case measure => simp [intOf]; omega
  ·obtain rfl : k = l.length := by omega
   rw [unhide HE] at hrun
   have HQ := hide hrun
   clear hrun
   go_wp2
   go_end0
   exact ⟨rfl, unhide HQ⟩
end
end Go.Proofs.YtmmgadnicodakaaGreatDoor
namespace Go.Proofs.YtmmgadnicodakaaGreatDoor
open Go.RowKit
set_option linter.unusedVariables false
section
variable {w0 w w' : World} {t p x m n : Nat} {P : Ps} {F : Nat → Prop} {S : Nat → Prop} {D : DS}
theorem left_any (h : Dev w p S D) :
  Calls Tryz.prog 36 #[.pointer (some ⟨p, 0, none⟩)] w fun e w' => e = .returned (.int .i64 (max D.left (-1))) ∧ w = w' := by
 obtain ⟨sb, bm, pv, h⟩ := h
 have c3 := h.c3
 have hl := h.ok.left
 clear h
 by_cases h1 : D.left < -1
 ·have h2 : max D.left (-1) = -1 := by omega
  rw [h2]
  go_enter Tryz.func36, Tryz.ntmps36
  go_wp2
  go_ret
  exact ⟨rfl, rfl⟩
 ·have h2 : max D.left (-1) = D.left := by omega
  rw [h2]
  go_enter Tryz.func36, Tryz.ntmps36
  go_wp2
  go_ret
  exact ⟨rfl, rfl⟩
theorem Tf.left (h : Tf w0 w t p x m P F) : Calls Tryz.prog 36 #[.pointer (some ⟨p, 0, none⟩)] w fun e w' => e = .returned (.int .i64 (max P.D.left (-1))) ∧ w = w' := by
 obtain ⟨q, S, g, c, gk, ck, hs, rfl⟩ := h
 exact left_any hs.bsd.live.dev
set_option maxRecDepth 100000 in
theorem stCreate_few {n : Nat} (h : Live w0 w p S (DS.new n)) (h1 : n < 57) :
  Calls Tryz.prog 10 #[.pointer (some ⟨p, 0, none⟩)] w fun e w' => e = .returned (.tuple #[.pointer none, errV 1]) ∧ w = w' := by
 have hln := len_any h.dev
 rw [show (DS.new n).secs.length = n by simp [DS.new]] at hln
 have HLN := hide hln
 have e1 : (n : Int) < 57 := by omega
 clear h hln
 rw [errV_pos 1 (by decide)]
 go_enter Tryz.func10, Tryz.ntmps10
 go_wp2_with fail
 refine (unhide HLN).mono ?_
 rintro e w1 ⟨rfl, rfl⟩
 go_wp2
 go_ret2
 exact ⟨rfl, rfl⟩
set_option maxRecDepth 100000 in
set_option maxHeartbeats 400000 in
theorem begin_yes (w : World) (n : Nat) (a : Option Addr) (k cap : Nat) (h1 : 57 ≤ n) (h2 : n ≤ 300) (hm : cntI n = m) (hk : k ≤ 200) :
  Calls Tryz.prog 33 #[.int .i64 n, .slice a k cap] w fun e w' => ∃ p t x, e = .returned (.tuple #[.pointer (some ⟨p, 0, none⟩), .pointer (some ⟨t, 0, none⟩), .nilIface]) ∧ ∃ F, Tf w w' t p x m (crP n m) F := by
 have HN := hide (new_live n w w (Below.refl _ _) (by omega) h2)
 have HC := hide (fun (W : World) (q : Nat) (S : Nat → Prop) (hl : Live w W q S (DS.new n)) => tf_create hl h1 h2 hm)
 clear hm
 go_enter Tryz.func33, Tryz.ntmps33
 go_wp2_with fail
 refine (unhide HN).mono ?_
 rintro e w1 ⟨p, S, rfl, hl, _, _⟩
 have HC1 := hide (unhide HC w1 p S hl)
 clear hl HC HN
 go_wp2_with fail
 refine (unhide HC1).mono ?_
 rintro e w2 ⟨t, x, rfl, hF⟩
 have HF := hide hF
 clear hF HC1
 go_wp2
 go_ret3
 exact ⟨p, t, x, rfl, unhide HF⟩
set_option maxRecDepth 100000 in
theorem begin_full (w : World) (n : Int) (a : Option Addr) (k cap : Nat) (hk : 200 < k) (hk2 : k ≤ 8796093021952) :
  Calls Tryz.prog 33 #[.int .i64 n, .slice a k cap] w fun e w' => e = .returned (.tuple #[.pointer none, .pointer none, errV 4]) ∧ w = w' := by
 have e1 : (200 : Int) < (k : Int) := by omega
 rw [errV_pos 4 (by decide)]
 go_enter Tryz.func33, Tryz.ntmps33
 go_wp2
 go_ret3
 exact ⟨rfl, rfl⟩
set_option maxRecDepth 100000 in
set_option maxHeartbeats 400000 in
theorem begin_no (w : World) (n : Int) (a : Option Addr) (k cap : Nat) (h : n < 57 ∨ 300 < n) (hk : k ≤ 200) :
  Calls Tryz.prog 33 #[.int .i64 n, .slice a k cap] w fun e w' => e = .returned (.tuple #[.pointer none, .pointer none, errV 1]) ∧ Below w.heap.size w w' := by
 by_cases h1 : n < 1 ∨ 300 < n
 ·have HN := hide (new_no n w h1)
  rw [errV_pos 1 (by decide)] at HN ⊢
  clear h h1
  go_enter Tryz.func33, Tryz.ntmps33
  go_wp2_with fail
  refine (unhide HN).mono ?_
  rintro e w1 ⟨rfl, rfl⟩
  go_wp2
  go_ret3
  exact ⟨rfl, Below.refl _ _⟩
 ·obtain ⟨N, rfl⟩ := Int.eq_ofNat_of_zero_le (show 0 ≤ n by omega)
  have HN := hide (new_live N w w (Below.refl _ _) (by omega) (by omega))
  have HC := hide (fun (W : World) (q : Nat) (S : Nat → Prop) (hl : Live w W q S (DS.new N)) => stCreate_few hl (by omega))
  rw [errV_pos 1 (by decide)] at HC ⊢
  clear h h1
  go_enter Tryz.func33, Tryz.ntmps33
  go_wp2_with fail
  refine (unhide HN).mono ?_
  rintro e w1 ⟨p, S, rfl, hl, _, hb⟩
  have HC1 := hide (unhide HC w1 p S hl)
  have HB := hide hb
  clear hl hb HC HN
  go_wp2_with fail
  refine (unhide HC1).mono ?_
  rintro e w2 ⟨rfl, rfl⟩
  clear HC1
  go_wp2
  go_ret3
  exact ⟨rfl, unhide HB⟩
def farQ : Int := 9223372036854775807
theorem coN_le : ∀ l : List OpP, coN l ≤ l.length
 | [] => Nat.le_refl _
 | o :: l => by
  have := coN_le l
  show (if o.1 = 6 then 1 else 0) + coN l ≤ l.length + 1
  split <;> omega
theorem st_few (l : List OpP) (p : Ps) : stSum m p l ≤ 50 * l.length := by
 have h1 := stSum_most (m := m) l p
 have h2 := coN_le l
 omega
theorem cr_up {n : Nat} (h1 : 57 ≤ n) (h2 : n ≤ 300) (hm : cntI n = m) : Pu m n (crP n m) ∧ (crP n m).D.left < 0 ∧ (crP n m).s = 2 := ⟨(crP_up h1 h2 hm).1, (crP_up h1 h2 hm).2, rfl⟩
theorem run_far {n : Nat} (h1 : 57 ≤ n) (h2 : n ≤ 300) (hm : cntI n = m) {l : List OpP} (hl : l.length ≤ 200) (hb : ∀ o ∈ l, Byt o.2.2.2.2.2) :
  psRun m (wlP (crP n m) farQ) l = wlP (psRun m (crP n m) l) (farQ - stSum m (crP n m) l) := by
 obtain ⟨u1, u2, u3⟩ := cr_up h1 h2 hm
 have hf := st_few (m := m) l (crP n m)
 rcases run_sim (n := n) l (q := farQ) u1 u2 (by rw [u3]; omega) hb (by decide) (by decide) with ⟨_, h⟩ | ⟨h, _⟩
 ·exact h
 ·unfold farQ at h; omega
theorem pz_far {n : Nat} (h1 : 57 ≤ n) (h2 : n ≤ 300) (hm : cntI n = m) {q : Int} (hq : -9223372036854775808 ≤ q ∧ q ≤ 9223372036854775807) : Pz m n (wlP (crP n m) q) := .inl ((cr_up h1 h2 hm).1.lefts hq)
set_option maxRecDepth 100000 in
set_option maxHeartbeats 1000000 in
theorem steps_yes (w : World) (n : Nat) {a : Option Addr} {cap : Nat} {l : List OpR} (ho : Ops w a cap l) (h1 : 57 ≤ n) (h2 : n ≤ 300) (hm : cntI n = m) (hl : l.length ≤ 200) :
  Calls Tryz.prog 6 #[.int .i64 n, .slice a l.length cap] w fun e w' => e = .returned (.tuple #[.int .i64 (stSum m (crP n m) (l.map opP)), .nilIface]) ∧ Below w.heap.size w w' := by
 have HBG := hide (begin_yes w n a l.length cap h1 h2 hm hl)
 have HFL := hide (fun (W : World) (t p x : Nat) (F : Nat → Prop) (h : Tf w W t p x m (crP n m) F) => h.fail farQ (by decide))
 have HDA := hide (fun (W : World) (t p x : Nat) (F : Nat → Prop) (h : Tf w W t p x m (wlP (crP n m) farQ) F) => h.doAll ho (pz_far (n := n) h1 h2 hm (q := farQ) (by decide)) (by show (0 : Int) ≤ 2; decide) (by show (2 : Int) + (l.length : Int) ≤ 1000; omega))
 have HRF := hide (run_far h1 h2 hm (l := l.map opP) (by simpa using hl) (ops_byt ho))
 have hfew := st_few (m := m) (l.map opP) (crP n m)
 rw [List.length_map] at hfew
 clear ho
 generalize hst : stSum m (crP n m) (l.map opP) = st at *
 clear hst
 generalize hP : crP n m = P0 at *
 clear hP hm
 go_enter Tryz.func6, Tryz.ntmps6
 go_wp2_with fail
 refine (unhide HBG).mono ?_
 rintro e w1 ⟨p, t, x, rfl, F, hF⟩
 have HF1 := hide (unhide HFL w1 t p x F hF)
 unfold farQ at HF1
 clear hF HBG HFL
 go_wp2_with fail
 refine (unhide HF1).mono ?_
 rintro e w2 ⟨rfl, F2, hF2, _⟩
 have HD := hide (unhide HDA w2 t p x F2 hF2)
 clear hF2 HF1 HDA
 go_wp2_with fail
 refine (unhide HD).mono ?_
 rintro e w3 ⟨rfl, F3, hF3, _⟩
 rw [unhide HRF] at hF3
 have hlf := hF3.left
 have hle : max (wlP (psRun m P0 (l.map opP)) (farQ - (st : Int))).D.left (-1) = 9223372036854775807 - (st : Int) := by
  show max (farQ - (st : Int)) (-1) = _
  unfold farQ
  omega
 rw [hle] at hlf
 have HLF := hide hlf
 have HB := hide hF3.base
 clear hF3 hlf hle HD HRF
 go_wp2_with fail
 refine (unhide HLF).mono ?_
 rintro e w4 ⟨rfl, rfl⟩
 go_wp2
 go_ret2
 exact ⟨by go_num, unhide HB⟩
end
end Go.Proofs.YtmmgadnicodakaaGreatDoor
namespace Go.Proofs.YtmmgadnicodakaaGreatDoor
open Go.RowKit
set_option linter.unusedVariables false
def op2a : OpR := (1, 0, 0, 3, ByteArray.empty, none, 0, [])
def op2c : OpR := (6, 0, 0, 0, ByteArray.empty, none, 0, [])
theorem two_steps {m : Nat} (n : Nat) (h1 : 291 ≤ 32 * m) (h2 : m ≤ 200) : stSum m (crP n m) ([op2a, op2c].map opP) = 6 := by
 have hf := first_page (n := 3) (m := m) (t := 0) (by omega) h2 (by decide) (by decide) (by decide) (by decide)
 have hf' : (drtN (zerosB (32 * m)) (alB (zerosB (32 * m)) 3 0) m).length = 1 := hf
 have e1 : stN m (crP n m) (opP op2a) = 0 := by
  unfold stN
  rw [if_neg (fun h => absurd h.1 (by decide))]
 have e2 : stN m (psDo m (crP n m) (opP op2a)).1 (opP op2c) = 6 := by
  have : stN m (psDo m (crP n m) (opP op2a)).1 (opP op2c) = if (6 : Int) = 6 ∧ 0 < (drtN (zerosB (32 * m)) (alB (zerosB (32 * m)) 3 0) m).length ∧ (drtN (zerosB (32 * m)) (alB (zerosB (32 * m)) 3 0) m).length ≤ 23 then 2 * (drtN (zerosB (32 * m)) (alB (zerosB (32 * m)) 3 0) m).length + 4 else 0 := rfl
  rw [this, hf']
  rfl
 show stN m (crP n m) (opP op2a) + (stN m (psDo m (crP n m) (opP op2a)).1 (opP op2c) + 0) = 6
 rw [e1, e2]
theorem ops_two {w : World} {g T : Nat} (h : w.heap[g]? = some (.cells #[.int .i64 1, .int .i64 0, .int .i64 0, .int .i64 3, .string ByteArray.empty, .slice none 0 0, .int .i64 6, .int .i64 0, .int .i64 0, .int .i64 0, .string ByteArray.empty, .slice none 0 0] T (0, 0))) : Ops w (some ⟨g, 0, none⟩) 2 [op2a, op2c] := by
 have hb0 : Bs w none 0 [] := bs_nil _
 have hcell : ∀ (i : Nat) (r : OpR), [op2a, op2c][i]? = some r → ∀ (j : Nat) (u : Value), (opC r)[j]? = some u → w.cell? ⟨g, 0 + i * 6 + j, none⟩ = some u := by
  intro i r hi j u hj
  have hc := fun k => cell_of_row w g k _ _ _ h
  rw [hc]
  match i, hi with
  | 0, hi =>
   obtain rfl : op2a = r := Option.some.inj hi
   match j, hj with
   | 0, hj => exact hj
   | 1, hj => exact hj
   | 2, hj => exact hj
   | 3, hj => exact hj
   | 4, hj => exact hj
   | 5, hj => exact hj
  | 1, hi =>
   obtain rfl : op2c = r := Option.some.inj hi
   match j, hj with
   | 0, hj => exact hj
   | 1, hj => exact hj
   | 2, hj => exact hj
   | 3, hj => exact hj
   | 4, hj => exact hj
   | 5, hj => exact hj
 have hS : Sls opC 6 w (some ⟨g, 0, none⟩) 2 [op2a, op2c] := ⟨Nat.le_refl _, (fun e => by simp at e), by decide, fun _ => ⟨g, 0, rfl, hcell⟩⟩
 refine ⟨hS, fun r hr => ?_⟩
 ·rcases List.mem_cons.1 hr with rfl | hr
  ·exact ⟨by unfold InZ; decide, by unfold InZ; decide, by unfold InZ; decide, by unfold InZ; decide, by decide, hb0⟩
  ·obtain rfl := List.mem_singleton.1 hr
   exact ⟨by unfold InZ; decide, by unfold InZ; decide, by unfold InZ; decide, by unfold InZ; decide, by decide, hb0⟩
end Go.Proofs.YtmmgadnicodakaaGreatDoor
namespace Go.Proofs.YtmmgadnicodakaaGreatDoor
open Go.RowKit
set_option linter.unusedVariables false
section
variable {w0 w w' : World} {t p x m n : Nat} {P : Ps} {F : Nat → Prop}
theorem run_some {W : World} {a : Option Addr} {cap : Nat} {l : List OpR} (ho : Ops W a cap l) {k : Nat} : ∀ o ∈ (l.take k).map opP, Byt o.2.2.2.2.2 := fun o hm => by
 obtain ⟨r, hr, rfl⟩ := List.mem_map.1 hm
 exact (ho.2 r (List.mem_of_mem_take hr)).2.2.2.2.2.1
theorem run_len (l : List OpR) (k : Nat) : ((l.take k).map opP).length ≤ k := by
 rw [List.length_map, List.length_take]; omega
theorem run_pz {W : World} {a : Option Addr} {cap : Nat} {l : List OpR} (ho : Ops W a cap l) (hz : Pz m n P) {k : Nat} (hs : P.s + k ≤ 1000) :
  Pz m n (psRun m P ((l.take k).map opP)) ∧ P.s ≤ (psRun m P ((l.take k).map opP)).s ∧ (psRun m P ((l.take k).map opP)).s ≤ P.s + k := by
 have hl := run_len l k
 obtain ⟨h1, h2, h3⟩ := pz_run (n := n) ((l.take k).map opP) hz (by omega) (run_some ho)
 exact ⟨h1, h2, by omega⟩
end
end Go.Proofs.YtmmgadnicodakaaGreatDoor
namespace Go.Proofs.YtmmgadnicodakaaGreatDoor
open Go.RowKit
set_option linter.unusedVariables false
def TellV (w w' : World) (K : List Int) (v1 v2 : Value) : Prop := Lst enC 4 104 w' w.heap.size v1 (entsK K 40) ∧ Lst roC 2 108 w' w.heap.size v2 (rootsK K 8)
theorem Lst.lowE {α : Type} {enc : α → List Value} {k T : Nat} {w : World} {B B' : Nat} {v : Value} {l : List α} (h : Lst enc k T w B' v l) (hB : B ≤ B') : Lst enc k T w B v l := by
 refine ⟨h.1, ?_⟩
 rcases h.2 with h0 | ⟨g, cap, cur, hv, hb, h3⟩
 ·exact .inl h0
 ·exact .inr ⟨g, cap, cur, hv, Nat.le_trans hB hb, h3⟩
set_option maxRecDepth 100000 in
theorem tell_yes (a : Option Addr) (cap : Nat) (K : List Int) (w : World) (hb : Bs w a cap K) (hl : lenB K.length = true) :
  Calls Tryz.prog 38 #[.slice a K.length cap] w fun e w' => ∃ v1 v2, e = .returned (.tuple #[v1, v2, .nilIface]) ∧ TellV w w' K v1 v2 ∧ Below w.heap.size w w' := by
 have h0 : errV (lenE K.length) = .nilIface := by unfold lenE; rw [hl]; rfl
 have e1 : ents K = entsK K 40 := by unfold ents; rw [hl]; rfl
 have e2 : roots K = rootsK K 8 := by unfold roots; rw [hl]; rfl
 have h1 := iEnts_any a cap K w hb
 rw [h0, e1] at h1
 have H1 := hide h1
 have H2 : Hid (∀ W, Below w.heap.size w W → Calls Tryz.prog 84 #[.slice a K.length cap] W fun e w' => ∃ v, e = .returned (.tuple #[v, .nilIface]) ∧ Lst roC 2 108 w' W.heap.size v (rootsK K 8) ∧ Below W.heap.size W w') := hide (fun W hB => by
  have h2 := iRoots_any a cap K W (hb.below hB)
  rw [h0, e2] at h2
  exact h2)
 clear hb hl h0 e1 e2 h1
 unfold TellV
 generalize entsK K 40 = E at *
 generalize rootsK K 8 = R at *
 generalize K.length = N at *
 go_enter Tryz.func38, Tryz.ntmps38
 go_wp2_with fail
 refine (unhide H1).mono ?_
 rintro e w1 ⟨v1, rfl, hl1, hb1⟩
 have H2' := hide (unhide H2 w1 hb1)
 have HL1 := hide hl1
 have HB1 := hide hb1
 clear hl1 hb1 H1 H2
 go_wp2_with fail
 refine (unhide H2').mono ?_
 rintro e w2 ⟨v2, rfl, hl2, hb2⟩
 have HQ := hide (And.intro ((unhide HL1).below hb2) (And.intro (hl2.lowE (unhide HB1).size) ((unhide HB1).trans (hb2.mono (unhide HB1).size))))
 clear hl2 hb2 HL1 HB1 H2'
 go_wp2
 go_ret3
 exact ⟨v1, v2, rfl, ⟨(unhide HQ).1, (unhide HQ).2.1⟩, (unhide HQ).2.2⟩
section
variable {m : Nat}
theorem bls_live {w0 w : World} {t p x m : Nat} {P : Ps} {F : Nat → Prop} (htf : Tf w0 w t p x m P F) {a : Option Addr} {cap : Nat} {keep : List Bool} (hb : Bls w0 a cap keep) : Bls w a cap keep ∧ (keep ≠ [] → ∀ x, a = some x → ¬ F x.block) := by
 obtain ⟨b1, b2, b3⟩ := hb
 refine ⟨⟨b1, b2, fun hne => ?_⟩, fun hne x hx hf => ?_⟩
 ·obtain ⟨bb, off, rfl, hc⟩ := b3 hne
  exact ⟨bb, off, rfl, fun i hi => (htf.base.cell (p := ⟨bb, off + i, none⟩) (block_lt_of_cell (hc i hi))).trans (hc i hi)⟩
 ·obtain ⟨bb, off, rfl, hc⟩ := b3 hne
  obtain rfl := Option.some.inj hx
  have h1 := block_lt_of_cell (hc 0 (by cases keep with | nil => exact absurd rfl hne | cons _ _ => simp))
  have h2 := htf.ge _ hf
  simp at h1 h2; omega
theorem psRun_secs : ∀ (l : List OpP) (p : Ps), (psRun m p l).D.secs.length = p.D.secs.length
 | [], p => rfl
 | o :: l, p => by
  show (psRun m (psDo m p o).1 l).D.secs.length = _
  rw [psRun_secs l]
  unfold psDo
  by_cases h6 : o.1 = 6
  ·rw [if_pos h6]
   exact commitOut_seclen p.D p.s m (dfP p.K p.L m)
  ·rw [if_neg h6]
   split <;> rfl
set_option maxRecDepth 100000 in
set_option maxHeartbeats 1000000 in
theorem play_yes (w : World) (n : Nat) {a : Option Addr} {cap : Nat} {l : List OpR} (ho : Ops w a cap l) (fail torn cut : Int) (hf : -9223372036854775808 ≤ fail ∧ fail ≤ 9223372036854775807) {ka : Option Addr} {kcap : Nat} {keep : List Bool} (hk : Bls w ka kcap keep)
  (h1 : 57 ≤ n) (h2 : n ≤ 300) (hm : cntI n = m) (hl : l.length ≤ 200) {s : Int} {K : List Int} (hr : Rdy ((psRun m (wlP (crP n m) fail) (l.map opP)).D.crash keep torn (cutN cut)) m s (prt K)) (hK : K.length = 32 * m) (hby : Byt K) (hfn : Fine K) :
  Calls Tryz.prog 7 #[.int .i64 n, .slice a l.length cap, .int .i64 fail, .slice ka keep.length kcap, .int .i64 torn, .int .i64 cut] w fun e w' => ∃ v1 v2, e = .returned (.tuple #[v1, v2, .nilIface]) ∧ TellV w w' K v1 v2 ∧ Below w.heap.size w w' := by
 have hm2 : 9 ≤ m ∧ m ≤ 200 ∧ 48 + m ≤ n := by
  unfold cntI at hm
  split at hm <;> omega
 have HBG := hide (begin_yes w n a l.length cap h1 h2 hm hl)
 have HFL := hide (fun (W : World) (t p x : Nat) (F : Nat → Prop) (h : Tf w W t p x m (crP n m) F) => h.fail fail hf)
 have HDA := hide (fun (W : World) (t p x : Nat) (F : Nat → Prop) (h : Tf w W t p x m (wlP (crP n m) fail) F) => h.doAll ho (pz_far (n := n) h1 h2 hm hf) (by show (0 : Int) ≤ 2; decide) (by show (2 : Int) + (l.length : Int) ≤ 1000; omega))
 have HCR := hide (fun (W : World) (t p x : Nat) (P : Ps) (F : Nat → Prop) (h : Tf w W t p x m P F) => h.dev.crash torn cut (bls_live h hk))
 have hsec : ((psRun m (wlP (crP n m) fail) (l.map opP)).D.crash keep torn (cutN cut)).secs.length = n := by
  show (crashK _ _ _ _ _ _).length = n
  rw [length_crashK, psRun_secs]
  exact (cr_up h1 h2 hm).1.sn
 have HOP := hide (fun (W : World) (p : Nat) (F : Nat → Prop) (h : Lf w W p ((psRun m (wlP (crP n m) fail) (l.map opP)).D.crash keep torn (cutN cut)) F) => h.open (by rw [hsec]; exact hm) (by omega) hm2.2.1 hr hK hby hfn)
 have HLF : Hid (((psRun m (wlP (crP n m) fail) (l.map opP)).D.crash keep torn (cutN cut)).left < 0) := hide (by show (-1 : Int) < 0; decide)
 have hkl := hk.2.1
 have hKl : lenB K.length = true := lenB_iff.2 ⟨by have := hfn.len; omega, by rw [hK]; omega⟩
 have HTE := hide (fun (W : World) (a : Option Addr) (c : Nat) (h : Bs W a c K) => tell_yes a c K W h hKl)
 have HBS := hide hby
 have hKn : K.length ≤ 6400 := by omega
 clear ho hk hr hK hby hfn hsec hKl
 generalize (psRun m (wlP (crP n m) fail) (l.map opP)) = P1 at *
 generalize hD2 : P1.D.crash keep torn (cutN cut) = D2 at *
 have HD2 := hide hD2
 clear hD2
 generalize hP : crP n m = P0 at *
 clear hP hm
 go_enter Tryz.func7, Tryz.ntmps7
 go_wp2_with fail
 refine (unhide HBG).mono ?_
 rintro e w1 ⟨p, t, x, rfl, F, hF⟩
 have HF1 := hide (unhide HFL w1 t p x F hF)
 clear hF HBG HFL
 go_wp2_with fail
 refine (unhide HF1).mono ?_
 rintro e w2 ⟨rfl, F2, hF2, _⟩
 have HD := hide (unhide HDA w2 t p x F2 hF2)
 clear hF2 HF1 HDA
 go_wp2_with fail
 refine (unhide HD).mono ?_
 rintro e w3 ⟨rfl, F3, hF3, _⟩
 have HC := hide (unhide HCR w3 t p x _ F3 hF3)
 clear hF3 HD HCR
 go_wp2_with fail
 refine (unhide HC).mono ?_
 rintro e w4 ⟨rfl, F4, hF4, _⟩
 rw [unhide HD2] at hF4
 have HO := hide (unhide HOP w4 p F4 hF4)
 clear hF4 HC HOP
 go_wp2_with fail
 refine (unhide HO).mono ?_
 rintro e w5 (⟨t5, x5, rfl, D5, F5, hF5, _, _, _⟩ | ⟨rfl, hno, _⟩)
 ·have HH := hide hF5.heap
  have HBY := hide hF5.bytes
  have HB5 := hide hF5.base
  clear hF5 HO HLF
  go_wp2_with fail
  refine (unhide HH).mono ?_
  rintro e w6 ⟨rfl, rfl⟩
  go_wp2_with fail
  refine (unhide HBY).mono ?_
  rintro e w6 ⟨⟨g6, c6, cur6, rfl, hr6⟩, hF6, hb6⟩
  have HT := hide (unhide HTE w6 (some ⟨g6, 0, none⟩) c6 (hr6.bs (unhide HBS) (by omega)))
  have HB6 := hide hF6.base
  clear hr6 hF6 hb6 HBY HH HTE HBS HB5
  go_wp2_with fail
  refine (unhide HT).mono ?_
  rintro e w7 ⟨v1, v2, rfl, htv, hb7⟩
  have HQ : Hid (TellV w w7 K v1 v2 ∧ Below w.heap.size w w7) := hide ⟨⟨htv.1.lowE (unhide HB6).size, htv.2.lowE (unhide HB6).size⟩, (unhide HB6).trans (hb7.mono (unhide HB6).size)⟩
  clear htv hb7 HT HB6
  go_wp2
  go_ret3
  exact ⟨v1, v2, rfl, (unhide HQ).1, (unhide HQ).2⟩
 ·have := unhide HLF
  exfalso
  omega
set_option maxRecDepth 100000 in
theorem play_not {E : Int} (hE : E ≠ 0) (w : World) (n : Int) (a : Option Addr) (k cap : Nat) (fail torn cut : Int) (ka : Option Addr) (kl kcap : Nat) (hb : Calls Tryz.prog 33 #[.int .i64 n, .slice a k cap] w fun e w' => e = .returned (.tuple #[.pointer none, .pointer none, errV E]) ∧ Below w.heap.size w w') :
  Calls Tryz.prog 7 #[.int .i64 n, .slice a k cap, .int .i64 fail, .slice ka kl kcap, .int .i64 torn, .int .i64 cut] w fun e w' => e = .returned (.tuple #[.slice none 0 0, .slice none 0 0, errV E]) ∧ Below w.heap.size w w' := by
 rw [errV_pos E hE] at hb ⊢
 have HB := hide hb
 clear hb
 go_enter Tryz.func7, Tryz.ntmps7
 go_wp2_with fail
 refine (unhide HB).mono ?_
 rintro e w1 ⟨rfl, hb1⟩
 have HB1 := hide hb1
 clear hb1
 go_wp2
 go_ret3
 exact ⟨rfl, unhide HB1⟩
set_option maxRecDepth 100000 in
theorem steps_not {E : Int} (hE : E ≠ 0) (w : World) (n : Int) (a : Option Addr) (k cap : Nat) (hb : Calls Tryz.prog 33 #[.int .i64 n, .slice a k cap] w fun e w' => e = .returned (.tuple #[.pointer none, .pointer none, errV E]) ∧ Below w.heap.size w w') :
  Calls Tryz.prog 6 #[.int .i64 n, .slice a k cap] w fun e w' => e = .returned (.tuple #[.int .i64 0, errV E]) ∧ Below w.heap.size w w' := by
 rw [errV_pos E hE] at hb ⊢
 have HB := hide hb
 clear hb
 go_enter Tryz.func6, Tryz.ntmps6
 go_wp2_with fail
 refine (unhide HB).mono ?_
 rintro e w1 ⟨rfl, hb1⟩
 have HB1 := hide hb1
 clear hb1
 go_wp2
 go_ret2
 exact ⟨rfl, unhide HB1⟩
end
end Go.Proofs.YtmmgadnicodakaaGreatDoor
namespace Go.Proofs.YtmmgadnicodakaaGreatDoor
open Go.RowKit
set_option linter.unusedVariables false
section
variable {m n : Nat} {l : List OpP}
structure Opens (D : DS) (m : Nat) (K : List Int) : Prop where
 rdy : ∃ s, Rdy D m s (prt K)
 len : K.length = 32 * m
 byt : Byt K
 fine : Fine K
theorem Pu.opened {p : Ps} (h : Pu m n p) (keep : List Bool) (torn : Int) (c : Nat) : Opens (p.D.crash keep torn c) m p.K := ⟨⟨_, h.opens keep torn c⟩, h.lk, h.bk, h.fk⟩
theorem run_up (h1 : 57 ≤ n) (h2 : n ≤ 300) (hm : cntI n = m) (hl : l.length ≤ 200) (hb : ∀ o ∈ l, Byt o.2.2.2.2.2) : Pu m n (psRun m (crP n m) l) ∧ (psRun m (crP n m) l).D.left < 0 := by
 obtain ⟨u1, u2, u3⟩ := cr_up h1 h2 hm
 obtain ⟨a, b, _⟩ := pu_run l u1 u2 (by rw [u3]; omega) hb
 exact ⟨a, b⟩
theorem play_ever (h1 : 57 ≤ n) (h2 : n ≤ 300) (hm : cntI n = m) (hl : l.length ≤ 200) (hb : ∀ o ∈ l, Byt o.2.2.2.2.2) (keep : List Bool) (torn : Int) (c : Nat) :
  Opens ((psRun m (wlP (crP n m) (-1)) l).D.crash keep torn c) m (psRun m (crP n m) l).K := by
 rw [crP_wl]
 exact (run_up h1 h2 hm hl hb).1.opened keep torn c
theorem play_many (h1 : 57 ≤ n) (h2 : n ≤ 300) (hm : cntI n = m) (hl : l.length ≤ 200) (hb : ∀ o ∈ l, Byt o.2.2.2.2.2) (keep : List Bool) (torn : Int) (c : Nat) :
  Opens ((psRun m (wlP (crP n m) (stSum m (crP n m) l)) l).D.crash keep torn c) m (psRun m (crP n m) l).K := by
 obtain ⟨u1, u2, u3⟩ := cr_up h1 h2 hm
 have hf := st_few (m := m) l (crP n m)
 rcases run_sim (n := n) l (q := (stSum m (crP n m) l : Int)) u1 u2 (by rw [u3]; omega) hb (by omega) (by omega) with ⟨_, h⟩ | ⟨h, _⟩
 ·rw [h]
  exact ((run_up h1 h2 hm hl hb).1.lefts (q := (stSum m (crP n m) l : Int) - (stSum m (crP n m) l : Int)) (by omega)).opened keep torn c
 ·omega
theorem play_once (h1 : 57 ≤ n) (h2 : n ≤ 300) (hm : cntI n = m) (hl : l.length ≤ 200) (hb : ∀ o ∈ l, Byt o.2.2.2.2.2) (h0 : 0 < stSum m (crP n m) l) (c : Nat) :
  Opens ((psRun m (wlP (crP n m) 0) l).D.crash [] (-1) c) m (zerosB (32 * m)) := by
 obtain ⟨u1, u2, u3⟩ := cr_up h1 h2 hm
 rcases run_sim (n := n) l (q := 0) u1 u2 (by rw [u3]; omega) hb (by omega) (by omega) with ⟨h, _⟩ | ⟨_, a, o, r, e, h6, d2, dK, hd, hk, hs, hle, hD⟩
 ·omega
 ·have ha : a.length ≤ 200 ∧ ∀ x ∈ a, Byt x.2.2.2.2.2 := by
   rw [e] at hl hb
   refine ⟨?_, fun x hx => hb x (List.mem_append.2 (.inl hx))⟩
   rw [List.length_append] at hl
   omega
  have hz : stSum m (crP n m) a = 0 := by omega
  obtain ⟨v1, v2⟩ := run_up h1 h2 hm ha.1 ha.2
  obtain ⟨v3, _, v5, v6⟩ := pu_run a u1 u2 (by rw [u3]; omega) ha.2
  have hK : (psRun m (crP n m) a).K = zerosB (32 * m) := kept_none a u1 u2 (by rw [u3]; omega) ha.2 hz
  have hpos : 0 < stN m (psRun m (crP n m) a) o := by
   rcases v1.sim (by omega) v2 o (by rw [e] at hb; exact hb o (by simp)) (q := 0) (Int.le_refl _) (by decide) with ⟨s1, s2⟩ | ⟨s1, _⟩
   ·exfalso
    have hn : stN m (psRun m (crP n m) a) o = 0 := by omega
    rw [hz, show (0 : Int) - ((0 : Nat) : Int) = 0 by omega, s2] at hD
    have h9 := hd.down
    rw [hD] at h9
    have hu := (v1.ever (by omega) v2 o (by rw [e] at hb; exact hb o (by simp))).1
    obtain ⟨x, y, hnt⟩ := hu.nt
    have : (psDo m (psRun m (crP n m) a) o).1.D.down = true := h9
    rw [hnt.down] at this
    cases this
   ·omega
  rw [hD, hz, show (0 : Int) - ((0 : Nat) : Int) = 0 by omega, ← hK]
  exact ⟨⟨_, gone_once v1 (by omega) h6 hpos c⟩, v1.lk, v1.bk, v1.fk⟩
end
end Go.Proofs.YtmmgadnicodakaaGreatDoor
