/-
  Joined by program: PoA; PoB; PoC; PoG. (Parts of the proofs over the packages of the program.)
-/
import Derived.Test.YtknjdhnldfebjaaGreatDoorJTf
import Derived.Test.YtknjdhnldfebjaaGreatDoorJOr
import Derived.Deep.RegionHeld3
namespace Go.Proofs.YtknjdhnldfebjaaGreatDoor
open Go.RowKit
set_option linter.unusedVariables false
def opV (r : OpR) : Value := .agg #[.int .i64 r.1, .int .i64 r.2.1, .int .i64 r.2.2.1, .int .i64 r.2.2.2.1, .string r.2.2.2.2.1, .slice r.2.2.2.2.2.1 r.2.2.2.2.2.2.2.length r.2.2.2.2.2.2.1]
def opP (r : OpR) : OpP := (r.1, r.2.1, r.2.2.1, r.2.2.2.1, r.2.2.2.2.1, r.2.2.2.2.2.2.2)
def opW (w : World) (o h a n : Int) (nm : ByteArray) (ad : Option Addr) (k cap : Nat) : World := w.alloc (.cells #[.int .i64 o, .int .i64 h, .int .i64 a, .int .i64 n, .string nm, .slice ad k cap] 36)
section
variable {Q : World → Prop} (t x : Nat) (h a n : Int) (nm : ByteArray) (ad : Option Addr) (k cap : Nat) (w : World) (ev v : Value)
set_option maxRecDepth 100000 in
set_option maxHeartbeats 1000000 in
theorem do_1 (HH : Calls Tryz.prog 7 #[.pointer (some ⟨t, 0, none⟩)] (opW w 1 h a n nm ad k cap) fun e w' => e = .returned (.pointer (some ⟨x, 0, none⟩)) ∧ opW w 1 h a n nm ad k cap = w')
  (HA : Calls Tryz.prog 48 #[.pointer (some ⟨x, 0, none⟩), .int .i64 n, .int .i64 a] (opW w 1 h a n nm ad k cap) fun e w' => e = .returned (.tuple #[v, ev]) ∧ Q w') :
  Calls Tryz.prog 17 #[.pointer (some ⟨t, 0, none⟩), .agg #[.int .i64 1, .int .i64 h, .int .i64 a, .int .i64 n, .string nm, .slice ad k cap]] w fun e w' => e = .returned ev ∧ Q w' := by
 unfold opW at HH HA
 have H1 := hide HH
 have H2 := hide HA
 clear HH HA
 go_enter Tryz.func17, Tryz.ntmps17
 go_wp2_with fail
 refine (unhide H1).mono ?_
 rintro e w1 ⟨rfl, rfl⟩
 go_wp2_with fail
 refine (unhide H2).mono ?_
 rintro e w2 ⟨rfl, hq⟩
 have HQ := hide hq
 clear hq H1 H2
 go_wp2
 go_ret
 exact ⟨rfl, unhide HQ⟩
set_option maxRecDepth 100000 in
set_option maxHeartbeats 1000000 in
theorem do_2 (HH : Calls Tryz.prog 7 #[.pointer (some ⟨t, 0, none⟩)] (opW w 2 h a n nm ad k cap) fun e w' => e = .returned (.pointer (some ⟨x, 0, none⟩)) ∧ opW w 2 h a n nm ad k cap = w')
  (HA : Calls Tryz.prog 49 #[.pointer (some ⟨x, 0, none⟩), .int .i64 h] (opW w 2 h a n nm ad k cap) fun e w' => e = .returned ev ∧ Q w') :
  Calls Tryz.prog 17 #[.pointer (some ⟨t, 0, none⟩), .agg #[.int .i64 2, .int .i64 h, .int .i64 a, .int .i64 n, .string nm, .slice ad k cap]] w fun e w' => e = .returned ev ∧ Q w' := by
 unfold opW at HH HA
 have H1 := hide HH
 have H2 := hide HA
 clear HH HA
 go_enter Tryz.func17, Tryz.ntmps17
 go_wp2_with fail
 refine (unhide H1).mono ?_
 rintro e w1 ⟨rfl, rfl⟩
 go_wp2_with fail
 refine (unhide H2).mono ?_
 rintro e w2 ⟨rfl, hq⟩
 have HQ := hide hq
 clear hq H1 H2
 go_wp2
 go_ret
 exact ⟨rfl, unhide HQ⟩
set_option maxRecDepth 100000 in
set_option maxHeartbeats 1000000 in
theorem do_3 (HH : Calls Tryz.prog 7 #[.pointer (some ⟨t, 0, none⟩)] (opW w 3 h a n nm ad k cap) fun e w' => e = .returned (.pointer (some ⟨x, 0, none⟩)) ∧ opW w 3 h a n nm ad k cap = w')
  (HA : Calls Tryz.prog 50 #[.pointer (some ⟨x, 0, none⟩), .int .i64 h, .int .i64 a, .slice ad k cap] (opW w 3 h a n nm ad k cap) fun e w' => e = .returned ev ∧ Q w') :
  Calls Tryz.prog 17 #[.pointer (some ⟨t, 0, none⟩), .agg #[.int .i64 3, .int .i64 h, .int .i64 a, .int .i64 n, .string nm, .slice ad k cap]] w fun e w' => e = .returned ev ∧ Q w' := by
 unfold opW at HH HA
 have H1 := hide HH
 have H2 := hide HA
 clear HH HA
 go_enter Tryz.func17, Tryz.ntmps17
 go_wp2_with fail
 refine (unhide H1).mono ?_
 rintro e w1 ⟨rfl, rfl⟩
 go_wp2_with fail
 refine (unhide H2).mono ?_
 rintro e w2 ⟨rfl, hq⟩
 have HQ := hide hq
 clear hq H1 H2
 go_wp2
 go_ret
 exact ⟨rfl, unhide HQ⟩
set_option maxRecDepth 100000 in
set_option maxHeartbeats 1000000 in
theorem do_4 (HH : Calls Tryz.prog 7 #[.pointer (some ⟨t, 0, none⟩)] (opW w 4 h a n nm ad k cap) fun e w' => e = .returned (.pointer (some ⟨x, 0, none⟩)) ∧ opW w 4 h a n nm ad k cap = w')
  (HA : Calls Tryz.prog 51 #[.pointer (some ⟨x, 0, none⟩), .string nm, .int .i64 h] (opW w 4 h a n nm ad k cap) fun e w' => e = .returned (.tuple #[v, ev]) ∧ Q w') :
  Calls Tryz.prog 17 #[.pointer (some ⟨t, 0, none⟩), .agg #[.int .i64 4, .int .i64 h, .int .i64 a, .int .i64 n, .string nm, .slice ad k cap]] w fun e w' => e = .returned ev ∧ Q w' := by
 unfold opW at HH HA
 have H1 := hide HH
 have H2 := hide HA
 clear HH HA
 go_enter Tryz.func17, Tryz.ntmps17
 go_wp2_with fail
 refine (unhide H1).mono ?_
 rintro e w1 ⟨rfl, rfl⟩
 go_wp2_with fail
 refine (unhide H2).mono ?_
 rintro e w2 ⟨rfl, hq⟩
 have HQ := hide hq
 clear hq H1 H2
 go_wp2
 go_ret
 exact ⟨rfl, unhide HQ⟩
set_option maxRecDepth 100000 in
set_option maxHeartbeats 1000000 in
theorem do_5 (HH : Calls Tryz.prog 7 #[.pointer (some ⟨t, 0, none⟩)] (opW w 5 h a n nm ad k cap) fun e w' => e = .returned (.pointer (some ⟨x, 0, none⟩)) ∧ opW w 5 h a n nm ad k cap = w')
  (HA : Calls Tryz.prog 52 #[.pointer (some ⟨x, 0, none⟩), .string nm] (opW w 5 h a n nm ad k cap) fun e w' => e = .returned ev ∧ Q w') :
  Calls Tryz.prog 17 #[.pointer (some ⟨t, 0, none⟩), .agg #[.int .i64 5, .int .i64 h, .int .i64 a, .int .i64 n, .string nm, .slice ad k cap]] w fun e w' => e = .returned ev ∧ Q w' := by
 unfold opW at HH HA
 have H1 := hide HH
 have H2 := hide HA
 clear HH HA
 go_enter Tryz.func17, Tryz.ntmps17
 go_wp2_with fail
 refine (unhide H1).mono ?_
 rintro e w1 ⟨rfl, rfl⟩
 go_wp2_with fail
 refine (unhide H2).mono ?_
 rintro e w2 ⟨rfl, hq⟩
 have HQ := hide hq
 clear hq H1 H2
 go_wp2
 go_ret
 exact ⟨rfl, unhide HQ⟩
set_option maxRecDepth 100000 in
set_option maxHeartbeats 1000000 in
theorem do_6 (HH : Calls Tryz.prog 7 #[.pointer (some ⟨t, 0, none⟩)] (opW w 6 h a n nm ad k cap) fun e w' => e = .returned (.pointer (some ⟨x, 0, none⟩)) ∧ opW w 6 h a n nm ad k cap = w')
  (HA : Calls Tryz.prog 53 #[.pointer (some ⟨t, 0, none⟩)] (opW w 6 h a n nm ad k cap) fun e w' => e = .returned ev ∧ Q w') :
  Calls Tryz.prog 17 #[.pointer (some ⟨t, 0, none⟩), .agg #[.int .i64 6, .int .i64 h, .int .i64 a, .int .i64 n, .string nm, .slice ad k cap]] w fun e w' => e = .returned ev ∧ Q w' := by
 unfold opW at HH HA
 have H1 := hide HH
 have H2 := hide HA
 clear HH HA
 go_enter Tryz.func17, Tryz.ntmps17
 go_wp2_with fail
 refine (unhide H1).mono ?_
 rintro e w1 ⟨rfl, rfl⟩
 go_wp2_with fail
 refine (unhide H2).mono ?_
 rintro e w2 ⟨rfl, hq⟩
 have HQ := hide hq
 clear hq H1 H2
 go_wp2
 go_ret
 exact ⟨rfl, unhide HQ⟩
set_option maxRecDepth 100000 in
set_option maxHeartbeats 1000000 in
theorem do_7 (HH : Calls Tryz.prog 7 #[.pointer (some ⟨t, 0, none⟩)] (opW w 7 h a n nm ad k cap) fun e w' => e = .returned (.pointer (some ⟨x, 0, none⟩)) ∧ opW w 7 h a n nm ad k cap = w')
  (HA : Calls Tryz.prog 19 #[.pointer (some ⟨t, 0, none⟩)] (opW w 7 h a n nm ad k cap) fun e w' => e = .returned (.tuple #[]) ∧ Q w') :
  Calls Tryz.prog 17 #[.pointer (some ⟨t, 0, none⟩), .agg #[.int .i64 7, .int .i64 h, .int .i64 a, .int .i64 n, .string nm, .slice ad k cap]] w fun e w' => e = .returned .nilIface ∧ Q w' := by
 unfold opW at HH HA
 have H1 := hide HH
 have H2 := hide HA
 clear HH HA
 go_enter Tryz.func17, Tryz.ntmps17
 go_wp2_with fail
 refine (unhide H1).mono ?_
 rintro e w1 ⟨rfl, rfl⟩
 go_wp2_with fail
 refine (unhide H2).mono ?_
 rintro e w2 ⟨rfl, hq⟩
 have HQ := hide hq
 clear hq H1 H2
 go_wp2
 go_ret
 exact ⟨rfl, unhide HQ⟩
set_option maxRecDepth 100000 in
set_option maxHeartbeats 1000000 in
theorem do_8 (HH : Calls Tryz.prog 7 #[.pointer (some ⟨t, 0, none⟩)] (opW w 8 h a n nm ad k cap) fun e w' => e = .returned (.pointer (some ⟨x, 0, none⟩)) ∧ opW w 8 h a n nm ad k cap = w')
  (HA : Calls Tryz.prog 54 #[.pointer (some ⟨x, 0, none⟩)] (opW w 8 h a n nm ad k cap) fun e w' => e = .returned (.tuple #[v, ev]) ∧ Q w') :
  Calls Tryz.prog 17 #[.pointer (some ⟨t, 0, none⟩), .agg #[.int .i64 8, .int .i64 h, .int .i64 a, .int .i64 n, .string nm, .slice ad k cap]] w fun e w' => e = .returned ev ∧ Q w' := by
 unfold opW at HH HA
 have H1 := hide HH
 have H2 := hide HA
 clear HH HA
 go_enter Tryz.func17, Tryz.ntmps17
 go_wp2_with fail
 refine (unhide H1).mono ?_
 rintro e w1 ⟨rfl, rfl⟩
 go_wp2_with fail
 refine (unhide H2).mono ?_
 rintro e w2 ⟨rfl, hq⟩
 have HQ := hide hq
 clear hq H1 H2
 go_wp2
 go_ret
 exact ⟨rfl, unhide HQ⟩
set_option maxRecDepth 100000 in
set_option maxHeartbeats 1000000 in
theorem do_9 (HH : Calls Tryz.prog 7 #[.pointer (some ⟨t, 0, none⟩)] (opW w 9 h a n nm ad k cap) fun e w' => e = .returned (.pointer (some ⟨x, 0, none⟩)) ∧ opW w 9 h a n nm ad k cap = w')
  (HA : Calls Tryz.prog 55 #[.pointer (some ⟨x, 0, none⟩)] (opW w 9 h a n nm ad k cap) fun e w' => e = .returned (.tuple #[v, ev]) ∧ Q w') :
  Calls Tryz.prog 17 #[.pointer (some ⟨t, 0, none⟩), .agg #[.int .i64 9, .int .i64 h, .int .i64 a, .int .i64 n, .string nm, .slice ad k cap]] w fun e w' => e = .returned ev ∧ Q w' := by
 unfold opW at HH HA
 have H1 := hide HH
 have H2 := hide HA
 clear HH HA
 go_enter Tryz.func17, Tryz.ntmps17
 go_wp2_with fail
 refine (unhide H1).mono ?_
 rintro e w1 ⟨rfl, rfl⟩
 go_wp2_with fail
 refine (unhide H2).mono ?_
 rintro e w2 ⟨rfl, hq⟩
 have HQ := hide hq
 clear hq H1 H2
 go_wp2
 go_ret
 exact ⟨rfl, unhide HQ⟩
set_option maxRecDepth 100000 in
set_option maxHeartbeats 1000000 in
theorem do_no (o : Int) (h1 : o ≠ 1) (h2 : o ≠ 2) (h3 : o ≠ 3) (h4 : o ≠ 4) (h5 : o ≠ 5) (h6 : o ≠ 6) (h7 : o ≠ 7) (h8 : o ≠ 8) (h9 : o ≠ 9) (HH : Calls Tryz.prog 7 #[.pointer (some ⟨t, 0, none⟩)] (opW w o h a n nm ad k cap) fun e w' => e = .returned (.pointer (some ⟨x, 0, none⟩)) ∧ opW w o h a n nm ad k cap = w') :
  Calls Tryz.prog 17 #[.pointer (some ⟨t, 0, none⟩), .agg #[.int .i64 o, .int .i64 h, .int .i64 a, .int .i64 n, .string nm, .slice ad k cap]] w fun e w' => e = .returned (errV 1) ∧ w' = opW w o h a n nm ad k cap := by
 unfold opW at HH ⊢
 have H1 := hide HH
 have t1 : (o == 1) = false := by simpa using h1
 have t2 : (o == 2) = false := by simpa using h2
 have t3 : (o == 3) = false := by simpa using h3
 have t4 : (o == 4) = false := by simpa using h4
 have t5 : (o == 5) = false := by simpa using h5
 have t6 : (o == 6) = false := by simpa using h6
 have t7 : (o == 7) = false := by simpa using h7
 have t8 : (o == 8) = false := by simpa using h8
 have t9 : (o == 9) = false := by simpa using h9
 clear HH h1 h2 h3 h4 h5 h6 h7 h8 h9
 rw [errV_pos 1 (by decide)]
 go_enter Tryz.func17, Tryz.ntmps17
 go_wp2_with fail
 refine (unhide H1).mono ?_
 rintro e w1 ⟨rfl, rfl⟩
 go_wp2
 go_ret
 exact ⟨rfl, rfl⟩
end
end Go.Proofs.YtknjdhnldfebjaaGreatDoor
namespace Go.Proofs.YtknjdhnldfebjaaGreatDoor
open Go.RowKit
set_option linter.unusedVariables false
section
variable {w0 w w' : World} {t p q : Nat} {S : Nat → Prop} {D : DS} {s : Int} {m n x g c : Nat} {L M : List Int} {gk ck : Nat} {K : List Int} {cut : Bool}
def StoH (w0 w : World) (t p q : Nat) (S : Nat → Prop) (D : DS) (s : Int) (m x g : Nat) (M : List Int) (gk ck : Nat) (K : List Int) (cut : Bool) (w' : World) : Prop :=
 ∃ g' c', Sto w0 w' t p q S D s m x g' c' M gk ck K cut ∧ Turn (foot x g) (foot x g') w w'
theorem Sto.call (h : Sto w0 w t p q S D s m x g c L gk ck K cut) {f : Nat} {ar : Array Value} {V : Value} (hM : M.length = L.length)
  (hc : Calls Tryz.prog f ar w fun e w' => e = .returned V ∧ ∃ g' c', Hp w' w0.heap.size x g' c' M ∧ Turn (foot x g) (foot x g') w w') :
  Calls Tryz.prog f ar w fun e w' => e = .returned V ∧ StoH w0 w t p q S D s m x g M gk ck K cut w' :=
 hc.mono fun e w' ⟨he, g', c', hh, ht⟩ => ⟨he, g', c', h.heap hh ht hM, ht⟩
theorem StoH.over {w1 : World} (hb : Below w.heap.size w w1) (h : StoH w0 w1 t p q S D s m x g M gk ck K cut w') : StoH w0 w t p q S D s m x g M gk ck K cut w' := by
 obtain ⟨g', c', h1, h2⟩ := h
 exact ⟨g', c', h1, (Turn.of_below hb).trans h2⟩
theorem Sto.here (h : Sto w0 w t p q S D s m x g c L gk ck K cut) : StoH w0 w t p q S D s m x g L gk ck K cut w := ⟨g, c, h, Turn.of_below (Below.refl _ _)⟩
set_option maxRecDepth 100000 in
theorem Sto.abort (h : Sto w0 w t p q S D s m x g c L gk ck K cut) :
  Calls Tryz.prog 19 #[.pointer (some ⟨t, 0, none⟩)] w fun e w' => e = .returned (.tuple #[]) ∧ StoH w0 w t p q S D s m x g K gk ck K cut w' := by
 have c2 := h.c2
 have c3 := h.c3
 have hd : Below w.heap.size w w.drew := below_drew (Below.refl _ _)
 have h' := h.below hd
 have HR : Hid (Calls Tryz.prog 58 #[.pointer (some ⟨x, 0, none⟩), .slice (some ⟨gk, 0, none⟩) K.length ck] w.drew fun e w' => e = .returned .nilIface ∧ Hid (StoH w0 w t p q S D s m x g K gk ck K cut w') ∧ w'.cell? ⟨t, 2, none⟩ = some (.pointer (some ⟨x, 0, none⟩)) ∧ w'.cell? ⟨t, 3, none⟩ = some (.slice (some ⟨gk, 0, none⟩) K.length ck)) := hide
  ((h'.call (h.klen.trans h.len.symm) (hReplace_yes h'.hp h'.size h'.kbs h'.kf (h.klen.trans h.len.symm))).mono fun e w' hq => ⟨hq.1, hide (StoH.over hd hq.2), (by obtain ⟨_, _, hs, _⟩ := hq.2; exact hs.c2), (by obtain ⟨_, _, hs, _⟩ := hq.2; exact hs.c3)⟩)
 clear h h' hd
 generalize K.length = N at *
 go_enter Tryz.func19, Tryz.ntmps19
 go_wp2_with fail
 go_region_held3 (fun w' => w'.cell? ⟨t, 2, none⟩ = some (.pointer (some ⟨x, 0, none⟩)) ∧ w'.cell? ⟨t, 3, none⟩ = some (.slice (some ⟨gk, 0, none⟩) N ck)) (first | go_keep | (go_split_ands; refine ⟨?_, ?_⟩ <;> go_keep))
  ((go_at_call 58; refine (unhide HR).mono ?_; rintro e w1 ⟨rfl, HX, c2', c3'⟩))
 go_wp2
 go_end0
 exact ⟨rfl, unhide HX⟩
def doK (L K : List Int) (o : OpP) : List Int := if o.1 = 7 then K else doB L o
def doE (L : List Int) (o : OpP) : Int := if o.1 = 7 then 0 else opE L o
theorem ps_do {m : Nat} {P : Ps} {o : OpP} (h6 : o.1 ≠ 6) : psDo m P o = ({ P with L := doK P.L P.K o }, doE P.L o) := by
 unfold psDo doK doE
 rw [if_neg h6]
 by_cases h7 : o.1 = 7
 ·rw [if_pos h7, if_pos h7, if_pos h7]
 ·rw [if_neg h7, if_neg h7, if_neg h7]
theorem opW_below (w : World) (o h a n : Int) (nm : ByteArray) (ad : Option Addr) (k cap : Nat) : Below w.heap.size w (opW w o h a n nm ad k cap) := (Below.refl _ _).alloc (Nat.le_refl _) _
theorem Sto.do (h : Sto w0 w t p q S D s m x g c L gk ck K cut) (r : OpR) (hin : OpIn w r) (h6 : r.1 ≠ 6) :
  Calls Tryz.prog 17 #[.pointer (some ⟨t, 0, none⟩), opV r] w fun e w' => e = .returned (errV (doE L (opP r))) ∧ StoH w0 w t p q S D s m x g (doK L K (opP r)) gk ck K cut w' := by
 obtain ⟨o, hd, a, k, nm, ad, cap, body⟩ := r
 obtain ⟨i1, i2, i3, i4, i5, i6⟩ := hin
 dsimp only at i1 i2 i3 i4 i5 i6 h6
 unfold opV
 dsimp only
 have hb := opW_below w o hd a k nm ad body.length cap
 have h' := h.below hb
 have HH := stHeap_any h'
 have hB := h'.size
 by_cases e1 : o = 1
 ·subst e1
  refine (do_1 t x hd a k nm ad body.length cap w _ _ HH (h'.call (al_len h'.hp.fine k a) (hAlloc_any x g c w0.heap.size L k a _ h'.hp hB))).mono fun e w' hq => ⟨hq.1, StoH.over hb hq.2⟩
 by_cases e2 : o = 2
 ·subst e2
  refine (do_2 t x hd a k nm ad body.length cap w _ HH (h'.call (frB_fine h'.hp.fine hd).2 (hFree_any x g c w0.heap.size L hd _ h'.hp hB))).mono fun e w' hq => ⟨hq.1, StoH.over hb hq.2⟩
 by_cases e3 : o = 3
 ·subst e3
  refine (do_3 t x hd a k nm ad body.length cap w _ HH (h'.call (wrB_fine h'.hp.fine hd a body).2 ((hWrite_any x g c w0.heap.size L hd a ad cap body _ h'.hp (i6.below hb) i3.2).mono fun e w' ⟨he, h1, h2⟩ => ⟨he, g, c, h1, h2⟩))).mono fun e w' hq => ⟨hq.1, StoH.over hb hq.2⟩
 by_cases e4 : o = 4
 ·subst e4
  refine (do_4 t x hd a k nm ad body.length cap w _ _ HH (h'.call (seF_fine h'.hp.fine nm hd).2 (roSet_any h'.hp hB nm hd i5))).mono fun e w' hq => ⟨hq.1, StoH.over hb hq.2⟩
 by_cases e5 : o = 5
 ·subst e5
  refine (do_5 t x hd a k nm ad body.length cap w _ HH (h'.call (unF_fine h'.hp.fine nm).2 (roUnset_any h'.hp hB nm i5))).mono fun e w' hq => ⟨hq.1, StoH.over hb hq.2⟩
 by_cases e7 : o = 7
 ·subst e7
  refine (do_7 t x hd a k nm ad body.length cap w HH h'.abort).mono fun e w' hq => ⟨hq.1, StoH.over hb hq.2⟩
 by_cases e8 : o = 8
 ·subst e8
  refine (do_8 t x hd a k nm ad body.length cap w _ _ HH (h'.call (mvT_fine h'.hp.fine).2 (mvStepH_any h'.hp hB))).mono fun e w' hq => ⟨hq.1, StoH.over hb hq.2⟩
 by_cases e9 : o = 9
 ·subst e9
  refine (do_9 t x hd a k nm ad body.length cap w _ _ HH (h'.call (swT_fine h'.hp.fine).2 (rhSweep_any h'.hp hB))).mono fun e w' hq => ⟨hq.1, StoH.over hb hq.2⟩
 ·have eE : doE L (opP (o, hd, a, k, nm, ad, cap, body)) = 1 := by
   unfold doE opE opP
   dsimp only
   rw [if_neg e7, if_neg e1, if_neg e2, if_neg e3, if_neg e4, if_neg e5, if_neg e8, if_neg e9]
  have eK : doK L K (opP (o, hd, a, k, nm, ad, cap, body)) = L := by
   unfold doK doB opP
   dsimp only
   rw [if_neg e7, if_neg e1, if_neg e2, if_neg e3, if_neg e4, if_neg e5, if_neg e8, if_neg e9]
  rw [eE, eK]
  refine (do_no t x hd a k nm ad body.length cap w o e1 e2 e3 e4 e5 h6 e7 e8 e9 HH).mono ?_
  rintro e w' ⟨rfl, rfl⟩
  exact ⟨rfl, StoH.over hb h'.here⟩
end
section
variable {w0 w w' : World} {t p x m n : Nat} {P : Ps} {F : Nat → Prop}
def TfT (w0 w : World) (t p x m : Nat) (P : Ps) (F : Nat → Prop) (w' : World) : Prop := ∃ F', Tf w0 w' t p x m P F' ∧ Turn F F' w w'
theorem Tf.do (h : Tf w0 w t p x m P F) (r : OpR) (hin : OpIn w r) (hz : Pz m n P) (h0 : 0 ≤ P.s) (hs : P.s ≤ 999) :
  Calls Tryz.prog 17 #[.pointer (some ⟨t, 0, none⟩), opV r] w fun e w' => e = .returned (errV (psDo m P (opP r)).2) ∧ TfT w0 w t p x m (psDo m P (opP r)).1 F w' := by
 by_cases h6 : r.1 = 6
 ·obtain ⟨o, hd, a, k, nm, ad, cap, body⟩ := r
  dsimp only at h6
  subst h6
  have e : psDo m P (opP (6, hd, a, k, nm, ad, cap, body)) = psCo m P := rfl
  rw [e]
  unfold opV
  dsimp only
  have hb := opW_below w 6 hd a k nm ad body.length cap
  have h' := h.below hb
  refine (do_6 (Q := TfT w0 w t p x m (psCo m P).1 F) t x hd a k nm ad body.length cap w _ h'.heap ((h'.commit h0 (by omega) (hz.stays hs)).mono fun e w' ⟨he, F', h1, h2⟩ => ⟨he, F', h1, (Turn.of_below hb).trans h2⟩))
 ·rw [ps_do (P := P) (o := opP r) h6]
  obtain ⟨q, S, g, c, gk, ck, hsto, rfl⟩ := h
  refine (hsto.do r hin h6).mono ?_
  rintro e w' ⟨rfl, g', c', h1, h2⟩
  exact ⟨rfl, _, ⟨q, S, g', c', gk, ck, h1, rfl⟩, turn_footA h2 S q t gk⟩
def RunAt (w0 w : World) (t p x m : Nat) (P : Ps) (F : Nat → Prop) (l : List OpR) (k : Nat) (w' : World) : Prop := TfT w0 w t p x m (psRun m P ((l.take k).map opP)) F w'
theorem ops_snoc {l : List OpR} {k : Nat} {r : OpR} (h : l[k]? = some r) : (l.take (k + 1)).map opP = (l.take k).map opP ++ [opP r] := by
 rw [List.take_add_one, h]
 simp
theorem run_snoc {l : List OpR} {k : Nat} {r : OpR} (h : l[k]? = some r) : psRun m P ((l.take (k + 1)).map opP) = (psDo m (psRun m P ((l.take k).map opP)) (opP r)).1 := by
 rw [ops_snoc h, psRun_snoc]
theorem TfT.do {wr : World} (h : TfT w0 w t p x m P F wr) (r : OpR) (hin : OpIn w0 r) (hz : Pz m n P) (h0 : 0 ≤ P.s) (hs : P.s ≤ 999) :
  Calls Tryz.prog 17 #[.pointer (some ⟨t, 0, none⟩), opV r] wr fun e w' => e = .returned (errV (psDo m P (opP r)).2) ∧ TfT w0 w t p x m (psDo m P (opP r)).1 F w' := by
 obtain ⟨F', h1, h2⟩ := h
 obtain ⟨a1, a2, a3, a4, a5, a6⟩ := hin
 refine (h1.do r ⟨a1, a2, a3, a4, a5, a6.below h1.base⟩ hz h0 hs).mono ?_
 rintro e w' ⟨he, F2, h3, h4⟩
 exact ⟨he, F2, h3, h2.trans h4⟩
theorem TfT.base {wr : World} (h : TfT w0 w t p x m P F wr) : Below w0.heap.size w0 wr := by
 obtain ⟨F', h1, h2⟩ := h
 exact h1.base
theorem Tf.same (h : Tf w0 w t p x m P F) : TfT w0 w t p x m P F w := ⟨F, h, Turn.of_below (Below.refl _ _)⟩
theorem Tf.abort (h : Tf w0 w t p x m P F) :
  Calls Tryz.prog 19 #[.pointer (some ⟨t, 0, none⟩)] w fun e w' => e = .returned (.tuple #[]) ∧ TfT w0 w t p x m { P with L := P.K } F w' := by
 obtain ⟨q, S, g, c, gk, ck, hs, rfl⟩ := h
 refine hs.abort.mono ?_
 rintro e w' ⟨rfl, g', c', h1, h2⟩
 exact ⟨rfl, _, ⟨q, S, g', c', gk, ck, h1, rfl⟩, turn_footA h2 S q t gk⟩
end
end Go.Proofs.YtknjdhnldfebjaaGreatDoor
namespace Go.Proofs.YtknjdhnldfebjaaGreatDoor
open Go.RowKit
set_option linter.unusedVariables false
section
variable {w0 w w' : World} {t p x m n : Nat} {P : Ps} {F : Nat → Prop} {S : Nat → Prop} {D : DS}
theorem cr_up {n : Nat} (h1 : 57 ≤ n) (h2 : n ≤ 300) (hm : cntI n = m) : Pu m n (crP n m) ∧ (crP n m).D.left < 0 ∧ (crP n m).s = 2 := ⟨(crP_up h1 h2 hm).1, (crP_up h1 h2 hm).2, rfl⟩
end
end Go.Proofs.YtknjdhnldfebjaaGreatDoor
namespace Go.Proofs.YtknjdhnldfebjaaGreatDoor
open Go.RowKit
set_option linter.unusedVariables false
section
variable {w0 w w' : World} {t p x m n : Nat} {P : Ps} {F : Nat → Prop}
theorem run_some {W : World} {a : Option Addr} {cap : Nat} {l : List OpR} (ho : Ops W a cap l) {k : Nat} : ∀ o ∈ (l.take k).map opP, Byt o.2.2.2.2.2 := fun o hm => by
 obtain ⟨r, hr, rfl⟩ := List.mem_map.1 hm
 exact (ho.2 r (List.mem_of_mem_take hr)).2.2.2.2.2.1
theorem run_len (l : List OpR) (k : Nat) : ((l.take k).map opP).length ≤ k := by
 rw [List.length_map, List.length_take]; omega
theorem run_pz {W : World} {a : Option Addr} {cap : Nat} {l : List OpR} (ho : Ops W a cap l) (hz : Pz m n P) {k : Nat} (hs : P.s + k ≤ 1000) :
  Pz m n (psRun m P ((l.take k).map opP)) ∧ P.s ≤ (psRun m P ((l.take k).map opP)).s ∧ (psRun m P ((l.take k).map opP)).s ≤ P.s + k := by
 have hl := run_len l k
 obtain ⟨h1, h2, h3⟩ := pz_run (n := n) ((l.take k).map opP) hz (by omega) (run_some ho)
 exact ⟨h1, h2, by omega⟩
theorem run_pu {W : World} {a : Option Addr} {cap : Nat} {l : List OpR} (ho : Ops W a cap l) (hu : Pu m n P) (hl : P.D.left < 0) {k : Nat} (hs : P.s + k ≤ 1000) :
  Pu m n (psRun m P ((l.take k).map opP)) ∧ (psRun m P ((l.take k).map opP)).D.left < 0 ∧ P.s ≤ (psRun m P ((l.take k).map opP)).s ∧ (psRun m P ((l.take k).map opP)).s ≤ P.s + k := by
 have hl2 := run_len l k
 obtain ⟨h1, h2, h3, h4⟩ := pu_run (n := n) ((l.take k).map opP) hu hl (by omega) (run_some ho)
 exact ⟨h1, h2, h3, by omega⟩
theorem RunAt.next {wr : World} {a : Option Addr} {cap : Nat} {l : List OpR} {k : Nat} {r : OpR} (h : RunAt w0 w t p x m P F l k wr) (ho : Ops w0 a cap l) (hz : Pz m n P) (h0 : 0 ≤ P.s) (hs : P.s + k ≤ 999) (hr : l[k]? = some r) :
  Calls Tryz.prog 17 #[.pointer (some ⟨t, 0, none⟩), opV r] wr fun e w' => e = .returned (errV (psDo m (psRun m P ((l.take k).map opP)) (opP r)).2) ∧ RunAt w0 w t p x m P F l (k + 1) w' := by
 obtain ⟨m1, m2, m3⟩ := run_pz ho hz (k := k) (by omega)
 unfold RunAt
 rw [run_snoc hr]
 exact TfT.do h r (ho.2 r (List.mem_of_getElem? hr)) m1 (by omega) (by omega)
theorem RunAt.base {wr : World} {l : List OpR} {k : Nat} (h : RunAt w0 w t p x m P F l k wr) : Below w0.heap.size w0 wr := TfT.base h
end
end Go.Proofs.YtknjdhnldfebjaaGreatDoor
