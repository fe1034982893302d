/-
  The walk of RootTells. (Part of the proof of RootTells.)
-/
import Derived.Test.YtojdfbmfbmanaaaGreatDoorJRt
import Derived.Test.YtojdfbmfbmanaaaGreatDoorJRc
import Derived.Test.YtojdfbmfbmanaaaGreatDoorErrSame
namespace Go.Proofs.YtojdfbmfbmanaaaGreatDoor
open Go.RowKit
set_option linter.unusedVariables false

/-- The reference's Name. -/
theorem rNm_any (s : ByteArray) (w : World) (hs : s.size ≤ 140737488351232) : Calls Tryz.prog 7 #[.string s] w fun e w' => e = .returned (.bool (nameB s)) ∧ w = w' := by
  cases hn : nameB s with
  | true => exact rName_yes s w (nameB_iff.1 hn)
  | false => exact rName_fail s w hs (fun h => by rw [nameB_iff.2 h] at hn; cases hn)
theorem obj_tag {L : List Int} {h : Int} (hc : chkE L h = 0) : (objOf L h).1 = (getE L h).2.2.2 := by
  unfold objOf getE
  rw [if_neg (chkE_zero.1 hc).2.2, if_pos hc]
  rfl
set_option maxRecDepth 100000 in
set_option maxHeartbeats 4000000 in
theorem rtTells_name (a : Option Addr) (cap : Nat) (l : List Int) (s : ByteArray) (t : Int) (w : World) (hg : ErrT w) (hb : Bs w a cap l) (hs : s.size ≤ 140737488351232) (hn : nameB s = false) :
    Calls Tryz.prog 3 #[.slice a l.length cap, .string s, .int .i64 t] w fun e w' => e = .returned (.bool true) ∧ Below w.heap.size w w' := by
  have hf := ldL_fine l
  have HL := hide (loaded_any a cap l w hb)
  have HN := hide (fun W => rNm_any s W hs)
  rw [hn] at HN
  have hml := hf.len
  have hGE : gtE (ldL l) s t = 2 := by unfold gtE; rw [hn]; rfl
  have hGH : gtH (ldL l) s t = 0 := by unfold gtH; rw [hGE]; rfl
  have HG : Hid (∀ (W : World) (p g c : Nat), Hp W w.heap.size p g c (ldL l) → Calls Tryz.prog 10 #[.pointer (some ⟨p, 0, none⟩), .string s, .int .i64 t] W fun e w' => e = .returned (.tuple #[.int .i64 0, errV 2]) ∧ Below W.heap.size W w') := hide (fun W p g c h => by
    have := roGet_any h s t hs
    rw [hGE, hGH] at this
    exact this)
  have HERR := hide (fun (W : World) (hW : Below w.heap.size w W) => error_same 2 W (hg.below hW))
  have HAL := hide (fun (W : World) (p g c : Nat) (h : Hp W w.heap.size p g c (ldL l)) => roAll_any p g c w.heap.size (ldL l) W h)
  have HRR := hide (fun (W : World) (am : Option Addr) (cm : Nat) (h : Bs W am cm (ldL l)) => rRoots_any am cm (ldL l) W h hml.1 hml.2)
  have HRS := hide (fun (W : World) (a1 a2 : Option Addr) (c1 c2 : Nat) (h1 : Sls roC 2 W a1 c1 (rootsK (ldL l) 8)) (h2 : Sls roC 2 W a2 c2 (rootsK (ldL l) 8)) => rosame_any a1 a2 c1 c2 (rootsK (ldL l) 8) W h1 h2)
  have hrl := rootsK_len (ldL l) 8
  have hbl := hb.2.2.1
  clear hb hg hGE hGH hf hn
  generalize errV 2 = EV at *
  generalize rootsK (ldL l) 8 = RS at *
  generalize ldL l = M at *
  generalize l.length = nl at *
  generalize hml2 : M.length = N at *
  clear hml2
  go_enter Tryz.func3, Tryz.ntmps3
  go_wp2_with fail
  refine (unhide HL).mono ?_
  rintro e w1 ⟨p, g, c, am, cm, rfl, hh1, hbm1, hb1⟩
  have HH1 := hide hh1
  have HM1 := hide hbm1
  have HB1 := hide hb1
  clear hh1 hbm1 hb1 HL
  go_wp2_with fail
  refine (unhide HN _).mono ?_
  rintro e w2 ⟨rfl, hw2⟩
  subst hw2
  have HG3 := hide (unhide HG _ p g c (unhide HH1))
  clear HN HG
  go_wp2_with fail
  refine (unhide HG3).mono ?_
  rintro e w4 ⟨rfl, hb4⟩
  have HH4 := hide ((unhide HH1).below hb4)
  have HM4 := hide ((unhide HM1).below hb4)
  have hB4 := (unhide HB1).trans (hb4.mono (unhide HB1).size)
  have HE4 := hide (unhide HERR w4 hB4)
  have HB4 := hide hB4
  clear hb4 hB4 HG3 HH1 HM1 HB1 HERR
  go_wp2_with fail
  refine (unhide HE4).mono ?_
  rintro e w5 ⟨rfl, hb5⟩
  have HH5 := hide ((unhide HH4).below hb5)
  have HM5 := hide ((unhide HM4).below hb5)
  have HB5 := hide ((unhide HB4).trans (hb5.mono (unhide HB4).size))
  have HA5 := hide (unhide HAL w5 p g c (unhide HH5))
  clear hb5 HE4 HH4 HM4 HB4 HAL
  go_wp2_with fail
  refine (unhide HA5).mono ?_
  rintro e w6 ⟨v6, rfl, hl6, hb6⟩
  obtain ⟨a6, c6, rfl, hs6⟩ := hl6.sls roC_len (by omega)
  have HS6 := hide hs6
  have HR6 := hide (unhide HRR w6 am cm ((unhide HM5).below hb6))
  have HB6 := hide ((unhide HB5).trans (hb6.mono (unhide HB5).size))
  clear hl6 hs6 hb6 HA5 HB5 HM5 HH5 HRR
  go_wp2_with fail
  refine (unhide HR6).mono ?_
  rintro e w7 ⟨v7, rfl, hl7, hb7⟩
  obtain ⟨a7, c7, rfl, hs7⟩ := hl7.sls roC_len (by omega)
  have HX7 := hide (unhide HRS w7 a6 a7 c6 c7 ((unhide HS6).below hb7) hs7)
  have HB7 := hide ((unhide HB6).trans (hb7.mono (unhide HB6).size))
  clear hl7 hs7 hb7 HR6 HB6 HS6 HRS
  go_wp2_with fail
  refine (unhide HX7).mono ?_
  rintro e w8 ⟨rfl, hb8⟩
  have HB8 := hide ((unhide HB7).trans (hb8.mono (unhide HB7).size))
  clear hb8 HX7 HB7
  go_wp2
  go_ret
  exact ⟨rfl, unhide HB8⟩
set_option maxRecDepth 100000 in
set_option maxHeartbeats 4000000 in
theorem rtTells_low (a : Option Addr) (cap : Nat) (l : List Int) (s : ByteArray) (t : Int) (w : World) (hg : ErrT w) (hb : Bs w a cap l) (hs : s.size ≤ 140737488351232) (hn : nameB s = true) (ht : t < -1) :
    Calls Tryz.prog 3 #[.slice a l.length cap, .string s, .int .i64 t] w fun e w' => e = .returned (.bool true) ∧ Below w.heap.size w w' := by
  have hf := ldL_fine l
  have HL := hide (loaded_any a cap l w hb)
  have HN := hide (fun W => rNm_any s W hs)
  rw [hn] at HN
  have hml := hf.len
  have hGE : gtE (ldL l) s t = 1 := by unfold gtE; rw [if_neg (by rw [hn]; simp), if_pos (.inl ht)]
  have hGH : gtH (ldL l) s t = 0 := by unfold gtH; rw [hGE]; rfl
  have HG : Hid (∀ (W : World) (p g c : Nat), Hp W w.heap.size p g c (ldL l) → Calls Tryz.prog 10 #[.pointer (some ⟨p, 0, none⟩), .string s, .int .i64 t] W fun e w' => e = .returned (.tuple #[.int .i64 0, errV 1]) ∧ Below W.heap.size W w') := hide (fun W p g c h => by
    have := roGet_any h s t hs
    rw [hGE, hGH] at this
    exact this)
  have HERR := hide (fun (W : World) (hW : Below w.heap.size w W) => error_same 1 W (hg.below hW))
  have HAL := hide (fun (W : World) (p g c : Nat) (h : Hp W w.heap.size p g c (ldL l)) => roAll_any p g c w.heap.size (ldL l) W h)
  have HRR := hide (fun (W : World) (am : Option Addr) (cm : Nat) (h : Bs W am cm (ldL l)) => rRoots_any am cm (ldL l) W h hml.1 hml.2)
  have HRS := hide (fun (W : World) (a1 a2 : Option Addr) (c1 c2 : Nat) (h1 : Sls roC 2 W a1 c1 (rootsK (ldL l) 8)) (h2 : Sls roC 2 W a2 c2 (rootsK (ldL l) 8)) => rosame_any a1 a2 c1 c2 (rootsK (ldL l) 8) W h1 h2)
  have hrl := rootsK_len (ldL l) 8
  have hbl := hb.2.2.1
  clear hb hg hGE hGH hf hn
  generalize errV 1 = EV at *
  generalize rootsK (ldL l) 8 = RS at *
  generalize ldL l = M at *
  generalize l.length = nl at *
  generalize hml2 : M.length = N at *
  clear hml2
  go_enter Tryz.func3, Tryz.ntmps3
  go_wp2_with fail
  refine (unhide HL).mono ?_
  rintro e w1 ⟨p, g, c, am, cm, rfl, hh1, hbm1, hb1⟩
  have HH1 := hide hh1
  have HM1 := hide hbm1
  have HB1 := hide hb1
  clear hh1 hbm1 hb1 HL
  go_wp2_with fail
  refine (unhide HN _).mono ?_
  rintro e w2 ⟨rfl, hw2⟩
  subst hw2
  have HG3 := hide (unhide HG _ p g c (unhide HH1))
  clear HN HG
  go_wp2_with fail
  refine (unhide HG3).mono ?_
  rintro e w4 ⟨rfl, hb4⟩
  have HH4 := hide ((unhide HH1).below hb4)
  have HM4 := hide ((unhide HM1).below hb4)
  have hB4 := (unhide HB1).trans (hb4.mono (unhide HB1).size)
  have HE4 := hide (unhide HERR w4 hB4)
  have HB4 := hide hB4
  clear hb4 hB4 HG3 HH1 HM1 HB1 HERR
  go_wp2_with fail
  refine (unhide HE4).mono ?_
  rintro e w5 ⟨rfl, hb5⟩
  have HH5 := hide ((unhide HH4).below hb5)
  have HM5 := hide ((unhide HM4).below hb5)
  have HB5 := hide ((unhide HB4).trans (hb5.mono (unhide HB4).size))
  have HA5 := hide (unhide HAL w5 p g c (unhide HH5))
  clear hb5 HE4 HH4 HM4 HB4 HAL
  go_wp2_with fail
  refine (unhide HA5).mono ?_
  rintro e w6 ⟨v6, rfl, hl6, hb6⟩
  obtain ⟨a6, c6, rfl, hs6⟩ := hl6.sls roC_len (by omega)
  have HS6 := hide hs6
  have HR6 := hide (unhide HRR w6 am cm ((unhide HM5).below hb6))
  have HB6 := hide ((unhide HB5).trans (hb6.mono (unhide HB5).size))
  clear hl6 hs6 hb6 HA5 HB5 HM5 HH5 HRR
  go_wp2_with fail
  refine (unhide HR6).mono ?_
  rintro e w7 ⟨v7, rfl, hl7, hb7⟩
  obtain ⟨a7, c7, rfl, hs7⟩ := hl7.sls roC_len (by omega)
  have HX7 := hide (unhide HRS w7 a6 a7 c6 c7 ((unhide HS6).below hb7) hs7)
  have HB7 := hide ((unhide HB6).trans (hb7.mono (unhide HB6).size))
  clear hl7 hs7 hb7 HR6 HB6 HS6 HRS
  go_wp2_with fail
  refine (unhide HX7).mono ?_
  rintro e w8 ⟨rfl, hb8⟩
  have HB8 := hide ((unhide HB7).trans (hb8.mono (unhide HB7).size))
  clear hb8 HX7 HB7
  go_wp2
  go_ret
  exact ⟨rfl, unhide HB8⟩
set_option maxRecDepth 100000 in
set_option maxHeartbeats 4000000 in
theorem rtTells_high (a : Option Addr) (cap : Nat) (l : List Int) (s : ByteArray) (t : Int) (w : World) (hg : ErrT w) (hb : Bs w a cap l) (hs : s.size ≤ 140737488351232) (hn : nameB s = true) (h1 : ¬ t < -1) (ht : 15 < t) :
    Calls Tryz.prog 3 #[.slice a l.length cap, .string s, .int .i64 t] w fun e w' => e = .returned (.bool true) ∧ Below w.heap.size w w' := by
  have hf := ldL_fine l
  have HL := hide (loaded_any a cap l w hb)
  have HN := hide (fun W => rNm_any s W hs)
  rw [hn] at HN
  have hml := hf.len
  have hGE : gtE (ldL l) s t = 1 := by unfold gtE; rw [if_neg (by rw [hn]; simp), if_pos (.inr ht)]
  have hGH : gtH (ldL l) s t = 0 := by unfold gtH; rw [hGE]; rfl
  have HG : Hid (∀ (W : World) (p g c : Nat), Hp W w.heap.size p g c (ldL l) → Calls Tryz.prog 10 #[.pointer (some ⟨p, 0, none⟩), .string s, .int .i64 t] W fun e w' => e = .returned (.tuple #[.int .i64 0, errV 1]) ∧ Below W.heap.size W w') := hide (fun W p g c h => by
    have := roGet_any h s t hs
    rw [hGE, hGH] at this
    exact this)
  have HERR := hide (fun (W : World) (hW : Below w.heap.size w W) => error_same 1 W (hg.below hW))
  have HAL := hide (fun (W : World) (p g c : Nat) (h : Hp W w.heap.size p g c (ldL l)) => roAll_any p g c w.heap.size (ldL l) W h)
  have HRR := hide (fun (W : World) (am : Option Addr) (cm : Nat) (h : Bs W am cm (ldL l)) => rRoots_any am cm (ldL l) W h hml.1 hml.2)
  have HRS := hide (fun (W : World) (a1 a2 : Option Addr) (c1 c2 : Nat) (h1 : Sls roC 2 W a1 c1 (rootsK (ldL l) 8)) (h2 : Sls roC 2 W a2 c2 (rootsK (ldL l) 8)) => rosame_any a1 a2 c1 c2 (rootsK (ldL l) 8) W h1 h2)
  have hrl := rootsK_len (ldL l) 8
  have hbl := hb.2.2.1
  clear hb hg hGE hGH hf hn
  generalize errV 1 = EV at *
  generalize rootsK (ldL l) 8 = RS at *
  generalize ldL l = M at *
  generalize l.length = nl at *
  generalize hml2 : M.length = N at *
  clear hml2
  go_enter Tryz.func3, Tryz.ntmps3
  go_wp2_with fail
  refine (unhide HL).mono ?_
  rintro e w1 ⟨p, g, c, am, cm, rfl, hh1, hbm1, hb1⟩
  have HH1 := hide hh1
  have HM1 := hide hbm1
  have HB1 := hide hb1
  clear hh1 hbm1 hb1 HL
  go_wp2_with fail
  refine (unhide HN _).mono ?_
  rintro e w2 ⟨rfl, hw2⟩
  subst hw2
  have HG3 := hide (unhide HG _ p g c (unhide HH1))
  clear HN HG
  go_wp2_with fail
  refine (unhide HG3).mono ?_
  rintro e w4 ⟨rfl, hb4⟩
  have HH4 := hide ((unhide HH1).below hb4)
  have HM4 := hide ((unhide HM1).below hb4)
  have hB4 := (unhide HB1).trans (hb4.mono (unhide HB1).size)
  have HE4 := hide (unhide HERR w4 hB4)
  have HB4 := hide hB4
  clear hb4 hB4 HG3 HH1 HM1 HB1 HERR
  go_wp2_with fail
  refine (unhide HE4).mono ?_
  rintro e w5 ⟨rfl, hb5⟩
  have HH5 := hide ((unhide HH4).below hb5)
  have HM5 := hide ((unhide HM4).below hb5)
  have HB5 := hide ((unhide HB4).trans (hb5.mono (unhide HB4).size))
  have HA5 := hide (unhide HAL w5 p g c (unhide HH5))
  clear hb5 HE4 HH4 HM4 HB4 HAL
  go_wp2_with fail
  refine (unhide HA5).mono ?_
  rintro e w6 ⟨v6, rfl, hl6, hb6⟩
  obtain ⟨a6, c6, rfl, hs6⟩ := hl6.sls roC_len (by omega)
  have HS6 := hide hs6
  have HR6 := hide (unhide HRR w6 am cm ((unhide HM5).below hb6))
  have HB6 := hide ((unhide HB5).trans (hb6.mono (unhide HB5).size))
  clear hl6 hs6 hb6 HA5 HB5 HM5 HH5 HRR
  go_wp2_with fail
  refine (unhide HR6).mono ?_
  rintro e w7 ⟨v7, rfl, hl7, hb7⟩
  obtain ⟨a7, c7, rfl, hs7⟩ := hl7.sls roC_len (by omega)
  have HX7 := hide (unhide HRS w7 a6 a7 c6 c7 ((unhide HS6).below hb7) hs7)
  have HB7 := hide ((unhide HB6).trans (hb7.mono (unhide HB6).size))
  clear hl7 hs7 hb7 HR6 HB6 HS6 HRS
  go_wp2_with fail
  refine (unhide HX7).mono ?_
  rintro e w8 ⟨rfl, hb8⟩
  have HB8 := hide ((unhide HB7).trans (hb8.mono (unhide HB7).size))
  clear hb8 HX7 HB7
  go_wp2
  go_ret
  exact ⟨rfl, unhide HB8⟩
set_option maxRecDepth 100000 in
set_option maxHeartbeats 4000000 in
theorem rtTells_none (a : Option Addr) (cap : Nat) (l : List Int) (s : ByteArray) (t : Int) (w : World) (hg : ErrT w) (hb : Bs w a cap l) (hs : s.size ≤ 140737488351232) (hn : nameB s = true) (h1 : ¬ t < -1) (h2 : ¬ 15 < t) (hv : leadOf (rootsK (ldL l) 8) s = 0) :
    Calls Tryz.prog 3 #[.slice a l.length cap, .string s, .int .i64 t] w fun e w' => e = .returned (.bool true) ∧ Below w.heap.size w w' := by
  have hf := ldL_fine l
  have HL := hide (loaded_any a cap l w hb)
  have HN := hide (fun W => rNm_any s W hs)
  rw [hn] at HN
  have hml := hf.len
  have hGE : gtE (ldL l) s t = 5 := by unfold gtE; rw [if_neg (by rw [hn]; simp), if_neg (by omega), if_pos hv]
  have hGH : gtH (ldL l) s t = 0 := by unfold gtH; rw [hGE]; rfl
  have HLD := hide (fun (W : World) (am : Option Addr) (cm : Nat) (h : Bs W am cm (ldL l)) => rLead_any am cm (ldL l) s W h hml.1 hml.2)
  rw [hv] at HLD
  have HG : Hid (∀ (W : World) (p g c : Nat), Hp W w.heap.size p g c (ldL l) → Calls Tryz.prog 10 #[.pointer (some ⟨p, 0, none⟩), .string s, .int .i64 t] W fun e w' => e = .returned (.tuple #[.int .i64 0, errV 5]) ∧ Below W.heap.size W w') := hide (fun W p g c h => by
    have := roGet_any h s t hs
    rw [hGE, hGH] at this
    exact this)
  have HERR := hide (fun (W : World) (hW : Below w.heap.size w W) => error_same 5 W (hg.below hW))
  have HAL := hide (fun (W : World) (p g c : Nat) (h : Hp W w.heap.size p g c (ldL l)) => roAll_any p g c w.heap.size (ldL l) W h)
  have HRR := hide (fun (W : World) (am : Option Addr) (cm : Nat) (h : Bs W am cm (ldL l)) => rRoots_any am cm (ldL l) W h hml.1 hml.2)
  have HRS := hide (fun (W : World) (a1 a2 : Option Addr) (c1 c2 : Nat) (h1 : Sls roC 2 W a1 c1 (rootsK (ldL l) 8)) (h2 : Sls roC 2 W a2 c2 (rootsK (ldL l) 8)) => rosame_any a1 a2 c1 c2 (rootsK (ldL l) 8) W h1 h2)
  have hrl := rootsK_len (ldL l) 8
  have hbl := hb.2.2.1
  clear hb hg hGE hGH hf hn hv
  generalize errV 5 = EV at *
  generalize rootsK (ldL l) 8 = RS at *
  generalize ldL l = M at *
  generalize l.length = nl at *
  generalize hml2 : M.length = N at *
  clear hml2
  go_enter Tryz.func3, Tryz.ntmps3
  go_wp2_with fail
  refine (unhide HL).mono ?_
  rintro e w1 ⟨p, g, c, am, cm, rfl, hh1, hbm1, hb1⟩
  have HH1 := hide hh1
  have HM1 := hide hbm1
  have HB1 := hide hb1
  clear hh1 hbm1 hb1 HL
  go_wp2_with fail
  refine (unhide HN _).mono ?_
  rintro e w2 ⟨rfl, hw2⟩
  subst hw2
  have HLD1 := hide (unhide HLD _ am cm (unhide HM1))
  clear HLD
  go_wp2_with fail
  refine (unhide HLD1).mono ?_
  rintro e w3 ⟨rfl, hb3⟩
  have HH1 := hide ((unhide HH1).below hb3)
  have HM1 := hide ((unhide HM1).below hb3)
  have HB1 := hide ((unhide HB1).trans (hb3.mono (unhide HB1).size))
  clear hb3 HLD1
  have HG3 := hide (unhide HG _ p g c (unhide HH1))
  clear HN HG
  go_wp2_with fail
  refine (unhide HG3).mono ?_
  rintro e w4 ⟨rfl, hb4⟩
  have HH4 := hide ((unhide HH1).below hb4)
  have HM4 := hide ((unhide HM1).below hb4)
  have hB4 := (unhide HB1).trans (hb4.mono (unhide HB1).size)
  have HE4 := hide (unhide HERR w4 hB4)
  have HB4 := hide hB4
  clear hb4 hB4 HG3 HH1 HM1 HB1 HERR
  go_wp2_with fail
  refine (unhide HE4).mono ?_
  rintro e w5 ⟨rfl, hb5⟩
  have HH5 := hide ((unhide HH4).below hb5)
  have HM5 := hide ((unhide HM4).below hb5)
  have HB5 := hide ((unhide HB4).trans (hb5.mono (unhide HB4).size))
  have HA5 := hide (unhide HAL w5 p g c (unhide HH5))
  clear hb5 HE4 HH4 HM4 HB4 HAL
  go_wp2_with fail
  refine (unhide HA5).mono ?_
  rintro e w6 ⟨v6, rfl, hl6, hb6⟩
  obtain ⟨a6, c6, rfl, hs6⟩ := hl6.sls roC_len (by omega)
  have HS6 := hide hs6
  have HR6 := hide (unhide HRR w6 am cm ((unhide HM5).below hb6))
  have HB6 := hide ((unhide HB5).trans (hb6.mono (unhide HB5).size))
  clear hl6 hs6 hb6 HA5 HB5 HM5 HH5 HRR
  go_wp2_with fail
  refine (unhide HR6).mono ?_
  rintro e w7 ⟨v7, rfl, hl7, hb7⟩
  obtain ⟨a7, c7, rfl, hs7⟩ := hl7.sls roC_len (by omega)
  have HX7 := hide (unhide HRS w7 a6 a7 c6 c7 ((unhide HS6).below hb7) hs7)
  have HB7 := hide ((unhide HB6).trans (hb7.mono (unhide HB6).size))
  clear hl7 hs7 hb7 HR6 HB6 HS6 HRS
  go_wp2_with fail
  refine (unhide HX7).mono ?_
  rintro e w8 ⟨rfl, hb8⟩
  have HB8 := hide ((unhide HB7).trans (hb8.mono (unhide HB7).size))
  clear hb8 HX7 HB7
  go_wp2
  go_ret
  exact ⟨rfl, unhide HB8⟩
set_option maxRecDepth 100000 in
set_option maxHeartbeats 4000000 in
theorem rtTells_any (a : Option Addr) (cap : Nat) (l : List Int) (s : ByteArray) (t : Int) (w : World) (hg : ErrT w) (hb : Bs w a cap l) (hs : s.size ≤ 140737488351232) (hn : nameB s = true) (h1 : t = -1) (hv : leadOf (rootsK (ldL l) 8) s ≠ 0) :
    Calls Tryz.prog 3 #[.slice a l.length cap, .string s, .int .i64 t] w fun e w' => e = .returned (.bool true) ∧ Below w.heap.size w w' := by
  have hf := ldL_fine l
  have HL := hide (loaded_any a cap l w hb)
  have HN := hide (fun W => rNm_any s W hs)
  rw [hn] at HN
  have hml := hf.len
  have hGE : gtE (ldL l) s t = 0 := by unfold gtE; rw [if_neg (by rw [hn]; simp), if_neg (by omega), if_neg hv, if_neg (fun h => h.1 h1)]
  have hGH : gtH (ldL l) s t = (leadOf (rootsK (ldL l) 8) s) := by unfold gtH; rw [hGE]; rfl
  have HLD := hide (fun (W : World) (am : Option Addr) (cm : Nat) (h : Bs W am cm (ldL l)) => rLead_any am cm (ldL l) s W h hml.1 hml.2)
  have hrg := lead_range hf s
  have hcv : chkE (ldL l) (leadOf (rootsK (ldL l) 8) s) = 0 := by
    rcases hrg with e | ⟨_, _, e⟩
    · exact absurd e hv
    · exact e
  have hv40 : 1 ≤ (leadOf (rootsK (ldL l) 8) s) ∧ (leadOf (rootsK (ldL l) 8) s) ≤ 40 := by
    rcases hrg with e | ⟨e1, e2, _⟩
    · exact absurd e hv
    · exact ⟨e1, e2⟩
  have HOB := hide (fun (W : World) (am : Option Addr) (cm : Nat) (h : Bs W am cm (ldL l)) => rObject_any am cm (ldL l) (leadOf (rootsK (ldL l) 8) s) W h hml.1 hv40.1 hv40.2 (fun ht => right_in hf.ok hv40.1 hv40.2 ht))
  rw [obj_tag hcv] at HOB
  clear hrg hcv
  have hvb : ((leadOf (rootsK (ldL l) 8) s) == 0) = false := beq_eq_false_iff_ne.2 hv
  have HG : Hid (∀ (W : World) (p g c : Nat), Hp W w.heap.size p g c (ldL l) → Calls Tryz.prog 10 #[.pointer (some ⟨p, 0, none⟩), .string s, .int .i64 t] W fun e w' => e = .returned (.tuple #[.int .i64 (leadOf (rootsK (ldL l) 8) s), errV 0]) ∧ Below W.heap.size W w') := hide (fun W p g c h => by
    have := roGet_any h s t hs
    rw [hGE, hGH] at this
    exact this)
  have HERR := hide (fun (W : World) (hW : Below w.heap.size w W) => error_same 0 W (hg.below hW))
  have HAL := hide (fun (W : World) (p g c : Nat) (h : Hp W w.heap.size p g c (ldL l)) => roAll_any p g c w.heap.size (ldL l) W h)
  have HRR := hide (fun (W : World) (am : Option Addr) (cm : Nat) (h : Bs W am cm (ldL l)) => rRoots_any am cm (ldL l) W h hml.1 hml.2)
  have HRS := hide (fun (W : World) (a1 a2 : Option Addr) (c1 c2 : Nat) (h1 : Sls roC 2 W a1 c1 (rootsK (ldL l) 8)) (h2 : Sls roC 2 W a2 c2 (rootsK (ldL l) 8)) => rosame_any a1 a2 c1 c2 (rootsK (ldL l) 8) W h1 h2)
  have hrl := rootsK_len (ldL l) 8
  have hbl := hb.2.2.1
  clear hb hg hGE hGH hf hn hv
  generalize (getE (ldL l) (leadOf (rootsK (ldL l) 8) s)).2.2.2 = T at *
  generalize strOf (objOf (ldL l) (leadOf (rootsK (ldL l) 8) s)).2 = os at *
  generalize (leadOf (rootsK (ldL l) 8) s) = V at *
  subst h1
  generalize errV 0 = EV at *
  generalize rootsK (ldL l) 8 = RS at *
  generalize ldL l = M at *
  generalize l.length = nl at *
  generalize hml2 : M.length = N at *
  clear hml2
  go_enter Tryz.func3, Tryz.ntmps3
  go_wp2_with fail
  refine (unhide HL).mono ?_
  rintro e w1 ⟨p, g, c, am, cm, rfl, hh1, hbm1, hb1⟩
  have HH1 := hide hh1
  have HM1 := hide hbm1
  have HB1 := hide hb1
  clear hh1 hbm1 hb1 HL
  go_wp2_with fail
  refine (unhide HN _).mono ?_
  rintro e w2 ⟨rfl, hw2⟩
  subst hw2
  have HLD1 := hide (unhide HLD _ am cm (unhide HM1))
  clear HLD
  go_wp2_with fail
  refine (unhide HLD1).mono ?_
  rintro e w3 ⟨rfl, hb3⟩
  have HH1 := hide ((unhide HH1).below hb3)
  have HM1 := hide ((unhide HM1).below hb3)
  have HB1 := hide ((unhide HB1).trans (hb3.mono (unhide HB1).size))
  clear hb3 HLD1
  have HOB1 := hide (unhide HOB _ am cm (unhide HM1))
  clear HOB
  go_wp2_with fail
  refine (unhide HOB1).mono ?_
  rintro e w9 ⟨rfl, hb9⟩
  have HH1 := hide ((unhide HH1).below hb9)
  have HM1 := hide ((unhide HM1).below hb9)
  have HB1 := hide ((unhide HB1).trans (hb9.mono (unhide HB1).size))
  clear hb9 HOB1
  have HG3 := hide (unhide HG _ p g c (unhide HH1))
  clear HN HG
  go_wp2_with fail
  refine (unhide HG3).mono ?_
  rintro e w4 ⟨rfl, hb4⟩
  have HH4 := hide ((unhide HH1).below hb4)
  have HM4 := hide ((unhide HM1).below hb4)
  have hB4 := (unhide HB1).trans (hb4.mono (unhide HB1).size)
  have HE4 := hide (unhide HERR w4 hB4)
  have HB4 := hide hB4
  clear hb4 hB4 HG3 HH1 HM1 HB1 HERR
  go_wp2_with fail
  refine (unhide HE4).mono ?_
  rintro e w5 ⟨rfl, hb5⟩
  have HH5 := hide ((unhide HH4).below hb5)
  have HM5 := hide ((unhide HM4).below hb5)
  have HB5 := hide ((unhide HB4).trans (hb5.mono (unhide HB4).size))
  have HA5 := hide (unhide HAL w5 p g c (unhide HH5))
  clear hb5 HE4 HH4 HM4 HB4 HAL
  go_wp2_with fail
  refine (unhide HA5).mono ?_
  rintro e w6 ⟨v6, rfl, hl6, hb6⟩
  obtain ⟨a6, c6, rfl, hs6⟩ := hl6.sls roC_len (by omega)
  have HS6 := hide hs6
  have HR6 := hide (unhide HRR w6 am cm ((unhide HM5).below hb6))
  have HB6 := hide ((unhide HB5).trans (hb6.mono (unhide HB5).size))
  clear hl6 hs6 hb6 HA5 HB5 HM5 HH5 HRR
  go_wp2_with fail
  refine (unhide HR6).mono ?_
  rintro e w7 ⟨v7, rfl, hl7, hb7⟩
  obtain ⟨a7, c7, rfl, hs7⟩ := hl7.sls roC_len (by omega)
  have HX7 := hide (unhide HRS w7 a6 a7 c6 c7 ((unhide HS6).below hb7) hs7)
  have HB7 := hide ((unhide HB6).trans (hb7.mono (unhide HB6).size))
  clear hl7 hs7 hb7 HR6 HB6 HS6 HRS
  go_wp2_with fail
  refine (unhide HX7).mono ?_
  rintro e w8 ⟨rfl, hb8⟩
  have HB8 := hide ((unhide HB7).trans (hb8.mono (unhide HB7).size))
  clear hb8 HX7 HB7
  go_wp2
  go_ret
  exact ⟨by simp, unhide HB8⟩
set_option maxRecDepth 100000 in
set_option maxHeartbeats 4000000 in
theorem rtTells_same (a : Option Addr) (cap : Nat) (l : List Int) (s : ByteArray) (t : Int) (w : World) (hg : ErrT w) (hb : Bs w a cap l) (hs : s.size ≤ 140737488351232) (hn : nameB s = true) (h1 : 0 ≤ t) (h2 : ¬ 15 < t) (hv : leadOf (rootsK (ldL l) 8) s ≠ 0) (hT : (getE (ldL l) (leadOf (rootsK (ldL l) 8) s)).2.2.2 = t) :
    Calls Tryz.prog 3 #[.slice a l.length cap, .string s, .int .i64 t] w fun e w' => e = .returned (.bool true) ∧ Below w.heap.size w w' := by
  have hf := ldL_fine l
  have HL := hide (loaded_any a cap l w hb)
  have HN := hide (fun W => rNm_any s W hs)
  rw [hn] at HN
  have hml := hf.len
  have hGE : gtE (ldL l) s t = 0 := by unfold gtE; rw [if_neg (by rw [hn]; simp), if_neg (by omega), if_neg hv, if_neg (fun h => h.2 hT.symm)]
  have hGH : gtH (ldL l) s t = (leadOf (rootsK (ldL l) 8) s) := by unfold gtH; rw [hGE]; rfl
  have HLD := hide (fun (W : World) (am : Option Addr) (cm : Nat) (h : Bs W am cm (ldL l)) => rLead_any am cm (ldL l) s W h hml.1 hml.2)
  have hrg := lead_range hf s
  have hcv : chkE (ldL l) (leadOf (rootsK (ldL l) 8) s) = 0 := by
    rcases hrg with e | ⟨_, _, e⟩
    · exact absurd e hv
    · exact e
  have hv40 : 1 ≤ (leadOf (rootsK (ldL l) 8) s) ∧ (leadOf (rootsK (ldL l) 8) s) ≤ 40 := by
    rcases hrg with e | ⟨e1, e2, _⟩
    · exact absurd e hv
    · exact ⟨e1, e2⟩
  have HOB := hide (fun (W : World) (am : Option Addr) (cm : Nat) (h : Bs W am cm (ldL l)) => rObject_any am cm (ldL l) (leadOf (rootsK (ldL l) 8) s) W h hml.1 hv40.1 hv40.2 (fun ht => right_in hf.ok hv40.1 hv40.2 ht))
  rw [obj_tag hcv] at HOB
  clear hrg hcv
  have hvb : ((leadOf (rootsK (ldL l) 8) s) == 0) = false := beq_eq_false_iff_ne.2 hv
  have htb : (t != t) = false := by simp
  rw [hT] at HOB
  have HG : Hid (∀ (W : World) (p g c : Nat), Hp W w.heap.size p g c (ldL l) → Calls Tryz.prog 10 #[.pointer (some ⟨p, 0, none⟩), .string s, .int .i64 t] W fun e w' => e = .returned (.tuple #[.int .i64 (leadOf (rootsK (ldL l) 8) s), errV 0]) ∧ Below W.heap.size W w') := hide (fun W p g c h => by
    have := roGet_any h s t hs
    rw [hGE, hGH] at this
    exact this)
  have HERR := hide (fun (W : World) (hW : Below w.heap.size w W) => error_same 0 W (hg.below hW))
  have HAL := hide (fun (W : World) (p g c : Nat) (h : Hp W w.heap.size p g c (ldL l)) => roAll_any p g c w.heap.size (ldL l) W h)
  have HRR := hide (fun (W : World) (am : Option Addr) (cm : Nat) (h : Bs W am cm (ldL l)) => rRoots_any am cm (ldL l) W h hml.1 hml.2)
  have HRS := hide (fun (W : World) (a1 a2 : Option Addr) (c1 c2 : Nat) (h1 : Sls roC 2 W a1 c1 (rootsK (ldL l) 8)) (h2 : Sls roC 2 W a2 c2 (rootsK (ldL l) 8)) => rosame_any a1 a2 c1 c2 (rootsK (ldL l) 8) W h1 h2)
  have hrl := rootsK_len (ldL l) 8
  have hbl := hb.2.2.1
  clear hb hg hGE hGH hf hn hv hT
  generalize strOf (objOf (ldL l) (leadOf (rootsK (ldL l) 8) s)).2 = os at *
  generalize (leadOf (rootsK (ldL l) 8) s) = V at *
  generalize errV 0 = EV at *
  generalize rootsK (ldL l) 8 = RS at *
  generalize ldL l = M at *
  generalize l.length = nl at *
  generalize hml2 : M.length = N at *
  clear hml2
  go_enter Tryz.func3, Tryz.ntmps3
  go_wp2_with fail
  refine (unhide HL).mono ?_
  rintro e w1 ⟨p, g, c, am, cm, rfl, hh1, hbm1, hb1⟩
  have HH1 := hide hh1
  have HM1 := hide hbm1
  have HB1 := hide hb1
  clear hh1 hbm1 hb1 HL
  go_wp2_with fail
  refine (unhide HN _).mono ?_
  rintro e w2 ⟨rfl, hw2⟩
  subst hw2
  have HLD1 := hide (unhide HLD _ am cm (unhide HM1))
  clear HLD
  go_wp2_with fail
  refine (unhide HLD1).mono ?_
  rintro e w3 ⟨rfl, hb3⟩
  have HH1 := hide ((unhide HH1).below hb3)
  have HM1 := hide ((unhide HM1).below hb3)
  have HB1 := hide ((unhide HB1).trans (hb3.mono (unhide HB1).size))
  clear hb3 HLD1
  have HOB1 := hide (unhide HOB _ am cm (unhide HM1))
  clear HOB
  go_wp2_with fail
  refine (unhide HOB1).mono ?_
  rintro e w9 ⟨rfl, hb9⟩
  have HH1 := hide ((unhide HH1).below hb9)
  have HM1 := hide ((unhide HM1).below hb9)
  have HB1 := hide ((unhide HB1).trans (hb9.mono (unhide HB1).size))
  clear hb9 HOB1
  have HG3 := hide (unhide HG _ p g c (unhide HH1))
  clear HN HG
  go_wp2_with fail
  refine (unhide HG3).mono ?_
  rintro e w4 ⟨rfl, hb4⟩
  have HH4 := hide ((unhide HH1).below hb4)
  have HM4 := hide ((unhide HM1).below hb4)
  have hB4 := (unhide HB1).trans (hb4.mono (unhide HB1).size)
  have HE4 := hide (unhide HERR w4 hB4)
  have HB4 := hide hB4
  clear hb4 hB4 HG3 HH1 HM1 HB1 HERR
  go_wp2_with fail
  refine (unhide HE4).mono ?_
  rintro e w5 ⟨rfl, hb5⟩
  have HH5 := hide ((unhide HH4).below hb5)
  have HM5 := hide ((unhide HM4).below hb5)
  have HB5 := hide ((unhide HB4).trans (hb5.mono (unhide HB4).size))
  have HA5 := hide (unhide HAL w5 p g c (unhide HH5))
  clear hb5 HE4 HH4 HM4 HB4 HAL
  go_wp2_with fail
  refine (unhide HA5).mono ?_
  rintro e w6 ⟨v6, rfl, hl6, hb6⟩
  obtain ⟨a6, c6, rfl, hs6⟩ := hl6.sls roC_len (by omega)
  have HS6 := hide hs6
  have HR6 := hide (unhide HRR w6 am cm ((unhide HM5).below hb6))
  have HB6 := hide ((unhide HB5).trans (hb6.mono (unhide HB5).size))
  clear hl6 hs6 hb6 HA5 HB5 HM5 HH5 HRR
  go_wp2_with fail
  refine (unhide HR6).mono ?_
  rintro e w7 ⟨v7, rfl, hl7, hb7⟩
  obtain ⟨a7, c7, rfl, hs7⟩ := hl7.sls roC_len (by omega)
  have HX7 := hide (unhide HRS w7 a6 a7 c6 c7 ((unhide HS6).below hb7) hs7)
  have HB7 := hide ((unhide HB6).trans (hb7.mono (unhide HB6).size))
  clear hl7 hs7 hb7 HR6 HB6 HS6 HRS
  go_wp2_with fail
  refine (unhide HX7).mono ?_
  rintro e w8 ⟨rfl, hb8⟩
  have HB8 := hide ((unhide HB7).trans (hb8.mono (unhide HB7).size))
  clear hb8 HX7 HB7
  go_wp2
  go_ret
  exact ⟨by simp, unhide HB8⟩
set_option maxRecDepth 100000 in
set_option maxHeartbeats 4000000 in
theorem rtTells_other (a : Option Addr) (cap : Nat) (l : List Int) (s : ByteArray) (t : Int) (w : World) (hg : ErrT w) (hb : Bs w a cap l) (hs : s.size ≤ 140737488351232) (hn : nameB s = true) (h1 : 0 ≤ t) (h2 : ¬ 15 < t) (hv : leadOf (rootsK (ldL l) 8) s ≠ 0) (hT : (getE (ldL l) (leadOf (rootsK (ldL l) 8) s)).2.2.2 ≠ t) :
    Calls Tryz.prog 3 #[.slice a l.length cap, .string s, .int .i64 t] w fun e w' => e = .returned (.bool true) ∧ Below w.heap.size w w' := by
  have hf := ldL_fine l
  have HL := hide (loaded_any a cap l w hb)
  have HN := hide (fun W => rNm_any s W hs)
  rw [hn] at HN
  have hml := hf.len
  have hGE : gtE (ldL l) s t = 8 := by unfold gtE; rw [if_neg (by rw [hn]; simp), if_neg (by omega), if_neg hv, if_pos ⟨by omega, fun h => hT h.symm⟩]
  have hGH : gtH (ldL l) s t = 0 := by unfold gtH; rw [hGE]; rfl
  have HLD := hide (fun (W : World) (am : Option Addr) (cm : Nat) (h : Bs W am cm (ldL l)) => rLead_any am cm (ldL l) s W h hml.1 hml.2)
  have hrg := lead_range hf s
  have hcv : chkE (ldL l) (leadOf (rootsK (ldL l) 8) s) = 0 := by
    rcases hrg with e | ⟨_, _, e⟩
    · exact absurd e hv
    · exact e
  have hv40 : 1 ≤ (leadOf (rootsK (ldL l) 8) s) ∧ (leadOf (rootsK (ldL l) 8) s) ≤ 40 := by
    rcases hrg with e | ⟨e1, e2, _⟩
    · exact absurd e hv
    · exact ⟨e1, e2⟩
  have HOB := hide (fun (W : World) (am : Option Addr) (cm : Nat) (h : Bs W am cm (ldL l)) => rObject_any am cm (ldL l) (leadOf (rootsK (ldL l) 8) s) W h hml.1 hv40.1 hv40.2 (fun ht => right_in hf.ok hv40.1 hv40.2 ht))
  rw [obj_tag hcv] at HOB
  clear hrg hcv
  have hvb : ((leadOf (rootsK (ldL l) 8) s) == 0) = false := beq_eq_false_iff_ne.2 hv
  have htb : ((getE (ldL l) (leadOf (rootsK (ldL l) 8) s)).2.2.2 != t) = true := bne_iff_ne.2 hT
  have HG : Hid (∀ (W : World) (p g c : Nat), Hp W w.heap.size p g c (ldL l) → Calls Tryz.prog 10 #[.pointer (some ⟨p, 0, none⟩), .string s, .int .i64 t] W fun e w' => e = .returned (.tuple #[.int .i64 0, errV 8]) ∧ Below W.heap.size W w') := hide (fun W p g c h => by
    have := roGet_any h s t hs
    rw [hGE, hGH] at this
    exact this)
  have HERR := hide (fun (W : World) (hW : Below w.heap.size w W) => error_same 8 W (hg.below hW))
  have HAL := hide (fun (W : World) (p g c : Nat) (h : Hp W w.heap.size p g c (ldL l)) => roAll_any p g c w.heap.size (ldL l) W h)
  have HRR := hide (fun (W : World) (am : Option Addr) (cm : Nat) (h : Bs W am cm (ldL l)) => rRoots_any am cm (ldL l) W h hml.1 hml.2)
  have HRS := hide (fun (W : World) (a1 a2 : Option Addr) (c1 c2 : Nat) (h1 : Sls roC 2 W a1 c1 (rootsK (ldL l) 8)) (h2 : Sls roC 2 W a2 c2 (rootsK (ldL l) 8)) => rosame_any a1 a2 c1 c2 (rootsK (ldL l) 8) W h1 h2)
  have hrl := rootsK_len (ldL l) 8
  have hbl := hb.2.2.1
  clear hb hg hGE hGH hf hn hv hT
  generalize (getE (ldL l) (leadOf (rootsK (ldL l) 8) s)).2.2.2 = T at *
  generalize strOf (objOf (ldL l) (leadOf (rootsK (ldL l) 8) s)).2 = os at *
  generalize (leadOf (rootsK (ldL l) 8) s) = V at *
  generalize errV 8 = EV at *
  generalize rootsK (ldL l) 8 = RS at *
  generalize ldL l = M at *
  generalize l.length = nl at *
  generalize hml2 : M.length = N at *
  clear hml2
  go_enter Tryz.func3, Tryz.ntmps3
  go_wp2_with fail
  refine (unhide HL).mono ?_
  rintro e w1 ⟨p, g, c, am, cm, rfl, hh1, hbm1, hb1⟩
  have HH1 := hide hh1
  have HM1 := hide hbm1
  have HB1 := hide hb1
  clear hh1 hbm1 hb1 HL
  go_wp2_with fail
  refine (unhide HN _).mono ?_
  rintro e w2 ⟨rfl, hw2⟩
  subst hw2
  have HLD1 := hide (unhide HLD _ am cm (unhide HM1))
  clear HLD
  go_wp2_with fail
  refine (unhide HLD1).mono ?_
  rintro e w3 ⟨rfl, hb3⟩
  have HH1 := hide ((unhide HH1).below hb3)
  have HM1 := hide ((unhide HM1).below hb3)
  have HB1 := hide ((unhide HB1).trans (hb3.mono (unhide HB1).size))
  clear hb3 HLD1
  have HOB1 := hide (unhide HOB _ am cm (unhide HM1))
  clear HOB
  go_wp2_with fail
  refine (unhide HOB1).mono ?_
  rintro e w9 ⟨rfl, hb9⟩
  have HH1 := hide ((unhide HH1).below hb9)
  have HM1 := hide ((unhide HM1).below hb9)
  have HB1 := hide ((unhide HB1).trans (hb9.mono (unhide HB1).size))
  clear hb9 HOB1
  have HG3 := hide (unhide HG _ p g c (unhide HH1))
  clear HN HG
  go_wp2_with fail
  refine (unhide HG3).mono ?_
  rintro e w4 ⟨rfl, hb4⟩
  have HH4 := hide ((unhide HH1).below hb4)
  have HM4 := hide ((unhide HM1).below hb4)
  have hB4 := (unhide HB1).trans (hb4.mono (unhide HB1).size)
  have HE4 := hide (unhide HERR w4 hB4)
  have HB4 := hide hB4
  clear hb4 hB4 HG3 HH1 HM1 HB1 HERR
  go_wp2_with fail
  refine (unhide HE4).mono ?_
  rintro e w5 ⟨rfl, hb5⟩
  have HH5 := hide ((unhide HH4).below hb5)
  have HM5 := hide ((unhide HM4).below hb5)
  have HB5 := hide ((unhide HB4).trans (hb5.mono (unhide HB4).size))
  have HA5 := hide (unhide HAL w5 p g c (unhide HH5))
  clear hb5 HE4 HH4 HM4 HB4 HAL
  go_wp2_with fail
  refine (unhide HA5).mono ?_
  rintro e w6 ⟨v6, rfl, hl6, hb6⟩
  obtain ⟨a6, c6, rfl, hs6⟩ := hl6.sls roC_len (by omega)
  have HS6 := hide hs6
  have HR6 := hide (unhide HRR w6 am cm ((unhide HM5).below hb6))
  have HB6 := hide ((unhide HB5).trans (hb6.mono (unhide HB5).size))
  clear hl6 hs6 hb6 HA5 HB5 HM5 HH5 HRR
  go_wp2_with fail
  refine (unhide HR6).mono ?_
  rintro e w7 ⟨v7, rfl, hl7, hb7⟩
  obtain ⟨a7, c7, rfl, hs7⟩ := hl7.sls roC_len (by omega)
  have HX7 := hide (unhide HRS w7 a6 a7 c6 c7 ((unhide HS6).below hb7) hs7)
  have HB7 := hide ((unhide HB6).trans (hb7.mono (unhide HB6).size))
  clear hl7 hs7 hb7 HR6 HB6 HS6 HRS
  go_wp2_with fail
  refine (unhide HX7).mono ?_
  rintro e w8 ⟨rfl, hb8⟩
  have HB8 := hide ((unhide HB7).trans (hb8.mono (unhide HB7).size))
  clear hb8 HX7 HB7
  go_wp2
  go_ret
  exact ⟨rfl, unhide HB8⟩
theorem walkRootTells (a : Option Addr) (cap : Nat) (l : List Int) (s : ByteArray) (t : Int) (w : World) (hg : ErrT w) (hb : Bs w a cap l) (hs : s.size ≤ 140737488351232) :
    Calls Tryz.prog 3 #[.slice a l.length cap, .string s, .int .i64 t] w fun e w' => e = .returned (.bool true) ∧ Below w.heap.size w w' := by
  cases hn : nameB s with
  | false => exact rtTells_name a cap l s t w hg hb hs hn
  | true =>
    by_cases h1 : t < -1
    · exact rtTells_low a cap l s t w hg hb hs hn h1
    · by_cases h2 : 15 < t
      · exact rtTells_high a cap l s t w hg hb hs hn h1 h2
      · by_cases hv : leadOf (rootsK (ldL l) 8) s = 0
        · exact rtTells_none a cap l s t w hg hb hs hn h1 h2 hv
        · by_cases h3 : t = -1
          · exact rtTells_any a cap l s t w hg hb hs hn h3 hv
          · by_cases hT : (getE (ldL l) (leadOf (rootsK (ldL l) 8) s)).2.2.2 = t
            · exact rtTells_same a cap l s t w hg hb hs hn (by omega) h2 hv hT
            · exact rtTells_other a cap l s t w hg hb hs hn (by omega) h2 hv hT
end Go.Proofs.YtojdfbmfbmanaaaGreatDoor
