/-
  Parts of the proofs, joined by program.
-/
import Derived.Test.YtfbloliakmehbaaGreatDoorJCi
import Derived.Test.YtfbloliakmehbaaGreatDoorJHs
import Derived.Test.YtfbloliakmehbaaGreatDoorJRc
namespace Go.Proofs.YtfbloliakmehbaaGreatDoor
open Go.RowKit
set_option linter.unusedVariables false
def ldL (L : List Int) : List Int := if lenB L.length = true then mendL L else zerosB 320
theorem ldL_fine (L : List Int) : Fine (ldL L) := by
 unfold ldL
 by_cases h : lenB L.length = true
 ·rw [if_pos h]
  have := lenB_iff.1 h
  exact mend_fine (by omega) (by omega)
 ·rw [if_neg h]
  exact (zeros_fine (by decide) (by decide)).1
theorem loaded_any (a : Option Addr) (cap : Nat) (L : List Int) (w : World) (hbs : Bs w a cap L) :
  Calls Tryz.prog 13 #[.slice a L.length cap] w fun e w' => ∃ p g c am cm, e = .returned (.tuple #[.pointer (some ⟨p, 0, none⟩), .slice am (ldL L).length cm]) /\ Hp w' w.heap.size p g c (ldL L) /\ Bs w' am cm (ldL L) /\ Below w.heap.size w w' := by
 have HI := hide (rImage_any L.length w)
 have hbl := hbs.2.2.1
 have hfine := ldL_fine L
 unfold ldL at hfine ⊢
 by_cases hq : lenB L.length = true
 ·rw [hq] at HI
  rw [if_pos hq] at hfine ⊢
  have hl := lenB_iff.1 hq
  have hml : (mendL L).length = L.length := mendL_len (by omega)
  have HM := hide (rMend_any a cap L w hbs hq)
  have HL := hide (fun (am : Option Addr) (cm : Nat) (W : World) (h : Bs W am cm (mendL L)) => hLoad_yes am cm (mendL L) W h hfine)
  rw [hml] at HL ⊢
  clear hbs hq hfine hml hl
  generalize mendL L = M at *
  generalize L.length = N at *
  go_enter Tryz.func13, Tryz.ntmps13
  go_wp2_with fail
  refine (unhide HI).mono ?_
  rintro e w1 ⟨rfl, hw⟩
  subst hw
  go_wp2_with fail
  refine (unhide HM).mono ?_
  rintro e w2 ⟨am, cm, rfl, hbm, hb2⟩
  have HL2 := hide (unhide HL am cm w2 hbm)
  have HBM := hide hbm
  have HB2 := hide hb2
  clear hbm hb2 HM HL
  go_wp2_with fail
  refine (unhide HL2).mono ?_
  rintro e w3 ⟨p, g, c, rfl, hh, hb3⟩
  have HBM3 := hide ((unhide HBM).below hb3)
  have HH : Hid (Hp w3 w.heap.size p g c M) := hide ⟨Nat.le_trans (unhide HB2).size hh.bp, hh.ne, hh.blk, (by obtain ⟨cur, hr⟩ := hh.row; exact ⟨cur, hr.low (unhide HB2).size⟩), hh.byt, hh.fine⟩
  have HB3 := hide ((unhide HB2).trans (hb3.mono (unhide HB2).size))
  clear hh hb3 HL2 HB2 HBM
  go_wp2
  go_ret2
  exact ⟨p, g, c, am, cm, rfl, unhide HH, unhide HBM3, unhide HB3⟩
 ·have hq' : lenB L.length = false := by simpa using hq
  rw [hq'] at HI
  rw [if_neg hq] at hfine ⊢
  have h320 : (zerosB 320).length = 320 := length_zerosB 320
  have hme : mendL (zerosB 320) = zerosB 320 := mend_right_same hfine.ok
  have hmk : ∀ w', Sem.run Tryz.prog (Instr.makeSlice 22 (.int .i64 320) (.int .i64 320)) w' = .ok (.slice (some ⟨w'.heap.size, 0, none⟩) 320 320) (mkW w' 320) := fun w' => run_make_u8 w' 320 (by decide)
  have hbz := (mkW_blk w 320).bs (byt_zerosB 320) (by rw [length_zerosB]; decide)
  have hbw := mkW_below w 320
  have hm0 := rMend_any _ _ (zerosB 320) (mkW w 320) hbz (by rw [h320]; decide)
  rw [hme, h320] at hm0
  have HM := hide hm0
  have HL := hide (fun (am : Option Addr) (cm : Nat) (W : World) (h : Bs W am cm (zerosB 320)) => hLoad_yes am cm (zerosB 320) W h hfine)
  rw [h320] at HL ⊢
  have HBW := hide hbw
  clear hbs hq hq' hfine hme hbz hbw hm0 h320
  generalize zerosB 320 = M at *
  generalize L.length = N at *
  generalize hWW : mkW w 320 = W0 at *
  have hmk0 := hmk w
  rw [hWW] at hmk0
  clear hmk hWW
  go_enter Tryz.func13, Tryz.ntmps13
  go_wp2_with fail
  refine (unhide HI).mono ?_
  rintro e w1 ⟨rfl, hw⟩
  subst hw
  go_wp2_with fail
  refine (unhide HM).mono ?_
  rintro e w2 ⟨am, cm, rfl, hbm, hb2⟩
  have HL2 := hide (unhide HL am cm w2 hbm)
  have HBM := hide hbm
  have HB2 := hide ((unhide HBW).trans (hb2.mono (unhide HBW).size))
  clear hbm hb2 HM HL
  go_wp2_with fail
  refine (unhide HL2).mono ?_
  rintro e w3 ⟨p, g, c, rfl, hh, hb3⟩
  have HBM3 := hide ((unhide HBM).below hb3)
  have HH : Hid (Hp w3 w.heap.size p g c M) := hide ⟨Nat.le_trans (unhide HB2).size hh.bp, hh.ne, hh.blk, (by obtain ⟨cur, hr⟩ := hh.row; exact ⟨cur, hr.low (unhide HB2).size⟩), hh.byt, hh.fine⟩
  have HB3 := hide ((unhide HB2).trans (hb3.mono (unhide HB2).size))
  clear hh hb3 HL2 HB2 HBM
  go_wp2
  go_ret2
  exact ⟨p, g, c, am, cm, rfl, unhide HH, unhide HBM3, unhide HB3⟩
theorem Bs.old {w w' : World} {p g c cap : Nat} {a : Option Addr} {l L : List Int} (h : Bs w a cap l) (hb : Below w.heap.size w w') (hh : Hp w' w.heap.size p g c L) : BsO w' (foot p g) a cap l := by
 refine ⟨h.below hb, fun hne x hx hs => ?_⟩
 obtain ⟨b, off, rfl, hc⟩ := h.2.2.2.2 hne
 obtain rfl := Option.some.inj hx
 have h1 := block_lt_of_cell (hc 0 (List.length_pos_iff.2 hne))
 have h2 := hh.foot_ge _ hs
 dsimp only at h1 h2
 omega
set_option maxRecDepth 100000 in
theorem loadedO_any (a : Option Addr) (cap : Nat) (L : List Int) (w : World) (hbs : Bs w a cap L) :
  Calls Tryz.prog 13 #[.slice a L.length cap] w fun e w' => ∃ p g c am cm, e = .returned (.tuple #[.pointer (some ⟨p, 0, none⟩), .slice am (ldL L).length cm]) /\ Hp w' w.heap.size p g c (ldL L) /\ BsO w' (foot p g) am cm (ldL L) /\ Below w.heap.size w w' := by
 have HI := hide (rImage_any L.length w)
 have hbl := hbs.2.2.1
 have hfine := ldL_fine L
 unfold ldL at hfine ⊢
 by_cases hq : lenB L.length = true
 ·rw [hq] at HI
  rw [if_pos hq] at hfine ⊢
  have hl := lenB_iff.1 hq
  have hml : (mendL L).length = L.length := mendL_len (by omega)
  have HM := hide (rMend_any a cap L w hbs hq)
  have HL := hide (fun (am : Option Addr) (cm : Nat) (W : World) (h : Bs W am cm (mendL L)) => hLoad_yes am cm (mendL L) W h hfine)
  rw [hml] at HL ⊢
  clear hbs hq hfine hml hl
  generalize mendL L = M at *
  generalize L.length = N at *
  go_enter Tryz.func13, Tryz.ntmps13
  go_wp2_with fail
  refine (unhide HI).mono ?_
  rintro e w1 ⟨rfl, hw⟩
  subst hw
  go_wp2_with fail
  refine (unhide HM).mono ?_
  rintro e w2 ⟨am, cm, rfl, hbm, hb2⟩
  have HL2 := hide (unhide HL am cm w2 hbm)
  have HBM := hide hbm
  have HB2 := hide hb2
  clear hbm hb2 HM HL
  go_wp2_with fail
  refine (unhide HL2).mono ?_
  rintro e w3 ⟨p, g, c, rfl, hh, hb3⟩
  have HBM3 := hide ((unhide HBM).old hb3 hh)
  have HH : Hid (Hp w3 w.heap.size p g c M) := hide ⟨Nat.le_trans (unhide HB2).size hh.bp, hh.ne, hh.blk, (by obtain ⟨cur, hr⟩ := hh.row; exact ⟨cur, hr.low (unhide HB2).size⟩), hh.byt, hh.fine⟩
  have HB3 := hide ((unhide HB2).trans (hb3.mono (unhide HB2).size))
  clear hh hb3 HL2 HB2 HBM
  go_wp2
  go_ret2
  exact ⟨p, g, c, am, cm, rfl, unhide HH, unhide HBM3, unhide HB3⟩
 ·have hq' : lenB L.length = false := by simpa using hq
  rw [hq'] at HI
  rw [if_neg hq] at hfine ⊢
  have h320 : (zerosB 320).length = 320 := length_zerosB 320
  have hme : mendL (zerosB 320) = zerosB 320 := mend_right_same hfine.ok
  have hmk : ∀ w', Sem.run Tryz.prog (Instr.makeSlice 22 (.int .i64 320) (.int .i64 320)) w' = .ok (.slice (some ⟨w'.heap.size, 0, none⟩) 320 320) (mkW w' 320) := fun w' => run_make_u8 w' 320 (by decide)
  have hbz := (mkW_blk w 320).bs (byt_zerosB 320) (by rw [length_zerosB]; decide)
  have hbw := mkW_below w 320
  have hm0 := rMend_any _ _ (zerosB 320) (mkW w 320) hbz (by rw [h320]; decide)
  rw [hme, h320] at hm0
  have HM := hide hm0
  have HL := hide (fun (am : Option Addr) (cm : Nat) (W : World) (h : Bs W am cm (zerosB 320)) => hLoad_yes am cm (zerosB 320) W h hfine)
  rw [h320] at HL ⊢
  have HBW := hide hbw
  clear hbs hq hq' hfine hme hbz hbw hm0 h320
  generalize zerosB 320 = M at *
  generalize L.length = N at *
  generalize hWW : mkW w 320 = W0 at *
  have hmk0 := hmk w
  rw [hWW] at hmk0
  clear hmk hWW
  go_enter Tryz.func13, Tryz.ntmps13
  go_wp2_with fail
  refine (unhide HI).mono ?_
  rintro e w1 ⟨rfl, hw⟩
  subst hw
  go_wp2_with fail
  refine (unhide HM).mono ?_
  rintro e w2 ⟨am, cm, rfl, hbm, hb2⟩
  have HL2 := hide (unhide HL am cm w2 hbm)
  have HBM := hide hbm
  have HB2 := hide ((unhide HBW).trans (hb2.mono (unhide HBW).size))
  clear hbm hb2 HM HL
  go_wp2_with fail
  refine (unhide HL2).mono ?_
  rintro e w3 ⟨p, g, c, rfl, hh, hb3⟩
  have HBM3 := hide ((unhide HBM).old hb3 hh)
  have HH : Hid (Hp w3 w.heap.size p g c M) := hide ⟨Nat.le_trans (unhide HB2).size hh.bp, hh.ne, hh.blk, (by obtain ⟨cur, hr⟩ := hh.row; exact ⟨cur, hr.low (unhide HB2).size⟩), hh.byt, hh.fine⟩
  have HB3 := hide ((unhide HB2).trans (hb3.mono (unhide HB2).size))
  clear hh hb3 HL2 HB2 HBM
  go_wp2
  go_ret2
  exact ⟨p, g, c, am, cm, rfl, unhide HH, unhide HBM3, unhide HB3⟩
end Go.Proofs.YtfbloliakmehbaaGreatDoor
