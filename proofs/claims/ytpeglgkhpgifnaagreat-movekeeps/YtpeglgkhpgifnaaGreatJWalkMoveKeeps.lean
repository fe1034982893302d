/-
  The walk of MoveKeeps. (Part of the proof of MoveKeeps.)
-/
import Derived.Test.YtpeglgkhpgifnaaGreatJSf
import Derived.Test.YtpeglgkhpgifnaaGreatJLo
import Derived.Test.YtpeglgkhpgifnaaGreatJChl
import Derived.Deep.CutRange
namespace Go.Proofs.YtpeglgkhpgifnaaGreat
open Go.RowKit Go.Sort
set_option linter.unusedVariables false

/-- The same objects and roots: the same. -/
theorem sf_same {a b : List Int} (ha : Fine a) (m : AsWas a b) : sameB a b = true ∧ sameE a b = 0 := by
  have he : sameE a b = 0 := by unfold sameE; rw [if_neg (by rw [ha.len0]; simp), if_neg (by rw [m.fine.len0]; simp), if_pos ⟨ha.ok, m.fine.ok⟩]
  refine ⟨?_, he⟩
  unfold sameB
  rw [he, m.roots, sameR_self ha]
  have : sameO a b 40 = true := sameO_iff.2 (fun j hj => (m.objs _ (by omega) (by omega)).symm)
  rw [this]
  rfl
theorem Bs.kpt {W w' : World} {T : Nat → Prop} {b off cap : Nat} {l : List Int} (h : Bs W (some ⟨b, off, none⟩) cap l) (hk : Kpt T W w') (hT : T b) : Bs w' (some ⟨b, off, none⟩) cap l := by
  obtain ⟨h1, h2, h3, h4, h5⟩ := h
  refine ⟨h1, h2, h3, h4, fun hne => ?_⟩
  obtain ⟨b', off', e, hc⟩ := h5 hne
  cases e
  refine ⟨b, off, rfl, fun i hi => ?_⟩
  rw [← hc i hi]
  exact World.cell?_of_block (a := ⟨b, off + i, none⟩) (hk b hT)
/-- The heap of an image that is mended ahead, and the image beside it. -/
theorem sf_loaded (a : Option Addr) (cap : Nat) (b : List Int) (w W : World) (hW : Below w.heap.size w W) (hb : Bs w a cap b) :
    Calls Tryz.prog 11 #[.slice a b.length cap] W fun e w' => ∃ p bm om cm, e = .returned (.tuple #[.pointer (some ⟨p, 0, none⟩), .slice (some ⟨bm, om, none⟩) (ldL b).length cm]) ∧ Bs w' (some ⟨bm, om, none⟩) cm (ldL b) ∧ SfS w w' p (ldL b) (fun k => k = bm) := by
  refine (loadedO_any a cap b W (hb.below hW)).mono ?_
  rintro e w' ⟨p, g, c, am, cm, rfl, hh, hm, hB⟩
  have hl := (ldL_fine b).len
  have hne : ldL b ≠ [] := by intro e; rw [e] at hl; simp at hl
  obtain ⟨bm, om, rfl, hc⟩ := hm.1.2.2.2.2 hne
  refine ⟨p, bm, om, cm, rfl, hm.1, g, c, ⟨Nat.le_trans hW.size hh.bp, hh.ne, hh.blk, (by obtain ⟨cur, hr⟩ := hh.row; exact ⟨cur, hr.low hW.size⟩), hh.byt, hh.fine⟩, hW.trans (hB.mono hW.size), fun k hk => ?_⟩
  subst hk
  exact ⟨block_lt_of_cell (hc 0 (by omega)), hm.2 hne _ rfl⟩
set_option maxRecDepth 100000 in
set_option maxHeartbeats 16000000 in
theorem walkMoveKeeps (a : Option Addr) (cap : Nat) (b : List Int) (w : World) (hb : Bs w a cap b) :
    Calls Tryz.prog 3 #[.slice a b.length cap] w fun e w' => e = .returned (.bool true) ∧ Below w.heap.size w w' := by
  have hbl := hb.2.2.1
  have hL := ldL_fine b
  have hl := hL.len
  have HL := hide hL
  have HB := hide hb
  have HLD := hide (fun (W : World) (hW : Below w.heap.size w W) => sf_loaded a cap b w W hW hb)
  have HN := hide (sf_new 320 (by decide) w)
  obtain ⟨A, B, C, f⟩ := mv_fact
  have f1 := f.fine
  have fl := f.len
  have HF := hide f
  have HFS : Hid (Sta (mvA C) ((takeL (mvA C)).length : Int) (lenSum (takeL (mvA C))) 27 (mostOf 0 (freeL (((mvA C).length : Int) - 288) (takeL (mvA C)))) 1) := hide (by
    have := f.free
    have h2 := f.runs
    refine ⟨rfl, rfl, ?_, rfl, ?_⟩
    · rw [fl]; exact this
    · rw [fl]; exact congrArg Int.ofNat h2)
  have hK := mvN_forty (L := ldL b)
  have H0 := hide (AsWas.refl hL)
  clear hb hL f f1 fl
  generalize hKK : mvN 288 (srtE (ldL b)) = K at *
  have HKE := hide hKK
  clear hKK
  generalize hLL : ldL b = L at *
  have HLL := hide hLL
  clear hLL
  go_enter Tryz.func3, Tryz.ntmps3
  go_wp2_with fail
  refine (unhide HN).mono ?_
  rintro e w1 ⟨p, rfl, hS1⟩
  have hc1 := hS1.alloc 5 0
  rw [(unhide HF).e1, (unhide HF).h1, (unhide HF).a, errV_zero] at hc1
  have HC1 := hide hc1
  clear hS1 hc1 HN
  go_wp2_with fail
  refine (unhide HC1).mono ?_
  rintro e w2 ⟨rfl, hS2, _⟩
  have hc2 := hS2.alloc 5 1
  rw [(unhide HF).e2, (unhide HF).b, errV_zero] at hc2
  generalize alH A 5 1 = AH at *
  have HC2 := hide hc2
  clear hS2 hc2 HC1
  go_wp2_with fail
  refine (unhide HC2).mono ?_
  rintro e w3 ⟨rfl, hS3, _⟩
  have hc3 := hS3.free 1
  rw [(unhide HF).e3, (unhide HF).c, errV_zero] at hc3
  have HC3 := hide hc3
  clear hS3 hc3 HC2
  go_wp2_with fail
  refine (unhide HC3).mono ?_
  rintro e w4 ⟨rfl, hS4, _⟩
  have hc4 := hS4.all
  rw [(unhide HF).n] at hc4
  have HC4 := hide hc4
  clear hS4 hc4 HC3
  go_wp2_with fail
  refine (unhide HC4).mono ?_
  rintro e w5 ⟨rfl, hS5, _⟩
  have hc5 := hS5.heap (unhide HFS)
  generalize ((takeL (mvA C)).length : Int) = O1 at *
  generalize lenSum (takeL (mvA C)) = U1 at *
  generalize mostOf 0 (freeL (((mvA C).length : Int) - 288) (takeL (mvA C))) = M1 at *
  have HC5 := hide hc5
  clear hS5 hc5 HC4 HF HFS
  go_wp2_with fail
  refine (unhide HC5).mono ?_
  rintro e w6 ⟨rfl, hS6, _⟩
  have hB6 := hS6.belowW
  have HC6 := hide (unhide HLD _ (hB6.alloc hB6.size (.cells #[.int .i64 O1, .int .i64 U1, .int .i64 27, .int .i64 M1, .int .i64 1] 33)))
  clear hS6 hB6 HC5 HLD
  generalize hN : L.length = N at *
  have HNN := hide hN
  clear hN
  go_wp2_with fail
  refine (unhide HC6).mono ?_
  rintro e w7 ⟨p7, bm, om, cm, rfl, hm7, hS7⟩
  obtain ⟨O, U, F, M, R, s⟩ : ∃ O U F M R, Sta L O U F M R := ⟨_, _, _, _, _, Sta.of L⟩
  have HST := hide s
  have HM7 := hide hm7
  have HC7 := hide (hS7.heap s)
  clear hm7 hS7 HC6 s
  go_wp2_with fail
  refine (unhide HC7).mono ?_
  rintro e w8 ⟨rfl, hS8, hk8⟩
  have hA := hS8.add (.cells #[.int .i64 O, .int .i64 U, .int .i64 F, .int .i64 M, .int .i64 R] 33)
  have HM9 := hide (((unhide HM7).kpt hk8 rfl).kpt hA.2 rfl)
  have HS9 := hide hA.1
  have HSB9 := hide (StB.new w8 O U F M R)
  clear hA hS8 hk8 HC7 HM7
  go_upto_region 15 with fail
  generalize w8.alloc (.cells #[.int .i64 O, .int .i64 U, .int .i64 F, .int .i64 M, .int .i64 R] 33) = w9 at *
  generalize w8.heap.size = gs at *
  go_wp2_with fail
  go_loopw [18] (fun iv wr => ∃ (k : Nat) (X : List Int), iv = .int .i64 k ∧ k + mvN 288 (srtE X) = K ∧ AsWas L X ∧ SfS w wr p7 X (fun k => k = bm ∨ k = gs) ∧ Bs wr (some ⟨bm, om, none⟩) cm L ∧ StB wr gs O U F M R) (fun iv _ => 50 - (intOf iv).toNat)
  case atStart => exact ⟨0, L, rfl, by rw [Nat.zero_add]; exact unhide HKE, unhide H0, unhide HS9, unhide HM9, unhide HSB9⟩
  case round =>
    obtain ⟨k, X, rfl, hkK, hAs, hS, hm, hsb⟩ := hrel
    clear HS9 HM9 HSB9 H0
    have hk50 : k < 50 := by omega
    have HM := hide hm
    have HSB := hide hsb
    have HC := hide hS.step
    have HF := hide hS.fine
    clear hm hsb hS
    cases hq : mvS X with
    | some Y =>
      obtain ⟨has, hn⟩ := step_as (unhide HF) hq
      rw [hq] at HC
      have hAs2 := hAs.trans has
      obtain ⟨q1, q2⟩ := sf_same (unhide HL) hAs2
      have hlY : Y.length = N := by rw [hAs2.len]; exact unhide HNN
      have HAs2 := hide hAs2
      have HKK : Hid (k + 1 + mvN 288 (srtE Y) = K) := hide (by omega)
      have HLY := hide hlY
      have HQ := hide (And.intro q1 q2)
      clear hAs has hn hq hkK hAs2 q1 q2 hlY HF
      go_wp2_with fail
      refine (unhide HC).mono ?_
      rintro e wa ⟨rfl, hSa, hka⟩
      have hby := hSa.bytes
      dsimp only [Option.getD_some, Option.isSome_some] at hby ⊢
      rw [unhide HLY] at hby
      have HMa := hide ((unhide HM).kpt hka (.inl rfl))
      have HSBa := hide ((unhide HSB).kpt hka (.inr rfl))
      have HBY := hide hby
      clear hSa hka hby HC HM HSB
      go_wp2_with fail
      refine (unhide HBY).mono ?_
      rintro e wb ⟨ab, cb, rfl, hbs, hSb, hkb⟩
      have hmb := (unhide HMa).kpt hkb (.inl rfl)
      have hsm := same_any (some ⟨bm, om, none⟩) ab cm cb L Y wb hmb hbs
      rw [(unhide HQ).1, (unhide HQ).2, unhide HNN, unhide HLY, errV_zero] at hsm
      have HSM := hide hsm
      have HMb := hide hmb
      have HSBb := hide ((unhide HSBa).kpt hkb (.inr rfl))
      have HSb := hide hSb
      clear hbs hSb hkb hmb hsm HBY HMa HSBa
      go_wp2_with fail
      refine (unhide HSM).mono ?_
      rintro e wc ⟨rfl, hbc⟩
      have hc := (unhide HSb).same hbc
      have HMc := hide ((unhide HMb).kpt hc.2 (.inl rfl))
      have HSBc := hide ((unhide HSBb).kpt hc.2 (.inr rfl))
      have HSc := hide hc.1
      clear hbc hc HSM HMb HSBb HSb
      go_wp2
      go_roundw
      case rel => exact ⟨k + 1, Y, by go_num, unhide HKK, unhide HAs2, unhide HSc, unhide HMc, unhide HSBc⟩
      case measure => simp [intOf]; omega
    | none =>
      rw [hq] at HC
      obtain ⟨q1, q2⟩ := sf_same (unhide HL) hAs
      have hlX : X.length = N := by rw [hAs.len]; exact unhide HNN
      obtain ⟨O2, U2, F2, M2, R2, s2⟩ : ∃ O U F M R, Sta X O U F M R := ⟨_, _, _, _, _, Sta.of X⟩
      obtain ⟨rfl, rfl, rfl⟩ := (unhide HST).as s2 (unhide HL) hAs
      obtain ⟨rfl, hr1, hg0⟩ := s2.still (unhide HF) hq
      have HS2 := hide s2
      have HG0 := hide hg0
      have HLX := hide hlX
      have HQ := hide (And.intro q1 q2)
      clear hAs hq hkK q1 q2 hlX HF s2 hg0
      go_wp2_with fail
      refine (unhide HC).mono ?_
      rintro e wa ⟨rfl, hSa, hka⟩
      have hby := hSa.bytes
      dsimp only [Option.getD_none, Option.isSome_none] at hby ⊢
      rw [unhide HLX] at hby
      have HMa := hide ((unhide HM).kpt hka (.inl rfl))
      have HSBa := hide ((unhide HSB).kpt hka (.inr rfl))
      have HBY := hide hby
      clear hSa hka hby HC HM HSB
      go_wp2_with fail
      refine (unhide HBY).mono ?_
      rintro e wb ⟨ab, cb, rfl, hbs, hSb, hkb⟩
      have hmb := (unhide HMa).kpt hkb (.inl rfl)
      have hsm := same_any (some ⟨bm, om, none⟩) ab cm cb L X wb hmb hbs
      rw [(unhide HQ).1, (unhide HQ).2, unhide HNN, unhide HLX, errV_zero] at hsm
      have HSM := hide hsm
      have HSBb := hide ((unhide HSBa).kpt hkb (.inr rfl))
      have HSb := hide hSb
      clear hbs hSb hkb hmb hsm HBY HMa HSBa
      go_wp2_with fail
      refine (unhide HSM).mono ?_
      rintro e wc ⟨rfl, hbc⟩
      have hc := (unhide HSb).same hbc
      have HSBc := hide ((unhide HSBb).kpt hc.2 (.inr rfl))
      have HCc := hide (hc.1.heap (unhide HS2))
      clear hbc hc HSM HSBb HSb HS2
      go_wp2_with fail
      refine (unhide HCc).mono ?_
      rintro e wd ⟨rfl, hSd, hkd⟩
      have hsd := (unhide HSBc).kpt hkd (.inr rfl)
      have hA := hSd.add (.cells #[.int .i64 O2, .int .i64 U2, .int .i64 M2, .int .i64 M2, .int .i64 R2] 33)
      have hsd2 := hsd.kpt hA.2 (.inr rfl)
      have hse := StB.new wd O2 U2 M2 M2 R2
      have hgn := hA.1.gain
      rw [unhide HG0] at hgn
      obtain ⟨c0, c1, c2, c3, c4⟩ := hsd2.cells
      obtain ⟨d0, d1, d2, d3, d4⟩ := hse.cells
      have HGN := hide hgn
      clear hSd hkd hsd hA hsd2 hse hgn HCc HSBc
      have e1 : (O2 == O2) = true := by simp
      have e2 : (U2 == U2) = true := by simp
      have e3 : (M2 == M2) = true := by simp
      go_wp2_with fail
      refine (unhide HGN).mono ?_
      rintro e we ⟨rfl, hSe, _⟩
      have HBe := hide hSe.belowW
      clear hSe HGN
      go_wp2
      go_ret
      exact ⟨rfl, unhide HBe⟩
end Go.Proofs.YtpeglgkhpgifnaaGreat
