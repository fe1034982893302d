/-
  The walk of TopLong. (Part of the proof of TopLong.)
-/
import Derived.Test.YtgbglaceekiohaaGreatJTl
import Derived.Test.YtgbglaceekiohaaGreatJLg
import Derived.Test.YtgbglaceekiohaaGreatJOi
import Derived.Deep.RegionHeld3
import Derived.Deep.CutRange
namespace Go.Proofs.YtgbglaceekiohaaGreat
open Go.RowKit
set_option linter.unusedVariables false

/-- What is known at the head of the law's loop. -/
def TlHd (w wr : World) (p b9 b10 i : Nat) (sv : Value) : Prop :=
  ∃ (t x : Nat) (s : Int) (L : List Int) (now fill : Nat → Int), sv = .pointer (some ⟨t, 0, none⟩) ∧ s ≤ 2 + 2 * (i : Int) ∧ Tl w wr t p x s 32 80 L L (fun k => k = b9 ∨ k = b10) ∧ Lg nmF L now fill ∧ R4 wr b9 now ∧ R4 wr b10 fill
theorem TlHd.start {w w3 w4 : World} {t p x b9 b10 : Nat} (h : Tl w w3 t p x 2 32 80 (zerosB (32 * 32)) (zerosB (32 * 32)) (fun _ => False)) (hb : Below w3.heap.size w3 w4) (h9 : w3.heap.size ≤ b9) (h10 : w3.heap.size ≤ b10) (r9 : R4 w4 b9 (fun _ => 0)) (r10 : R4 w4 b10 (fun _ => 0)) :
    TlHd w w4 p b9 b10 0 (.pointer (some ⟨t, 0, none⟩)) :=
  ⟨t, x, 2, zerosB (32 * 32), fun _ => 0, fun _ => 0, rfl, by omega, h.add hb (fun k hk => .inr (by
    rcases hk with rfl | rfl
    · exact ⟨h9, r9.lt⟩
    · exact ⟨h10, r10.lt⟩)), Lg.start, r9, r10⟩
theorem TlHd.base {w wr : World} {p b9 b10 i : Nat} {sv : Value} (h : TlHd w wr p b9 b10 i sv) : Below w.heap.size w wr := by
  obtain ⟨t, x, s, L, now, fill, _, _, h, _⟩ := h
  exact h.base
theorem TlHd.next {w wr : World} {p b9 b10 i : Nat} {sv : Value} (h : TlHd w wr p b9 b10 i sv) : TlHd w wr p b9 b10 (i + 1) sv := by
  obtain ⟨t, x, s, L, now, fill, h1, h2, h3⟩ := h
  exact ⟨t, x, s, L, now, fill, h1, by omega, h3⟩
set_option maxRecDepth 100000 in
set_option maxHeartbeats 4000000 in
theorem walkTopLong (a0 : Option Addr) (cap0 : Nat) (l0 : List Int) (a1 : Option Addr) (cap1 : Nat) (l1 : List Int) (w : World) (h0 : Is w a0 cap0 l0) (h1 : Is w a1 cap1 l1) :
    Calls Tryz.prog 3 #[.slice a0 l0.length cap0, .slice a1 l1.length cap1] w fun e w' => e = .returned (.bool true) ∧ Below w.heap.size w w' := by
  have hl0 := h0.2.2.1
  have hl1 := h1.2.2.1
  have H0 := hide h0
  have H1 := hide h1
  have HO := hide (one_any w)
  clear h0 h1
  go_enter Tryz.func3, Tryz.ntmps3
  go_wp2_with fail
  refine (unhide HO).mono ?_
  rintro e w1 ⟨rfl, hb1⟩
  have HN := hide (new_live 80 w w1 hb1 (by decide) (by decide))
  clear hb1 HO
  go_wp2_with fail
  refine (unhide HN).mono ?_
  rintro e w2 ⟨p, S, rfl, hl, _, _⟩
  have HC := hide (tl_create (m := 32) hl (by decide) (by decide) rfl)
  clear hl HN
  go_wp2_with fail
  refine (unhide HC).mono ?_
  rintro e w3 ⟨t, x, rfl, htl⟩
  have HTL := hide htl
  clear htl HC
  go_wp2_with fail
  go_loopw [7, 8, 11] (fun ev sv iv wr => ∃ i : Nat, i ≤ 40 ∧ iv = .int .i64 i ∧ ev = .nilIface ∧ TlHd w wr p w3.heap.size (w3.heap.size + 1) i sv) (fun _ _ iv _ => 40 - (intOf iv).toNat)
  case atStart =>
    have hb : Below w3.heap.size w3 ((w3.alloc (.cells #[.int .i64 0, .int .i64 0, .int .i64 0, .int .i64 0] 32)).alloc (.cells #[.int .i64 0, .int .i64 0, .int .i64 0, .int .i64 0] 32)) := ((Below.refl _ _).alloc (Nat.le_refl _) _).alloc (by simp) _
    refine ⟨0, by omega, rfl, rfl, TlHd.start (unhide HTL) hb (Nat.le_refl _) (Nat.le_succ _) ((Below.heap_alloc _ _ _ (by simp)).trans (heap_alloc_new w3 _)) ?_⟩
    have := heap_alloc_new (w3.alloc (.cells #[.int .i64 0, .int .i64 0, .int .i64 0, .int .i64 0] 32)) (.cells #[.int .i64 0, .int .i64 0, .int .i64 0, .int .i64 0] 32)
    rw [size_alloc] at this
    exact this
  case round =>
    obtain ⟨i, hi, rfl, rfl, hhd⟩ := hrel
    have hbel := hhd.base
    have hb9 : w.heap.size ≤ w3.heap.size := (unhide HTL).base.size
    have HHD := hide hhd
    clear hhd HTL
    generalize w3.heap.size = b9 at *
    by_cases hin : i < l0.length ∧ i < l1.length ∧ i < 40
    · obtain ⟨hin0, hin1, hin2⟩ := hin
      obtain ⟨b0, o0, rfl, hc0⟩ := (unhide H0).2.2.2 (by intro e; rw [e] at hin0; simp at hin0)
      obtain ⟨b1, o1, rfl, hc1⟩ := (unhide H1).2.2.2 (by intro e; rw [e] at hin1; simp at hin1)
      have d0 := (hbel.cell (block_lt_of_cell (hc0 i hin0))).trans (hc0 i hin0)
      have d1 := (hbel.cell (block_lt_of_cell (hc1 i hin1))).trans (hc1 i hin1)
      have e0 : (i : Int) < (l0.length : Int) := by omega
      have e1 : (i : Int) < (l1.length : Int) := by omega
      have e2 : (i : Int) < 40 := by omega
      have e3 : (0 : Int) ≤ (i : Int) := by omega
      generalize l0.getD i 0 = n at *
      generalize l1.getD i 0 = kz at *
      clear hc0 hc1 hbel
      by_cases hg : 1 ≤ n ∧ n ≤ 60 ∧ 0 ≤ kz ∧ kz ≤ 3
      · obtain ⟨g1, g2, g3, g4⟩ := hg
        obtain ⟨k, hkz⟩ := Int.eq_ofNat_of_zero_le g3
        subst hkz
        have hk : k < 4 := by omega
        obtain ⟨t, x, s, L, now, fill, rfl, hs, htl, hlg, r9, r10⟩ := unhide HHD
        obtain ⟨A, W, C, M, Nn, H, rd⟩ := hlg.rnd (v := (i : Int) + 1) g1 g2 hk
        have HH1 := hide htl.heap
        have hal := htl.alloc rd.e1 rd.h1 (by rw [rd.a, rd.la, hlg.len])
        rw [rd.a] at hal
        have HAL := hide hal
        have HR9 := hide r9
        have HR10 := hide r10
        have RD := hide rd
        have HB9 : Hid (w.heap.size ≤ b9) := hide hb9
        obtain ⟨iu, hu0, hu1, hu2, hu3⟩ := info_parts info_u8
        clear htl hal r9 r10 HHD hlg rd hb9
        go_wp2_with fail
        refine (unhide HH1).mono ?_
        rintro e w4 ⟨rfl, rfl⟩
        go_wp2_with fail
        refine (unhide HAL).mono ?_
        rintro e w4 ⟨rfl, htl, hkp⟩
        have HR9 := hide ((unhide HR9).same (hkp b9 (.inl rfl)))
        have HR10 := hide ((unhide HR10).same (hkp (b9 + 1) (.inr rfl)))
        have HT4 := hide htl
        clear htl hkp HH1 HAL d0 d1
        go_wp2_with fail
        go_loopw [16, 17] (fun bv jv wq => ∃ j : Nat, (j : Int) ≤ n ∧ jv = .int .i64 j ∧ Lst byC 1 5 wq w4.heap.size bv (List.replicate j ((i : Int) + 1)) ∧ Below w4.heap.size w4 wq) (fun _ jv _ => n.toNat - (intOf jv).toNat)
        case atStart => exact ⟨0, by omega, rfl, Lst.nil _ _, Below.refl _ _⟩
        case round =>
          obtain ⟨j, hj, rfl, hls, hbq⟩ := hrel
          by_cases hjn : (j : Int) < n
          · have hBr := hbq.size
            have HO := hide (hls.below ((Below.refl _ wr).alloc (Nat.le_refl _) (.cells (byC ((i : Int) + 1)).toArray 5)))
            have HGN : Hid ((wr.alloc (.cells (byC ((i : Int) + 1)).toArray 5)).heap[wr.heap.size]? = some (.cells (byC ((i : Int) + 1)).toArray 5 (0, 0))) := hide (heap_alloc_new wr _)
            have HBA := hide (hbq.alloc hBr (.cells (byC ((i : Int) + 1)).toArray 5))
            have hsucc : Hid (List.replicate (j + 1) ((i : Int) + 1) = List.replicate j ((i : Int) + 1) ++ [(i : Int) + 1]) := hide (List.replicate_succ')
            clear hls hbq
            go_wp2_with (at_builtin; refine wpList_append_lst rfl _ _ 37 rfl w4.heap.size iu (.int .u8 0) 1 Tryz.underlying37 hu0 hu1 hu2 hu3 rfl (by decide) (by decide) _ _ rfl (unhide HO) wr.heap.size ((i : Int) + 1) rfl (unhide HGN) rfl (byC_one _) (by rw [List.length_replicate]; omega) (by simp; omega) ?_)
            intro v9 w9 hl9 hb9
            rw [← unhide hsucc] at hl9
            have HL9 := hide hl9
            have HB9' := hide ((unhide HBA).trans hb9)
            clear hl9 hb9 HO HGN HBA hsucc
            go_wp2
            go_roundw
            case rel => exact ⟨j + 1, by omega, by go_num, unhide HL9, unhide HB9'⟩
            case measure => simp [intOf]; omega
          · have hjn2 : n.toNat = j := by omega
            have hw : wrB A H 0 (List.replicate j ((i : Int) + 1)) = W := by rw [← hjn2]; exact (unhide RD).w
            obtain ⟨a5, c5, hv5, hbs5⟩ := hls.bytes (fun y hy => by rw [List.eq_of_mem_replicate hy]; omega) (by rw [List.length_replicate]; omega)
            rw [List.length_replicate] at hv5
            subst hv5
            have htl5 := (unhide HT4).below hbq
            have HR9 := hide ((unhide HR9).same (hbq.block b9 (unhide HR9).lt))
            have HR10 := hide ((unhide HR10).same (hbq.block (b9 + 1) (unhide HR10).lt))
            have hcut := fun W => nm4_cut W k hk
            have HH5 := hide htl5.heap
            have hwr := htl5.write (H := H) hbs5 (by rw [List.length_replicate, show ((j : Nat) : Int) = n by omega]; exact (unhide RD).p1) (by rw [hw, (unhide RD).lw, (unhide RD).la])
            rw [hw, List.length_replicate] at hwr
            have HW5 := hide hwr
            have hk0 : (0 : Int) ≤ (k : Int) := by omega
            have hk4 : (k : Int) < 4 := by omega
            clear hls hbs5 htl5 hwr hw hjn2 hbq HT4
            go_wp2_with fail
            refine (unhide HH5).mono ?_
            rintro e w6 ⟨rfl, rfl⟩
            go_wp2_with fail
            refine (unhide HW5).mono ?_
            rintro e w6 ⟨rfl, htl, hkp⟩
            have HR9 := hide ((unhide HR9).same (hkp b9 (.inl rfl)))
            have HR10 := hide ((unhide HR10).same (hkp (b9 + 1) (.inr rfl)))
            have HH6 := hide htl.heap
            have hst := htl.setRoot (nmF_size k) (unhide RD).s1 (by rw [(unhide RD).c, (unhide RD).lc, (unhide RD).lw])
            rw [(unhide RD).c] at hst
            generalize seO W (nmF k) H = so at hst
            have HS6 := hide hst
            clear htl hkp hst HH5 HW5 hcut
            go_wp2_with fail
            refine (unhide HH6).mono ?_
            rintro e w7 ⟨rfl, rfl⟩
            go_wp2_with fail
            refine (unhide HS6).mono ?_
            rintro e w7 ⟨rfl, htl, hkp⟩
            have HR9 := hide ((unhide HR9).same (hkp b9 (.inl rfl)))
            have HR10 := hide ((unhide HR10).same (hkp (b9 + 1) (.inr rfl)))
            have HH7 := hide htl.heap
            have hsw := htl.sweep (by rw [(unhide RD).m, (unhide RD).lm, (unhide RD).lc])
            rw [(unhide RD).m] at hsw
            generalize ((ddK C 40).length : Int) = dd at hsw
            have HS7 := hide hsw
            clear htl hkp hsw HH6 HS6
            go_wp2_with fail
            refine (unhide HH7).mono ?_
            rintro e w8 ⟨rfl, rfl⟩
            go_wp2_with fail
            refine (unhide HS7).mono ?_
            rintro e w8 ⟨rfl, htl, hkp⟩
            have HR9 := hide ((unhide HR9).same (hkp b9 (.inl rfl)))
            have HR10 := hide ((unhide HR10).same (hkp (b9 + 1) (.inr rfl)))
            have HC8 := hide (htl.commit (by omega) (unhide RD).d1)
            clear htl hkp HH7 HS7
            go_wp2_with fail
            refine (unhide HC8).mono ?_
            rintro e w9 ⟨rfl, s9, hs9, hs9', htl, hkp⟩
            have HR9 := hide ((unhide HR9).same (hkp b9 (.inl rfl)))
            have HR10 := hide ((unhide HR10).same (hkp (b9 + 1) (.inr rfl)))
            have HH9 := hide htl.heap
            have hmv := htl.all (by rw [(unhide RD).z, (unhide RD).lz, (unhide RD).lm])
            rw [(unhide RD).z] at hmv
            generalize hmm : (mvN 288 (srtE M) : Int) = mm at hmv
            clear hmm
            have HM9 := hide hmv
            clear htl hkp hmv HC8
            go_wp2_with fail
            refine (unhide HH9).mono ?_
            rintro e w10 ⟨rfl, rfl⟩
            go_wp2_with fail
            refine (unhide HM9).mono ?_
            rintro e w10 ⟨rfl, htl, hkp⟩
            have HR9 := hide ((unhide HR9).same (hkp b9 (.inl rfl)))
            have HR10 := hide ((unhide HR10).same (hkp (b9 + 1) (.inr rfl)))
            have HC10 := hide (htl.commit (by omega) (unhide RD).d2)
            clear htl hkp HH9 HM9
            go_wp2_with fail
            refine (unhide HC10).mono ?_
            rintro e w11 ⟨rfl, s11, hs11, hs11', htl, hkp⟩
            have hr9 := (unhide HR9).same (hkp b9 (.inl rfl))
            have hr10 := (unhide HR10).same (hkp (b9 + 1) (.inr rfl))
            have hT9 := htl.set (b := b9) (.inl rfl) (unhide HB9) k (.int .i64 n)
            have hT10 := hT9.set (b := b9 + 1) (.inr rfl) (Nat.le_succ_of_le (unhide HB9)) k (.int .i64 ((i : Int) + 1))
            have hne : b9 + 1 ≠ b9 := by omega
            have hr9a := hr9.set hk n
            have hr10a : R4 (w11.setCell ⟨b9, k, none⟩ (.int .i64 n)) (b9 + 1) fill := hr10.same (heap_setCell_other _ _ _ _ hne)
            have hr10b := hr10a.set hk ((i : Int) + 1)
            have hr9b := hr9a.same (heap_setCell_other (w11.setCell ⟨b9, k, none⟩ (.int .i64 n)) ⟨b9 + 1, k, none⟩ b9 (.int .i64 ((i : Int) + 1)) (fun e => hne e.symm))
            have c9 := hr9.cell hk
            have f9 := hr9.fr k
            have c10 := hr10.cell hk
            have f10 := hr10.fr k
            have c10a := hr10a.cell hk
            have f10a := hr10a.fr k
            have HLG := hide (unhide RD).lg
            have HR9 := hide hr9b
            have HR10 := hide hr10b
            have HCR := hide hT10.crash
            clear htl hkp hr9 hr10 hT9 hT10 hr9a hr10a hr10b hr9b HC10
            generalize hnw : (fun j => if j = k then n else now j) = now2 at *
            generalize hfl : (fun j => if j = k then (i : Int) + 1 else fill j) = fill2 at *
            clear hnw hfl
            go_wp2_with fail
            refine (unhide HCR).mono ?_
            rintro e w12 ⟨rfl, htl, hkp⟩
            have hr9 := (unhide HR9).same (hkp b9 (.inl rfl))
            have hr10 := (unhide HR10).same (hkp (b9 + 1) (.inr rfl))
            have HR9 := hide hr9
            have HR10 := hide hr10
            have HOP := hide htl.open
            clear htl hkp hr9 hr10 HCR c9 f9 c10 f10 c10a f10a
            go_wp2_with fail
            refine (unhide HOP).mono ?_
            rintro e w13 ⟨t2, x2, rfl, htl, hkp⟩
            have HST := hide (And.intro htl (And.intro ((unhide HR9).same (hkp b9 (.inl rfl))) ((unhide HR10).same (hkp (b9 + 1) (.inr rfl)))))
            have hsb : s11 ≤ 2 + 2 * ((i + 1 : Nat) : Int) := by omega
            clear htl hkp HOP HR9 HR10
            go_wp2_with fail
            go_loopw [28] (fun jv wq => ∃ j : Nat, j ≤ 4 ∧ jv = .int .i64 j ∧ Tl w wq t2 p x2 s11 32 80 Nn Nn (fun k => k = b9 ∨ k = b9 + 1) ∧ R4 wq b9 now2 ∧ R4 wq (b9 + 1) fill2) (fun jv _ => 4 - (intOf jv).toNat)
            case atStart => exact ⟨0, by omega, rfl, (unhide HST).1, (unhide HST).2.1, (unhide HST).2.2⟩
            case round =>
              obtain ⟨j2, hj2, rfl, htl, hr9, hr10⟩ := hrel
              clear HST
              by_cases hjl : j2 < 4
              · have ej : (j2 : Int) < 4 := by omega
                have ej0 : (0 : Int) ≤ (j2 : Int) := by omega
                have hcut := fun W => nm4_cut W j2 hjl
                have hwrap : IntKind.i64.wrap ((j2 : Int) + 1) = (j2 : Int) + 1 := by rw [IntKind.wrap_i64]; omega
                have hbd : Below wr.heap.size wr wr.drew := below_drew (Below.refl _ _)
                have HH := hide (htl.below hbd).heap
                have HR9 := hide (hr9.same (hbd.block b9 hr9.lt))
                have HR10 := hide (hr10.same (hbd.block (b9 + 1) hr10.lt))
                have hget := (htl.below hbd).get (nmF j2) 0 (nmF_size j2)
                have hbyt := htl.byt
                have c9 := hr9.cell hjl
                obtain ⟨nj, hnj⟩ : ∃ nj, now2 j2 = nj := ⟨_, rfl⟩
                have HNJ := hide hnj
                rw [hnj] at c9
                rcases (unhide HLG).got hjl with ⟨hz, hgE⟩ | ⟨hpos, xg, hgot⟩
                · have hgH : gtH Nn (nmF j2) 0 = 0 := by unfold gtH; rw [hgE]; rfl
                  rw [hgE, hgH, errV_pos 5 (by decide)] at hget
                  rw [hnj] at hz
                  have HG := hide hget
                  clear hget hgE hgH htl hr9 hr10 hbyt hnj hbd
                  go_wp2_with fail
                  refine wp_region_held_drew (S := fun _ => True) (by kernel_rfl) trivial (fun hHeld => ?_)
                  refine wpAnyH_take (i := 0) (oi := { dst := some 184, op := Op.move (Operand.tmp 8), type := 29, pos := "top.go:278", after := #[], guard := none }) (v := .pointer (some ⟨t2, 0, none⟩)) rfl (by kernel_rfl) (by kernel_rfl) (by kernel_rfl) (fun _ _ _ h => h) (Or.inl ⟨by rfl, fun wq hSw => by (try dsimp only at hSw); go_simp⟩) (by assumption) ?_
                  try simp only [Act.put, List.setIfInBounds_toArray, List.set_cons_zero, List.set_cons_succ]
                  refine wpAnyH_take (i := 2) (oi := { dst := some 186, op := Op.move (Operand.tmp 28), type := 3, pos := "top.go:278", after := #[], guard := none }) (v := .int .i64 (j2 : Int)) rfl (by kernel_rfl) (by kernel_rfl) (by kernel_rfl) (fun _ _ _ h => h) (Or.inl ⟨by rfl, fun wq hSw => by (try dsimp only at hSw); go_simp⟩) (by assumption) ?_
                  try simp only [Act.put, List.setIfInBounds_toArray, List.set_cons_zero, List.set_cons_succ]
                  refine wpAnyH_take (i := 3) (oi := { dst := some 187, op := Op.move (Operand.tmp 28), type := 3, pos := "top.go:278", after := #[], guard := none }) (v := .int .i64 (j2 : Int)) rfl (by kernel_rfl) (by kernel_rfl) (by kernel_rfl) (fun _ _ _ h => h) (Or.inl ⟨by rfl, fun wq hSw => by (try dsimp only at hSw); go_simp⟩) (by assumption) ?_
                  try simp only [Act.put, List.setIfInBounds_toArray, List.set_cons_zero, List.set_cons_succ]
                  refine wpAnyH_take (i := 4) (oi := { dst := some 188, op := Op.binOp BinOp.add 3 (Operand.tmp 187) (Operand.const (Value.int IntKind.i64 1)) 3, type := 3, pos := "top.go:278", after := #[{ on := 3, ground := Ground.data }], guard := none }) (v := .int .i64 ((j2 : Int) + 1)) rfl (by kernel_rfl) (by kernel_rfl) (by kernel_rfl) (fun _ _ _ h => h) (Or.inl ⟨by rfl, fun wq hSw => by (try dsimp only at hSw); go_simp⟩) (by assumption) ?_
                  try simp only [Act.put, List.setIfInBounds_toArray, List.set_cons_zero, List.set_cons_succ]
                  refine wpAnyH_take (i := 5) (oi := { dst := some 189, op := Op.slice 9 (Operand.const (Value.string { data := #[97, 98, 99, 100] })) (some (Operand.tmp 186)) (some (Operand.tmp 188)) none, type := 9, pos := "top.go:278", after := #[{ on := 2, ground := Ground.data }, { on := 4, ground := Ground.data }], guard := none }) (v := .string (nmF j2)) rfl (by kernel_rfl) (by kernel_rfl) (by kernel_rfl) (fun _ _ _ h => h) (Or.inl ⟨by rfl, fun wq hSw => by (try dsimp only at hSw); go_simp⟩) (by assumption) ?_
                  try simp only [Act.put, List.setIfInBounds_toArray, List.set_cons_zero, List.set_cons_succ]
                  refine wpAnyH_ready (rs := [1]) (by kernel_rfl) (by simp) ?_
                  refine AllReadyH.cons (o := { dst := some 185, op := Op.call { callee := Callee.value (Operand.func 7), args := #[Operand.tmp 184], argTypes := #[29] }, type := 34, pos := "top.go:278", after := #[{ on := 0, ground := Ground.data }], guard := none }) rfl (fun K hK => ?_) AllReadyH.nil
                  go_simp
                  refine (unhide HH).mono ?_
                  rintro e w1 ⟨rfl, hw1⟩
                  subst hw1
                  refine hK.out _ _ hHeld (fun hHeld1 => ?_)
                  clear hK K hHeld
                  try simp only [Act.put, List.setIfInBounds_toArray, List.set_cons_zero, List.set_cons_succ]
                  refine wpAnyH_ready (rs := [6]) (by kernel_rfl) (by simp) ?_
                  refine AllReadyH.cons (o := { dst := some 190, op := Op.call { callee := Callee.value (Operand.func 16), args := #[Operand.tmp 185, Operand.tmp 189, Operand.const (Value.int IntKind.i64 0)], argTypes := #[34, 9, 3] }, type := 33, pos := "top.go:278", after := #[{ on := 1, ground := Ground.data }, { on := 5, ground := Ground.data }, { on := 1, ground := Ground.chain }], guard := none }) rfl (fun K hK => ?_) AllReadyH.nil
                  go_simp
                  refine (unhide HG).mono ?_
                  rintro e w2 ⟨rfl, htl, hkp⟩
                  refine hK.out _ _ hHeld1 (fun hHeld2 => ?_)
                  clear hK K hHeld1
                  try simp only [Act.put, List.setIfInBounds_toArray, List.set_cons_zero, List.set_cons_succ]
                  refine wpAnyH_take (i := 7) (oi := { dst := some 183, op := Op.move (Operand.tmp 190), type := 33, pos := "top.go:278", after := #[{ on := 6, ground := Ground.data }], guard := none }) (v := .tuple #[.int .i64 0, .iface 49 (.int .i64 5)]) rfl (by kernel_rfl) (by kernel_rfl) (by kernel_rfl) (fun _ _ _ h => h) (Or.inl ⟨by rfl, fun wq hSw => by (try dsimp only at hSw); go_simp⟩) (by assumption) ?_
                  try simp only [Act.put, List.setIfInBounds_toArray, List.set_cons_zero, List.set_cons_succ]
                  refine wpAnyH_take (i := 8) (oi := { dst := some 191, op := Op.extract (Operand.tmp 183) 0, type := 3, pos := "top.go:278", after := #[{ on := 7, ground := Ground.data }], guard := none }) (v := .int .i64 0) rfl (by kernel_rfl) (by kernel_rfl) (by kernel_rfl) (fun _ _ _ h => h) (Or.inl ⟨by rfl, fun wq hSw => by (try dsimp only at hSw); go_simp⟩) (by assumption) ?_
                  try simp only [Act.put, List.setIfInBounds_toArray, List.set_cons_zero, List.set_cons_succ]
                  refine wpAnyH_take (i := 9) (oi := { dst := some 192, op := Op.extract (Operand.tmp 183) 1, type := 26, pos := "top.go:278", after := #[{ on := 7, ground := Ground.data }, { on := 10, ground := Ground.gcOnly Departure.lateStores }], guard := none }) (v := .iface 49 (.int .i64 5)) rfl (by kernel_rfl) (by kernel_rfl) (by kernel_rfl) (fun _ _ _ h => h) (Or.inl ⟨by rfl, fun wq hSw => by (try dsimp only at hSw); go_simp⟩) (by assumption) ?_
                  try simp only [Act.put, List.setIfInBounds_toArray, List.set_cons_zero, List.set_cons_succ]
                  refine wpAnyH_take (i := 10) (oi := { dst := some 29, op := Op.assign (Operand.tmp 191), type := 3, pos := "top.go:278", after := #[{ on := 8, ground := Ground.data }, { on := 6, ground := Ground.chain }, { on := 0, ground := Ground.phase }, { on := 1, ground := Ground.phase }, { on := 2, ground := Ground.phase }, { on := 3, ground := Ground.phase }, { on := 4, ground := Ground.phase }, { on := 5, ground := Ground.phase }, { on := 6, ground := Ground.phase }, { on := 7, ground := Ground.phase }, { on := 8, ground := Ground.phase }, { on := 9, ground := Ground.textOnly Departure.lateStores }], guard := none }) (v := .int .i64 0) rfl (by kernel_rfl) (by kernel_rfl) (by kernel_rfl) (fun _ _ _ h => h) (Or.inl ⟨by rfl, fun wq hSw => by (try dsimp only at hSw); go_simp⟩) (by assumption) ?_
                  try simp only [Act.put, List.setIfInBounds_toArray, List.set_cons_zero, List.set_cons_succ]
                  refine wpAnyH_take (i := 11) (oi := { dst := some 30, op := Op.assign (Operand.tmp 192), type := 26, pos := "top.go:278", after := #[{ on := 9, ground := Ground.data }, { on := 10, ground := Ground.chain }, { on := 0, ground := Ground.phase }, { on := 1, ground := Ground.phase }, { on := 2, ground := Ground.phase }, { on := 3, ground := Ground.phase }, { on := 4, ground := Ground.phase }, { on := 5, ground := Ground.phase }, { on := 6, ground := Ground.phase }, { on := 7, ground := Ground.phase }, { on := 8, ground := Ground.phase }, { on := 9, ground := Ground.phase }, { on := 10, ground := Ground.phase }], guard := none }) (v := .iface 49 (.int .i64 5)) rfl (by kernel_rfl) (by kernel_rfl) (by kernel_rfl) (fun _ _ _ h => h) (Or.inl ⟨by rfl, fun wq hSw => by (try dsimp only at hSw); go_simp⟩) (by assumption) ?_
                  try simp only [Act.put, List.setIfInBounds_toArray, List.set_cons_zero, List.set_cons_succ]
                  refine wpAnyH_done (by kernel_rfl) ?_ _
                  have hr9 := (unhide HR9).same (hkp b9 (.inl rfl))
                  have hr10 := (unhide HR10).same (hkp (b9 + 1) (.inr rfl))
                  have c9 := hr9.cell hjl
                  rw [unhide HNJ, hz] at c9
                  have HFIN := hide (And.intro htl (And.intro hr9 hr10))
                  clear htl hkp hr9 hr10 HH HG HR9 HR10 hHeld2 hcut hz hwrap
                  go_wp2_with fail
                  go_quiet (fail)
                  go_wp2
                  go_roundw
                  case rel =>
                    have hbn := below_drewN (Below.refl w2.heap.size w2) nq
                    exact ⟨j2 + 1, by omega, by go_num, (unhide HFIN).1.below hbn, (unhide HFIN).2.1.same (hbn.block b9 (unhide HFIN).2.1.lt), (unhide HFIN).2.2.same (hbn.block (b9 + 1) (unhide HFIN).2.2.lt)⟩
                  case measure => simp [intOf]; omega
                · rw [hgot.e, hgot.h, errV_zero] at hget
                  rw [hnj] at hpos
                  have HG := hide hget
                  obtain ⟨fj, hfj⟩ : ∃ fj, fill2 j2 = fj := ⟨_, rfl⟩
                  obtain ⟨q1, hq1⟩ : ∃ q1 : Nat, nj = ((q1 + 1 : Nat) : Int) := ⟨(nj - 1).toNat, by omega⟩
                  have hr := hgot.r
                  rw [hnj, hfj, show nj.toNat = q1 + 1 by omega] at hr
                  have hfb : 0 ≤ fj ∧ fj ≤ 255 := rdL_byt hbyt xg 0 nj fj (by rw [hr]; simp)
                  have hp := hgot.p
                  have hsz := hgot.s
                  have hck := hgot.k
                  have hn60 := hgot.n60
                  rw [hnj] at hp hsz hn60
                  have HX := hide (And.intro hr (And.intro hp (And.intro hsz hck)))
                  have HFJ := hide hfj
                  have HQ1 := hide hq1
                  clear hget hgot hr hp hsz hck htl hr9 hr10 hbyt hnj hfj hbd hq1
                  go_wp2_with fail
                  refine wp_region_held_drew (S := fun _ => True) (by kernel_rfl) trivial (fun hHeld => ?_)
                  refine wpAnyH_take (i := 0) (oi := { dst := some 184, op := Op.move (Operand.tmp 8), type := 29, pos := "top.go:278", after := #[], guard := none }) (v := .pointer (some ⟨t2, 0, none⟩)) rfl (by kernel_rfl) (by kernel_rfl) (by kernel_rfl) (fun _ _ _ h => h) (Or.inl ⟨by rfl, fun wq hSw => by (try dsimp only at hSw); go_simp⟩) (by assumption) ?_
                  try simp only [Act.put, List.setIfInBounds_toArray, List.set_cons_zero, List.set_cons_succ]
                  refine wpAnyH_take (i := 2) (oi := { dst := some 186, op := Op.move (Operand.tmp 28), type := 3, pos := "top.go:278", after := #[], guard := none }) (v := .int .i64 (j2 : Int)) rfl (by kernel_rfl) (by kernel_rfl) (by kernel_rfl) (fun _ _ _ h => h) (Or.inl ⟨by rfl, fun wq hSw => by (try dsimp only at hSw); go_simp⟩) (by assumption) ?_
                  try simp only [Act.put, List.setIfInBounds_toArray, List.set_cons_zero, List.set_cons_succ]
                  refine wpAnyH_take (i := 3) (oi := { dst := some 187, op := Op.move (Operand.tmp 28), type := 3, pos := "top.go:278", after := #[], guard := none }) (v := .int .i64 (j2 : Int)) rfl (by kernel_rfl) (by kernel_rfl) (by kernel_rfl) (fun _ _ _ h => h) (Or.inl ⟨by rfl, fun wq hSw => by (try dsimp only at hSw); go_simp⟩) (by assumption) ?_
                  try simp only [Act.put, List.setIfInBounds_toArray, List.set_cons_zero, List.set_cons_succ]
                  refine wpAnyH_take (i := 4) (oi := { dst := some 188, op := Op.binOp BinOp.add 3 (Operand.tmp 187) (Operand.const (Value.int IntKind.i64 1)) 3, type := 3, pos := "top.go:278", after := #[{ on := 3, ground := Ground.data }], guard := none }) (v := .int .i64 ((j2 : Int) + 1)) rfl (by kernel_rfl) (by kernel_rfl) (by kernel_rfl) (fun _ _ _ h => h) (Or.inl ⟨by rfl, fun wq hSw => by (try dsimp only at hSw); go_simp⟩) (by assumption) ?_
                  try simp only [Act.put, List.setIfInBounds_toArray, List.set_cons_zero, List.set_cons_succ]
                  refine wpAnyH_take (i := 5) (oi := { dst := some 189, op := Op.slice 9 (Operand.const (Value.string { data := #[97, 98, 99, 100] })) (some (Operand.tmp 186)) (some (Operand.tmp 188)) none, type := 9, pos := "top.go:278", after := #[{ on := 2, ground := Ground.data }, { on := 4, ground := Ground.data }], guard := none }) (v := .string (nmF j2)) rfl (by kernel_rfl) (by kernel_rfl) (by kernel_rfl) (fun _ _ _ h => h) (Or.inl ⟨by rfl, fun wq hSw => by (try dsimp only at hSw); go_simp⟩) (by assumption) ?_
                  try simp only [Act.put, List.setIfInBounds_toArray, List.set_cons_zero, List.set_cons_succ]
                  refine wpAnyH_ready (rs := [1]) (by kernel_rfl) (by simp) ?_
                  refine AllReadyH.cons (o := { dst := some 185, op := Op.call { callee := Callee.value (Operand.func 7), args := #[Operand.tmp 184], argTypes := #[29] }, type := 34, pos := "top.go:278", after := #[{ on := 0, ground := Ground.data }], guard := none }) rfl (fun K hK => ?_) AllReadyH.nil
                  go_simp
                  refine (unhide HH).mono ?_
                  rintro e w1 ⟨rfl, hw1⟩
                  subst hw1
                  refine hK.out _ _ hHeld (fun hHeld1 => ?_)
                  clear hK K hHeld
                  try simp only [Act.put, List.setIfInBounds_toArray, List.set_cons_zero, List.set_cons_succ]
                  refine wpAnyH_ready (rs := [6]) (by kernel_rfl) (by simp) ?_
                  refine AllReadyH.cons (o := { dst := some 190, op := Op.call { callee := Callee.value (Operand.func 16), args := #[Operand.tmp 185, Operand.tmp 189, Operand.const (Value.int IntKind.i64 0)], argTypes := #[34, 9, 3] }, type := 33, pos := "top.go:278", after := #[{ on := 1, ground := Ground.data }, { on := 5, ground := Ground.data }, { on := 1, ground := Ground.chain }], guard := none }) rfl (fun K hK => ?_) AllReadyH.nil
                  go_simp
                  refine (unhide HG).mono ?_
                  rintro e w2 ⟨rfl, htl, hkp⟩
                  refine hK.out _ _ hHeld1 (fun hHeld2 => ?_)
                  clear hK K hHeld1
                  try simp only [Act.put, List.setIfInBounds_toArray, List.set_cons_zero, List.set_cons_succ]
                  refine wpAnyH_take (i := 7) (oi := { dst := some 183, op := Op.move (Operand.tmp 190), type := 33, pos := "top.go:278", after := #[{ on := 6, ground := Ground.data }], guard := none }) (v := .tuple #[.int .i64 xg, .nilIface]) rfl (by kernel_rfl) (by kernel_rfl) (by kernel_rfl) (fun _ _ _ h => h) (Or.inl ⟨by rfl, fun wq hSw => by (try dsimp only at hSw); go_simp⟩) (by assumption) ?_
                  try simp only [Act.put, List.setIfInBounds_toArray, List.set_cons_zero, List.set_cons_succ]
                  refine wpAnyH_take (i := 8) (oi := { dst := some 191, op := Op.extract (Operand.tmp 183) 0, type := 3, pos := "top.go:278", after := #[{ on := 7, ground := Ground.data }], guard := none }) (v := .int .i64 xg) rfl (by kernel_rfl) (by kernel_rfl) (by kernel_rfl) (fun _ _ _ h => h) (Or.inl ⟨by rfl, fun wq hSw => by (try dsimp only at hSw); go_simp⟩) (by assumption) ?_
                  try simp only [Act.put, List.setIfInBounds_toArray, List.set_cons_zero, List.set_cons_succ]
                  refine wpAnyH_take (i := 9) (oi := { dst := some 192, op := Op.extract (Operand.tmp 183) 1, type := 26, pos := "top.go:278", after := #[{ on := 7, ground := Ground.data }, { on := 10, ground := Ground.gcOnly Departure.lateStores }], guard := none }) (v := .nilIface) rfl (by kernel_rfl) (by kernel_rfl) (by kernel_rfl) (fun _ _ _ h => h) (Or.inl ⟨by rfl, fun wq hSw => by (try dsimp only at hSw); go_simp⟩) (by assumption) ?_
                  try simp only [Act.put, List.setIfInBounds_toArray, List.set_cons_zero, List.set_cons_succ]
                  refine wpAnyH_take (i := 10) (oi := { dst := some 29, op := Op.assign (Operand.tmp 191), type := 3, pos := "top.go:278", after := #[{ on := 8, ground := Ground.data }, { on := 6, ground := Ground.chain }, { on := 0, ground := Ground.phase }, { on := 1, ground := Ground.phase }, { on := 2, ground := Ground.phase }, { on := 3, ground := Ground.phase }, { on := 4, ground := Ground.phase }, { on := 5, ground := Ground.phase }, { on := 6, ground := Ground.phase }, { on := 7, ground := Ground.phase }, { on := 8, ground := Ground.phase }, { on := 9, ground := Ground.textOnly Departure.lateStores }], guard := none }) (v := .int .i64 xg) rfl (by kernel_rfl) (by kernel_rfl) (by kernel_rfl) (fun _ _ _ h => h) (Or.inl ⟨by rfl, fun wq hSw => by (try dsimp only at hSw); go_simp⟩) (by assumption) ?_
                  try simp only [Act.put, List.setIfInBounds_toArray, List.set_cons_zero, List.set_cons_succ]
                  refine wpAnyH_take (i := 11) (oi := { dst := some 30, op := Op.assign (Operand.tmp 192), type := 26, pos := "top.go:278", after := #[{ on := 9, ground := Ground.data }, { on := 10, ground := Ground.chain }, { on := 0, ground := Ground.phase }, { on := 1, ground := Ground.phase }, { on := 2, ground := Ground.phase }, { on := 3, ground := Ground.phase }, { on := 4, ground := Ground.phase }, { on := 5, ground := Ground.phase }, { on := 6, ground := Ground.phase }, { on := 7, ground := Ground.phase }, { on := 8, ground := Ground.phase }, { on := 9, ground := Ground.phase }, { on := 10, ground := Ground.phase }], guard := none }) (v := .nilIface) rfl (by kernel_rfl) (by kernel_rfl) (by kernel_rfl) (fun _ _ _ h => h) (Or.inl ⟨by rfl, fun wq hSw => by (try dsimp only at hSw); go_simp⟩) (by assumption) ?_
                  try simp only [Act.put, List.setIfInBounds_toArray, List.set_cons_zero, List.set_cons_succ]
                  refine wpAnyH_done (by kernel_rfl) ?_ _
                  have hr9 := (unhide HR9).same (hkp b9 (.inl rfl))
                  have hr10 := (unhide HR10).same (hkp (b9 + 1) (.inr rfl))
                  have c9 := hr9.cell hjl
                  rw [unhide HNJ] at c9
                  have HFIN := hide (And.intro htl (And.intro hr9 hr10))
                  have hposT : 0 < nj := by omega
                  have hpos0 : ¬ nj = 0 := by omega
                  clear htl hkp hr9 hr10 HH HG HR9 HR10 hHeld2 hcut hwrap
                  go_wp2_with fail
                  go_quiet (fail)
                  go_wp2_with fail
                  have hbn : Below w2.heap.size w2 (w2.drewN nq) := below_drewN (Below.refl _ _) nq
                  have hbn2 : Below w2.heap.size w2 (w2.drewN nq).drew := below_drew hbn
                  have htlN := (unhide HFIN).1.below hbn2
                  have HH2 := hide htlN.heap
                  have hrd := htlN.read (H := xg) (b := nj) (by omega) (unhide HX).2.1 (unhide HX).1 (by simp)
                  rw [List.length_replicate] at hrd
                  have HRD := hide hrd
                  have HR9 := hide ((unhide HFIN).2.1.same (hbn2.block b9 (unhide HFIN).2.1.lt))
                  have HR10 := hide ((unhide HFIN).2.2.same (hbn2.block (b9 + 1) (unhide HFIN).2.2.lt))
                  have c9 := (unhide HR9).cell hjl
                  rw [unhide HNJ] at c9
                  clear hbn hbn2 htlN hrd HFIN
                  generalize w2.drewN nq = wn at *
                  refine wp_region_held_drew (S := fun wq => wq.cell? ⟨b9, j2, none⟩ = some (.int .i64 nj)) (by kernel_rfl) c9 (fun hHeld => ?_)
                  refine wpAnyH_take (i := 0) (oi := { dst := some 205, op := Op.move (Operand.tmp 8), type := 29, pos := "top.go:285", after := #[], guard := none }) (v := .pointer (some ⟨t2, 0, none⟩)) rfl (by kernel_rfl) (by kernel_rfl) (by kernel_rfl) (fun _ _ _ h => h) (Or.inl ⟨by rfl, fun wq hSw => by (try dsimp only at hSw); go_simp⟩) (by assumption) ?_
                  try simp only [Act.put, List.setIfInBounds_toArray, List.set_cons_zero, List.set_cons_succ]
                  refine wpAnyH_take (i := 2) (oi := { dst := some 207, op := Op.move (Operand.tmp 29), type := 3, pos := "top.go:285", after := #[], guard := none }) (v := .int .i64 xg) rfl (by kernel_rfl) (by kernel_rfl) (by kernel_rfl) (fun _ _ _ h => h) (Or.inl ⟨by rfl, fun wq hSw => by (try dsimp only at hSw); go_simp⟩) (by assumption) ?_
                  try simp only [Act.put, List.setIfInBounds_toArray, List.set_cons_zero, List.set_cons_succ]
                  refine wpAnyH_take (i := 3) (oi := { dst := some 208, op := Op.move (Operand.tmp 28), type := 3, pos := "top.go:285", after := #[], guard := none }) (v := .int .i64 (j2 : Int)) rfl (by kernel_rfl) (by kernel_rfl) (by kernel_rfl) (fun _ _ _ h => h) (Or.inl ⟨by rfl, fun wq hSw => by (try dsimp only at hSw); go_simp⟩) (by assumption) ?_
                  try simp only [Act.put, List.setIfInBounds_toArray, List.set_cons_zero, List.set_cons_succ]
                  refine wpAnyH_take (i := 4) (oi := { dst := some 209, op := Op.indexAddr 32 (Operand.tmp 9) (Operand.tmp 208), type := 0, pos := "top.go:285", after := #[{ on := 3, ground := Ground.data }], guard := none }) (v := .pointer (some ⟨b9, j2, none⟩)) rfl (by kernel_rfl) (by kernel_rfl) (by kernel_rfl) (fun _ _ _ h => h) (Or.inl ⟨by rfl, fun wq hSw => by (try dsimp only at hSw); go_simp⟩) (by assumption) ?_
                  try simp only [Act.put, List.setIfInBounds_toArray, List.set_cons_zero, List.set_cons_succ]
                  refine wpAnyH_take (i := 5) (oi := { dst := some 210, op := Op.load 3 (Operand.tmp 209), type := 3, pos := "top.go:285", after := #[{ on := 4, ground := Ground.data }], guard := none }) (v := .int .i64 nj) rfl (by kernel_rfl) (by kernel_rfl) (by kernel_rfl) (fun _ _ _ h => h) (Or.inl ⟨by rfl, fun wq hSw => by (try dsimp only at hSw); go_simp⟩) (by assumption) ?_
                  try simp only [Act.put, List.setIfInBounds_toArray, List.set_cons_zero, List.set_cons_succ]
                  refine wpAnyH_ready (rs := [1]) (by kernel_rfl) (by simp) ?_
                  refine AllReadyH.cons (o := { dst := some 206, op := Op.call { callee := Callee.value (Operand.func 7), args := #[Operand.tmp 205], argTypes := #[29] }, type := 34, pos := "top.go:285", after := #[{ on := 0, ground := Ground.data }], guard := none }) rfl (fun K hK => ?_) AllReadyH.nil
                  go_simp
                  refine (unhide HH2).mono ?_
                  rintro e w1 ⟨rfl, hw1⟩
                  subst hw1
                  refine hK.out _ _ hHeld (fun hHeld1 => ?_)
                  clear hK K hHeld
                  try simp only [Act.put, List.setIfInBounds_toArray, List.set_cons_zero, List.set_cons_succ]
                  refine wpAnyH_ready (rs := [6]) (by kernel_rfl) (by simp) ?_
                  refine AllReadyH.cons (o := { dst := some 211, op := Op.call { callee := Callee.value (Operand.func 17), args := #[Operand.tmp 206, Operand.tmp 207, Operand.const (Value.int IntKind.i64 0), Operand.tmp 210], argTypes := #[34, 3, 3, 3] }, type := 45, pos := "top.go:285", after := #[{ on := 1, ground := Ground.data }, { on := 2, ground := Ground.data }, { on := 5, ground := Ground.data }, { on := 1, ground := Ground.chain }], guard := none }) rfl (fun K hK => ?_) AllReadyH.nil
                  go_simp
                  refine (unhide HRD).mono ?_
                  rintro e w3 ⟨⟨gy, cy, rfl, hcy, hcell⟩, htl, hkp⟩
                  have hr9 := (unhide HR9).same (hkp b9 (.inl rfl))
                  have hr10 := (unhide HR10).same (hkp (b9 + 1) (.inr rfl))
                  have k9 := hr9.cell hjl
                  rw [unhide HNJ] at k9
                  refine hK.out _ _ k9 (fun hHeld2 => ?_)
                  clear hK K hHeld1
                  try simp only [Act.put, List.setIfInBounds_toArray, List.set_cons_zero, List.set_cons_succ]
                  refine wpAnyH_take (i := 7) (oi := { dst := some 204, op := Op.move (Operand.tmp 211), type := 45, pos := "top.go:285", after := #[{ on := 6, ground := Ground.data }], guard := none }) (v := .tuple #[.slice (some ⟨gy, 0, none⟩) (q1 + 1) cy, .nilIface]) rfl (by kernel_rfl) (by kernel_rfl) (by kernel_rfl) (fun _ _ _ h => h) (Or.inl ⟨by rfl, fun wq hSw => by (try dsimp only at hSw); go_simp⟩) (by assumption) ?_
                  try simp only [Act.put, List.setIfInBounds_toArray, List.set_cons_zero, List.set_cons_succ]
                  refine wpAnyH_take (i := 8) (oi := { dst := some 212, op := Op.extract (Operand.tmp 204) 0, type := 37, pos := "top.go:285", after := #[{ on := 7, ground := Ground.data }], guard := none }) (v := .slice (some ⟨gy, 0, none⟩) (q1 + 1) cy) rfl (by kernel_rfl) (by kernel_rfl) (by kernel_rfl) (fun _ _ _ h => h) (Or.inl ⟨by rfl, fun wq hSw => by (try dsimp only at hSw); go_simp⟩) (by assumption) ?_
                  try simp only [Act.put, List.setIfInBounds_toArray, List.set_cons_zero, List.set_cons_succ]
                  refine wpAnyH_take (i := 9) (oi := { dst := some 213, op := Op.extract (Operand.tmp 204) 1, type := 26, pos := "top.go:285", after := #[{ on := 7, ground := Ground.data }, { on := 10, ground := Ground.gcOnly Departure.lateStores }], guard := none }) (v := .nilIface) rfl (by kernel_rfl) (by kernel_rfl) (by kernel_rfl) (fun _ _ _ h => h) (Or.inl ⟨by rfl, fun wq hSw => by (try dsimp only at hSw); go_simp⟩) (by assumption) ?_
                  try simp only [Act.put, List.setIfInBounds_toArray, List.set_cons_zero, List.set_cons_succ]
                  refine wpAnyH_take (i := 10) (oi := { dst := some 31, op := Op.assign (Operand.tmp 212), type := 37, pos := "top.go:285", after := #[{ on := 8, ground := Ground.data }, { on := 6, ground := Ground.chain }, { on := 0, ground := Ground.phase }, { on := 1, ground := Ground.phase }, { on := 2, ground := Ground.phase }, { on := 3, ground := Ground.phase }, { on := 4, ground := Ground.phase }, { on := 5, ground := Ground.phase }, { on := 6, ground := Ground.phase }, { on := 7, ground := Ground.phase }, { on := 8, ground := Ground.phase }, { on := 9, ground := Ground.textOnly Departure.lateStores }], guard := none }) (v := .slice (some ⟨gy, 0, none⟩) (q1 + 1) cy) rfl (by kernel_rfl) (by kernel_rfl) (by kernel_rfl) (fun _ _ _ h => h) (Or.inl ⟨by rfl, fun wq hSw => by (try dsimp only at hSw); go_simp⟩) (by assumption) ?_
                  try simp only [Act.put, List.setIfInBounds_toArray, List.set_cons_zero, List.set_cons_succ]
                  refine wpAnyH_take (i := 11) (oi := { dst := some 30, op := Op.assign (Operand.tmp 213), type := 26, pos := "top.go:285", after := #[{ on := 9, ground := Ground.data }, { on := 10, ground := Ground.chain }, { on := 0, ground := Ground.phase }, { on := 1, ground := Ground.phase }, { on := 2, ground := Ground.phase }, { on := 3, ground := Ground.phase }, { on := 4, ground := Ground.phase }, { on := 5, ground := Ground.phase }, { on := 6, ground := Ground.phase }, { on := 7, ground := Ground.phase }, { on := 8, ground := Ground.phase }, { on := 9, ground := Ground.phase }, { on := 10, ground := Ground.phase }], guard := none }) (v := .nilIface) rfl (by kernel_rfl) (by kernel_rfl) (by kernel_rfl) (fun _ _ _ h => h) (Or.inl ⟨by rfl, fun wq hSw => by (try dsimp only at hSw); go_simp⟩) (by assumption) ?_
                  try simp only [Act.put, List.setIfInBounds_toArray, List.set_cons_zero, List.set_cons_succ]
                  refine wpAnyH_done (by kernel_rfl) ?_ _
                  have HHS := hide htl.heap
                  have hsz := htl.size xg
                  rw [(unhide HX).2.2.1, (unhide HX).2.2.2, errV_zero] at hsz
                  have HSZ := hide hsz
                  have HR9 := hide hr9
                  have HR10 := hide hr10
                  have y0 := hcell 0 (by omega)
                  have y1 := hcell q1 (by omega)
                  rw [show (List.replicate (q1 + 1) fj).getD 0 0 = fj by simp [List.getD]] at y0
                  rw [show (List.replicate (q1 + 1) fj).getD q1 0 = fj by simp [List.getD]] at y1
                  have HY := hide (And.intro y0 y1)
                  clear htl hkp hr9 hr10 hsz hcell y0 y1 hHeld2 HH2 HRD k9 c9
                  go_wp2_with fail
                  refine (unhide HHS).mono ?_
                  rintro e w4 ⟨rfl, rfl⟩
                  go_wp2_with fail
                  refine (unhide HSZ).mono ?_
                  rintro e w4 ⟨⟨rfl, hb4⟩, htl, hkp⟩
                  have hr9 := (unhide HR9).same (hkp b9 (.inl rfl))
                  have hr10 := (unhide HR10).same (hkp (b9 + 1) (.inr rfl))
                  have c9 := hr9.cell hjl
                  rw [unhide HNJ] at c9
                  have c10 := hr10.cell hjl
                  rw [unhide HFJ] at c10
                  have y0 := (hb4.cell (block_lt_of_cell (unhide HY).1)).trans (unhide HY).1
                  have y1 := (hb4.cell (block_lt_of_cell (unhide HY).2)).trans (unhide HY).2
                  have HFIN := hide (And.intro htl (And.intro hr9 hr10))
                  obtain ⟨fb0, fb1⟩ := hfb
                  have hwf : IntKind.i64.wrap fj = fj := by rw [IntKind.wrap_i64]; omega
                  have hft : (fj != fj) = false := by simp
                  have hq60 : (q1 : Int) ≤ 60 := by have := unhide HQ1; omega
                  have hq0 : (0 : Int) ≤ (q1 : Int) := by omega
                  have hwq : IntKind.i64.wrap (q1 : Int) = (q1 : Int) := by rw [IntKind.wrap_i64]; omega
                  clear htl hkp hr9 hr10 hb4 HHS HSZ HY HR9 HR10
                  go_wp2_with fail
                  go_quiet (fail)
                  go_wp2
                  go_roundw
                  case rel =>
                    have hbn := below_drewN (Below.refl w4.heap.size w4) nq
                    exact ⟨j2 + 1, by omega, by go_num, (unhide HFIN).1.below hbn, (unhide HFIN).2.1.same (hbn.block b9 (unhide HFIN).2.1.lt), (unhide HFIN).2.2.same (hbn.block (b9 + 1) (unhide HFIN).2.2.lt)⟩
                  case measure => simp [intOf]; omega
              · have ej : ¬ (j2 : Int) < 4 := by omega
                have HFIN : Hid (TlHd w wr p b9 (b9 + 1) (i + 1) (.pointer (some ⟨t2, 0, none⟩))) := hide ⟨t2, x2, s11, Nn, now2, fill2, rfl, hsb, htl, unhide HLG, hr9, hr10⟩
                clear htl hr9 hr10
                go_wp2
                go_roundw
                case rel => exact ⟨i + 1, by omega, by go_num, rfl, unhide HFIN⟩
                case measure => simp [intOf]; omega
      · by_cases q1 : n < 1
        · as_aux_lemma =>
            go_wp2
            go_roundw
            case rel => exact ⟨i + 1, by omega, by go_num, rfl, (unhide HHD).next⟩
            case measure => simp [intOf]; omega
        · by_cases q2 : 60 < n
          · as_aux_lemma =>
              go_wp2
              go_roundw
              case rel => exact ⟨i + 1, by omega, by go_num, rfl, (unhide HHD).next⟩
              case measure => simp [intOf]; omega
          · by_cases q3 : kz < 0
            · as_aux_lemma =>
                go_wp2
                go_roundw
                case rel => exact ⟨i + 1, by omega, by go_num, rfl, (unhide HHD).next⟩
                case measure => simp [intOf]; omega
            · have q4 : 3 < kz := by omega
              as_aux_lemma =>
                go_wp2
                go_roundw
                case rel => exact ⟨i + 1, by omega, by go_num, rfl, (unhide HHD).next⟩
                case measure => simp [intOf]; omega
    · have HB := hide hbel
      clear HHD hbel
      by_cases q1 : i < l0.length
      · have q1' : (i : Int) < (l0.length : Int) := by omega
        by_cases q2 : i < l1.length
        · have q2' : (i : Int) < (l1.length : Int) := by omega
          have q3 : ¬ (i : Int) < 40 := by omega
          as_aux_lemma =>
            go_wp2
            go_ret
            exact ⟨rfl, unhide HB⟩
        · have q2' : ¬ (i : Int) < (l1.length : Int) := by omega
          as_aux_lemma =>
            go_wp2
            go_ret
            exact ⟨rfl, unhide HB⟩
      · have q1' : ¬ (i : Int) < (l0.length : Int) := by omega
        as_aux_lemma =>
          go_wp2
          go_ret
          exact ⟨rfl, unhide HB⟩
end Go.Proofs.YtgbglaceekiohaaGreat
