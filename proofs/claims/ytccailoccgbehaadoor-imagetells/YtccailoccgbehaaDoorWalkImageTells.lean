/-
  The walk of the law ImageTells. (Part of the proof of ImageTells.)
-/
import Derived.Test.YtccailoccgbehaaDoorIrD
import Derived.Test.YtccailoccgbehaaDoorErrSame
import Derived.Deep.CutRange
namespace Go.Proofs.YtccailoccgbehaaDoor
open Go.RowKit
set_option linter.unusedVariables false

/-- What is wrong with a handle, ahead of whether there is one. -/
def hanE (n h : Int) : Int := if lenB n = false then 3 else if hndB h = false then 1 else 0
theorem hanE_bad {l : List Int} {h : Int} (h0 : hanE l.length h ≠ 0) : chkE l h = hanE l.length h := by
  unfold hanE at h0 ⊢
  unfold chkE
  by_cases h1 : lenB l.length = false
  · rw [if_pos h1, if_pos h1]
  · rw [if_neg h1] at h0
    rw [if_neg h1, if_neg h1]
    by_cases h2 : hndB h = false
    · rw [if_pos h2, if_pos h2]
    · rw [if_neg h2] at h0
      exact absurd rfl h0
theorem hanE_zero {n h : Int} (h0 : hanE n h = 0) : lenB n = true ∧ hndB h = true := by
  unfold hanE at h0
  by_cases h1 : lenB n = false
  · rw [if_pos h1] at h0; cases h0
  · rw [if_neg h1] at h0
    by_cases h2 : hndB h = false
    · rw [if_pos h2] at h0; cases h0
    · exact ⟨by simpa using h1, by simpa using h2⟩
theorem ents_bd (l : List Int) : (ents l).length ≤ 8796093021952 := by
  unfold ents
  by_cases h : lenB l.length = true
  · rw [if_pos h]; have := entsK_len l 40; omega
  · rw [if_neg h]; simp
theorem roots_bd (l : List Int) : (roots l).length ≤ 8796093021952 := by
  unfold roots
  by_cases h : lenB l.length = true
  · rw [if_pos h]; have := rootsK_len l 8; omega
  · rw [if_neg h]; simp

theorem han_cases {n h lE : Int} (hle : (lenB n = true ∧ lE = 0) ∨ (lenB n = false ∧ lE = 3)) : (lE = 3 ∧ hanE n h = 3) ∨ (lE = 0 ∧ hndB h = false ∧ hanE n h = 1) ∨ (lE = 0 ∧ hndB h = true ∧ hanE n h = 0) := by
  unfold hanE
  rcases hle with ⟨hq, rfl⟩ | ⟨hq, rfl⟩
  · rw [if_neg (by rw [hq]; simp)]
    cases hh : hndB h with
    | false => exact .inr (.inl ⟨rfl, rfl, if_pos rfl⟩)
    | true => exact .inr (.inr ⟨rfl, rfl, if_neg (by simp)⟩)
  · exact .inl ⟨rfl, if_pos hq⟩
theorem chk_bad {l : List Int} {h : Int} (h0 : hanE l.length h ≠ 0) : chkE l h = hanE l.length h ∧ dropL l h = [] ∧ getE l h = ent0 := by
  have e := hanE_bad h0
  have hne : chkE l h ≠ 0 := by rw [e]; exact h0
  exact ⟨e, if_neg hne, if_neg hne⟩
theorem chk_none {l : List Int} {h : Int} (h0 : hanE l.length h = 0) (ht : tagAt l h = 0) : chkE l h = 5 ∧ dropL l h = [] ∧ getE l h = ent0 := by
  obtain ⟨h1, h2⟩ := hanE_zero h0
  have e : chkE l h = 5 := by unfold chkE; rw [if_neg (by rw [h1]; simp), if_neg (by rw [h2]; simp), if_pos ht]
  have hne : chkE l h ≠ 0 := by rw [e]; decide
  exact ⟨e, if_neg hne, if_neg hne⟩
theorem chk_some {l : List Int} {h : Int} (h0 : hanE l.length h = 0) (ht : tagAt l h ≠ 0) : chkE l h = 0 ∧ dropL l h = splice l (plc h) (zerosB 5) ∧ getE l h = entOf l h := by
  obtain ⟨h1, h2⟩ := hanE_zero h0
  have e : chkE l h = 0 := chkE_zero.2 ⟨h1, h2, ht⟩
  exact ⟨e, if_pos e, if_pos e⟩

set_option maxRecDepth 100000 in
set_option maxHeartbeats 4000000 in
theorem walkImageTells (a : Option Addr) (cap : Nat) (L : List Int) (e : (Int × Int × Int × Int)) (h i : Int) (r : (ByteArray × Int)) (n : Int) (w : World) (hg : ErrT w) (hbs : Bs w a cap L) (he : -9223372036854775808 ≤ e.2.1 ∧ e.2.1 ≤ 9223372036854775807) (hr : r.1.size ≤ 140737488351232) :
    Calls Tryd.prog 3 #[.slice a L.length cap, entV e, .int .i64 h, .int .i64 i, rootV r, .int .i64 n] w fun e w' => e = .returned (.bool true) ∧ Below w.heap.size w w' := by
  obtain ⟨w0, hw0⟩ : ∃ w0, w0 = (w.alloc (.cells #[.int .i64 e.1, .int .i64 e.2.1, .int .i64 e.2.2.1, .int .i64 e.2.2.2] 26)).alloc (.cells #[.string r.1, .int .i64 r.2] 28) := ⟨_, rfl⟩
  have hB0 : Below w.heap.size w w0 := by rw [hw0]; exact ((Below.refl _ _).alloc (Nat.le_refl _) _).alloc (by simp) _
  have hEN : EnB w0 w.heap.size e := by
    rw [hw0]
    exact (EnB.new w e).below ((Below.refl _ _).alloc (Nat.le_refl _) _) (by simp)
  have hRO : RoB w0 (w.heap.size + 1) r := by
    rw [hw0]
    have := RoB.new (w.alloc (.cells #[.int .i64 e.1, .int .i64 e.2.1, .int .i64 e.2.2.1, .int .i64 e.2.2.2] 26)) r
    rw [sz_alloc] at this
    exact this
  have HER := hide (fun (x : Int) (w' : World) (hb : Below w0.heap.size w0 w') => error_same x w' (hg.below (hB0.trans (hb.mono hB0.size))))
  have hb0 := hbs.below hB0
  have HIM := hide (fun (m : Int) (w' : World) => rImage_any m w')
  have HHN := hide (fun (w' : World) => rHandle_any h w')
  have HNEW := hide (fun (w' : World) => new_any n w')
  have HRE := hide (fun (hq : lenB L.length = true) (w' : World) (hb : Below w0.heap.size w0 w') => rEnts_any a cap L w' (hb0.below hb) (by have := lenB_iff.1 hq; omega))
  have HRR := hide (fun (hq : lenB L.length = true) (w' : World) (hb : Below w0.heap.size w0 w') => rRoots_any a cap L w' (hb0.below hb) (by have := lenB_iff.1 hq; omega) (by have := lenB_iff.1 hq; omega))
  have HIE := hide (fun (w' : World) (hb : Below w0.heap.size w0 w') => iEnts_any a cap L w' (hb0.below hb))
  have HIR := hide (fun (w' : World) (hb : Below w0.heap.size w0 w') => iRoots_any a cap L w' (hb0.below hb))
  have HRP := hide (fun (hq : lenB L.length = true) (w' : World) (hb : Below w0.heap.size w0 w') => rPutEntry_any a cap L e w' (hb0.below hb) hq)
  have HIP := hide (fun (w' : World) (hb : Below w0.heap.size w0 w') => iPut_any a cap L e w' (hb0.below hb) he)
  have HRQ := hide (fun (hq : lenB L.length = true) (w' : World) (hb : Below w0.heap.size w0 w') => rPutRoot_any a cap L i r w' (hb0.below hb) hq hr)
  have HIQ := hide (fun (w' : World) (hb : Below w0.heap.size w0 w') => iPutRoot_any a cap L i r w' (hb0.below hb) hr)
  have HIG := hide (fun (w' : World) (hb : Below w0.heap.size w0 w') => iGet_any a cap L h w' (hb0.below hb))
  have HID := hide (fun (w' : World) (hb : Below w0.heap.size w0 w') => drop_any a cap L h w' (hb0.below hb))
  have HRN := hide (fun (hq : lenB L.length = true) (h1 : hndB h = true) (w' : World) (hb : Below w0.heap.size w0 w') => rEntry_any a cap L h w' (hb0.below hb) (by have := lenB_iff.1 hq; omega) (hndB_iff.1 h1).1 (hndB_iff.1 h1).2)
  have HEN := hide hEN
  have HRO := hide hRO
  have HB0 := hide hB0
  have hlb := hbs.2.2.1
  have HBS := hide hb0
  have hw0s : w0.heap.size = w.heap.size + 2 := by rw [hw0]; simp
  unfold entV at HRP HIP ⊢
  unfold rootV at HRQ HIQ ⊢
  obtain ⟨e1, e2, e3, e4⟩ := e
  obtain ⟨r1, r2⟩ := r
  dsimp only at *
  clear hB0 hEN hRO hb0 hbs hg he
  have HE1 : Hid (lenB L.length = true → entsK L 40 = ents L) := hide (fun hq => by unfold ents; rw [if_pos hq])
  have HE0 : Hid (lenB L.length = false → ents L = []) := hide (fun hq => by unfold ents; rw [if_neg (by rw [hq]; simp)])
  have HR1 : Hid (lenB L.length = true → rootsK L 8 = roots L) := hide (fun hq => by unfold roots; rw [if_pos hq])
  have HR0 : Hid (lenB L.length = false → roots L = []) := hide (fun hq => by unfold roots; rw [if_neg (by rw [hq]; simp)])
  have heb := ents_bd L
  have hrb := roots_bd L
  have HPE0 : Hid (lenB L.length = false → putE L (e1, e2, e3, e4) = 3 ∧ putL L (e1, e2, e3, e4) = []) := hide (fun hq => by
    have h3 : putE L (e1, e2, e3, e4) = 3 := by unfold putE; rw [if_pos hq]
    exact ⟨h3, by unfold putL; rw [h3]; rfl⟩)
  have HPR0 : Hid (lenB L.length = false → prE L i (r1, r2) = 3 ∧ prL L i (r1, r2) = []) := hide (fun hq => by
    have h3 : prE L i (r1, r2) = 3 := by unfold prE; rw [if_pos hq]
    exact ⟨h3, by unfold prL; rw [h3]; rfl⟩)
  generalize putE L (e1, e2, e3, e4) = pE at *
  generalize putL L (e1, e2, e3, e4) = pL at *
  generalize prE L i (r1, r2) = qE at *
  generalize prL L i (r1, r2) = qL at *
  generalize ents L = E at *
  generalize roots L = RR at *
  have hnl : (newL n).length = if lenB n = true then n.toNat else 0 := by
    unfold newL
    by_cases hq : lenB n = true
    · rw [if_pos hq, if_pos hq]; exact length_zerosB _
    · rw [if_neg hq, if_neg hq]; rfl
  have hnl2 : ((newL n).length : Int) = if lenB n = true then n else 0 := by
    rw [hnl]
    by_cases hq : lenB n = true
    · have := lenB_iff.1 hq
      rw [if_pos hq, if_pos hq]; omega
    · rw [if_neg hq, if_neg hq]; rfl
  have hne : newE n = if lenB n = true then 0 else 1 := rfl
  go_enter Tryd.func3, Tryd.ntmps3
  go_wp2_with fail
  rw [← hw0]
  clear hw0
  refine (unhide HIM _ _).mono ?_
  rintro e wx ⟨rfl, hwx⟩
  subst hwx
  go_upto_if 42 with fail
  go_cut [13, 14, 15] from 41 to 43 (fun _ bv sv wx => bv = .int .i64 (newE n) ∧ sv = .int .i64 ((newL n).length : Nat) ∧ wx = w0)
  case first =>
    cases hq : lenB n with
    | true =>
      rw [hq, if_pos rfl] at hnl2 hne
      go_wp2
      go_meet
      exact ⟨by rw [hne], by rw [hnl2], rfl⟩
    | false =>
      rw [hq, if_neg (by simp)] at hnl2 hne
      go_wp2
      go_meet
      exact ⟨by rw [hne], by rw [hnl2], rfl⟩
  case rest =>
    obtain ⟨rfl, rfl, hwc⟩ := hcut
    replace hwc := hwc.symm
    subst hwc
    clear hnl hnl2 hne
    generalize newE n = nE at *
    generalize newL n = nL at *
    have HN0 := hide (unhide HNEW w0)
    go_wp2_with fail
    refine (unhide HN0).mono ?_
    rintro e w1 ⟨a1, c1, rfl, hbs1, hb1⟩
    have HB1 := hide hb1
    have HE1 := hide (unhide HER nE _ hb1)
    have hnlb := hbs1.2.2.1
    clear hbs1 hb1 HN0 HNEW
    go_wp2_with fail
    refine (unhide HE1).mono ?_
    rintro e w2 ⟨rfl, hb2⟩
    have HB2 := hide ((unhide HB1).trans (hb2.mono (unhide HB1).size))
    clear hb2 HB1 HE1
    go_upto_if 63 with (go_at_call 5; refine (unhide HIM _ _).mono ?_; rintro e wx ⟨rfl, hwx⟩; subst hwx)
    have hle : lenE L.length = if lenB L.length = true then 0 else 3 := rfl
    go_cut [14, 19] from 44 to 63 (fun bv fv wx => bv = .int .i64 (lenE L.length) ∧ fv = .bool (lenB L.length) ∧ wx = w2)
    case first =>
      cases hq : lenB L.length with
      | true =>
        rw [hq, if_pos rfl] at hle
        go_wp2
        go_meet
        exact ⟨by rw [hle], by rw [hq], rfl⟩
      | false =>
        rw [hq, if_neg (by simp)] at hle
        go_wp2
        go_meet
        exact ⟨by rw [hle], by rw [hq], rfl⟩
    case rest =>
      obtain ⟨rfl, rfl, hwc⟩ := hcut
      replace hwc := hwc.symm
      subst hwc
      clear hle
      go_upto_if 64 with fail
      go_cut [19, 20, 21] from 64 to 68 (fun _ av rv wx => (∃ a3 c3, av = .slice a3 E.length c3 ∧ Sls enC 4 wx a3 c3 E) ∧ (∃ a3 c3, rv = .slice a3 RR.length c3 ∧ Sls roC 2 wx a3 c3 RR) ∧ Below w0.heap.size w0 wx)
      case first =>
        cases hq : lenB L.length with
        | true =>
          have HE2 := hide (unhide HRE hq w2 (unhide HB2))
          have HRR2 := hide (unhide HRR hq)
          rw [unhide HE1 hq] at HE2
          rw [unhide HR1 hq] at HRR2
          clear hq
          go_wp2_with fail
          refine (unhide HE2).mono ?_
          rintro e w3 ⟨v3, rfl, ho3, hb3⟩
          obtain ⟨a3, c3, rfl, hs3⟩ := ho3.sls enC_len heb
          have HB3 := hide ((unhide HB2).trans (hb3.mono (unhide HB2).size))
          have HR3 := hide (unhide HRR2 w3 (unhide HB3))
          have HS3 := hide hs3
          clear ho3 hb3 hs3 HE2
          go_wp2_with fail
          refine (unhide HR3).mono ?_
          rintro e w4 ⟨v4, rfl, ho4, hb4⟩
          obtain ⟨a4, c4, rfl, hs4⟩ := ho4.sls roC_len hrb
          have HB4 := hide ((unhide HB3).trans (hb4.mono (unhide HB3).size))
          have HS4 := hide hs4
          have HS3' := hide ((unhide HS3).below hb4)
          clear ho4 hb4 hs4 HR3
          go_wp2
          go_meet
          exact ⟨⟨a3, c3, rfl, unhide HS3'⟩, ⟨a4, c4, rfl, unhide HS4⟩, unhide HB4⟩
        | false =>
          have hen := unhide HE0 hq
          have hro := unhide HR0 hq
          subst hen
          subst hro
          go_wp2
          go_meet
          exact ⟨⟨none, 0, rfl, Nat.le_refl _, fun _ => rfl, by simp, fun h => absurd rfl h⟩, ⟨none, 0, rfl, Nat.le_refl _, fun _ => rfl, by simp, fun h => absurd rfl h⟩, unhide HB2⟩
      case rest =>
        obtain ⟨⟨a3, c3, rfl, hs3⟩, ⟨a4, c4, rfl, hs4⟩, hb4⟩ := hcut
        obtain ⟨w4, hx⟩ : ∃ w4, w4 = wc := ⟨wc, rfl⟩
        subst hx
        have HLE : Hid ((lenB L.length = true ∧ lenE L.length = 0) ∨ (lenB L.length = false ∧ lenE L.length = 3)) := hide (by
          unfold lenE
          cases hq : lenB L.length with
          | true => exact .inl ⟨rfl, if_pos rfl⟩
          | false => exact .inr ⟨rfl, if_neg (by simp)⟩)
        have HI4 := hide (unhide HIE w4 hb4)
        have HB4 := hide hb4
        have HS3 := hide hs3
        have HS4 := hide hs4
        clear hb4 hs3 hs4 HIE HE1 HE0 HR1 HR0 HRE HRR HB2
        generalize lenE L.length = lE at *
        go_wp2_with fail
        refine (unhide HI4).mono ?_
        rintro e w5 ⟨v5, rfl, ho5, hb5⟩
        obtain ⟨a5, c5, rfl, hs5⟩ := ho5.sls enC_len heb
        have HB5 := hide ((unhide HB4).trans (hb5.mono (unhide HB4).size))
        have HS35 := hide ((unhide HS3).below hb5)
        have HS45 := hide ((unhide HS4).below hb5)
        have HS55 := hide hs5
        have HE5 := hide (unhide HER lE w5 (unhide HB5))
        clear ho5 hs5 hb5 HI4 HB4 HS3 HS4
        go_wp2_with fail
        refine (unhide HE5).mono ?_
        rintro e w6 ⟨rfl, hb6⟩
        have HB6 := hide ((unhide HB5).trans (hb6.mono (unhide HB5).size))
        have HS36 := hide ((unhide HS35).below hb6)
        have HS46 := hide ((unhide HS45).below hb6)
        have HS56 := hide ((unhide HS55).below hb6)
        have HI6 := hide (unhide HIR w6 (unhide HB6))
        clear hb6 HB5 HS35 HS45 HS55 HE5 HIR
        go_wp2_with fail
        refine (unhide HI6).mono ?_
        rintro e w7 ⟨v7, rfl, ho7, hb7⟩
        obtain ⟨a7, c7, rfl, hs7⟩ := ho7.sls roC_len hrb
        have HB7 := hide ((unhide HB6).trans (hb7.mono (unhide HB6).size))
        have HS37 := hide ((unhide HS36).below hb7)
        have HS47 := hide ((unhide HS46).below hb7)
        have HS57 := hide ((unhide HS56).below hb7)
        have HS77 := hide hs7
        have HE7 := hide (unhide HER lE w7 (unhide HB7))
        clear ho7 hs7 hb7 HI6 HB6 HS36 HS46 HS56
        go_wp2_with fail
        refine (unhide HE7).mono ?_
        rintro e w8 ⟨rfl, hb8⟩
        have HB8 := hide ((unhide HB7).trans (hb8.mono (unhide HB7).size))
        have HS48 := hide ((unhide HS47).below hb8)
        have HS78 := hide ((unhide HS77).below hb8)
        have HQ8 := hide (ensame_any a5 a3 c5 c3 E w8 ((unhide HS57).below hb8) ((unhide HS37).below hb8))
        clear hb8 HB7 HS37 HS47 HS57 HS77 HE7
        go_wp2_with fail
        refine (unhide HQ8).mono ?_
        rintro e w9 ⟨rfl, hb9⟩
        have HB9 := hide ((unhide HB8).trans (hb9.mono (unhide HB8).size))
        have HQ9 := hide (rosame_any a7 a4 c7 c4 RR w9 ((unhide HS78).below hb9) ((unhide HS48).below hb9))
        clear hb9 HB8 HS48 HS78 HQ8
        go_wp2_with fail
        refine (unhide HQ9).mono ?_
        rintro e w10 ⟨rfl, hb10⟩
        have HB10 := hide ((unhide HB9).trans (hb10.mono (unhide HB9).size))
        clear hb10 HB9 HQ9
        go_upto_if 107 with fail
        go_cut [28, 29] from 69 to 113 (fun fv wv wx => fv = .int .i64 pE ∧ (∃ a3 c3, wv = .slice a3 pL.length c3 ∧ Bs wx a3 c3 pL) ∧ Below w0.heap.size w0 wx)
        case first =>
          rcases unhide HLE with ⟨hq, rfl⟩ | ⟨hq, rfl⟩
          · have HP := hide (unhide HRP hq w10 (unhide HB10))
            obtain ⟨d0, d1, d2, d3⟩ := ((unhide HEN).below (unhide HB10) (by omega)).cells
            dsimp only at d0 d1 d2 d3
            clear hq
            go_wp2_with fail
            refine (unhide HP).mono ?_
            rintro e w11 ⟨a11, c11, rfl, hbs11, hb11⟩
            have HBS11 := hide hbs11
            have HB11 := hide ((unhide HB10).trans (hb11.mono (unhide HB10).size))
            clear hbs11 hb11 HP d0 d1 d2 d3
            go_wp2
            go_meet
            exact ⟨rfl, ⟨a11, c11, rfl, unhide HBS11⟩, unhide HB11⟩
          · obtain ⟨rfl, rfl⟩ := unhide HPE0 hq
            clear hq
            go_wp2
            go_meet
            exact ⟨rfl, ⟨none, 0, rfl, bs_nil _⟩, unhide HB10⟩
        case rest =>
          obtain ⟨rfl, ⟨a11, c11, rfl, hbs11⟩, hb11⟩ := hcut
          obtain ⟨w11, hx⟩ : ∃ w11, w11 = wc := ⟨wc, rfl⟩
          subst hx
          have HI11 := hide (unhide HIP w11 hb11)
          obtain ⟨d0, d1, d2, d3⟩ := ((unhide HEN).below hb11 (by omega)).cells
          dsimp only at d0 d1 d2 d3
          have HB11 := hide hb11
          have HBS11 := hide hbs11
          clear hb11 hbs11 HIP HRP HPE0 HB10 HEN
          go_wp2_with fail
          refine (unhide HI11).mono ?_
          rintro e w12 ⟨a12, c12, rfl, hbs12, hb12⟩
          have HB12 := hide ((unhide HB11).trans (hb12.mono (unhide HB11).size))
          have HW12 := hide ((unhide HBS11).below hb12)
          have HG12 := hide hbs12
          have HE12 := hide (unhide HER pE w12 (unhide HB12))
          clear hbs12 hb12 HI11 HB11 HBS11 d0 d1 d2 d3
          go_wp2_with fail
          refine (unhide HE12).mono ?_
          rintro e w13 ⟨rfl, hb13⟩
          have HB13 := hide ((unhide HB12).trans (hb13.mono (unhide HB12).size))
          have hs1 := conv_str (P := Tryd.prog) (t := 22) (e := 9) Tryd.underlying22 Tryd.underlying5 Tryd.underlying9 ((unhide HG12).below hb13)
          have hs2 := conv_str (P := Tryd.prog) (t := 22) (e := 9) Tryd.underlying22 Tryd.underlying5 Tryd.underlying9 ((unhide HW12).below hb13)
          clear hb13 HB12 HW12 HG12 HE12
          generalize strOf pL = s1 at *
          go_upto_if 134 with fail
          clear hs1 hs2
          go_cut [28, 29] from 114 to 141 (fun fv wv wx => fv = .int .i64 qE ∧ (∃ a3 c3, wv = .slice a3 qL.length c3 ∧ Bs wx a3 c3 qL) ∧ Below w0.heap.size w0 wx)
          case first =>
            rcases unhide HLE with ⟨hq, rfl⟩ | ⟨hq, rfl⟩
            · have HP := hide (unhide HRQ hq w13 (unhide HB13))
              obtain ⟨d0, d1⟩ := ((unhide HRO).below (unhide HB13) (by omega)).cells
              dsimp only at d0 d1
              clear hq
              go_wp2_with fail
              refine (unhide HP).mono ?_
              rintro e w14 ⟨a14, c14, rfl, hbs14, hb14⟩
              have HBS14 := hide hbs14
              have HB14 := hide ((unhide HB13).trans (hb14.mono (unhide HB13).size))
              clear hbs14 hb14 HP d0 d1
              go_wp2
              go_meet
              exact ⟨rfl, ⟨a14, c14, rfl, unhide HBS14⟩, unhide HB14⟩
            · obtain ⟨rfl, rfl⟩ := unhide HPR0 hq
              clear hq
              go_wp2
              go_meet
              exact ⟨rfl, ⟨none, 0, rfl, bs_nil _⟩, unhide HB13⟩
          case rest =>
            obtain ⟨rfl, ⟨a14, c14, rfl, hbs14⟩, hb14⟩ := hcut
            obtain ⟨w14, hx⟩ : ∃ w14, w14 = wc := ⟨wc, rfl⟩
            subst hx
            have HI14 := hide (unhide HIQ w14 hb14)
            obtain ⟨d0, d1⟩ := ((unhide HRO).below hb14 (by omega)).cells
            dsimp only at d0 d1
            have HB14 := hide hb14
            have HBS14 := hide hbs14
            clear hb14 hbs14 HIQ HRQ HPR0 HB13 HRO
            go_wp2_with fail
            refine (unhide HI14).mono ?_
            rintro e w15 ⟨a15, c15, rfl, hbs15, hb15⟩
            have HB15 := hide ((unhide HB14).trans (hb15.mono (unhide HB14).size))
            have HW15 := hide ((unhide HBS14).below hb15)
            have HG15 := hide hbs15
            have HE15 := hide (unhide HER qE w15 (unhide HB15))
            clear hbs15 hb15 HI14 HB14 HBS14 d0 d1
            go_wp2_with fail
            refine (unhide HE15).mono ?_
            rintro e w16 ⟨rfl, hb16⟩
            have HB16 := hide ((unhide HB15).trans (hb16.mono (unhide HB15).size))
            have hs1 := conv_str (P := Tryd.prog) (t := 22) (e := 9) Tryd.underlying22 Tryd.underlying5 Tryd.underlying9 ((unhide HG15).below hb16)
            have hs2 := conv_str (P := Tryd.prog) (t := 22) (e := 9) Tryd.underlying22 Tryd.underlying5 Tryd.underlying9 ((unhide HW15).below hb16)
            clear hb16 HB15 HW15 HG15 HE15
            generalize strOf qL = s2 at *
            have HHE := hide (han_cases (h := h) (unhide HLE))
            have HC1 := hide (chk_bad (l := L) (h := h))
            have HC2 := hide (chk_none (l := L) (h := h))
            have HC3 := hide (chk_some (l := L) (h := h))
            have HHB : Hid (hndB h = true → 1 ≤ h ∧ h ≤ 40) := hide (fun hh => hndB_iff.1 hh)
            generalize hanE L.length h = hE at *
            generalize chkE L h = cE at *
            generalize dropL L h = dL at *
            generalize getE L h = gE at *
            generalize hndB h = hB at *
            go_upto_region 46 with (go_at_call 18; refine (unhide HHN _).mono ?_; rintro e wx ⟨rfl, hwx⟩; subst hwx)
            clear hs1 hs2 HHN
            go_cut [169] from 142 to 168 (fun v wx => v = .bool (decide (hE = 1)) ∧ wx = w16)
            case first =>
              rcases unhide HHE with ⟨rfl, rfl⟩ | ⟨rfl, rfl, rfl⟩ | ⟨rfl, rfl, rfl⟩
              all_goals
                go_wp2
                go_meet
                exact ⟨rfl, rfl⟩
            case rest =>
              obtain ⟨rfl, hwc⟩ := hcut
              replace hwc := hwc.symm
              subst hwc
              go_upto_if 169 with fail
              go_cut [28] from 169 to 169 (fun fv wx => fv = .int .i64 hE ∧ wx = w16)
              case first =>
                rcases unhide HHE with ⟨rfl, rfl⟩ | ⟨rfl, rfl, rfl⟩ | ⟨rfl, rfl, rfl⟩
                all_goals
                  go_wp2
                  go_meet
                  exact ⟨rfl, rfl⟩
              case rest =>
                obtain ⟨rfl, hwc⟩ := hcut
                replace hwc := hwc.symm
                subst hwc
                have hB17 := (unhide HB16).alloc (unhide HB16).size (.cells #[.int .i64 0, .int .i64 0, .int .i64 0, .int .i64 0] 26)
                have HEN17 := hide (EnB.new w16 ent0)
                have hs16 := (unhide HB16).size
                go_upto_if 171 with fail
                unfold ent0 at HEN17
                dsimp only at HEN17
                generalize w16.alloc (.cells #[.int .i64 0, .int .i64 0, .int .i64 0, .int .i64 0] 26) = w17 at *
                generalize w16.heap.size = g17 at *
                have HB17 := hide hB17
                clear hB17 HB16
                go_cut [28, 29, 35, 36] from 170 to 184 (fun fv wv _ _ wx => fv = .int .i64 cE ∧ (∃ a3 c3, wv = .slice a3 dL.length c3 ∧ Bs wx a3 c3 dL) ∧ EnB wx g17 gE ∧ Below w0.heap.size w0 wx)
                case first =>
                  by_cases hz : hE = 0
                  · subst hz
                    obtain ⟨hlE, hhB⟩ : lE = 0 ∧ hB = true := by
                      rcases unhide HHE with ⟨_, h⟩ | ⟨_, _, h⟩ | ⟨h1, h2, _⟩
                      · exact absurd h (by decide)
                      · exact absurd h (by decide)
                      · exact ⟨h1, h2⟩
                    have hq : lenB L.length = true := by
                      rcases unhide HLE with ⟨h, _⟩ | ⟨_, h⟩
                      · exact h
                      · rw [hlE] at h; exact absurd h (by decide)
                    have hq1 := lenB_iff.1 hq
                    have hh := unhide HHB hhB
                    have hp := plc_le hh.1 hh.2
                    have hpe : ((plc h : Nat) : Int) = 5 * (h - 1) := by unfold plc; omega
                    have HN := hide (unhide HRN hq hhB w17 (unhide HB17))
                    have HWI := hide (fun (w' : World) (hb : Below w0.heap.size w0 w') => rWipe_any a cap L (plc h) 5 w' ((unhide HBS).below hb) (by omega) (by omega) (by omega))
                    rw [hpe] at HWI
                    have HC2' := hide (unhide HC2 rfl)
                    have HC3' := hide (unhide HC3 rfl)
                    have HSL := hide (length_splice (z := L) (l := zerosB 5) (off := plc h) (by rw [length_zerosB]; omega))
                    have HSB := hide (byt_splice (z := L) (l := zerosB 5) (off := plc h) (unhide HBS).1 (byt_zerosB 5))
                    clear hq hhB hlE HHE HC1 HC2 HC3 HRN HLE HHB HIG HID
                    generalize entOf L h = ent at *
                    obtain ⟨x, y, z, t⟩ := ent
                    unfold entV at HN
                    dsimp only at HN
                    by_cases ht : tagAt L h = 0
                    · obtain ⟨rfl, rfl, rfl⟩ := unhide HC2' ht
                      rw [ht] at HN
                      clear HC2' HC3' ht HWI
                      go_wp2_with fail
                      refine (unhide HN).mono ?_
                      rintro e w18 ⟨rfl, hb18⟩
                      have hB18 := (unhide HB17).trans (hb18.mono (unhide HB17).size)
                      have HB18 := hide (hB18.alloc hB18.size (.cells #[.int .i64 x, .int .i64 y, .int .i64 z, .int .i64 t] 26))
                      have hen18 := (unhide HEN17).below hb18 (unhide HEN17).lt
                      have HEN18 := hide (hen18.below ((Below.refl _ _).alloc (Nat.le_refl _) (.cells #[.int .i64 x, .int .i64 y, .int .i64 z, .int .i64 t] 26)) hen18.lt)
                      clear hb18 hB18 hen18 HN
                      go_wp2
                      go_meet
                      exact ⟨rfl, ⟨none, 0, rfl, bs_nil _⟩, unhide HEN18, unhide HB18⟩
                    · obtain ⟨rfl, rfl, rfl⟩ := unhide HC3' ht
                      rw [bne_iff_ne.2 ht] at HN
                      clear HC2' HC3' ht
                      go_wp2_with fail
                      refine (unhide HN).mono ?_
                      rintro e w18 ⟨rfl, hb18⟩
                      have hB18 := (unhide HB17).trans (hb18.mono (unhide HB17).size)
                      have hen18 := (unhide HEN17).below hb18 (unhide HEN17).lt
                      obtain ⟨d0, d1, d2, d3⟩ := hen18.cells
                      have f0 := hen18.fr 0
                      have f1 := hen18.fr 1
                      have f2 := hen18.fr 2
                      have f3 := hen18.fr 3
                      have hglt := hen18.lt
                      dsimp only at d0 d1 d2 d3
                      have HEN18 := hide hen18
                      have HB18 := hide hB18
                      clear hb18 hB18 hen18 HN
                      go_wp2_with fail
                      have hen19 := (unhide HEN18).set x y z t
                      have hb19 := ((((unhide HB18).setCell (p := ⟨g17, 0, none⟩) hs16 (.int .i64 x)).setCell (p := ⟨g17, 1, none⟩) hs16 (.int .i64 y)).setCell (p := ⟨g17, 2, none⟩) hs16 (.int .i64 z)).setCell (p := ⟨g17, 3, none⟩) hs16 (.int .i64 t)
                      have hen20 := hen19.below ((Below.refl _ _).alloc (Nat.le_refl _) (.cells #[.int .i64 x, .int .i64 y, .int .i64 z, .int .i64 t] 26)) hen19.lt
                      have hb20 := hb19.alloc hb19.size (.cells #[.int .i64 x, .int .i64 y, .int .i64 z, .int .i64 t] 26)
                      clear hen19 hb19 d0 d1 d2 d3 f0 f1 f2 f3 hglt HEN18 HB18
                      generalize (((((w18.setCell ⟨g17, 0, none⟩ (.int .i64 x)).setCell ⟨g17, 1, none⟩ (.int .i64 y)).setCell ⟨g17, 2, none⟩ (.int .i64 z)).setCell ⟨g17, 3, none⟩ (.int .i64 t)).alloc (.cells #[.int .i64 x, .int .i64 y, .int .i64 z, .int .i64 t] 26)) = w20 at *
                      refine (unhide HWI w20 hb20).mono ?_
                      rintro e w21 ⟨g21, c21, rfl, hown21, hb21⟩
                      have HB21 := hide (hb20.trans (hb21.mono hb20.size))
                      have HEN21 := hide (hen20.below hb21 hen20.lt)
                      have HBS21 := hide (hown21.bs (unhide HSB) (by rw [unhide HSL]; omega))
                      clear hb20 hen20 hb21 hown21
                      go_wp2
                      go_meet
                      exact ⟨rfl, ⟨some ⟨g21, 0, none⟩, c21, by rw [unhide HSL], unhide HBS21⟩, unhide HEN21, unhide HB21⟩
                  · obtain ⟨hc1, rfl, rfl⟩ := unhide HC1 hz
                    replace hc1 := hc1.symm
                    subst hc1
                    have hz2 : (hE == 0) = false := by simpa using hz
                    go_wp2
                    go_meet
                    exact ⟨rfl, ⟨none, 0, rfl, bs_nil _⟩, unhide HEN17, unhide HB17⟩
                case rest =>
                  obtain ⟨rfl, ⟨a18, c18, rfl, hbs18⟩, hen18, hb18⟩ := hcut
                  obtain ⟨w18, hx⟩ : ∃ w18, w18 = wc := ⟨wc, rfl⟩
                  subst hx
                  have HG18 := hide (unhide HIG w18 hb18)
                  have HB18 := hide hb18
                  have HEN18 := hide hen18
                  have HBS18 := hide hbs18
                  clear hb18 hen18 hbs18 HIG HB17 HEN17 HHE HC1 HC2 HC3 HHB HRN
                  obtain ⟨x, y, z, t⟩ := gE
                  unfold entV at HG18
                  dsimp only at HG18
                  go_wp2_with fail
                  refine (unhide HG18).mono ?_
                  rintro e w19 ⟨rfl, hb19⟩
                  have hB19 := (unhide HB18).trans (hb19.mono (unhide HB18).size)
                  have hen19 := (unhide HEN18).below hb19 (unhide HEN18).lt
                  have hba : Below w19.heap.size w19 (w19.alloc (.cells #[.int .i64 x, .int .i64 y, .int .i64 z, .int .i64 t] 26)) := (Below.refl _ _).alloc (Nat.le_refl _) _
                  have HB20 := hide (hB19.alloc hB19.size (.cells #[.int .i64 x, .int .i64 y, .int .i64 z, .int .i64 t] 26))
                  have HEN20 := hide (hen19.below hba hen19.lt)
                  have HZ20 := hide (EnB.new w19 (x, y, z, t))
                  have HBS20 := hide (((unhide HBS18).below hb19).below hba)
                  have HE20 := hide (unhide HER cE _ (unhide HB20))
                  clear hb19 hB19 hen19 hba HG18 HB18 HEN18 HBS18
                  dsimp only at HZ20
                  go_wp2_with fail
                  refine (unhide HE20).mono ?_
                  rintro e w21 ⟨rfl, hb21⟩
                  have HB21 := hide ((unhide HB20).trans (hb21.mono (unhide HB20).size))
                  have HEN21 := hide ((unhide HEN20).below hb21 (unhide HEN20).lt)
                  have HZ21 := hide ((unhide HZ20).below hb21 (unhide HZ20).lt)
                  have HBS21 := hide ((unhide HBS20).below hb21)
                  have HD21 := hide (unhide HID w21 (unhide HB21))
                  clear hb21 HB20 HEN20 HZ20 HBS20 HE20 HID
                  generalize w19.heap.size = g19 at *
                  go_wp2_with fail
                  refine (unhide HD21).mono ?_
                  rintro e w22 ⟨a22, c22, rfl, hbs22, hb22⟩
                  have HB22 := hide ((unhide HB21).trans (hb22.mono (unhide HB21).size))
                  have HEN22 := hide ((unhide HEN21).below hb22 (unhide HEN21).lt)
                  have HZ22 := hide ((unhide HZ21).below hb22 (unhide HZ21).lt)
                  have HBS22 := hide ((unhide HBS21).below hb22)
                  have HG22 := hide hbs22
                  have HE22 := hide (unhide HER cE w22 (unhide HB22))
                  clear hb22 hbs22 HB21 HEN21 HZ21 HBS21 HD21
                  go_wp2_with fail
                  refine (unhide HE22).mono ?_
                  rintro e w23 ⟨rfl, hb23⟩
                  have HB23 := hide ((unhide HB22).trans (hb23.mono (unhide HB22).size))
                  obtain ⟨d0, d1, d2, d3⟩ := ((unhide HEN22).below hb23 (unhide HEN22).lt).cells
                  obtain ⟨z0, z1, z2, z3⟩ := ((unhide HZ22).below hb23 (unhide HZ22).lt).cells
                  dsimp only at d0 d1 d2 d3 z0 z1 z2 z3
                  have hs1 := conv_str (P := Tryd.prog) (t := 22) (e := 9) Tryd.underlying22 Tryd.underlying5 Tryd.underlying9 ((unhide HG22).below hb23)
                  have hs2 := conv_str (P := Tryd.prog) (t := 22) (e := 9) Tryd.underlying22 Tryd.underlying5 Tryd.underlying9 ((unhide HBS22).below hb23)
                  clear hb23 HB22 HEN22 HZ22 HBS22 HG22 HE22 HER
                  generalize strOf dL = s3 at *
                  go_wp2
                  go_ret
                  exact ⟨rfl, (unhide HB0).trans ((unhide HB23).mono (unhide HB0).size)⟩
end Go.Proofs.YtccailoccgbehaaDoor
