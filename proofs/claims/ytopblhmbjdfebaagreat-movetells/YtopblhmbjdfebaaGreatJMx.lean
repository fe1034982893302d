/-
  Joined by program: MvD; MvE. (Parts of the proofs over the packages of the program.)
-/
import Derived.Test.YtopblhmbjdfebaaGreatJMw
import Derived.Test.YtopblhmbjdfebaaGreatJCh
import Derived.Test.YtopblhmbjdfebaaGreatJEx
/-! Contracts of package move: Step, All. (Part of the proofs over package move.) -/
namespace Go.Proofs.YtopblhmbjdfebaaGreat
open Go.RowKit Go.Sort
set_option linter.unusedVariables false

theorem mvS_byt {L c : List Int} (hb : Byt L) (h : mvS L = some c) : Byt c := by
  unfold mvS at h
  cases h2 : mvOn 288 (srtE L) with
  | none => rw [h2] at h; cases h
  | some x =>
    rw [h2] at h
    obtain rfl : mvB L x.1.1 x.2.toNat = c := by simpa using h
    exact mv_byt hb _ _
set_option maxRecDepth 100000 in
set_option maxHeartbeats 1000000 in
theorem mvSteps_any (a : Option Addr) (cap : Nat) (L : List Int) (w : World) (hbs : Bs w a cap L) (hf : Fine L) :
    Calls Tryz.prog 47 #[.slice a L.length cap] w fun e w' => ∃ a' c', e = .returned (.tuple #[.slice a' L.length c', .int .i64 (mvN 288 (srtE L)), .nilIface]) ∧ Bs w' a' c' (mvA L) ∧ Below w.heap.size w w' := by
  have h40 := mvN_forty (L := L)
  have HST : Hid (∃ M : List Int, Fine M ∧ M.length = L.length ∧ 0 + mvN 288 (srtE M) = mvN 288 (srtE L) ∧ mvA M = mvA L ∧ Bs w a cap M) := hide ⟨L, hf, rfl, Nat.zero_add _, rfl, hbs⟩
  have hLl := hbs.2.2.1
  clear hbs hf
  generalize mvN 288 (srtE L) = K at *
  generalize mvA L = MA at *
  generalize hN : L.length = N at *
  clear hN
  go_enter Tryz.func47, Tryz.ntmps47
  go_wp2_with fail
  go_loopw [0, 5] (fun bv nv wr => ∃ (k : Nat) (q : Option Addr) (cq : Nat) (M : List Int), k ≤ K ∧ bv = .slice q N cq ∧ nv = .int .i64 k ∧ Fine M ∧ M.length = N ∧ k + mvN 288 (srtE M) = K ∧ mvA M = MA ∧ Bs wr q cq M ∧ Below w.heap.size w wr) (fun _ nv _ => 41 - (intOf nv).toNat)
  case atStart =>
    obtain ⟨M, m1, m2, m3, m4, m5⟩ := unhide HST
    exact ⟨0, a, cap, M, Nat.zero_le _, rfl, rfl, m1, m2, m3, m4, m5, Below.refl _ _⟩
  case round =>
    obtain ⟨k, q, cq, M, hk, rfl, rfl, m1, m2, m3, m4, m5, hbel⟩ := hrel
    cases hq : mvS M with
    | none =>
      have HC := hide (mvStep_no q cq M wr m5 m1 hq)
      rw [m2] at HC
      have hK : k = K := by have := (mvS_none m1 hq).2; omega
      have HA : Hid (M = MA) := hide (by rw [← m4, mvA_none hq])
      have HBS := hide m5
      have HBEL := hide hbel
      have HK := hide hK
      clear m1 m2 m3 m4 m5 hbel hK hq HST
      go_wp2_with fail
      refine (unhide HC).mono ?_
      rintro e w1 ⟨rfl, hb1⟩
      have HB1 := hide ((unhide HBEL).trans (hb1.mono (unhide HBEL).size))
      have HBS1 := hide ((unhide HBS).below hb1)
      clear hb1 HC HBS HBEL
      go_wp2
      go_ret3
      exact ⟨q, cq, by rw [unhide HK]; rfl, by rw [← unhide HA]; exact unhide HBS1, unhide HB1⟩
    | some c =>
      have HC := hide (mvStep_yes q cq M wr m5 m1 hq)
      rw [m2] at HC
      obtain ⟨has, hn⟩ := step_as m1 hq
      have hby := mvS_byt m5.1 hq
      have hcl : c.length = N := by rw [has.len]; exact m2
      have H1 := hide has.fine
      have H2 := hide hcl
      have H3 : Hid (k + 1 + mvN 288 (srtE c) = K) := hide (by omega)
      have H4 : Hid (mvA c = MA) := hide (by rw [← m4, mvA_some m1 hq])
      have hkK : k + 1 ≤ K := by omega
      have HBY := hide hby
      have HBEL := hide hbel
      clear m1 m2 m3 m4 m5 hbel hq HST has hn hby hcl
      go_wp2_with fail
      refine (unhide HC).mono ?_
      rintro e w1 ⟨g1, c1, cur1, rfl, hr1, hb1⟩
      have HB1 := hide ((unhide HBEL).trans (hb1.mono (unhide HBEL).size))
      have HBS1 := hide (hr1.bs (unhide HBY) (by rw [unhide H2]; omega))
      clear hb1 HC HBEL hr1
      go_wp2
      go_roundw
      case rel => exact ⟨k + 1, some ⟨g1, 0, none⟩, c1, c, hkK, rfl, by go_num, unhide H1, unhide H2, unhide H3, unhide H4, unhide HBS1, unhide HB1⟩
      case measure => simp [intOf]; omega
section
variable {w : World} {B p g c : Nat} {L : List Int}
set_option maxRecDepth 100000 in
theorem mvAll_any (h : Hp w B p g c L) (hB : B ≤ w.heap.size) :
    Calls Tryz.prog 16 #[.pointer (some ⟨p, 0, none⟩)] w fun e w' => e = .returned (.tuple #[.int .i64 (mvN 288 (srtE L)), .nilIface]) ∧ ∃ g' c', Hp w' B p g' c' (mvA L) ∧ Turn (foot p g) (foot p g') w w' := by
  have HB := hide (hBytes_any p g c B L w h)
  obtain ⟨has, _⟩ := mvA_as h.fine
  have hbyt := h.byt
  have hlen := h.len
  have HS := hide (fun (W : World) (a1 : Option Addr) (c1 : Nat) (hbs : Bs W a1 c1 L) => mvSteps_any a1 c1 L W hbs h.fine)
  have HR := hide (fun (W : World) (hW : Below w.heap.size w W) (a2 : Option Addr) (c2 : Nat) (hbs : Bs W a2 c2 (mvA L)) => hReplace_yes (h.below hW) (Nat.le_trans hB hW.size) hbs has.fine has.len)
  rw [has.len] at HR
  have HBY := hide hbyt
  clear h hbyt has
  generalize mvN 288 (srtE L) = K at *
  generalize mvA L = MA at *
  generalize hN : L.length = N at *
  have HN := hide hN
  clear hN
  go_enter Tryz.func16, Tryz.ntmps16
  go_wp2_with fail
  refine (unhide HB).mono ?_
  rintro e w1 ⟨a1, c1, rfl, ho1, hb1⟩
  obtain ⟨a1', c1', e1, hbs1⟩ := ho1.bs (unhide HBY) (by rw [unhide HN]; omega)
  rw [unhide HN] at e1
  simp only [Value.slice.injEq, true_and] at e1
  obtain ⟨rfl, rfl⟩ := e1
  have HS1 := hide (unhide HS w1 a1 c1 hbs1)
  have HB1 := hide hb1
  clear ho1 hb1 hbs1 HB HS
  go_wp2_with fail
  refine (unhide HS1).mono ?_
  rintro e w2 ⟨a2, c2, rfl, hbs2, hb2⟩
  have hB2 := (unhide HB1).trans (hb2.mono (unhide HB1).size)
  have HR2 := hide (unhide HR w2 hB2 a2 c2 hbs2)
  have HB2 := hide hB2
  clear hbs2 hb2 hB2 HS1 HR HB1
  go_wp2_with fail
  refine (unhide HR2).mono ?_
  rintro e w3 ⟨rfl, g3, c3, hh3, ht3⟩
  have HH3 := hide hh3
  have HT3 := hide ((Turn.of_below (S := foot p g) (unhide HB2)).trans ht3)
  clear hh3 ht3 HR2 HB2
  go_wp2
  go_ret2
  first
    | exact ⟨rfl, g3, c3, unhide HH3, unhide HT3⟩
    | exact ⟨rfl, g3, ⟨c3, unhide HH3⟩, unhide HT3⟩
end
end Go.Proofs.YtopblhmbjdfebaaGreat
/-! Contracts of package move: Gain. (Part of the proofs over package move.) -/
namespace Go.Proofs.YtopblhmbjdfebaaGreat
open Go.RowKit Go.Sort
set_option linter.unusedVariables false

theorem gn_bd {L : List Int} (hf : Fine L) : 0 ≤ lenSum (freeL (L.length : Int) (tknL L)) ∧ lenSum (freeL (L.length : Int) (tknL L)) ≤ 6400 * 201 ∧ 0 ≤ mostOf 0 (freeL (L.length : Int) (tknL L)) ∧ mostOf 0 (freeL (L.length : Int) (tknL L)) ≤ lenSum (freeL (L.length : Int) (tknL L)) := by
  have hsm := freeL_small (tk_chk hf)
  have hl := hf.len
  have h1 := lenSum_bd (l := freeL (L.length : Int) (tknL L)) (fun e he => by have := hsm.1 e he; omega)
  have hge := lenSum_ge (h := freeL (L.length : Int) (tknL L)) (fun r hr => (hsm.1 r hr).2.1)
  have hm : mostOf 0 (freeL (L.length : Int) (tknL L)) ≤ lenSum (freeL (L.length : Int) (tknL L)) := most_le.2 ⟨hge.1, hge.2⟩
  have hm0 := (most_le (h := freeL (L.length : Int) (tknL L)) (m := 0) (M := mostOf 0 (freeL (L.length : Int) (tknL L)))).1 (Int.le_refl _)
  refine ⟨h1.1, ?_, hm0.1, hm⟩
  have := h1.2
  have := hsm.2
  omega
section
variable {w : World} {B p g c : Nat} {L : List Int}
set_option maxRecDepth 100000 in
set_option maxHeartbeats 1000000 in
theorem mvGain_any (h : Hp w B p g c L) :
    Calls Tryz.prog 22 #[.pointer (some ⟨p, 0, none⟩)] w fun e w' => e = .returned (.int .i64 (gnL L)) ∧ Below w.heap.size w w' := by
  have HB := hide (hBytes_any p g c B L w h)
  have hf := h.fine
  have hbyt := h.byt
  have hlen := h.len
  have hel := entsK_len L 40
  have htl := tknL_len L
  have hch := tk_chk hf
  obtain ⟨b1, b2, b3, b4⟩ := gn_bd hf
  have hgn := gn_code hf
  have HE := hide (fun (W : World) (a : Option Addr) (cap : Nat) (hbs : Bs W a cap L) => iEnts_yes a cap L W hbs hf.len0)
  have HT := hide (fun (W : World) (a : Option Addr) (cap : Nat) (hs : Sls enC 4 W a cap (entsK L 40)) => taken_any a cap (entsK L 40) W hs hel)
  have HIN := hide (tk_in hf)
  have hst : stT (L.length : Int) (tknL L) = (((tknL L).length : Int), lenSum (tknL L), lenSum (freeL (L.length : Int) (tknL L)), mostOf 0 (freeL (L.length : Int) (tknL L)), ((freeL (L.length : Int) (tknL L)).length : Int)) := by unfold stT; rw [if_pos hch]
  have HS := hide (fun (W : World) (a : Option Addr) (cap : Nat) (hx : Exs W a cap (tknL L)) => stat_any (L.length : Int) a cap (tknL L) W hx _ _ _ _ _ hst)
  rw [hch, errV_zero] at HS
  change Hid (∀ (W : World) (a : Option Addr) (cap : Nat), Sls enC 4 W a cap (entsK L 40) → Calls Tryz.prog 54 #[.slice a (entsK L 40).length cap] W fun e w' => ∃ v, e = .returned v ∧ Lst exC 2 84 w' W.heap.size v (tknL L) ∧ Below W.heap.size W w') at HT
  have HBY := hide hbyt
  rw [← hgn]
  clear h hf hbyt hch hgn hst
  generalize lenSum (freeL (L.length : Int) (tknL L)) = F at *
  generalize mostOf 0 (freeL (L.length : Int) (tknL L)) = M at *
  generalize ((freeL (L.length : Int) (tknL L)).length : Int) = R at *
  generalize lenSum (tknL L) = U at *
  generalize entsK L 40 = EN at *
  generalize tknL L = TL at *
  generalize hN : L.length = N at *
  have HN := hide hN
  clear hN
  go_enter Tryz.func22, Tryz.ntmps22
  go_wp2_with fail
  refine (unhide HB).mono ?_
  rintro e w1 ⟨a1, c1, rfl, ho1, hb1⟩
  obtain ⟨a1', c1', e1, hbs1⟩ := ho1.bs (unhide HBY) (by rw [unhide HN]; omega)
  rw [unhide HN] at e1
  simp only [Value.slice.injEq, true_and] at e1
  obtain ⟨rfl, rfl⟩ := e1
  have HE1 := hide (unhide HE w1 a1 c1 hbs1)
  have HB1 := hide hb1
  clear ho1 hb1 hbs1 HB HE
  go_wp2_with fail
  refine (unhide HE1).mono ?_
  rintro e w2 ⟨v2, rfl, ho2, hb2⟩
  obtain ⟨a2, c2, rfl, hs2⟩ := ho2.sls enC_len (by omega)
  have HT2 := hide (unhide HT w2 a2 c2 hs2)
  have HB2 := hide ((unhide HB1).trans (hb2.mono (unhide HB1).size))
  clear ho2 hs2 hb2 HE1 HT HB1
  go_wp2_with fail
  refine (unhide HT2).mono ?_
  rintro e w3 ⟨v3, rfl, ho3, hb3⟩
  have ho3' : ExO w3 w2.heap.size v3 TL := ho3
  obtain ⟨a3, c3, rfl, hx3⟩ := ho3'.exs (unhide HIN) (by omega)
  have HS3 := hide (unhide HS w3 a3 c3 hx3)
  have HB3 := hide ((unhide HB2).trans (hb3.mono (unhide HB2).size))
  clear ho3 ho3' hx3 hb3 HT2 HS HB2 HIN
  go_wp2_with fail
  refine (unhide HS3).mono ?_
  rintro e w4 ⟨rfl, hb4⟩
  have hB4 := (unhide HB3).trans (hb4.mono (unhide HB3).size)
  have HB4 := hide (hB4.alloc hB4.size (.cells #[.int .i64 (TL.length : Int), .int .i64 U, .int .i64 F, .int .i64 M, .int .i64 R] 55))
  clear hb4 hB4 HS3 HB3
  go_wp2
  go_ret
  exact ⟨rfl, unhide HB4⟩
end
end Go.Proofs.YtopblhmbjdfebaaGreat
