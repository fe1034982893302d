/-
  The walk of the law PagesSafe. (Part of the proof of PagesSafe.)
-/
import Derived.Test.YtidhbfondfclpaaDoorJSafe
import Derived.Test.YtidhbfondfclpaaDoorJPages
import Derived.Deep.RegionHeld3
import Derived.Deep.CutRange
import Derived.Deep.QuietTactic
import Derived.BigQuiet
namespace Go.Proofs.YtidhbfondfclpaaDoor
open Go.RowKit
set_option linter.unusedVariables false

set_option maxRecDepth 100000 in
theorem safe_no (n : Int) (a1 a2 a4 : Option Addr) (n1 n2 n4 c1 c2 c4 : Nat) (f t c g : Int) (w : World) (hn : n < 1 ∨ 300 < n) :
    Calls Tryd.prog 4 #[.int .i64 n, .slice a1 n1 c1, .slice a2 n2 c2, .int .i64 f, .slice a4 n4 c4, .int .i64 t, .int .i64 c, .int .i64 g] w fun e w' => e = .returned (.bool true) ∧ Below w.heap.size w w' := by
  have hnew := new_no n w hn
  rw [errV_pos 1 (by decide)] at hnew
  have HN := hide hnew
  clear hnew hn
  go_enter Tryd.func4, Tryd.ntmps4
  go_wp2_with fail
  refine (unhide HN).mono ?_
  rintro e w7 ⟨rfl, rfl⟩
  go_wp2
  go_ret
  exact ⟨rfl, Below.refl _ _⟩
set_option maxRecDepth 100000 in
theorem safe_few (n : Nat) (a1 a2 a4 : Option Addr) (n1 n2 n4 c1 c2 c4 : Nat) (f t c g : Int) (w : World) (h1 : 1 ≤ n) (h2 : n < 49) :
    Calls Tryd.prog 4 #[.int .i64 n, .slice a1 n1 c1, .slice a2 n2 c2, .int .i64 f, .slice a4 n4 c4, .int .i64 t, .int .i64 c, .int .i64 g] w fun e w' => e = .returned (.bool true) ∧ Below w.heap.size w w' := by
  have HN := hide (new_live n w w (Below.refl _ _) h1 (by omega))
  go_enter Tryd.func4, Tryd.ntmps4
  go_wp2_with fail
  refine (unhide HN).mono ?_
  rintro e w7 ⟨p, S, rfl, hl, _, _⟩
  go_wp2
  go_ret
  exact ⟨rfl, hl.bel⟩

/-- What the first Commit comes to. -/
theorem first_commit {w0 w : World} {p q n L : Nat} {S : Nat → Prop} {D : DS} (hlv : Live w0 w p S D) (hpg : PgAt w q p 2) (hout : ¬ S q) (hqb : w0.heap.size ≤ q) (hn : Neat D L 2 (fun _ => zerosB 32) 0 []) (hleft : D.left < 0) (hlen : D.secs.length = n) (hL : cntI n = L)
    (a : Option Addr) (cap : Nat) (l : List (Int × List Int)) (hl : PgsO w0 (fun _ => False) a cap l) :
    Calls Tryd.prog 10 #[.pointer (some ⟨q, 0, none⟩), .slice a l.length cap] w fun e w' => ∃ E : Int, e = .returned (errV E) ∧ ∃ S' D' s' P' a0 nl, Live w0 w' p S' D' ∧ PgAt w' q p s' ∧ ¬ S' q ∧ Neat D' L s' P' a0 nl ∧ D'.left < 0 ∧ D'.secs.length = n ∧ 2 ≤ s' ∧ s' ≤ 3 ∧
      (E = 0 → ∀ k, k < l.length → 0 ≤ (l.getD k (0, [])).1 ∧ (l.getD k (0, [])).1 < L ∧ P' (l.getD k (0, [])).1.toNat = (l.getD k (0, [])).2) := by
  have hb : ∀ k, k < l.length → Byt (l.getD k (0, [])).2 := fun k hk => by
    obtain ⟨b, off, _, _, h6⟩ := hl.2.2 (List.length_pos_iff.1 (by omega))
    obtain ⟨_, _, _, _, hbs, _⟩ := h6 k hk
    exact hbs.1
  refine (commit_any hlv hpg hout hqb a cap l (hl.live hlv) (by rw [hlen]; exact hL) (by decide) (by decide)).mono ?_
  rintro e w' ⟨rfl, S', hlv', hpg', hout', ht⟩
  refine ⟨_, rfl, ?_⟩
  rcases commit_ever hn (by decide) hleft l hb with ⟨h1, h2⟩ | ⟨h1, h2⟩ | ⟨h1, hv, h2, h3, h4⟩
  · rw [h2] at hlv' hpg' ⊢
    exact ⟨S', D, 2, _, 0, [], hlv', hpg', hout', hn, hleft, hlen, by decide, by decide, fun h => absurd h h1⟩
  · rw [h2] at hlv' hpg' ⊢
    exact ⟨S', D, 2, _, 0, [], hlv', hpg', hout', hn, hleft, hlen, by decide, by decide, fun _ k hk => by rw [h1] at hk; cases hk⟩
  · have e1 : (commitOut D 2 L l).2.1 = 2 + 1 := by rw [h2]
    rw [e1] at hpg'
    refine ⟨S', _, 2 + 1, _, _, _, hlv', hpg', hout', h3, h4, ?_, by decide, by decide, fun _ k hk => ⟨(hv.num k hk).1, (hv.num k hk).2, upd_at hv hk⟩⟩
    have e2 : (commitOut D 2 L l).2.2 = 0 := by rw [h2]
    rw [← hlen]
    have hrun := commitOut_run (D := D) (s := 2) (L := L) (l := l) (by
      by_cases he : commitE L l = 0
      · exact he
      · have : commitOut D 2 L l = (D, 2, commitE L l) := by unfold commitOut; rw [if_pos he]
        rw [this] at e2
        exact absurd e2 he) h1 (by have := hn.len; omega) (by decide)
    rw [hrun]
    show (commitRun D 2 l).1.secs.length = _
    rcases commit_all hn (by decide) hv hb with ⟨_, _, r3⟩ | ⟨_, _, r3, _⟩
    · exact r3
    · exact r3

set_option maxRecDepth 100000 in
set_option maxHeartbeats 8000000 in
theorem safe_in (n : Nat) (a1 : Option Addr) (cap1 : Nat) (l1 : List (Int × List Int)) (a2 : Option Addr) (cap2 : Nat) (l2 : List (Int × List Int)) (f : Int) (a4 : Option Addr) (cap4 : Nat) (l4 : List Bool) (torn cut again : Int) (w : World) (hg : ErrT w)
    (hp1 : PgsO w (fun _ => False) a1 cap1 l1) (hp2 : PgsO w (fun _ => False) a2 cap2 l2) (hf : -9223372036854775808 ≤ f ∧ f ≤ 9223372036854775807) (hk : Bls w a4 cap4 l4) (ha : -9223372036854775808 ≤ again ∧ again ≤ 9223372036854775807) (h1 : 49 ≤ n) (h2 : n ≤ 300) :
    Calls Tryd.prog 4 #[.int .i64 n, .slice a1 l1.length cap1, .slice a2 l2.length cap2, .int .i64 f, .slice a4 l4.length cap4, .int .i64 torn, .int .i64 cut, .int .i64 again] w fun e w' => e = .returned (.bool true) ∧ Below w.heap.size w w' := by
  obtain ⟨L, hL, hL1, hL2, hL3⟩ := cnt_new h1 h2
  have HG := hide hg
  have HP1 := hide hp1
  have HP2 := hide hp2
  have HK := hide hk
  have ll1 := hp1.2.1
  have ll2 := hp2.2.1
  have HF := hide hf
  have HA := hide ha
  obtain ⟨it, ht0, ht1, ht2, ht3⟩ := info_parts info_bytes
  have HN := hide (new_live n w w (Below.refl _ _) (by omega) h2)
  clear hg hp1 hp2 hk hf ha
  generalize hN2 : l2.length = N2 at *
  have HN2 := hide hN2
  clear hN2
  have f1 : ¬ (n : Int) < 49 := by omega
  go_enter Tryd.func4, Tryd.ntmps4
  go_wp2_with fail
  refine (unhide HN).mono ?_
  rintro e w1 ⟨p, S1, rfl, hl1, _, _⟩
  have HFM := hide (format_made hl1 h1 h2 hL hL1 hL2 hL3)
  clear HN hl1
  go_wp2_with fail
  refine (unhide HFM).mono ?_
  rintro e w2 ⟨q, rfl, S2, D2, hl2, hpg, hout, hqb, hneat, hleft, hlen⟩
  have hln := pLen_any hl2.dev hpg
  rw [hlen, hL] at hln
  have HLN := hide hln
  have HCM := hide (first_commit hl2 hpg hout hqb hneat hleft hlen hL a1 cap1 l1 (unhide HP1))
  clear HFM hl2 hpg hln hneat hout hleft hlen
  go_wp2_with fail
  refine (unhide HLN).mono ?_
  rintro e w3 ⟨rfl, rfl⟩
  go_wp2_with fail
  refine (unhide HCM).mono ?_
  rintro e w3 ⟨E, rfl, S3, D3, s, P, a0, nl, hl3, hpg, hout, hneat, hleft, hlen, hs2, hs3, hEP⟩
  have hln : ∀ wx, Below w3.heap.size w3 wx → Calls Tryd.prog 9 #[.pointer (some ⟨q, 0, none⟩)] wx fun e w' => e = .returned (.int .i64 L) ∧ wx = w' := fun wx hb => by
    have := pLen_any (hl3.below hb).dev (hpg.below hb)
    rwa [hlen, hL] at this
  have hrd : ∀ wx, Below w3.heap.size w3 wx → ∀ i : Nat, i < L → Calls Tryd.prog 12 #[.pointer (some ⟨q, 0, none⟩), .int .i64 i] wx fun e w' => ∃ g, e = .returned (.tuple #[.slice (some ⟨g, 0, none⟩) 32 32, .nilIface]) ∧ wx.heap.size ≤ g ∧ Blk w' g (P i) ∧ Below wx.heap.size wx w' := fun wx hb i hi => by
    have := pRead_yes (hl3.below hb).dev (hpg.below hb) i (decide_eq_true ⟨by omega, by rw [hlen, hL]; omega⟩) hneat.down
    have e : D3.rd (48 + i) = P i := by rw [rd_img hneat.mem]; exact hneat.pages i hi
    rwa [e] at this
  have hsec : ∀ i, i < L → Sec (P i) := fun i hi => by
    have e : D3.rd (48 + i) = P i := by rw [rd_img hneat.mem]; exact hneat.pages i hi
    rw [← e]
    exact hneat.ok.rd (by have := hneat.len; omega)
  have HLN2 := hide hln
  have HRD := hide hrd
  have HSEC := hide hsec
  have HEP := hide hEP
  have HL3 := hide hl3
  have HPG := hide hpg
  have HNEAT := hide hneat
  clear HCM HLN hl3 hpg hln hrd hneat hsec hEP
  go_wp2_with fail
  refine (unhide HLN2 w3 (Below.refl _ _)).mono ?_
  rintro e w4 ⟨rfl, rfl⟩
  go_wp2_with (at_make; refine wpList_make_tab rfl _ _ 32 rfl it Tryd.underlying32 ht0 ht1 ht2 ht3 _ _ _ _ L rfl rfl rfl rfl (by omega) ?_)
  intro w4 htab hb4
  have hnq : ∀ k, w3.heap.size ≤ k → ¬ plus S3 q k := fun k hk hs => by
    rcases hs with hs | hs
    · have := (unhide HL3).dev.lt k hs; omega
    · have := (unhide HPG).lt; omega
  have HT4 := hide (htab (plus S3 q) P (hnq _ (Nat.le_refl _)))
  have HB4 := hide hb4
  have htge : w.heap.size ≤ w3.heap.size := (unhide HL3).bel.size
  clear htab hb4
  go_upto_region 9 with fail
  go_cut [23] from 67 to 67 (fun v wx => v = .int .i64 0 ∧ wx = w4)
  case first =>
    go_wp2
    go_meet
    case rel => exact ⟨rfl, rfl⟩
  case rest =>
    obtain ⟨rfl, rfl⟩ := hcut
    refine (‹∀ (a : Act) (w : World), Code.wp Tryd.prog (Code.block _ _) _ a w → _›) _ _ ?_
    go_cut [23] from 67 to 84 (fun v wx => Tab wx (plus S3 q) w3.heap.size L P L ∧ Below w3.heap.size w3 wx)
    case first =>
      go_wp2_with fail
      go_loopw [23] (fun v wr => ∃ k : Nat, k ≤ L ∧ v = .int .i64 k ∧ Tab wr (plus S3 q) w3.heap.size L P k ∧ Below w3.heap.size w3 wr) (fun v _ => L - (intOf v).toNat)
      case atStart => exact ⟨0, Nat.zero_le _, rfl, unhide HT4, unhide HB4⟩
      case round =>
        obtain ⟨k, hk, rfl, htab, hbel⟩ := hrel
        have HC := hide (unhide HLN2 wr hbel)
        clear HT4 HB4
        by_cases hlt : k < L
        · have HR := hide (unhide HRD wr hbel k hlt)
          have HTAB := hide htab
          have HBEL := hide hbel
          have hsz := hbel.size
          clear htab hbel
          go_wp2_with fail
          refine (unhide HC).mono ?_
          rintro e w5 ⟨rfl, rfl⟩
          go_wp2_with fail
          refine (unhide HR).mono ?_
          rintro e w5 ⟨g5, rfl, hg5, hk5, hb5⟩
          have htab5 := (unhide HTAB).below hb5
          obtain ⟨rv, hroom⟩ := htab5.room k hlt
          have hfr := htab5.fr k
          have HP5 : Hid (Tab (w5.setCell ⟨w3.heap.size, k, none⟩ (.slice (some ⟨g5, 0, none⟩) 32 32)) (plus S3 q) w3.heap.size L P (k + 1)) := hide (htab5.put hlt hk5 (hnq _ (by omega)))
          have HB5 : Hid (Below w3.heap.size w3 (w5.setCell ⟨w3.heap.size, k, none⟩ (.slice (some ⟨g5, 0, none⟩) 32 32))) := hide (((unhide HBEL).trans (hb5.mono hsz)).setCell (Nat.le_refl _) _)
          clear htab5 hk5 hb5 HTAB HBEL HR HC
          go_wp2
          go_roundw
          case rel => exact ⟨k + 1, by omega, by go_num, unhide HP5, unhide HB5⟩
          case measure => simp [intOf]; omega
        · obtain rfl : k = L := by omega
          have HTAB := hide htab
          have HBEL := hide hbel
          clear htab hbel
          go_wp2_with fail
          refine (unhide HC).mono ?_
          rintro e w5 ⟨rfl, rfl⟩
          go_wp2
          go_meet
          case rel => exact ⟨unhide HTAB, unhide HBEL⟩
    case rest =>
      obtain ⟨htab, hbel⟩ := hcut
      have hst : RowSt w wc p q w3.heap.size n L S3 D3 s P P := ⟨(unhide HL3).below hbel, (unhide HPG).below hbel, hout, hqb, ⟨a0, nl, unhide HNEAT⟩, hleft, hlen, htab.tbl (unhide HSEC), htge⟩
      have HST := hide hst
      clear hst htab hbel HLN2 HL3 HPG HNEAT hout hqb hleft hlen hnq HT4 HB4 HRD
      generalize w3.heap.size = t at *
      go_upto_region 16 with fail
      go_cut [21, 86] from 63 to 63 (fun u v wx => u = errV E ∧ v = .bool (decide (E = 0)) ∧ wx = wc)
      case first =>
        by_cases hE : E = 0
        · have HU := hide (show Value.nilIface = errV E by rw [hE]; rfl)
          have HD := hide (decide_eq_true hE)
          rw [show errV E = Value.nilIface by rw [hE]; rfl]
          clear hE
          go_wp2
          go_meet
          case rel => exact ⟨unhide HU, by rw [unhide HD], rfl⟩
        · have HU := hide (errV_pos _ hE).symm
          have HD := hide (decide_eq_false hE)
          rw [errV_pos _ hE]
          clear hE
          go_wp2
          go_meet
          case rel => exact ⟨unhide HU, by rw [unhide HD], rfl⟩
      case rest =>
        obtain ⟨rfl, rfl, rfl⟩ := hcut
        go_upto_if 86 with fail
        go_cut [26] from 86 to 86 (fun v wx => RowSt w wx p q t n L S3 D3 s P P)
        case first =>
          by_cases hE : E = 0
          · rw [decide_eq_true hE]
            have HEP2 := hide (unhide HEP hE)
            clear hE
            go_wp2_with fail
            go_loopw [26] (fun v wr => ∃ k : Nat, k ≤ l1.length ∧ v = .int .i64 k ∧ RowSt w wr p q t n L S3 D3 s P P) (fun v _ => l1.length - (intOf v).toNat)
            case atStart => exact ⟨0, Nat.zero_le _, rfl, unhide HST⟩
            case round =>
              obtain ⟨k, hk, rfl, hsr⟩ := hrel
              by_cases hlt : k < l1.length
              · obtain ⟨b1, off1, rfl, _, hcs⟩ := (unhide HP1).2.2 (List.length_pos_iff.1 (by omega))
                obtain ⟨c0, ab, capb, c1, hbs, _, _⟩ := hcs k hlt
                rw [← hsr.live.bel.cell (block_lt_of_cell c0)] at c0
                rw [← hsr.live.bel.cell (block_lt_of_cell c1)] at c1
                rw [← Nat.add_assoc] at c1
                obtain ⟨z0, z1, hPz⟩ := unhide HEP2 k hlt
                obtain ⟨z, hz⟩ : ∃ z : Nat, (l1.getD k (0, [])).1 = z := ⟨(l1.getD k (0, [])).1.toNat, by omega⟩
                rw [hz, Int.toNat_natCast] at hPz
                rw [hz] at c0 z0 z1
                have hbs2 := hbs.below hsr.live.bel
                rw [← hPz] at hbs2 c1
                obtain ⟨tb, cb, d1, d2⟩ := hsr.tbl.cell z (by omega)
                have cv1 : ∀ m, (convert 33 9 (.slice tb (P z).length cb)).run Tryd.prog (wr.drewN m) = .ok (.string (strOf (P z))) (wr.drewN m) := fun m => conv_str (P := Tryd.prog) (t := 33) (e := 9) Tryd.underlying33 Tryd.underlying5 Tryd.underlying9 (bs_drewN d2 m)
                have cv2 : ∀ m, (convert 33 9 (.slice ab (P z).length capb)).run Tryd.prog (wr.drewN m) = .ok (.string (strOf (P z))) (wr.drewN m) := fun m => conv_str (P := Tryd.prog) (t := 33) (e := 9) Tryd.underlying33 Tryd.underlying5 Tryd.underlying9 (bs_drewN hbs2 m)
                have HS := hide hsr
                clear hsr hcs hbs hbs2 d2 hPz hz
                generalize strOf (P z) = st at *
                generalize (P z).length = pl at *
                go_wp2_with fail
                go_quiet (fail)
                go_wp2
                go_roundw
                case rel => exact ⟨k + 1, by omega, by go_num, (unhide HS).drewN _⟩
                case measure => simp [intOf]; omega
              · obtain rfl : k = l1.length := by omega
                have HS := hide hsr
                clear hsr
                go_wp2
                go_meet
                case rel => exact unhide HS
          · rw [decide_eq_false hE]
            clear hE
            go_wp2
            go_meet
            case rel => exact unhide HST
        case rest =>
          have hst := hcut
          clear hcut HST
          have HSM := hide (pStamp_any hst.pg)
          have HFL := hide (hst.live.fail f (unhide HF))
          have HST := hide hst
          clear hst HEP
          go_wp2_with fail
          refine (unhide HSM).mono ?_
          rintro e w5 ⟨rfl, rfl⟩
          go_wp2_with fail
          refine (unhide HFL).mono ?_
          rintro e w5 ⟨rfl, S5, hl5, ht5⟩
          have HCM := hide ((unhide HST).second f (unhide HF) hl5 ht5 hL (by omega) (by omega) a2 cap2 l2 (unhide HP2))
          rw [unhide HN2] at HCM
          clear hl5 ht5 HST HFL HSM
          go_wp2_with fail
          refine (unhide HCM).mono ?_
          rintro e w6 ⟨E2, rfl, S6, D6, hb6, hres⟩
          have HCR := hide (hb6.crash torn cut (unhide HK))
          have HRES := hide (hres l4 torn (cutN cut) (cutN_le cut))
          clear hb6 hres HCM
          generalize hD7 : D6.crash l4 torn (cutN cut) = D7 at *
          clear hD7
          go_wp2_with fail
          refine (unhide HCR).mono ?_
          rintro e w7 ⟨rfl, S7, hb7⟩
          have HFA := hide (hb7.fail again (unhide HA))
          clear hb7 HCR
          go_wp2_with fail
          refine (unhide HFA).mono ?_
          rintro e w8 ⟨rfl, S8, hb8⟩
          clear HFA
          have hres2 : ∃ s' P', Ready D7 L s' P' ∧ ((s' = s ∧ P' = P ∧ ¬ (E2 = 0 ∧ l2 ≠ [])) ∨ (s' = s + 1 ∧ P' = upd P l2 ∧ l2 ≠ [] ∧ (E2 = 0 ∨ E2 = 9) ∧ Valid L l2)) := by
            rcases unhide HRES with ⟨h1, h2⟩ | ⟨h1, h2⟩
            · exact ⟨s, P, h1, .inl ⟨rfl, rfl, h2⟩⟩
            · exact ⟨s + 1, upd P l2, h1, .inr ⟨rfl, rfl, h2⟩⟩
          obtain ⟨s', P', hrdy, hwhich⟩ := hres2
          have HW := hide hwhich
          have HOP := hide (hb8.open (hrdy.fail (unhide HA)) hL hL1)
          clear hwhich hrdy hb8 HRES
          go_upto_region 27 with fail
          go_cut [20, 29] from 125 to 125 (fun u v wx => (u = .nilIface ∧ ∃ q' S' D', v = .pointer (some ⟨q', 0, none⟩) ∧ SafeC w wx p q' t n L S' D' s' P' P) ∨ (u = errV 9 ∧ v = .pointer none ∧ ∃ S' D', SafeB w wx p t n L S' D' P ∧ ∀ keep torn c, c ≤ 32 → Ready (D'.crash keep torn c) L s' P'))
          case first =>
            go_wp2_with fail
            refine (unhide HOP).mono ?_
            rintro e w9 (⟨q9, rfl, S9, D9, hc9⟩ | ⟨rfl, _, S9, D9, hb9, hr9⟩)
            · go_wp2
              go_meet
              case rel => exact .inl ⟨rfl, q9, S9, D9, rfl, hc9⟩
            · go_wp2
              go_meet
              case rel => exact .inr ⟨rfl, rfl, S9, D9, hb9, hr9⟩
          case rest =>
            have HCUT := hide hcut
            clear hcut HOP
            go_upto_region 28 with fail
            go_cut [20, 131] from 130 to 130 (fun u b wx => wx = wc ∧ ((b = .bool false ∧ u = .nilIface ∧ ∃ q' S' D', u29 = .pointer (some ⟨q', 0, none⟩) ∧ SafeC w wc p q' t n L S' D' s' P' P) ∨ (b = .bool true ∧ u = errV 9 ∧ u29 = .pointer none ∧ ∃ S' D', SafeB w wc p t n L S' D' P ∧ ∀ keep torn c, c ≤ 32 → Ready (D'.crash keep torn c) L s' P')))
            case first =>
              rcases unhide HCUT with ⟨rfl, hh⟩ | ⟨rfl, hh⟩
              · have HH := hide hh
                clear hh
                go_wp2
                go_meet
                case rel => exact ⟨rfl, .inl ⟨rfl, rfl, unhide HH⟩⟩
              · have HH := hide hh
                clear hh
                rw [errV_pos 9 (by decide)]
                go_wp2
                go_meet
                case rel => exact ⟨rfl, .inr ⟨rfl, by rw [errV_pos 9 (by decide)], unhide HH⟩⟩
            case rest =>
              obtain ⟨rfl, hcut⟩ := hcut
              have HC2 := hide hcut
              clear hcut HCUT
              go_upto_if 131 with fail
              go_cut [20, 29] from 131 to 131 (fun u v wx => ∃ q' S' D', v = .pointer (some ⟨q', 0, none⟩) ∧ SafeC w wx p q' t n L S' D' s' P' P)
              case first =>
                rcases unhide HC2 with ⟨rfl, rfl, q9, S9, D9, rfl, hc9⟩ | ⟨rfl, rfl, rfl, S9, D9, hb9, hr9⟩
                · clear HC2
                  have HC9 := hide hc9
                  clear hc9
                  go_wp2
                  go_meet
                  case rel => exact ⟨q9, S9, D9, rfl, unhide HC9⟩
                · clear HC2
                  have HB9 := hide hb9
                  have HR9 := hide hr9
                  have HER := hide (error_same 9 wc ((unhide HG).below hb9.live.bel))
                  clear hb9 hr9
                  rw [errV_pos 9 (by decide)] at HER ⊢
                  go_wp2_with fail
                  refine (unhide HER).mono ?_
                  rintro e w10 ⟨rfl, hb10⟩
                  have HCR := hide (((unhide HB9).below hb10).crash (-1) 0 (unhide HK))
                  clear hb10 HER HB9
                  go_wp2_with fail
                  refine (unhide HCR).mono ?_
                  rintro e w11 ⟨rfl, S11, hb11⟩
                  have HOP := hide (hb11.open (unhide HR9 l4 (-1) (cutN 0) (cutN_le 0)) hL hL1)
                  clear hb11 HCR HR9
                  go_wp2_with fail
                  refine (unhide HOP).mono ?_
                  rintro e w12 (⟨q12, rfl, S12, D12, hc12⟩ | ⟨_, hno, _⟩)
                  · have HC12 := hide hc12
                    clear hc12 HOP
                    go_wp2
                    go_meet
                    case rel => exact ⟨q12, S12, D12, rfl, unhide HC12⟩
                  · exfalso
                    have h0 : (D9.crash l4 (-1) (cutN 0)).left = -1 := rfl
                    omega
              case rest =>
                obtain ⟨q9, S9, D9, rfl, hc9⟩ := hcut
                have HFL := hide (hc9.fail (-1) (by decide))
                clear hc9 HC2
                go_wp2_with fail
                refine (unhide HFL).mono ?_
                rintro e w13 ⟨rfl, S13, hc13⟩
                have HSM := hide (pStamp_any hc13.pg)
                have HC13 := hide hc13
                have HRO : Hid (∀ wx S, SafeC w wx p q9 t n L S { D9 with left := -1 } s' P' P → Calls Tryd.prog 11 #[.pointer (some ⟨p, 0, none⟩)] wx fun e w' => ∃ r, e = .returned (.tuple #[.pointer (some ⟨r, 0, none⟩), .nilIface]) ∧ PgAt w' r p s' ∧ PgAt w' q9 p s' ∧ Below w.heap.size w w') := hide (fun wx S h => h.reopen (by show (-1 : Int) < 0; decide) hL hL1)
                have hlenD : { D9 with left := -1 }.secs.length = n := hc13.len
                have HLEN := hide hlenD
                generalize hDD : ({ D9 with left := -1 } : DS) = D13 at *
                clear hc13 HFL hDD hlenD
                go_upto_region 35 with fail
                go_cut [31] from 151 to 151 (fun v wx => v = .bool (decide (s' = s + 1)) ∧ wx = w13)
                case first =>
                  go_wp2_with (go_at_call 8; refine (unhide HSM).mono ?_; rintro e w' ⟨rfl, rfl⟩)
                  go_meet
                  case rel => exact ⟨by first | rfl | (congr 1; by_cases h : s' = s + 1 <;> simp [h]), rfl⟩
                case rest =>
                  obtain ⟨rfl, rfl⟩ := hcut
                  go_upto_region 36 with fail
                  go_cut [2, 28, 31, 183] from 115 to 116 (fun y u d v wx => y = .slice a2 N2 cap2 ∧ u = errV E2 ∧ d = .bool (decide (s' = s + 1)) ∧ v = .bool false ∧ wx = wc)
                  case first =>
                    have hcases : (s' = s ∧ E2 = 0 ∧ N2 = 0) ∨ (s' = s ∧ E2 ≠ 0) ∨ (s' = s + 1 ∧ E2 = 0 ∧ 0 < N2) ∨ (s' = s + 1 ∧ E2 ≠ 0 ∧ 0 < N2) := by
                      rcases unhide HW with ⟨h1, _, h3⟩ | ⟨h1, _, h3, _⟩
                      · by_cases hE : E2 = 0
                        · by_cases hl : l2 = []
                          · exact .inl ⟨h1, hE, by rw [← unhide HN2, hl]; rfl⟩
                          · exact absurd ⟨hE, hl⟩ h3
                        · exact .inr (.inl ⟨h1, hE⟩)
                      · by_cases hE : E2 = 0
                        · exact .inr (.inr (.inl ⟨h1, hE, by rw [← unhide HN2]; exact List.length_pos_iff.2 h3⟩))
                        · exact .inr (.inr (.inr ⟨h1, hE, by rw [← unhide HN2]; exact List.length_pos_iff.2 h3⟩))
                    clear HW HC13 HRO
                    rcases hcases with ⟨hs, hE, hl⟩ | ⟨hs, hE⟩ | ⟨hs, hE, hl⟩ | ⟨hs, hE, hl⟩
                    · have HU := hide (show Value.nilIface = errV E2 by rw [hE]; rfl)
                      have HD := hide (show decide (s' = s + 1) = false from decide_eq_false (by omega))
                      rw [show errV E2 = Value.nilIface by rw [hE]; rfl, unhide HD, hl]
                      clear hE
                      go_wp2_with (go_at_call 8; refine (unhide HSM).mono ?_; rintro e w' ⟨rfl, rfl⟩)
                      go_meet
                      case rel => exact ⟨by first | rfl | (congr 1; omega), unhide HU, by rw [unhide HD], by first | rfl | (exfalso; omega) | simp [hs], rfl⟩
                    · have HU := hide (errV_pos _ hE).symm
                      have HD := hide (show decide (s' = s + 1) = false from decide_eq_false (by omega))
                      rw [errV_pos _ hE, unhide HD]
                      clear hE
                      go_wp2_with (go_at_call 8; refine (unhide HSM).mono ?_; rintro e w' ⟨rfl, rfl⟩)
                      all_goals
                        go_meet
                        case rel => exact ⟨by first | rfl | (congr 1; omega), unhide HU, by rw [unhide HD], by first | rfl | (exfalso; omega) | simp [hs], rfl⟩
                    · have HU := hide (show Value.nilIface = errV E2 by rw [hE]; rfl)
                      have HD := hide (show decide (s' = s + 1) = true from decide_eq_true hs)
                      rw [show errV E2 = Value.nilIface by rw [hE]; rfl, unhide HD]
                      clear hE
                      go_wp2_with (go_at_call 8; refine (unhide HSM).mono ?_; rintro e w' ⟨rfl, rfl⟩)
                      all_goals
                        go_meet
                        case rel => exact ⟨by first | rfl | (congr 1; omega), unhide HU, by rw [unhide HD], by first | rfl | (exfalso; omega) | simp [hs] | (simp; omega), rfl⟩
                    · have HU := hide (errV_pos _ hE).symm
                      have HD := hide (show decide (s' = s + 1) = true from decide_eq_true hs)
                      rw [errV_pos _ hE, unhide HD]
                      clear hE
                      go_wp2_with (go_at_call 8; refine (unhide HSM).mono ?_; rintro e w' ⟨rfl, rfl⟩)
                      all_goals
                        go_meet
                        case rel => exact ⟨by first | rfl | (congr 1; omega), unhide HU, by rw [unhide HD], by first | rfl | (exfalso; omega) | simp [hs] | (simp; omega), rfl⟩
                  case rest =>
                    obtain ⟨rfl, rfl, rfl, rfl, rfl⟩ := hcut
                    go_upto_region 38 with fail
                    go_cut [28, 31, 193] from 184 to 184 (fun u d v wx => u = errV E2 ∧ d = .bool (decide (s' = s + 1)) ∧ v = .bool false ∧ Below wc.heap.size wc wx)
                    case first =>
                      have hcases : E2 = 0 ∨ (E2 ≠ 0 ∧ s' = s) ∨ (E2 = 9 ∧ s' = s + 1) := by
                        rcases unhide HW with ⟨h1, _, h3⟩ | ⟨h1, _, h3, h4, _⟩ <;> omega
                      have HERR : Hid (∀ k, Calls Tryd.prog 13 #[.iface 60 (.int .i64 k), .int .i64 9] wc fun e w' => e = .returned (.bool (k == 9)) ∧ Below wc.heap.size wc w') := hide (fun k => error_errno k 9 wc ((unhide HG).below (unhide HC13).live.bel))
                      clear HW HC13 HRO HSM
                      rcases hcases with hE | ⟨hE, hs⟩ | ⟨hE, hs⟩
                      · have HU := hide (show Value.nilIface = errV E2 by rw [hE]; rfl)
                        rw [show errV E2 = Value.nilIface by rw [hE]; rfl]
                        clear hE
                        go_wp2
                        go_meet
                        case rel => exact ⟨unhide HU, rfl, rfl, Below.refl _ _⟩
                      · have HU := hide (errV_pos _ hE).symm
                        have HD := hide (show decide (s' = s + 1) = false from decide_eq_false (by omega))
                        rw [errV_pos _ hE, unhide HD]
                        clear hE
                        go_wp2_with fail
                        refine (unhide HERR _).mono ?_
                        rintro e w' ⟨rfl, hb⟩
                        go_wp2
                        all_goals
                          go_meet
                          case rel => exact ⟨by first | exact unhide HU | (rw [← unhide HU]; simp; omega), by rw [unhide HD], by first | rfl | simp, hb⟩
                      · have HU := hide (show Value.iface 60 (.int .i64 9) = errV E2 by rw [hE]; rfl)
                        rw [show errV E2 = Value.iface 60 (.int .i64 9) by rw [hE]; rfl]
                        have HD := hide (show decide (s' = s + 1) = true from decide_eq_true hs)
                        clear hE
                        go_wp2_with fail
                        refine (unhide HERR 9).mono ?_
                        rintro e w' ⟨rfl, hb⟩
                        go_wp2
                        all_goals
                          go_meet
                          case rel => exact ⟨unhide HU, by first | rfl | rw [unhide HD], by first | rfl | simp, hb⟩
                    case rest =>
                      obtain ⟨rfl, rfl, rfl, hb14⟩ := hcut
                      have HC14 := hide ((unhide HC13).below hb14)
                      clear hb14 HC13 HSM
                      go_wp2_with fail
                      go_loopw [32] (fun v wr => ∃ i : Nat, i ≤ L ∧ v = .int .i64 i ∧ SafeC w wr p q9 t n L S13 D13 s' P' P) (fun v _ => L - (intOf v).toNat)
                      case atStart => exact ⟨0, Nat.zero_le _, rfl, unhide HC14⟩
                      case round =>
                        obtain ⟨i, hi, rfl, hsr⟩ := hrel
                        clear HC14
                        have hln := pLen_any hsr.live.dev hsr.pg
                        rw [hsr.len, hL] at hln
                        have HLN := hide hln
                        clear hln
                        by_cases hiL : i < L
                        · have hre := pRead_yes hsr.live.dev hsr.pg i (decide_eq_true ⟨by omega, by rw [hsr.len, hL]; omega⟩) hsr.ready.down
                          rw [hsr.rd i hiL] at hre
                          have hsec : Sec (P' i) := by
                            rw [← hsr.rd i hiL]
                            exact hsr.ready.ok.rd (by have := hsr.len; omega)
                          have HRE := hide hre
                          have HSR := hide hsr
                          clear hre hsr
                          go_wp2_with fail
                          refine (unhide HLN).mono ?_
                          rintro e w10 ⟨rfl, rfl⟩
                          go_wp2_with fail
                          refine (unhide HRE).mono ?_
                          rintro e w10 ⟨g10, rfl, hg10, hk10, hb10⟩
                          have hs10 := (unhide HSR).below hb10
                          obtain ⟨tb, cb, d1, d2⟩ := hs10.tbl.cell i hiL
                          have HD2 := hide d2
                          have HS10 := hide hs10
                          have HK10 := hide hk10
                          clear hs10 d2 hk10 hb10 HRE HSR HLN
                          go_upto_region 45 with fail
                          go_cut [36] from 206 to 206 (fun v wx => v = .int .i64 0 ∧ wx = w10)
                          case first =>
                            go_wp2
                            go_meet
                            case rel => exact ⟨rfl, rfl⟩
                          case rest =>
                            obtain ⟨rfl, rfl⟩ := hcut
                            refine (‹∀ (a : Act) (w : World), Code.wp Tryd.prog (Code.block _ _) _ a w → _›) _ _ ?_
                            go_cut [31, 35, 36] from 210 to 230 (fun d v _ wx => d = .bool (decide (s' = s + 1)) ∧ wx = wc ∧ ∃ ab c, v = .slice ab (P' i).length c ∧ Bs wc ab c (P' i))
                            case first =>
                              rcases unhide HW with ⟨hs, hP, _⟩ | ⟨hs, hP, hm0, _, hval⟩
                              · have HD := hide (show decide (s' = s + 1) = false from decide_eq_false (by omega))
                                rw [unhide HD]
                                have HPP := hide hP
                                clear hs hP
                                go_wp2_with fail
                                go_loopw [35, 36] (fun u v wr => u = .slice tb (P i).length cb ∧ v = .int .i64 0 ∧ wr = wc) (fun _ _ _ => 0)
                                case atStart => exact ⟨rfl, rfl, rfl⟩
                                case round =>
                                  obtain ⟨rfl, rfl, rfl⟩ := hrel
                                  go_wp2
                                  all_goals
                                    go_meet
                                    case rel => exact ⟨by rw [unhide HD], rfl, tb, cb, by rw [unhide HPP], by rw [unhide HPP]; exact unhide HD2⟩
                              · have HD := hide (show decide (s' = s + 1) = true from decide_eq_true hs)
                                rw [unhide HD]
                                obtain ⟨b2, off2, rfl, _, hcs2⟩ := (unhide HP2).2.2 hm0
                                rw [unhide HN2] at hcs2
                                have hnum : ∀ k, k < N2 → 0 ≤ (l2.getD k (0, [])).1 := fun k hk => (hval.num k (by rw [unhide HN2]; exact hk)).1
                                have HFIN : Hid (updK P l2 N2 i = P' i) := hide (by rw [← unhide HN2, hP]; exact updK_all hval i)
                                have HCS := hide hcs2
                                have HNUM := hide hnum
                                clear hs hP hm0 hval hcs2 hnum
                                go_wp2_with fail
                                go_loopw [35, 36] (fun u v wr => wr = wc ∧ ∃ k : Nat, k ≤ N2 ∧ v = .int .i64 k ∧ ∃ ab c, u = .slice ab (updK P l2 k i).length c ∧ Bs wc ab c (updK P l2 k i)) (fun _ v _ => N2 - (intOf v).toNat)
                                case atStart => exact ⟨rfl, 0, Nat.zero_le _, rfl, tb, cb, rfl, unhide HD2⟩
                                case round =>
                                  obtain ⟨rfl, k, hk, rfl, ab, c, rfl, hbs⟩ := hrel
                                  by_cases hlt : k < N2
                                  · obtain ⟨c0, ab2, capb2, c1, hbs2, _, _⟩ := unhide HCS k hlt
                                    rw [← (unhide HS10).live.bel.cell (block_lt_of_cell c0)] at c0
                                    rw [← (unhide HS10).live.bel.cell (block_lt_of_cell c1)] at c1
                                    rw [← Nat.add_assoc] at c1
                                    have hbs3 := hbs2.below (unhide HS10).live.bel
                                    have hn0 := unhide HNUM k hlt
                                    have HST : Hid (updK P l2 (k + 1) i = if i = (l2.getD k (0, [])).1.toNat then (l2.getD k (0, [])).2 else updK P l2 k i) := hide rfl
                                    have HB1 := hide hbs
                                    have HB3 := hide hbs3
                                    clear hbs hbs2 hbs3
                                    generalize (l2.getD k (0, [])).1 = z at *
                                    generalize (l2.getD k (0, [])).2 = bd at *
                                    by_cases hz : z = (i : Int)
                                    · have hup : updK P l2 (k + 1) i = bd := by rw [unhide HST, if_pos (by omega)]
                                      have HUP := hide hup
                                      clear hup HST
                                      go_wp2
                                      go_roundw
                                      case rel => exact ⟨by first | trivial | rfl, k + 1, by omega, by go_num, ab2, capb2, by rw [unhide HUP], by rw [unhide HUP]; exact unhide HB3⟩
                                      case measure => simp [intOf]; omega
                                    · have hup : updK P l2 (k + 1) i = updK P l2 k i := by rw [unhide HST, if_neg (by omega)]
                                      have HUP := hide hup
                                      clear hup HST
                                      go_wp2
                                      go_roundw
                                      case rel => exact ⟨by first | trivial | rfl, k + 1, by omega, by go_num, ab, c, by rw [unhide HUP], by rw [unhide HUP]; exact unhide HB1⟩
                                      case measure => simp [intOf]; omega
                                  · obtain rfl : k = N2 := by omega
                                    have HB1 := hide hbs
                                    clear hbs
                                    go_wp2
                                    go_meet
                                    case rel => exact ⟨by rw [unhide HD], rfl, ab, c, by rw [← unhide HFIN], by rw [← unhide HFIN]; exact unhide HB1⟩
                            case rest =>
                              obtain ⟨rfl, rfl, ab, c, rfl, hbw⟩ := hcut
                              have cv1 := whole_str0 (unhide HK10) hsec
                              have cv2 := conv_str (P := Tryd.prog) (t := 33) (e := 9) Tryd.underlying33 Tryd.underlying5 Tryd.underlying9 hbw
                              clear hbw HK10 HD2
                              generalize strOf (P' i) = st at *
                              generalize (P' i).length = pl at *
                              go_wp2
                              go_roundw
                              case rel => exact ⟨i + 1, by omega, by go_num, unhide HS10⟩
                              case measure => simp [intOf]; omega
                        · obtain rfl : i = L := by omega
                          have HO := hide (unhide HRO wr S13 hsr)
                          clear hsr HRO
                          go_wp2_with fail
                          refine (unhide HLN).mono ?_
                          rintro e w10 ⟨rfl, rfl⟩
                          go_wp2_with fail
                          refine (unhide HO).mono ?_
                          rintro e w10 ⟨r, rfl, hpr, hpq, hbel⟩
                          have HS1 := hide (pStamp_any hpr)
                          have HS2 := hide (pStamp_any hpq)
                          have HBEL := hide hbel
                          clear hpr hpq hbel HO
                          go_wp2_with fail
                          refine (unhide HS1).mono ?_
                          rintro e w11 ⟨rfl, rfl⟩
                          go_wp2_with fail
                          refine (unhide HS2).mono ?_
                          rintro e w11 ⟨rfl, rfl⟩
                          go_wp2
                          go_ret
                          exact ⟨by simp, unhide HBEL⟩

theorem walkPagesSafe (n : Int) (a1 : Option Addr) (cap1 : Nat) (l1 : List (Int × List Int)) (a2 : Option Addr) (cap2 : Nat) (l2 : List (Int × List Int)) (f : Int) (a4 : Option Addr) (cap4 : Nat) (l4 : List Bool) (torn cut again : Int) (w : World) (hg : ErrT w) (hn : -9223372036854775808 ≤ n ∧ n ≤ 9223372036854775807)
    (hp1 : PgsO w (fun _ => False) a1 cap1 l1) (hp2 : PgsO w (fun _ => False) a2 cap2 l2) (hf : -9223372036854775808 ≤ f ∧ f ≤ 9223372036854775807) (hk : Bls w a4 cap4 l4) (ht : -9223372036854775808 ≤ torn ∧ torn ≤ 9223372036854775807) (hc : -9223372036854775808 ≤ cut ∧ cut ≤ 9223372036854775807) (ha : -9223372036854775808 ≤ again ∧ again ≤ 9223372036854775807) :
    Calls Tryd.prog 4 #[.int .i64 n, .slice a1 l1.length cap1, .slice a2 l2.length cap2, .int .i64 f, .slice a4 l4.length cap4, .int .i64 torn, .int .i64 cut, .int .i64 again] w fun e w' => e = .returned (.bool true) ∧ Below w.heap.size w w' := by
  by_cases hno : n < 1 ∨ 300 < n
  · exact safe_no n a1 a2 a4 _ _ _ cap1 cap2 cap4 f torn cut again w hno
  · obtain ⟨N, rfl⟩ : ∃ N : Nat, n = N := ⟨n.toNat, by omega⟩
    by_cases h49 : N < 49
    · exact safe_few N a1 a2 a4 _ _ _ cap1 cap2 cap4 f torn cut again w (by omega) h49
    · exact safe_in N a1 cap1 l1 a2 cap2 l2 f a4 cap4 l4 torn cut again w hg hp1 hp2 hf hk ha (by omega) (by omega)
end Go.Proofs.YtidhbfondfclpaaDoor
