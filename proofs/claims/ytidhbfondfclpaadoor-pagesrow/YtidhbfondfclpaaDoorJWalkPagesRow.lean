/-
  The walk of the law PagesRow. (Part of the proof of PagesRow.)
-/
import Derived.Test.YtidhbfondfclpaaDoorJTell
import Derived.Test.YtidhbfondfclpaaDoorJPages
import Derived.Deep.RegionHeld3
import Derived.Deep.CutRange
import Derived.Deep.QuietTactic
import Derived.BigQuiet
namespace Go.Proofs.YtidhbfondfclpaaDoor
open Go.RowKit
set_option linter.unusedVariables false

theorem row_no (n : Int) (a : Option Addr) (len cap : Nat) (w : World) (hn : n < 1 ∨ 300 < n) :
    Calls Tryd.prog 3 #[.int .i64 n, .slice a len cap] w fun e w' => e = .returned (.bool true) ∧ Below w.heap.size w w' := by
  have hnew := new_no n w hn
  rw [errV_pos 1 (by decide)] at hnew
  have HN := hide hnew
  clear hnew hn
  go_enter Tryd.func3, Tryd.ntmps3
  go_wp2_with fail
  refine (unhide HN).mono ?_
  rintro e w7 ⟨rfl, rfl⟩
  go_wp2
  go_ret
  exact ⟨rfl, Below.refl _ _⟩
theorem row_few (n : Nat) (a : Option Addr) (len cap : Nat) (w : World) (h1 : 1 ≤ n) (h2 : n < 49) :
    Calls Tryd.prog 3 #[.int .i64 n, .slice a len cap] w fun e w' => e = .returned (.bool true) ∧ Below w.heap.size w w' := by
  have HN := hide (new_live n w w (Below.refl _ _) h1 (by omega))
  go_enter Tryd.func3, Tryd.ntmps3
  go_wp2_with fail
  refine (unhide HN).mono ?_
  rintro e w7 ⟨p, S, rfl, hl, _, _⟩
  go_wp2
  go_ret
  exact ⟨rfl, hl.bel⟩

set_option maxRecDepth 100000 in
set_option maxHeartbeats 8000000 in
theorem row_in (n : Nat) (a1 : Option Addr) (cap1 : Nat) (l1 : List (List (Int × List Int))) (w : World) (hg : ErrT w) (hp : Pss w a1 cap1 l1) (h1 : 49 ≤ n) (h2 : n ≤ 300) :
    Calls Tryd.prog 3 #[.int .i64 n, .slice a1 l1.length cap1] w fun e w' => e = .returned (.bool true) ∧ Below w.heap.size w w' := by
  obtain ⟨L, hL, hL1, hL2, hL3⟩ := cnt_new h1 h2
  have HG := hide hg
  have HP := hide hp
  have ll1 := hp.2.1
  obtain ⟨it, ht0, ht1, ht2, ht3⟩ := info_parts info_bytes
  obtain ⟨i0, hi0, hz0, hz1, hz2⟩ := info_parts info_u8
  have HN := hide (new_live n w w (Below.refl _ _) (by omega) h2)
  clear hg hp
  have f1 : ¬ (n : Int) < 49 := by omega
  go_enter Tryd.func3, Tryd.ntmps3
  go_wp2_with fail
  refine (unhide HN).mono ?_
  rintro e w1 ⟨p, S1, rfl, hl1, _, _⟩
  have HFM := hide (format_made hl1 h1 h2 hL hL1 hL2 hL3)
  clear HN hl1
  go_wp2_with fail
  refine (unhide HFM).mono ?_
  rintro e w2 ⟨q, rfl, S2, D2, hl2, hpg, hout, hqb, hneat, hleft, hlen⟩
  have HST := hide (pStamp_any hpg)
  have hln : ∀ wx, Below w2.heap.size w2 wx → Calls Tryd.prog 9 #[.pointer (some ⟨q, 0, none⟩)] wx fun e w' => e = .returned (.int .i64 L) ∧ wx = w' := fun wx hb => by
    have := pLen_any (hl2.below hb).dev (hpg.below hb)
    rwa [hlen, hL] at this
  have HLN := hide hln
  have HL2 := hide hl2
  have HPG := hide hpg
  have HNEAT := hide hneat
  clear HFM hl2 hpg hln hneat
  go_wp2_with fail
  refine (unhide HST).mono ?_
  rintro e w3 ⟨rfl, rfl⟩
  go_wp2_with fail
  refine (unhide HLN w2 (Below.refl _ _)).mono ?_
  rintro e w3 ⟨rfl, rfl⟩
  go_wp2_with (at_make; refine wpList_make_tab rfl _ _ 32 rfl it Tryd.underlying32 ht0 ht1 ht2 ht3 _ _ _ _ L rfl rfl rfl rfl (by omega) ?_)
  intro w4 htab hb4
  have hnq : ∀ k, w2.heap.size ≤ k → ¬ plus S2 q k := fun k hk hs => by
    rcases hs with hs | hs
    · have := (unhide HL2).dev.lt k hs; omega
    · have := (unhide HPG).lt; omega
  have HT4 := hide (htab (plus S2 q) (fun _ => zerosB 32) (hnq _ (Nat.le_refl _)))
  have HB4 := hide hb4
  have htge : w.heap.size ≤ w2.heap.size := (unhide HL2).bel.size
  clear htab hb4 HST
  go_wp2_with fail
  go_loopw [10] (fun v wr => ∃ k : Nat, k ≤ L ∧ v = .int .i64 k ∧ Tab wr (plus S2 q) w2.heap.size L (fun _ => zerosB 32) k ∧ Below w2.heap.size w2 wr) (fun v _ => L - (intOf v).toNat)
  case atStart => exact ⟨0, Nat.zero_le _, rfl, unhide HT4, unhide HB4⟩
  case round =>
    obtain ⟨k, hk, rfl, htab, hbel⟩ := hrel
    have HC := hide (unhide HLN wr hbel)
    clear HT4 HB4
    by_cases hlt : k < L
    · have HTAB := hide htab
      have HBEL := hide hbel
      have hsz := hbel.size
      clear htab hbel
      go_wp2_with fail
      refine (unhide HC).mono ?_
      rintro e w5 ⟨rfl, rfl⟩
      go_wp2_with (at_make; refine wpList_make_u8 rfl _ _ 33 rfl i0 Tryd.underlying33 hi0 hz0 hz1 hz2 _ _ _ _ 32 rfl rfl rfl rfl (by omega) ?_)
      intro w5 hk5 hs5 hb5
      have htab5 := (unhide HTAB).below hb5
      obtain ⟨rv, hroom⟩ := htab5.room k hlt
      have hfr := htab5.fr k
      have HP5 : Hid (Tab (w5.setCell ⟨w2.heap.size, k, none⟩ (.slice (some ⟨wr.heap.size, 0, none⟩) 32 32)) (plus S2 q) w2.heap.size L (fun _ => zerosB 32) (k + 1)) := hide (htab5.put hlt hk5 (hnq _ hsz))
      have HB5 : Hid (Below w2.heap.size w2 (w5.setCell ⟨w2.heap.size, k, none⟩ (.slice (some ⟨wr.heap.size, 0, none⟩) 32 32))) := hide (((unhide HBEL).trans (hb5.mono hsz)).setCell (Nat.le_refl _) _)
      clear htab5 hk5 hb5 HTAB HBEL
      go_wp2
      go_roundw
      case rel => exact ⟨k + 1, by omega, by go_num, unhide HP5, unhide HB5⟩
      case measure => simp [intOf]; omega
    · obtain rfl : k = L := by omega
      have hst : RowSt w wr p q w2.heap.size n k S2 D2 2 (fun _ => zerosB 32) (fun _ => zerosB 32) := ⟨(unhide HL2).below hbel, (unhide HPG).below hbel, hout, hqb, ⟨0, [], unhide HNEAT⟩, hleft, hlen, htab.tbl (fun i _ => sec_zeros), htge⟩
      have HST := hide hst
      clear hst htab hbel HLN HL2 HPG HNEAT hout hqb hleft hlen hnq hlt hk
      generalize w2.heap.size = t at *
      go_wp2_with fail
      refine (unhide HC).mono ?_
      rintro e w5 ⟨rfl, rfl⟩
      clear HC
      go_wp2_with fail
      go_loopw [7, 11, 12] (fun v7 v11 v12 wr => ∃ (i q : Nat) (S : Nat → Prop) (D : DS) (s : Int) (P : Nat → List Int), i ≤ l1.length ∧ i ≤ 12 ∧ v12 = .int .i64 i ∧ v7 = .pointer (some ⟨q, 0, none⟩) ∧ v11 = .int .i64 s ∧ 0 ≤ s ∧ s ≤ 2 + i ∧ RowSt w wr p q t n k S D s P P) (fun _ _ v _ => 12 - (intOf v).toNat)
      case atStart => exact ⟨0, q, S2, D2, 2, _, by omega, by omega, rfl, rfl, rfl, by omega, by omega, unhide HST⟩
      case round =>
        obtain ⟨i, q, S, D, s, P, hi, hi12, rfl, rfl, rfl, hs0, hsi, hst⟩ := hrel
        clear HST
        by_cases hlt : i < l1.length ∧ i < 12
        · obtain ⟨hu1, hu2⟩ := hlt
          have hne1 : l1 ≠ [] := by intro e; rw [e] at hu1; simp at hu1
          obtain ⟨b1, off1, rfl, hcs1⟩ := (unhide HP).2.2 hne1
          obtain ⟨ai, ci, q0, hpi⟩ := hcs1 i hu1
          obtain ⟨li, hli⟩ : ∃ li, l1.getD i [] = li := ⟨_, rfl⟩
          rw [hli] at q0 hpi
          have y0 := (hst.live.bel.cell (p := ⟨b1, off1 + i, none⟩) (block_lt_of_cell q0)).trans q0
          have HCM := hide (hst.commit hL (by omega) hs0 ai ci li hpi)
          have HPI := hide hpi
          have Q0 := hide q0
          have hlil := hpi.2.1
          clear hst hcs1 hli hpi q0 hne1
          go_wp2_with fail
          refine (unhide HCM).mono ?_
          rintro e w6 ⟨E, rfl, S6, D6, s6, P6, hst6, hcase⟩
          have y1 := (hst6.live.bel.cell (p := ⟨b1, off1 + i, none⟩) (block_lt_of_cell (unhide Q0))).trans (unhide Q0)
          have HST6 := hide hst6
          have HCASE := hide hcase
          clear hst6 hcase HCM y0
          go_upto_region 17 with fail
          go_cut [13, 83] from 73 to 73 (fun u v wx => u = errV E ∧ v = .bool (decide (E = 0 ∧ li ≠ [])) ∧ wx = w6)
          case first =>
            by_cases hE : E = 0
            · have HU := hide (show Value.nilIface = errV E by rw [hE]; rfl)
              have HE0 := hide hE
              rw [hE, errV_zero]
              clear hE
              by_cases hl0 : li = []
              · have hlen0 : li.length = 0 := by rw [hl0]; rfl
                rw [hlen0] at y1
                have HD := hide (show decide (E = 0 ∧ li ≠ []) = false from decide_eq_false (fun h => h.2 hl0))
                clear hl0 hlen0
                go_wp2
                go_meet
                case rel => exact ⟨unhide HU, by rw [unhide HD], rfl⟩
              · have hlen0 : 0 < li.length := List.length_pos_iff.2 hl0
                have HD := hide (show decide (E = 0 ∧ li ≠ []) = true from decide_eq_true ⟨unhide HE0, hl0⟩)
                have HLEN := hide hlen0
                clear hl0 hlen0
                go_wp2
                go_meet
                case rel => exact ⟨unhide HU, by rw [unhide HD, decide_eq_true (unhide HLEN)], rfl⟩
            · have HU := hide (errV_pos _ hE).symm
              rw [errV_pos _ hE]
              have HD := hide (show decide (E = 0 ∧ li ≠ []) = false from decide_eq_false (fun h => hE h.1))
              clear hE
              go_wp2
              go_meet
              case rel => exact ⟨unhide HU, by rw [unhide HD], rfl⟩
          case rest =>
            obtain ⟨rfl, rfl, rfl⟩ := hcut
            go_upto_if 83 with fail
            go_cut [11] from 83 to 85 (fun v wx => v = .int .i64 s6 ∧ wx = wc)
            case first =>
              by_cases hd : E = 0 ∧ li ≠ []
              · have hs6 : s6 = s + 1 := by
                  rcases unhide HCASE with ⟨h, _⟩ | ⟨_, h, _⟩ | ⟨_, _, h, _⟩
                  · exact absurd hd.1 h
                  · exact absurd h hd.2
                  · exact h
                rw [decide_eq_true hd]
                have HS6 := hide hs6
                have e9 : s ≤ 100 := by omega
                clear hd hs6
                go_wp2
                go_meet
                case rel => exact ⟨by rw [unhide HS6], rfl⟩
              · have hs6 : s6 = s := by
                  rcases unhide HCASE with ⟨_, h, _⟩ | ⟨_, _, h, _⟩ | ⟨h1, h2, _⟩
                  · exact h
                  · exact h
                  · exact absurd ⟨h1, h2⟩ hd
                rw [decide_eq_false hd]
                have HS6 := hide hs6
                clear hd hs6
                go_wp2
                go_meet
                case rel => exact ⟨by rw [unhide HS6], rfl⟩
            case rest =>
              obtain ⟨rfl, rfl⟩ := hcut
              go_upto_region 19 with fail
              go_cut [14] from 86 to 86 (fun v wx => v = .int .i64 0 ∧ wx = wc)
              case first =>
                go_wp2
                go_meet
                case rel => exact ⟨rfl, rfl⟩
              case rest =>
                obtain ⟨rfl, rfl⟩ := hcut
                refine (‹∀ (a : Act) (w : World), Code.wp Tryd.prog (Code.block _ _) _ a w → _›) _ _ ?_
                go_cut [13, 14] from 86 to 116 (fun u v wx => u = errV E ∧ RowSt w wx p q t n k S6 D6 s6 P6 P6)
                case first =>
                  by_cases hd : E = 0 ∧ li ≠ []
                  · obtain ⟨hE, hl0⟩ := hd
                    obtain ⟨hP6, hval⟩ : P6 = upd P li ∧ Valid k li := by
                      rcases unhide HCASE with ⟨h, _⟩ | ⟨_, h, _⟩ | ⟨_, _, _, h1, h2⟩
                      · exact absurd hE h
                      · exact absurd h hl0
                      · exact ⟨h1, h2⟩
                    obtain ⟨b2, off2, rfl, _, hcs2⟩ := (unhide HPI).2.2 hl0
                    have HCS := hide hcs2
                    have HVAL := hide hval
                    have HP6 := hide hP6
                    have HU := hide (show Value.nilIface = errV E by rw [hE]; rfl)
                    rw [show errV E = Value.nilIface by rw [hE]; rfl]
                    have hl23 := hval.len
                    clear hcs2 hval hP6 hE hl0 HCASE y1
                    go_wp2_with fail
                    go_loopw [14] (fun v wr => ∃ j : Nat, j ≤ li.length ∧ v = .int .i64 j ∧ RowSt w wr p q t n k S6 D6 s6 P6 (updK P li j)) (fun v _ => li.length - (intOf v).toNat)
                    case atStart => exact ⟨0, Nat.zero_le _, rfl, unhide HST6⟩
                    case round =>
                      obtain ⟨j, hj, rfl, hsr⟩ := hrel
                      have y2 := (hsr.live.bel.cell (p := ⟨b1, off1 + i, none⟩) (block_lt_of_cell (unhide Q0))).trans (unhide Q0)
                      by_cases hjl : j < li.length
                      · obtain ⟨c0, ab, capb, c1, hbs, _, hr1, hr2⟩ := unhide HCS j hjl
                        rw [← hsr.live.bel.cell (block_lt_of_cell c0)] at c0
                        rw [← hsr.live.bel.cell (block_lt_of_cell c1)] at c1
                        rw [← Nat.add_assoc] at c1
                        obtain ⟨v0, v1⟩ := (unhide HVAL).num j hjl
                        obtain ⟨z, hz⟩ : ∃ z : Nat, (li.getD j (0, [])).1 = z := ⟨(li.getD j (0, [])).1.toNat, by omega⟩
                        have hzk : z < k := by omega
                        obtain ⟨tb, cb, d1, _⟩ := hsr.tbl.cell z hzk
                        have d2 := hsr.tbl.fr z
                        have hstep : updK P li (j + 1) = putF (updK P li j) z (li.getD j (0, [])).2 := by
                          show putF _ _ _ = _
                          rw [hz, Int.toNat_natCast]
                        have hbs2 := hbs.below hsr.live.bel
                        have hnn : (li.getD j (0, [])).2 ≠ [] → ∀ x, ab = some x → ¬ plus S6 q x.block := fun hne x hx hs => by
                          have h7 := hbs.lt hne hx
                          rcases hs with hs | hs
                          · have := hsr.live.base _ hs; omega
                          · have := hsr.base; omega
                        have htn := hsr.tbl.put hzk hbs2 hnn
                        have hnt : ¬ S6 t := fun hs => hsr.tbl.1.1 (.inl hs)
                        have hqt : q ≠ t := fun e => hsr.tbl.1.1 (.inr e.symm)
                        have HNEW : Hid (RowSt w (wr.setCell ⟨t, z, none⟩ (.slice ab (li.getD j (0, [])).2.length capb)) p q t n k S6 D6 s6 P6 (updK P li (j + 1))) := hide (by
                          rw [hstep]
                          exact ⟨hsr.live.setOther hnt hsr.tb, hsr.pg.same (heap_setCell_other _ _ _ _ hqt), hsr.out, hsr.base, hsr.neat, hsr.left, hsr.len, htn, hsr.tb⟩)
                        have hblen := hbs.2.2.1
                        rw [hz] at c0
                        have e0 : (0 : Int) ≤ (z : Int) := by omega
                        have e1 : (z : Int) < (k : Int) := by omega
                        have n1 : t ≠ b1 := by have := block_lt_of_cell (unhide Q0); have := hsr.tb; dsimp only at *; omega
                        have n2 : t ≠ b2 := by have := block_lt_of_cell (unhide HCS j hjl).1; have := hsr.tb; dsimp only at *; omega
                        clear hsr hbs hbs2 hnn htn hnt hqt hstep v0 v1 hz hr1 hr2
                        generalize (li.getD j (0, [])).2.length = bl at *
                        go_wp2_with fail
                        go_region_held3 (fun w' => w'.cell? ⟨b1, off1 + i, none⟩ = some (.slice (some ⟨b2, off2, none⟩) li.length ci) ∧ w'.cell? ⟨b2, off2 + j * 2, none⟩ = some (.int .i64 (z : Int)) ∧ w'.cell? ⟨b2, off2 + j * 2 + 1, none⟩ = some (.slice ab bl capb)) (first | go_keep | (go_split_ands; refine ⟨?_, ?_, ?_⟩ <;> go_keep)) (fail)
                        all_goals
                          go_wp2
                          go_roundw
                          case rel => exact ⟨j + 1, by omega, by go_num, (unhide HNEW).below ⟨rfl, rfl, rfl, Nat.le_refl _, fun _ _ => rfl⟩⟩
                          case measure => simp [intOf]; omega
                      · obtain rfl : j = li.length := by omega
                        have HRES : Hid (RowSt w wr p q t n k S6 D6 s6 P6 P6) := hide ⟨hsr.live, hsr.pg, hsr.out, hsr.base, hsr.neat, hsr.left, hsr.len, hsr.tbl.congr (fun i _ => by rw [unhide HP6]; exact updK_all (unhide HVAL) i), hsr.tb⟩
                        clear hsr
                        go_wp2
                        go_meet
                        case rel => exact ⟨unhide HU, unhide HRES⟩
                  · have hP6 : P6 = P := by
                      rcases unhide HCASE with ⟨_, _, h⟩ | ⟨_, _, _, h⟩ | ⟨h1, h2, _⟩
                      · exact h
                      · exact h
                      · exact absurd ⟨h1, h2⟩ hd
                    have HRES : Hid (RowSt w wc p q t n k S6 D6 s6 P6 P6) := hide (by have := unhide HST6; rw [hP6] at this ⊢; exact this)
                    by_cases hE : E = 0
                    · have hl0 : li = [] := by
                        by_cases e : li = []
                        · exact e
                        · exact absurd ⟨hE, e⟩ hd
                      have hlen0 : li.length = 0 := by rw [hl0]; rfl
                      rw [hlen0] at y1
                      have HU := hide (show Value.nilIface = errV E by rw [hE]; rfl)
                      rw [show errV E = Value.nilIface by rw [hE]; rfl]
                      clear hE hl0 hlen0 hd hP6 HCASE
                      go_wp2_with fail
                      go_loopw [14] (fun v wr => v = .int .i64 0 ∧ wr = wc) (fun _ _ => 0)
                      case atStart => exact ⟨rfl, rfl⟩
                      case round =>
                        obtain ⟨rfl, rfl⟩ := hrel
                        go_wp2
                        go_meet
                        case rel => exact ⟨unhide HU, unhide HRES⟩
                    · have HU := hide (errV_pos _ hE).symm
                      rw [errV_pos _ hE]
                      clear hE hd hP6 HCASE
                      go_wp2_with fail
                      go_loopw [14] (fun v wr => v = .int .i64 0 ∧ wr = wc) (fun _ _ => 0)
                      case atStart => exact ⟨rfl, rfl⟩
                      case round =>
                        obtain ⟨rfl, rfl⟩ := hrel
                        go_wp2
                        all_goals
                          go_meet
                          case rel => exact ⟨unhide HU, unhide HRES⟩
                case rest =>
                  obtain ⟨rfl, hst7⟩ := hcut
                  have HSM := hide (pStamp_any hst7.pg)
                  have HST7 := hide hst7
                  have hs6b : 0 ≤ s6 ∧ s6 ≤ 2 + i + 1 := by
                    rcases unhide HCASE with ⟨_, h, _⟩ | ⟨_, _, h, _⟩ | ⟨_, _, h, _⟩ <;> omega
                  clear hst7 HCASE HST6 HPI y1
                  go_wp2_with fail
                  refine (unhide HSM).mono ?_
                  rintro e w8 ⟨rfl, rfl⟩
                  clear HSM
                  go_upto_if 123 with fail
                  go_cut [7] from 123 to 123 (fun v7 wx => ∃ (q' : Nat) (S' : Nat → Prop) (D' : DS), v7 = .pointer (some ⟨q', 0, none⟩) ∧ RowSt w wx p q' t n k S' D' s6 P6 P6)
                  case first =>
                    have HOP := hide ((unhide HST7).open hL hL1)
                    go_wp2_with (go_at_call 11; refine (unhide HOP).mono ?_; rintro e w9 ⟨q9, rfl, S9, D9, hst9⟩)
                    all_goals
                      go_meet
                      case rel => first | exact ⟨q9, S9, D9, rfl, hst9⟩ | exact ⟨q, S6, D6, rfl, unhide HST7⟩
                  case rest =>
                    obtain ⟨q9, S9, D9, rfl, hst9⟩ := hcut
                    have HST9 := hide hst9
                    clear hst9 HST7
                    go_wp2_with fail
                    go_loopw [17] (fun v wr => ∃ j : Nat, j ≤ k ∧ v = .int .i64 j ∧ RowSt w wr p q9 t n k S9 D9 s6 P6 P6) (fun v _ => k - (intOf v).toNat)
                    case atStart => exact ⟨0, Nat.zero_le _, rfl, unhide HST9⟩
                    case round =>
                      obtain ⟨j, hj, rfl, hsr⟩ := hrel
                      clear HST9
                      have hln := pLen_any hsr.live.dev hsr.pg
                      rw [hsr.len, hL] at hln
                      have HLN := hide hln
                      clear hln
                      by_cases hjk : j < k
                      · obtain ⟨hrd, hsec, hdn⟩ := hsr.rd hjk
                        have hre := pRead_yes hsr.live.dev hsr.pg j (decide_eq_true ⟨by omega, by rw [hsr.len, hL]; omega⟩) hdn
                        rw [hrd] at hre
                        have HRE := hide hre
                        have HSR := hide hsr
                        clear hre hrd hsr
                        go_wp2_with fail
                        refine (unhide HLN).mono ?_
                        rintro e w10 ⟨rfl, rfl⟩
                        go_wp2_with fail
                        refine (unhide HRE).mono ?_
                        rintro e w10 ⟨g10, rfl, hg10, hk10, hb10⟩
                        have hs10 := (unhide HSR).below hb10
                        obtain ⟨tb, cb, d1, d2⟩ := hs10.tbl.cell j hjk
                        have cv1 := fun m => whole_str hk10 hsec m
                        have cv2 : ∀ m, (convert 33 9 (.slice tb (P6 j).length cb)).run Tryd.prog (w10.drewN m) = .ok (.string (strOf (P6 j))) (w10.drewN m) := fun m => conv_str (P := Tryd.prog) (t := 33) (e := 9) Tryd.underlying33 Tryd.underlying5 Tryd.underlying9 (bs_drewN d2 m)
                        have HS10 := hide hs10
                        clear hs10 d2 hk10 hb10 HRE HSR HLN
                        generalize strOf (P6 j) = st at *
                        generalize (P6 j).length = pl at *
                        go_wp2_with fail
                        go_quiet (fail)
                        go_wp2
                        go_roundw
                        case rel => exact ⟨j + 1, by omega, by go_num, (unhide HS10).drewN _⟩
                        case measure => simp [intOf]; omega
                      · obtain rfl : j = k := by omega
                        have HSR := hide hsr
                        clear hsr
                        go_wp2_with fail
                        refine (unhide HLN).mono ?_
                        rintro e w10 ⟨rfl, rfl⟩
                        go_wp2
                        go_roundw
                        case rel => exact ⟨i + 1, q9, S9, D9, s6, P6, by omega, by omega, by go_num, rfl, rfl, by omega, by omega, unhide HSR⟩
                        case measure => simp [intOf]; omega
        · have HBL := hide hst.live.bel
          have hcond : (i < l1.length ∧ ¬ i < 12) ∨ ¬ i < l1.length := by omega
          have hln := pLen_any hst.live.dev hst.pg
          rw [hst.len, hL] at hln
          have hE : pReadE D k = 1 := by
            unfold pReadE hasP
            rw [hst.len, hL, decide_eq_false (by omega)]
            rfl
          have hre := pRead_no hst.live.dev hst.pg k (by rw [hE]; decide)
          rw [hE] at hre
          have HLN := hide hln
          have HRE := hide hre
          have HER := hide (error_same 1 wr ((unhide HG).below hst.live.bel))
          clear hst hi hi12 hlt hln hre hE
          rcases hcond with ⟨g1, g2⟩ | g1
          all_goals
            go_wp2_with fail
            refine (unhide HLN).mono ?_
            rintro e w10 ⟨rfl, rfl⟩
            go_wp2_with fail
            refine (unhide HRE).mono ?_
            rintro e w10 ⟨rfl, rfl⟩
            go_wp2_with fail
            refine (unhide HER).mono ?_
            rintro e w10 ⟨rfl, hb10⟩
            go_wp2
            go_ret
            exact ⟨rfl, (unhide HBL).trans (hb10.mono (unhide HBL).size)⟩

theorem walkPagesRow (n : Int) (a1 : Option Addr) (cap1 : Nat) (l1 : List (List (Int × List Int))) (w : World) (hg : ErrT w) (hp : Pss w a1 cap1 l1) :
    Calls Tryd.prog 3 #[.int .i64 n, .slice a1 l1.length cap1] w fun e w' => e = .returned (.bool true) ∧ Below w.heap.size w w' := by
  by_cases hn : n < 1 ∨ 300 < n
  · exact row_no n a1 _ cap1 w hn
  · obtain ⟨N, rfl⟩ : ∃ N : Nat, n = N := ⟨n.toNat, by omega⟩
    by_cases h49 : N < 49
    · exact row_few N a1 _ cap1 w (by omega) h49
    · exact row_in N a1 cap1 l1 w hg hp (by omega) (by omega)
end Go.Proofs.YtidhbfondfclpaaDoor
