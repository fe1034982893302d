/-
  The walk of the law DevicePlays. (Part of the proof of DevicePlays.)
-/
import Derived.Test.YtnpdejlbknjhnaaDoorPlaysD
import Derived.Maps.AppendAt
import Derived.Deep.RegionHeld3
import Derived.Deep.CutRange
import Derived.Deep.QuietTactic
import Derived.BigQuiet
namespace Go.Proofs.YtnpdejlbknjhnaaDoor
open Go.RowKit
set_option linter.unusedVariables false

set_option maxRecDepth 100000 in
set_option maxHeartbeats 8000000 in
theorem walkDevicePlays_in (n : Nat) (a1 : Option Addr) (cap1 : Nat) (l1 : List (List Int)) (a2 : Option Addr) (cap2 : Nat) (l2 : List (List Int)) (a3 : Option Addr) (cap3 : Nat) (l3 : List Bool) (w : World) (hg : ErrT w)
    (hs1 : Iss w a1 cap1 l1) (hs2 : Bss w a2 cap2 l2) (hk3 : Bls w a3 cap3 l3) (h1 : 1 ≤ n) (h2 : n ≤ 300) :
    Calls Tryd.prog 3 #[.int .i64 n, .slice a1 l1.length cap1, .slice a2 l2.length cap2, .slice a3 l3.length cap3] w fun e w' => e = .returned (.bool true) ∧ Below w.heap.size w w' := by
  have HG := hide hg
  have HS1 := hide hs1
  have HS2 := hide hs2
  have HK3 := hide hk3
  have ll1 := hs1.2.1
  have ll2 := hs2.2.1
  clear hg hs1 hs2 hk3
  have HN := hide (new_live n w w (Below.refl _ _) h1 h2)
  have f1 : ¬ (n : Int) < 1 := by omega
  have f2 : ¬ 300 < (n : Int) := by omega
  go_enter Tryd.func3, Tryd.ntmps3
  go_wp2_with fail
  refine (unhide HN).mono ?_
  rintro e w1 ⟨p, S, rfl, hl1, _, _⟩
  rw [new_ds0] at hl1
  have HE := hide (error_nil 0 w1)
  have HL1 := hide hl1
  clear hl1 HN
  go_wp2_with fail
  refine (unhide HE).mono ?_
  rintro e w2 ⟨rfl, rfl⟩
  have HM := hide (rnew_any n w1 h2)
  clear HE
  go_wp2_with fail
  refine (unhide HM).mono ?_
  rintro e w2 ⟨m, T, rfl, hr, hT, hb2⟩
  have hboth : Both w w2 p m S T (ds0 (zsecs n) (-1)) := by
    have hl2 := (unhide HL1).below hb2
    exact ⟨hl2, hr, fun k hs ht => Nat.lt_irrefl _ (Nat.lt_of_lt_of_le ((unhide HL1).dev.lt k hs) (hT k ht)), fun k hk => Nat.le_trans (unhide HL1).bel.size (hT k hk)⟩
  have HB := hide hboth
  clear hboth hr hT hb2 HL1 HM
  go_wp2_with fail
  go_loopw [12, 14] (fun t v wr => t = .bool true ∧ ∃ (k : Nat) (S T : Nat → Prop) (D : DS), k ≤ l1.length ∧ k ≤ 60 ∧ v = .int .i64 k ∧ Both w wr p m S T D ∧ D.secs.length = n) (fun _ v _ => 60 - (intOf v).toNat)
  case atStart => exact ⟨rfl, 0, S, T, _, by omega, by omega, rfl, unhide HB, length_zsecs n⟩
  case round =>
    obtain ⟨rfl, k, S, T, D, hk, hk60, rfl, hb, hD⟩ := hrel
    clear HB
    by_cases hlt : k < l1.length ∧ k < 60
    · obtain ⟨hu1, hu2⟩ := hlt
      have HB := hide hb
      have hne1 : l1 ≠ [] := by intro e; rw [e] at hu1; simp at hu1
      obtain ⟨b1, off1, rfl, hcs1⟩ := (unhide HS1).2.2 hne1
      obtain ⟨ai, ci, q0, hIs⟩ := hcs1 k hu1
      obtain ⟨sk, hsk⟩ : ∃ sk, l1.getD k [] = sk := ⟨_, rfl⟩
      rw [hsk] at q0 hIs
      have HIS := hide hIs
      have Q0 := hide q0
      have hskl := hIs.2.2.1
      clear hb hcs1 hsk hIs q0 hne1
      go_upto_region 13 with fail
      go_cut [16] from 49 to 58 (fun v wc => v = .int .i64 0 ∧ Play w wc p m S T D D n wr.heap.size [0, 0, 0, 0])
      case first =>
        go_wp2
        go_meet
        case rel => exact ⟨rfl, (unhide HB).play hD h1 ((Below.refl _ _).alloc (Nat.le_refl _) _) (heap_alloc_new _ _)⟩
      case rest =>
        obtain ⟨rfl, hpl⟩ := hcut
        have HP := hide hpl
        clear hpl HB
        generalize wr.heap.size = gv at *
        refine (‹∀ (a : Act) (w : World), Code.wp Tryd.prog (Code.block _ _) _ a w → _›) _ _ ?_
        go_cut [16] from 59 to 59 (fun v wc => ∃ l : List Int, l.length = 4 ∧ (∀ z ∈ l, -9223372036854775808 ≤ z ∧ z ≤ 9223372036854775807) ∧ Play w wc p m S T D D n gv l)
        case first =>
          go_wp2_with fail
          go_loopw [16] (fun v wr => ∃ (j : Nat) (l : List Int), j ≤ 4 ∧ v = .int .i64 j ∧ l.length = 4 ∧ (∀ z ∈ l, -9223372036854775808 ≤ z ∧ z ≤ 9223372036854775807) ∧ Play w wr p m S T D D n gv l) (fun v _ => 4 - (intOf v).toNat)
          case atStart => exact ⟨0, [0, 0, 0, 0], by omega, rfl, rfl, by decide, unhide HP⟩
          case round =>
            obtain ⟨j, l, hj, rfl, hl4, hbd, hp⟩ := hrel
            clear HP
            have q1 := (hp.live.bel.cell (p := ⟨b1, off1 + k, none⟩) (block_lt_of_cell (unhide Q0))).trans (unhide Q0)
            have HBD := hide hbd
            clear hbd
            by_cases hjj : j < sk.length ∧ j < 4
            · obtain ⟨hv1, hv2⟩ := hjj
              have hne : sk ≠ [] := by intro e; rw [e] at hv1; simp at hv1
              obtain ⟨b2, off2, rfl, hcs2⟩ := (unhide HIS).2.2.2 hne
              have q2 := (hp.live.bel.cell (p := ⟨b2, off2 + j, none⟩) (block_lt_of_cell (hcs2 j hv1))).trans (hcs2 j hv1)
              have hmem : -9223372036854775808 ≤ sk.getD j 0 ∧ sk.getD j 0 ≤ 9223372036854775807 := (unhide HIS).1 _ (by
                rw [List.getD_eq_getElem?_getD, List.getElem?_eq_getElem hv1]; exact List.getElem_mem hv1)
              have hfz := hp.row.fr j
              have hcl := hp.row.cell j (by omega)
              generalize sk.getD j 0 = sj at *
              have HPS := hide (hp.setV j sj (by omega))
              have HM := hide hmem
              clear hp hcs2 hne hmem
              go_wp2_with fail
              go_roundw
              case rel => exact ⟨j + 1, l.set j sj, by omega, by go_num, by rw [List.length_set]; exact hl4, fun z hz => by
                rcases List.mem_or_eq_of_mem_set hz with h | h
                · exact (unhide HBD) z h
                · rw [h]; exact unhide HM, unhide HPS⟩
              case measure => simp [intOf]; omega
            · have HPP := hide hp
              have hcond : (j < sk.length ∧ ¬ j < 4) ∨ ¬ j < sk.length := by omega
              clear hp hjj hj
              rcases hcond with ⟨g1, g2⟩ | g1
              all_goals
                go_wp2
                go_meet
                case rel => exact ⟨l, hl4, unhide HBD, unhide HPP⟩
        case rest =>
          obtain ⟨l, hl4, hbd, hp⟩ := hcut
          clear HP
          obtain ⟨v0, v1, v2, v3, rfl⟩ : ∃ v0 v1 v2 v3, l = [v0, v1, v2, v3] := by
            match l, hl4 with
            | [x0, x1, x2, x3], _ => exact ⟨x0, x1, x2, x3, rfl⟩
          have hv1 := hide (hbd v1 (by simp))
          have HP := hide hp
          clear hbd hl4 hp
          go_upto_if 83 with fail
          go_cut [17] from 59 to 59 (fun v wx => ∃ (ab : Option Addr) (cb : Nat) (lb : List Int), v = .slice ab lb.length cb ∧ Bs w ab cb lb ∧ wx = wc)
          case first =>
            by_cases hl2 : 0 < l2.length
            · have hm := Nat.mod_lt k hl2
              have hne2 : l2 ≠ [] := by intro e; rw [e] at hl2; simp at hl2
              obtain ⟨b3, off3, rfl, hcs⟩ := (unhide HS2).2.2 hne2
              obtain ⟨ab, cb, q, hbs⟩ := hcs (k % l2.length) hm
              have ht : (k : Int).tmod (l2.length : Int) = ((k % l2.length : Nat) : Int) := by
                rw [Int.tmod_eq_emod_of_nonneg (by omega)]; exact (Int.natCast_emod k l2.length).symm
              generalize k % l2.length = kx at *
              generalize l2.getD kx [] = lb at *
              have q' := ((unhide HP).live.bel.cell (p := ⟨b3, off3 + kx, none⟩) (block_lt_of_cell q)).trans q
              have HBS := hide hbs
              clear hcs hbs q hne2
              go_wp2
              go_meet
              case rel => exact ⟨ab, cb, lb, rfl, unhide HBS, rfl⟩
            · go_wp2
              go_meet
              case rel => exact ⟨none, 0, [], rfl, ⟨fun z hz => (by cases hz), Nat.le_refl _, by decide, fun _ => rfl, fun h => absurd rfl h⟩, rfl⟩
          case rest =>
            obtain ⟨ab, cb, lb, rfl, hbs, rfl⟩ := hcut
            have HBS := hide hbs
            clear hbs
            go_upto_region 20 with fail
            go_cut [92] from 59 to 59 (fun v wx => v = .int .i64 v0 ∧ wx = wc)
            case first =>
              have c0 : wc.cell? ⟨gv, 0, none⟩ = some (.int .i64 v0) := (unhide HP).row.cell 0 (by simp)
              go_wp2
              go_meet
              case rel => exact ⟨rfl, rfl⟩
            case rest =>
              obtain ⟨rfl, rfl⟩ := hcut
              refine (‹∀ (a : Act) (w : World), Code.wp Tryd.prog (Code.block _ _) _ a w → _›) _ _ ?_
              go_cut [12] from 59 to 59 (fun v wx => v = .bool true ∧ ∃ (S T : Nat → Prop) (D : DS), Play w wx p m S T D D n gv [v0, v1, v2, v3])
              case first =>
                go_upto_if 108 with fail
                go_cut [92, 108] from 59 to 59 (fun x v wx => x = .int .i64 v0 ∧ v = .bool (decide (v0 = 0 ∨ v0 = 1 ∨ v0 = 2 ∨ v0 = 3)) ∧ wx = wc)
                case first =>
                  have hsw : v0 = 0 ∨ v0 = 1 ∨ v0 = 2 ∨ v0 = 3 ∨ (¬ v0 = 0 ∧ ¬ v0 = 1 ∧ ¬ v0 = 2 ∧ ¬ v0 = 3) := by omega
                  rcases hsw with rfl | rfl | rfl | rfl | ⟨z0, z1, z2, z3⟩
                  all_goals
                    go_wp2
                    go_meet
                    case rel => exact ⟨rfl, by simp [*], rfl⟩
                case rest =>
                  obtain ⟨rfl, rfl, rfl⟩ := hcut
                  by_cases hW : v0 = 0 ∨ v0 = 1 ∨ v0 = 2 ∨ v0 = 3
                  · rw [decide_eq_true hW]
                    have c1 : wc.cell? ⟨gv, 1, none⟩ = some (.int .i64 v1) := (unhide HP).row.cell 1 (by simp)
                    have HW := hide ((unhide HP).drew.write1 v1 (unhide HBS))
                    clear hW
                    as_aux_lemma =>
                      go_wp2_with fail
                      go_region_held3 (fun w' => w'.cell? ⟨gv, 1, none⟩ = some (.int .i64 v1)) (go_keep)
                        (first
                          | (go_at_call 8; refine (unhide HW).mono ?_; rintro e wa ⟨rfl, Sa, hpa⟩; have ra : wa.cell? ⟨gv, 1, none⟩ = some (.int .i64 v1) := hpa.row.cell 1 (by simp))
                          | (go_at_call 9; refine (hpa.write2 v1 (unhide HBS)).mono ?_; rintro e wb ⟨rfl, Tb, hpb⟩; have rb : wb.cell? ⟨gv, 1, none⟩ = some (.int .i64 v1) := hpb.row.cell 1 (by simp))
                          | (go_at_call 6; refine (error_same _ _ ((unhide HG).below hpb.live.bel)).mono ?_; rintro e wd ⟨rfl, hbd⟩; have rd : wd.cell? ⟨gv, 1, none⟩ = some (.int .i64 v1) := (hpb.below hbd).row.cell 1 (by simp)))
                      all_goals
                        go_wp2
                        go_meet
                        case rel => exact ⟨rfl, _, _, _, hpb.below hbd⟩
                  · rw [decide_eq_false hW]
                    clear hW
                    go_upto_if 124 with fail
                    go_cut [92, 124] from 59 to 59 (fun x v wx => x = .int .i64 v0 ∧ v = .bool (decide (v0 = 4 ∨ v0 = 5)) ∧ wx = wc)
                    case first =>
                      have hsw : v0 = 4 ∨ v0 = 5 ∨ (¬ v0 = 4 ∧ ¬ v0 = 5) := by omega
                      rcases hsw with rfl | rfl | ⟨z0, z1⟩
                      all_goals
                        go_wp2
                        go_meet
                        case rel => exact ⟨rfl, by simp [*], rfl⟩
                    case rest =>
                      obtain ⟨rfl, rfl, rfl⟩ := hcut
                      by_cases hF : v0 = 4 ∨ v0 = 5
                      · rw [decide_eq_true hF]
                        have HF := hide (unhide HP).flush1
                        clear hF
                        as_aux_lemma =>
                          go_wp2_with fail
                          refine (unhide HF).mono ?_
                          rintro e wa ⟨rfl, Sa, hpa⟩
                          have HF2 := hide hpa.flush2
                          clear hpa
                          go_wp2_with fail
                          refine (unhide HF2).mono ?_
                          rintro e wb ⟨rfl, Tb, hpb⟩
                          have HPB := hide hpb
                          have HE := hide (error_same D.flushE wb ((unhide HG).below hpb.live.bel))
                          clear hpb
                          go_wp2_with fail
                          refine (unhide HE).mono ?_
                          rintro e wd ⟨rfl, hbd⟩
                          go_wp2
                          go_meet
                          case rel => exact ⟨rfl, _, _, _, (unhide HPB).below hbd⟩
                      · rw [decide_eq_false hF]
                        clear hF
                        have c1 : wc.cell? ⟨gv, 1, none⟩ = some (.int .i64 v1) := (unhide HP).row.cell 1 (by simp)
                        by_cases h6 : v0 = 6
                        · subst h6
                          have HF := hide ((unhide HP).fail1 v1 (unhide hv1))
                          as_aux_lemma =>
                            go_wp2_with fail
                            refine (unhide HF).mono ?_
                            rintro e wa ⟨rfl, Sa, hpa⟩
                            have HF2 := hide (hpa.fail2 v1 (unhide hv1))
                            have ra : wa.cell? ⟨gv, 1, none⟩ = some (.int .i64 v1) := hpa.row.cell 1 (by simp)
                            clear hpa
                            go_wp2_with fail
                            refine (unhide HF2).mono ?_
                            rintro e wb ⟨rfl, Tb, hpb⟩
                            have HPB := hide hpb
                            clear hpb
                            go_wp2
                            go_meet
                            case rel => exact ⟨rfl, _, _, _, unhide HPB⟩
                        · have c2 : wc.cell? ⟨gv, 2, none⟩ = some (.int .i64 v2) := (unhide HP).row.cell 2 (by simp)
                          have HC := hide ((unhide HP).drew.crash1 v1 v2 (unhide HK3))
                          as_aux_lemma =>
                            go_wp2_with fail
                            go_region_held3 (fun w' => w'.cell? ⟨gv, 1, none⟩ = some (.int .i64 v1) ∧ w'.cell? ⟨gv, 2, none⟩ = some (.int .i64 v2)) (first | go_keep | (go_split_ands; refine ⟨?_, ?_⟩ <;> go_keep))
                              (first
                                | (go_at_call 14; refine (unhide HC).mono ?_; rintro e wa ⟨rfl, Sa, hpa⟩; have ra : wa.cell? ⟨gv, 1, none⟩ = some (.int .i64 v1) := hpa.row.cell 1 (by simp); have ra2 : wa.cell? ⟨gv, 2, none⟩ = some (.int .i64 v2) := hpa.row.cell 2 (by simp))
                                | (go_at_call 15; refine (hpa.crash2 v1 v2 (unhide HK3)).mono ?_; rintro e wb ⟨rfl, Tb, hpb⟩; have rb : wb.cell? ⟨gv, 1, none⟩ = some (.int .i64 v1) := hpb.row.cell 1 (by simp); have rb2 : wb.cell? ⟨gv, 2, none⟩ = some (.int .i64 v2) := hpb.row.cell 2 (by simp)))
                            all_goals
                              go_wp2
                              go_meet
                              case rel => exact ⟨rfl, _, _, _, hpb⟩
              case rest =>
                obtain ⟨rfl, S2, T2, D2, hp2⟩ := hcut
                clear HP HBS hv1
                have c3 : wc.cell? ⟨gv, 3, none⟩ = some (.int .i64 v3) := hp2.row.cell 3 (by simp)
                have HR2 := hide (hp2.read2 v3)
                have HP2 := hide hp2
                clear hp2
                go_wp2_with fail
                refine (unhide HR2).mono ?_
                rintro e w5 ⟨a5, k5, rfl, hb5, rfl⟩
                have HR1 := hide ((unhide HP2).read1 v3)
                have HB5 := hide hb5
                clear hb5 HR2
                go_wp2_with fail
                refine (unhide HR1).mono ?_
                rintro e w6 ⟨a6, k6, rfl, hb6, hbel6⟩
                have hp6 := (unhide HP2).below hbel6
                have hb5 := (unhide HB5).below hbel6
                have HE := hide (error_same (D2.readE v3) w6 ((unhide HG).below hp6.live.bel))
                have HP6 := hide hp6
                have HB5' := hide hb5
                have HB6 := hide hb6
                clear hp6 hb5 hb6 hbel6 HP2 HB5 HR1 c3
                generalize rdL D2 v3 = rd at *
                generalize D2.readE v3 = re at *
                go_wp2_with fail
                refine (unhide HE).mono ?_
                rintro e w7 ⟨rfl, hbel7⟩
                have HP7 := hide ((unhide HP6).below hbel7)
                have HB57 := hide ((unhide HB5').below hbel7)
                have HB67 := hide ((unhide HB6).below hbel7)
                clear HP6 HB5' HB6 HE hbel7
                obtain ⟨i0, hi0, hz0, hz1, hz2⟩ := info_parts info_int
                go_wp2_with fail
                go_loopw [23, 24] (fun ov v wr => ∃ j : Nat, j ≤ D2.mem.length ∧ v = .int .i64 j ∧ Ord wr w7.heap.size ov D2.mem j ∧ Below w7.heap.size w7 wr) (fun _ v _ => D2.mem.length - (intOf v).toNat)
                case atStart => exact ⟨0, by omega, rfl, Ord.nil _ _ _, Below.refl _ _⟩
                case round =>
                  obtain ⟨j, hj, rfl, hord, hbel⟩ := hrel
                  obtain ⟨la, lc, q1, hml, q2⟩ := ((unhide HP7).below hbel).lines
                  have HBEL := hide hbel
                  have hsz := hbel.size
                  clear hbel
                  by_cases hlt : j < D2.mem.length
                  · obtain ⟨gl, rfl, q3⟩ := q2 j hlt
                    have HORD := hide hord
                    unfold Ord at hord
                    have HMORE : Hid (∀ (w : World) (v : Value), w.ownsRow w7.heap.size 3 1 v (j + 1) (((keysI D2.mem).take j).map (Value.int .i64) ++ [.int .i64 ((D2.mem.getD j (0, [])).1 : Int)]) → Ord w w7.heap.size v D2.mem (j + 1)) := hide (fun w v h => Ord.more hlt h)
                    generalize ((D2.mem.getD j (0, [])).1 : Int) = ky at *
                    generalize ((keysI D2.mem).take j).map (Value.int .i64) = xs at *
                    have HO := hide (World.ownsRow.alloc hord (.cells #[.int .i64 ky] 3))
                    have HB3 := hide (((unhide HBEL).alloc hsz (.cells #[.int .i64 ky] 3)))
                    have HOB := hide (Ord.block (unhide HORD))
                    clear hord q2
                    go_wp2_with (at_builtin; refine wpList_append_own_at _ rfl _ _ 34 rfl w7.heap.size 3 i0 (.int .i64 0) 1 8 Tryd.underlying34 hi0 hz0 hz1 hz2 rfl (by decide) _ _ _ rfl (unhide HO) ⟨wr.heap.size, 0, none⟩ 1 1 [.int .i64 ky] rfl rfl (cell_one_new _ _ _) (one_int _) (by unfold maxLen; omega) (by omega) (by simp; omega) ?_)
                    intro v9 w9 hown9 hgrow9 _ _
                    have HO9 := hide ((unhide HMORE) w9 v9 hown9)
                    have HB9 := hide (below_grown (unhide HB3) (by simp; omega) hgrow9 (unhide HOB))
                    clear hown9 hgrow9 HO HB3 HOB HMORE HORD
                    go_wp2
                    go_roundw
                    case rel => exact ⟨j + 1, by omega, by go_num, unhide HO9, unhide HB9⟩
                    case measure => simp [intOf]; omega
                  · obtain rfl : j = D2.mem.length := by omega
                    have hp8 := (unhide HP7).below (unhide HBEL)
                    have HPD := hide hp8.live.pending
                    have HP8 := hide hp8
                    have HORD := hide hord
                    have hb58 := hide ((unhide HB57).below (unhide HBEL))
                    have hb68 := hide ((unhide HB67).below (unhide HBEL))
                    clear hp8 hord q2 hlt hj HB57 HB67 HP7
                    go_wp2_with fail
                    refine (unhide HPD).mono ?_
                    rintro e w10 ⟨gp, rfl, hgp, hI, hbel10⟩
                    obtain ⟨oa, oc, rfl, hints⟩ := ints_order (M := D2.mem) (B := w7.heap.size) hI ((unhide HORD).below hbel10) hml
                    have HINT := hide hints
                    have HP10 := hide ((unhide HP8).below hbel10)
                    have hb510 := hide ((unhide hb58).below hbel10)
                    have hb610 := hide ((unhide hb68).below hbel10)
                    clear hints hI hgp hbel10 HORD HPD hb58 hb68 HP8 HBEL
                    go_wp2_with fail
                    refine (unhide HINT).mono ?_
                    rintro e w11 ⟨rfl, md, rfl⟩
                    have hp11 := (unhide HP10).drewN md
                    have HP11 := hide hp11
                    have HDN := hide hp11.down1
                    have HLN := hide hp11.len1
                    have cd := hp11.cell3
                    have cv5 := bytes_str (bs_drewN (unhide hb510) md)
                    have cv6 := bytes_str (bs_drewN (unhide hb610) md)
                    generalize strOf rd = sr at cv5 cv6
                    clear hp11 HINT hb510 hb610 HP10
                    have HDD := hide (unhide HP11).dn
                    generalize w10.drewN md = w12 at *
                    go_wp2_with fail
                    go_quiet (first | (go_at_call 20; exact Calls.quiet_of_same ((unhide HDN) _)) | (go_at_call 21; exact Calls.quiet_of_same ((unhide HLN) _)))
                    go_wp2
                    go_roundw
                    case rel => exact ⟨rfl, k + 1, S2, T2, D2, by omega, by omega, by go_num, ((unhide HP11).drewN _).both, unhide HDD⟩
                    case measure => simp [intOf]; omega
    · have HBL := hide hb.live.bel
      have hcond : (k < l1.length ∧ ¬ k < 60) ∨ ¬ k < l1.length := by omega
      clear hb hk hk60 hlt
      rcases hcond with ⟨g1, g2⟩ | g1
      all_goals
        go_wp2
        go_ret
        exact ⟨rfl, unhide HBL⟩

theorem walkDevicePlays (n : Int) (a1 : Option Addr) (cap1 : Nat) (l1 : List (List Int)) (a2 : Option Addr) (cap2 : Nat) (l2 : List (List Int)) (a3 : Option Addr) (cap3 : Nat) (l3 : List Bool) (w : World) (hg : ErrT w)
    (hs1 : Iss w a1 cap1 l1) (hs2 : Bss w a2 cap2 l2) (hk3 : Bls w a3 cap3 l3) :
    Calls Tryd.prog 3 #[.int .i64 n, .slice a1 l1.length cap1, .slice a2 l2.length cap2, .slice a3 l3.length cap3] w fun e w' => e = .returned (.bool true) ∧ Below w.heap.size w w' := by
  by_cases hn : n < 1 ∨ 300 < n
  · exact plays_no n a1 a2 a3 _ _ _ cap1 cap2 cap3 w hg hn
  · obtain ⟨N, rfl⟩ : ∃ N : Nat, n = N := ⟨n.toNat, by omega⟩
    exact walkDevicePlays_in N a1 cap1 l1 a2 cap2 l2 a3 cap3 l3 w hg hs1 hs2 hk3 (by omega) (by omega)
end Go.Proofs.YtnpdejlbknjhnaaDoor
