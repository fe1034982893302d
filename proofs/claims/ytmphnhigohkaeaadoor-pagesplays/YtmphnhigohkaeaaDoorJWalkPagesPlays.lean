/-
  The walk of the law PagesPlays. (Part of the proof of PagesPlays.)
-/
import Derived.Test.YtmphnhigohkaeaaDoorJRp
import Derived.Test.YtmphnhigohkaeaaDoorJTell
import Derived.Test.YtmphnhigohkaeaaDoorJPages
import Derived.Test.YtmphnhigohkaeaaDoorJDev
import Derived.Maps.AppendAt
import Derived.Deep.RegionHeld3
import Derived.Deep.CutRange
import Derived.Deep.QuietTactic
import Derived.BigQuiet
namespace Go.Proofs.YtmphnhigohkaeaaDoor
open Go.RowKit
set_option linter.unusedVariables false

set_option maxRecDepth 100000 in
theorem ppl_no (n : Int) (a1 a2 a3 : Option Addr) (len1 len2 len3 cap1 cap2 cap3 : Nat) (w : World) (hn : n < 1 ∨ 300 < n) :
    Calls Tryd.prog 3 #[.int .i64 n, .slice a1 len1 cap1, .slice a2 len2 cap2, .slice a3 len3 cap3] w fun e w' => e = .returned (.bool true) ∧ Below w.heap.size w w' := by
  have hnew := new_no n w hn
  rw [errV_pos 1 (by decide)] at hnew
  have HN := hide hnew
  clear hnew
  have hcond : n < 1 ∨ (¬ n < 1 ∧ 300 < n) := by omega
  clear hn
  rcases hcond with g1 | ⟨g1, g2⟩
  all_goals
    go_enter Tryd.func3, Tryd.ntmps3
    go_wp2_with fail
    refine (unhide HN).mono ?_
    rintro e w7 ⟨rfl, rfl⟩
    go_wp2
    go_ret
    exact ⟨rfl, Below.refl _ _⟩
set_option maxRecDepth 100000 in
theorem ppl_few (n : Nat) (a1 a2 a3 : Option Addr) (len1 len2 len3 cap1 cap2 cap3 : Nat) (w : World) (hg : ErrT w) (h1 : 1 ≤ n) (h2 : n < 49) :
    Calls Tryd.prog 3 #[.int .i64 n, .slice a1 len1 cap1, .slice a2 len2 cap2, .slice a3 len3 cap3] w fun e w' => e = .returned (.bool true) ∧ Below w.heap.size w w' := by
  have HG := hide hg
  have HN := hide (new_live n w w (Below.refl _ _) h1 (by omega))
  clear hg
  go_enter Tryd.func3, Tryd.ntmps3
  go_wp2_with fail
  refine (unhide HN).mono ?_
  rintro e w1 ⟨p, S, rfl, hl1, _, _⟩
  have HL1 := hide hl1
  have HM := hide (rnew_any n w1 (by omega))
  clear hl1 HN
  go_wp2_with fail
  refine (unhide HM).mono ?_
  rintro e w2 ⟨m, T, rfl, hr, hT, hb2⟩
  have hl2 := (unhide HL1).below hb2
  have HF1 := hide (format_no hl2 (by rw [show (DS.new n).secs.length = n by simp [DS.new]]; unfold cntI; split <;> omega))
  have hsz : (ds0 (zsecs n) (-1)).secs.length = n := length_zsecs n
  have HF2 := hide (rFormat_no hr (by rw [hsz]; omega) (by rw [hsz]; omega))
  have HB := hide hl2.bel
  have HE := hide (error_same 1 w2 ((unhide HG).below hl2.bel))
  clear hl2 hr hT hb2 HL1 HM hsz
  go_wp2_with fail
  refine (unhide HF1).mono ?_
  rintro e w3 ⟨rfl, rfl⟩
  go_wp2_with fail
  refine (unhide HF2).mono ?_
  rintro e w3 ⟨rfl, rfl⟩
  go_wp2_with fail
  refine (unhide HE).mono ?_
  rintro e w3 ⟨rfl, hb3⟩
  go_wp2
  go_ret
  exact ⟨rfl, (unhide HB).trans (hb3.mono (unhide HB).size)⟩

section
variable {w0 w w' : World} {p m q r : Nat} {S S' T T' : Nat → Prop} {D D' E E' : DS} {s s' t t' : Int} {L n g : Nat} {v : List Int}
theorem bytes_str' {w : World} {a : Option Addr} {cap : Nat} {l : List Int} (hb : Bs w a cap l) (k : Nat) : (convert 41 9 (.slice a l.length cap)).run Tryd.prog (w.drewN k) = .ok (.string (strOf l)) (w.drewN k) :=
  conv_str (P := Tryd.prog) (t := 41) (e := 9) Tryd.underlying41 Tryd.underlying5 Tryd.underlying9 (bs_drewN hb k)
theorem Pp.drewN (h : Pp w0 w p m q r S T D E s t L n g v) (k : Nat) : Pp w0 (w.drewN k) p m q r S T D E s t L n g v := h.below (below_drewN (Below.refl _ _) k)
theorem Pp.stamp (h : Pp w0 w p m q r S T D E s t L n g v) (k : Nat) : Calls Tryd.prog 20 #[.pointer (some ⟨q, 0, none⟩)] (w.drewN k) fun e w' => e = .returned (.int .i64 s) ∧ w' = w.drewN k :=
  (pStamp_any (h.drewN k).pg).mono fun e w' ⟨he, hw⟩ => ⟨he, hw.symm⟩
theorem Pp.len (h : Pp w0 w p m q r S T D E s t L n g v) (k : Nat) : Calls Tryd.prog 21 #[.pointer (some ⟨q, 0, none⟩)] (w.drewN k) fun e w' => e = .returned (.int .i64 L) ∧ w' = w.drewN k :=
  (pLen_any (h.drewN k).live.dev (h.drewN k).pg).mono fun e w' ⟨he, hw⟩ => ⟨by rw [he, h.dn, h.cnt], hw.symm⟩
/-- Pages that were picked, in a row of their own: both Commits take them. -/
theorem Pp.picked {B : Nat} {xv : Value} {x : List (Int × List Int)} (h : Pp w0 w p m q r S T D E s t L n g v) (hx : Xs w0 w B xv x) (hx30 : x.length ≤ 30) (hB : ∀ k, plus S q k → k < B) (hB2 : ∀ k, plus T r k → k < B) (h0 : 0 ≤ s) (h1 : s < 1000) (h2 : 0 ≤ t) (h3 : t < 1000) :
    ∃ a cap, xv = .slice a x.length cap ∧ Calls Tryd.prog 10 #[.pointer (some ⟨q, 0, none⟩), .slice a x.length cap] w fun e w' => e = .returned (errV (commitOut D s L x).2.2) ∧ ∃ S', Pp w0 w' p m q r S' T (commitOut D s L x).1 E (commitOut D s L x).2.1 t L n g v ∧
      Calls Tryd.prog 11 #[.pointer (some ⟨r, 0, none⟩), .slice a x.length cap] w' fun e w'' => e = .returned (.int .i64 (commitOut E t L x).2.2) ∧ ∃ T', Pp w0 w'' p m q r S' T' (commitOut D s L x).1 (commitOut E t L x).1 (commitOut D s L x).2.1 (commitOut E t L x).2.1 L n g v := by
  obtain ⟨a, cap, e1, hp, _⟩ := hx.pgsO (S := S) h.live.bel (by omega) (fun k hk => ⟨h.live.base k hk, hB k (.inl hk)⟩)
  refine ⟨a, cap, e1, (h.commit1 hp h0 h1).mono fun e w' ⟨he, S', hpp, ht⟩ => ⟨he, S', hpp, ?_⟩⟩
  have hx' : Xs w0 w' B xv x := hx.same (fun g hg hlt => ht.block g hlt (fun hs => by have := hB g hs; omega))
  obtain ⟨a', cap', e2, hp2, hrow⟩ := hx'.pgsO (S := T) hpp.live.bel (by omega) (fun k hk => ⟨h.base k (.inl hk), hB2 k (.inl hk)⟩)
  rw [e1] at e2
  simp only [Value.slice.injEq, true_and] at e2
  obtain ⟨rfl, rfl⟩ := e2
  exact hpp.commit2 hp2 (fun _ y hy e => by have h5 := hrow y hy; have h6 := hB2 r (.inr rfl); omega) (by omega) h2 h3
end

set_option maxRecDepth 100000 in
set_option maxHeartbeats 8000000 in
theorem walkPagesPlays_in (n : Nat) (a1 : Option Addr) (cap1 : Nat) (l1 : List (List Int)) (a2 : Option Addr) (cap2 : Nat) (l2 : List (Int × List Int)) (a3 : Option Addr) (cap3 : Nat) (l3 : List Bool) (w : World) (hg : ErrT w)
    (hs1 : Iss w a1 cap1 l1) (hs2 : PgsO w (fun _ => False) a2 cap2 l2) (hk3 : Bls w a3 cap3 l3) (h1 : 49 ≤ n) (h2 : n ≤ 300) :
    Calls Tryd.prog 3 #[.int .i64 n, .slice a1 l1.length cap1, .slice a2 l2.length cap2, .slice a3 l3.length cap3] w fun e w' => e = .returned (.bool true) ∧ Below w.heap.size w w' := by
  obtain ⟨L, hL, hL1, hL2, hL3⟩ := cnt_new h1 h2
  have HG := hide hg
  have HS1 := hide hs1
  have HS2 := hide hs2
  have HK3 := hide hk3
  have ll1 := hs1.2.1
  have ll2 := hs2.2.1
  clear hg hs1 hs2 hk3
  obtain ⟨hf1, hf2, hf3⟩ := format_new n (by omega) h2 L hL3 hL2
  have HCAP0 : Hid (Cap 2 (formatRun (DS.new n)).1) := hide (by rw [new_ds0]; exact (cap_new (by omega)).format)
  have HF1 := hide hf1
  have HF3 := hide hf3
  clear hf1 hf2 hf3
  obtain ⟨ip, hp0, hp1, hp2, hp3⟩ := info_parts info_page3
  have HN := hide (new_live n w w (Below.refl _ _) (by omega) h2)
  go_enter Tryd.func3, Tryd.ntmps3
  go_wp2_with fail
  refine (unhide HN).mono ?_
  rintro e w1 ⟨p, S, rfl, hl1, _, _⟩
  have HL1 := hide hl1
  have HM := hide (rnew_any n w1 h2)
  clear hl1 HN
  go_wp2_with fail
  refine (unhide HM).mono ?_
  rintro e w2 ⟨m, T, rfl, hr, hT, hb2⟩
  rw [← new_ds0] at hr
  have hl2 := (unhide HL1).below hb2
  have hap : ∀ k, S k → ¬ T k := fun k hs ht => Nat.lt_irrefl _ (Nat.lt_of_lt_of_le ((unhide HL1).dev.lt k hs) (hT k ht))
  have hbT : ∀ k, T k → w.heap.size ≤ k := fun k hk => Nat.le_trans (unhide HL1).bel.size (hT k hk)
  have hlen : (DS.new n).secs.length = n := by simp [DS.new]
  have HA := hide (And.intro hl2 (And.intro hr (And.intro hap hbT)))
  have HFM := hide (format_yes hl2 (by rw [hlen, hL]; omega))
  clear hl2 hr hap hbT hT hb2 HL1 HM
  go_wp2_with fail
  refine (unhide HFM).mono ?_
  rintro e w3 ⟨v3, S3, rfl, hl3, ht3, hyes, _⟩
  obtain ⟨q, rfl, hpg, hq, hout⟩ := hyes (unhide HF1)
  rw [unhide HF1, errV_zero]
  have hr3 := (unhide HA).2.1.turn ht3 (fun k hk hs => (unhide HA).2.2.1 k hs hk)
  have HRF := hide (rFormat_yes hr3 (by rw [hlen]; exact hL) hL1 (by rw [hlen]; omega))
  have HB := hide (And.intro hl3 (And.intro ht3 (And.intro hpg (And.intro hq hout))))
  clear hl3 ht3 hyes hpg hq hout hr3 HFM
  go_wp2_with fail
  refine (unhide HRF).mono ?_
  rintro e w4 ⟨r, rfl, T4, hr4, ht4, hrp, hrT, hrr⟩
  rw [unhide HF1]
  have hpb : Pb w w4 p m q r S3 T4 (formatRun (DS.new n)).1 (formatRun (DS.new n)).1 2 2 L n :=
    pb_made (unhide HA).1 (unhide HA).2.1 (unhide HA).2.2.1 (unhide HA).2.2.2 (unhide HB).1 (unhide HB).2.1 (unhide HB).2.2.1 (unhide HB).2.2.2.1 (unhide HB).2.2.2.2 hr4 ht4 hrp hrT hrr (unhide HF3) (unhide HF3) hL hL1
  have HE := hide (error_same 0 w4 ((unhide HG).below hpb.live.bel))
  have HPB := hide hpb
  clear hpb hr4 ht4 hrp hrT hrr HA HB HRF
  rw [errV_zero] at HE
  go_wp2_with fail
  refine (unhide HE).mono ?_
  rintro e w5 ⟨rfl, hb5⟩
  have HPB5 := hide ((unhide HPB).below hb5)
  clear hb5 HPB HE
  generalize (formatRun (DS.new n)).1 = D0 at *
  clear HF1 HF3 hlen
  go_wp2_with fail
  go_loopw [12, 13, 15, 16] (fun vp vq t v wr => t = .bool true ∧ ∃ (k q r : Nat) (S T : Nat → Prop) (D : DS) (s : Int), k ≤ l1.length ∧ k ≤ 30 ∧ v = .int .i64 k ∧ vp = .pointer (some ⟨q, 0, none⟩) ∧ vq = .pointer (some ⟨r, 0, none⟩) ∧ Pb w wr p m q r S T D D s s L n ∧ Cap (2 + k) D ∧ 0 ≤ s ∧ s ≤ 2 + k) (fun _ _ _ v _ => 30 - (intOf v).toNat)
  case atStart => exact ⟨rfl, 0, q, r, S3, T4, _, 2, by omega, by omega, rfl, rfl, rfl, unhide HPB5, unhide HCAP0, by omega, by omega⟩
  case round =>
    obtain ⟨rfl, k, q, r, S, T, D, s, hk, hk30, rfl, rfl, rfl, hb, hcap, hs0, hs1⟩ := hrel
    clear HPB5 HCAP0
    by_cases hlt : k < l1.length ∧ k < 30
    · obtain ⟨hu1, hu2⟩ := hlt
      have HB := hide hb
      have HCAP := hide hcap
      have hne1 : l1 ≠ [] := by intro e; rw [e] at hu1; simp at hu1
      obtain ⟨b1, off1, rfl, hcs1⟩ := (unhide HS1).2.2 hne1
      obtain ⟨ai, ci, q0, hIs⟩ := hcs1 k hu1
      obtain ⟨sk, hsk⟩ : ∃ sk, l1.getD k [] = sk := ⟨_, rfl⟩
      rw [hsk] at q0 hIs
      have HIS := hide hIs
      have Q0 := hide q0
      have hskl := hIs.2.2.1
      clear hb hcap hcs1 hsk hIs q0 hne1
      go_upto_region 14 with fail
      go_cut [18] from 64 to 73 (fun v wc => v = .int .i64 0 ∧ Pp w wc p m q r S T D D s s L n wr.heap.size [0, 0, 0, 0])
      case first =>
        go_wp2
        go_meet
        case rel => exact ⟨rfl, (unhide HB).row ((Below.refl _ _).alloc (Nat.le_refl _) _) (heap_alloc_new _ _)⟩
      case rest =>
        obtain ⟨rfl, hpl⟩ := hcut
        have HP := hide hpl
        clear hpl HB
        generalize wr.heap.size = gv at *
        refine (‹∀ (a : Act) (w : World), Code.wp Tryd.prog (Code.block _ _) _ a w → _›) _ _ ?_
        go_cut [18] from 74 to 74 (fun v wc => ∃ l : List Int, l.length = 4 ∧ (∀ z ∈ l, -9223372036854775808 ≤ z ∧ z ≤ 9223372036854775807) ∧ Pp w wc p m q r S T D D s s L n gv l)
        case first =>
          go_wp2_with fail
          go_loopw [18] (fun v wr => ∃ (j : Nat) (l : List Int), j ≤ 4 ∧ v = .int .i64 j ∧ l.length = 4 ∧ (∀ z ∈ l, -9223372036854775808 ≤ z ∧ z ≤ 9223372036854775807) ∧ Pp w wr p m q r S T D D s s L n gv l) (fun v _ => 4 - (intOf v).toNat)
          case atStart => exact ⟨0, [0, 0, 0, 0], by omega, rfl, rfl, by decide, unhide HP⟩
          case round =>
            obtain ⟨j, l, hj, rfl, hl4, hbd, hp⟩ := hrel
            clear HP
            have q1 := (hp.live.bel.cell (p := ⟨b1, off1 + k, none⟩) (block_lt_of_cell (unhide Q0))).trans (unhide Q0)
            have HBD := hide hbd
            clear hbd
            by_cases hjj : j < sk.length ∧ j < 4
            · obtain ⟨hv1, hv2⟩ := hjj
              have hne : sk ≠ [] := by intro e; rw [e] at hv1; simp at hv1
              obtain ⟨b2, off2, rfl, hcs2⟩ := (unhide HIS).2.2.2 hne
              have q2 := (hp.live.bel.cell (p := ⟨b2, off2 + j, none⟩) (block_lt_of_cell (hcs2 j hv1))).trans (hcs2 j hv1)
              have hmem : -9223372036854775808 ≤ sk.getD j 0 ∧ sk.getD j 0 ≤ 9223372036854775807 := (unhide HIS).1 _ (by
                rw [List.getD_eq_getElem?_getD, List.getElem?_eq_getElem hv1]; exact List.getElem_mem hv1)
              have hfz := hp.row.fr j
              have hcl := hp.row.cell j (by omega)
              generalize sk.getD j 0 = sj at *
              have HPS := hide (hp.setV j sj (by omega))
              have HM := hide hmem
              clear hp hcs2 hne hmem
              go_wp2_with fail
              go_roundw
              case rel => exact ⟨j + 1, l.set j sj, by omega, by go_num, by rw [List.length_set]; exact hl4, fun z hz => by
                rcases List.mem_or_eq_of_mem_set hz with h | h
                · exact (unhide HBD) z h
                · rw [h]; exact unhide HM, unhide HPS⟩
              case measure => simp [intOf]; omega
            · have HPP := hide hp
              have hcond : (j < sk.length ∧ ¬ j < 4) ∨ ¬ j < sk.length := by omega
              clear hp hjj hj
              rcases hcond with ⟨g1, g2⟩ | g1
              all_goals
                go_wp2
                go_meet
                case rel => exact ⟨l, hl4, unhide HBD, unhide HPP⟩
        case rest =>
          obtain ⟨l, hl4, hbd, hp⟩ := hcut
          clear HP
          obtain ⟨v0, v1, v2, v3, rfl⟩ : ∃ v0 v1 v2 v3, l = [v0, v1, v2, v3] := by
            match l, hl4 with
            | [x0, x1, x2, x3], _ => exact ⟨x0, x1, x2, x3, rfl⟩
          have hv1 := hide (hbd v1 (by simp))
          have HP := hide hp
          clear hbd hl4 hp HIS Q0 hskl
          go_upto_region 18 with fail
          go_cut [97] from 74 to 74 (fun v wx => v = .int .i64 v0 ∧ wx = wc)
          case first =>
            have c0 : wc.cell? ⟨gv, 0, none⟩ = some (.int .i64 v0) := (unhide HP).row.cell 0 (by simp)
            go_wp2
            go_meet
            case rel => exact ⟨rfl, rfl⟩
          case rest =>
            obtain ⟨rfl, rfl⟩ := hcut
            refine (‹∀ (a : Act) (w : World), Code.wp Tryd.prog (Code.block _ _) _ a w → _›) _ _ ?_
            go_cut [12, 13, 15] from 74 to 74 (fun vp vq t wx => t = .bool true ∧ ∃ (q r : Nat) (S T : Nat → Prop) (D : DS) (s : Int), vp = .pointer (some ⟨q, 0, none⟩) ∧ vq = .pointer (some ⟨r, 0, none⟩) ∧ Pp w wx p m q r S T D D s s L n gv [v0, v1, v2, v3] ∧ Cap (2 + (k + 1 : Nat)) D ∧ 0 ≤ s ∧ s ≤ 2 + (k + 1 : Nat))
            case first =>
              go_upto_if 132 with fail
              go_cut [97, 132] from 74 to 74 (fun x v wx => x = .int .i64 v0 ∧ v = .bool (decide (v0 = 0 ∨ v0 = 1 ∨ v0 = 2)) ∧ wx = wc)
              case first =>
                have hsw : v0 = 0 ∨ v0 = 1 ∨ v0 = 2 ∨ (¬ v0 = 0 ∧ ¬ v0 = 1 ∧ ¬ v0 = 2) := by omega
                rcases hsw with rfl | rfl | rfl | ⟨z0, z1, z2⟩
                all_goals
                  go_wp2
                  go_meet
                  case rel => exact ⟨rfl, by simp [*], rfl⟩
              case rest =>
                obtain ⟨rfl, rfl, rfl⟩ := hcut
                by_cases hW : v0 = 0 ∨ v0 = 1 ∨ v0 = 2
                · rw [decide_eq_true hW]
                  clear hW
                  as_aux_lemma =>
                    go_upto_region 31 with fail
                    go_cut [19, 20] from 74 to 74 (fun x v wx => x = .slice none 0 0 ∧ v = .int .i64 0 ∧ wx = wc)
                    case first =>
                      go_wp2
                      go_meet
                      case rel => exact ⟨rfl, rfl, rfl⟩
                    case rest =>
                      obtain ⟨rfl, rfl, rfl⟩ := hcut
                      obtain ⟨B, hBle, hlt1, hlt2, hwB, hgB⟩ : ∃ B, B ≤ wc.heap.size ∧ (∀ k, plus S q k → k < B) ∧ (∀ k, plus T r k → k < B) ∧ w.heap.size ≤ B ∧ gv < B := ⟨wc.heap.size, Nat.le_refl _, (unhide HP).lt1, (unhide HP).lt2, (unhide HP).live.bel.size, (unhide HP).row.lt⟩
                      have HLT := hide (And.intro hlt1 hlt2)
                      clear hlt1 hlt2
                      refine (‹∀ (a : Act) (w : World), Code.wp Tryd.prog (Code.block _ _) _ a w → _›) _ _ ?_
                      go_cut [19, 20] from 74 to 74 (fun xv kv wx => ∃ x, x.length ≤ 30 ∧ Xs w wx B xv x ∧ Pp w wx p m q r S T D D s s L n gv [v0, v1, v2, v3])
                      case first =>
                        go_wp2_with fail
                        go_loopw [19, 20] (fun xv kv wr => ∃ j : Nat, j ≤ l2.length ∧ j ≤ 30 ∧ kv = .int .i64 j ∧ B ≤ wr.heap.size ∧ Xs w wr B xv (pick1 l2 v2.toNat j) ∧ Pp w wr p m q r S T D D s s L n gv [v0, v1, v2, v3]) (fun _ v _ => 30 - (intOf v).toNat)
                        case atStart => exact ⟨0, by omega, by omega, rfl, hBle, Xs.nil _ _ _, unhide HP⟩
                        case round =>
                          obtain ⟨j, hj1, hj2, rfl, hBr, hxs, hp⟩ := hrel
                          clear HP
                          have c1 : wr.cell? ⟨gv, 1, none⟩ = some (.int .i64 v1) := hp.row.cell 1 (by simp)
                          have c2 : wr.cell? ⟨gv, 2, none⟩ = some (.int .i64 v2) := hp.row.cell 2 (by simp)
                          by_cases hc : j < l2.length ∧ j < 30 ∧ (j : Int) < v1 ∧ 0 ≤ v2 ∧ v2 < 1000
                          · obtain ⟨g1, g2, g3, g4, g5⟩ := hc
                            have hne : l2 ≠ [] := by intro e; rw [e] at g1; simp at g1
                            obtain ⟨b, off, rfl, _, hcs⟩ := (unhide HS2).2.2 hne
                            have hm := Nat.mod_lt (j + v2.toNat) (show 0 < l2.length by omega)
                            obtain ⟨d0, ab, capb, d1, hbs, _, r1, r2⟩ := hcs ((j + v2.toNat) % l2.length) hm
                            have ht : ((j : Int) + v2).tmod (l2.length : Int) = (((j + v2.toNat) % l2.length : Nat) : Int) := by
                              rw [Int.tmod_eq_emod_of_nonneg (by omega), show (j : Int) + v2 = ((j + v2.toNat : Nat) : Int) by omega]; exact (Int.natCast_emod _ _).symm
                            have hsucc := pick1_succ l2 v2.toNat j
                            have hplen := pick1_length l2 v2.toNat j
                            generalize hpk : pick1 l2 v2.toNat j = pk at *
                            generalize (j + v2.toNat) % l2.length = ix at *
                            generalize l2.getD ix (0, []) = pg at *
                            obtain ⟨z, bo⟩ := pg
                            dsimp only at d0 d1 hbs r1 r2
                            have y0 := (hp.live.bel.cell (p := ⟨b, off + ix * 2, none⟩) (block_lt_of_cell d0)).trans d0
                            have y1 := (hp.live.bel.cell (p := ⟨b, off + (ix * 2 + 1), none⟩) (block_lt_of_cell d1)).trans d1
                            rw [← Nat.add_assoc] at y1
                            obtain ⟨xs, hown, hxc⟩ := hxs
                            have hxl := hown.1
                            rw [hplen] at hown hxl
                            have HXC := hide hxc
                            have HOB := hide (own_block hown)
                            have HMORE : Hid (∀ (w' : World) (v' : Value), w'.ownsRow B 43 2 v' (j + 1) (xs ++ [.int .i64 z, .slice ab bo.length capb]) → Xs w w' B v' (pick1 l2 v2.toNat (j + 1))) := hide (fun w' v' h => by
                              rw [hsucc]
                              refine Xs.more (w := wr) (v := v') (unhide HXC) (by rw [hplen]; exact hxl) hbs r1 r2 (by rw [hplen]; exact h))
                            have HP := hide hp
                            clear hcs hbs d0 d1 hxc hp hne hsucc hpk
                            generalize bo.length = bl at *
                            have HO := hide (World.ownsRow.alloc hown (.cells #[.int .i64 z, .slice ab bl capb] 43))
                            clear hown
                            go_wp2_with (at_builtin; refine wpList_append_own_at _ rfl _ _ 23 rfl B 43 ip (.agg #[.int .i64 0, .slice none 0 0]) 2 32 Tryd.underlying23 hp0 hp1 hp2 hp3 rfl (by decide) _ _ _ rfl (unhide HO) ⟨wr.heap.size, 0, none⟩ 1 1 [.int .i64 z, .slice ab bl capb] rfl rfl (cell_two_new _ _ _ _) (one_page _ _ _ _) (by unfold maxLen; omega) (by omega) (by simp; omega) ?_)
                            intro v9 w9 hown9 hgrow9 _ _
                            have HO9 := hide ((unhide HMORE) w9 v9 hown9)
                            have HP9 := hide (((unhide HP).below ((Below.refl _ _).alloc (Nat.le_refl _) _)).other (Turn.grown (S := fun k => B ≤ k) hgrow9 (unhide HOB)) (fun _ h => h) hwB (unhide HLT).1 (unhide HLT).2 hgB)
                            have hB9 : B ≤ w9.heap.size := Nat.le_trans hBr (Nat.le_trans (by simp) hgrow9.size)
                            clear hown9 hgrow9 HO HOB HMORE HP
                            go_wp2
                            go_roundw
                            case rel => exact ⟨j + 1, by omega, by omega, by go_num, hB9, unhide HO9, unhide HP9⟩
                            case measure => simp [intOf]; omega
                          · have HX := hide hxs
                            have HP := hide hp
                            have hpl := pick1_length l2 v2.toNat j
                            have hcond : ¬ j < l2.length ∨ (j < l2.length ∧ ¬ j < 30) ∨ (j < l2.length ∧ j < 30 ∧ ¬ (j : Int) < v1) ∨ (j < l2.length ∧ j < 30 ∧ (j : Int) < v1 ∧ ¬ 0 ≤ v2) ∨ (j < l2.length ∧ j < 30 ∧ (j : Int) < v1 ∧ 0 ≤ v2 ∧ ¬ v2 < 1000) := by omega
                            clear hxs hp hc
                            generalize pick1 l2 v2.toNat j = pk at *
                            rcases hcond with g1 | ⟨g1, g2⟩ | ⟨g1, g2, g3⟩ | ⟨g1, g2, g3, g4⟩ | ⟨g1, g2, g3, g4, g5⟩
                            all_goals
                              go_wp2
                              go_meet
                              case rel => exact ⟨pk, by omega, unhide HX, unhide HP⟩
                      case rest =>
                        obtain ⟨x, hx30, hxs, hp⟩ := hcut
                        obtain ⟨xa, xc, rfl, hcm⟩ := hp.picked hxs hx30 (unhide HLT).1 (unhide HLT).2 hs0 (by omega) hs0 (by omega)
                        have hcp := (unhide HCAP).commit (L := L) (l := x) hs0 (by omega) hs1 (by rw [hp.dn]; exact hp.n1.1)
                        have HCM := hide hcm
                        have HCP := hide hcp
                        clear hcm hcp hxs hp HP
                        generalize commitOut D s L x = X at *
                        generalize x.length = xl at *
                        go_wp2_with fail
                        refine (unhide HCM).mono ?_
                        rintro e wa ⟨rfl, Sa, hpa, hc2⟩
                        have HC2 := hide hc2
                        clear hc2 hpa HCM
                        go_wp2_with fail
                        refine (unhide HC2).mono ?_
                        rintro e wb ⟨rfl, Tb, hpb⟩
                        have HPB := hide hpb
                        have HE := hide (error_same X.2.2 wb ((unhide HG).below hpb.live.bel))
                        clear hpb HC2
                        go_wp2_with fail
                        refine (unhide HE).mono ?_
                        rintro e wd ⟨rfl, hbd⟩
                        have HPD := hide ((unhide HPB).below hbd)
                        clear hbd HPB HE
                        go_wp2
                        go_meet
                        case rel => exact ⟨rfl, q, r, Sa, Tb, X.1, X.2.1, rfl, rfl, unhide HPD, (unhide HCP).1.mono (by omega), by have := (unhide HCP).2.1; omega, by have := (unhide HCP).2.2; omega⟩
                · rw [decide_eq_false hW]
                  clear hW
                  have c1 : wc.cell? ⟨gv, 1, none⟩ = some (.int .i64 v1) := (unhide HP).row.cell 1 (by simp)
                  by_cases h3 : v0 = 3
                  · subst h3
                    have HF := hide ((unhide HP).fail1 v1 (unhide hv1))
                    as_aux_lemma =>
                      go_wp2_with fail
                      refine (unhide HF).mono ?_
                      rintro e wa ⟨rfl, Sa, hpa⟩
                      have HF2 := hide (hpa.fail2 v1 (unhide hv1))
                      have ra : wa.cell? ⟨gv, 1, none⟩ = some (.int .i64 v1) := hpa.row.cell 1 (by simp)
                      clear hpa
                      go_wp2_with fail
                      refine (unhide HF2).mono ?_
                      rintro e wb ⟨rfl, Tb, hpb⟩
                      have HPB := hide hpb
                      clear hpb
                      go_wp2
                      go_meet
                      case rel => exact ⟨rfl, q, r, Sa, Tb, _, s, rfl, rfl, unhide HPB, ⟨((unhide HCAP).mono (by omega)).sec, ((unhide HCAP).mono (by omega)).mem⟩, hs0, by omega⟩
                  · have c2 : wc.cell? ⟨gv, 2, none⟩ = some (.int .i64 v2) := (unhide HP).row.cell 2 (by simp)
                    have HC := hide ((unhide HP).crash1 v1 v2 (unhide HK3))
                    have hcc : Cap (2 + (k + 1 : Nat)) (D.crash l3 v1 (cutN v2)) := ((unhide HCAP).mono (by omega)).crash l3 v1 (cutN v2) (cutN_le v2)
                    have hdn : (D.crash l3 v1 (cutN v2)).down = false := rfl
                    have HCC := hide hcc
                    have HDN := hide hdn
                    clear hcc hdn HCAP
                    as_aux_lemma =>
                      go_wp2_with fail
                      refine (unhide HC).mono ?_
                      rintro e wa ⟨rfl, Sa, hpa⟩
                      have ra : wa.cell? ⟨gv, 1, none⟩ = some (.int .i64 v1) := hpa.row.cell 1 (by simp)
                      have ra2 : wa.cell? ⟨gv, 2, none⟩ = some (.int .i64 v2) := hpa.row.cell 2 (by simp)
                      have HC2 := hide (hpa.crash2 v1 v2 (unhide HK3))
                      clear hpa HC HP c1 c2
                      go_wp2_with fail
                      refine (unhide HC2).mono ?_
                      rintro e wb ⟨rfl, Tb, hpb⟩
                      generalize D.crash l3 v1 (cutN v2) = Dc at *
                      have HO1 := hide (hpb.open1 (unhide HDN))
                      have hco := (unhide HCC).openP (L := L) hpb.live.dev.ok (by rw [hpb.dn]; omega) (by omega)
                      have HCO := hide hco
                      clear hpb HC2 ra ra2 hco HCC
                      go_wp2_with fail
                      refine (unhide HO1).mono ?_
                      rintro e wd ⟨u1, Sd, rfl, hy1, hn1⟩
                      clear HO1
                      by_cases hz : (openP Dc L).2.2 = 0
                      · obtain ⟨q', rfl, hpd⟩ := hy1 hz
                        have HO2 := hide (hpd.open2 (unhide HDN))
                        rw [hz, errV_zero]
                        clear hpd hy1 hn1
                        go_wp2_with fail
                        refine (unhide HO2).mono ?_
                        rintro e we ⟨u2, Te, rfl, hy2, hn2⟩
                        obtain ⟨r', rfl, hpe⟩ := hy2 hz
                        rw [hz]
                        have HPE := hide hpe
                        have HE := hide (error_same 0 we ((unhide HG).below hpe.live.bel))
                        rw [errV_zero] at HE
                        clear hpe hy2 hn2 HO2
                        go_wp2_with fail
                        refine (unhide HE).mono ?_
                        rintro e wf ⟨rfl, hbf⟩
                        have HPF := hide ((unhide HPE).below hbf)
                        clear hbf HPE HE
                        go_wp2
                        go_meet
                        case rel => exact ⟨rfl, q', r', Sd, Te, _, _, rfl, rfl, unhide HPF, (unhide HCO).1, (unhide HCO).2.1, (unhide HCO).2.2⟩
                      · obtain ⟨rfl, hpd⟩ := hn1 hz
                        have HO2 := hide (hpd.open2 (unhide HDN))
                        clear hpd hy1 hn1
                        go_wp2_with fail
                        refine (unhide HO2).mono ?_
                        rintro e we ⟨u2, Te, rfl, hy2, hn2⟩
                        obtain ⟨rfl, hpe⟩ := hn2 hz
                        have HPE := hide hpe
                        have HE := hide (error_same (openP Dc L).2.2 we ((unhide HG).below hpe.live.bel))
                        clear hpe hy2 hn2 HO2
                        generalize openP Dc L = X at *
                        have hzb : (X.2.2 == 0) = false := by simp [hz]
                        go_wp2_with fail
                        refine (unhide HE).mono ?_
                        rintro e wf ⟨rfl, hbf⟩
                        have HPF := hide ((unhide HPE).below hbf)
                        clear hbf HPE HE
                        go_wp2
                        go_meet
                        case rel => exact ⟨rfl, q, r, Sd, Te, _, s, rfl, rfl, unhide HPF, (unhide HCO).1, hs0, by omega⟩
            case rest =>
              obtain ⟨rfl, q', r', S', T', D', s', rfl, rfl, hp, hcap', hs0', hs1'⟩ := hcut
              clear HP hv1 HCAP
              have HP := hide hp
              have HC := hide hcap'
              clear hp hcap'
              go_upto_region 41 with fail
              go_cut [203] from 74 to 74 (fun v wx => v = .bool (decide (v3 < 0 ∨ (L : Int) ≤ v3)) ∧ Pp w wx p m q' r' S' T' D' D' s' s' L n gv [v0, v1, v2, v3])
              case first =>
                have c3 : wc.cell? ⟨gv, 3, none⟩ = some (.int .i64 v3) := (unhide HP).row.cell 3 (by simp)
                have cL := (unhide HP).rp.c2
                have hcond : v3 < 0 ∨ (¬ v3 < 0 ∧ (L : Int) ≤ v3) ∨ (¬ v3 < 0 ∧ ¬ (L : Int) ≤ v3) := by omega
                rcases hcond with g1 | ⟨g1, g2⟩ | ⟨g1, g2⟩
                all_goals
                  go_quiet (fail)
                  go_wp2
                  go_meet
                  case rel => exact ⟨by simp [*], (unhide HP).drewN _⟩
              case rest =>
                obtain ⟨rfl, hp⟩ := hcut
                clear HP
                have HP := hide hp
                clear hp
                go_upto_if 203 with fail
                go_cut [14, 25] from 203 to 203 (fun ev wv wx => ∃ a cap, ev = .int .i64 (pReadE D' v3) ∧ wv = .slice a (rdP D' v3).length cap ∧ Bs wx a cap (rdP D' v3) ∧ wx = wc)
                case first =>
                  by_cases hr : v3 < 0 ∨ (L : Int) ≤ v3
                  · have hre : pReadE D' v3 = 1 := by
                      unfold pReadE hasP
                      rw [(unhide HP).dn, (unhide HP).cnt, decide_eq_false (by omega)]
                      rfl
                    rw [decide_eq_true hr]
                    have HRE := hide hre
                    clear hr hre
                    go_wp2
                    go_meet
                    case rel => exact ⟨none, 0, by rw [unhide HRE], by unfold rdP; rw [unhide HRE]; rfl, by unfold rdP; rw [unhide HRE]; exact bs_nil _, rfl⟩
                  · have c3 : wc.cell? ⟨gv, 3, none⟩ = some (.int .i64 v3) := (unhide HP).row.cell 3 (by simp)
                    have HR := hide ((unhide HP).read2 v3 (by omega) (by omega))
                    rw [decide_eq_false hr]
                    have g1 : 0 ≤ v3 := by omega
                    have g2 : v3 ≤ 200 := by omega
                    clear hr
                    go_wp2_with fail
                    refine (unhide HR).mono ?_
                    rintro e w5 ⟨a5, k5, rfl, hb5, rfl⟩
                    have HB5 := hide hb5
                    clear hb5 HR
                    go_wp2
                    go_meet
                    case rel => exact ⟨a5, k5, rfl, rfl, unhide HB5, rfl⟩
                case rest =>
                  obtain ⟨a5, k5, rfl, rfl, hb5, rfl⟩ := hcut
                  have c3 : wc.cell? ⟨gv, 3, none⟩ = some (.int .i64 v3) := (unhide HP).row.cell 3 (by simp)
                  have HR1 := hide ((unhide HP).read1 v3)
                  have HB5 := hide hb5
                  clear hb5
                  go_wp2_with fail
                  refine (unhide HR1).mono ?_
                  rintro e w6 ⟨a6, k6, rfl, hb6, hbel6⟩
                  have hp6 := (unhide HP).below hbel6
                  have hb5 := (unhide HB5).below hbel6
                  have HE := hide (error_same (pReadE D' v3) w6 ((unhide HG).below hp6.live.bel))
                  have HP6 := hide hp6
                  have HB5' := hide hb5
                  have HB6 := hide hb6
                  clear hp6 hb5 hb6 hbel6 HP HB5 HR1 c3
                  generalize rdP D' v3 = rd at *
                  generalize pReadE D' v3 = re at *
                  go_wp2_with fail
                  refine (unhide HE).mono ?_
                  rintro e w7 ⟨rfl, hbel7⟩
                  have hp7 := (unhide HP6).below hbel7
                  have HP7 := hide hp7
                  have HST := hide hp7.stamp
                  have HLN := hide hp7.len
                  have cs := hp7.rp.c1
                  have cl := hp7.rp.c2
                  have cv5 := bytes_str' ((unhide HB5').below hbel7)
                  have cv6 := bytes_str' ((unhide HB6).below hbel7)
                  generalize strOf rd = sr at cv5 cv6
                  clear hp7 HP6 HB5' HB6 HE hbel7
                  go_wp2_with fail
                  go_quiet (first | (go_at_call 20; exact Calls.quiet_of_same ((unhide HST) _)) | (go_at_call 21; exact Calls.quiet_of_same ((unhide HLN) _)))
                  go_wp2
                  go_roundw
                  case rel => exact ⟨rfl, k + 1, q', r', S', T', D', s', by omega, by omega, by go_num, rfl, rfl, ((unhide HP7).drewN _).both, unhide HC, hs0', hs1'⟩
                  case measure => simp [intOf]; omega
    · have HBL := hide hb.live.bel
      have hcond : (k < l1.length ∧ ¬ k < 30) ∨ ¬ k < l1.length := by omega
      clear hb hk hk30 hlt
      rcases hcond with ⟨g1, g2⟩ | g1
      all_goals
        go_wp2
        go_ret
        exact ⟨rfl, unhide HBL⟩

theorem walkPagesPlays (n : Int) (a1 : Option Addr) (cap1 : Nat) (l1 : List (List Int)) (a2 : Option Addr) (cap2 : Nat) (l2 : List (Int × List Int)) (a3 : Option Addr) (cap3 : Nat) (l3 : List Bool) (w : World) (hg : ErrT w)
    (hs1 : Iss w a1 cap1 l1) (hs2 : PgsO w (fun _ => False) a2 cap2 l2) (hk3 : Bls w a3 cap3 l3) :
    Calls Tryd.prog 3 #[.int .i64 n, .slice a1 l1.length cap1, .slice a2 l2.length cap2, .slice a3 l3.length cap3] w fun e w' => e = .returned (.bool true) ∧ Below w.heap.size w w' := by
  by_cases hn : n < 1 ∨ 300 < n
  · exact ppl_no n a1 a2 a3 _ _ _ cap1 cap2 cap3 w hn
  · obtain ⟨N, rfl⟩ : ∃ N : Nat, n = N := ⟨n.toNat, by omega⟩
    by_cases h49 : N < 49
    · exact ppl_few N a1 a2 a3 _ _ _ cap1 cap2 cap3 w hg (by omega) h49
    · exact walkPagesPlays_in N a1 cap1 l1 a2 cap2 l2 a3 cap3 l3 w hg hs1 hs2 hk3 (by omega) (by omega)
end Go.Proofs.YtmphnhigohkaeaaDoor
