/-
  The walk of HeapPlays. (Part of the proof of HeapPlays.)
-/
import Derived.Test.YtopblhmbjdfebaaGreatDoorJRt
import Derived.Test.YtopblhmbjdfebaaGreatDoorJRc
import Derived.Test.YtopblhmbjdfebaaGreatDoorJEx
import Derived.Test.YtopblhmbjdfebaaGreatDoorJRu
import Derived.Test.YtopblhmbjdfebaaGreatDoorJMv
import Derived.Test.YtopblhmbjdfebaaGreatDoorJSr
import Derived.Test.YtopblhmbjdfebaaGreatDoorErrSame
import Derived.Deep.CutRange
import Derived.Deep.RegionWith
namespace Go.Proofs.YtopblhmbjdfebaaGreatDoor
open Go.RowKit Go.Sort
set_option linter.unusedVariables false

/-- The image as a text, and another slice that reads the same, as a text. -/
theorem bytes_tx (p g c B : Nat) (L : List Int) (aw : Option Addr) (cw : Nat) (w : World) (hh : Hp w B p g c L) (hw : Bs w aw cw L) :
    Calls Tryz.prog 29 #[.pointer (some ⟨p, 0, none⟩)] w fun e w' => ∃ a' c', e = .returned (.slice a' L.length c') ∧ (convert 22 9 (.slice a' L.length c')).run Tryz.prog w' = .ok (.string (strOf L)) w' ∧ (convert 22 9 (.slice aw L.length cw)).run Tryz.prog w' = .ok (.string (strOf L)) w' ∧ Below w.heap.size w w' :=
  (hBytes_any p g c B L w hh).mono fun e w' ⟨a', c', he, ho, hb⟩ => ⟨a', c', he, by
    obtain ⟨a2, c2, e2, hbs⟩ := ho.bs hh.byt (by have := hh.len; omega)
    simp only [Value.slice.injEq, true_and] at e2
    obtain ⟨rfl, rfl⟩ := e2
    exact conv_str Tryz.underlying22 Tryz.underlying5 Tryz.underlying9 hbs, conv_str Tryz.underlying22 Tryz.underlying5 Tryz.underlying9 (hw.below hb), hb⟩
theorem fine_of_E {L : List Int} (h : fineE L = 0) : Fine L := by
  unfold fineE at h
  by_cases hq : lenB L.length = false
  · rw [if_pos hq] at h
    exact absurd h (by decide)
  · rw [if_neg hq] at h
    have hl := lenB_iff.1 (by simpa using hq : lenB L.length = true)
    by_cases hf : faults L = []
    · exact ⟨by omega, hf⟩
    · rw [if_neg hf] at h
      exact absurd h (by decide)
theorem hLoadE_any (a : Option Addr) (cap : Nat) (L : List Int) (w : World) (hbs : Bs w a cap L) :
    Calls Tryz.prog 6 #[.slice a L.length cap] w fun e w' => ∃ v, e = .returned (.tuple #[v, errV (fineE L)]) ∧ (fineE L = 0 → ∃ p g c, v = .pointer (some ⟨p, 0, none⟩) ∧ Hp w' w.heap.size p g c L) ∧ Below w.heap.size w w' := by
  by_cases h : fineE L = 0
  · rw [h, errV_zero]
    exact (hLoad_yes a cap L w hbs (fine_of_E h)).mono fun e w' ⟨p, g, c, he, hh, hb⟩ => ⟨_, he, fun _ => ⟨p, g, c, rfl, hh⟩, hb⟩
  · by_cases hq : lenB L.length = false
    · have e3 : fineE L = 3 := by unfold fineE; rw [if_pos hq]
      rw [e3]
      exact (hLoad_no a L.length cap w hbs.2.2.1 hq).mono fun e w' ⟨he, hw⟩ => ⟨_, he, fun h => absurd h (by decide), by rw [← hw]; exact Below.refl _ _⟩
    · have hq' : lenB L.length = true := by simpa using hq
      have hne : faults L ≠ [] := fun hf => h (by unfold fineE; rw [if_neg hq, if_pos hf])
      have e6 : fineE L = 6 := by unfold fineE; rw [if_neg hq, if_neg hne]
      rw [e6]
      exact (hLoad_state a cap L w hbs hq' hne).mono fun e w' ⟨he, hb⟩ => ⟨_, he, fun h => absurd h (by decide), hb⟩
set_option maxRecDepth 100000 in
set_option maxHeartbeats 16000000 in
theorem walkHeapPlays (a : Option Addr) (cap : Nat) (b : List Int) (a1 : Option Addr) (cap1 : Nat) (ops : List OpR) (w : World) (hg : ErrT w) (hb : Bs w a cap b) (ho : Ops w a1 cap1 ops) :
    Calls Tryz.prog 3 #[.slice a b.length cap, .slice a1 ops.length cap1] w fun e w' => e = .returned (.bool true) ∧ Below w.heap.size w w' := by
  have hbl := hb.2.2.1
  have hol := ho.1.2.2.1
  have HB0 := hide hb
  have HOPS := hide ho
  have HG := hide hg
  have HI := hide (rImage_any b.length w)
  have HFN := hide (rFine_any a cap b w hb)
  have hE3 : lenB b.length = false → fineE b = 3 := fun h => by unfold fineE; rw [if_pos h]
  have HLE := hide (fun (W : World) (hW : Below w.heap.size w W) => hLoadE_any a cap b W (hb.below hW))
  have HLD := hide (fun (W : World) (hW : Below w.heap.size w W) => loadedO_any a cap b W (hb.below hW))
  have HLL := hide (ldL_fine b).len
  clear ho hg
  generalize fineE b = E at *
  generalize lenB (b.length : Int) = lb at *
  go_enter Tryz.func3, Tryz.ntmps3
  go_wp2_with fail
  refine (unhide HI).mono ?_
  rintro e w0 ⟨rfl, hw0⟩
  subst hw0
  clear HI
  go_upto_if 48 with fail
  go_cut [6] from 48 to 50 (fun ev wx => ev = .int .i64 E ∧ Below w.heap.size w wx)
  case first =>
    cases lb with
    | false =>
      have h3 := hE3 rfl
      subst h3
      clear hE3 hb
      go_wp2
      go_meet
      case rel => exact ⟨rfl, Below.refl _ _⟩
    | true =>
      clear hE3 hb
      go_wp2_with fail
      refine (unhide HFN).mono ?_
      rintro e w1 ⟨rfl, hb1⟩
      have HB1 := hide hb1
      clear hb1
      go_wp2
      go_meet
      case rel => exact ⟨rfl, unhide HB1⟩
  case rest =>
    obtain ⟨rfl, hbc⟩ := hcut
    have HL1 := hide (unhide HLE wc hbc)
    have HBC := hide hbc
    clear hbc HLE hE3 hb HFN
    go_wp2_with fail
    refine (unhide HL1).mono ?_
    rintro e w1 ⟨v1, rfl, hv1, hb1⟩
    have hB1 := (unhide HBC).trans (hb1.mono (unhide HBC).size)
    have HER := hide (error_same E w1 ((unhide HG).below hB1))
    have HV1 : Hid (E = 0 → ∃ p g c, v1 = .pointer (some ⟨p, 0, none⟩) ∧ Hp w1 w.heap.size p g c b) := hide (fun h0 => by
      obtain ⟨p, g, c, hv, hh⟩ := hv1 h0
      exact ⟨p, g, c, hv, ⟨Nat.le_trans (unhide HBC).size hh.bp, hh.ne, hh.blk, (by obtain ⟨cur, hr⟩ := hh.row; exact ⟨cur, hr.low (unhide HBC).size⟩), hh.byt, hh.fine⟩⟩)
    have HB1 := hide hB1
    clear hv1 hb1 hB1 HL1 HBC
    go_wp2_with fail
    refine (unhide HER).mono ?_
    rintro e w2 ⟨rfl, hb2⟩
    have hB2 := (unhide HB1).trans (hb2.mono (unhide HB1).size)
    have HV2 : Hid (E = 0 → ∃ p g c, v1 = .pointer (some ⟨p, 0, none⟩) ∧ Hp w2 w.heap.size p g c b) := hide (fun h0 => by
      obtain ⟨p, g, c, hv, hh⟩ := unhide HV1 h0
      exact ⟨p, g, c, hv, hh.below hb2⟩)
    have HL2 := hide (unhide HLD w2 hB2)
    have HB2 := hide hB2
    clear hb2 hB2 HER HV1 HB1 HLD
    go_upto_if 62 with fail
    go_cut [0, 7] from 62 to 69 (fun bv hv wx => ∃ (p g c : Nat) (L : List Int) (q : Option Addr) (cq : Nat), bv = .slice q L.length cq ∧ hv = .pointer (some ⟨p, 0, none⟩) ∧ Hp wx w.heap.size p g c L ∧ BsO wx (foot p g) q cq L ∧ Below w.heap.size w wx)
    case first =>
      by_cases hE : E = 0
      · obtain ⟨p, g, c, hv, hh⟩ := unhide HV2 hE
        subst hv
        subst hE
        have HH := hide hh
        have HQ := hide ((unhide HB0).old (unhide HB2) hh)
        clear hh HV2 HL2
        go_wp2
        go_meet
        case rel => exact ⟨p, g, c, b, a, cap, rfl, rfl, unhide HH, unhide HQ, unhide HB2⟩
      · have hEb : (E != 0) = true := bne_iff_ne.2 hE
        clear hE HV2
        go_wp2_with fail
        refine (unhide HL2).mono ?_
        rintro e w3 ⟨p, g, c, am, cm, rfl, hh3, hm3, hb3⟩
        have HH : Hid (Hp w3 w.heap.size p g c (ldL b)) := hide ⟨Nat.le_trans (unhide HB2).size hh3.bp, hh3.ne, hh3.blk, (by obtain ⟨cur, hr⟩ := hh3.row; exact ⟨cur, hr.low (unhide HB2).size⟩), hh3.byt, hh3.fine⟩
        have HQ := hide hm3
        have HB3 := hide ((unhide HB2).trans (hb3.mono (unhide HB2).size))
        have hll := unhide HLL
        clear hh3 hm3 hb3 HL2 HB2
        generalize ldL b = L at *
        go_wp2
        go_meet
        case rel => exact ⟨p, g, c, L, am, cm, rfl, rfl, unhide HH, unhide HQ, unhide HB3⟩
    case rest =>
      obtain ⟨p, g0, c0, L0, q0, cq0, rfl, rfl, hh0, hq0, hb0⟩ := hcut
      have HH0 := hide hh0
      have HQ0 := hide hq0
      have HBB0 := hide hb0
      have hlen0 := hh0.fine.len
      clear hh0 hq0 hb0 HV2 HL2 HB2 HLL HB0
      generalize hN : L0.length = N at *
      have HN := hide hN
      clear hN
      go_wp2_with fail
      go_loopw [0, 10] (fun bv iv wr => ∃ (k g c : Nat) (L : List Int) (q : Option Addr) (cq : Nat), k ≤ ops.length ∧ k ≤ 40 ∧ iv = .int .i64 k ∧ bv = .slice q N cq ∧ L.length = N ∧ Hp wr w.heap.size p g c L ∧ BsO wr (foot p g) q cq L ∧ Below w.heap.size w wr) (fun _ iv _ => 40 - (intOf iv).toNat)
      case atStart => exact ⟨0, g0, c0, L0, q0, cq0, Nat.zero_le _, Nat.zero_le _, rfl, rfl, unhide HN, unhide HH0, unhide HQ0, unhide HBB0⟩
      case round =>
        obtain ⟨k, g, c, L, q, cq, hk, hk40, rfl, rfl, hLN, hh, hq, hbel⟩ := hrel
        clear HH0 HQ0 HBB0 HN
        by_cases hlt : k < ops.length ∧ k < 40
        · obtain ⟨hu1, hu2⟩ := hlt
          have hne : ops ≠ [] := by intro e; rw [e] at hu1; simp at hu1
          obtain ⟨bo, oo, rfl, hco⟩ := (unhide HOPS).1.2.2.2 hne
          obtain ⟨r, hr⟩ : ∃ r, ops[k]? = some r := ⟨ops[k], List.getElem?_eq_getElem hu1⟩
          obtain ⟨o0, o1, o2, o3, o4, o5⟩ := Sls.op hco hr
          obtain ⟨z0, z1, z2, z3, z4, z5⟩ := (unhide HOPS).2 r (List.mem_of_getElem? hr)
          rw [← hbel.cell (block_lt_of_cell o0)] at o0
          rw [← hbel.cell (block_lt_of_cell o1)] at o1
          rw [← hbel.cell (block_lt_of_cell o2)] at o2
          rw [← hbel.cell (block_lt_of_cell o3)] at o3
          rw [← hbel.cell (block_lt_of_cell o4)] at o4
          rw [← hbel.cell (block_lt_of_cell o5)] at o5
          have hba : Below wr.heap.size wr (wr.alloc (.cells #[.int .i64 r.1, .int .i64 r.2.1, .int .i64 r.2.2.1, .int .i64 r.2.2.2.1, .string r.2.2.2.2.1, .slice r.2.2.2.2.2.1 r.2.2.2.2.2.2.2.length r.2.2.2.2.2.2.1] 35)) := (Below.refl _ _).alloc (Nat.le_refl _) _
          have hB1 := hbel.trans (hba.mono hbel.size)
          have HOP := hide (OpB.new wr r)
          have HH := hide (hh.below hba)
          have HQ := hide (hq.below hba)
          have HBODY := hide (z5.below hB1)
          have HB1 := hide hB1
          have hyl := z5.2.2.1
          unfold InZ at z0 z1 z2 z3
          obtain ⟨x0, x1, x2, x3, s, ab, cb, body⟩ := r
          dsimp only at *
          have hku : (k : Int) < (ops.length : Int) := by omega
          have hk4 : (k : Int) < 40 := by omega
          clear hco hr hne hba hB1 z5 hh hq hbel
          generalize hBL : body.length = BL at *
          have HBL := hide hBL
          clear hBL
          go_upto_region 19 with fail
          generalize hwo : wr.alloc (.cells #[.int .i64 x0, .int .i64 x1, .int .i64 x2, .int .i64 x3, .string s, .slice ab BL cb] 35) = wo at *
          generalize wr.heap.size = go at *
          clear hwo o0 o1 o2 o3 o4 o5
          go_cut [85] from 86 to 86 (fun v wx => v = .int .i64 x0 ∧ wx = wo)
          case first =>
            obtain ⟨d0, d1, d2, d3, d4, d5⟩ := (unhide HOP).cells
            dsimp only at d0
            clear d1 d2 d3 d4 d5
            go_wp2
            go_meet
            case rel => exact ⟨rfl, rfl⟩
          case rest =>
            obtain ⟨rfl, hwx⟩ := hcut
            replace hwx := hwx.symm
            subst hwx
            refine (‹∀ (a : Act) (w : World), Code.wp Tryz.prog (Code.block _ _) _ a w → _›) _ _ ?_
            go_cut [6, 9, 12] from 86 to 86 (fun ev tv nv wx => ∃ (E : Int) (g' c' : Nat) (L' Ln : List Int) (an : Option Addr) (cn : Nat), ev = .int .i64 E ∧ tv = .bool true ∧ nv = .slice an Ln.length cn ∧ L'.length = N ∧ Hp wx w.heap.size p g' c' L' ∧ BsO wx (foot p g') q cq L ∧ (E = 0 → Ln = L' ∧ BsO wx (foot p g') an cn L') ∧ (E ≠ 0 → L' = L) ∧ Below w.heap.size w wx)
            case first =>
              obtain ⟨d0, d1, d2, d3, d4, d5⟩ := (unhide HOP).cells
              dsimp only at d0 d1 d2 d3 d4 d5
              rw [unhide HBL] at d5
              have hsz1 := (unhide HB1).size
              have hf := (unhide HH).fine
              by_cases h1 : x0 = 1
              · subst h1
                clear z0
                as_aux_lemma =>
                  have HS := hide (sAlloc_any q cq L x3 x2 wo (unhide HQ).1 hf)
                  rw [hLN] at HS
                  have HA := hide (fun (W : World) (hW : Below wo.heap.size wo W) => hAlloc_any p g c w.heap.size L x3 x2 W ((unhide HH).below hW) (Nat.le_trans hsz1 hW.size))
                  have HAL := hide ((al_len hf x3 x2).trans hLN)
                  have HL0 : Hid ((alE L x3 x2 = 0 → (if alE L x3 x2 = 0 then alB L x3 x2 else []) = alB L x3 x2) ∧ (alE L x3 x2 ≠ 0 → alB L x3 x2 = L)) := hide ⟨fun h => if_pos h, fun h => by unfold alB; exact if_neg h⟩
                  clear hf
                  generalize (if alE L x3 x2 = 0 then alB L x3 x2 else []) = LN at *
                  generalize alE L x3 x2 = AE at *
                  generalize alH L x3 x2 = AH at *
                  generalize alB L x3 x2 = AB at *
                  go_wp2_with fail
                  refine (unhide HS).mono ?_
                  rintro e w1 ⟨an, cn, rfl, hbs1, hb1, hfr1⟩
                  have HA1 := hide (unhide HA w1 hb1)
                  have HN1 := hide (BsO.fresh (unhide HH) hbs1 hfr1)
                  have hQ1 := (unhide HQ).below hb1
                  have HH1 := hide ((unhide HH).below hb1)
                  have hB1 := (unhide HB1).trans (hb1.mono (unhide HB1).size)
                  obtain ⟨e0, e1, e2, e3, e4, e5⟩ := ((unhide HOP).below hb1).cells
                  dsimp only at e0 e1 e2 e3 e4 e5
                  rw [unhide HBL] at e5
                  have HQ1 := hide hQ1
                  have HBW1 := hide hB1
                  clear hbs1 hb1 hfr1 hQ1 hB1 HS HA d0 d1 d2 d3 d4 d5
                  go_wp2_with fail
                  refine (unhide HA1).mono ?_
                  rintro e w2 ⟨rfl, g2, c2, hh2, ht2⟩
                  have hB2 := (unhide HBW1).trans (ht2.below (unhide HH1).foot_ge (unhide HBW1).size)
                  have HQ2 := hide ((unhide HQ1).turn ht2)
                  have HN2 := hide ((unhide HN1).turn ht2)
                  have HH2 := hide hh2
                  have HER := hide (error_same AE w2 ((unhide HG).below hB2))
                  have HB2 := hide hB2
                  clear hh2 ht2 hB2 HA1 HQ1 HN1 HH1 HBW1 e0 e1 e2 e3 e4 e5
                  go_wp2_with fail
                  refine (unhide HER).mono ?_
                  rintro e w3 ⟨rfl, hb3⟩
                  have HH3 := hide ((unhide HH2).below hb3)
                  have HQ3 := hide ((unhide HQ2).below hb3)
                  have HN3 := hide ((unhide HN2).below hb3)
                  have HB3 := hide ((unhide HB2).trans (hb3.mono (unhide HB2).size))
                  clear hb3 HER HH2 HQ2 HN2 HB2
                  go_wp2
                  go_meet
                  case rel => exact ⟨AE, g2, c2, AB, LN, an, cn, rfl, rfl, rfl, unhide HAL, unhide HH3, unhide HQ3, fun h0 => ⟨(unhide HL0).1 h0, by have := unhide HN3; rw [(unhide HL0).1 h0] at this; exact this⟩, (unhide HL0).2, unhide HB3⟩
              have n1 : (x0 == 1) = false := by rw [beq_eq_false_iff_ne]; exact h1
              clear h1
              by_cases h2 : x0 = 2
              · subst h2
                clear z0
                as_aux_lemma =>
                  have HS := hide (sFree_any q cq L x1 wo (unhide HQ).1 hf)
                  rw [hLN] at HS
                  have HA := hide (fun (W : World) (hW : Below wo.heap.size wo W) => hFree_any p g c w.heap.size L x1 W ((unhide HH).below hW) (Nat.le_trans hsz1 hW.size))
                  have HAL := hide ((frB_fine hf x1).2.trans hLN)
                  have HL0 : Hid ((frE L x1 = 0 → (if frE L x1 = 0 then frB L x1 else []) = frB L x1) ∧ (frE L x1 ≠ 0 → frB L x1 = L)) := hide ⟨fun h => if_pos h, fun h => by unfold frB; exact if_neg h⟩
                  clear hf
                  generalize (if frE L x1 = 0 then frB L x1 else []) = LN at *
                  generalize frE L x1 = AE at *
                  generalize frB L x1 = AB at *
                  go_wp2_with fail
                  refine (unhide HS).mono ?_
                  rintro e w1 ⟨an, cn, rfl, hbs1, hb1, hfr1⟩
                  have HA1 := hide (unhide HA w1 hb1)
                  have HN1 := hide (BsO.fresh (unhide HH) hbs1 hfr1)
                  have hQ1 := (unhide HQ).below hb1
                  have HH1 := hide ((unhide HH).below hb1)
                  have hB1 := (unhide HB1).trans (hb1.mono (unhide HB1).size)
                  obtain ⟨e0, e1, e2, e3, e4, e5⟩ := ((unhide HOP).below hb1).cells
                  dsimp only at e0 e1 e2 e3 e4 e5
                  rw [unhide HBL] at e5
                  have HQ1 := hide hQ1
                  have HBW1 := hide hB1
                  clear hbs1 hb1 hfr1 hQ1 hB1 HS HA d0 d1 d2 d3 d4 d5
                  go_wp2_with fail
                  refine (unhide HA1).mono ?_
                  rintro e w2 ⟨rfl, g2, c2, hh2, ht2⟩
                  have hB2 := (unhide HBW1).trans (ht2.below (unhide HH1).foot_ge (unhide HBW1).size)
                  have HQ2 := hide ((unhide HQ1).turn ht2)
                  have HN2 := hide ((unhide HN1).turn ht2)
                  have HH2 := hide hh2
                  have HER := hide (error_same AE w2 ((unhide HG).below hB2))
                  have HB2 := hide hB2
                  clear hh2 ht2 hB2 HA1 HQ1 HN1 HH1 HBW1 e0 e1 e2 e3 e4 e5
                  go_wp2_with fail
                  refine (unhide HER).mono ?_
                  rintro e w3 ⟨rfl, hb3⟩
                  have HH3 := hide ((unhide HH2).below hb3)
                  have HQ3 := hide ((unhide HQ2).below hb3)
                  have HN3 := hide ((unhide HN2).below hb3)
                  have HB3 := hide ((unhide HB2).trans (hb3.mono (unhide HB2).size))
                  clear hb3 HER HH2 HQ2 HN2 HB2
                  go_wp2
                  go_meet
                  case rel => exact ⟨AE, g2, c2, AB, LN, an, cn, rfl, rfl, rfl, unhide HAL, unhide HH3, unhide HQ3, fun h0 => ⟨(unhide HL0).1 h0, by have := unhide HN3; rw [(unhide HL0).1 h0] at this; exact this⟩, (unhide HL0).2, unhide HB3⟩
              have n2 : (x0 == 2) = false := by rw [beq_eq_false_iff_ne]; exact h2
              clear h2
              by_cases h3 : x0 = 3
              · subst h3
                clear z0
                as_aux_lemma =>
                  have HS := hide (sWrite_any q cq L x1 x2 ab cb body wo (unhide HQ).1 (unhide HBODY) hf (by omega))
                  rw [hLN] at HS
                  have HA := hide (fun (W : World) (hW : Below wo.heap.size wo W) => hWrite_any p g c w.heap.size L x1 x2 ab cb body W ((unhide HH).below hW) ((unhide HBODY).below hW) (by omega))
                  have HAL := hide ((wrB_fine hf x1 x2 body).2.trans hLN)
                  have HL0 : Hid ((pcE L x1 x2 body.length = 0 → (if pcE L x1 x2 body.length = 0 then wrB L x1 x2 body else []) = wrB L x1 x2 body) ∧ (pcE L x1 x2 body.length ≠ 0 → wrB L x1 x2 body = L)) := hide ⟨fun h => if_pos h, fun h => by unfold wrB; exact if_neg h⟩
                  rw [unhide HBL] at HS HA HL0
                  clear hf
                  generalize (if pcE L x1 x2 BL = 0 then wrB L x1 x2 body else []) = LN at *
                  generalize pcE L x1 x2 BL = AE at *
                  generalize wrB L x1 x2 body = AB at *
                  go_wp2_with fail
                  refine (unhide HS).mono ?_
                  rintro e w1 ⟨an, cn, rfl, hbs1, hb1, hfr1⟩
                  have HA1 := hide (unhide HA w1 hb1)
                  have HN1 := hide (BsO.fresh (unhide HH) hbs1 hfr1)
                  have hQ1 := (unhide HQ).below hb1
                  have HH1 := hide ((unhide HH).below hb1)
                  have hB1 := (unhide HB1).trans (hb1.mono (unhide HB1).size)
                  obtain ⟨e0, e1, e2, e3, e4, e5⟩ := ((unhide HOP).below hb1).cells
                  dsimp only at e0 e1 e2 e3 e4 e5
                  rw [unhide HBL] at e5
                  have HQ1 := hide hQ1
                  have HBW1 := hide hB1
                  clear hbs1 hb1 hfr1 hQ1 hB1 HS HA d0 d1 d2 d3 d4 d5
                  go_wp2_with fail
                  refine (unhide HA1).mono ?_
                  rintro e w2 ⟨rfl, hh2, ht2⟩
                  have hB2 := (unhide HBW1).trans (ht2.below (unhide HH1).foot_ge (unhide HBW1).size)
                  have HQ2 := hide ((unhide HQ1).turn ht2)
                  have HN2 := hide ((unhide HN1).turn ht2)
                  have HH2 := hide hh2
                  have HER := hide (error_same AE w2 ((unhide HG).below hB2))
                  have HB2 := hide hB2
                  clear hh2 ht2 hB2 HA1 HQ1 HN1 HH1 HBW1 e0 e1 e2 e3 e4 e5
                  go_wp2_with fail
                  refine (unhide HER).mono ?_
                  rintro e w3 ⟨rfl, hb3⟩
                  have HH3 := hide ((unhide HH2).below hb3)
                  have HQ3 := hide ((unhide HQ2).below hb3)
                  have HN3 := hide ((unhide HN2).below hb3)
                  have HB3 := hide ((unhide HB2).trans (hb3.mono (unhide HB2).size))
                  clear hb3 HER HH2 HQ2 HN2 HB2
                  go_wp2
                  go_meet
                  case rel => exact ⟨AE, g, c, AB, LN, an, cn, rfl, rfl, rfl, unhide HAL, unhide HH3, unhide HQ3, fun h0 => ⟨(unhide HL0).1 h0, by have := unhide HN3; rw [(unhide HL0).1 h0] at this; exact this⟩, (unhide HL0).2, unhide HB3⟩
              have n3 : (x0 == 3) = false := by rw [beq_eq_false_iff_ne]; exact h3
              clear h3
              by_cases h4 : x0 = 4
              · subst h4
                clear z0
                as_aux_lemma =>
                  have HS := hide (sSet_any q cq L s x1 wo (unhide HQ).1 hf z4)
                  rw [hLN] at HS
                  have HA := hide (fun (W : World) (hW : Below wo.heap.size wo W) => roSet_any ((unhide HH).below hW) (Nat.le_trans hsz1 hW.size) s x1 z4)
                  have HAL := hide ((seF_fine hf s x1).2.trans hLN)
                  have HL0 : Hid ((seE L s x1 = 0 → (if seE L s x1 = 0 then seB L s x1 else []) = seF L s x1) ∧ (seE L s x1 ≠ 0 → seF L s x1 = L)) := hide ⟨fun h => by unfold seF; rw [if_pos h, if_pos h], fun h => by unfold seF; exact if_neg h⟩
                  have hso : seO L s x1 = (decide (seE L s x1 = 0) && seN L s) := rfl
                  rw [← hso] at HS
                  have hs0 : seE L s x1 ≠ 0 → seO L s x1 = false := fun h => by unfold seO; rw [decide_eq_false h]; rfl
                  clear hf hso
                  generalize (if seE L s x1 = 0 then seB L s x1 else []) = LN at *
                  generalize seO L s x1 = SO at *
                  generalize seE L s x1 = AE at *
                  generalize seF L s x1 = AB at *
                  have HS0 := hide hs0
                  clear hs0
                  go_wp2_with fail
                  refine (unhide HS).mono ?_
                  rintro e w1 ⟨an, cn, rfl, hbs1, hb1, hfr1⟩
                  have HA1 := hide (unhide HA w1 hb1)
                  have HN1 := hide (BsO.fresh (unhide HH) hbs1 hfr1)
                  have hQ1 := (unhide HQ).below hb1
                  have HH1 := hide ((unhide HH).below hb1)
                  have hB1 := (unhide HB1).trans (hb1.mono (unhide HB1).size)
                  obtain ⟨e0, e1, e2, e3, e4, e5⟩ := ((unhide HOP).below hb1).cells
                  dsimp only at e0 e1 e2 e3 e4 e5
                  rw [unhide HBL] at e5
                  have HQ1 := hide hQ1
                  have HBW1 := hide hB1
                  clear hbs1 hb1 hfr1 hQ1 hB1 HS HA d0 d1 d2 d3 d4 d5
                  go_wp2_with fail
                  refine (unhide HA1).mono ?_
                  rintro e w2 ⟨rfl, g2, c2, hh2, ht2⟩
                  have hB2 := (unhide HBW1).trans (ht2.below (unhide HH1).foot_ge (unhide HBW1).size)
                  have HQ2 := hide ((unhide HQ1).turn ht2)
                  have HN2 := hide ((unhide HN1).turn ht2)
                  have HH2 := hide hh2
                  have HER := hide (error_same AE w2 ((unhide HG).below hB2))
                  have HB2 := hide hB2
                  clear hh2 ht2 hB2 HA1 HQ1 HN1 HH1 HBW1 e0 e1 e2 e3 e4 e5
                  go_wp2_with fail
                  refine (unhide HER).mono ?_
                  rintro e w3 ⟨rfl, hb3⟩
                  have HH3 := hide ((unhide HH2).below hb3)
                  have HQ3 := hide ((unhide HQ2).below hb3)
                  have HN3 := hide ((unhide HN2).below hb3)
                  have HB3 := hide ((unhide HB2).trans (hb3.mono (unhide HB2).size))
                  clear hb3 HER HH2 HQ2 HN2 HB2
                  have hcs : (SO = true ∧ AE = 0) ∨ (SO = false) := by
                    cases SO with
                    | false => exact .inr rfl
                    | true =>
                      by_cases h : AE = 0
                      · exact .inl ⟨rfl, h⟩
                      · exact absurd (unhide HS0 h) (by simp)
                  rcases hcs with ⟨rfl, hA0⟩ | rfl
                  · have hAb : (AE == 0) = true := beq_iff_eq.2 hA0
                    clear hA0
                    go_wp2
                    go_meet
                    case rel => exact ⟨AE, g2, c2, AB, LN, an, cn, rfl, rfl, rfl, unhide HAL, unhide HH3, unhide HQ3, fun h0 => ⟨(unhide HL0).1 h0, by have := unhide HN3; rw [(unhide HL0).1 h0] at this; exact this⟩, (unhide HL0).2, unhide HB3⟩
                  · go_wp2
                    go_meet
                    case rel => exact ⟨AE, g2, c2, AB, LN, an, cn, rfl, rfl, rfl, unhide HAL, unhide HH3, unhide HQ3, fun h0 => ⟨(unhide HL0).1 h0, by have := unhide HN3; rw [(unhide HL0).1 h0] at this; exact this⟩, (unhide HL0).2, unhide HB3⟩
              have n4 : (x0 == 4) = false := by rw [beq_eq_false_iff_ne]; exact h4
              clear h4
              by_cases h5 : x0 = 5
              · subst h5
                clear z0
                as_aux_lemma =>
                  have HS := hide (sUnset_any q cq L s wo (unhide HQ).1 hf z4)
                  rw [hLN] at HS
                  have HA := hide (fun (W : World) (hW : Below wo.heap.size wo W) => roUnset_any ((unhide HH).below hW) (Nat.le_trans hsz1 hW.size) s z4)
                  have HAL := hide ((unF_fine hf s).2.trans hLN)
                  have HL0 : Hid ((unE L s = 0 → (if unE L s = 0 then unB L s else []) = unF L s) ∧ (unE L s ≠ 0 → unF L s = L)) := hide ⟨fun h => by unfold unF; rw [if_pos h, if_pos h], fun h => by unfold unF; exact if_neg h⟩
                  clear hf
                  generalize (if unE L s = 0 then unB L s else []) = LN at *
                  generalize unE L s = AE at *
                  generalize unF L s = AB at *
                  go_wp2_with fail
                  refine (unhide HS).mono ?_
                  rintro e w1 ⟨an, cn, rfl, hbs1, hb1, hfr1⟩
                  have HA1 := hide (unhide HA w1 hb1)
                  have HN1 := hide (BsO.fresh (unhide HH) hbs1 hfr1)
                  have hQ1 := (unhide HQ).below hb1
                  have HH1 := hide ((unhide HH).below hb1)
                  have hB1 := (unhide HB1).trans (hb1.mono (unhide HB1).size)
                  obtain ⟨e0, e1, e2, e3, e4, e5⟩ := ((unhide HOP).below hb1).cells
                  dsimp only at e0 e1 e2 e3 e4 e5
                  rw [unhide HBL] at e5
                  have HQ1 := hide hQ1
                  have HBW1 := hide hB1
                  clear hbs1 hb1 hfr1 hQ1 hB1 HS HA d0 d1 d2 d3 d4 d5
                  go_wp2_with fail
                  refine (unhide HA1).mono ?_
                  rintro e w2 ⟨rfl, g2, c2, hh2, ht2⟩
                  have hB2 := (unhide HBW1).trans (ht2.below (unhide HH1).foot_ge (unhide HBW1).size)
                  have HQ2 := hide ((unhide HQ1).turn ht2)
                  have HN2 := hide ((unhide HN1).turn ht2)
                  have HH2 := hide hh2
                  have HER := hide (error_same AE w2 ((unhide HG).below hB2))
                  have HB2 := hide hB2
                  clear hh2 ht2 hB2 HA1 HQ1 HN1 HH1 HBW1 e0 e1 e2 e3 e4 e5
                  go_wp2_with fail
                  refine (unhide HER).mono ?_
                  rintro e w3 ⟨rfl, hb3⟩
                  have HH3 := hide ((unhide HH2).below hb3)
                  have HQ3 := hide ((unhide HQ2).below hb3)
                  have HN3 := hide ((unhide HN2).below hb3)
                  have HB3 := hide ((unhide HB2).trans (hb3.mono (unhide HB2).size))
                  clear hb3 HER HH2 HQ2 HN2 HB2
                  go_wp2
                  go_meet
                  case rel => exact ⟨AE, g2, c2, AB, LN, an, cn, rfl, rfl, rfl, unhide HAL, unhide HH3, unhide HQ3, fun h0 => ⟨(unhide HL0).1 h0, by have := unhide HN3; rw [(unhide HL0).1 h0] at this; exact this⟩, (unhide HL0).2, unhide HB3⟩
              have n5 : (x0 == 5) = false := by rw [beq_eq_false_iff_ne]; exact h5
              clear h5
              by_cases h8 : x0 = 8
              · subst h8
                clear z0
                as_aux_lemma =>
                  have HS := hide (sStep_any q cq L wo (unhide HQ).1 hf)
                  rw [hLN] at HS
                  have HA := hide (fun (W : World) (hW : Below wo.heap.size wo W) => mvStepH_any ((unhide HH).below hW) (Nat.le_trans hsz1 hW.size))
                  have HAL : Hid (((mvS L).getD L).length = N) := hide ((mvT_fine hf).2.trans hLN)
                  have HLNE : Hid (L ≠ []) := hide (by intro e; rw [e] at hLN; simp at hLN; omega)
                  clear hf
                  generalize (mvS L).getD L = AB at *
                  generalize (mvS L).isSome = SO at *
                  go_wp2_with fail
                  refine (unhide HS).mono ?_
                  rintro e w1 ⟨an, cn, rfl, hbs1, hb1, hfr1⟩
                  have HA1 := hide (unhide HA w1 hb1)
                  have hN1 : BsO w1 (foot p g) an cn AB := by
                    rcases hfr1 with ⟨rfl, rfl⟩ | hfr
                    · exact ⟨hbs1, fun _ => (unhide HQ).2 (unhide HLNE)⟩
                    · exact BsO.fresh (unhide HH) hbs1 hfr
                  have HN1 := hide hN1
                  clear hN1
                  have hQ1 := (unhide HQ).below hb1
                  have HH1 := hide ((unhide HH).below hb1)
                  have hB1 := (unhide HB1).trans (hb1.mono (unhide HB1).size)
                  obtain ⟨e0, e1, e2, e3, e4, e5⟩ := ((unhide HOP).below hb1).cells
                  dsimp only at e0 e1 e2 e3 e4 e5
                  rw [unhide HBL] at e5
                  have HQ1 := hide hQ1
                  have HBW1 := hide hB1
                  clear hbs1 hb1 hfr1 hQ1 hB1 HS HA d0 d1 d2 d3 d4 d5
                  go_wp2_with fail
                  refine (unhide HA1).mono ?_
                  rintro e w2 ⟨rfl, g2, c2, hh2, ht2⟩
                  have hB2 := (unhide HBW1).trans (ht2.below (unhide HH1).foot_ge (unhide HBW1).size)
                  have HQ2 := hide ((unhide HQ1).turn ht2)
                  have HN2 := hide ((unhide HN1).turn ht2)
                  have HH2 := hide hh2
                  have HB2 := hide hB2
                  clear hh2 ht2 hB2 HA1 HQ1 HN1 HH1 HBW1 e0 e1 e2 e3 e4 e5
                  cases SO
                  all_goals
                    go_wp2
                    go_meet
                    case rel => exact ⟨0, g2, c2, AB, AB, an, cn, rfl, rfl, by rw [unhide HAL], unhide HAL, unhide HH2, unhide HQ2, fun _ => ⟨rfl, unhide HN2⟩, fun h => absurd rfl h, unhide HB2⟩
              have n8 : (x0 == 8) = false := by rw [beq_eq_false_iff_ne]; exact h8
              clear h8
              by_cases h9 : x0 = 9
              · subst h9
                clear z0
                as_aux_lemma =>
                  have HS := hide (sLive_any q cq L wo (unhide HQ).1 hf)
                  rw [hLN] at HS
                  have HA := hide (fun (W : World) (hW : Below wo.heap.size wo W) => rhSweep_any ((unhide HH).below hW) (Nat.le_trans hsz1 hW.size))
                  have hdl := ddK_len L 40
                  have hvl := lvK_len L
                  have HAL := hide ((swT_fine hf).2.trans hLN)
                  unfold swT at HAL
                  have HST := hide (fun k x hx => sw_step hf (k := k) (x := x) hx)
                  have HTK := hide (fun k => sw_take hf k)
                  have HFR := hide (fun (W : World) (an : Option Addr) (cn : Nat) (M : List Int) (x : Int) (hbs : Bs W an cn M) (hM : Fine M) => sFree_any an cn M x W hbs hM)
                  have H0 : Hid (swL L ((ddK L 40).take 0) = L) := hide rfl
                  have HLN := hide hLN
                  clear hf
                  generalize ddK L 40 = D at *
                  generalize lvK L 40 = V at *
                  go_wp2_with fail
                  refine (unhide HS).mono ?_
                  rintro e w1 ⟨v1, v2, rfl, hl1, hl2, hb1⟩
                  obtain ⟨a3, c3, rfl, hs3⟩ := hl1.sls inC_len (by omega)
                  obtain ⟨a2, c2, rfl, hs2⟩ := hl2.sls inC_len (by omega)
                  have HD := hide hs2
                  have hcl2 := hs2.2.2.1
                  have hQ1 := (unhide HQ).below hb1
                  have hH1 := (unhide HH).below hb1
                  have HA1 := hide (fun (W : World) (hW : Below w1.heap.size w1 W) => unhide HA W (hb1.trans (hW.mono hb1.size)))
                  have hB1 := (unhide HB1).trans (hb1.mono (unhide HB1).size)
                  have HQ1 := hide hQ1
                  have HH1 := hide hH1
                  have HBW1 := hide hB1
                  clear hs3 hl1 hl2 hs2 hb1 hQ1 hH1 hB1 HS HA d0 d1 d2 d3 d4 d5
                  go_wp2_with fail
                  go_loopw [12, 29] (fun nv iv wr => ∃ (j : Nat) (an : Option Addr) (cn : Nat), j ≤ D.length ∧ iv = .int .i64 j ∧ nv = .slice an N cn ∧ BsO wr (foot p g) an cn (swL L (D.take j)) ∧ Below w1.heap.size w1 wr) (fun _ iv _ => D.length - (intOf iv).toNat)
                  case atStart => exact ⟨0, q, cq, Nat.zero_le _, rfl, rfl, by rw [unhide H0]; exact unhide HQ1, Below.refl _ _⟩
                  case round =>
                    obtain ⟨j, an, cn, hj, rfl, rfl, hn, hbj⟩ := hrel
                    have htk := unhide HTK j
                    have hjl : (swL L (D.take j)).length = N := htk.len.trans (unhide HLN)
                    by_cases hlj : j < D.length
                    · have hneD : D ≠ [] := by intro e; rw [e] at hlj; simp at hlj
                      obtain ⟨b2, o2, rfl, hc2⟩ := ((unhide HD).below hbj).2.2.2 hneD
                      obtain ⟨x, hx⟩ : ∃ x, D[j]? = some x := ⟨D[j], List.getElem?_eq_getElem hlj⟩
                      have q0 := Sls.num (cap := 0) hc2 hx
                      obtain ⟨s1, s2⟩ := unhide HST j x hx
                      have HF := hide (unhide HFR wr an cn _ x hn.1 htk.fine)
                      rw [s1, if_pos rfl, s2, hjl] at HF
                      have hjl2 : (swL L (D.take (j + 1))).length = N := (unhide HTK (j + 1)).len.trans (unhide HLN)
                      rw [hjl2] at HF
                      have HHJ := hide ((unhide HH1).below hbj)
                      have HBJ := hide hbj
                      have hji : (j : Int) < (D.length : Int) := by omega
                      clear hc2 hx hneD s1 s2 hn htk hjl hjl2 hbj
                      generalize hSJ : swL L (D.take (j + 1)) = SJ at *
                      have HSJ := hide hSJ
                      clear hSJ
                      go_wp2_with fail
                      refine (unhide HF).mono ?_
                      rintro e w2 ⟨a4, c4, rfl, hbs4, hb4, hfr4⟩
                      have HN4 := hide (BsO.fresh (unhide HHJ) hbs4 hfr4)
                      have HB4 := hide ((unhide HBJ).trans (hb4.mono (unhide HBJ).size))
                      clear hbs4 hb4 hfr4 HF q0 HHJ HBJ
                      go_wp2
                      go_roundw
                      case rel => exact ⟨j + 1, a4, c4, by omega, by go_num, rfl, by rw [unhide HSJ]; exact unhide HN4, unhide HB4⟩
                      case measure => simp [intOf]; omega
                    · have hjD : j = D.length := by omega
                      rw [hjD, List.take_length] at hn
                      have hge : ¬ ((j : Int) < (D.length : Int)) := by omega
                      have HNJ := hide hn
                      have HAJ := hide (unhide HA1 wr hbj)
                      have HHJ := hide ((unhide HH1).below hbj)
                      have HQJ := hide ((unhide HQ1).below hbj)
                      have HBJ := hide ((unhide HBW1).trans (hbj.mono (unhide HBW1).size))
                      clear hn htk hjl hjD hbj hlj hj HA1 HH1 HQ1 HBW1 HTK HST HFR
                      generalize swL L D = SD at *
                      go_wp2_with fail
                      refine (unhide HAJ).mono ?_
                      rintro e w3 ⟨rfl, g3, c4, hh3, ht3⟩
                      have hB3 := (unhide HBJ).trans (ht3.below (unhide HHJ).foot_ge (unhide HBJ).size)
                      have HQ3 := hide ((unhide HQJ).turn ht3)
                      have HN3 := hide ((unhide HNJ).turn ht3)
                      have HH3 := hide hh3
                      have HB3 := hide hB3
                      clear hh3 ht3 hB3 HAJ HHJ HQJ HNJ HBJ
                      go_wp2
                      go_meet
                      case rel => exact ⟨0, g3, c4, SD, SD, an, cn, rfl, rfl, by rw [unhide HAL], unhide HAL, unhide HH3, unhide HQ3, fun _ => ⟨rfl, unhide HN3⟩, fun h => absurd rfl h, unhide HB3⟩
              have n9 : (x0 == 9) = false := by rw [beq_eq_false_iff_ne]; exact h9
              clear h9
              as_aux_lemma =>
                have HS := hide (sPart_any q cq L x1 x2 x3 wo (unhide HQ).1 hf (by omega) (by omega))
                rw [hLN] at HS
                have HRD := hide (fun (W : World) (hW : Below wo.heap.size wo W) => hRead_any p g c w.heap.size L x1 x2 x3 W ((unhide HH).below hW) (by omega) (by omega))
                have HHD := hide (fun (W : World) (hW : Below wo.heap.size wo W) => sHandle_any q cq L x1 W ((unhide HQ).1.below hW) hf.len0)
                rw [hLN] at HHD
                have HSZ := hide (fun (W : World) (hW : Below wo.heap.size wo W) => hSize_any p g c w.heap.size L x1 W ((unhide HH).below hW))
                have HTG := hide (fun (W : World) (hW : Below wo.heap.size wo W) => hTag_any p g c w.heap.size L x1 W ((unhide HH).below hW))
                have HEN : Hid (chkE L x1 = 0 → ∀ (W : World), Below wo.heap.size wo W → Calls Tryz.prog 26 #[.slice q N cq, .int .i64 x1] W fun e w' => e = .returned (.tuple #[entV (getE L x1), .bool true]) ∧ Below W.heap.size W w') := hide (fun h0 W hW => by
                  obtain ⟨q1, q2, q3⟩ := chkE_zero.1 h0
                  have q4 := hndB_iff.1 q2
                  have := rEntry_any q cq L x1 W ((unhide HQ).1.below hW) hf.len.1 q4.1 q4.2
                  rw [hLN, bne_iff_ne.2 q3] at this
                  have hge : getE L x1 = entOf L x1 := by unfold getE; rw [if_pos h0]
                  rw [hge]
                  exact this)
                have HGZ : Hid (chkE L x1 ≠ 0 → (getE L x1).2.2.1 = 0 ∧ (getE L x1).2.2.2 = 0) := hide (fun h => by unfold getE; rw [if_neg h]; exact ⟨rfl, rfl⟩)
                have HBYR := hide (rdL_byt (unhide HH).byt x1 x2 x3)
                have hrl : (rdL L x1 x2 x3).length ≤ 6400 := by
                  unfold rdL
                  split
                  · rw [List.length_take, List.length_drop]; omega
                  · simp
                have HWANT : Hid (pcE L x1 x2 x3 = 0 → ∃ (K n : Nat) (a9 : Option Addr), ptAt L x1 x2 x3 = (K : Int) ∧ x3 = (n : Int) ∧ K + n ≤ N ∧ (∀ w', (Instr.slice 22 (.slice q N cq) (some (.int .i64 (K : Int))) (some (.int .i64 ((K : Int) + n))) none).run Tryz.prog w' = .ok (.slice a9 n (cq - K)) w') ∧ ∀ W, Below wo.heap.size wo W → (convert 22 9 (.slice a9 n (cq - K))).run Tryz.prog W = .ok (.string (strOf (rdL L x1 x2 x3))) W) := hide (fun h0 => by
                  obtain ⟨h1, h2, h3, h4⟩ := pcE_zero.1 h0
                  obtain ⟨X, rfl⟩ := Int.eq_ofNat_of_zero_le h2
                  obtain ⟨n, rfl⟩ := Int.eq_ofNat_of_zero_le h3
                  obtain ⟨q1, q2, q3⟩ := chkE_zero.1 h1
                  have q4 := hndB_iff.1 q2
                  have hen := hf.ent q4.1 q4.2 q3
                  have ept : ptAt L x1 X n = (((entOf L x1).2.1.toNat + X : Nat) : Int) := by unfold ptAt; rw [if_pos h0]; omega
                  obtain ⟨p1, hs1, hb1⟩ := slice_lohi (P := Tryz.prog) (t := 22) Tryz.underlying22 size_u8 (unhide HQ).1 ((entOf L x1).2.1.toNat + X) ((entOf L x1).2.1.toNat + X + n) (by omega) (by omega)
                  rw [show (entOf L x1).2.1.toNat + X + n - ((entOf L x1).2.1.toNat + X) = n by omega] at hs1 hb1
                  rw [hLN] at hs1
                  have er : rdL L x1 X n = (L.drop ((entOf L x1).2.1.toNat + X)).take n := by unfold rdL; rw [if_pos h0, Int.toNat_natCast, Int.toNat_natCast]
                  have hl9 : ((L.drop ((entOf L x1).2.1.toNat + X)).take n).length = n := by rw [List.length_take, List.length_drop]; omega
                  refine ⟨(entOf L x1).2.1.toNat + X, n, p1, ept, rfl, by omega, fun w' => ?_, fun W hW => ?_⟩
                  · have := hs1 w'
                    rw [show (((entOf L x1).2.1.toNat + X + n : Nat) : Int) = (((entOf L x1).2.1.toNat + X : Nat) : Int) + n by omega] at this
                    exact this
                  · have := conv_str (P := Tryz.prog) (t := 22) (e := 9) Tryz.underlying22 Tryz.underlying5 Tryz.underlying9 (hb1.below hW)
                    rw [hl9] at this
                    rw [er]
                    exact this)
                have HWNO : Hid (pcE L x1 x2 x3 ≠ 0 → strOf (rdL L x1 x2 x3) = { data := #[] }) := hide (fun h => by unfold rdL; rw [if_neg h]; rfl)
                clear hf
                generalize ptAt L x1 x2 x3 = PT at *
                generalize pcE L x1 x2 x3 = PE at *
                generalize chkE L x1 = CE at *
                generalize getE L x1 = GE at *
                obtain ⟨y1, y2, y3, y4⟩ := GE
                unfold entV at HEN
                dsimp only at HSZ HTG HEN HGZ
                go_wp2_with fail
                refine (unhide HS).mono ?_
                rintro e w1 ⟨rfl, hb1⟩
                obtain ⟨e0, e1, e2, e3, e4, e5⟩ := ((unhide HOP).below hb1).cells
                dsimp only at e0 e1 e2 e3 e4 e5
                have HOB1 := hide hb1
                have HRD1 := hide (unhide HRD w1 hb1)
                clear hb1 HS HRD d0 d1 d2 d3 d4 d5 e0 e4 e5
                go_upto_if 98 with fail
                go_cut [34] from 98 to 98 (fun v wx => v = .string (strOf (rdL L x1 x2 x3)) ∧ wx = w1)
                case first =>
                  by_cases hP : PE = 0
                  · obtain ⟨K, n, a9, rfl, rfl, hKn, hsl, hcv⟩ := unhide HWANT hP
                    have hcv1 := hcv w1 (unhide HOB1)
                    subst hP
                    clear hcv
                    generalize hTT : strOf (rdL L x1 x2 n) = TT at *
                    have HTT := hide hTT
                    clear hTT
                    go_wp2
                    go_meet
                    case rel => first | exact ⟨rfl, rfl⟩ | exact ⟨by rw [unhide HTT], rfl⟩
                  · have hPb : (PE == 0) = false := beq_eq_false_iff_ne.2 hP
                    have hw := unhide HWNO hP
                    have HWE := hide hw
                    clear hP hw
                    go_wp2
                    go_meet
                    case rel => first | exact ⟨rfl, rfl⟩ | exact ⟨by rw [unhide HWE], rfl⟩
                case rest =>
                  obtain ⟨rfl, hwx⟩ := hcut
                  replace hwx := hwx.symm
                  subst hwx
                  clear HWANT HWNO
                  go_wp2_with fail
                  refine (unhide HRD1).mono ?_
                  rintro e w2 ⟨a2, c2, rfl, ho2, hb2⟩
                  have hW2 := (unhide HOB1).trans (hb2.mono (unhide HOB1).size)
                  have hB2 := (unhide HB1).trans (hW2.mono (unhide HB1).size)
                  obtain ⟨a2', c2', e2', hbs2⟩ := ho2.bs (unhide HBYR) (by omega)
                  simp only [Value.slice.injEq, true_and] at e2'
                  obtain ⟨rfl, rfl⟩ := e2'
                  have HER := hide (error_same PE w2 ((unhide HG).below hB2))
                  have HBS2 := hide hbs2
                  have HW2 := hide hW2
                  clear ho2 hbs2 hb2 hW2 hB2 HRD1 HOB1 e1 e2 e3
                  generalize rdL L x1 x2 x3 = RL at *
                  go_wp2_with fail
                  refine (unhide HER).mono ?_
                  rintro e w3 ⟨rfl, hb3⟩
                  have hW3 := (unhide HW2).trans (hb3.mono (unhide HW2).size)
                  have hcv3 := conv_str (P := Tryz.prog) (t := 22) (e := 9) Tryz.underlying22 Tryz.underlying5 Tryz.underlying9 ((unhide HBS2).below hb3)
                  obtain ⟨e0, e1, e2, e3, e4, e5⟩ := ((unhide HOP).below hW3).cells
                  dsimp only at e0 e1 e2 e3 e4 e5
                  have HHD3 := hide (unhide HHD w3 hW3)
                  have HW3 := hide hW3
                  clear hb3 hW3 HER HBS2 HW2 HHD e0 e2 e3 e4 e5
                  generalize strOf RL = TT at *
                  generalize RL.length = RN at *
                  go_wp2_with fail
                  refine (unhide HHD3).mono ?_
                  rintro e w4 ⟨rfl, hb4⟩
                  have hW4 := (unhide HW3).trans (hb4.mono (unhide HW3).size)
                  have f1 := (((unhide HOP).below hW4).cells).2.1
                  dsimp only at f1
                  have HW4 := hide hW4
                  clear hb4 hW4 HHD3 HW3 e1 hcv3
                  go_upto_if 133 with fail
                  go_cut [37, 38] from 133 to 133 (fun sv tv wx => sv = .int .i64 y3 ∧ tv = .int .i64 y4 ∧ Below wo.heap.size wo wx)
                  case first =>
                    by_cases hC : CE = 0
                    · have HE4 := hide (unhide HEN hC w4 (unhide HW4))
                      subst hC
                      go_wp2_with fail
                      refine (unhide HE4).mono ?_
                      rintro e w5 ⟨rfl, hb5⟩
                      have hW5 := (unhide HW4).trans (hb5.mono (unhide HW4).size)
                      have HW5 := hide (hW5.alloc hW5.size (.cells #[.int .i64 y1, .int .i64 y2, .int .i64 y3, .int .i64 y4] 66))
                      clear hb5 hW5 HE4
                      go_wp2
                      go_meet
                      case rel => exact ⟨rfl, rfl, unhide HW5⟩
                    · have hCb : (CE == 0) = false := beq_eq_false_iff_ne.2 hC
                      obtain ⟨hy3, hy4⟩ := unhide HGZ hC
                      subst hy3
                      subst hy4
                      clear hC
                      go_wp2
                      go_meet
                      case rel => exact ⟨rfl, rfl, unhide HW4⟩
                  case rest =>
                    obtain ⟨rfl, rfl, hW5⟩ := hcut
                    have f1 := (((unhide HOP).below hW5).cells).2.1
                    dsimp only at f1
                    have HS5 := hide (unhide HSZ wc hW5)
                    have HW5 := hide hW5
                    clear hW5 HW4 HEN HGZ HSZ
                    go_wp2_with fail
                    refine (unhide HS5).mono ?_
                    rintro e w6 ⟨rfl, hb6⟩
                    have hW6 := (unhide HW5).trans (hb6.mono (unhide HW5).size)
                    have hB6 := (unhide HB1).trans (hW6.mono (unhide HB1).size)
                    have HER6 := hide (error_same CE w6 ((unhide HG).below hB6))
                    have HW6 := hide hW6
                    clear hb6 hW6 hB6 HS5 HW5 f1
                    go_wp2_with fail
                    refine (unhide HER6).mono ?_
                    rintro e w7 ⟨rfl, hb7⟩
                    have hW7 := (unhide HW6).trans (hb7.mono (unhide HW6).size)
                    have f1 := (((unhide HOP).below hW7).cells).2.1
                    dsimp only at f1
                    have HT7 := hide (unhide HTG w7 hW7)
                    have HW7 := hide hW7
                    clear hb7 hW7 HER6 HW6 HTG
                    go_wp2_with fail
                    refine (unhide HT7).mono ?_
                    rintro e w8 ⟨rfl, hb8⟩
                    have hW8 := (unhide HW7).trans (hb8.mono (unhide HW7).size)
                    have hB8 := (unhide HB1).trans (hW8.mono (unhide HB1).size)
                    have HER8 := hide (error_same CE w8 ((unhide HG).below hB8))
                    have HW8 := hide hW8
                    clear hb8 hW8 hB8 HT7 HW7 f1
                    go_wp2_with fail
                    refine (unhide HER8).mono ?_
                    rintro e w9 ⟨rfl, hb9⟩
                    have hW9 := (unhide HW8).trans (hb9.mono (unhide HW8).size)
                    have HQ9 := hide ((unhide HQ).below hW9)
                    have HH9 := hide ((unhide HH).below hW9)
                    have HB9 := hide ((unhide HB1).trans (hW9.mono (unhide HB1).size))
                    have HLN := hide hLN
                    clear hb9 hW9 HER8 HW8 hLN
                    go_wp2
                    go_meet
                    case rel => exact ⟨0, g, c, L, L, q, cq, rfl, rfl, by rw [unhide HLN], unhide HLN, unhide HH9, unhide HQ9, fun _ => ⟨rfl, unhide HQ9⟩, fun h => absurd rfl h, unhide HB9⟩
            case rest =>
              as_aux_lemma =>
                obtain ⟨E, g', c', L', Ln, an, cn, rfl, rfl, rfl, hL', hh', hq', hE0, hE1, hB'⟩ := hcut
                have HH' := hide hh'
                have HQ' := hide hq'
                have HE0 := hide hE0
                have HE1 := hide hE1
                have HB' := hide hB'
                have HL' := hide hL'
                clear hh' hq' hE0 hE1 hB' hL' HH HQ HBODY HB1 HOP HBL
                go_upto_if 362 with fail
                go_cut [0, 12] from 362 to 362 (fun bv _ wx => ∃ (q2 : Option Addr) (c2 : Nat), bv = .slice q2 N c2 ∧ BsO wx (foot p g') q2 c2 L' ∧ wx = wc)
                case first =>
                  by_cases hE : E = 0
                  · obtain ⟨h1, h2⟩ := unhide HE0 hE
                    subst h1
                    have HX2 := hide h2
                    have hlen' := unhide HL'
                    rw [hlen']
                    subst hE
                    clear h2 HE0 HE1 hlen'
                    go_wp2
                    go_meet
                    case rel => exact ⟨an, cn, rfl, unhide HX2, rfl⟩
                  · have h1 := unhide HE1 hE
                    subst h1
                    have hEb : (E == 0) = false := beq_eq_false_iff_ne.2 hE
                    clear HE0 HE1 hE
                    generalize Ln.length = ll at *
                    go_wp2
                    go_meet
                    case rel => exact ⟨q, cq, rfl, unhide HQ', rfl⟩
                case rest =>
                  obtain ⟨q2, c2, rfl, hq2, hwx⟩ := hcut
                  replace hwx := hwx.symm
                  subst hwx
                  have hbd : Below wc.heap.size wc wc.drew := below_drew (Below.refl _ _)
                  have hcv := conv_str (P := Tryz.prog) (t := 22) (e := 9) Tryz.underlying22 Tryz.underlying5 Tryz.underlying9 (hq2.1.below hbd)
                  have hby := bytes_tx p g' c' w.heap.size L' q2 c2 wc.drew ((unhide HH').below hbd) (hq2.1.below hbd)
                  rw [unhide HL'] at hcv hby
                  have HY := hide hby
                  have HBD := hide hbd
                  have HX2 := hide hq2
                  clear hby hbd hq2 HQ' HE0 HE1
                  generalize strOf L' = SL at *
                  generalize Ln.length = ll at *
                  go_wp2_with fail
                  refine wp_region_held_drew (S := fun wq => (convert 22 9 (.slice q2 N c2)).run Tryz.prog wq = .ok (.string SL) wq) (by kernel_rfl) hcv (fun hHeld => ?_)
                  refine wpAnyH_take (i := 0) (oi := { dst := some 364, op := Op.move (Operand.tmp 9), type := 4, pos := "law.go:179", after := #[], guard := none }) (v := .bool true) rfl (by kernel_rfl) (by kernel_rfl) (by kernel_rfl) (fun _ _ _ h => h) (Or.inl ⟨by rfl, fun wq hSw => by (try dsimp only at hSw); go_simp⟩) (by assumption) ?_
                  try simp only [Act.put, List.setIfInBounds_toArray, List.set_cons_zero, List.set_cons_succ]
                  refine wpAnyH_take (i := 1) (oi := { dst := some 365, op := Op.unOp UnOp.not 4 (Operand.tmp 364), type := 4, pos := "law.go:179", after := #[{ on := 0, ground := Ground.data }], guard := none }) (v := .bool false) rfl (by kernel_rfl) (by kernel_rfl) (by kernel_rfl) (fun _ _ _ h => h) (Or.inl ⟨by rfl, fun wq hSw => by (try dsimp only at hSw); go_simp⟩) (by assumption) ?_
                  try simp only [Act.put, List.setIfInBounds_toArray, List.set_cons_zero, List.set_cons_succ]
                  refine wpAnyH_take (i := 2) (oi := { dst := some 366, op := Op.move (Operand.tmp 365), type := 4, pos := "law.go:179", after := #[{ on := 1, ground := Ground.data }], guard := none }) (v := .bool false) rfl (by kernel_rfl) (by kernel_rfl) (by kernel_rfl) (fun _ _ _ h => h) (Or.inl ⟨by rfl, fun wq hSw => by (try dsimp only at hSw); go_simp⟩) (by assumption) ?_
                  try simp only [Act.put, List.setIfInBounds_toArray, List.set_cons_zero, List.set_cons_succ]
                  refine wpAnyH_take (i := 3) (oi := { dst := some 367, op := Op.move (Operand.tmp 7), type := 26, pos := "law.go:179", after := #[{ on := 2, ground := Ground.guard }], guard := some (2, false) }) (v := .pointer (some ⟨p, 0, none⟩)) rfl (by kernel_rfl) (by kernel_rfl) (by kernel_rfl) (fun _ _ _ h => h) (Or.inl ⟨by rfl, fun wq hSw => by (try dsimp only at hSw); go_simp⟩) (by assumption) ?_
                  try simp only [Act.put, List.setIfInBounds_toArray, List.set_cons_zero, List.set_cons_succ]
                  refine wpAnyH_take (i := 6) (oi := { dst := some 370, op := Op.move (Operand.tmp 0), type := 22, pos := "law.go:179", after := #[{ on := 2, ground := Ground.guard }], guard := some (2, false) }) (v := .slice q2 N c2) rfl (by kernel_rfl) (by kernel_rfl) (by kernel_rfl) (fun _ _ _ h => h) (Or.inl ⟨by rfl, fun wq hSw => by (try dsimp only at hSw); go_simp⟩) (by assumption) ?_
                  try simp only [Act.put, List.setIfInBounds_toArray, List.set_cons_zero, List.set_cons_succ]
                  refine wpAnyH_take (i := 7) (oi := { dst := some 371, op := Op.convert 22 9 (Operand.tmp 370), type := 9, pos := "law.go:179", after := #[{ on := 6, ground := Ground.data }, { on := 2, ground := Ground.guard }], guard := some (2, false) }) (v := .string SL) rfl (by kernel_rfl) (by kernel_rfl) (by kernel_rfl) (fun _ _ _ h => h) (Or.inl ⟨by rfl, fun wq hSw => by (try dsimp only at hSw); go_simp⟩) (by assumption) ?_
                  try simp only [Act.put, List.setIfInBounds_toArray, List.set_cons_zero, List.set_cons_succ]
                  refine wpAnyH_ready (rs := [4]) (by kernel_rfl) (by simp) ?_
                  refine AllReadyH.cons (o := { dst := some 368, op := Op.call { callee := Callee.value (Operand.func 29), args := #[Operand.tmp 367], argTypes := #[26] }, type := 22, pos := "law.go:179", after := #[{ on := 3, ground := Ground.data }, { on := 2, ground := Ground.chain }, { on := 2, ground := Ground.guard }], guard := some (2, false) }) rfl (fun K hK => ?_) AllReadyH.nil
                  go_simp
                  refine (unhide HY).mono ?_
                  rintro e w8 ⟨a8, c8, rfl, k1, k2, hb8⟩
                  refine hK.out _ _ k2 (fun _ => wpAnyH_turn (S2 := fun wq => (convert 22 9 (.slice q2 N c2)).run Tryz.prog wq = .ok (.string SL) wq ∧ (convert 22 9 (.slice a8 N c8)).run Tryz.prog wq = .ok (.string SL) wq) (fun _ h => h.1) _ _ _ _ ?_)
                  have hHeld2 := And.intro k2 k1
                  clear hK K hHeld
                  try simp only [Act.put, List.setIfInBounds_toArray, List.set_cons_zero, List.set_cons_succ]
                  refine wpAnyH_take (i := 5) (oi := { dst := some 369, op := Op.convert 22 9 (Operand.tmp 368), type := 9, pos := "law.go:179", after := #[{ on := 4, ground := Ground.data }, { on := 2, ground := Ground.guard }], guard := some (2, false) }) (v := .string SL) rfl (by kernel_rfl) (by kernel_rfl) (by kernel_rfl) (fun _ _ _ h => h) (Or.inl ⟨by rfl, fun wq hSw => by (try dsimp only at hSw); go_simp⟩) (by assumption) ?_
                  try simp only [Act.put, List.setIfInBounds_toArray, List.set_cons_zero, List.set_cons_succ]
                  refine wpAnyH_take (i := 8) (oi := { dst := some 372, op := Op.binOp BinOp.neq 9 (Operand.tmp 369) (Operand.tmp 371) 9, type := 4, pos := "law.go:179", after := #[{ on := 5, ground := Ground.data }, { on := 7, ground := Ground.data }, { on := 2, ground := Ground.guard }], guard := some (2, false) }) (v := .bool false) rfl (by kernel_rfl) (by kernel_rfl) (by kernel_rfl) (fun _ _ _ h => h) (Or.inl ⟨by rfl, fun wq hSw => by (try dsimp only at hSw); go_simp⟩) (by assumption) ?_
                  try simp only [Act.put, List.setIfInBounds_toArray, List.set_cons_zero, List.set_cons_succ]
                  refine wpAnyH_take (i := 9) (oi := { dst := some 373, op := Op.pick (Operand.tmp 366) (Operand.const (Value.bool true)) (Operand.tmp 372), type := 4, pos := "law.go:179", after := #[{ on := 2, ground := Ground.data }, { on := 8, ground := Ground.data }], guard := none }) (v := .bool false) rfl (by kernel_rfl) (by kernel_rfl) (by kernel_rfl) (fun _ _ _ h => h) (Or.inl ⟨by rfl, fun wq hSw => by (try dsimp only at hSw); go_simp⟩) (by assumption) ?_
                  try simp only [Act.put, List.setIfInBounds_toArray, List.set_cons_zero, List.set_cons_succ]
                  refine wpAnyH_done (by kernel_rfl) ?_ _
                  have hb8' : Below wc.heap.size wc w8 := (unhide HBD).trans hb8
                  have HH8 := hide ((unhide HH').below hb8')
                  have HX8 := hide ((unhide HX2).below hb8')
                  have HB8 := hide ((unhide HB').trans (hb8'.mono (unhide HB').size))
                  clear hb8 hb8' k1 k2 hcv HH' HB' HY HBD HX2
                  go_wp2
                  go_roundw
                  case rel => exact ⟨k + 1, g', c', L', q2, c2, by omega, by omega, by go_num, rfl, unhide HL', unhide HH8, unhide HX8, unhide HB8⟩
                  case measure => simp [intOf]; omega
        · have HBEL := hide hbel
          have hcase : ¬ (k : Int) < (ops.length : Int) ∨ ((k : Int) < (ops.length : Int) ∧ ¬ (k : Int) < 40) := by omega
          clear hbel hh hq hlt
          rcases hcase with g1 | ⟨g1, g2⟩
          all_goals
            go_wp2
            go_ret
            exact ⟨rfl, unhide HBEL⟩
end Go.Proofs.YtopblhmbjdfebaaGreatDoor
