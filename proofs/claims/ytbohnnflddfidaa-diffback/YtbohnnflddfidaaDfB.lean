/-
  The contract of diff.Diff. (Part of the proofs over package diff.)
-/
import Derived.Test.YtbohnnflddfidaaDfA
import Derived.Deep.RegionHeld3
import Derived.Deep.RegionLaw
namespace Go.Proofs.Ytbohnnflddfidaa
open Go.RowKit
set_option linter.unusedVariables false

def dfE (l m : List Int) : Int := if l.length ≠ m.length then 3 else if 6400 < l.length then 4 else 0
def dfO (l m : List Int) : List (Int × List Int × List Int) := if dfE l m = 0 then dfK l m l.length else []

theorem OwnV.low {w : World} {B B' : Nat} {v : Value} {L : List Int} (h : OwnV w B' v L) (hB : B ≤ B') : OwnV w B v L := by
  refine ⟨h.1, ?_⟩
  rcases h.2 with h0 | ⟨g, cap, cur, rfl, hb, h3⟩
  · exact .inl h0
  · exact .inr ⟨g, cap, cur, rfl, Nat.le_trans hB hb, h3⟩

theorem rdo_mk {w : World} {B n k : Nat} {z : Int} {sA sB : Option Addr} {cA cB : Nat} {X Y : List Int} (hX : X.length = n) (hY : Y.length = k) (hn : n ≤ 140737488351232 ∧ k ≤ 140737488351232) (h1 : Byt X) (h2 : Byt Y) (hA : OwnV w B (.slice sA n cA) X) (hB : OwnV w B (.slice sB k cB) Y) : RdO w B (z, (sA, cA, X), (sB, cB, Y)) := by
  subst hX hY
  exact ⟨⟨h1, hn.1, hA⟩, h2, hn.2, hB⟩

set_option maxRecDepth 100000 in
set_option maxHeartbeats 1000000 in
theorem diff_yes (a a' : Option Addr) (cap cap' : Nat) (l m : List Int) (w : World) (hb : Bs w a cap l) (hb' : Bs w a' cap' m) (hlm : l.length = m.length) (h64 : l.length ≤ 6400) :
    Calls Try.prog 6 #[.slice a l.length cap, .slice a' l.length cap'] w fun e w' => ∃ v, e = .returned (.tuple #[v, errV 0]) ∧ ChO w' w.heap.size v (dfK l m l.length) ∧ Below w.heap.size w w' := by
  have HS := hide (same_any a a' cap cap' l m w hb hb')
  rw [← hlm, Nat.min_self] at HS
  have HB := hide hb
  have HB' := hide hb'
  have HLM := hide hlm
  clear hb hb' hlm
  obtain ⟨N, hN⟩ : ∃ N, l.length = N := ⟨_, rfl⟩
  rw [hN] at h64 HS ⊢
  have HN := hide hN
  clear hN
  go_enter Try.func6, Try.ntmps6
  go_wp2_with fail
  refine (unhide HS).mono ?_
  rintro e w1 ⟨p0, rfl, hf, hb1⟩
  have HF := hide hf
  have HB1 := hide hb1
  have hp0 := hf.1
  clear hf hb1 HS
  go_wp2_with fail
  go_loopw [6, 7] (fun v at' wr => ∃ p : Nat, p ≤ N ∧ at' = .int .i64 p ∧ ChO wr w.heap.size v (dfK l m p) ∧ Below w.heap.size w wr ∧ (p < N → l.getD p 0 ≠ m.getD p 0 ∧ (p = 0 ∨ l.getD (p - 1) 0 = m.getD (p - 1) 0))) (fun _ at' _ => N - (intOf at').toNat)
  case atStart =>
    have hsm : dfK l m p0 = [] := by
      rw [dfK_same (i := 0) (Nat.zero_le _) (fun j _ hj => by simpa using (unhide HF).2.1 j hj)]
      rfl
    refine ⟨p0, (unhide HF).1, rfl, by rw [hsm]; exact ChO.nil _ _, unhide HB1, fun h => ⟨by simpa using (unhide HF).2.2 h, ?_⟩⟩
    by_cases h0 : p0 = 0
    · exact .inl h0
    · exact .inr (by simpa using (unhide HF).2.1 (p0 - 1) (by omega))
  case round =>
    obtain ⟨p, hp, rfl, hch, hbel, hpp⟩ := hrel
    by_cases hlt : p < N
    · obtain ⟨hdp, hpz⟩ := hpp hlt
      have hNl := unhide HN
      have hNm := (unhide HLM).symm.trans hNl
      have hXl : (l.drop p).length = N - p := by rw [List.length_drop, hNl]
      have hYl : (m.drop p).length = N - p := by rw [List.length_drop, hNm]
      have HD : Hid (∃ a1 a2, (∀ w', (Instr.slice 22 (.slice a N cap) (some (.int .i64 p)) none none).run Try.prog w' = .ok (.slice a1 (N - p) (cap - p)) w') ∧ (∀ w', (Instr.slice 22 (.slice a' N cap') (some (.int .i64 p)) none none).run Try.prog w' = .ok (.slice a2 (N - p) (cap' - p)) w') ∧
          Calls Try.prog 14 #[.slice a1 (N - p) (cap - p), .slice a2 (N - p) (cap' - p)] wr.drew fun e w' => ∃ d : Nat, e = .returned (.int .i64 d) ∧ 1 ≤ d ∧ p + d ≤ N ∧ (∀ j, p ≤ j → j < p + d → l.getD j 0 ≠ m.getD j 0) ∧ (p + d < N → l.getD (p + d) 0 = m.getD (p + d) 0) ∧ Below wr.heap.size wr w') := hide (by
        have hbw := (unhide HB).below hbel
        have hbw' := (unhide HB').below hbel
        obtain ⟨a1, hs1, hx1⟩ := slice_lo Try.underlying22 size_u8 hbw p (by omega)
        obtain ⟨a2, hs2, hx2⟩ := slice_lo Try.underlying22 size_u8 hbw' p (by omega)
        have hc := differ_any a1 a2 _ _ (l.drop p) (m.drop p) wr.drew hx1 hx2 (by rw [hXl, hYl])
        rw [hNl] at hs1
        rw [hNm] at hs2
        rw [hXl, hYl] at hc
        refine ⟨a1, a2, hs1, hs2, hc.mono ?_⟩
        rintro e w' ⟨d, rfl, hf, n, rfl⟩
        have hgd : ∀ (z : List Int) j, (z.drop p).getD j 0 = z.getD (p + j) 0 := fun z j => by simp [List.getD]
        simp only [hgd] at hf
        have h1 : 1 ≤ d := by
          rcases Nat.eq_zero_or_pos d with h0 | h0
          · subst h0
            have := hf.2.2 (by omega)
            simp only [Nat.add_zero, beq_iff_eq] at this
            exact absurd this hdp
          · exact h0
        refine ⟨d, rfl, h1, by have := hf.1; omega, fun j h2 h3 => ?_, fun h2 => ?_, below_drewN ((Below.refl _ wr).drew) n⟩
        · have := hf.2.1 (j - p) (by omega)
          dsimp only at this
          rw [show p + (j - p) = j by omega] at this
          simpa using this
        · have := hf.2.2 (by omega)
          simpa using this)
      obtain ⟨a1, a2, hs1, hs2, hcd⟩ := unhide HD
      have HCD := hide hcd
      have HCH := hide hch
      have HBEL := hide hbel
      have hp0 : (0 : Int) ≤ (p : Int) := by omega
      have hp1 : (p : Int) ≤ (N : Int) := by omega
      clear HD hcd hch hbel hpp hdp
      go_wp2_with fail
      go_region_with (go_at_call 14; refine (unhide HCD).mono ?_; rintro e w2 ⟨d, rfl, hd1, hd2, hd3, hd4, hb2⟩)
      have hwp : IntKind.i64.wrap ((p : Int) + (d : Int)) = ((p + d : Nat) : Int) := by rw [IntKind.wrap_i64]; omega
      rw [hwp]
      have hBB := (unhide HBEL).trans (hb2.mono (unhide HBEL).size)
      have hch2 := (unhide HCH).below hb2
      have hXd : ((l.drop p).take d).length = d := by rw [List.length_take, hXl]; omega
      have hYd : ((m.drop p).take d).length = d := by rw [List.length_take, hYl]; omega
      obtain ⟨a3, hs3, hx3⟩ := slice_lohi Try.underlying22 size_u8 ((unhide HB).below hBB) p (p + d) (by omega) (by omega)
      obtain ⟨a4, hs4, hx4⟩ := slice_lohi Try.underlying22 size_u8 ((unhide HB').below hBB) p (p + d) (by omega) (by omega)
      rw [Nat.add_sub_cancel_left, hNl] at hs3
      rw [Nat.add_sub_cancel_left, hNm] at hs4
      rw [Nat.add_sub_cancel_left] at hx3 hx4
      have HRUN := hide (dfK_run (unhide HLM) hpz d hd1 (by omega) hd3)
      generalize hX : (l.drop p).take d = X at *
      generalize hY : (m.drop p).take d = Y at *
      have hch0 : chOf l m p d = ((p : Int), X, Y) := by unfold chOf; rw [hX, hY]
      rw [hch0] at HRUN
      have HC1 := hide (fun w' (hb : Below w2.heap.size w2 w') => (bclone_any a3 (cap - p) X w' (hx3.below hb)).mono (R' := fun e w'' => ∃ a' c', e = .returned (.slice a' d c') ∧ OwnV w'' w.heap.size (.slice a' d c') X ∧ Below w2.heap.size w2 w'' ∧ Below w'.heap.size w' w'') (fun e w'' ⟨a', c', he, ho, hb3⟩ => ⟨a', c', by rw [he, hXd], by rw [← hXd]; exact ho.low (Nat.le_trans hBB.size hb.size), hb.trans (hb3.mono hb.size), hb3⟩))
      have HC2 := hide (fun w' (hb : Below w2.heap.size w2 w') => (bclone_any a4 (cap' - p) Y w' (hx4.below hb)).mono (R' := fun e w'' => ∃ a' c', e = .returned (.slice a' d c') ∧ OwnV w'' w.heap.size (.slice a' d c') Y ∧ Below w2.heap.size w2 w'' ∧ Below w'.heap.size w' w'') (fun e w'' ⟨a', c', he, ho, hb3⟩ => ⟨a', c', by rw [he, hYd], by rw [← hYd]; exact ho.low (Nat.le_trans hBB.size hb.size), hb.trans (hb3.mono hb.size), hb3⟩))
      rw [hXd] at HC1
      rw [hYd] at HC2
      generalize hE : p + d = e at *
      obtain ⟨va, vc, rfl, _⟩ := hch2.chs (by have := df_few (unhide HLM) p (by omega); omega)
      have hln : (dfK l m p).length ≤ 100000 := by have := df_few (unhide HLM) p (by omega); omega
      have HCH2 := hide hch2
      have HBB := hide hBB
      have hB2 := hBB.size
      generalize hLL : dfK l m p = LL at *
      have hrw : ∀ s1 c1 s2 c2, rwC ((p : Int), (s1, c1, X), (s2, c2, Y)) = [.int .i64 p, .slice s1 d c1, .slice s2 d c2] := fun s1 c1 s2 c2 => by unfold rwC slV; rw [hXd, hYd]
      have HRW := hide hrw
      have HBY1 := hide hx3.1
      have HBY2 := hide hx4.1
      have he1 : (p : Int) ≤ (e : Int) := by omega
      have he2 : (e : Int) ≤ (N : Int) := by omega
      clear hx3 hx4 hch2 hBB HCH HCD hs1 hs2 hrw hwp hX hY hch0
      go_wp2_with fail
      go_region_law (first
        | (refine step_append_chg (by rfl) (.tmp 35) (.tmp 48) (by rfl) w.heap.size _ LL (by rfl) ((unhide HCH2).below (hbT.alloc hbT.size _)) wT.heap.size ((p : Int), (sA, cA, X), (sB, cB, Y)) (by rfl) (by rw [unhide HRW]; exact heap_alloc_new _ _) (hrd _) (by omega) (by have := hbT.size; simp; omega) ?_; intro g9 c9 w9 hch9 hb9 hk9)
        | (go_simp; with_reducible refine (unhide HC1 _ ?_).mono ?_; (exact (Below.refl _ w2).drew); rintro e3 w3 ⟨sA, cA, rfl, hoA, hbA, hbA3⟩; dsimp only)
        | (go_simp; with_reducible refine (unhide HC2 _ ?_).mono ?_; (exact hbA); rintro e4 wT ⟨sB, cB, rfl, hoB, hbT, hbB3⟩; dsimp only; have hrd : ∀ o, RdO (wT.alloc o) w.heap.size ((p : Int), (sA, cA, X), (sB, cB, Y)) := (fun o => (rdo_mk hXd hYd ⟨by omega, by omega⟩ (unhide HBY1) (unhide HBY2) (hoA.below hbB3) hoB).below ((Below.refl _ wT).alloc (Nat.le_refl _) o))))
      all_goals
        have hL9 : LL ++ [((p : Int), X, Y)] = dfK l m e := (unhide HRUN).symm
        have hch9' : ChO w9 w.heap.size (.slice (some ⟨g9, 0, none⟩) (LL.length + 1) c9) (dfK l m e) := by rw [← hL9]; exact hch9
        have hb9' := (unhide HBB).trans ((hbT.mono hB2).trans (((Below.refl _ wT).alloc (Nat.le_refl _) _).mono (Nat.le_trans hB2 hbT.size) |>.trans hb9))
        have HS : Hid (∃ a5 a6, (∀ w', (Instr.slice 22 (.slice a N cap) (some (.int .i64 e)) none none).run Try.prog w' = .ok (.slice a5 (N - e) (cap - e)) w') ∧ (∀ w', (Instr.slice 22 (.slice a' N cap') (some (.int .i64 e)) none none).run Try.prog w' = .ok (.slice a6 (N - e) (cap' - e)) w') ∧
            Calls Try.prog 13 #[.slice a5 (N - e) (cap - e), .slice a6 (N - e) (cap' - e)] w9.drew fun r w' => ∃ i : Nat, r = .returned (.int .i64 i) ∧ First (fun j => (l.getD (e + j) 0 != m.getD (e + j) 0)) (N - e) i ∧ Below w9.heap.size w9 w') := hide (by
          obtain ⟨a5, hs5, hx5⟩ := slice_lo Try.underlying22 size_u8 ((unhide HB).below hb9') e (by omega)
          obtain ⟨a6, hs6, hx6⟩ := slice_lo Try.underlying22 size_u8 ((unhide HB').below hb9') e (by omega)
          have hc := same_any a5 a6 _ _ (l.drop e) (m.drop e) w9.drew hx5 hx6
          rw [hNl] at hs5
          rw [hNm] at hs6
          rw [List.length_drop, List.length_drop, hNl, hNm, Nat.min_self] at hc
          have hgd : ∀ (z : List Int) j, (z.drop e).getD j 0 = z.getD (e + j) 0 := fun z j => by simp [List.getD]
          simp only [hgd] at hc
          exact ⟨a5, a6, hs5, hs6, hc.mono fun r w' ⟨i, h1, h2, h3⟩ => ⟨i, h1, h2, (Below.refl _ w9).drew.trans h3⟩⟩)
        obtain ⟨a5, a6, hs5, hs6, hcs⟩ := unhide HS
        have HCS := hide hcs
        have HCH9 := hide hch9'
        have HB9 := hide hb9'
        clear hcs hch9' hb9' hch9 hb9 hk9 hrd hoA hoB hbA hbA3 hbT hbB3 HC1 HC2 HCH2 HBB hL9 HRUN HS hs3 hs4
        have he0 : (0 : Int) ≤ (e : Int) := by omega
        go_wp2_with fail
        go_region_with (go_at_call 13; refine (unhide HCS).mono ?_; rintro r w10 ⟨q, rfl, hq, hb10⟩)
        have hwq : IntKind.i64.wrap ((e : Int) + (q : Int)) = ((e + q : Nat) : Int) := by rw [IntKind.wrap_i64]; have := hq.1; omega
        rw [hwq]
        have HQ := hide hq
        have HB10 := hide hb10
        have hq1 := hq.1
        clear hwq hq hb10
        obtain ⟨e2, he2q⟩ : ∃ e2, e + q = e2 := ⟨_, rfl⟩
        rw [he2q]
        have HEQ := hide he2q
        have hle2 : e2 ≤ N := by omega
        have hlt2 : p < e2 := by omega
        clear he2q
        go_simp
        go_wp2
        go_roundw
        case rel =>
          have he2q := unhide HEQ
          subst he2q
          refine ⟨e + q, by omega, rfl, ?_, (unhide HB9).trans ((unhide HB10).mono (unhide HB9).size), fun h => ⟨?_, .inr ?_⟩⟩
          · rw [dfK_same (i := e) (by omega) (fun j h1 h2 => by
              have := (unhide HQ).2.1 (j - e) (by omega)
              dsimp only at this
              rw [show e + (j - e) = j by omega] at this
              simpa using this)]
            exact (unhide HCH9).below (unhide HB10)
          · simpa using (unhide HQ).2.2 (by omega)
          · have h0 : q ≠ 0 := by
              intro h0
              subst h0
              have h1 := (unhide HQ).2.2 (by omega)
              have h2 := hd4 (by omega)
              simp only [Nat.add_zero] at h1
              rw [h2] at h1
              simp at h1
            have := (unhide HQ).2.1 (q - 1) (by omega)
            dsimp only at this
            rw [show e + (q - 1) = e + q - 1 by omega] at this
            simpa using this
        case measure => simp [intOf]; omega
    · obtain rfl : p = N := by omega
      obtain ⟨va, vc, rfl, _⟩ := hch.chs (by have := df_few (unhide HLM) l.length (Nat.le_refl _); rw [unhide HN] at this; omega)
      have HC := hide hch
      have HBL := hide hbel
      clear hch hbel hpp
      go_wp2
      go_ret2
      exact ⟨_, rfl, unhide HC, unhide HBL⟩
theorem diff_shape (a a' : Option Addr) (cap cap' : Nat) (l m : List Int) (w : World) (hb : Bs w a cap l) (hb' : Bs w a' cap' m) (hlm : l.length ≠ m.length) :
    Calls Try.prog 6 #[.slice a l.length cap, .slice a' m.length cap'] w fun e w' => e = .returned (.tuple #[.slice none 0 0, errV 3]) ∧ w = w' := by
  have h1 := hb.2.2.1
  have h2 := hb'.2.2.1
  clear hb hb'
  generalize l.length = n at *
  generalize m.length = k at *
  have h3 : ¬ ((n : Int) = (k : Int)) := by omega
  go_enter Try.func6, Try.ntmps6
  go_wp2
  go_ret2
  exact ⟨rfl, rfl⟩
theorem diff_full (a a' : Option Addr) (cap cap' n : Nat) (w : World) (h1 : n ≤ 140737488351232) (h : 6400 < n) :
    Calls Try.prog 6 #[.slice a n cap, .slice a' n cap'] w fun e w' => e = .returned (.tuple #[.slice none 0 0, errV 4]) ∧ w = w' := by
  go_enter Try.func6, Try.ntmps6
  go_wp2
  go_ret2
  exact ⟨rfl, rfl⟩
/-- What Diff says of any two lists. -/
theorem diff_any (a a' : Option Addr) (cap cap' : Nat) (l m : List Int) (w : World) (hb : Bs w a cap l) (hb' : Bs w a' cap' m) :
    Calls Try.prog 6 #[.slice a l.length cap, .slice a' m.length cap'] w fun e w' => ∃ v, e = .returned (.tuple #[v, errV (dfE l m)]) ∧ ChO w' w.heap.size v (dfO l m) ∧ Below w.heap.size w w' := by
  unfold dfO
  by_cases h1 : l.length = m.length
  · by_cases h2 : 6400 < l.length
    · have he : dfE l m = 4 := by unfold dfE; rw [if_neg (fun h => h h1), if_pos h2]
      rw [he, if_neg (by decide), ← h1]
      refine (diff_full a a' cap cap' l.length w hb.2.2.1 h2).mono ?_
      rintro e w' ⟨rfl, rfl⟩
      exact ⟨_, rfl, ChO.nil _ _, Below.refl _ _⟩
    · have he : dfE l m = 0 := by unfold dfE; rw [if_neg (fun h => h h1), if_neg h2]
      rw [he, if_pos rfl, ← h1]
      exact diff_yes a a' cap cap' l m w hb hb' h1 (by omega)
  · have he : dfE l m = 3 := by unfold dfE; rw [if_pos h1]
    rw [he, if_neg (by decide)]
    refine (diff_shape a a' cap cap' l m w hb hb' h1).mono ?_
    rintro e w' ⟨rfl, rfl⟩
    exact ⟨_, rfl, ChO.nil _ _, Below.refl _ _⟩
end Go.Proofs.Ytbohnnflddfidaa
