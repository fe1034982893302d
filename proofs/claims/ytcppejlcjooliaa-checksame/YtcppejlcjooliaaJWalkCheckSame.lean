/-
  The walk of CheckSame. (Part of the proof of CheckSame.)
-/
import Derived.Test.YtcppejlcjooliaaJHp
import Derived.Test.YtcppejlcjooliaaJCh
namespace Go.Proofs.Ytcppejlcjooliaa
open Go.RowKit
set_option linter.unusedVariables false

/-- Has one of the first entries a byte? -/
def hadL (l : List (Int × Int × Int × Int)) (x : Int) : Bool := l.any (fun e => decide (e.2.1 ≤ x) && decide (x < e.2.1 + e.2.2.1))
theorem hadL_take {l : List (Int × Int × Int × Int)} {k : Nat} {e : (Int × Int × Int × Int)} {x : Int} (h : l[k]? = some e) : hadL (l.take (k + 1)) x = (hadL (l.take k) x || (decide (e.2.1 ≤ x) && decide (x < e.2.1 + e.2.2.1))) := by
  unfold hadL
  rw [List.take_add_one, h, List.any_append]
  simp
theorem Lst.in_small {L : List Int} (hf : Fine L) : ∀ e ∈ entsK L 40, 0 ≤ e.2.1 ∧ e.2.1 ≤ 6400 ∧ 0 ≤ e.2.2.1 ∧ e.2.2.1 ≤ 6400 := fun e he => by
  obtain ⟨j, h1, h2, rfl⟩ := mem_entsP.1 he
  have := hf.ent (h := (j : Int) + 1) (by omega) (by omega) h2
  have := hf.len
  omega

set_option maxRecDepth 100000 in
set_option maxHeartbeats 4000000 in
theorem walkCheckSame (a : Option Addr) (cap : Nat) (L : List Int) (x : Int) (v : Int) (w : World) (hbs : Bs w a cap L) (hv : 0 ≤ v ∧ v ≤ 255) :
    Calls Try.prog 3 #[.slice a L.length cap, .int .i64 x, .int .u8 v] w fun e w' => e = .returned (.bool true) ∧ Below w.heap.size w w' := by
  obtain ⟨i0, hi, hz0, hz1, hz2⟩ := info_parts info_u8
  have HN := hide (hNew_yes 300 w (by decide))
  have hzf := (zeros_fine (n := 300) (by decide) (by decide)).1
  have hzl : (zerosB 300).length = 300 := length_zerosB 300
  have HBY := hide (byt_zerosB 300)
  have HY := hide (fun (p g c : Nat) (W : World) (hh : Hp W w.heap.size p g c (zerosB 300)) => hBytes_any p g c w.heap.size (zerosB 300) W hh)
  have HSZ := hide (fun (a1 a2 : Option Addr) (c1 c2 : Nat) (W : World) (h1 : Bs W a1 c1 (zerosB 300)) (h2 : Bs W a2 c2 (zerosB 300)) => same_any a1 a2 c1 c2 (zerosB 300) (zerosB 300) W h1 h2)
  rw [same_self hzf, sameE_fine hzf hzf, errV_zero, hzl] at HSZ
  rw [hzl] at HY
  have hbl := hbs.2.2.1
  have HM := hide (fun (W : World) (hW : Below w.heap.size w W) => mend_any a cap L W (hbs.below hW))
  clear hzf hbs
  generalize zerosB 300 = Z at *
  go_enter Try.func3, Try.ntmps3
  go_wp2_with fail
  refine (unhide HN).mono ?_
  rintro e w1 ⟨p, g, c, rfl, hh, hb⟩
  have HY1 := hide (unhide HY p g c w1 hh)
  have HB1 := hide hb
  have HH1 := hide hh
  clear hh hb HN
  go_wp2_with fail
  refine (unhide HY1).mono ?_
  rintro e w2 ⟨a2, c2, rfl, ho2, hb2⟩
  have HY2 := hide (unhide HY p g c w2 ((unhide HH1).below hb2))
  have HO2 := hide ho2
  have HB2 := hide ((unhide HB1).trans (hb2.mono (unhide HB1).size))
  clear ho2 hb2 HY1 HB1 HY HH1
  go_wp2_with fail
  refine (unhide HY2).mono ?_
  rintro e w3 ⟨a3, c3, rfl, ho3, hb3⟩
  have hO2 := (unhide HO2).below hb3
  rw [← hzl] at hO2 ho3
  obtain ⟨a2', c2', e2, hbs2⟩ := hO2.bs (unhide HBY) (by omega)
  obtain ⟨a3', c3', e3, hbs3⟩ := ho3.bs (unhide HBY) (by omega)
  simp only [Value.slice.injEq, true_and] at e2 e3
  obtain ⟨rfl, rfl⟩ := e2
  obtain ⟨rfl, rfl⟩ := e3
  have HSZ3 := hide (unhide HSZ a2 a3 c2 c3 w3 hbs2 hbs3)
  have HB3 := hide ((unhide HB2).trans (hb3.mono (unhide HB2).size))
  clear hO2 ho3 hb3 hbs2 hbs3 HY2 HB2 HO2 HSZ HBY hzl
  go_wp2_with fail
  refine (unhide HSZ3).mono ?_
  rintro e w4 ⟨rfl, hb4⟩
  have hB4 := (unhide HB3).trans (hb4.mono (unhide HB3).size)
  have HM4 := hide (unhide HM w4 hB4)
  have HB4 := hide hB4
  clear hb4 hB4 HSZ3 HB3 HM
  cases hq : lenB L.length with
  | false =>
    have hlen : (L.length : Int) < 288 ∨ 6400 < (L.length : Int) := Classical.byContradiction fun hc => by
      rw [lenB_iff.2 (by omega)] at hq
      cases hq
    have e1 : lenE L.length = 3 := by unfold lenE; rw [hq]; rfl
    rw [e1, errV_pos 3 (by decide)] at HM4
    generalize mendO L = M at *
    generalize L.length = N at *
    clear hq e1
    rcases hlen with hlen | hlen
    all_goals
      go_wp2_with fail
      refine (unhide HM4).mono ?_
      rintro e w5 ⟨am, cm, rfl, hbm, hb5⟩
      have HB5 := hide ((unhide HB4).trans (hb5.mono (unhide HB4).size))
      clear hbm hb5 HM4 HB4
      go_wp2
      go_ret
      exact ⟨rfl, unhide HB5⟩
  | true =>
    have hlen := lenB_iff.1 hq
    have e1 : lenE L.length = 0 := by unfold lenE; rw [hq]; rfl
    have e2 : mendO L = mendL L := by unfold mendO; rw [if_pos hq]
    rw [e1, errV_zero, e2] at HM4
    have hfm : Fine (mendL L) := mend_fine (by omega) (by omega)
    have hml : (mendL L).length = L.length := mendL_len (by omega)
    clear e1 e2 hq
    generalize mendL L = M at *
    have HSM := hide (fun (am : Option Addr) (cm : Nat) (W : World) (h : Bs W am cm M) => same_any am am cm cm M M W h h)
    rw [same_self hfm, sameE_fine hfm hfm, errV_zero] at HSM
    have HFM := hide hfm
    have hlm : 288 ≤ M.length ∧ M.length ≤ 6400 := by omega
    clear hfm hml
    generalize hNM : M.length = NM at *
    have HNM := hide hNM
    clear hNM
    go_wp2_with fail
    refine (unhide HM4).mono ?_
    rintro e w5 ⟨am, cm, he5, hbm, hb5⟩
    rw [unhide HNM] at he5
    subst he5
    have HSM5 := hide (unhide HSM am cm w5 hbm)
    have HBM := hide hbm
    have HB5 := hide ((unhide HB4).trans (hb5.mono (unhide HB4).size))
    clear hbm hb5 HM4 HB4 HSM
    go_wp2_with fail
    refine (unhide HSM5).mono ?_
    rintro e w6 ⟨rfl, hb6⟩
    have hB6 := (unhide HB5).trans (hb6.mono (unhide HB5).size)
    have hbm6 := (unhide HBM).below hb6
    have HB6 := hide hB6
    have HBM6 := hide hbm6
    clear hb6 hB6 HSM5 HB5 HBM
    by_cases hx1 : x < 288
    · clear hbm6
      go_wp2
      go_ret
      exact ⟨rfl, unhide HB6⟩
    by_cases hx2 : (NM : Int) ≤ x
    · clear hbm6
      go_wp2
      go_ret
      exact ⟨rfl, unhide HB6⟩
    obtain ⟨X, rfl⟩ := Int.eq_ofNat_of_zero_le (show 0 ≤ x by omega)
    have hX : X < NM := by omega
    obtain ⟨bm, om, rfl, hcell⟩ := hbm6.at X (by rw [unhide HNM]; exact hX)
    clear hbm6
    by_cases hmv : M.getD X 0 = v
    · rw [hmv] at hcell
      go_wp2
      go_ret
      exact ⟨rfl, unhide HB6⟩
    have hmvb : (M.getD X 0 == v) = false := beq_eq_false_iff_ne.2 hmv
    obtain ⟨s1, s2, s3⟩ := same_byte (unhide HFM) (x := X) (v := v) (by omega) (by rw [unhide HNM]; exact hX) hmv
    have hME := (unhide HFM).len0
    have HSC := hide (fun (cm' : Nat) (g : Nat) (W : World) (h1 : Bs W (some ⟨bm, om, none⟩) cm M) (h2 : Bs W (some ⟨g, 0, none⟩) cm' (M.set X v)) => same_any (some ⟨bm, om, none⟩) (some ⟨g, 0, none⟩) cm cm' M (M.set X v) W h1 h2)
    rw [s2, s3, errV_zero, List.length_set, unhide HNM] at HSC
    have HEN := hide (fun (W : World) (h1 : Bs W (some ⟨bm, om, none⟩) cm M) => iEnts_yes (some ⟨bm, om, none⟩) cm M W h1 hME)
    rw [unhide HNM] at HEN
    have HHAD : Hid (hadB M X = hadL (entsK M 40) X) := hide rfl
    have HIN := hide (Lst.in_small (unhide HFM))
    have hel := entsK_len M 40
    have hne : M ≠ [] := by intro e; have := unhide HNM; rw [e] at this; simp at this; omega
    have HBYS := hide (byt_set (unhide HBM6).1 X v hv)
    generalize hadB M X = HD at *
    generalize entsK M 40 = EN at *
    generalize M.getD X 0 = mx at *
    clear s1 s2 s3 hME hmv
    go_wp2_with (at_builtin; refine wpList_append_new rfl _ _ 22 rfl i0 Try.underlying22 hi hz0 hz1 hz2 (some ⟨bm, om, none⟩) cm M rfl (by rw [unhide HNM]; rfl) (unhide HBM6) hne ?_)
    intro g7 c7 w7 hown7 hb7
    rw [unhide HNM]
    have hc7 := hown7.cell X (by rw [unhide HNM]; exact hX)
    have hf7 := hown7.frozen X
    have hcap7 := hown7.cap
    rw [unhide HNM] at hcap7
    have hown8 := hown7.set X v
    have hb8 : Below w6.heap.size w6 (w7.setCell ⟨g7, X, none⟩ (.int .u8 v)) := hb7.setCell hown7.base _
    have HEN8 := hide (unhide HEN _ ((unhide HBM6).below hb8))
    have HBM8 := hide ((unhide HBM6).below hb8)
    have HB8 := hide ((unhide HB6).trans (hb8.mono (unhide HB6).size))
    have HBC8 := hide (hown8.bs (unhide HBYS) (by rw [List.length_set, unhide HNM]; omega))
    clear hown7 hown8 hb7 hb8 HB6 HBM6 HEN HBYS
    generalize M.getD X 0 = mx2 at *
    go_wp2_with fail
    refine (unhide HEN8).mono ?_
    rintro e w9 ⟨v9, rfl, hown9, hb9⟩
    obtain ⟨a9, c9, rfl, hsl9⟩ := hown9.sls enC_len (by omega)
    have HSL := hide hsl9
    have HB9 := hide ((unhide HB8).trans (hb9.mono (unhide HB8).size))
    have HSC9 := hide (fun (n : Nat) => unhide HSC c7 g7 (w9.drewN n) (((unhide HBM8).below hb9).drewN n) (((unhide HBC8).below hb9).drewN n))
    clear hown9 hsl9 hb9 HB8 HEN8 HBM8 HBC8 HSC hc7 hf7 hcell
    go_wp2_with fail
    go_loopw [18, 19] (fun hv iv wr => ∃ k n : Nat, k ≤ EN.length ∧ iv = .int .i64 k ∧ hv = .bool (hadL (EN.take k) X) ∧ wr = w9.drewN n) (fun _ iv _ => EN.length - (intOf iv).toNat)
    case atStart => exact ⟨0, 0, Nat.zero_le _, rfl, rfl, rfl⟩
    case round =>
      obtain ⟨k, n, hk, rfl, rfl, rfl⟩ := hrel
      by_cases hlt : k < EN.length
      · have hne9 : EN ≠ [] := by intro e; rw [e] at hlt; simp at hlt
        obtain ⟨b9, o9, rfl, hc9⟩ := (unhide HSL).2.2.2 hne9
        obtain ⟨f, hf⟩ : ∃ f, EN[k]? = some f := ⟨EN[k], List.getElem?_eq_getElem hlt⟩
        obtain ⟨q0, q1, q2, q3⟩ := Sls.ent (cap := 0) hc9 hf
        have HT := hide (hadL_take (x := X) hf)
        have hfi := unhide HIN f (List.mem_of_getElem? hf)
        obtain ⟨u, y, z, t⟩ := f
        dsimp only at *
        clear hc9 hf hne9
        generalize hadL (EN.take k) X = hd at *
        cases hd with
        | true =>
          go_wp2_with fail
          go_quiet (fail)
          go_wp2
          go_roundw
          case rel => exact ⟨k + 1, n + nq, by omega, by go_num, by rw [unhide HT, Bool.true_or], rfl⟩
          case measure => simp [intOf]; omega
        | false =>
          by_cases hy : y ≤ (X : Int)
          · have hyd : decide (y ≤ (X : Int)) = true := decide_eq_true hy
            go_wp2_with fail
            go_quiet (fail)
            go_wp2
            go_roundw
            case rel => exact ⟨k + 1, n + nq, by omega, by go_num, by rw [unhide HT, Bool.false_or, decide_eq_true hy, Bool.true_and], rfl⟩
            case measure => simp [intOf]; omega
          · have hyd : decide (y ≤ (X : Int)) = false := decide_eq_false hy
            go_wp2_with fail
            go_quiet (fail)
            go_wp2
            go_roundw
            case rel => exact ⟨k + 1, n + nq, by omega, by go_num, by rw [unhide HT, Bool.false_or, decide_eq_false (by omega), Bool.false_and], rfl⟩
            case measure => simp [intOf]; omega
      · obtain rfl : k = EN.length := by omega
        rw [List.take_length, ← unhide HHAD]
        have HSCn := hide (unhide HSC9 n)
        have HBn := hide (below_drewN (unhide HB9) n)
        clear HSC9 HSL HB9 HHAD HIN
        go_wp2_with fail
        refine (unhide HSCn).mono ?_
        rintro e w10 ⟨rfl, hb10⟩
        have HB10 := hide ((unhide HBn).trans (hb10.mono (unhide HBn).size))
        clear hb10 HSCn HBn
        cases HD with
        | true =>
          go_wp2
          go_ret
          exact ⟨rfl, unhide HB10⟩
        | false =>
          go_wp2
          go_ret
          exact ⟨rfl, unhide HB10⟩
end Go.Proofs.Ytcppejlcjooliaa
