/-
  The walk of CheckMends: mended, an image has no fault, and what was right in it is there as it was. (Part of the proof of CheckMends.)
-/
import Derived.Test.YtccailoccgbehaaChI
import Derived.Test.YtccailoccgbehaaChT
import Derived.Deep.CutRange
namespace Go.Proofs.Ytccailoccgbehaa
open Go.RowKit
set_option linter.unusedVariables false

theorem new_row (w : World) : Calls Try.prog 4 #[.int .i64 300] w fun e w' => ∃ g, e = .returned (.tuple #[.slice (some ⟨g, 0, none⟩) 300 300, .nilIface]) ∧ Blk w' g (zerosB 300) ∧ w.heap.size ≤ g ∧ Below w.heap.size w w' := by
  have HL := hide (isLength_any 300 w)
  obtain ⟨i0, hi, hz0, hz1, hz2⟩ := info_parts info_u8
  have hq : lenB 300 = true := by decide
  rw [hq] at HL
  clear hq
  go_enter Try.func4, Try.ntmps4
  go_wp2_with fail
  refine (unhide HL).mono ?_
  rintro e w1 ⟨rfl, rfl⟩
  go_wp2_with (at_make; refine wpList_make_u8 rfl _ _ 22 rfl i0 Try.underlying22 hi hz0 hz1 hz2 _ _ _ _ 300 rfl rfl rfl rfl (by omega) ?_; intro w2 hk2 hs2 hb2)
  go_ret2
  exact ⟨_, rfl, hk2, Nat.le_refl _, hb2⟩
theorem set_zero : (zerosB 300).set 0 17 = 17 :: zerosB 299 := by kernel_rfl
theorem len_fact : (17 :: zerosB 299).length = 300 := by kernel_rfl
theorem byt_fact : Byt (17 :: zerosB 299) := by
  intro z hz
  rcases List.mem_cons.1 hz with rfl | hz
  · omega
  · exact byt_zerosB 299 z hz
/-- Is a handle told to have a fault, in the first k? -/
def wrongK (l : List (Int × Int)) (h : Int) (k : Nat) : Bool := (l.take k).any (fun f => decide (f.1 ≤ 3) && decide (f.2 = h))
theorem wrongK_succ {l : List (Int × Int)} {h : Int} {k : Nat} {f : Int × Int} (hf : l[k]? = some f) : wrongK l h (k + 1) = (wrongK l h k || (decide (f.1 ≤ 3) && decide (f.2 = h))) := by
  unfold wrongK
  rw [List.take_add_one, hf, List.any_append]
  simp
theorem wrongK_all {l : List (Int × Int)} {h : Int} : wrongK l h l.length = true ↔ ∃ f ∈ l, f.1 ≤ 3 ∧ f.2 = h := by
  unfold wrongK
  rw [List.take_length, List.any_eq_true]
  constructor
  · rintro ⟨f, hf, h2⟩
    rw [Bool.and_eq_true, decide_eq_true_iff, decide_eq_true_iff] at h2
    exact ⟨f, hf, h2⟩
  · rintro ⟨f, hf, h2⟩
    exact ⟨f, hf, by rw [Bool.and_eq_true, decide_eq_true_iff, decide_eq_true_iff]; exact h2⟩

set_option maxRecDepth 100000 in
set_option maxHeartbeats 4000000 in
theorem walkCheckMends (a0 : Option Addr) (cap0 : Nat) (b : List Int) (w : World) (hbs : Bs w a0 cap0 b) :
    Calls Try.prog 3 #[.slice a0 b.length cap0] w fun e w' => e = .returned (.bool true) ∧ Below w.heap.size w w' := by
  have hbl := hbs.2.2.1
  have HB := hide hbs
  have HNEW := hide (new_row w)
  clear hbs
  go_enter Try.func3, Try.ntmps3
  go_wp2_with fail
  refine (unhide HNEW).mono ?_
  rintro e w1 ⟨g, rfl, hblk, hg, hb1⟩
  have hgl := hblk.lt
  have hc0 := hblk.cell 0 (by rw [length_zerosB]; omega)
  have hf0 := hblk.frozen 0
  have hblk2 := hblk.set 0 17
  rw [set_zero] at hblk2
  have hbs2 := hblk2.bs byt_fact (by rw [len_fact]; omega)
  have hb2 : Below w.heap.size w (w1.setCell ⟨g, 0, none⟩ (.int .u8 17)) := hb1.setCell hg _
  have HC := hide (chk_yes (some ⟨g, 0, none⟩) _ (17 :: zerosB 299) _ hbs2 (by rw [len_fact]; decide))
  rw [len_fact, fact_faults] at HC
  have HB2 := hide hb2
  clear hblk hblk2 hbs2 hb1 hb2 HNEW hg
  go_wp2_with fail
  refine (unhide HC).mono ?_
  rintro e w3 ⟨v3, rfl, hown3, hb3⟩
  obtain ⟨a3, c3, rfl, hsl3⟩ := hown3.sls flC_len (by simp)
  obtain ⟨b3, o3, rfl, hc3⟩ := hsl3.2.2.2 (by simp)
  obtain ⟨q0, q1⟩ := Sls.flt (cap := 0) (e := (1, 1)) hc3 (i := 0) rfl
  rw [Nat.zero_mul, Nat.add_zero] at q0 q1
  dsimp only at q0 q1
  have hB3 := (unhide HB2).trans (hb3.mono (unhide HB2).size)
  have HC3 := hide (chk_any a0 cap0 b w3 ((unhide HB).below hB3))
  have HB3 := hide hB3
  clear hown3 hsl3 hc3 hb3 hB3 HC HB2 hc0 hf0 hgl
  go_wp2_with fail
  refine (unhide HC3).mono ?_
  rintro e w4 ⟨v4, rfl, hown4, hb4⟩
  obtain ⟨a4, c4, rfl, hsl4⟩ := hown4.sls flC_len (Nat.le_trans (by unfold chkF; split; exact faults_len b; simp) (by decide : 48 ≤ 8796093021952))
  have hB4 := (unhide HB3).trans (hb4.mono (unhide HB3).size)
  have HB4 := hide hB4
  have hqq : lenB b.length = false ∧ lenE b.length = 3 ∨ lenB b.length = true ∧ lenE b.length = 0 := by
    unfold lenE
    cases lenB b.length with
    | true => exact .inr ⟨rfl, rfl⟩
    | false => exact .inl ⟨rfl, rfl⟩
  rcases hqq with ⟨hq, he⟩ | ⟨hq, he⟩
  · rw [he, errV_pos 3 (by decide)]
    have hlen : ¬ (288 ≤ b.length ∧ b.length ≤ 6400) := fun h => by
      have := lenB_iff.2 (show (288 : Int) ≤ b.length ∧ (b.length : Int) ≤ 6400 by omega)
      rw [this] at hq; cases hq
    generalize (chkF b).length = CN at *
    clear hown4 hsl4 hb4 hB4 HC3 HB3 he hq q0 q1
    generalize b.length = N at *
    by_cases h1 : N < 288
    · have h1' : (N : Int) < 288 := by omega
      clear hlen h1
      go_wp2
      go_ret
      exact ⟨rfl, unhide HB4⟩
    · have h1' : ¬ (N : Int) < 288 := by omega
      have h2' : (6400 : Int) < N := by omega
      clear hlen h1
      go_wp2
      go_ret
      exact ⟨rfl, unhide HB4⟩
  · have hl := lenB_iff.1 hq
    have hcf : chkF b = faults b := by unfold chkF; rw [if_pos hq]
    rw [he, errV_zero]
    rw [hcf] at hsl4 ⊢
    have HM4 := hide (mend_any a0 cap0 b w4 ((unhide HB).below hB4))
    have hmo : mendO b = mendL b := by unfold mendO; rw [if_pos hq]
    rw [hmo, he, errV_zero] at HM4
    have hml : (mendL b).length = b.length := mendL_len (by omega)
    have hmf : faults (mendL b) = [] := mend_faults (by omega)
    have hcm : chkF (mendL b) = [] := by unfold chkF; rw [hmf]; split <;> rfl
    have hmm : mendO (mendL b) = mendL b := by unfold mendO; rw [hml, if_pos hq, mend_right_same hmf]
    have HC5 := hide (fun (W : World) (a' : Option Addr) (c' : Nat) (h : Bs W a' c' (mendL b)) => chk_any a' c' (mendL b) W h)
    rw [hml, he, errV_zero, hcm] at HC5
    have HM5 := hide (fun (W : World) (a' : Option Addr) (c' : Nat) (h : Bs W a' c' (mendL b)) => mend_any a' c' (mendL b) W h)
    rw [hml, he, errV_zero, hmm] at HM5
    have HZ1 : Hid ((((faults b).length : Int) == 0) = decide (faults b = [])) := hide (by
      by_cases h : faults b = []
      · rw [h]; rfl
      · rw [decide_eq_false h, beq_eq_false_iff_ne]
        have := List.length_pos_iff.2 h
        omega)
    have hby := (unhide HB).1
    have hbym := byt_mendL hby
    have hsi : strOf (mendL b) = strOf b ↔ faults b = [] := (strOf_iff hbym hby).trans (mend_iff (by omega))
    have HZ2 : Hid (((strOf (mendL b)).toList == (strOf b).toList) = decide (faults b = [])) := hide (by
      by_cases h : faults b = []
      · rw [decide_eq_true h]
        exact toL_iff.2 (hsi.2 h)
      · rw [decide_eq_false h]
        exact toL_no (fun e => h (hsi.1 e)))
    have HG1 := hide (fun (h : Int) (h1 : 1 ≤ h) (h2 : h ≤ 40) (hn : hFault b h = []) => mend_get (b := b) (h := h) (by omega) h1 h2 hn)
    have HG2 := hide (fun (h : Int) (h1 : 1 ≤ h) (h2 : h ≤ 40) (hn : hFault b h ≠ []) => mend_none (b := b) (h := h) (by omega) (by omega) h1 h2 hn)
    have HTH := hide (fun (h : Int) (h1 : 1 ≤ h) (h2 : h ≤ 40) => told_hand (b := b) (h := h) h1 h2)
    have HTL := hide (mend_tail (b := b) (by omega))
    have HML := hide hml
    have hfl := faults_len b
    have HS4 := hide hsl4
    have HBYM := hide hbym
    generalize hFB : faults b = F at *
    generalize hMM : mendL b = M at *
    clear hown4 hsl4 hb4 hB4 HC3 HB3 he hq q0 q1 hcf hmo hml hmf hcm hmm hby hbym hsi hFB hMM
    go_wp2_with fail
    refine (unhide HM4).mono ?_
    rintro e w5 ⟨a5, c5, he5, hbs5, hb5⟩
    rw [unhide HML] at he5
    subst he5
    have HBS5 := hide hbs5
    have HC6 := hide (unhide HC5 w5 a5 c5 hbs5)
    have HB5 := hide ((unhide HB4).trans (hb5.mono (unhide HB4).size))
    have HS5 := hide ((unhide HS4).below hb5)
    clear hbs5 hb5 HM4 HC5 HB4 HS4
    go_wp2_with fail
    refine (unhide HC6).mono ?_
    rintro e w6 ⟨v6, rfl, hown6, hb6⟩
    obtain ⟨a6, c6, rfl, hsl6⟩ := hown6.sls flC_len (by simp)
    have HBS6 := hide ((unhide HBS5).below hb6)
    have HM6 := hide (unhide HM5 w6 a5 c5 (unhide HBS6))
    have HB6 := hide ((unhide HB5).trans (hb6.mono (unhide HB5).size))
    have HS6 := hide ((unhide HS5).below hb6)
    clear hown6 hsl6 hb6 HC6 HM5 HBS5 HB5 HS5
    go_wp2_with fail
    refine (unhide HM6).mono ?_
    rintro e w7 ⟨a7, c7, he7, hbs7, hb7⟩
    have hb07 := (unhide HB6).trans (hb7.mono (unhide HB6).size)
    have hbsm := (unhide HBS6).below hb7
    have hbsb := (unhide HB).below hb07
    have hs1 := conv_str (P := Try.prog) (t := 22) (e := 9) Try.underlying22 Try.underlying5 Try.underlying9 hbs7
    have hs2 := conv_str (P := Try.prog) (t := 22) (e := 9) Try.underlying22 Try.underlying5 Try.underlying9 hbsm
    have hs3 := conv_str (P := Try.prog) (t := 22) (e := 9) Try.underlying22 Try.underlying5 Try.underlying9 hbsb
    rw [unhide HML] at he7 hs1 hs2
    subst he7
    have HS7 := hide ((unhide HS6).below hb7)
    have HBM := hide hbsm
    have HBB := hide hbsb
    have HB7 := hide hb07
    have hz1 := unhide HZ1
    have hz2 := unhide HZ2
    generalize decide (F = []) = Z at hz1 hz2
    generalize strOf M = s1 at *
    generalize strOf b = s2 at *
    clear hbs7 hb7 hb07 hbsm hbsb HM6 HBS6 HB6 HS6 HB HZ1 HZ2
    go_wp2_with fail
    clear hs1 hs2 hs3 hz1 hz2
    go_loopw [15] (fun hv wr => ∃ k : Nat, k ≤ 40 ∧ hv = .int .i64 ((k : Int) + 1) ∧ Below w7.heap.size w7 wr) (fun hv _ => 41 - (intOf hv).toNat)
    case atStart => exact ⟨0, by omega, rfl, Below.refl _ _⟩
    case round =>
      obtain ⟨k, hk, rfl, hbel⟩ := hrel
      obtain ⟨wq, hwq⟩ : ∃ wq, wq = wr := ⟨wr, rfl⟩
      subst hwq
      by_cases hlt : k < 40
      · have hth := unhide HTH ((k : Int) + 1) (by omega) (by omega)
        have hg1 := unhide HG1 ((k : Int) + 1) (by omega) (by omega)
        have hg2 := unhide HG2 ((k : Int) + 1) (by omega) (by omega)
        have HGB := hide (fun (W : World) (hW : Below w7.heap.size w7 W) => iGet_any a0 cap0 b ((k : Int) + 1) W ((unhide HBB).below hW))
        have HGM := hide (fun (W : World) (hW : Below w7.heap.size w7 W) => iGet_any a5 c5 M ((k : Int) + 1) W ((unhide HBM).below hW))
        rw [unhide HML] at HGM
        have HTB := hide hth
        have HR1 := hide hg1
        have HR2 := hide hg2
        have HSQ := hide ((unhide HS7).below hbel)
        have HBQ := hide hbel
        clear hth hg1 hg2 hbel
        have hxk : ∃ x : Int, (k : Int) + 1 = x := ⟨_, rfl⟩
        go_wp2_with fail
        go_loopw [16, 17] (fun bv iv wi => ∃ j : Nat, j ≤ F.length ∧ iv = .int .i64 (j : Int) ∧ bv = .bool (wrongK F ((k : Int) + 1) j) ∧ wi = wq) (fun _ iv _ => F.length - (intOf iv).toNat)
        case atStart => exact ⟨0, Nat.zero_le _, rfl, rfl, rfl⟩
        case round =>
          obtain ⟨j, hj, rfl, rfl, rfl⟩ := hrel
          by_cases hjl : j < F.length
          · have hne : F ≠ [] := by intro e; rw [e] at hjl; simp at hjl
            obtain ⟨b1, o1, rfl, hc1⟩ := (unhide HSQ).2.2.2 hne
            obtain ⟨f, hf⟩ : ∃ f, F[j]? = some f := ⟨F[j], List.getElem?_eq_getElem hjl⟩
            obtain ⟨q0, q1⟩ := Sls.flt (cap := 0) hc1 hf
            have HSU := hide (wrongK_succ (h := (k : Int) + 1) hf)
            obtain ⟨x, y⟩ := f
            dsimp only at *
            clear hc1 hne hf
            generalize wrongK F ((k : Int) + 1) j = A at *
            cases A with
            | true =>
              go_wp2
              go_roundw
              case rel => exact ⟨j + 1, by omega, by go_num, congrArg Value.bool (unhide HSU).symm, trivial⟩
              case measure => simp [intOf]; omega
            | false =>
              rw [Bool.false_or] at HSU
              by_cases hx : x ≤ 3
              · rw [decide_eq_true hx, Bool.true_and] at HSU
                by_cases hy : y = (k : Int) + 1
                · rw [decide_eq_true hy] at HSU
                  have hyb : (y == (k : Int) + 1) = true := beq_iff_eq.2 hy
                  clear hy
                  go_wp2
                  go_roundw
                  case rel => exact ⟨j + 1, by omega, by go_num, congrArg Value.bool (unhide HSU).symm, trivial⟩
                  case measure => simp [intOf]; omega
                · rw [decide_eq_false hy] at HSU
                  have hyb : (y == (k : Int) + 1) = false := beq_eq_false_iff_ne.2 hy
                  clear hy
                  go_wp2
                  go_roundw
                  case rel => exact ⟨j + 1, by omega, by go_num, congrArg Value.bool (unhide HSU).symm, trivial⟩
                  case measure => simp [intOf]; omega
              · rw [decide_eq_false hx, Bool.false_and] at HSU
                go_wp2
                go_roundw
                case rel => exact ⟨j + 1, by omega, by go_num, congrArg Value.bool (unhide HSU).symm, trivial⟩
                case measure => simp [intOf]; omega
          · obtain rfl : j = F.length := by omega
            have hwa := wrongK_all (l := F) (h := (k : Int) + 1)
            rw [unhide HTB] at hwa
            generalize wrongK F ((k : Int) + 1) F.length = A at *
            cases A with
            | false =>
              obtain ⟨hce, hge⟩ := unhide HR1 (Classical.byContradiction fun h => by have := hwa.2 h; cases this)
              rw [hce, hge] at HGM
              clear hce hge hwa HR1 HR2 HTB HSQ
              generalize getE b ((k : Int) + 1) = E at *
              generalize chkE b ((k : Int) + 1) = C at *
              obtain ⟨x1, x2, x3, x4⟩ := E
              unfold entV at HGB HGM
              dsimp only at HGB HGM
              by_cases hC : C = 0
              · subst hC
                rw [errV_zero] at HGB HGM
                go_wp2_with fail
                refine (unhide HGB _ (unhide HBQ)).mono ?_
                rintro e w8 ⟨rfl, hb8⟩
                have hB8 := (unhide HBQ).trans (hb8.mono (unhide HBQ).size)
                have hbA : Below w8.heap.size w8 (w8.alloc (.cells #[.int .i64 x1, .int .i64 x2, .int .i64 x3, .int .i64 x4] 36)) := (Below.refl _ _).alloc (Nat.le_refl _) _
                have hB9 := hB8.trans (hbA.mono hB8.size)
                have HG9 := hide (unhide HGM _ hB9)
                have hen := EnB.new w8 (x1, x2, x3, x4)
                have HEN := hide hen
                have HB9 := hide hB9
                clear hb8 hB8 hbA hB9 hen HGB HGM HBQ
                go_wp2_with fail
                refine (unhide HG9).mono ?_
                rintro e w10 ⟨rfl, hb10⟩
                have hen10 := (unhide HEN).below hb10 (unhide HEN).lt
                have hB10 := (unhide HB9).trans (hb10.mono (unhide HB9).size)
                have hbC : Below w10.heap.size w10 (w10.alloc (.cells #[.int .i64 x1, .int .i64 x2, .int .i64 x3, .int .i64 x4] 36)) := (Below.refl _ _).alloc (Nat.le_refl _) _
                obtain ⟨d0, d1, d2, d3⟩ := (hen10.below hbC hen10.lt).cells
                obtain ⟨f0, f1, f2, f3⟩ := (EnB.new w10 (x1, x2, x3, x4)).cells
                have HB11 := hide (hB10.trans (hbC.mono hB10.size))
                have hw8 : w8.heap.size < w10.heap.size := hen10.lt
                dsimp only at d0 d1 d2 d3 f0 f1 f2 f3
                clear hb10 hen10 hB10 hbC HG9 HEN HB9
                go_wp2_with fail
                generalize w10.alloc (.cells #[.int .i64 x1, .int .i64 x2, .int .i64 x3, .int .i64 x4] 36) = w11 at *
                go_quiet (fail)
                go_wp2
                go_roundw
                case rel => exact ⟨k + 1, by omega, by go_num, below_drewN (unhide HB11) nq⟩
                case measure => simp [intOf]; omega
              · rw [errV_pos _ hC] at HGB HGM
                go_wp2_with fail
                refine (unhide HGB _ (unhide HBQ)).mono ?_
                rintro e w8 ⟨rfl, hb8⟩
                have hB8 := (unhide HBQ).trans (hb8.mono (unhide HBQ).size)
                have hbA : Below w8.heap.size w8 (w8.alloc (.cells #[.int .i64 x1, .int .i64 x2, .int .i64 x3, .int .i64 x4] 36)) := (Below.refl _ _).alloc (Nat.le_refl _) _
                have hB9 := hB8.trans (hbA.mono hB8.size)
                have HG9 := hide (unhide HGM _ hB9)
                have hen := EnB.new w8 (x1, x2, x3, x4)
                have HEN := hide hen
                have HB9 := hide hB9
                clear hb8 hB8 hbA hB9 hen HGB HGM HBQ
                go_wp2_with fail
                refine (unhide HG9).mono ?_
                rintro e w10 ⟨rfl, hb10⟩
                have hen10 := (unhide HEN).below hb10 (unhide HEN).lt
                have hB10 := (unhide HB9).trans (hb10.mono (unhide HB9).size)
                have hbC : Below w10.heap.size w10 (w10.alloc (.cells #[.int .i64 x1, .int .i64 x2, .int .i64 x3, .int .i64 x4] 36)) := (Below.refl _ _).alloc (Nat.le_refl _) _
                obtain ⟨d0, d1, d2, d3⟩ := (hen10.below hbC hen10.lt).cells
                obtain ⟨f0, f1, f2, f3⟩ := (EnB.new w10 (x1, x2, x3, x4)).cells
                have HB11 := hide (hB10.trans (hbC.mono hB10.size))
                have hw8 : w8.heap.size < w10.heap.size := hen10.lt
                dsimp only at d0 d1 d2 d3 f0 f1 f2 f3
                clear hb10 hen10 hB10 hbC HG9 HEN HB9
                go_wp2_with fail
                generalize w10.alloc (.cells #[.int .i64 x1, .int .i64 x2, .int .i64 x3, .int .i64 x4] 36) = w11 at *
                go_quiet (fail)
                go_wp2
                go_roundw
                case rel => exact ⟨k + 1, by omega, by go_num, below_drewN (unhide HB11) nq⟩
                case measure => simp [intOf]; omega
            | true =>
              have hce := unhide HR2 (hwa.1 rfl)
              rw [hce, errV_pos 5 (by decide)] at HGM
              clear hce hwa HR1 HR2 HTB HSQ
              generalize getE b ((k : Int) + 1) = E at *
              generalize chkE b ((k : Int) + 1) = C at *
              generalize getE M ((k : Int) + 1) = E2 at *
              obtain ⟨x1, x2, x3, x4⟩ := E
              obtain ⟨y1, y2, y3, y4⟩ := E2
              unfold entV at HGB HGM
              dsimp only at HGB HGM
              by_cases hC : C = 0
              · subst hC
                rw [errV_zero] at HGB
                go_wp2_with fail
                refine (unhide HGB _ (unhide HBQ)).mono ?_
                rintro e w8 ⟨rfl, hb8⟩
                have hB8 := (unhide HBQ).trans (hb8.mono (unhide HBQ).size)
                have hbA : Below w8.heap.size w8 (w8.alloc (.cells #[.int .i64 x1, .int .i64 x2, .int .i64 x3, .int .i64 x4] 36)) := (Below.refl _ _).alloc (Nat.le_refl _) _
                have hB9 := hB8.trans (hbA.mono hB8.size)
                have HG9 := hide (unhide HGM _ hB9)
                have hen := EnB.new w8 (x1, x2, x3, x4)
                have HEN := hide hen
                have HB9 := hide hB9
                clear hb8 hB8 hbA hB9 hen HGB HGM HBQ
                go_wp2_with fail
                refine (unhide HG9).mono ?_
                rintro e w10 ⟨rfl, hb10⟩
                have hen10 := (unhide HEN).below hb10 (unhide HEN).lt
                have hB10 := (unhide HB9).trans (hb10.mono (unhide HB9).size)
                have hbC : Below w10.heap.size w10 (w10.alloc (.cells #[.int .i64 y1, .int .i64 y2, .int .i64 y3, .int .i64 y4] 36)) := (Below.refl _ _).alloc (Nat.le_refl _) _
                obtain ⟨d0, d1, d2, d3⟩ := (hen10.below hbC hen10.lt).cells
                obtain ⟨f0, f1, f2, f3⟩ := (EnB.new w10 (y1, y2, y3, y4)).cells
                have HB11 := hide (hB10.trans (hbC.mono hB10.size))
                have hw8 : w8.heap.size < w10.heap.size := hen10.lt
                dsimp only at d0 d1 d2 d3 f0 f1 f2 f3
                clear hb10 hen10 hB10 hbC HG9 HEN HB9
                go_wp2_with fail
                generalize w10.alloc (.cells #[.int .i64 y1, .int .i64 y2, .int .i64 y3, .int .i64 y4] 36) = w11 at *
                go_quiet (fail)
                go_wp2
                go_roundw
                case rel => exact ⟨k + 1, by omega, by go_num, below_drewN (unhide HB11) nq⟩
                case measure => simp [intOf]; omega
              · rw [errV_pos _ hC] at HGB
                go_wp2_with fail
                refine (unhide HGB _ (unhide HBQ)).mono ?_
                rintro e w8 ⟨rfl, hb8⟩
                have hB8 := (unhide HBQ).trans (hb8.mono (unhide HBQ).size)
                have hbA : Below w8.heap.size w8 (w8.alloc (.cells #[.int .i64 x1, .int .i64 x2, .int .i64 x3, .int .i64 x4] 36)) := (Below.refl _ _).alloc (Nat.le_refl _) _
                have hB9 := hB8.trans (hbA.mono hB8.size)
                have HG9 := hide (unhide HGM _ hB9)
                have hen := EnB.new w8 (x1, x2, x3, x4)
                have HEN := hide hen
                have HB9 := hide hB9
                clear hb8 hB8 hbA hB9 hen HGB HGM HBQ
                go_wp2_with fail
                refine (unhide HG9).mono ?_
                rintro e w10 ⟨rfl, hb10⟩
                have hen10 := (unhide HEN).below hb10 (unhide HEN).lt
                have hB10 := (unhide HB9).trans (hb10.mono (unhide HB9).size)
                have hbC : Below w10.heap.size w10 (w10.alloc (.cells #[.int .i64 y1, .int .i64 y2, .int .i64 y3, .int .i64 y4] 36)) := (Below.refl _ _).alloc (Nat.le_refl _) _
                obtain ⟨d0, d1, d2, d3⟩ := (hen10.below hbC hen10.lt).cells
                obtain ⟨f0, f1, f2, f3⟩ := (EnB.new w10 (y1, y2, y3, y4)).cells
                have HB11 := hide (hB10.trans (hbC.mono hB10.size))
                have hw8 : w8.heap.size < w10.heap.size := hen10.lt
                dsimp only at d0 d1 d2 d3 f0 f1 f2 f3
                clear hb10 hen10 hB10 hbC HG9 HEN HB9
                go_wp2_with fail
                generalize w10.alloc (.cells #[.int .i64 y1, .int .i64 y2, .int .i64 y3, .int .i64 y4] 36) = w11 at *
                go_quiet (fail)
                go_wp2
                go_roundw
                case rel => exact ⟨k + 1, by omega, by go_num, below_drewN (unhide HB11) nq⟩
                case measure => simp [intOf]; omega
      · obtain rfl : k = 40 := by omega
        have hbm := (unhide HBM).below hbel
        have hbb := (unhide HBB).below hbel
        have hlm : M.length = b.length := unhide HML
        obtain ⟨am, hsm, hbm2⟩ := slice_lo (P := Try.prog) (t := 22) Try.underlying22 size_u8 hbm 288 (by omega)
        obtain ⟨ab, hsb, hbb2⟩ := slice_lo (P := Try.prog) (t := 22) Try.underlying22 size_u8 hbb 288 (by omega)
        rw [hlm] at hsm
        have hcm : ∀ n, (convert 22 9 (.slice am (b.length - 288) (c5 - 288))).run Try.prog (wq.drewN n) = .ok (.string (strOf (b.drop 288))) (wq.drewN n) := fun n => by
          have h := conv_str (P := Try.prog) (t := 22) (e := 9) Try.underlying22 Try.underlying5 Try.underlying9 (hbm2.drewN n)
          rw [unhide HTL, List.length_drop] at h
          exact h
        have hcb : ∀ n, (convert 22 9 (.slice ab (b.length - 288) (cap0 - 288))).run Try.prog (wq.drewN n) = .ok (.string (strOf (b.drop 288))) (wq.drewN n) := fun n => by
          have h := conv_str (P := Try.prog) (t := 22) (e := 9) Try.underlying22 Try.underlying5 Try.underlying9 (hbb2.drewN n)
          rw [List.length_drop] at h
          exact h
        rw [show ((288 : Nat) : Int) = 288 from rfl] at hsm hsb
        have HB9 := hide ((unhide HB7).trans (hbel.mono (unhide HB7).size))
        generalize strOf (b.drop 288) = s9 at *
        have hN : 288 ≤ b.length := by omega
        clear hbm hbb hbm2 hbb2 hbel hlm
        go_wp2_with fail
        go_quiet (fail)
        go_wp2
        go_ret
        exact ⟨rfl, below_drewN (unhide HB9) nq⟩
end Go.Proofs.Ytccailoccgbehaa
