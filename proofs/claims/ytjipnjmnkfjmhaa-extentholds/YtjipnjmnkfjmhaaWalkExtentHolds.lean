/-
  The walk of the law ExtentHolds. (Part of the proof of ExtentHolds.)
-/
import Derived.Test.YtjipnjmnkfjmhaaExG
import Derived.Deep.CutRange
namespace Go.Proofs.Ytjipnjmnkfjmhaa
open Go.RowKit Go.Sort Go.Shelf
set_option linter.unusedVariables false

theorem fact_fit : fitE 10 [(2, 3)] 2 = 0 ∧ fitAt 10 [(2, 3)] 2 = 0 := by
  have hc : chk 10 [(2, 3)] = 0 := by decide
  have hf : freeL 10 [(2, 3)] = [(0, 2), (5, 5)] := by
    rw [freeL_eq hc (s := [(2, 3)]) ⟨List.Perm.refl _, by simp⟩]
    decide
  have e1 : fitE 10 [(2, 3)] 2 = 0 := by unfold fitE; rw [hf, hc]; decide
  exact ⟨e1, by unfold fitAt; rw [e1, hf]; decide⟩
/-- The length of the run at a place. -/
def longOf (at' s : Int) (h : List (Int × Int)) : Int := h.foldl (fun s r => if r.1 = at' then r.2 else s) s
theorem long_take {at' : Int} {h : List (Int × Int)} {k : Nat} (hk : k < h.length) : longOf at' 0 (h.take (k + 1)) = if (h.getD k (0, 0)).1 = at' then (h.getD k (0, 0)).2 else longOf at' 0 (h.take k) := by
  have e : h.getD k (0, 0) = h[k] := by simp [List.getD, hk]
  unfold longOf
  rw [List.take_succ_eq_append_getElem hk, List.foldl_append, e]
  rfl
theorem long_fold {at' L : Int} : ∀ (h : List (Int × Int)) (s : Int), (∀ r ∈ h, r.1 = at' → r.2 = L) → (s = L ∨ ∃ r ∈ h, r.1 = at') → longOf at' s h = L
  | [], s, _, hs => by
    rcases hs with rfl | ⟨r, hr, _⟩
    · rfl
    · cases hr
  | x :: h, s, hu, hs => by
    show longOf at' (if x.1 = at' then x.2 else s) h = L
    by_cases hx : x.1 = at'
    · rw [if_pos hx]
      exact long_fold h _ (fun r hr => hu r (by simp [hr])) (.inl (hu x (by simp) hx))
    · rw [if_neg hx]
      refine long_fold h _ (fun r hr => hu r (by simp [hr])) ?_
      rcases hs with h1 | ⟨r, hr, hra⟩
      · exact .inl h1
      · rcases List.mem_cons.1 hr with rfl | hr
        · exact absurd hra hx
        · exact .inr ⟨r, hr, hra⟩
/-- All there is, and one more where it fits. -/
theorem holds_all {n : Int} {l : List (Int × Int)} (hc : chk n l = 0) : lenSum (l ++ freeL n l) = n ∧ Good n (l ++ freeL n l) ∧ ((l ++ freeL n l).length ≤ 200 → chk n (l ++ freeL n l) = 0) := by
  obtain ⟨h0, h1, h2, hg⟩ := chk_zero.1 hc
  have hsum := hg.srtL.sum hg h0
  have hG := hg.srtL.all hg h0
  rw [← freeL_eq hc hg.srtL] at hsum hG
  exact ⟨by rw [lenSum_append]; exact hsum, hG, fun hl => chk_zero.2 ⟨h0, h1, hl, hG⟩⟩
theorem apart_unique : ∀ {h : List (Int × Int)}, h.Pairwise (fun x y => x.1 + x.2 ≤ y.1) → (∀ r ∈ h, 1 ≤ r.2) → ∀ x ∈ h, ∀ y ∈ h, x.1 = y.1 → x.2 = y.2
  | [], _, _, x, hx => by cases hx
  | e :: r, hp, h1, x, hx => by
    obtain ⟨p1, p2⟩ := List.pairwise_cons.1 hp
    have he := h1 e (by simp)
    intro y hy hxy
    rcases List.mem_cons.1 hx with ex | hx'
    · rcases List.mem_cons.1 hy with ey | hy'
      · rw [ex, ey]
      · have := p1 y hy'; rw [ex] at hxy; omega
    · rcases List.mem_cons.1 hy with ey | hy'
      · have := p1 x hx'; rw [ey] at hxy; omega
      · exact apart_unique p2 (fun z hz => h1 z (by simp [hz])) x hx' y hy' hxy
theorem free_unique {n : Int} {l : List (Int × Int)} (hc : chk n l = 0) : ∀ x ∈ freeL n l, ∀ y ∈ freeL n l, x.1 = y.1 → x.2 = y.2 := by
  obtain ⟨h0, h1, h2, hg⟩ := chk_zero.1 hc
  have hch := (hg.srtL.chain hg h0).1.runs
  have hsm := (freeL_small hc).1
  refine apart_unique ?_ (fun r hr => (hsm r hr).2.1)
  rw [freeL_eq hc hg.srtL]
  exact hch
theorem fit_long {n : Int} {l : List (Int × Int)} {size : Int} (hf : fitE n l size = 0) : size ≤ longOf (fitAt n l size) 0 (freeL n l) ∧ ∀ r ∈ freeL n l, size ≤ r.2 → ¬ r.2 < longOf (fitAt n l size) 0 (freeL n l) := by
  obtain ⟨hc, z1, z2, x, hx, hat, hxs, hmin⟩ := fit_yes hf
  have e : longOf (fitAt n l size) 0 (freeL n l) = x.2 := long_fold _ _ (fun r hr hra => free_unique hc r hr x hx (by rw [hra, hat])) (.inr ⟨x, hx, hat.symm⟩)
  rw [e]
  exact ⟨hxs, fun r hr hs => by have := hmin r hr hs; omega⟩
theorem fit_more {n : Int} {l : List (Int × Int)} {size : Int} (hf : fitE n l size = 0) (hl : l.length < 200) : chk n (l ++ [(fitAt n l size, size)]) = 0 := by
  obtain ⟨hc, z1, z2, x, hx, hat, hxs, hmin⟩ := fit_yes hf
  obtain ⟨h0, h1, h2, hg⟩ := chk_zero.1 hc
  rw [freeL_eq hc hg.srtL] at hx
  obtain ⟨s', R1, R2, hs', hG, _⟩ := hg.srtL.more hg h0 hx z1 hxs
  rw [hat]
  exact chk_zero.2 ⟨h0, h1, by simp; omega, hG.perm (List.perm_append_comm.trans (List.Perm.refl _))⟩

set_option maxRecDepth 100000 in
theorem holds_bad (n : Int) (a : Option Addr) (cap : Nat) (l : List (Int × Int)) (size : Int) (w : World) (hl : Exs w a cap l) (hc : chk n l ≠ 0) :
    Calls Try.prog 3 #[.int .i64 n, .slice a l.length cap, .int .i64 size] w fun e w' => e = .returned (.bool true) ∧ Below w.heap.size w w' := by
  have hfct := fit_any 10 (some ⟨w.heap.size, 0, none⟩) 1 [(2, 3)] 2 _ (exs_one (ExB.new w 2 3) (by unfold InI; decide))
  rw [fact_fit.1, fact_fit.2, errV_zero] at hfct
  have hb0 : Below w.heap.size w (w.alloc (.cells #[.int .i64 2, .int .i64 3] 28)) := (Below.refl _ _).alloc (Nat.le_refl _) _
  have HFC := hide hfct
  have HB0 := hide hb0
  have HFR := hide (fun w' (hb : Below w.heap.size w w') => frees_any n a cap l w' (hl.below hb))
  have HCK := hide (fun w' (hb : Below w.heap.size w w') => check_all n a cap l w' (hl.below hb))
  rw [errV_pos _ hc] at HFR HCK
  generalize chk n l = c at *
  generalize freeL n l = fr at *
  clear hl hc hfct hb0
  generalize l.length = N at *
  go_enter Try.func3, Try.ntmps3
  go_wp2_with fail
  refine (unhide HFC).mono ?_
  rintro e w1 ⟨rfl, hb1⟩
  have HB1 := hide ((unhide HB0).trans (hb1.mono (unhide HB0).size))
  have HF := hide (unhide HFR _ (unhide HB1))
  clear hb1 HFC HB0 HFR
  go_wp2_with fail
  refine (unhide HF).mono ?_
  rintro e w2 ⟨v, rfl, _, hb2⟩
  have HB2 := hide ((unhide HB1).trans (hb2.mono (unhide HB1).size))
  have HC := hide (unhide HCK _ (unhide HB2))
  clear hb2 HF HB1 HCK
  go_wp2_with fail
  refine (unhide HC).mono ?_
  rintro e w3 ⟨rfl, hb3⟩
  have HB3 := hide ((unhide HB2).trans (hb3.mono (unhide HB2).size))
  clear hb3 HC HB2
  go_wp2
  go_ret
  exact ⟨rfl, unhide HB3⟩

set_option maxRecDepth 100000 in
set_option maxHeartbeats 4000000 in
theorem holds_good (n : Int) (a : Option Addr) (cap : Nat) (l : List (Int × Int)) (size : Int) (w : World) (hl : Exs w a cap l) (hc : chk n l = 0) (hsz : -9223372036854775808 ≤ size ∧ size ≤ 9223372036854775807) :
    Calls Try.prog 3 #[.int .i64 n, .slice a l.length cap, .int .i64 size] w fun e w' => e = .returned (.bool true) ∧ Below w.heap.size w w' := by
  have hfct := fit_any 10 (some ⟨w.heap.size, 0, none⟩) 1 [(2, 3)] 2 _ (exs_one (ExB.new w 2 3) (by unfold InI; decide))
  rw [fact_fit.1, fact_fit.2, errV_zero] at hfct
  have hb0 : Below w.heap.size w (w.alloc (.cells #[.int .i64 2, .int .i64 3] 28)) := (Below.refl _ _).alloc (Nat.le_refl _) _
  obtain ⟨k0, k1, k2, hg⟩ := chk_zero.1 hc
  obtain ⟨hsm, hlen⟩ := freeL_small hc
  obtain ⟨hsum, hGA, hckA⟩ := holds_all hc
  have HFC := hide hfct
  have HB0 := hide hb0
  have HFR := hide (fun w' (hb : Below w.heap.size w w') => frees_any n a cap l w' (hl.below hb))
  rw [hc, errV_zero] at HFR
  have HFT := hide (fun w' (hb : Below w.heap.size w w') => fit_any n a cap l size w' (hl.below hb))
  have HL := hide hl
  have HSM := hide hsm
  have HSUM := hide hsum
  have HGA := hide hGA
  have HCA := hide hckA
  have HNO : Hid (fitE n l size ≠ 0 → ∀ r ∈ freeL n l, 1 ≤ size → ¬ size ≤ r.2) := hide (fun hf r hr h1 => by
    rcases fit_no hc hf with h2 | h2
    · omega
    · have := ((most_le (h := freeL n l) (m := 0) (M := mostOf 0 (freeL n l))).1 (Int.le_refl _)).2 r hr
      omega)
  have HLG : Hid (fitE n l size = 0 → (1 ≤ size ∧ size ≤ 6400 ∧ 0 ≤ fitAt n l size ∧ fitAt n l size ≤ 6400) ∧ (size ≤ longOf (fitAt n l size) 0 (freeL n l) ∧ ∀ r ∈ freeL n l, size ≤ r.2 → ¬ r.2 < longOf (fitAt n l size) 0 (freeL n l)) ∧ (l.length < 200 → chk n (l ++ [(fitAt n l size, size)]) = 0)) := hide (fun hf => by
    obtain ⟨_, z1, z2, x, hx, hat, hxs, _⟩ := fit_yes hf
    have := hsm x hx
    exact ⟨by omega, fit_long hf, fun hl => fit_more hf hl⟩)
  clear hl hc hfct hb0 hsm hsum hGA hckA hg
  generalize freeL n l = fr at *
  generalize fitE n l size = E at *
  generalize fitAt n l size = P at *
  go_enter Try.func3, Try.ntmps3
  go_wp2_with fail
  refine (unhide HFC).mono ?_
  rintro e w1 ⟨rfl, hb1⟩
  have HB1 := hide ((unhide HB0).trans (hb1.mono (unhide HB0).size))
  have HF := hide (unhide HFR _ (unhide HB1))
  clear hb1 HFC HB0 HFR
  go_wp2_with fail
  refine (unhide HF).mono ?_
  rintro e w2 ⟨v, rfl, ho2, hb2⟩
  have HB2 := hide ((unhide HB1).trans (hb2.mono (unhide HB1).size))
  obtain ⟨ah, ch, rfl, hx2⟩ := ho2.exs (fun e he => by have := unhide HSM e he; unfold InI; omega) (by omega)
  have HX2 := hide hx2
  have HL2 := hide ((unhide HL).below (unhide HB2))
  have HO := hide (ExO.nil w2 w2.heap.size)
  have hw2 := (unhide HB2).size
  clear hb2 HF HB1 ho2 hx2
  go_wp2_with (at_builtin; refine wpList_append_exs rfl _ _ rfl w2.heap.size (.slice none 0 0) [] rfl (unhide HO) a cap l rfl (unhide HL2) (by simp; omega) (Nat.le_refl _) ?_)
  intro v3 w3 ho3 hb3 _
  have hbel3 : Below w.heap.size w w3 := (unhide HB2).trans (hb3.mono (unhide HB2).size)
  have HB3 := hide hbel3
  have HO3 : Hid (ExO w3 w2.heap.size v3 l) := hide ho3
  have HX3 := hide ((unhide HX2).below hb3)
  have HB23 := hide hb3
  have hs3 := hb3.size
  clear ho3 hb3 hbel3 HL2 HO HB2
  go_wp2_with (at_builtin; refine wpList_append_exs rfl _ _ rfl w2.heap.size v3 l rfl (unhide HO3) ah ch fr rfl (unhide HX3) (by omega) hs3 ?_)
  intro v4 w4 ho4 hb4 _
  have HB4 := hide ((unhide HB3).trans (hb4.mono hw2))
  have HX4 := hide ((unhide HX2).below ((unhide HB23).trans hb4))
  have hlA : (l ++ fr).length ≤ 401 := by rw [List.length_append]; omega
  have HLA := HL
  clear hb4 HB3 HX2 HX3 HB23 HO3 HL
  have hGA := unhide HGA
  generalize l ++ fr = AL at *
  obtain ⟨a4, c4, rfl, hx4⟩ := ho4.exs (fun e he => by have := hGA.all e he; unfold InI; omega) (by omega)
  have HXA := hide hx4
  clear ho4 hx4 hGA
  go_wp2_with fail
  go_loop [12, 13] (fun sv iv => ∃ k : Nat, k ≤ AL.length ∧ iv = .int .i64 k ∧ sv = .int .i64 (lenSum (AL.take k))) (fun _ iv => AL.length - (intOf iv).toNat)
  case atStart => exact ⟨0, Nat.zero_le _, rfl, rfl⟩
  case round =>
    obtain ⟨k, hk, rfl, rfl⟩ := hrel
    by_cases hlt : k < AL.length
    · have hne : AL ≠ [] := by intro e; rw [e] at hlt; simp at hlt
      obtain ⟨b, off, rfl, hcell⟩ := (unhide HXA).2.2.2 hne
      obtain ⟨c0, c1⟩ := hcell k hlt
      have hst := lenSum_take hlt
      have hbd := lenSum_bd (l := AL.take k) (fun e he => by have := (unhide HGA).all e (List.mem_of_mem_take he); omega)
      have hbl : (AL.take k).length ≤ 401 := by simp; omega
      have hin : AL.getD k (0, 0) ∈ AL := by
        have : AL.getD k (0, 0) = AL[k] := by simp [List.getD, hlt]
        rw [this]; exact List.getElem_mem hlt
      have hgk := (unhide HGA).all _ hin
      generalize AL.getD k (0, 0) = r at *
      have HST := hide hst
      generalize lenSum (AL.take k) = q at *
      obtain ⟨x, y⟩ := r
      dsimp only at *
      clear hst hcell hne hin
      go_wp2
      go_round
      case rel => exact ⟨k + 1, by omega, by go_num, by rw [unhide HST]⟩
      case measure => simp [intOf]; omega
    · obtain rfl : k = AL.length := by omega
      rw [List.take_length, unhide HSUM]
      go_upto_region 15 with fail
      go_cut [76] from 63 to 75 (fun u wx => u = .bool false ∧ Below w4.heap.size w4 wx)
      case first =>
        by_cases h200 : AL.length ≤ 200
        · have hck := check_all n a4 c4 AL w4 (unhide HXA)
          rw [unhide HCA h200, errV_zero] at hck
          have HCK := hide hck
          clear hck
          go_wp2_with fail
          refine (unhide HCK).mono ?_
          rintro e w5 ⟨rfl, hb5⟩
          have HB5 := hide hb5
          clear hb5
          go_wp2
          go_meet
          case rel => exact ⟨rfl, unhide HB5⟩
        · have d200 : decide ((AL.length : Int) ≤ 200) = false := decide_eq_false (by omega)
          go_wp2
          go_meet
          case rel => exact ⟨rfl, Below.refl _ _⟩
      case rest =>
      obtain ⟨rfl, hb5⟩ := hcut
      have HB5 := hide ((unhide HB4).trans (hb5.mono (unhide HB4).size))
      have HX5 := hide ((unhide HX4).below hb5)
      clear hb5 HB4 HX4 HXA HSUM HGA HCA
      have HF5 := hide (unhide HFT _ (unhide HB5))
      clear HFT
      by_cases hE : E = 0
      · subst hE
        obtain ⟨⟨z1, z2, z3, z4⟩, ⟨lg1, lg2⟩, hmo⟩ := unhide HLG rfl
        have HL2 := hide lg2
        have HMO := hide hmo
        have HLN : Hid (longOf P 0 (fr.take fr.length) = longOf P 0 fr) := hide (by rw [List.take_length])
        clear HLG HNO lg2 hmo
        generalize hLG : longOf P 0 fr = LG at *
        have HLG := hide hLG
        clear hLG
        rw [errV_zero] at HF5
        go_wp2_with fail
        refine (unhide HF5).mono ?_
        rintro e w6 ⟨rfl, hb6⟩
        have HB6 := hide ((unhide HB5).trans (hb6.mono (unhide HB5).size))
        have HX6 := hide ((unhide HX5).below hb6)
        have HLF := hide ((unhide HLA).below (unhide HB6))
        clear hb6 HF5 HB5 HX5 HLA
        go_wp2_with fail
        go_loop [16, 17] (fun sv iv => ∃ k : Nat, k ≤ fr.length ∧ iv = .int .i64 k ∧ sv = .int .i64 (longOf P 0 (fr.take k))) (fun _ iv => fr.length - (intOf iv).toNat)
        case atStart => exact ⟨0, Nat.zero_le _, rfl, rfl⟩
        case round =>
          obtain ⟨k, hk, rfl, rfl⟩ := hrel
          by_cases hlt : k < fr.length
          · have hne : fr ≠ [] := by intro e; rw [e] at hlt; simp at hlt
            obtain ⟨b, off, rfl, hcell⟩ := (unhide HX6).2.2.2 hne
            obtain ⟨c0, c1⟩ := hcell k hlt
            have hst := long_take (at' := P) hlt
            generalize fr.getD k (0, 0) = r at *
            generalize longOf P 0 (fr.take k) = q at *
            obtain ⟨x, y⟩ := r
            dsimp only at *
            by_cases hxP : x = P
            · rw [if_pos hxP] at hst
              have HST := hide hst
              have dd : (x == P) = true := by simp [hxP]
              clear hst hcell hne
              subst hxP
              go_wp2
              go_round
              case rel => exact ⟨k + 1, by omega, by go_num, by rw [unhide HST]⟩
              case measure => simp [intOf]; omega
            · rw [if_neg hxP] at hst
              have HST := hide hst
              have dd : (x == P) = false := by simp [hxP]
              clear hst hcell hne
              go_wp2
              go_round
              case rel => exact ⟨k + 1, by omega, by go_num, by rw [unhide HST]⟩
              case measure => simp [intOf]; omega
          · obtain rfl : k = fr.length := by omega
            rw [unhide HLN]
            go_wp2_with fail
            go_loop [18] (fun iv => ∃ k : Nat, k ≤ fr.length ∧ iv = .int .i64 k) (fun iv => fr.length - (intOf iv).toNat)
            case atStart => exact ⟨0, Nat.zero_le _, rfl⟩
            case round =>
              obtain ⟨k, hk, rfl⟩ := hrel
              by_cases hlt : k < fr.length
              · have hne : fr ≠ [] := by intro e; rw [e] at hlt; simp at hlt
                obtain ⟨b, off, rfl, hcell⟩ := (unhide HX6).2.2.2 hne
                obtain ⟨c0, c1⟩ := hcell k hlt
                have hin : fr.getD k (0, 0) ∈ fr := by
                  have : fr.getD k (0, 0) = fr[k] := by simp [List.getD, hlt]
                  rw [this]; exact List.getElem_mem hlt
                have hl2 := unhide HL2 _ hin
                generalize fr.getD k (0, 0) = r at *
                obtain ⟨x, y⟩ := r
                dsimp only at *
                clear hcell hne hin
                by_cases hsy : size ≤ y
                · have d2 : decide (y < LG) = false := decide_eq_false (by have := hl2 hsy; omega)
                  clear hl2
                  go_wp2
                  go_round
                  case rel => exact ⟨k + 1, by omega, by go_num⟩
                  case measure => simp [intOf]; omega
                · have d1 : decide (size ≤ y) = false := decide_eq_false hsy
                  clear hl2
                  go_wp2
                  go_round
                  case rel => exact ⟨k + 1, by omega, by go_num⟩
                  case measure => simp [intOf]; omega
              · obtain rfl : k = fr.length := by omega
                have HO7 := hide (ExO.nil w6 w6.heap.size)
                have hw6 := (unhide HB6).size
                go_wp2_with (at_builtin; refine wpList_append_exs rfl _ _ rfl w6.heap.size (.slice none 0 0) [] rfl (unhide HO7) a cap l rfl (unhide HLF) (by simp; omega) (Nat.le_refl _) ?_)
                intro v7 w7 ho7 hb7 _
                have HB7 := hide ((unhide HB6).trans (hb7.mono (unhide HB6).size))
                have ho7' : ExO w7 w6.heap.size v7 l := ho7
                have HO8 : Hid (ExO (w7.alloc (.cells #[.int .i64 P, .int .i64 size] 28)) w6.heap.size v7 l) := hide (World.ownsRow.alloc ho7' _)
                have HE8 := hide (exs_one (ExB.new w7 P size) (by unfold InI; dsimp only; omega))
                have hs7 := hb7.size
                clear ho7 ho7' hb7 HO7 HB6 HLF HX6
                go_wp2_with (at_builtin; refine wpList_append_exs rfl _ _ rfl w6.heap.size v7 l rfl (unhide HO8) (some ⟨w7.heap.size, 0, none⟩) 1 [(P, size)] rfl (unhide HE8) (by simp; omega) (by simp; omega) ?_)
                intro v8 w8 ho8 hb8 _
                have HB8 := hide (((unhide HB7).alloc (unhide HB7).size _).trans (hb8.mono hw6))
                have hlM : (l ++ [(P, size)]).length = l.length + 1 := by simp
                have hgM : l.length < 200 → ∀ e ∈ l ++ [(P, size)], InI e := fun hh e he => by
                  have := (chk_zero.1 (unhide HMO hh)).2.2.2.all e he
                  unfold InI; omega
                by_cases h2 : l.length < 200
                · generalize l ++ [(P, size)] = MM at *
                  obtain ⟨a8, c8, rfl, hx8⟩ := ho8.exs (hgM h2) (by omega)
                  have hck := check_all n a8 c8 MM w8 hx8
                  rw [unhide HMO h2, errV_zero] at hck
                  have HCK := hide hck
                  have d3 : decide ((200 : Int) < (MM.length : Int)) = false := decide_eq_false (by omega)
                  clear hck hx8 ho8 hb8 HB7 HO8 HE8 hgM HMO hlM
                  go_wp2_with fail
                  refine (unhide HCK).mono ?_
                  rintro e w9 ⟨rfl, hb9⟩
                  have HB9 := hide ((unhide HB8).trans (hb9.mono (unhide HB8).size))
                  clear hb9
                  go_wp2
                  go_ret
                  exact ⟨rfl, unhide HB9⟩
                · obtain ⟨a8, c8, hv8⟩ : ∃ a8 c8, v8 = .slice a8 (l ++ [(P, size)]).length c8 := by
                    rcases ho8.2 with ⟨_, h0⟩ | ⟨g, cp, cur, hv, _⟩
                    · rw [hlM] at h0; omega
                    · exact ⟨_, _, hv⟩
                  subst hv8
                  rw [hlM] at *
                  have d3 : decide ((200 : Int) < ((l.length + 1 : Nat) : Int)) = true := decide_eq_true (by omega)
                  clear ho8 hb8 HB7 HO8 HE8 hgM HMO
                  go_wp2
                  go_ret
                  exact ⟨rfl, unhide HB8⟩
      · have hno := unhide HNO hE
        have HNO2 := hide hno
        rw [errV_pos _ hE] at HF5
        clear HLG HNO hno
        go_wp2_with fail
        refine (unhide HF5).mono ?_
        rintro e w6 ⟨rfl, hb6⟩
        have HB6 := hide ((unhide HB5).trans (hb6.mono (unhide HB5).size))
        have HX6 := hide ((unhide HX5).below hb6)
        clear hb6 HF5 HB5 HX5
        go_wp2_with fail
        go_loop [15] (fun iv => ∃ k : Nat, k ≤ fr.length ∧ iv = .int .i64 k) (fun iv => fr.length - (intOf iv).toNat)
        case atStart => exact ⟨0, Nat.zero_le _, rfl⟩
        case round =>
          obtain ⟨k, hk, rfl⟩ := hrel
          by_cases hlt : k < fr.length
          · have hne : fr ≠ [] := by intro e; rw [e] at hlt; simp at hlt
            obtain ⟨b, off, rfl, hcell⟩ := (unhide HX6).2.2.2 hne
            obtain ⟨c0, c1⟩ := hcell k hlt
            have hin : fr.getD k (0, 0) ∈ fr := by
              have : fr.getD k (0, 0) = fr[k] := by simp [List.getD, hlt]
              rw [this]; exact List.getElem_mem hlt
            have hl2 := unhide HNO2 _ hin
            generalize fr.getD k (0, 0) = r at *
            obtain ⟨x, y⟩ := r
            dsimp only at *
            clear hcell hne hin
            by_cases h1 : 1 ≤ size
            · have d2 : decide (size ≤ y) = false := decide_eq_false (by have := hl2 h1; omega)
              clear hl2
              go_wp2
              go_round
              case rel => exact ⟨k + 1, by omega, by go_num⟩
              case measure => simp [intOf]; omega
            · have d1 : decide (1 ≤ size) = false := decide_eq_false h1
              clear hl2
              go_wp2
              go_round
              case rel => exact ⟨k + 1, by omega, by go_num⟩
              case measure => simp [intOf]; omega
          · obtain rfl : k = fr.length := by omega
            go_wp2
            go_ret
            exact ⟨rfl, unhide HB6⟩

theorem walkExtentHolds (n : Int) (a : Option Addr) (cap : Nat) (l : List (Int × Int)) (size : Int) (w : World) (hn : -9223372036854775808 ≤ n ∧ n ≤ 9223372036854775807) (hl : Exs w a cap l) (hsz : -9223372036854775808 ≤ size ∧ size ≤ 9223372036854775807) :
    Calls Try.prog 3 #[.int .i64 n, .slice a l.length cap, .int .i64 size] w fun e w' => e = .returned (.bool true) ∧ Below w.heap.size w w' := by
  by_cases hc : chk n l = 0
  · exact holds_good n a cap l size w hl hc hsz
  · exact holds_bad n a cap l size w hl hc
end Go.Proofs.Ytjipnjmnkfjmhaa
