/-
  The walk of ReachChain. (Part of the proof of ReachChain.)
-/
import Derived.Test.YtmkkiedohphpcaaGreatJRh
import Derived.Test.YtmkkiedohphpcaaGreatJRe
import Derived.Test.YtmkkiedohphpcaaGreatJRu
import Derived.Test.YtmkkiedohphpcaaGreatJRa
namespace Go.Proofs.YtmkkiedohphpcaaGreat
open Go.RowKit
set_option linter.unusedVariables false

def tg1 (_ : Nat) : Int := 1
/-- Of the first i each names the next; of n in all the last names nobody. -/
def fb (n i k : Nat) : Int := if k = 0 ∨ i < k ∨ n ≤ k then 0 else (k : Int) + 1
theorem fb_link {L : List Int} {n : Nat} {f : Nat → Int} (hn1 : 1 ≤ n) (hn2 : n ≤ 30) (h : Chn L 1000 n tg1 f [1]) (hfb : ∀ k, 1 ≤ k → k ≤ n → f k = fb n n k) : Lnk L n :=
  h.link (by omega) hn1 (Nat.le_refl _) (fun j h1 h2 => ⟨rfl, by rw [hfb j h1 (by omega)]; unfold fb; rw [if_neg (by omega)]⟩) (.inr ⟨rfl, by rw [hfb n hn1 (Nat.le_refl _)]; unfold fb; rw [if_pos (by omega)]⟩)
theorem fb_cut {L : List Int} {n K : Nat} {f : Nat → Int} (k1 : 1 ≤ K) (k2 : K ≤ n) (hn2 : n ≤ 30) (h : Chn L 1000 n tg1 (fun j => if j = K then 0 else f j) [1]) (hfb : ∀ k, 1 ≤ k → k ≤ n → f k = fb n n k) : Lnk L K :=
  h.link (by omega) k1 k2 (fun j h1 h2 => ⟨rfl, by rw [if_neg (by omega), hfb j h1 (by omega)]; unfold fb; rw [if_neg (by omega)]⟩) (.inr ⟨rfl, if_pos rfl⟩)
set_option maxRecDepth 100000 in
set_option maxHeartbeats 8000000 in
theorem chain_out (x y : Int) (w : World) (hx : x < 1 ∨ 30 < x) :
    Calls Tryz.prog 4 #[.int .i64 x, .int .i64 y] w fun e w' => e = .returned (.bool true) ∧ Below w.heap.size w w' := by
  have HN := hide (hNew_yes 1000 w (by decide))
  by_cases h1 : x < 1
  · clear hx
    go_enter Tryz.func4, Tryz.ntmps4
    go_wp2_with fail
    refine (unhide HN).mono ?_
    rintro e w1 ⟨p, g, c, rfl, hh1, hb1⟩
    have HB := hide hb1
    clear hh1 hb1 HN
    go_wp2
    go_ret
    exact ⟨rfl, unhide HB⟩
  · have h2 : 30 < x := by omega
    clear hx
    go_enter Tryz.func4, Tryz.ntmps4
    go_wp2_with fail
    refine (unhide HN).mono ?_
    rintro e w1 ⟨p, g, c, rfl, hh1, hb1⟩
    have HB := hide hb1
    clear hh1 hb1 HN
    go_wp2
    go_ret
    exact ⟨rfl, unhide HB⟩
set_option maxRecDepth 100000 in
set_option maxHeartbeats 8000000 in
theorem chain_in (n : Nat) (y : Int) (w : World) (hn1 : 1 ≤ n) (hn2 : n ≤ 30) :
    Calls Tryz.prog 4 #[.int .i64 n, .int .i64 y] w fun e w' => e = .returned (.bool true) ∧ Below w.heap.size w w' := by
  have HN := hide (hNew_yes 1000 w (by decide))
  have HC0 : Hid (∃ f, Chn (zerosB 1000) 1000 0 tg1 f [] ∧ ∀ k, 1 ≤ k → k ≤ 0 → f k = fb n 0 k) := hide ⟨fun _ => 0, Chn.start (by decide) (by decide), fun k h1 h2 => by omega⟩
  generalize zerosB 1000 = Z at *
  have n1 : ¬ ((n : Int) < 1) := by omega
  have n2 : ¬ (30 < (n : Int)) := by omega
  go_enter Tryz.func4, Tryz.ntmps4
  go_wp2_with fail
  refine (unhide HN).mono ?_
  rintro e w1 ⟨p, g0, c0, rfl, hh1, hb1⟩
  have HH1 := hide hh1
  have HB1 := hide hb1
  clear hh1 hb1 HN
  go_wp2_with fail
  go_loopw [7, 8, 9] (fun iv _ _ wr => ∃ (i g c : Nat) (L : List Int) (f : Nat → Int), i ≤ n ∧ iv = .int .i64 ((i : Int) + 1) ∧ Hp wr w.heap.size p g c L ∧ Chn L 1000 i tg1 f [] ∧ (∀ k, 1 ≤ k → k ≤ i → f k = fb n i k) ∧ Below w.heap.size w wr) (fun iv _ _ _ => n + 1 - (intOf iv).toNat)
  case atStart =>
    obtain ⟨f, h1, h2⟩ := unhide HC0
    exact ⟨0, g0, c0, Z, f, Nat.zero_le _, rfl, unhide HH1, h1, h2, unhide HB1⟩
  case round =>
    obtain ⟨i, g, c, L, f, hi, rfl, hh, hch, hfb, hbel⟩ := hrel
    clear HH1 HB1 HC0
    by_cases hlt : i < n
    · obtain ⟨a1, a2, a3⟩ := hch.alloc (by omega) (by omega) (t := 1) (by decide) (by decide)
      have HA := hide (stp_alloc (w := w) a1 a2 wr p g c hh hbel)
      have hch2 : Chn (alB L 2 1) 1000 (i + 1) tg1 (fun k => if k = i + 1 then 0 else f k) [] := by
        have e : (fun k => if k = i + 1 then (1 : Int) else tg1 k) = tg1 := by funext k; unfold tg1; split <;> rfl
        rw [e] at a3
        exact a3
      have hle : (i : Int) + 1 ≤ (n : Int) := by omega
      obtain ⟨I, hI⟩ : ∃ I : Int, (i : Int) + 1 = I := ⟨_, rfl⟩
      by_cases hl2 : i + 1 < n
      · obtain ⟨b1, b2⟩ := hch2.write (by omega) (k := i + 1) (by omega) (Nat.le_refl _) ((i : Int) + 1 + 1)
        have hfb2 : ∀ k, 1 ≤ k → k ≤ i + 1 → (fun j => if j = i + 1 then (i : Int) + 1 + 1 else (fun k => if k = i + 1 then 0 else f k) j) k = fb n (i + 1) k := fun k h1 h2 => by
          dsimp only
          by_cases e : k = i + 1
          · subst e
            rw [if_pos rfl]
            unfold fb
            rw [if_neg (by omega)]
            omega
          · rw [if_neg e, if_neg e, hfb k h1 (by omega)]
            unfold fb
            rw [if_neg (by omega), if_neg (by omega)]
        have HW := hide (fun (W : World) (g c : Nat) (h : Hp W w.heap.size p g c (alB L 2 1)) (hW : Below w.heap.size w W) => stp_write (w := w) (L := alB L 2 1) (k := ((i + 1 : Nat) : Int)) (z := (i : Int) + 1 + 1) b1 rfl (by omega) (by omega) W p g c h hW)
        rw [show ((i + 1 : Nat) : Int) = I by omega, hI] at HW
        rw [hI] at HA hle
        rw [show ((i + 1 : Nat) : Int) = I by omega] at b2
        rw [hI] at b2 hfb2
        have HCH := hide b2
        have HFB := hide hfb2
        have hI40 : 1 ≤ I ∧ I ≤ 30 ∧ I < (n : Int) := by omega
        have HIK : Hid (((i + 1 : Nat) : Int) + 1 = I + 1) := hide (by omega)
        rw [hI]
        clear hh hch hch2 hfb hbel a1 a2 a3 b1 b2 hfb2 hI
        obtain ⟨i1, i2, i3⟩ := hI40
        generalize alB L 2 1 = L2 at *
        generalize wrB L2 I 0 [I + 1] = L3 at *
        have hwr : IntKind.i64.wrap (I + 1) = I + 1 := by rw [IntKind.wrap_i64]; omega
        have hwu : IntKind.u8.wrap (I + 1) = I + 1 := by rw [IntKind.wrap_u8]; omega
        go_wp2_with fail
        refine (unhide HA).mono ?_
        rintro e w2 ⟨rfl, g2, c2, hh2, hb2⟩
        have HW2 := hide (unhide HW w2 g2 c2 hh2 hb2)
        clear hh2 hb2 HA HW
        go_wp2_with fail
        refine (unhide HW2).mono ?_
        rintro e w3 ⟨rfl, g3, c3, hh3, hb3⟩
        have HH3 := hide hh3
        have HB3 := hide hb3
        clear hh3 hb3 HW2
        go_wp2
        go_roundw
        case rel => exact ⟨i + 1, g3, c3, L3, _, by omega, by rw [unhide HIK], unhide HH3, unhide HCH, unhide HFB, unhide HB3⟩
        case measure => simp [intOf]; have := unhide HIK; omega
      · have hin : i + 1 = n := by omega
        have hfb2 : ∀ k, 1 ≤ k → k ≤ i + 1 → (fun k => if k = i + 1 then 0 else f k) k = fb n (i + 1) k := fun k h1 h2 => by
          dsimp only
          by_cases e : k = i + 1
          · subst e
            rw [if_pos rfl]
            unfold fb
            rw [if_pos (by omega)]
          · rw [if_neg e, hfb k h1 (by omega)]
            unfold fb
            rw [if_neg (by omega), if_neg (by omega)]
        rw [hI] at HA hle
        have HCH := hide hch2
        have HFB := hide hfb2
        have hI40 : 1 ≤ I ∧ I ≤ 30 ∧ ¬ I < (n : Int) := by omega
        have HIK : Hid (((i + 1 : Nat) : Int) + 1 = I + 1) := hide (by omega)
        rw [hI]
        clear hh hch hch2 hfb hbel a1 a2 a3 hfb2 hI hin
        obtain ⟨i1, i2, i3⟩ := hI40
        generalize alB L 2 1 = L2 at *
        go_wp2_with fail
        refine (unhide HA).mono ?_
        rintro e w2 ⟨rfl, g2, c2, hh2, hb2⟩
        have HH3 := hide hh2
        have HB3 := hide hb2
        clear hh2 hb2 HA
        go_wp2
        go_roundw
        case rel => exact ⟨i + 1, g2, c2, L2, _, by omega, by rw [unhide HIK], unhide HH3, unhide HCH, unhide HFB, unhide HB3⟩
        case measure => simp [intOf]; have := unhide HIK; omega
    · have hin : i = n := by omega
      rw [hin] at hch hfb
      obtain ⟨s1, s2, s3⟩ := hch.set (by omega) hn1 (s := nmA) (by decide)
      have hsO : seO L nmA 1 = true := by unfold seO; rw [s1, s2]; rfl
      have hsF : seF L nmA 1 = seB L nmA 1 := by unfold seF; rw [if_pos s1]
      have hset := stp_set (w := w) L nmA 1 (by decide) wr p g c hh hbel
      rw [hsO, hsF, s1, errV_zero] at hset
      have HS := hide hset
      have hlk := fb_link hn1 hn2 s3 hfb
      have hwy : wyL (seB L nmA 1) n = upto n := by rw [hlk.ways, if_pos (by omega), Int.toNat_natCast]
      have hul := upto_len n
      have hwn : wyL (seB L nmA 1) n ≠ [] := by
        rw [hwy]
        intro e
        rw [e] at hul
        simp at hul
        omega
      have HP := hide (fun (W : World) (g c : Nat) (h : Hp W w.heap.size p g c (seB L nmA 1)) => path_yes h (n : Int) hwn)
      rw [hwy] at HP
      have HLV := hide (fun (W : World) (g c : Nat) (h : Hp W w.heap.size p g c (seB L nmA 1)) => live_count (n := n) h (by rw [hlk.live (by omega)]; exact upto_len n))
      have HUG := hide (fun j (hj : j < n) => upto_getD (k := n) hj)
      have HCH := hide s3
      have HFB := hide hfb
      have hge : ¬ ((i : Int) + 1 ≤ (n : Int)) := by omega
      have HNM : Hid (nmA = { data := #[97] }) := hide rfl
      clear hh hch hfb hbel s1 s2 s3 hsO hsF hset hlk hwy hwn hin hlt hi
      generalize seB L nmA 1 = L4 at *
      unfold nmA at HS
      generalize upto n = UP at *
      go_wp2_with fail
      refine (unhide HS).mono ?_
      rintro e w5 ⟨rfl, g5, c5, hh5, hb5⟩
      have HP5 := hide (unhide HP w5 g5 c5 hh5)
      have HH5 := hide hh5
      have HB5 := hide hb5
      clear hh5 hb5 HS HP
      go_wp2_with fail
      refine (unhide HP5).mono ?_
      rintro e w6 ⟨v6, rfl, hl6, hb6⟩
      obtain ⟨a6, c6, rfl, hs6⟩ := hl6.sls inC_len (by omega)
      have hh6 := (unhide HH5).below hb6
      have HL6 := hide (unhide HLV w6 g5 c5 hh6)
      have HH6 := hide hh6
      have HS6 := hide hs6
      have HB6 := hide ((unhide HB5).trans (hb6.mono (unhide HB5).size))
      have hcl := hs6.2.2.1
      rw [hul]
      clear hl6 hs6 hh6 hb6 HP5 HH5 HB5 HLV
      go_wp2_with fail
      refine (unhide HL6).mono ?_
      rintro e w7 ⟨a7, c7, rfl, hb7⟩
      have HH7 := hide ((unhide HH6).below hb7)
      have HS7 := hide ((unhide HS6).below hb7)
      have HB7 := hide ((unhide HB6).trans (hb7.mono (unhide HB6).size))
      clear hb7 HL6 HH6 HS6 HB6
      go_wp2_with fail
      go_loop [14] (fun iv => ∃ j : Nat, j ≤ n ∧ iv = .int .i64 (j : Int)) (fun iv => n - (intOf iv).toNat)
      case atStart => exact ⟨0, Nat.zero_le _, rfl⟩
      case round =>
        obtain ⟨j, hj, rfl⟩ := hrel
        by_cases hjl : j < n
        · have hat : UP[j]? = some ((j : Int) + 1) := by
            have h1 : j < UP.length := by omega
            have := unhide HUG j hjl
            rw [List.getD, List.getElem?_eq_getElem h1] at this
            rw [List.getElem?_eq_getElem h1]
            exact congrArg some this
          obtain ⟨b3, o3, rfl, hc3⟩ := (unhide HS7).2.2.2 (by intro e; rw [e] at hul; simp at hul; omega)
          have q0 := Sls.num (cap := 0) hc3 hat
          have hjb : (j : Int) + 1 ≤ 1000 := by omega
          clear hc3 hat
          go_wp2
          go_round
          case rel => exact ⟨j + 1, by omega, by go_num⟩
          case measure => simp [intOf]; omega
        · have hjn : ¬ ((j : Int) < (n : Int)) := by omega
          clear hjl hj HS7 HUG
          by_cases y1 : y < 1
          · go_wp2
            go_ret
            exact ⟨rfl, unhide HB7⟩
          by_cases y2 : (n : Int) < y
          · go_wp2
            go_ret
            exact ⟨rfl, unhide HB7⟩
          obtain ⟨K, rfl⟩ := Int.eq_ofNat_of_zero_le (show 0 ≤ y by omega)
          obtain ⟨b1, b2⟩ := (unhide HCH).write (by omega) (k := K) (by omega) (by omega) 0
          have HW := hide (stp_write (w := w) (L := L4) (k := (K : Int)) (z := 0) b1 rfl (by decide) (by decide) w7 p g5 c5 (unhide HH7) (unhide HB7))
          have hlk := fb_cut (by omega) (by omega) hn2 b2 (unhide HFB)
          have hdd : (ddK (wrB L4 K 0 [0]) 40).length = n - K := hlk.dead (by omega) (by omega) (b2.tags (by omega))
          have hsw := sweep_swept hlk.fine
          have hlv : (lvK (swL (wrB L4 K 0 [0]) (ddK (wrB L4 K 0 [0]) 40)) 40).length = K := by rw [sweep_live hlk.fine hsw, hlk.live (by omega), upto_len]
          have hdz : (ddK (swL (wrB L4 K 0 [0]) (ddK (wrB L4 K 0 [0]) 40)) 40).length = 0 := by rw [sweep_none hlk.fine hsw]; rfl
          have HSW := hide (fun (W : World) (g c : Nat) (h : Hp W w.heap.size p g c (wrB L4 K 0 [0])) (hW : Below w.heap.size w W) => stp_sweep (w := w) (wrB L4 K 0 [0]) W p g c h hW)
          rw [hdd] at HSW
          have HL9 := hide (fun (W : World) (g c : Nat) (h : Hp W w.heap.size p g c (swL (wrB L4 K 0 [0]) (ddK (wrB L4 K 0 [0]) 40))) => live_count h hlv)
          have HD9 := hide (fun (W : World) (g c : Nat) (h : Hp W w.heap.size p g c (swL (wrB L4 K 0 [0]) (ddK (wrB L4 K 0 [0]) 40))) => dead_count h hdz)
          clear b1 b2 hlk hdd hsw hlv hdz HCH HFB HH7 HB7
          generalize swL (wrB L4 K 0 [0]) (ddK (wrB L4 K 0 [0]) 40) = L6 at *
          generalize wrB L4 K 0 [0] = L5 at *
          rw [show ((n - K : Nat) : Int) = (n : Int) - (K : Int) by omega] at HSW
          have hkn : (K : Int) ≤ (n : Int) := by omega
          go_wp2_with fail
          refine (unhide HW).mono ?_
          rintro e w8 ⟨rfl, g8, c8, hh8, hb8⟩
          have HS8 := hide (unhide HSW w8 g8 c8 hh8 hb8)
          clear hh8 hb8 HW HSW
          go_wp2_with fail
          refine (unhide HS8).mono ?_
          rintro e w9 ⟨rfl, g9, c9, hh9, hb9⟩
          have HL9' := hide (unhide HL9 w9 g9 c9 hh9)
          have HH9 := hide hh9
          have HB9 := hide hb9
          clear hh9 hb9 HS8 HL9
          go_wp2_with fail
          refine (unhide HL9').mono ?_
          rintro e wa ⟨aa, ca, rfl, hba⟩
          have HDa := hide (unhide HD9 wa g9 c9 ((unhide HH9).below hba))
          have HBa := hide ((unhide HB9).trans (hba.mono (unhide HB9).size))
          clear hba HL9' HH9 HB9 HD9
          go_wp2_with fail
          refine (unhide HDa).mono ?_
          rintro e wb ⟨ab, cb, rfl, hbb⟩
          have HBb := hide ((unhide HBa).trans (hbb.mono (unhide HBa).size))
          clear hbb HDa HBa
          go_wp2
          go_ret
          exact ⟨rfl, unhide HBb⟩
theorem walkReachChain (x y : Int) (w : World) :
    Calls Tryz.prog 4 #[.int .i64 x, .int .i64 y] w fun e w' => e = .returned (.bool true) ∧ Below w.heap.size w w' := by
  by_cases hx : x < 1 ∨ 30 < x
  · exact chain_out x y w hx
  · obtain ⟨n, rfl⟩ := Int.eq_ofNat_of_zero_le (show 0 ≤ x by omega)
    exact chain_in n y w (by omega) (by omega)
end Go.Proofs.YtmkkiedohphpcaaGreat
