/-
  The contract of the document's own Three. (Part of the proof of MergeTells.)
-/
import Derived.Test.YtifmemombecoaaaGreatDoorJRm
import Derived.BigQuiet
import Derived.Deep.CutRange
namespace Go.Proofs.YtifmemombecoaaaGreatDoor
open Go.RowKit
set_option linter.unusedVariables false
theorem sd_has {A B : List Int} {n : Nat} (hn : (mvK A B 40).length = n) (a : Option Addr) (c : Nat) (k : Int) (h1 : 1 <= k) (h2 : k <= 40) (W : World) (hs : Sls inC 1 W a c (mvK A B 40)) {q : Bool} (hq : (!decide (objOf A k = objOf B k)) = q) :
  Calls Tryz.prog 20 #[.slice a n c, .int .i64 k] W fun e w' => e = .returned (.bool q) /\ W = w' := by
 have h := sHas_any a c (mvK A B 40) k W hs
 rw [mvK_any h1 h2, hq, hn] at h
 exact h
def SThr (w : World) (E : Int) (Z T : List Int) (e : Ending) (w' : World) : Prop := ∃ x c v, e = .returned (.tuple #[.slice x Z.length c, v, .int .i64 E]) /\ Bs w' x c Z /\ Lst inC 1 3 w' w.heap.size v T /\ Below w.heap.size w w'
set_option maxRecDepth 100000 in
set_option maxHeartbeats 16000000 in
theorem sThree_any (am aa ab : Option Addr) (cm ca cb : Nat) (M A B : List Int) (N : Nat) (w : World) (hM : Bs w am cm M) (hA : Bs w aa ca A) (hB : Bs w ab cb B) (fm : Fine M) (fa : Fine A) (fb : Fine B) (hN : M.length = N) (hla : A.length = N) (hlb : B.length = N) :
  Calls Tryz.prog 10 #[.slice am N cm, .slice aa N ca, .slice ab N cb] w (SThr w (mgS M A B).1 (mgS M A B).2 (sdT M A B)) := by
 obtain ⟨i0, hi0, hz0, hz1, hz2⟩ := info_parts info_inS
 have hlen := fm.len
 rw [hN] at hlen
 have HMV1 := hide (sMoved_any am aa cm ca M A w hM hA fm fa)
 have HMV2 := hide (fun (W : World) (hW : Below w.heap.size w W) => sMoved_any am ab cm cb M B W (hM.below hW) (hB.below hW) fm fb)
 have HMV3 := hide (fun (W : World) (hW : Below w.heap.size w W) => sMoved_any aa ab ca cb A B W (hA.below hW) (hB.below hW) fa fb)
 rw [hN, hla] at HMV1
 rw [hN, hlb] at HMV2
 rw [hla, hlb] at HMV3
 have HOA := hide (fun (k : Int) (h1 : 1 <= k) (h2 : k <= 40) (W : World) (hW : Below w.heap.size w W) => sd_obj hla fa aa ca k h1 h2 W (hA.below hW) rfl)
 have HOB := hide (fun (k : Int) (h1 : 1 <= k) (h2 : k <= 40) (W : World) (hW : Below w.heap.size w W) => sd_obj hlb fb ab cb k h1 h2 W (hB.below hW) rfl)
 have HST := hide (fun (W : World) => Tr.start (w0 := W) (M := M) (A := A) (B := B) fm)
 rw [hN] at HST
 have HFI := hide (And.intro fm (And.intro fa fb))
 have HBY := hide (And.intro hM.1 (And.intro hA.1 hB.1))
 have HBS := hide (And.intro hM (And.intro hA hB))
 have HLN := hide (And.intro hN (And.intro hla hlb))
 have hmk : ∀ w', Sem.run Tryz.prog (Instr.makeSlice 22 (.int .i64 N) (.int .i64 N)) w' = .ok (.slice (some ⟨w'.heap.size, 0, none⟩) N N) (mkW w' N) := fun w' => run_make_u8 w' N (by omega)
 have HSD : Hid (sdT M A B = if (mgS M A B).1 = 0 then tdK M A B 40 else []) := hide rfl
 obtain ⟨ME, hME⟩ : ∃ x, (mgS M A B).1 = x := ⟨_, rfl⟩
 obtain ⟨MZ, hMZ⟩ : ∃ x, (mgS M A B).2 = x := ⟨_, rfl⟩
 obtain ⟨MT, hMT⟩ : ∃ x, sdT M A B = x := ⟨_, rfl⟩
 have HMG : Hid (mgS M A B = (ME, MZ)) := hide (by rw [<- hME, <- hMZ])
 rw [hME, hMZ, hMT]
 rw [hMT, hME] at HSD
 clear hM hA hB fm fa fb hN hla hlb hME hMZ hMT
 go_enter Tryz.func10, Tryz.ntmps10
 go_wp2_with fail
 refine (unhide HMV1).mono ?_
 rintro e w1 ⟨v1, rfl, hl1, hb1⟩
 obtain ⟨x1, d1, rfl, hs1⟩ := hl1.sls inC_len (Nat.le_trans (mvK_len M A 40) (by omega))
 have HM2 := hide (unhide HMV2 w1 hb1)
 have HS1 := hide hs1
 have HB1 := hide hb1
 clear hl1 hs1 hb1 HMV1 HMV2
 go_wp2_with fail
 refine (unhide HM2).mono ?_
 rintro e w2 ⟨v2, rfl, hl2, hb2⟩
 obtain ⟨x2, d2, rfl, hs2⟩ := hl2.sls inC_len (Nat.le_trans (mvK_len M B 40) (by omega))
 have hB2 := (unhide HB1).trans (hb2.mono (unhide HB1).size)
 have HM3 := hide (unhide HMV3 w2 hB2)
 have HS2 := hide (And.intro ((unhide HS1).below hb2) hs2)
 have HB2 := hide hB2
 clear hl2 hs2 hb2 hB2 HM2 HMV3 HS1 HB1
 go_wp2_with fail
 refine (unhide HM3).mono ?_
 rintro e w3 ⟨v3, rfl, hl3, hb3⟩
 obtain ⟨x3, d3, rfl, hs3⟩ := hl3.sls inC_len (Nat.le_trans (mvK_len A B 40) (by omega))
 have HS3 := hide (And.intro ((unhide HS2).1.below hb3) (And.intro ((unhide HS2).2.below hb3) hs3))
 have hB3 := (unhide HB2).trans (hb3.mono (unhide HB2).size)
 have HTS := hide (unhide HST w3)
 have HP1 := hide (fun (k : Int) (h1 : 1 <= k) (h2 : k <= 40) (W : World) (hW : Below w3.heap.size w3 W) (q : Bool) (hq : (!decide (objOf M k = objOf A k)) = q) => sd_has rfl x1 d1 k h1 h2 W ((unhide HS3).1.below hW) hq)
 have HP2 := hide (fun (k : Int) (h1 : 1 <= k) (h2 : k <= 40) (W : World) (hW : Below w3.heap.size w3 W) (q : Bool) (hq : (!decide (objOf M k = objOf B k)) = q) => sd_has rfl x2 d2 k h1 h2 W ((unhide HS3).2.1.below hW) hq)
 have HP3 := hide (fun (k : Int) (h1 : 1 <= k) (h2 : k <= 40) (W : World) (hW : Below w3.heap.size w3 W) (q : Bool) (hq : (!decide (objOf A k = objOf B k)) = q) => sd_has rfl x3 d3 k h1 h2 W ((unhide HS3).2.2.below hW) hq)
 have HB3 := hide hB3
 clear hl3 hs3 hb3 hB3 HM3 HST HS2 HB2 HS3
 have hk1 := mvK_len M A 40
 have hk2 := mvK_len M B 40
 have hk3 := mvK_len A B 40
 generalize (mvK M A 40).length = n1 at *
 generalize (mvK M B 40).length = n2 at *
 generalize (mvK A B 40).length = n3 at *
 go_wp2_with fail
 generalize mkW w3 N = w4 at *
 go_loopw [12, 13, 14, 15, 16, 17, 18, 19, 20, 21] (fun ov av tv hv _ _ _ _ _ _ wr => ∃ (k at_ : Nat) (a' : Option Addr) (c' : Nat), k <= 40 /\ ov = .slice a' N c' /\ av = .int .i64 at_ /\ hv = .int .i64 ((k : Int) + 1) /\ Tr w3 wr M A B k a' c' at_ tv (tdK M A B k)) (fun _ _ _ hv _ _ _ _ _ _ _ => 41 - (intOf hv).toNat)
 case atStart => exact ⟨0, 288, _, _, by omega, rfl, rfl, rfl, unhide HTS⟩
 case round =>
  obtain ⟨k, at_, a', c', hk40, rfl, rfl, rfl, htr⟩ := hrel
  clear HTS
  obtain ⟨va, vm, vc, rfl⟩ := htr.td.shape
  by_cases hlt : k < 40
  ·have hBk := htr.base
   have hBw := (unhide HB3).trans (hBk.mono (unhide HB3).size)
   have HO1 := hide (fun (W : World) (hW : Below w3.heap.size w3 W) => unhide HOA ((k : Int) + 1) (by omega) (by omega) W ((unhide HB3).trans (hW.mono (unhide HB3).size)))
   have HO2 := hide (fun (W : World) (hW : Below w3.heap.size w3 W) => unhide HOB ((k : Int) + 1) (by omega) (by omega) W ((unhide HB3).trans (hW.mono (unhide HB3).size)))
   have HQ1 := hide (unhide HP1 ((k : Int) + 1) (by omega) (by omega) wr hBk)
   have HQ2 := hide (unhide HP2 ((k : Int) + 1) (by omega) (by omega) wr hBk)
   have HQ3 := hide (unhide HP3 ((k : Int) + 1) (by omega) (by omega) wr hBk)
   have HTR := hide htr
   have HBOA := hide (byt_obj (h := (k : Int) + 1) (unhide HBY).2.1)
   have HBOB := hide (byt_obj (h := (k : Int) + 1) (unhide HBY).2.2)
   have HTH : Hid (thO M A B ((k : Int) + 1) = if objOf M ((k : Int) + 1) = objOf A ((k : Int) + 1) then objOf B ((k : Int) + 1) else objOf A ((k : Int) + 1)) := hide rfl
   have HTT := hide (thT_is M A B ((k : Int) + 1))
   have HTD := hide (tdK_succ M A B k)
   have HTL := hide (tdK_len M A B k)
   have HNE0 : Hid ((pkS M.length (thO M A B) k).2.2 ≠ []) := hide (fun hc => by
    have := (htr.pk (unhide HFI).1 (unhide HFI).2.1 (unhide HFI).2.2 (unhide HBY).2.1 (unhide HBY).2.2 hk40).len
    rw [hc] at this
    have h2 := (unhide HFI).1.len
    simp at this
    omega)
   clear hBk hBw htr
   have HTHp : Hid (thO M A B ((k : Int) + 1) = if (!decide (objOf M ((k : Int) + 1) = objOf A ((k : Int) + 1))) = true then objOf A ((k : Int) + 1) else objOf B ((k : Int) + 1)) := hide (by
    rw [unhide HTH]
    by_cases hp : objOf M ((k : Int) + 1) = objOf A ((k : Int) + 1)
    ·rw [if_pos hp, if_neg (by simp [hp])]
    ·rw [if_neg hp, if_pos (by simp [hp])])
   have HR1 := hide (unhide HQ1 _ rfl)
   have HR2 := hide (unhide HQ2 _ rfl)
   have HR3 := hide (unhide HQ3 _ rfl)
   clear HQ1 HQ2 HQ3 HTH
   generalize (!decide (objOf M ((k : Int) + 1) = objOf A ((k : Int) + 1))) = q1 at *
   generalize (!decide (objOf M ((k : Int) + 1) = objOf B ((k : Int) + 1))) = q2 at *
   generalize (!decide (objOf A ((k : Int) + 1) = objOf B ((k : Int) + 1))) = q3 at *
   generalize (objOf A ((k : Int) + 1)) = OA at *
   generalize (objOf B ((k : Int) + 1)) = OB at *
   cases q1 with
   | false =>
    have HTH2 : Hid (thO M A B ((k : Int) + 1) = OB) := hide (by rw [unhide HTHp, if_neg (by decide)])
    have htd := unhide HTD
    rw [unhide HTT, Bool.false_and, if_neg (by decide), List.append_nil] at htd
    have HBO := hide (unhide HBOB)
    have HOk := hide (unhide HO1 wr (unhide HTR).base)
    rw [<- htd] at HTR
    clear htd HTD HTT HO1 HBOA HBOB HTHp HTL HNE0
    go_wp2_with fail
    refine (unhide HR1).mono ?_
    rintro e w5 ⟨rfl, rfl⟩
    go_wp2_with fail
    refine (unhide HR2).mono ?_
    rintro e w5 ⟨rfl, rfl⟩
    go_wp2_with fail
    refine (unhide HR3).mono ?_
    rintro e w5 ⟨rfl, rfl⟩
    clear HR1 HR2 HR3
    go_wp2_with fail
    refine (unhide HOk).mono ?_
    rintro e w6 ⟨rfl, hb6⟩
    have ht6 := (unhide HTR).below hb6
    have HOl := hide (unhide HO2 w6 ht6.base)
    have HT6 := hide ht6
    clear hb6 ht6 HOk HO2 HTR
    go_wp2_with fail
    refine (unhide HOl).mono ?_
    rintro e w7 ⟨rfl, hb7⟩
    have HTX := hide ((unhide HT6).below hb7)
    clear hb7 HOl HT6
    obtain ⟨tg, bs⟩ := OB
    dsimp only at *
    have hth := unhide HTH2
    have hsz : (strOf bs).size = bs.length := by
     have hby : Byt bs := unhide HBO
     rw [<- length_strL, strL_strOf bs hby]
    have HSZ := hide hsz
    clear hsz
    have HSL : Hid (strL (strOf bs) = bs) := hide (strL_strOf bs (unhide HBO))
    have HTW := hide (unhide HTX)
    have hat := ((unhide HTX).pk (unhide HFI).1 (unhide HFI).2.1 (unhide HFI).2.2 (unhide HBY).2.1 (unhide HBY).2.2 hk40).lo
    rw [(unhide HLN).1] at hat
    have hS0 : (strOf bs).size <= 1000 := by
     rw [unhide HSZ]
     have hO := thO_ok (m := M) (unhide HFI).2.1 (unhide HBY).2.1 (unhide HFI).2.2 (unhide HBY).2.2 ((k : Int) + 1) (by omega) (by omega)
     rw [hth] at hO
     rcases hO with hO | hO
     ·rw [Prod.mk.injEq] at hO
      rw [hO.2]
      simp
     ·exact hO.2.2.2.1
    clear HTX HTH2 HBO
    have HTHX := hide hth
    clear hth
    generalize strOf bs = S at *
    by_cases ht : tg < 0
    ·have HTN := hide ((unhide HTW).skip (by rw [unhide HTHX]; exact ht))
     clear HTW HTHX HSL HSZ
     go_wp2
     go_roundw
     case rel => exact ⟨k + 1, at_, a', c', by omega, rfl, rfl, by go_num, unhide HTN⟩
     case measure => simp [intOf]; omega
    ·by_cases hfit : N < at_ + bs.length
     ·have hmg := (unhide HTW).full (by rw [unhide HTHX]; exact ht) (by rw [unhide HTHX, (unhide HLN).1]; exact hfit) hlt
      rw [unhide HMG, Prod.mk.injEq] at hmg
      obtain ⟨rfl, rfl⟩ := hmg
      have hmt := unhide HSD
      rw [if_neg (by decide)] at hmt
      subst hmt
      have HBW := hide ((unhide HB3).trans ((unhide HTW).base.mono (unhide HB3).size))
      have hgt : (N : Int) < (at_ : Int) + (S.size : Int) := by have := unhide HSZ; omega
      clear HTW HTHX HSL HMG HSD
      go_wp2
      go_ret3
      exact ⟨none, 0, _, rfl, bs_nil _, Lst.nil _ _, unhide HBW⟩
     ·obtain ⟨r1, r2, r3, r4, r5, r6, r7, r8⟩ := (unhide HTW).room (unhide HFI).1 (unhide HFI).2.1 (unhide HFI).2.2 (unhide HBY).2.1 (unhide HBY).2.2 hlt (unhide HTHX) ht (by rw [(unhide HLN).1]; exact hfit)
      have hpkl : (pkS M.length (thO M A B) k).2.2.length = N := (((unhide HTW).pk (unhide HFI).1 (unhide HFI).2.1 (unhide HFI).2.2 (unhide HBY).2.1 (unhide HBY).2.2 hk40).len).trans (unhide HLN).1
      have HPE := hide (rPE_own a' c' (pkS M.length (thO M A B) k).2.2 ((k : Int) + 1) at_ bs.length tg w7 (unhide HTW).bs r1)
      rw [hpkl] at HPE
      replace r6 := r6.trans (unhide HLN).1
      replace r7 := r7.trans (unhide HLN).1
      have HRM := hide (And.intro r2 (And.intro r3 (And.intro r5 r6)))
      have HR4 := hide r4
      have hngt : ¬ (N : Int) < (at_ : Int) + (S.size : Int) := by have := unhide HSZ; omega
      have HBW := hide (unhide HTW).base.size
      clear r1 r2 r3 r4 r5 r6 r8 hpkl HTHX
      rw [<- unhide HSZ] at HPE HR4 r7
      generalize putL (pkS M.length (thO M A B) k).2.2 ((k : Int) + 1, (at_ : Int), (S.size : Int), tg) = P at *
      have HPL := hide r7
      clear r7 hfit
      go_wp2_with fail
      refine (unhide HPE).mono ?_
      rintro e w8 ⟨g8, c8, rfl, hown8, hb8⟩
      have hgb := hown8.base
      have HO8 := hide hown8
      have HB8 := hide hb8
      clear hown8 hb8 HPE
      go_wp2_with fail
      go_loopw [21] (fun jv wq => ∃ j : Nat, j <= S.size /\ jv = .int .i64 j /\ Own wq w7.heap.size g8 c8 (splice P at_ (bs.take j)) /\ Below w7.heap.size w7 wq) (fun jv _ => S.size - (intOf jv).toNat)
      case atStart => exact ⟨0, Nat.zero_le _, rfl, by
       rw [List.take_zero, show splice P at_ [] = P by unfold splice; simp]
       exact unhide HO8, unhide HB8⟩
      case round =>
       obtain ⟨j, hj, rfl, hown, hbel⟩ := hrel
       clear HO8 HB8
       by_cases hjm : j < S.size
       ·have hsl : (splice P at_ (bs.take j)).length = N := by rw [length_splice (by rw [List.length_take, unhide HPL]; omega)]; exact unhide HPL
        have hcl := hown.cell (at_ + j) (by rw [hsl]; omega)
        have hfz := hown.frozen (at_ + j)
        have hset := hown.set (at_ + j) (bs.getD j 0)
        rw [splice_moreM (by rw [<- unhide HSZ]; exact hjm) (by rw [<- unhide HSZ, unhide HPL]; omega)] at hset
        have hgd : bs.getD j 0 = (S[j].toNat : Int) := by rw [<- unhide HSL, strL_getD S j hjm]
        rw [hgd] at hset
        have HO2 := hide hset
        have HB2 := hide (hbel.setCell (p := ⟨g8, at_ + j, none⟩) hgb (.int .u8 (S[j].toNat : Int)))
        clear hown hbel hset hgd hsl
        generalize (splice P at_ (bs.take j)).getD (at_ + j) 0 = y at *
        go_wp2
        go_roundw
        case rel => exact ⟨j + 1, by omega, by go_num, unhide HO2, unhide HB2⟩
        case measure => simp [intOf]; omega
       ·obtain rfl : j = S.size := by omega
        rw [List.take_of_length_le (by rw [<- unhide HSZ]; omega), <- unhide HR4] at hown
        have hbs6 := hown.bs (unhide HRM).2.2.1 (by rw [(unhide HRM).2.2.2]; omega)
        have htn : Tr w3 _ M A B (k + 1) (some ⟨g8, 0, none⟩) c8 (at_ + S.size) _ (tdK M A B (k + 1)) := ⟨(unhide HRM).1, hbs6, (unhide HRM).2.1.trans (by rw [unhide HSZ]), (unhide HTW).td.below hbel, fun x hx e => by
         simp only [Option.some.injEq] at hx
         subst hx
         have h1 := (unhide HTW).td.ownLtM e
         dsimp only at h1
         omega, (unhide HTW).base.trans (hbel.mono (unhide HBW))⟩
        have HTN := hide htn
        clear hown hbel hbs6 htn HTW HR4 HRM HSL
        go_wp2
        go_roundw
        case rel => exact ⟨k + 1, at_ + S.size, _, _, by omega, rfl, by go_num, by go_num, unhide HTN⟩
        case measure => simp [intOf]; omega
   | true =>
    cases q2 with
    | false =>
     have HTH2 : Hid (thO M A B ((k : Int) + 1) = OA) := hide (by rw [unhide HTHp, if_pos rfl])
     have htd := unhide HTD
     rw [unhide HTT, if_neg (by simp), List.append_nil] at htd
     have HBO := hide (unhide HBOA)
     have HOk := hide (unhide HO1 wr (unhide HTR).base)
     rw [<- htd] at HTR
     clear htd HTD HTT HO1 HO2 HBOA HBOB HTHp HTL HNE0
     go_wp2_with fail
     refine (unhide HR1).mono ?_
     rintro e w5 ⟨rfl, rfl⟩
     go_wp2_with fail
     refine (unhide HR2).mono ?_
     rintro e w5 ⟨rfl, rfl⟩
     go_wp2_with fail
     refine (unhide HR3).mono ?_
     rintro e w5 ⟨rfl, rfl⟩
     clear HR1 HR2 HR3
     go_wp2_with fail
     refine (unhide HOk).mono ?_
     rintro e w6 ⟨rfl, hb6⟩
     have HTX := hide ((unhide HTR).below hb6)
     clear hb6 HOk HTR
     obtain ⟨tg, bs⟩ := OA
     dsimp only at *
     have hth := unhide HTH2
     have hsz : (strOf bs).size = bs.length := by
      have hby : Byt bs := unhide HBO
      rw [<- length_strL, strL_strOf bs hby]
     have HSZ := hide hsz
     clear hsz
     have HSL : Hid (strL (strOf bs) = bs) := hide (strL_strOf bs (unhide HBO))
     have HTW := hide (unhide HTX)
     have hat := ((unhide HTX).pk (unhide HFI).1 (unhide HFI).2.1 (unhide HFI).2.2 (unhide HBY).2.1 (unhide HBY).2.2 hk40).lo
     rw [(unhide HLN).1] at hat
     have hS0 : (strOf bs).size <= 1000 := by
      rw [unhide HSZ]
      have hO := thO_ok (m := M) (unhide HFI).2.1 (unhide HBY).2.1 (unhide HFI).2.2 (unhide HBY).2.2 ((k : Int) + 1) (by omega) (by omega)
      rw [hth] at hO
      rcases hO with hO | hO
      ·rw [Prod.mk.injEq] at hO
       rw [hO.2]
       simp
      ·exact hO.2.2.2.1
     clear HTX HTH2 HBO
     have HTHX := hide hth
     clear hth
     generalize strOf bs = S at *
     by_cases ht : tg < 0
     ·have HTN := hide ((unhide HTW).skip (by rw [unhide HTHX]; exact ht))
      clear HTW HTHX HSL HSZ
      go_wp2
      go_roundw
      case rel => exact ⟨k + 1, at_, a', c', by omega, rfl, rfl, by go_num, unhide HTN⟩
      case measure => simp [intOf]; omega
     ·by_cases hfit : N < at_ + bs.length
      ·have hmg := (unhide HTW).full (by rw [unhide HTHX]; exact ht) (by rw [unhide HTHX, (unhide HLN).1]; exact hfit) hlt
       rw [unhide HMG, Prod.mk.injEq] at hmg
       obtain ⟨rfl, rfl⟩ := hmg
       have hmt := unhide HSD
       rw [if_neg (by decide)] at hmt
       subst hmt
       have HBW := hide ((unhide HB3).trans ((unhide HTW).base.mono (unhide HB3).size))
       have hgt : (N : Int) < (at_ : Int) + (S.size : Int) := by have := unhide HSZ; omega
       clear HTW HTHX HSL HMG HSD
       go_wp2
       go_ret3
       exact ⟨none, 0, _, rfl, bs_nil _, Lst.nil _ _, unhide HBW⟩
      ·obtain ⟨r1, r2, r3, r4, r5, r6, r7, r8⟩ := (unhide HTW).room (unhide HFI).1 (unhide HFI).2.1 (unhide HFI).2.2 (unhide HBY).2.1 (unhide HBY).2.2 hlt (unhide HTHX) ht (by rw [(unhide HLN).1]; exact hfit)
       have hpkl : (pkS M.length (thO M A B) k).2.2.length = N := (((unhide HTW).pk (unhide HFI).1 (unhide HFI).2.1 (unhide HFI).2.2 (unhide HBY).2.1 (unhide HBY).2.2 hk40).len).trans (unhide HLN).1
       have HPE := hide (rPE_own a' c' (pkS M.length (thO M A B) k).2.2 ((k : Int) + 1) at_ bs.length tg w6 (unhide HTW).bs r1)
       rw [hpkl] at HPE
       replace r6 := r6.trans (unhide HLN).1
       replace r7 := r7.trans (unhide HLN).1
       have HRM := hide (And.intro r2 (And.intro r3 (And.intro r5 r6)))
       have HR4 := hide r4
       have hngt : ¬ (N : Int) < (at_ : Int) + (S.size : Int) := by have := unhide HSZ; omega
       have HBW := hide (unhide HTW).base.size
       clear r1 r2 r3 r4 r5 r6 r8 hpkl HTHX
       rw [<- unhide HSZ] at HPE HR4 r7
       generalize putL (pkS M.length (thO M A B) k).2.2 ((k : Int) + 1, (at_ : Int), (S.size : Int), tg) = P at *
       have HPL := hide r7
       clear r7 hfit
       go_wp2_with fail
       refine (unhide HPE).mono ?_
       rintro e w8 ⟨g8, c8, rfl, hown8, hb8⟩
       have hgb := hown8.base
       have HO8 := hide hown8
       have HB8 := hide hb8
       clear hown8 hb8 HPE
       go_wp2_with fail
       go_loopw [21] (fun jv wq => ∃ j : Nat, j <= S.size /\ jv = .int .i64 j /\ Own wq w6.heap.size g8 c8 (splice P at_ (bs.take j)) /\ Below w6.heap.size w6 wq) (fun jv _ => S.size - (intOf jv).toNat)
       case atStart => exact ⟨0, Nat.zero_le _, rfl, by
        rw [List.take_zero, show splice P at_ [] = P by unfold splice; simp]
        exact unhide HO8, unhide HB8⟩
       case round =>
        obtain ⟨j, hj, rfl, hown, hbel⟩ := hrel
        clear HO8 HB8
        by_cases hjm : j < S.size
        ·have hsl : (splice P at_ (bs.take j)).length = N := by rw [length_splice (by rw [List.length_take, unhide HPL]; omega)]; exact unhide HPL
         have hcl := hown.cell (at_ + j) (by rw [hsl]; omega)
         have hfz := hown.frozen (at_ + j)
         have hset := hown.set (at_ + j) (bs.getD j 0)
         rw [splice_moreM (by rw [<- unhide HSZ]; exact hjm) (by rw [<- unhide HSZ, unhide HPL]; omega)] at hset
         have hgd : bs.getD j 0 = (S[j].toNat : Int) := by rw [<- unhide HSL, strL_getD S j hjm]
         rw [hgd] at hset
         have HO2 := hide hset
         have HB2 := hide (hbel.setCell (p := ⟨g8, at_ + j, none⟩) hgb (.int .u8 (S[j].toNat : Int)))
         clear hown hbel hset hgd hsl
         generalize (splice P at_ (bs.take j)).getD (at_ + j) 0 = y at *
         go_wp2
         go_roundw
         case rel => exact ⟨j + 1, by omega, by go_num, unhide HO2, unhide HB2⟩
         case measure => simp [intOf]; omega
        ·obtain rfl : j = S.size := by omega
         rw [List.take_of_length_le (by rw [<- unhide HSZ]; omega), <- unhide HR4] at hown
         have hbs6 := hown.bs (unhide HRM).2.2.1 (by rw [(unhide HRM).2.2.2]; omega)
         have htn : Tr w3 _ M A B (k + 1) (some ⟨g8, 0, none⟩) c8 (at_ + S.size) _ (tdK M A B (k + 1)) := ⟨(unhide HRM).1, hbs6, (unhide HRM).2.1.trans (by rw [unhide HSZ]), (unhide HTW).td.below hbel, fun x hx e => by
          simp only [Option.some.injEq] at hx
          subst hx
          have h1 := (unhide HTW).td.ownLtM e
          dsimp only at h1
          omega, (unhide HTW).base.trans (hbel.mono (unhide HBW))⟩
         have HTN := hide htn
         clear hown hbel hbs6 htn HTW HR4 HRM HSL
         go_wp2
         go_roundw
         case rel => exact ⟨k + 1, at_ + S.size, _, _, by omega, rfl, by go_num, by go_num, unhide HTN⟩
         case measure => simp [intOf]; omega
    | true =>
     cases q3 with
     | false =>
      have HTH2 : Hid (thO M A B ((k : Int) + 1) = OA) := hide (by rw [unhide HTHp, if_pos rfl])
      have htd := unhide HTD
      rw [unhide HTT, if_neg (by simp), List.append_nil] at htd
      have HBO := hide (unhide HBOA)
      have HOk := hide (unhide HO1 wr (unhide HTR).base)
      rw [<- htd] at HTR
      clear htd HTD HTT HO1 HO2 HBOA HBOB HTHp HTL HNE0
      go_wp2_with fail
      refine (unhide HR1).mono ?_
      rintro e w5 ⟨rfl, rfl⟩
      go_wp2_with fail
      refine (unhide HR2).mono ?_
      rintro e w5 ⟨rfl, rfl⟩
      go_wp2_with fail
      refine (unhide HR3).mono ?_
      rintro e w5 ⟨rfl, rfl⟩
      clear HR1 HR2 HR3
      go_wp2_with fail
      refine (unhide HOk).mono ?_
      rintro e w6 ⟨rfl, hb6⟩
      have HTX := hide ((unhide HTR).below hb6)
      clear hb6 HOk HTR
      obtain ⟨tg, bs⟩ := OA
      dsimp only at *
      have hth := unhide HTH2
      have hsz : (strOf bs).size = bs.length := by
       have hby : Byt bs := unhide HBO
       rw [<- length_strL, strL_strOf bs hby]
      have HSZ := hide hsz
      clear hsz
      have HSL : Hid (strL (strOf bs) = bs) := hide (strL_strOf bs (unhide HBO))
      have HTW := hide (unhide HTX)
      have hat := ((unhide HTX).pk (unhide HFI).1 (unhide HFI).2.1 (unhide HFI).2.2 (unhide HBY).2.1 (unhide HBY).2.2 hk40).lo
      rw [(unhide HLN).1] at hat
      have hS0 : (strOf bs).size <= 1000 := by
       rw [unhide HSZ]
       have hO := thO_ok (m := M) (unhide HFI).2.1 (unhide HBY).2.1 (unhide HFI).2.2 (unhide HBY).2.2 ((k : Int) + 1) (by omega) (by omega)
       rw [hth] at hO
       rcases hO with hO | hO
       ·rw [Prod.mk.injEq] at hO
        rw [hO.2]
        simp
       ·exact hO.2.2.2.1
      clear HTX HTH2 HBO
      have HTHX := hide hth
      clear hth
      generalize strOf bs = S at *
      by_cases ht : tg < 0
      ·have HTN := hide ((unhide HTW).skip (by rw [unhide HTHX]; exact ht))
       clear HTW HTHX HSL HSZ
       go_wp2
       go_roundw
       case rel => exact ⟨k + 1, at_, a', c', by omega, rfl, rfl, by go_num, unhide HTN⟩
       case measure => simp [intOf]; omega
      ·by_cases hfit : N < at_ + bs.length
       ·have hmg := (unhide HTW).full (by rw [unhide HTHX]; exact ht) (by rw [unhide HTHX, (unhide HLN).1]; exact hfit) hlt
        rw [unhide HMG, Prod.mk.injEq] at hmg
        obtain ⟨rfl, rfl⟩ := hmg
        have hmt := unhide HSD
        rw [if_neg (by decide)] at hmt
        subst hmt
        have HBW := hide ((unhide HB3).trans ((unhide HTW).base.mono (unhide HB3).size))
        have hgt : (N : Int) < (at_ : Int) + (S.size : Int) := by have := unhide HSZ; omega
        clear HTW HTHX HSL HMG HSD
        go_wp2
        go_ret3
        exact ⟨none, 0, _, rfl, bs_nil _, Lst.nil _ _, unhide HBW⟩
       ·obtain ⟨r1, r2, r3, r4, r5, r6, r7, r8⟩ := (unhide HTW).room (unhide HFI).1 (unhide HFI).2.1 (unhide HFI).2.2 (unhide HBY).2.1 (unhide HBY).2.2 hlt (unhide HTHX) ht (by rw [(unhide HLN).1]; exact hfit)
        have hpkl : (pkS M.length (thO M A B) k).2.2.length = N := (((unhide HTW).pk (unhide HFI).1 (unhide HFI).2.1 (unhide HFI).2.2 (unhide HBY).2.1 (unhide HBY).2.2 hk40).len).trans (unhide HLN).1
        have HPE := hide (rPE_own a' c' (pkS M.length (thO M A B) k).2.2 ((k : Int) + 1) at_ bs.length tg w6 (unhide HTW).bs r1)
        rw [hpkl] at HPE
        replace r6 := r6.trans (unhide HLN).1
        replace r7 := r7.trans (unhide HLN).1
        have HRM := hide (And.intro r2 (And.intro r3 (And.intro r5 r6)))
        have HR4 := hide r4
        have hngt : ¬ (N : Int) < (at_ : Int) + (S.size : Int) := by have := unhide HSZ; omega
        have HBW := hide (unhide HTW).base.size
        clear r1 r2 r3 r4 r5 r6 r8 hpkl HTHX
        rw [<- unhide HSZ] at HPE HR4 r7
        generalize putL (pkS M.length (thO M A B) k).2.2 ((k : Int) + 1, (at_ : Int), (S.size : Int), tg) = P at *
        have HPL := hide r7
        clear r7 hfit
        go_wp2_with fail
        refine (unhide HPE).mono ?_
        rintro e w8 ⟨g8, c8, rfl, hown8, hb8⟩
        have hgb := hown8.base
        have HO8 := hide hown8
        have HB8 := hide hb8
        clear hown8 hb8 HPE
        go_wp2_with fail
        go_loopw [21] (fun jv wq => ∃ j : Nat, j <= S.size /\ jv = .int .i64 j /\ Own wq w6.heap.size g8 c8 (splice P at_ (bs.take j)) /\ Below w6.heap.size w6 wq) (fun jv _ => S.size - (intOf jv).toNat)
        case atStart => exact ⟨0, Nat.zero_le _, rfl, by
         rw [List.take_zero, show splice P at_ [] = P by unfold splice; simp]
         exact unhide HO8, unhide HB8⟩
        case round =>
         obtain ⟨j, hj, rfl, hown, hbel⟩ := hrel
         clear HO8 HB8
         by_cases hjm : j < S.size
         ·have hsl : (splice P at_ (bs.take j)).length = N := by rw [length_splice (by rw [List.length_take, unhide HPL]; omega)]; exact unhide HPL
          have hcl := hown.cell (at_ + j) (by rw [hsl]; omega)
          have hfz := hown.frozen (at_ + j)
          have hset := hown.set (at_ + j) (bs.getD j 0)
          rw [splice_moreM (by rw [<- unhide HSZ]; exact hjm) (by rw [<- unhide HSZ, unhide HPL]; omega)] at hset
          have hgd : bs.getD j 0 = (S[j].toNat : Int) := by rw [<- unhide HSL, strL_getD S j hjm]
          rw [hgd] at hset
          have HO2 := hide hset
          have HB2 := hide (hbel.setCell (p := ⟨g8, at_ + j, none⟩) hgb (.int .u8 (S[j].toNat : Int)))
          clear hown hbel hset hgd hsl
          generalize (splice P at_ (bs.take j)).getD (at_ + j) 0 = y at *
          go_wp2
          go_roundw
          case rel => exact ⟨j + 1, by omega, by go_num, unhide HO2, unhide HB2⟩
          case measure => simp [intOf]; omega
         ·obtain rfl : j = S.size := by omega
          rw [List.take_of_length_le (by rw [<- unhide HSZ]; omega), <- unhide HR4] at hown
          have hbs6 := hown.bs (unhide HRM).2.2.1 (by rw [(unhide HRM).2.2.2]; omega)
          have htn : Tr w3 _ M A B (k + 1) (some ⟨g8, 0, none⟩) c8 (at_ + S.size) _ (tdK M A B (k + 1)) := ⟨(unhide HRM).1, hbs6, (unhide HRM).2.1.trans (by rw [unhide HSZ]), (unhide HTW).td.below hbel, fun x hx e => by
           simp only [Option.some.injEq] at hx
           subst hx
           have h1 := (unhide HTW).td.ownLtM e
           dsimp only at h1
           omega, (unhide HTW).base.trans (hbel.mono (unhide HBW))⟩
          have HTN := hide htn
          clear hown hbel hbs6 htn HTW HR4 HRM HSL
          go_wp2
          go_roundw
          case rel => exact ⟨k + 1, at_ + S.size, _, _, by omega, rfl, by go_num, by go_num, unhide HTN⟩
          case measure => simp [intOf]; omega
     | true =>
      have HTH2 : Hid (thO M A B ((k : Int) + 1) = OA) := hide (by rw [unhide HTHp, if_pos rfl])
      have htd := unhide HTD
      rw [unhide HTT, if_pos (by decide)] at htd
      have HTD2 := hide htd
      have HBO := hide (unhide HBOA)
      have hba : Below wr.heap.size wr (wr.alloc (.cells #[.int .i64 ((k : Int) + 1)] 3)) := (Below.refl _ _).alloc (Nat.le_refl _) _
      have hta := (unhide HTR).below hba
      have HTA := hide hta
      have HO3 := hide hta.td
      have HGN : Hid ((wr.alloc (.cells #[.int .i64 ((k : Int) + 1)] 3)).heap[wr.heap.size]? = some (.cells (inC ((k : Int) + 1)).toArray 3 (0, 0))) := hide (heap_alloc_new _ _)
      have hsz0 := (unhide HTR).base.size
      have HL9 := hide (Nat.le_trans (unhide HTL) (show k <= 1000 by omega))
      clear htd hba hta HTD HTT HTL HTR HO2 HBOA HBOB HTHp
      go_wp2_with fail
      refine (unhide HR1).mono ?_
      rintro e w5 ⟨rfl, rfl⟩
      go_wp2_with fail
      refine (unhide HR2).mono ?_
      rintro e w5 ⟨rfl, rfl⟩
      go_wp2_with fail
      refine (unhide HR3).mono ?_
      rintro e w5 ⟨rfl, rfl⟩
      clear HR1 HR2 HR3
      go_wp2_with (at_builtin; refine wpList_append_lstM rfl _ _ 25 rfl w3.heap.size i0 (.int .i64 0) 8 Tryz.underlying25 hi0 hz0 hz1 hz2 rfl (by decide) (by decide) _ _ rfl (unhide HO3) wr.heap.size ((k : Int) + 1) rfl (unhide HGN) rfl (inC_one _) (unhide HL9) (by simp; omega) ?_)
      intro v9 w9 hl9 hb9 hkp9 hob9
      obtain ⟨a9, m9, c9, rfl⟩ := hl9.shape
      rw [<- unhide HTD2] at hl9
      have ht9 := (unhide HTA).told (unhide HNE0) hl9 hb9 (fun j hj hn => hkp9 j (by rw [sz_alloc] at hj; exact hj) hn) (by rw [sz_alloc]; exact hob9)
      have HOk := hide (unhide HO1 w9 ht9.base)
      have HTR := hide ht9
      clear hl9 hb9 hkp9 hob9 ht9 HO1 HO3 HGN HTA HTD2 HNE0 HL9 hsz0
      go_wp2_with fail
      refine (unhide HOk).mono ?_
      rintro e w6 ⟨rfl, hb6⟩
      have HTX := hide ((unhide HTR).below hb6)
      clear hb6 HOk HTR
      obtain ⟨tg, bs⟩ := OA
      dsimp only at *
      have hth := unhide HTH2
      have hsz : (strOf bs).size = bs.length := by
       have hby : Byt bs := unhide HBO
       rw [<- length_strL, strL_strOf bs hby]
      have HSZ := hide hsz
      clear hsz
      have HSL : Hid (strL (strOf bs) = bs) := hide (strL_strOf bs (unhide HBO))
      have HTW := hide (unhide HTX)
      have hat := ((unhide HTX).pk (unhide HFI).1 (unhide HFI).2.1 (unhide HFI).2.2 (unhide HBY).2.1 (unhide HBY).2.2 hk40).lo
      rw [(unhide HLN).1] at hat
      have hS0 : (strOf bs).size <= 1000 := by
       rw [unhide HSZ]
       have hO := thO_ok (m := M) (unhide HFI).2.1 (unhide HBY).2.1 (unhide HFI).2.2 (unhide HBY).2.2 ((k : Int) + 1) (by omega) (by omega)
       rw [hth] at hO
       rcases hO with hO | hO
       ·rw [Prod.mk.injEq] at hO
        rw [hO.2]
        simp
       ·exact hO.2.2.2.1
      clear HTX HTH2 HBO
      have HTHX := hide hth
      clear hth
      generalize strOf bs = S at *
      by_cases ht : tg < 0
      ·have HTN := hide ((unhide HTW).skip (by rw [unhide HTHX]; exact ht))
       clear HTW HTHX HSL HSZ
       go_wp2
       go_roundw
       case rel => exact ⟨k + 1, at_, a', c', by omega, rfl, rfl, by go_num, unhide HTN⟩
       case measure => simp [intOf]; omega
      ·by_cases hfit : N < at_ + bs.length
       ·have hmg := (unhide HTW).full (by rw [unhide HTHX]; exact ht) (by rw [unhide HTHX, (unhide HLN).1]; exact hfit) hlt
        rw [unhide HMG, Prod.mk.injEq] at hmg
        obtain ⟨rfl, rfl⟩ := hmg
        have hmt := unhide HSD
        rw [if_neg (by decide)] at hmt
        subst hmt
        have HBW := hide ((unhide HB3).trans ((unhide HTW).base.mono (unhide HB3).size))
        have hgt : (N : Int) < (at_ : Int) + (S.size : Int) := by have := unhide HSZ; omega
        clear HTW HTHX HSL HMG HSD
        go_wp2
        go_ret3
        exact ⟨none, 0, _, rfl, bs_nil _, Lst.nil _ _, unhide HBW⟩
       ·obtain ⟨r1, r2, r3, r4, r5, r6, r7, r8⟩ := (unhide HTW).room (unhide HFI).1 (unhide HFI).2.1 (unhide HFI).2.2 (unhide HBY).2.1 (unhide HBY).2.2 hlt (unhide HTHX) ht (by rw [(unhide HLN).1]; exact hfit)
        have hpkl : (pkS M.length (thO M A B) k).2.2.length = N := (((unhide HTW).pk (unhide HFI).1 (unhide HFI).2.1 (unhide HFI).2.2 (unhide HBY).2.1 (unhide HBY).2.2 hk40).len).trans (unhide HLN).1
        have HPE := hide (rPE_own a' c' (pkS M.length (thO M A B) k).2.2 ((k : Int) + 1) at_ bs.length tg w6 (unhide HTW).bs r1)
        rw [hpkl] at HPE
        replace r6 := r6.trans (unhide HLN).1
        replace r7 := r7.trans (unhide HLN).1
        have HRM := hide (And.intro r2 (And.intro r3 (And.intro r5 r6)))
        have HR4 := hide r4
        have hngt : ¬ (N : Int) < (at_ : Int) + (S.size : Int) := by have := unhide HSZ; omega
        have HBW := hide (unhide HTW).base.size
        clear r1 r2 r3 r4 r5 r6 r8 hpkl HTHX
        rw [<- unhide HSZ] at HPE HR4 r7
        generalize putL (pkS M.length (thO M A B) k).2.2 ((k : Int) + 1, (at_ : Int), (S.size : Int), tg) = P at *
        have HPL := hide r7
        clear r7 hfit
        go_wp2_with fail
        refine (unhide HPE).mono ?_
        rintro e w8 ⟨g8, c8, rfl, hown8, hb8⟩
        have hgb := hown8.base
        have HO8 := hide hown8
        have HB8 := hide hb8
        clear hown8 hb8 HPE
        go_wp2_with fail
        go_loopw [21] (fun jv wq => ∃ j : Nat, j <= S.size /\ jv = .int .i64 j /\ Own wq w6.heap.size g8 c8 (splice P at_ (bs.take j)) /\ Below w6.heap.size w6 wq) (fun jv _ => S.size - (intOf jv).toNat)
        case atStart => exact ⟨0, Nat.zero_le _, rfl, by
         rw [List.take_zero, show splice P at_ [] = P by unfold splice; simp]
         exact unhide HO8, unhide HB8⟩
        case round =>
         obtain ⟨j, hj, rfl, hown, hbel⟩ := hrel
         clear HO8 HB8
         by_cases hjm : j < S.size
         ·have hsl : (splice P at_ (bs.take j)).length = N := by rw [length_splice (by rw [List.length_take, unhide HPL]; omega)]; exact unhide HPL
          have hcl := hown.cell (at_ + j) (by rw [hsl]; omega)
          have hfz := hown.frozen (at_ + j)
          have hset := hown.set (at_ + j) (bs.getD j 0)
          rw [splice_moreM (by rw [<- unhide HSZ]; exact hjm) (by rw [<- unhide HSZ, unhide HPL]; omega)] at hset
          have hgd : bs.getD j 0 = (S[j].toNat : Int) := by rw [<- unhide HSL, strL_getD S j hjm]
          rw [hgd] at hset
          have HO2 := hide hset
          have HB2 := hide (hbel.setCell (p := ⟨g8, at_ + j, none⟩) hgb (.int .u8 (S[j].toNat : Int)))
          clear hown hbel hset hgd hsl
          generalize (splice P at_ (bs.take j)).getD (at_ + j) 0 = y at *
          go_wp2
          go_roundw
          case rel => exact ⟨j + 1, by omega, by go_num, unhide HO2, unhide HB2⟩
          case measure => simp [intOf]; omega
         ·obtain rfl : j = S.size := by omega
          rw [List.take_of_length_le (by rw [<- unhide HSZ]; omega), <- unhide HR4] at hown
          have hbs6 := hown.bs (unhide HRM).2.2.1 (by rw [(unhide HRM).2.2.2]; omega)
          have htn : Tr w3 _ M A B (k + 1) (some ⟨g8, 0, none⟩) c8 (at_ + S.size) _ (tdK M A B (k + 1)) := ⟨(unhide HRM).1, hbs6, (unhide HRM).2.1.trans (by rw [unhide HSZ]), (unhide HTW).td.below hbel, fun x hx e => by
           simp only [Option.some.injEq] at hx
           subst hx
           have h1 := (unhide HTW).td.ownLtM e
           dsimp only at h1
           omega, (unhide HTW).base.trans (hbel.mono (unhide HBW))⟩
          have HTN := hide htn
          clear hown hbel hbs6 htn HTW HR4 HRM HSL
          go_wp2
          go_roundw
          case rel => exact ⟨k + 1, at_ + S.size, _, _, by omega, rfl, by go_num, by go_num, unhide HTN⟩
          case measure => simp [intOf]; omega
  ·obtain rfl : k = 40 := by omega
   have hB40 := htr.base
   have hBw := (unhide HB3).trans (hB40.mono (unhide HB3).size)
   have hml := (unhide HFI).1.len
   have hal := (unhide HFI).2.1.len
   have hbl := (unhide HFI).2.2.len
   have HR1 := hide (rRoots_any am cm M wr ((unhide HBS).1.below hBw) hml.1 hml.2)
   have HR2 := hide (fun (W : World) (hW : Below wr.heap.size wr W) => rRoots_any aa ca A W (((unhide HBS).2.1.below hBw).below hW) hal.1 hal.2)
   have HR3 := hide (fun (W : World) (hW : Below wr.heap.size wr W) => rRoots_any ab cb B W (((unhide HBS).2.2.below hBw).below hW) hbl.1 hbl.2)
   rw [(unhide HLN).1] at HR1
   rw [(unhide HLN).2.1] at HR2
   rw [(unhide HLN).2.2] at HR3
   have hr1 := rootsK_len M 8
   have hr2 := rootsK_len A 8
   have hr3 := rootsK_len B 8
   have HTR := hide htr
   have HNA := hide (nmI_all M A B)
   obtain ⟨i1, hi1, hy0, hy1, hy2⟩ := info_parts info_root
   obtain ⟨i2, hi2, hx0, hx1, hx2⟩ := info_parts info_str
   clear hB40 hBw hml hal hbl htr HP1 HP2 HP3 HOA HOB
   go_wp2_with fail
   refine (unhide HR1).mono ?_
   rintro e w5 ⟨v5, rfl, hl5, hb5⟩
   obtain ⟨y5, e5, rfl, hs5⟩ := hl5.sls roC_len (by omega)
   have HR2' := hide (unhide HR2 w5 hb5)
   have HL5 := hide hl5
   have HB5 := hide hb5
   clear hl5 hs5 hb5 HR1 HR2
   go_wp2_with fail
   refine (unhide HR2').mono ?_
   rintro e w6 ⟨v6, rfl, hl6, hb6⟩
   obtain ⟨y6, e6, rfl, hs6⟩ := hl6.sls roC_len (by omega)
   have hB6 := (unhide HB5).trans (hb6.mono (unhide HB5).size)
   have HL6 := hide ((unhide HL5).below hb6)
   have HS6 := hide hs6
   have HB6 := hide hB6
   have hsz6 := hB6.size
   clear hl6 hs6 hb6 hB6 HR2' HL5 HB5
   go_wp2_with (at_builtin; refine wpList_append_sls rfl _ _ 62 rfl wr.heap.size i1 _ 24 Tryz.underlying62 hi1 hy0 hy1 hy2 rfl (by decide) (by decide) _ _ rfl (unhide HL6) y6 e6 (rootsK A 8) rfl (unhide HS6) roC_len roC_one (by omega) hsz6 ?_)
   intro v7 w7 hl7 hb7
   obtain ⟨y7, m7, e7, rfl⟩ := hl7.shape
   have hB7 := (unhide HB6).trans hb7
   have HR3' := hide (unhide HR3 w7 hB7)
   have HL7 := hide hl7
   have HB7 := hide hB7
   clear hl7 hb7 hB7 HR3 HL6 HS6 HB6 hsz6
   go_wp2_with fail
   refine (unhide HR3').mono ?_
   rintro e w8 ⟨v8, rfl, hl8, hb8⟩
   obtain ⟨y8, e8, rfl, hs8⟩ := hl8.sls roC_len (by omega)
   have hB8 := (unhide HB7).trans (hb8.mono (unhide HB7).size)
   have HL8 := hide ((unhide HL7).below hb8)
   have HS8 := hide hs8
   have HB8 := hide hB8
   have hsz8 := hB8.size
   clear hl8 hs8 hb8 hB8 HR3' HL7 HB7
   go_wp2_with (at_builtin; refine wpList_append_sls rfl _ _ 62 rfl wr.heap.size i1 _ 24 Tryz.underlying62 hi1 hy0 hy1 hy2 rfl (by decide) (by decide) _ _ rfl (unhide HL8) y8 e8 (rootsK B 8) rfl (unhide HS8) roC_len roC_one (by rw [List.length_append]; omega) hsz8 ?_)
   intro v9 w9 hl9 hb9
   try rw [<- List.append_assoc] at hl9
   have hrl : (rootsK M 8 ++ rootsK A 8 ++ rootsK B 8).length <= 24 := by rw [List.length_append, List.length_append]; omega
   obtain ⟨y9, e9, rfl, hs9⟩ := hl9.sls roC_len (by omega)
   have HTR9 := hide ((unhide HTR).below ((unhide HB8).trans hb9))
   have HS9 := hide hs9
   clear hl9 hs9 hb9 HL8 HS8 HB8 hsz8 HTR hr1 hr2 hr3
   generalize rootsK M 8 ++ rootsK A 8 ++ rootsK B 8 = R at *
   go_wp2_with fail
   go_loopw [22, 24, 25, 26] (fun nv iv _ _ ws => ∃ i : Nat, i <= R.length /\ iv = .int .i64 i /\ Lst sgC 1 9 ws w9.heap.size nv (nmI R i) /\ Below w9.heap.size w9 ws) (fun _ iv _ _ _ => R.length - (intOf iv).toNat)
   case atStart => exact ⟨0, Nat.zero_le _, rfl, Lst.nil _ _, Below.refl _ _⟩
   case round =>
    obtain ⟨i, hi, rfl, hnl, hbel⟩ := hrel
    obtain ⟨ws, hws⟩ : ∃ x, x = wr := ⟨wr, rfl⟩
    subst hws
    have hnlen := nmI_len R i
    obtain ⟨yn, en, rfl, hsn⟩ := hnl.sls sgC_len (by omega)
    by_cases hlt : i < R.length
    ·obtain ⟨r, hr⟩ : ∃ r, R[i]? = some r := ⟨R[i], List.getElem?_eq_getElem hlt⟩
     obtain ⟨br, orr, rfl, hcr⟩ := ((unhide HS9).below hbel).2.2.2 (by intro e; rw [e] at hlt; simp at hlt)
     obtain ⟨q0, q1⟩ := Sls.root (cap := 0) hcr hr
     have HNS := hide (nmI_succ hr)
     have HRI := hide (nmI_ris R i)
     have HNL := hide hnl
     have HSN := hide hsn
     have HBL := hide hbel
     obtain ⟨s, hx⟩ := r
     dsimp only at *
     clear hcr hr hnl hsn hbel
     have HL24 : Hid (i <= 24 /\ (nmI R i).length <= i) := hide ⟨by omega, hnlen⟩
     generalize nmI R i = L at *
     have HBR := hide (block_lt_of_cell q0)
     go_wp2_with fail
     go_loopw [25] (fun kv wq => ∃ (k qn : Nat) (z : Int), k <= L.length /\ kv = .int .i64 z /\ z = k /\ (∀ x ∈ L.drop k, bL s x = true) /\ wq = ws.drewN qn) (fun kv _ => (intOf kv).toNat)
     case atStart => exact ⟨L.length, 0, _, Nat.le_refl _, rfl, rfl, fun x hx => (by rw [List.drop_length] at hx; cases hx), rfl⟩
     case round =>
      obtain ⟨k, qn, z, hk, rfl, hz, hbeh, rfl⟩ := hrel
      have hiR : (i : Int) < (R.length : Int) := by omega
      have HSQ := hide ((unhide HSN).below (below_drewN (Below.refl _ ws) qn))
      have HBH := hide hbeh
      clear hbeh
      rcases Nat.eq_zero_or_pos k with rfl | hkp
      ·obtain rfl : z = 0 := by omega
       clear hz
       go_wp2_with fail
       go_quiet (fail)
       go_wp2_with fail
       go_quiet (fail)
       have HNN : Hid (nmI R (i + 1) = L.take 0 ++ s :: L.drop 0) := hide (by rw [unhide HNS]; exact nm_first (unhide HRI) (fun x hx => unhide HBH x (by simpa using hx)))
       have hLb : L.length <= 24 := by have := unhide HL24; omega
       obtain ⟨s1, hs1, hu1⟩ := slice_hiS (unhide HSN) 0 (by omega)
       obtain ⟨s2, hs2, hu2⟩ := slice_loS (unhide HSN) 0 (by omega)
       have hl1 : (L.take 0).length = 0 := rfl
       have hl2 : (L.drop 0).length = L.length - 0 := List.length_drop
       have hs1' : ∀ w', (Instr.slice 61 (.slice yn L.length en) none (some (.int .i64 0)) none).run Tryz.prog w' = .ok (.slice s1 (L.take 0).length en) w' := fun w' => by rw [hl1]; exact hs1 w'
       have hs2' : ∀ w', (Instr.slice 61 (.slice yn L.length en) (some (.int .i64 0)) none none).run Tryz.prog w' = .ok (.slice s2 (L.drop 0).length (en - 0)) w' := fun w' => by rw [hl2]; exact hs2 w'
       have hlb : (L.take 0).length + (L.drop 0).length <= 24 := by omega
       clear hs1 hs2 hl1 hl2
       generalize L.take 0 = LT at *
       generalize L.drop 0 = LD at *
       generalize en - 0 = en2 at *
       have HU1 := hide hu1
       have HU2 := hide hu2
       clear hu1 hu2
       go_wp2_with (at_builtin; refine wpList_append_sls rfl _ _ 61 rfl ws.heap.size i2 _ 16 Tryz.underlying61 hi2 hx0 hx1 hx2 rfl (by decide) (by decide) _ [] rfl (Lst.nil _ _) s1 en LT rfl ((unhide HU1).below (by repeat (first | exact Below.refl _ _ | refine below_drewN ?_ _))) sgC_len sgC_one (by simp; omega) (Nat.le_refl _) ?_)
       intro v9 w9b hl9 hb9
       obtain ⟨a9, m9, c9, rfl⟩ := hl9.shape
       have hB9 : Below ws.heap.size ws w9b := (below_drewN (Below.refl _ ws) _).trans hb9
       have q0b := (hB9.cell (p := ⟨br, orr + i * 2, none⟩) (block_lt_of_cell q0)).trans q0
       have hba : Below w9b.heap.size w9b (w9b.alloc (.cells #[.string s] 9)) := (Below.refl _ _).alloc (Nat.le_refl _) _
       have HO3 := hide (hl9.below hba)
       have HGN : Hid ((w9b.alloc (.cells #[.string s] 9)).heap[w9b.heap.size]? = some (.cells (sgC s).toArray 9 (0, 0))) := hide (heap_alloc_new _ _)
       have HBA := hide (hB9.trans (hba.mono hB9.size))
       have hsz9 := hB9.size
       clear hl9 hb9 hB9 hba HU1
       go_wp2_with (at_builtin; refine wpList_append_lst rfl _ _ 61 rfl ws.heap.size i2 _ 16 Tryz.underlying61 hi2 hx0 hx1 hx2 rfl (by decide) (by decide) _ _ rfl (unhide HO3) w9b.heap.size s rfl (unhide HGN) rfl (sgC_one _) (by omega) (by simp; omega) ?_)
       intro v10 w10 hl10 hb10
       obtain ⟨a10, m10, c10, rfl⟩ := hl10.shape
       have hB10 := (unhide HBA).trans hb10
       have HL10 := hide hl10
       have HU3 := hide ((unhide HU2).below hB10)
       have HB10 := hide hB10
       have hsz10 := hB10.size
       clear hl10 hb10 hB10 HO3 HGN HBA HU2 q0b
       go_wp2_with (at_builtin; refine wpList_append_sls rfl _ _ 61 rfl ws.heap.size i2 _ 16 Tryz.underlying61 hi2 hx0 hx1 hx2 rfl (by decide) (by decide) _ _ rfl (unhide HL10) s2 en2 LD rfl (unhide HU3) sgC_len sgC_one (by simp; omega) hsz10 ?_)
       intro v11 w11 hl11 hb11
       have HL11 : Hid (Lst sgC 1 9 w11 ws.heap.size v11 (nmI R (i + 1))) := hide (by
        rw [unhide HNN]
        first
         | exact hl11
         | (rw [List.append_assoc] at hl11; exact hl11)
         | (simp at hl11; exact hl11))
       have HB11 := hide ((unhide HB10).trans hb11)
       clear hl11 hb11 HL10 HU3 HB10 HNN
       go_wp2
       go_roundw
       case rel => exact ⟨i + 1, by omega, by go_num, (unhide HL11).lowM (unhide HBL).size, (unhide HBL).trans ((unhide HB11).mono (unhide HBL).size)⟩
       case measure => simp [intOf]; omega
      ·obtain ⟨kk, rfl⟩ : ∃ j, k = j + 1 := ⟨k - 1, by omega⟩
       obtain rfl : z = (kk : Int) + 1 := by omega
       clear hz hkp
       have hkL : (kk : Int) < (L.length : Int) := by omega
       have hLb : L.length <= 24 := by have := unhide HL24; omega
       have hwr : IntKind.i64.wrap (kk : Int) = (kk : Int) := by rw [IntKind.wrap_i64]; omega
       have hkZ : (0 : Int) <= (kk : Int) := by omega
       obtain ⟨x, hx⟩ : ∃ x, L[kk]? = some x := ⟨L[kk], List.getElem?_eq_getElem (by omega)⟩
       obtain ⟨bn, on, rfl, hcn⟩ := (unhide HSN).2.2.2 (by intro e; rw [e] at hk; simp at hk)
       have q3 := Sls.str hcn hx
       have HX := hide hx
       have g1 := block_lt_of_cell q3
       have g2 := block_lt_of_cell q0
       clear hcn hx
       cases hb : bL s x with
       | true =>
        have hb1 : Go.Op.bytesLess x.toList s.toList = false := bL_asymm hb
        have hb2 : (x.toList == s.toList) = false := toL_no (fun e => by subst e; rw [bL_irrefl] at hb; cases hb)
        have hnx : ∀ y ∈ L.drop kk, bL s y = true := fun y hy => by
         rw [List.drop_eq_getElem_cons (by omega)] at hy
         rcases List.mem_cons.1 hy with rfl | hy
         ·have := unhide HX
          rw [List.getElem?_eq_getElem (by omega)] at this
          simp only [Option.some.injEq] at this
          rw [this]
          exact hb
         ·exact unhide HBH y hy
        have HNX := hide hnx
        clear hnx hb
        go_wp2_with fail
        go_quiet (fail)
        go_wp2
        go_roundw
        case rel => exact ⟨kk, qn + nq, kk, by omega, by go_num, rfl, unhide HNX, rfl⟩
        case measure => simp [intOf]
       | false =>
        by_cases he : x = s
        ·subst he
         have hb1 : Go.Op.bytesLess x.toList x.toList = false := hb
         go_wp2_with fail
         go_quiet (fail)
         go_wp2_with fail
         go_quiet (fail)
         have HNN : Hid (nmI R (i + 1) = L) := hide (by rw [unhide HNS]; exact nm_in (unhide HRI) (by omega) (unhide HBH) (unhide HX) hb rfl)
         go_wp2
         go_roundw
         case rel => exact ⟨i + 1, by omega, by go_num, by rw [unhide HNN]; exact (unhide HNL).below (by repeat (first | exact Below.refl _ _ | refine below_drewN ?_ _)), (unhide HBL).trans ((show Below ws.heap.size ws _ by repeat (first | exact Below.refl _ _ | refine below_drewN ?_ _)).mono (unhide HBL).size)⟩
         case measure => simp [intOf]; omega
        ·have hb1 : Go.Op.bytesLess x.toList s.toList = true := by
          cases hq : bL x s with
          | true => exact hq
          | false => exact absurd (bL_total hq hb) he
         have hb2 : (x.toList == s.toList) = false := toL_no he
         go_wp2_with fail
         go_quiet (fail)
         go_wp2_with fail
         go_quiet (fail)
         have HNN : Hid (nmI R (i + 1) = L.take (kk + 1) ++ s :: L.drop (kk + 1)) := hide (by rw [unhide HNS]; exact nm_new (unhide HRI) (by omega) (unhide HBH) (unhide HX) hb he)
         obtain ⟨s1, hs1, hu1⟩ := slice_hiS (unhide HSN) (kk + 1) (by omega)
         obtain ⟨s2, hs2, hu2⟩ := slice_loS (unhide HSN) (kk + 1) (by omega)
         have hl1 : (L.take (kk + 1)).length = kk + 1 := by rw [List.length_take]; omega
         have hl2 : (L.drop (kk + 1)).length = L.length - (kk + 1) := List.length_drop
         have hs1' : ∀ w', (Instr.slice 61 (.slice (some ⟨bn, on, none⟩) L.length en) none (some (.int .i64 ((kk : Int) + 1))) none).run Tryz.prog w' = .ok (.slice s1 (L.take (kk + 1)).length en) w' := fun w' => by rw [hl1]; exact hs1 w'
         have hs2' : ∀ w', (Instr.slice 61 (.slice (some ⟨bn, on, none⟩) L.length en) (some (.int .i64 ((kk : Int) + 1))) none none).run Tryz.prog w' = .ok (.slice s2 (L.drop (kk + 1)).length (en - (kk + 1))) w' := fun w' => by rw [hl2]; exact hs2 w'
         have hlb : (L.take (kk + 1)).length + (L.drop (kk + 1)).length <= 24 := by omega
         clear hs1 hs2 hl1 hl2
         generalize L.take (kk + 1) = LT at *
         generalize L.drop (kk + 1) = LD at *
         generalize en - (kk + 1) = en2 at *
         have HU1 := hide hu1
         have HU2 := hide hu2
         clear hu1 hu2
         go_wp2_with (at_builtin; refine wpList_append_sls rfl _ _ 61 rfl ws.heap.size i2 _ 16 Tryz.underlying61 hi2 hx0 hx1 hx2 rfl (by decide) (by decide) _ [] rfl (Lst.nil _ _) s1 en LT rfl ((unhide HU1).below (by repeat (first | exact Below.refl _ _ | refine below_drewN ?_ _))) sgC_len sgC_one (by simp; omega) (Nat.le_refl _) ?_)
         intro v9 w9b hl9 hb9
         obtain ⟨a9, m9, c9, rfl⟩ := hl9.shape
         have hB9 : Below ws.heap.size ws w9b := (below_drewN (Below.refl _ ws) _).trans hb9
         have q0b := (hB9.cell (p := ⟨br, orr + i * 2, none⟩) (block_lt_of_cell q0)).trans q0
         have hba : Below w9b.heap.size w9b (w9b.alloc (.cells #[.string s] 9)) := (Below.refl _ _).alloc (Nat.le_refl _) _
         have HO3 := hide (hl9.below hba)
         have HGN : Hid ((w9b.alloc (.cells #[.string s] 9)).heap[w9b.heap.size]? = some (.cells (sgC s).toArray 9 (0, 0))) := hide (heap_alloc_new _ _)
         have HBA := hide (hB9.trans (hba.mono hB9.size))
         have hsz9 := hB9.size
         clear hl9 hb9 hB9 hba HU1
         go_wp2_with (at_builtin; refine wpList_append_lst rfl _ _ 61 rfl ws.heap.size i2 _ 16 Tryz.underlying61 hi2 hx0 hx1 hx2 rfl (by decide) (by decide) _ _ rfl (unhide HO3) w9b.heap.size s rfl (unhide HGN) rfl (sgC_one _) (by omega) (by simp; omega) ?_)
         intro v10 w10 hl10 hb10
         obtain ⟨a10, m10, c10, rfl⟩ := hl10.shape
         have hB10 := (unhide HBA).trans hb10
         have HL10 := hide hl10
         have HU3 := hide ((unhide HU2).below hB10)
         have HB10 := hide hB10
         have hsz10 := hB10.size
         clear hl10 hb10 hB10 HO3 HGN HBA HU2 q0b
         go_wp2_with (at_builtin; refine wpList_append_sls rfl _ _ 61 rfl ws.heap.size i2 _ 16 Tryz.underlying61 hi2 hx0 hx1 hx2 rfl (by decide) (by decide) _ _ rfl (unhide HL10) s2 en2 LD rfl (unhide HU3) sgC_len sgC_one (by simp; omega) hsz10 ?_)
         intro v11 w11 hl11 hb11
         have HL11 : Hid (Lst sgC 1 9 w11 ws.heap.size v11 (nmI R (i + 1))) := hide (by
          rw [unhide HNN]
          first
           | exact hl11
           | (rw [List.append_assoc] at hl11; exact hl11)
           | (simp at hl11; exact hl11))
         have HB11 := hide ((unhide HB10).trans hb11)
         clear hl11 hb11 HL10 HU3 HB10 HNN
         go_wp2
         go_roundw
         case rel => exact ⟨i + 1, by omega, by go_num, (unhide HL11).lowM (unhide HBL).size, (unhide HBL).trans ((unhide HB11).mono (unhide HBL).size)⟩
         case measure => simp [intOf]; omega
    ·obtain rfl : i = R.length := by omega
     have hnq := unhide HNA
     rw [hnq] at hnl hsn hnlen ⊢
     have HT := hide ((unhide HTR9).below hbel)
     have hpk := (unhide HT).pk (unhide HFI).1 (unhide HFI).2.1 (unhide HFI).2.2 (unhide HBY).2.1 (unhide HBY).2.2 (Nat.le_refl _)
     have hp0 := (unhide HT).ok
     have hbo := (unhide HT).bs
     have hol := hpk.len.trans (unhide HLN).1
     obtain ⟨O, hO⟩ : ∃ x, (pkS M.length (thO M A B) 40).2.2 = x := ⟨_, rfl⟩
     rw [hO] at hpk hol hbo
     have HBO := hide hbo
     have HRK := hide (Rk.start (M := M) (A := A) (B := B) hpk)
     have HP0 := hide (And.intro hp0 hO)
     have HOL := hide hol
     have hBw := (unhide HB3).trans ((unhide HT).base.mono (unhide HB3).size)
     have HTL := hide (unhide HT).td
     have HSN := hide hsn
     have hml := (unhide HFI).1.len
     have hal := (unhide HFI).2.1.len
     have hbl := (unhide HFI).2.2.len
     have HLM := hide (fun (s : ByteArray) (W : World) (hW : Below ws.heap.size ws W) => rLead_any am cm M s W (((unhide HBS).1.below hBw).below hW) hml.1 hml.2)
     have HLA := hide (fun (s : ByteArray) (W : World) (hW : Below ws.heap.size ws W) => rLead_any aa ca A s W (((unhide HBS).2.1.below hBw).below hW) hal.1 hal.2)
     have HLB := hide (fun (s : ByteArray) (W : World) (hW : Below ws.heap.size ws W) => rLead_any ab cb B s W (((unhide HBS).2.2.below hBw).below hW) hbl.1 hbl.2)
     rw [(unhide HLN).1] at HLM
     rw [(unhide HLN).2.1] at HLA
     rw [(unhide HLN).2.2] at HLB
     have HBW := hide hBw
     have HB3S := hide (unhide HB3).size
     have hLL : (mgN M A B).length <= 24 := by omega
     clear hnq hnl hsn hbel hpk hp0 hbo hol hBw hml hal hbl HT HTR9 HS9 hlt hnlen HNA hrl hi hO
     go_wp2_with fail
     go_loopw [12, 27, 28, 29] (fun ov nv iv _ wq => ∃ (i n : Nat) (a2 : Option Addr) (c2 : Nat) (X : List Int), i <= (mgN M A B).length /\ ov = .slice a2 N c2 /\ nv = .int .i64 n /\ iv = .int .i64 i /\ Bs wq a2 c2 X /\ Rk M A B O i n X /\ Below ws.heap.size ws wq) (fun _ _ iv _ _ => (mgN M A B).length - (intOf iv).toNat)
     case atStart => exact ⟨0, 0, _, _, O, Nat.zero_le _, rfl, rfl, rfl, unhide HBO, unhide HRK, Below.refl _ _⟩
     case round =>
      obtain ⟨i, n, a2, c2, X, hi, rfl, rfl, rfl, hbx, hrk, hb2⟩ := hrel
      obtain ⟨wq, hwq⟩ : ∃ x, x = wr := ⟨wr, rfl⟩
      subst hwq
      clear HBO HRK
      have hxl : X.length = N := hrk.rs.len.trans (unhide HOL)
      have hx0 := hrk.rs.fine.len0
      have hn8 := hrk.le
      by_cases hlt : i < (mgN M A B).length
      ·obtain ⟨s, hs⟩ : ∃ s, (mgN M A B)[i]? = some s := ⟨_, List.getElem?_eq_getElem hlt⟩
       obtain ⟨bn, on, rfl, hcn⟩ := (unhide HSN).2.2.2 (by intro e; rw [e] at hlt; simp at hlt)
       have q3 := Sls.str hcn hs
       have HQ3 := hide (And.intro (block_lt_of_cell q3) q3)
       have q4 := (hb2.cell (p := ⟨bn, on + i, none⟩) (unhide HQ3).1).trans q3
       have hnm : nameB s = true := mgN_ok (unhide HFI).1 (unhide HFI).2.1 (unhide HFI).2.2 (unhide HBY).1 (unhide HBY).2.1 (unhide HBY).2.2 (List.mem_of_getElem? hs)
       have hsz : s.size <= 140737488351232 := by
        unfold nameB at hnm
        simp only [Bool.and_eq_true, decide_eq_true_iff] at hnm
        omega
       have HH : Hid (mgH M A B s = if leadOf (rootsK A 8) s = leadOf (rootsK M 8) s then leadOf (rootsK B 8) s else leadOf (rootsK A 8) s) := hide rfl
       have HL1 := hide (unhide HLA s wq hb2)
       have HL2 := hide (fun (W : World) (hW : Below wq.heap.size wq W) => unhide HLM s W (hb2.trans (hW.mono hb2.size)))
       have HL3 := hide (fun (W : World) (hW : Below wq.heap.size wq W) => unhide HLB s W (hb2.trans (hW.mono hb2.size)))
       have HCL := hide (fun (W : World) (hW : Below wq.heap.size wq W) => (hW.cell (p := ⟨bn, on + i, none⟩) (block_lt_of_cell q4)).trans q4)
       have HHN := hide (fun (h : Int) (W : World) (hW : Below wq.heap.size wq W) => sHandle_any a2 c2 X h W (hbx.below hW) hx0)
       have HPR := hide (fun (h : Int) (W : World) (hW : Below wq.heap.size wq W) => rPutRoot_any a2 c2 X n (s, h) W (hbx.below hW) hx0 hsz)
       rw [hxl] at HHN HPR
       unfold rootV at HPR
       dsimp only at HPR
       have HSK := hide (fun hc => hrk.skip hs hc)
       have HNX := hide (fun hc h8 => hrk.next (unhide HFI).1 (unhide HFI).2.1 (unhide HFI).2.2 (unhide HBY).1 (unhide HBY).2.1 (unhide HBY).2.2 hs hc h8)
       have HFU : Hid (n = 8 -> chkE X (mgH M A B s) = 0 -> mgS M A B = (4, [])) := hide (fun h8 hc => by subst h8; exact hrk.full (unhide HP0).1 (unhide HP0).2 hs hc)
       have HQW := hide (fun (W : World) (hW : Below wq.heap.size wq W) => hb2.trans (hW.mono hb2.size))
       have HBX := hide (fun (W : World) (hW : Below wq.heap.size wq W) => hbx.below hW)
       clear hcn q3 hs hnm hsz hbx hrk hb2 hx0 hxl HLA HLM HLB HQ3 hi
       generalize mgH M A B s = H at *
       generalize leadOf (rootsK A 8) s = la at *
       generalize leadOf (rootsK M 8) s = lm at *
       generalize leadOf (rootsK B 8) s = lb at *
       by_cases hab : la = lm
       ·subst hab
        have hHb := unhide HH
        rw [if_pos rfl] at hHb
        subst hHb
        clear HH
        go_wp2_with fail
        refine (unhide HL1).mono ?_
        rintro e w5 ⟨rfl, hb5⟩
        have HC2 := hide (unhide HL2 w5 hb5)
        have q5 := unhide HCL w5 hb5
        have HB5 := hide hb5
        clear hb5 HL1 HL2 q4
        go_wp2_with fail
        refine (unhide HC2).mono ?_
        rintro e w6 ⟨rfl, hb6⟩
        have hB6 := (unhide HB5).trans (hb6.mono (unhide HB5).size)
        have HC3 := hide (unhide HL3 w6 hB6)
        have q6 := unhide HCL w6 hB6
        have HB6 := hide hB6
        clear hb6 hB6 q5 HC2 HL3 HB5
        go_wp2_with fail
        refine (unhide HC3).mono ?_
        rintro e w7 ⟨rfl, hb7⟩
        have hB7 := (unhide HB6).trans (hb7.mono (unhide HB6).size)
        have q7 := unhide HCL w7 hB7
        have HB7 := hide hB7
        clear hb7 hB7 q6 HC3 HB6
        have HHD := hide (unhide HHN H w7 (unhide HB7))
        have HPQ := hide (fun (W : World) (hW : Below w7.heap.size w7 W) => unhide HPR H W ((unhide HB7).trans (hW.mono (unhide HB7).size)))
        have HCL7 := hide (fun (W : World) (hW : Below w7.heap.size w7 W) => unhide HCL W ((unhide HB7).trans (hW.mono (unhide HB7).size)))
        have HQ7 := hide (fun (W : World) (hW : Below w7.heap.size w7 W) => unhide HQW W ((unhide HB7).trans (hW.mono (unhide HB7).size)))
        have HX7 := hide (fun (W : World) (hW : Below w7.heap.size w7 W) => unhide HBX W ((unhide HB7).trans (hW.mono (unhide HB7).size)))
        clear HHN HPR HCL HQW HBX HB7
        by_cases hck : chkE X H = 0
        ·rw [hck] at HHD
         by_cases h8 : n = 8
         ·have hmg := unhide HFU h8 hck
          subst h8
          rw [unhide HMG, Prod.mk.injEq] at hmg
          obtain ⟨rfl, rfl⟩ := hmg
          have hmt := unhide HSD
          rw [if_neg (by decide)] at hmt
          subst hmt
          clear HFU HNX HSK HPQ HMG HSD hck HX7
          go_wp2_with fail
          refine (unhide HHD).mono ?_
          rintro e w8 ⟨rfl, hb8⟩
          have HBE := hide ((unhide HBW).trans ((unhide HQ7 w8 hb8).mono (unhide HBW).size))
          clear hb8 HHD
          go_wp2
          go_ret3
          exact ⟨none, 0, _, rfl, bs_nil _, Lst.nil _ _, unhide HBE⟩
         ·have HN2 := hide (unhide HNX hck h8)
          have h8b : decide ((n : Int) = 8) = false := decide_eq_false (by omega)
          have hpl : (prL X n (s, H)).length = N := (unhide HN2).rs.len.trans (unhide HOL)
          have HPL := hide hpl
          clear HFU HNX HSK hck HX7 hpl
          generalize prL X n (s, H) = XN at *
          generalize prE X n (s, H) = PE at *
          go_wp2_with fail
          refine (unhide HHD).mono ?_
          rintro e w8 ⟨rfl, hb8⟩
          have q8 := unhide HCL7 w8 hb8
          have HP8 := hide (unhide HPQ w8 hb8)
          have HB8 := hide hb8
          clear hb8 HHD HPQ q7
          go_wp2_with fail
          refine (unhide HP8).mono ?_
          rintro e w9 ⟨a9, c9, rfl, hb9, hB9⟩
          try rw [unhide HPL]
          have HBS9 := hide hb9
          have HBW9 := hide (unhide HQ7 w9 ((unhide HB8).trans (hB9.mono (unhide HB8).size)))
          clear hb9 hB9 HP8 q8
          go_wp2
          go_roundw
          case rel => exact ⟨i + 1, n + 1, _, _, XN, by omega, rfl, by go_num, by go_num, unhide HBS9, unhide HN2, unhide HBW9⟩
          case measure => simp [intOf]; omega
        ·have HS2 := hide (unhide HSK hck)
         generalize chkE X H = X8 at *
         have hXb : (X8 != 0) = true := by simpa using hck
         clear HFU HNX HSK HPQ
         go_wp2_with fail
         refine (unhide HHD).mono ?_
         rintro e w8 ⟨rfl, hb8⟩
         have HBS8 := hide (unhide HX7 w8 hb8)
         have HBW8 := hide (unhide HQ7 w8 hb8)
         clear hb8 HHD
         go_wp2
         go_roundw
         case rel => exact ⟨i + 1, n, _, _, X, by omega, rfl, by go_num, by go_num, unhide HBS8, unhide HS2, unhide HBW8⟩
         case measure => simp [intOf]; omega
       ·have hHb := unhide HH
        rw [if_neg hab] at hHb
        subst hHb
        clear HH
        have habb : decide (H = lm) = false := decide_eq_false hab
        go_wp2_with fail
        refine (unhide HL1).mono ?_
        rintro e w5 ⟨rfl, hb5⟩
        have HC2 := hide (unhide HL2 w5 hb5)
        have q5 := unhide HCL w5 hb5
        have HB5 := hide hb5
        clear hb5 HL1 HL2 HL3 q4
        go_wp2_with fail
        refine (unhide HC2).mono ?_
        rintro e w7 ⟨rfl, hb7⟩
        have hB7 := (unhide HB5).trans (hb7.mono (unhide HB5).size)
        have q7 := unhide HCL w7 hB7
        have HB7 := hide hB7
        clear hb7 hB7 q5 HC2 HB5
        have HHD := hide (unhide HHN H w7 (unhide HB7))
        have HPQ := hide (fun (W : World) (hW : Below w7.heap.size w7 W) => unhide HPR H W ((unhide HB7).trans (hW.mono (unhide HB7).size)))
        have HCL7 := hide (fun (W : World) (hW : Below w7.heap.size w7 W) => unhide HCL W ((unhide HB7).trans (hW.mono (unhide HB7).size)))
        have HQ7 := hide (fun (W : World) (hW : Below w7.heap.size w7 W) => unhide HQW W ((unhide HB7).trans (hW.mono (unhide HB7).size)))
        have HX7 := hide (fun (W : World) (hW : Below w7.heap.size w7 W) => unhide HBX W ((unhide HB7).trans (hW.mono (unhide HB7).size)))
        clear HHN HPR HCL HQW HBX HB7
        by_cases hck : chkE X H = 0
        ·rw [hck] at HHD
         by_cases h8 : n = 8
         ·have hmg := unhide HFU h8 hck
          subst h8
          rw [unhide HMG, Prod.mk.injEq] at hmg
          obtain ⟨rfl, rfl⟩ := hmg
          have hmt := unhide HSD
          rw [if_neg (by decide)] at hmt
          subst hmt
          clear HFU HNX HSK HPQ HMG HSD hck HX7
          go_wp2_with fail
          refine (unhide HHD).mono ?_
          rintro e w8 ⟨rfl, hb8⟩
          have HBE := hide ((unhide HBW).trans ((unhide HQ7 w8 hb8).mono (unhide HBW).size))
          clear hb8 HHD
          go_wp2
          go_ret3
          exact ⟨none, 0, _, rfl, bs_nil _, Lst.nil _ _, unhide HBE⟩
         ·have HN2 := hide (unhide HNX hck h8)
          have h8b : decide ((n : Int) = 8) = false := decide_eq_false (by omega)
          have hpl : (prL X n (s, H)).length = N := (unhide HN2).rs.len.trans (unhide HOL)
          have HPL := hide hpl
          clear HFU HNX HSK hck HX7 hpl
          generalize prL X n (s, H) = XN at *
          generalize prE X n (s, H) = PE at *
          go_wp2_with fail
          refine (unhide HHD).mono ?_
          rintro e w8 ⟨rfl, hb8⟩
          have q8 := unhide HCL7 w8 hb8
          have HP8 := hide (unhide HPQ w8 hb8)
          have HB8 := hide hb8
          clear hb8 HHD HPQ q7
          go_wp2_with fail
          refine (unhide HP8).mono ?_
          rintro e w9 ⟨a9, c9, rfl, hb9, hB9⟩
          try rw [unhide HPL]
          have HBS9 := hide hb9
          have HBW9 := hide (unhide HQ7 w9 ((unhide HB8).trans (hB9.mono (unhide HB8).size)))
          clear hb9 hB9 HP8 q8
          go_wp2
          go_roundw
          case rel => exact ⟨i + 1, n + 1, _, _, XN, by omega, rfl, by go_num, by go_num, unhide HBS9, unhide HN2, unhide HBW9⟩
          case measure => simp [intOf]; omega
        ·have HS2 := hide (unhide HSK hck)
         generalize chkE X H = X8 at *
         have hXb : (X8 != 0) = true := by simpa using hck
         clear HFU HNX HSK HPQ
         go_wp2_with fail
         refine (unhide HHD).mono ?_
         rintro e w8 ⟨rfl, hb8⟩
         have HBS8 := hide (unhide HX7 w8 hb8)
         have HBW8 := hide (unhide HQ7 w8 hb8)
         clear hb8 HHD
         go_wp2
         go_roundw
         case rel => exact ⟨i + 1, n, _, _, X, by omega, rfl, by go_num, by go_num, unhide HBS8, unhide HS2, unhide HBW8⟩
         case measure => simp [intOf]; omega
      ·obtain rfl : i = (mgN M A B).length := by omega
       have hmg := hrk.done (unhide HP0).1 (unhide HP0).2
       rw [unhide HMG, Prod.mk.injEq] at hmg
       obtain ⟨rfl, rfl⟩ := hmg
       have hmt := unhide HSD
       rw [if_pos rfl] at hmt
       subst hmt
       have HBE := hide ((unhide HBW).trans (hb2.mono (unhide HBW).size))
       have HBX := hide hbx
       have HTE := hide (((unhide HTL).below hb2).lowM (unhide HB3S))
       clear hb2 hbx hrk HTL HLA HLM HLB HMG HSD
       rw [<- hxl]
       go_wp2
       go_ret3
       exact ⟨_, _, _, rfl, unhide HBX, unhide HTE, unhide HBE⟩
end Go.Proofs.YtifmemombecoaaaGreatDoor
