/-
  Parts of the proofs, joined by program.
-/
import Derived.Test.YtecodmiendedfaaGreatDoorJIr
import Derived.Test.YtecodmiendedfaaGreatDoorJHal
import Derived.Test.YtecodmiendedfaaGreatDoorJRtp
import Derived.Test.YtecodmiendedfaaGreatDoorJOr
import Derived.Test.YtecodmiendedfaaGreatDoorJAb
import Derived.Test.YtecodmiendedfaaGreatDoorJDfr
import Derived.Test.YtecodmiendedfaaGreatDoorJTn
import Derived.Test.YtecodmiendedfaaGreatDoorJEx
import Derived.Deep.RegionHeld3
namespace Go.Proofs.YtecodmiendedfaaGreatDoor
open Go.RowKit
set_option linter.unusedVariables false
theorem sHandle_any (a : Option Addr) (cap : Nat) (L : List Int) (h : Int) (w : World) (hbs : Bs w a cap L) (hq : lenB L.length = true) :
  Calls Tryz.prog 28 #[.slice a L.length cap, .int .i64 h] w fun e w' => e = .returned (.int .i64 (chkE L h)) /\ Below w.heap.size w w' := by
 have HH := hide (rHandle_any h w)
 have hl := lenB_iff.1 hq
 unfold chkE
 rw [if_neg (by rw [hq]; simp)]
 cases hn : hndB h with
 | false =>
  rw [hn] at HH
  rw [if_pos rfl]
  have hbl := hbs.2.2.1
  clear hbs hq hl hn
  generalize L.length = N at *
  go_enter Tryz.func28, Tryz.ntmps28
  go_wp2_with fail
  refine (unhide HH).mono ?_
  rintro e w1 ⟨rfl, hw⟩
  subst hw
  go_wp2
  go_ret
  exact ⟨rfl, Below.refl _ _⟩
 | true =>
  rw [hn] at HH
  rw [if_neg (by simp)]
  have hh := hndB_iff.1 hn
  have HE := hide (rEntry_any a cap L h w hbs (by omega) hh.1 hh.2)
  unfold entV at HE
  have hbl := hbs.2.2.1
  clear hbs hq hl hn hh
  generalize entOf L h = E at *
  obtain ⟨e1, e2, e3, e4⟩ := E
  dsimp only at HE
  generalize tagAt L h = t at *
  generalize L.length = N at *
  by_cases ht : t = 0
  ·subst ht
   rw [if_pos rfl]
   go_enter Tryz.func28, Tryz.ntmps28
   go_wp2_with fail
   refine (unhide HH).mono ?_
   rintro e w1 ⟨rfl, hw⟩
   subst hw
   go_wp2_with fail
   refine (unhide HE).mono ?_
   rintro e w2 ⟨rfl, hb2⟩
   have HB := hide hb2
   clear hb2 HE
   go_wp2
   go_ret
   exact ⟨rfl, (unhide HB).alloc (unhide HB).size _⟩
  ·rw [if_neg ht]
   rw [bne_iff_ne.2 ht] at HE
   clear ht
   go_enter Tryz.func28, Tryz.ntmps28
   go_wp2_with fail
   refine (unhide HH).mono ?_
   rintro e w1 ⟨rfl, hw⟩
   subst hw
   go_wp2_with fail
   refine (unhide HE).mono ?_
   rintro e w2 ⟨rfl, hb2⟩
   have HB := hide hb2
   clear hb2 HE
   go_wp2
   go_ret
   exact ⟨rfl, (unhide HB).alloc (unhide HB).size _⟩
def ptAt (L : List Int) (h x n : Int) : Int := if pcE L h x n = 0 then (entOf L h).2.1 + x else 0
theorem sPart_any (a : Option Addr) (cap : Nat) (L : List Int) (h x n : Int) (w : World) (hbs : Bs w a cap L) (hf : Fine L) (hx : x <= 9223372036854775807) (hn : n <= 9223372036854775807) :
  Calls Tryz.prog 30 #[.slice a L.length cap, .int .i64 h, .int .i64 x, .int .i64 n] w fun e w' => e = .returned (.tuple #[.int .i64 (ptAt L h x n), .int .i64 (pcE L h x n)]) /\ Below w.heap.size w w' := by
 have HH := hide (sHandle_any a cap L h w hbs hf.len0)
 have hbl := hbs.2.2.1
 have hl := hf.len
 by_cases hc : chkE L h = 0
 ·obtain ⟨q1, q2, q3⟩ := chkE_zero.1 hc
  have q4 := hndB_iff.1 q2
  have hen := hf.ent q4.1 q4.2 q3
  have HE := hide (fun (W : World) (hW : Below w.heap.size w W) => rEntry_any a cap L h W (hbs.below hW) hl.1 q4.1 q4.2)
  have e1 : pcE L h x n = if x < 0 \/ n < 0 \/ (entOf L h).2.2.1 < x + n then 3 else 0 := by unfold pcE; rw [if_neg (fun h => h hc)]
  have e2 : ptAt L h x n = if x < 0 \/ n < 0 \/ (entOf L h).2.2.1 < x + n then 0 else (entOf L h).2.1 + x := by
   unfold ptAt
   rw [e1]
   split <;> simp_all
  rw [e1, e2]
  rw [hc] at HH
  rw [bne_iff_ne.2 q3] at HE
  unfold entV at HE
  clear hc q1 q2 q3 q4 hbs hf e1 e2
  generalize entOf L h = E at *
  obtain ⟨y1, y2, y3, y4⟩ := E
  dsimp only at HE hen ⊢
  generalize L.length = N at *
  obtain ⟨n1, n2, n3, n4, _, _⟩ := hen
  by_cases c1 : x < 0
  ·rw [if_pos (.inl c1), if_pos (.inl c1)]
   go_enter Tryz.func30, Tryz.ntmps30
   go_wp2_with fail
   refine (unhide HH).mono ?_
   rintro e w1 ⟨rfl, hb1⟩
   have HE1 := hide (unhide HE w1 hb1)
   have HB1 := hide hb1
   clear hb1 HH HE
   go_wp2_with fail
   refine (unhide HE1).mono ?_
   rintro e w2 ⟨rfl, hb2⟩
   have HB2 := hide ((unhide HB1).trans (hb2.mono (unhide HB1).size))
   clear hb2 HE1 HB1
   go_wp2
   go_ret2
   exact ⟨rfl, (unhide HB2).alloc (unhide HB2).size _⟩
  by_cases c2 : n < 0
  ·rw [if_pos (.inr (.inl c2)), if_pos (.inr (.inl c2))]
   go_enter Tryz.func30, Tryz.ntmps30
   go_wp2_with fail
   refine (unhide HH).mono ?_
   rintro e w1 ⟨rfl, hb1⟩
   have HE1 := hide (unhide HE w1 hb1)
   have HB1 := hide hb1
   clear hb1 HH HE
   go_wp2_with fail
   refine (unhide HE1).mono ?_
   rintro e w2 ⟨rfl, hb2⟩
   have HB2 := hide ((unhide HB1).trans (hb2.mono (unhide HB1).size))
   clear hb2 HE1 HB1
   go_wp2
   go_ret2
   exact ⟨rfl, (unhide HB2).alloc (unhide HB2).size _⟩
  by_cases c3 : y3 < x
  ·have c5 : y3 < x + n := by omega
   rw [if_pos (.inr (.inr c5)), if_pos (.inr (.inr c5))]
   clear c5
   go_enter Tryz.func30, Tryz.ntmps30
   go_wp2_with fail
   refine (unhide HH).mono ?_
   rintro e w1 ⟨rfl, hb1⟩
   have HE1 := hide (unhide HE w1 hb1)
   have HB1 := hide hb1
   clear hb1 HH HE
   go_wp2_with fail
   refine (unhide HE1).mono ?_
   rintro e w2 ⟨rfl, hb2⟩
   have HB2 := hide ((unhide HB1).trans (hb2.mono (unhide HB1).size))
   clear hb2 HE1 HB1
   go_wp2
   go_ret2
   exact ⟨rfl, (unhide HB2).alloc (unhide HB2).size _⟩
  by_cases c4 : y3 - x < n
  ·rw [if_pos (.inr (.inr (by omega))), if_pos (.inr (.inr (by omega)))]
   go_enter Tryz.func30, Tryz.ntmps30
   go_wp2_with fail
   refine (unhide HH).mono ?_
   rintro e w1 ⟨rfl, hb1⟩
   have HE1 := hide (unhide HE w1 hb1)
   have HB1 := hide hb1
   clear hb1 HH HE
   go_wp2_with fail
   refine (unhide HE1).mono ?_
   rintro e w2 ⟨rfl, hb2⟩
   have HB2 := hide ((unhide HB1).trans (hb2.mono (unhide HB1).size))
   clear hb2 HE1 HB1
   go_wp2
   go_ret2
   exact ⟨rfl, (unhide HB2).alloc (unhide HB2).size _⟩
  ·rw [if_neg (by omega), if_neg (by omega)]
   go_enter Tryz.func30, Tryz.ntmps30
   go_wp2_with fail
   refine (unhide HH).mono ?_
   rintro e w1 ⟨rfl, hb1⟩
   have HE1 := hide (unhide HE w1 hb1)
   have HB1 := hide hb1
   clear hb1 HH HE
   go_wp2_with fail
   refine (unhide HE1).mono ?_
   rintro e w2 ⟨rfl, hb2⟩
   have HB2 := hide ((unhide HB1).trans (hb2.mono (unhide HB1).size))
   clear hb2 HE1 HB1
   go_wp2
   go_ret2
   exact ⟨rfl, (unhide HB2).alloc (unhide HB2).size _⟩
 ·have e1 : pcE L h x n = chkE L h := by unfold pcE; rw [if_pos hc]
  have e2 : ptAt L h x n = 0 := by unfold ptAt; rw [e1, if_neg hc]
  rw [e1, e2]
  have hcb : (chkE L h == 0) = false := beq_eq_false_iff_ne.2 hc
  clear hbs hf e1 e2
  generalize chkE L h = X at *
  generalize L.length = N at *
  go_enter Tryz.func30, Tryz.ntmps30
  go_wp2_with fail
  refine (unhide HH).mono ?_
  rintro e w1 ⟨rfl, hb1⟩
  have HB1 := hide hb1
  clear hb1 HH
  go_wp2
  go_ret2
  exact ⟨rfl, unhide HB1⟩
theorem plc_mul {h : Int} (h1 : 1 <= h) : ((plc h : Nat) : Int) = 5 * (h - 1) := by unfold plc; omega
set_option maxHeartbeats 1000000 in
theorem sFree_any (a : Option Addr) (cap : Nat) (L : List Int) (h : Int) (w : World) (hbs : Bs w a cap L) (hf : Fine L) :
  Calls Tryz.prog 9 #[.slice a L.length cap, .int .i64 h] w fun e w' => ∃ a' c', e = .returned (.tuple #[.slice a' (if frE L h = 0 then frB L h else []).length c', .int .i64 (frE L h)]) /\ Bs w' a' c' (if frE L h = 0 then frB L h else []) /\ Below w.heap.size w w' /\ Fr w.heap.size a' := by
 have HH := hide (sHandle_any a cap L h w hbs hf.len0)
 have hbl := hbs.2.2.1
 have hl := hf.len
 by_cases hc : chkE L h = 0
 ·obtain ⟨q1, q2, q3⟩ := chkE_zero.1 hc
  have q4 := hndB_iff.1 q2
  have hp := plc_le q4.1 q4.2
  have hpm := plc_mul q4.1
  have HR := hide (fun (W : World) (hW : Below w.heap.size w W) => rRoots_any a cap L W (hbs.below hW) hl.1 hl.2)
  have HW := hide (fun (W : World) (hW : Below w.heap.size w W) => rWipe_any a cap L (plc h) 5 W (hbs.below hW) (by omega) hl.2 (by omega))
  rw [hpm] at HW
  have hrl := rootsK_len L 8
  have HBY := hide hbs.1
  have hD : dropL L h = splice L (plc h) (zerosB 5) := by unfold dropL; rw [if_pos hc]
  have hDl : (dropL L h).length = L.length := by rw [hD, length_splice (by rw [length_zerosB]; omega)]
  rw [<- hD] at HW
  rw [hc] at HH
  have HYES : Hid ((rootsK L 8).any (fun r => r.2 == h) = true -> frE L h = 7 /\ (if frE L h = 0 then frB L h else []) = []) := hide (fun e => by
   have e1 : frE L h = 7 := by unfold frE; rw [if_neg (fun h => h hc), if_pos e]
   exact ⟨e1, by rw [e1]; rfl⟩)
  have HNO : Hid ((rootsK L 8).any (fun r => r.2 == h) = false -> frE L h = 0 /\ (if frE L h = 0 then frB L h else []) = dropL L h) := hide (fun e => by
   have e1 : frE L h = 0 := frE_zero.2 ⟨hc, e⟩
   exact ⟨e1, by rw [if_pos e1]; unfold frB; rw [if_pos e1]⟩)
  have HDL := hide hDl
  have HBD := hide (byt_drop hbs.1 h)
  clear hbs hf hc q1 q2 q3 hp hpm hD hDl
  obtain ⟨h1, h2⟩ := q4
  generalize (if frE L h = 0 then frB L h else []) = FB at *
  generalize frE L h = FE at *
  generalize dropL L h = D at *
  generalize rootsK L 8 = R at *
  generalize hN : L.length = N at *
  have HN := hide hN
  clear hN
  go_enter Tryz.func9, Tryz.ntmps9
  go_wp2_with fail
  refine (unhide HH).mono ?_
  rintro e w1 ⟨rfl, hb1⟩
  have HR1 := hide (unhide HR w1 hb1)
  have HB1 := hide hb1
  clear hb1 HH HR
  go_wp2_with fail
  refine (unhide HR1).mono ?_
  rintro e w2 ⟨v2, rfl, hown2, hb2⟩
  obtain ⟨a2, c2, rfl, hsl2⟩ := hown2.sls roC_len (by omega)
  have HSL := hide hsl2
  have hB2 := (unhide HB1).trans (hb2.mono (unhide HB1).size)
  have HW2 := hide (unhide HW w2 hB2)
  have HB2 := hide hB2
  clear hown2 hsl2 hb2 hB2 HR1 HB1 HW
  go_wp2_with fail
  go_loop [8] (fun iv => ∃ k : Nat, k <= R.length /\ iv = .int .i64 k /\ (R.take k).any (fun r => r.2 == h) = false) (fun iv => R.length - (intOf iv).toNat)
  case atStart => exact ⟨0, Nat.zero_le _, rfl, rfl⟩
  case round =>
   obtain ⟨k, hk, rfl, hall⟩ := hrel
   by_cases hlt : k < R.length
   ·have hne : R ≠ [] := by intro e; rw [e] at hlt; simp at hlt
    obtain ⟨b1, o1, rfl, hc1⟩ := (unhide HSL).2.2.2 hne
    obtain ⟨f, hf⟩ : ∃ f, R[k]? = some f := ⟨R[k], List.getElem?_eq_getElem hlt⟩
    obtain ⟨q0, q1⟩ := Sls.root (cap := 0) hc1 hf
    obtain ⟨s, x⟩ := f
    have htk : R.take (k + 1) = R.take k ++ [(s, x)] := by rw [List.take_add_one, hf]; rfl
    have HTK := hide htk
    have HALL := hide hall
    have HMEM := hide (List.mem_of_getElem? hf)
    dsimp only at *
    clear hc1 hf hne hall htk
    cases hx : (x == h)
    ·have hnew : (R.take (k + 1)).any (fun r => r.2 == h) = false := by rw [unhide HTK, List.any_append, unhide HALL]; simp [hx]
     have HNEW := hide hnew
     clear hnew
     go_wp2
     go_round
     case rel => exact ⟨k + 1, by omega, by go_num, unhide HNEW⟩
     case measure => simp [intOf]; omega
    ·have hnew : R.any (fun r => r.2 == h) = true := List.any_eq_true.2 ⟨_, unhide HMEM, hx⟩
     obtain ⟨e1, e2⟩ := unhide HYES hnew
     have HE1 := hide e1
     have HE2 := hide e2
     clear hnew e1 e2 HYES HNO HTK HALL HMEM
     go_wp2
     go_ret2
     refine ⟨none, 0, by rw [unhide HE2, unhide HE1]; rfl, ?_, unhide HB2, Fr.nil _⟩
     rw [unhide HE2]
     exact bs_nil _
   ·obtain rfl : k = R.length := by omega
    rw [List.take_length] at hall
    obtain ⟨e1, e2⟩ := unhide HNO hall
    have HE1 := hide e1
    have HE2 := hide e2
    clear hall e1 e2 HYES HNO HSL
    go_wp2_with fail
    refine (unhide HW2).mono ?_
    rintro e w3 ⟨g, c, rfl, ho, hb3⟩
    have HB3 := hide ((unhide HB2).trans (hb3.mono (unhide HB2).size))
    have HFR := hide (Nat.le_trans (unhide HB2).size ho.base)
    have HO := hide (ho.bs (unhide HBD) (by rw [unhide HDL]; omega))
    clear ho hb3 HW2 HB2
    go_wp2
    go_ret2
    refine ⟨some ⟨g, 0, none⟩, c, by rw [unhide HE2, unhide HE1, unhide HDL]; rfl, ?_, unhide HB3, Fr.at (unhide HFR)⟩
    rw [unhide HE2]
    exact unhide HO
 ·have e1 : frE L h = chkE L h := by unfold frE; rw [if_pos hc]
  rw [e1, if_neg hc]
  have hcb : (chkE L h == 0) = false := beq_eq_false_iff_ne.2 hc
  clear hbs hf e1
  generalize chkE L h = X at *
  generalize L.length = N at *
  go_enter Tryz.func9, Tryz.ntmps9
  go_wp2_with fail
  refine (unhide HH).mono ?_
  rintro e w1 ⟨rfl, hb1⟩
  have HB1 := hide hb1
  clear hb1 HH
  go_wp2
  go_ret2
  exact ⟨none, 0, rfl, bs_nil _, unhide HB1, Fr.nil _⟩
theorem splice_parts {L l : List Int} {k : Nat} : L.take k ++ (l ++ L.drop (k + l.length)) = splice L k l := rfl
set_option maxRecDepth 100000 in
set_option maxHeartbeats 1000000 in
theorem sWrite_any (a : Option Addr) (cap : Nat) (L : List Int) (h x : Int) (ab : Option Addr) (cb : Nat) (l : List Int) (w : World) (hbs : Bs w a cap L) (hbl : Bs w ab cb l) (hf : Fine L) (hx : x <= 9223372036854775807) :
  Calls Tryz.prog 10 #[.slice a L.length cap, .int .i64 h, .int .i64 x, .slice ab l.length cb] w fun e w' => ∃ a' c', e = .returned (.tuple #[.slice a' (if pcE L h x l.length = 0 then wrB L h x l else []).length c', .int .i64 (pcE L h x l.length)]) /\ Bs w' a' c' (if pcE L h x l.length = 0 then wrB L h x l else []) /\ Below w.heap.size w w' /\ Fr w.heap.size a' := by
 obtain ⟨i0, hi, hz0, hz1, hz2⟩ := info_parts info_u8
 have hll := hbl.2.2.1
 have hLl := hbs.2.2.1
 have HP := hide (sPart_any a cap L h x l.length w hbs hf hx (by omega))
 have hl := hf.len
 by_cases h0 : pcE L h x l.length = 0
 ·obtain ⟨h1, h2, h3, h4⟩ := pcE_zero.1 h0
  obtain ⟨X, rfl⟩ := Int.eq_ofNat_of_zero_le h2
  obtain ⟨q1, q2, q3⟩ := chkE_zero.1 h1
  have q4 := hndB_iff.1 q2
  have hen := hf.ent q4.1 q4.2 q3
  have ept : ptAt L h X l.length = (((entOf L h).2.1.toNat + X : Nat) : Int) := by unfold ptAt; rw [if_pos h0]; omega
  have eW : wrB L h X l = splice L ((entOf L h).2.1.toNat + X) l := by unfold wrB; rw [if_pos h0, Int.toNat_natCast]
  have hfit : (entOf L h).2.1.toNat + X + l.length <= L.length := by omega
  rw [h0, ept] at HP
  rw [h0, if_pos rfl, eW]
  clear h0 h1 h2 h3 h4 q1 q2 q3 q4 ept eW hen
  generalize (entOf L h).2.1.toNat + X = K at *
  obtain ⟨s1, hs1, hb1⟩ := slice_hi (P := Tryz.prog) (t := 31) Tryz.underlying31 size_u8 hbs K (by omega)
  obtain ⟨s2, hs2, hb2⟩ := slice_lo (P := Tryz.prog) (t := 31) Tryz.underlying31 size_u8 hbs (K + l.length) (by omega)
  rw [show ((K + l.length : Nat) : Int) = (K : Int) + (l.length : Int) by omega] at hs2
  have hk1 : (L.take K).length = K := by rw [List.length_take]; omega
  have hk2 : (L.drop (K + l.length)).length = L.length - (K + l.length) := by simp
  have hsp := length_splice hfit
  have HSP := hide (splice_parts (L := L) (l := l) (k := K))
  have HBY := hide (byt_splice (off := K) hbs.1 hbl.1)
  have HB1 := hide hb1
  have HB2 := hide hb2
  have HBL := hide hbl
  have HK1 := hide hk1
  have HK2 := hide hk2
  have HLS := hide hsp
  clear hbs hbl hf hb1 hb2 hk1 hk2 hsp hx
  generalize hN : L.length = N at *
  have HN := hide hN
  clear hN
  generalize L.take K = T1 at *
  generalize L.drop (K + l.length) = T2 at *
  generalize splice L K l = SP at *
  generalize cap - (K + l.length) = cap2 at *
  generalize hD : N - (K + l.length) = D at *
  have HD := hide hD
  clear hD
  generalize hM : l.length = M at *
  have HM := hide hM
  clear hM
  go_enter Tryz.func10, Tryz.ntmps10
  go_wp2_with fail
  refine (unhide HP).mono ?_
  rintro e w1 ⟨rfl, hb1⟩
  have HBW := hide hb1
  clear hb1 HP
  go_wp2_with (at_builtin; refine wpList_append_bs rfl _ _ 31 rfl i0 Tryz.underlying31 hi hz0 hz1 hz2 w1.heap.size (.slice none 0 0) [] rfl (OwnV.nil _ _) (Nat.le_refl _) s1 K cap T1 rfl (unhide HK1).symm ((unhide HB1).below (unhide HBW)) (by rw [unhide HK1]; simp; omega) ?_)
  intro v2 w2 ho2 hb2
  obtain ⟨a2, c2, rfl⟩ := OwnV.shape (L := T1) ho2
  have HO2 : Hid (OwnV w2 w1.heap.size (.slice a2 K c2) T1) := hide (by rw [unhide HK1] at ho2; exact ho2)
  have hB2 := (unhide HBW).trans (hb2.mono (unhide HBW).size)
  have HBL2 := hide ((unhide HBL).below hB2)
  have HBW2 := hide hB2
  have hsz2 := hb2.size
  have hsz1 := (unhide HBW).size
  clear ho2 hb2 hB2 HB1 HBL
  rw [unhide HK1]
  go_wp2_with (at_builtin; refine wpList_append_bs rfl _ _ 31 rfl i0 Tryz.underlying31 hi hz0 hz1 hz2 w1.heap.size _ T1 rfl (unhide HO2) hsz2 ab M cb l rfl (unhide HM).symm (unhide HBL2) (by rw [unhide HK1, unhide HM]; omega) ?_)
  intro v3 w3 ho3 hb3
  obtain ⟨a3, c3, rfl⟩ := ho3.shape
  have hl3 : (T1 ++ l).length = K + M := by rw [List.length_append, unhide HK1, unhide HM]
  rw [hl3] at ho3 ⊢
  have HO3 := hide ho3
  have HL3 := hide hl3
  have hB3 := (unhide HBW2).trans (hb3.mono hsz1)
  have HB23 := hide ((unhide HB2).below hB3)
  have HBW3 := hide hB3
  have hsz3 := Nat.le_trans hsz2 hb3.size
  clear ho3 hb3 hB3 HB2 HBL2 HBW2 HO2 hl3
  go_wp2_with (at_builtin; refine wpList_append_bs rfl _ _ 31 rfl i0 Tryz.underlying31 hi hz0 hz1 hz2 w1.heap.size _ (T1 ++ l) rfl (unhide HO3) hsz3 s2 D cap2 T2 rfl (unhide HK2).symm (unhide HB23) (by rw [unhide HL3, unhide HK2]; have := unhide HD; omega) ?_)
  intro v4 w4 ho4 hb4
  rw [unhide HSP] at ho4
  obtain ⟨a4, c4, rfl⟩ := ho4.shape
  obtain ⟨a4', c4', e4, hbs4⟩ := ho4.bs (unhide HBY) (by rw [unhide HLS]; omega)
  simp only [Value.slice.injEq, true_and] at e4
  obtain ⟨rfl, rfl⟩ := e4
  have HBS4 := hide hbs4
  have HFR := hide ((Fr.ownV ho4).mono hsz1)
  have HBW4 := hide ((unhide HBW3).trans (hb4.mono hsz1))
  clear ho4 hb4 hbs4 HB23 HBW3 HO3
  rw [unhide HLS]
  go_wp2
  go_ret2
  exact ⟨a4, c4, by rw [unhide HLS]; rfl, unhide HBS4, unhide HBW4, unhide HFR⟩
 ·rw [if_neg h0]
  have e2 : ptAt L h x l.length = 0 := by unfold ptAt; rw [if_neg h0]
  rw [e2] at HP
  have hcb : (pcE L h x l.length == 0) = false := beq_eq_false_iff_ne.2 h0
  clear hbs hbl hf e2 h0
  generalize pcE L h x l.length = X at *
  generalize L.length = N at *
  generalize l.length = M at *
  go_enter Tryz.func10, Tryz.ntmps10
  go_wp2_with fail
  refine (unhide HP).mono ?_
  rintro e w1 ⟨rfl, hb1⟩
  have HB1 := hide hb1
  clear hb1 HP
  go_wp2
  go_ret2
  exact ⟨none, 0, rfl, bs_nil _, unhide HB1, Fr.nil _⟩
theorem info_exS : (Tryz.prog.info? 70).map (fun i => (i.zero, i.size, i.bytes)) = some (some (.agg #[.int .i64 0, .int .i64 0]), 2, 16) := by kernel_rfl
theorem exT_one (e : Int × Int) : ∀ u ∈ exC e, u.oneCell' = true := by
 intro u hu
 unfold exC at hu
 rcases List.mem_cons.1 hu with rfl | hu
 ·rfl
 rw [List.mem_singleton.1 hu]
 rfl
theorem sh_takeS {l : List (Int × Int × Int × Int)} {k : Nat} {e : (Int × Int × Int × Int)} (h : l[k]? = some e) : (l.map shE).take (k + 1) = (l.map shE).take k ++ [(e.2.1 - 288, e.2.2.1)] := by
 rw [List.take_add_one, List.getElem?_map, h]
 rfl
theorem step_append_ex {w : World} {ops : Array Oper} {o : Oper} {a : Act} {K : Act -> World -> Prop} {Q : Exit -> Act -> World -> Prop} {E : Prop} (hgd : o.guard = none) (s x : Operand)
  (ho : o.op = .call { callee := .builtin .append, args := #[s, x], argTypes := #[76, 76] }) (B : Nat) (v : Value) (l : List (Int × Int)) (hs : a.eval s = v) (hown : Lst exC 2 70 w B v l) (g : Nat) (y : Int × Int)
  (hx : a.eval x = .slice (some ⟨g, 0, none⟩) 1 1) (hy : w.heap[g]? = some (.cells (exC y).toArray 70 (0, 0))) (hn : l.length <= 1000) (hB : B <= w.heap.size)
  (h : ∀ g' cap w', Lst exC 2 70 w' B (.slice (some ⟨g', 0, none⟩) (l.length + 1) cap) (l ++ [y]) -> Below B w w' -> (∀ j, j < w.heap.size -> v.ownBlock ≠ some j -> w'.heap[j]? = w.heap[j]?) -> K (a.put o.dst (.slice (some ⟨g', 0, none⟩) (l.length + 1) cap)) w') :
  if Region.wanted o (yielded ops a.tmps) = true then Oper.wp Tryz.prog o a w K Q else E := by
 obtain ⟨i0, hi0, hz0, hz1, hz2⟩ := info_parts info_exS
 exact step_append_lst hgd s x 76 ho B i0 (.agg #[.int .i64 0, .int .i64 0]) 16 Tryz.underlying76 hi0 hz0 hz1 hz2 rfl (by decide) (by decide) v l hs hown g y hx hy rfl (exT_one _) hn hB h
set_option maxRecDepth 100000 in
set_option maxHeartbeats 4000000 in
theorem sTaken_any (a : Option Addr) (cap : Nat) (L : List Int) (w : World) (hbs : Bs w a cap L) (hf : Fine L) :
  Calls Tryz.prog 25 #[.slice a L.length cap] w fun e w' => ∃ v, e = .returned v /\ Lst exC 2 70 w' w.heap.size v (takeL L) /\ Below w.heap.size w w' := by
 obtain ⟨i0, hi0, hz0, hz1, hz2⟩ := info_parts info_exS
 have HE := hide (rEnts_any a cap L w hbs hf.len.1)
 have hbl := hbs.2.2.1
 have HIN := hide (ents_in hf)
 have hel := entsK_len L 40
 have HTL : Hid ((entsK L 40).map shE = takeL L) := hide rfl
 clear hbs hf
 generalize takeL L = TL at *
 generalize entsK L 40 = l at *
 generalize L.length = N at *
 go_enter Tryz.func25, Tryz.ntmps25
 go_wp2_with fail
 refine (unhide HE).mono ?_
 rintro e w1 ⟨v1, rfl, hown1, hb1⟩
 obtain ⟨a1, c1, rfl, hsl1⟩ := hown1.sls enC_len (by omega)
 have HS := hide hsl1
 have HB1 := hide hb1
 have hcap := hsl1.2.2.1
 clear hown1 hsl1 hb1 HE
 go_wp2_with fail
 go_loopw [3, 5] (fun v iv wr => ∃ k : Nat, k <= l.length /\ iv = .int .i64 k /\ Lst exC 2 70 wr w1.heap.size v ((l.map shE).take k) /\ Below w1.heap.size w1 wr) (fun _ iv _ => l.length - (intOf iv).toNat)
 case atStart => exact ⟨0, Nat.zero_le _, rfl, Lst.nil _ _, Below.refl _ _⟩
 case round =>
  obtain ⟨k, hk, rfl, hown, hbel⟩ := hrel
  obtain ⟨va, vm, vc, rfl⟩ := hown.shape
  by_cases hlt : k < l.length
  ·have hne : l ≠ [] := by intro e; rw [e] at hlt; simp at hlt
   obtain ⟨b1, o1, rfl, hc1⟩ := ((unhide HS).below hbel).2.2.2 hne
   obtain ⟨f, hf⟩ : ∃ f, l[k]? = some f := ⟨l[k], List.getElem?_eq_getElem hlt⟩
   obtain ⟨q0, q1, q2, q3⟩ := Sls.ent (cap := 0) hc1 hf
   have HT := hide (sh_takeS hf)
   have hfi := unhide HIN f (List.mem_of_getElem? hf)
   have hml : ((l.map shE).take k).length <= 40 := by simp; omega
   obtain ⟨x, y, z, t⟩ := f
   dsimp only at *
   have hwr : IntKind.i64.wrap (y - 288) = y - 288 := by rw [IntKind.wrap_i64]; omega
   have HWR := hide hwr
   clear hwr
   have hsz := hbel.size
   have hbd := below_drew (Below.refl wr.heap.size wr)
   have HO3 := hide ((hown.below hbd).below ((Below.refl _ wr.drew).alloc (Nat.le_refl _) (.cells #[.int .i64 (IntKind.i64.wrap (y - 288)), .int .i64 z] 70)))
   have HGN : Hid ((wr.drew.alloc (.cells #[.int .i64 (IntKind.i64.wrap (y - 288)), .int .i64 z] 70)).heap[wr.heap.size]? = some (.cells (exC (IntKind.i64.wrap (y - 288), z)).toArray 70 (0, 0))) := hide (heap_alloc_new wr.drew _)
   have HBE := hide hbel
   have hblk : ∀ g, (Value.slice va vm vc).ownBlock = some g -> w1.heap.size <= g := hown.block
   have hb1lt : b1 < w1.heap.size := by
    obtain ⟨b2, o2, e2, hc2⟩ := (unhide HS).2.2.2 hne
    simp only [Option.some.injEq, Addr.mk.injEq, and_true] at e2
    obtain ⟨rfl, rfl⟩ := e2
    exact block_lt_of_cell (Sls.ent (cap := 0) hc2 hf).1
   clear hc1 hf hne hbel hown
   have hnb : (Value.slice va vm vc).ownBlock ≠ some b1 := fun e => by have := hblk b1 e; omega
   have hq1 : (wr.drew.alloc (.cells #[.int .i64 (IntKind.i64.wrap (y - 288)), .int .i64 z] 70)).cell? ⟨b1, o1 + k * 4 + 1, none⟩ = some (.int .i64 y) := (((Below.refl wr.drew.heap.size wr.drew).alloc (Nat.le_refl _) _).cell (p := ⟨b1, o1 + k * 4 + 1, none⟩) (block_lt_of_cell q1)).trans q1
   have hq2 : (wr.drew.alloc (.cells #[.int .i64 (IntKind.i64.wrap (y - 288)), .int .i64 z] 70)).cell? ⟨b1, o1 + k * 4 + 2, none⟩ = some (.int .i64 z) := (((Below.refl wr.drew.heap.size wr.drew).alloc (Nat.le_refl _) _).cell (p := ⟨b1, o1 + k * 4 + 2, none⟩) (block_lt_of_cell q2)).trans q2
   have hb1w : b1 < (wr.drew.alloc (.cells #[.int .i64 (IntKind.i64.wrap (y - 288)), .int .i64 z] 70)).heap.size := block_lt_of_cell hq1
   have HQ1 := hide hq1
   have HQ2 := hide hq2
   clear hq1 hq2
   go_wp2_with fail
   go_region_held3 (fun w' => w'.cell? ⟨b1, o1 + k * 4 + 1, none⟩ = some (.int .i64 y) /\ w'.cell? ⟨b1, o1 + k * 4 + 2, none⟩ = some (.int .i64 z)) (first | go_keep | (go_split_ands; refine ⟨?_, ?_⟩ <;> go_keep))
    ((refine step_append_ex (by rfl) (.tmp 14) (.tmp 29) (by rfl) w1.heap.size _ ((l.map shE).take k) (by rfl) (unhide HO3) wr.heap.size (IntKind.i64.wrap (y - 288), z) (by rfl) (unhide HGN) (by omega) (by simp; omega) ?_; intro g9 c9 w9 hown9 hb9 hk9; have r1 := (World.cell?_of_block (a := ⟨b1, o1 + k * 4 + 1, none⟩) (hk9 b1 hb1w hnb)).trans (unhide HQ1); have r2 := (World.cell?_of_block (a := ⟨b1, o1 + k * 4 + 2, none⟩) (hk9 b1 hb1w hnb)).trans (unhide HQ2)))
   rw [unhide HWR, <- unhide HT] at hown9
   have HO9 := hide hown9
   have HB9 := hide ((unhide HBE).trans (((below_drew (Below.refl wr.heap.size wr)).alloc (Nat.le_refl _) _).mono hsz |>.trans hb9))
   clear hown9 hb9 hk9 r1 r2 HO3 HGN HQ1 HQ2 q0 q1 q2 q3
   go_wp2
   go_roundw
   case rel => exact ⟨k + 1, by omega, by go_num, by simpa [Nat.min_eq_left (Nat.le_of_lt hlt)] using unhide HO9, unhide HB9⟩
   case measure => simp [intOf]; omega
  ·obtain rfl : k = l.length := by omega
   rw [List.take_of_length_le (by simp), unhide HTL] at hown
   have HO := hide (hown.lowB (unhide HB1).size)
   have HB := hide ((unhide HB1).trans (hbel.mono (unhide HB1).size))
   clear hown hbel
   go_wp2
   go_ret
   exact ⟨_, rfl, unhide HO, unhide HB⟩
def fitN (L : List Int) (n : Int) : Int := ((freeL ((L.length : Int) - 288) (takeL L)).foldl (fitR n) (-1, 0)).1
theorem fitN_spec {L : List Int} (hf : Fine L) {n : Int} (h1 : 1 <= n) (h2 : n <= 1000) : (fitE ((L.length : Int) - 288) (takeL L) n = 4 /\ fitN L n < 0) \/ (fitE ((L.length : Int) - 288) (takeL L) n = 0 /\ fitN L n = fitAt ((L.length : Int) - 288) (takeL L) n /\ 0 <= fitN L n) := by
 have hfr := (freeL_small (take_chk hf)).1
 have hE := fitE_fine hf h1 (show n <= 6400 by omega)
 have hfl : freeL ((L.length : Int) - 288) (takeL L) = freeOf ((L.length : Int) - 288) (srtL (takeL L)) := by unfold freeL; rw [if_pos (take_chk hf)]
 unfold fitN
 rcases fitR_spec (size := n) (h := freeL ((L.length : Int) - 288) (takeL L)) (fun r hr => ⟨(hfr r hr).1, (hfr r hr).2.1⟩) with ⟨h3, h4⟩ | ⟨h3, h4, h5⟩
 ·left
  rw [hfl] at h3
  rw [hE, if_pos h3]
  exact ⟨rfl, h4⟩
 ·right
  rw [hfl] at h5
  have h0 : fitE ((L.length : Int) - 288) (takeL L) n = 0 := by rw [hE, if_neg (by omega)]
  refine ⟨h0, ?_, ?_⟩
  ·rw [h3, fitAt_fine hf h1 (by omega) h0, hfl]
  ·rw [h3]; exact h4
theorem sAlloc_range (a : Option Addr) (len cap : Nat) (n t : Int) (w : World) (hbad : n < 1 \/ 1000 < n \/ t < 0 \/ 15 < t) :
  Calls Tryz.prog 8 #[.slice a len cap, .int .i64 n, .int .i64 t] w fun e w' => e = .returned (.tuple #[.slice none 0 0, .int .i64 0, .int .i64 1]) /\ w = w' := by
 by_cases c1 : n < 1
 ·clear hbad
  go_enter Tryz.func8, Tryz.ntmps8
  go_wp2
  go_ret3
  exact ⟨rfl, rfl⟩
 by_cases c2 : 1000 < n
 ·clear hbad
  go_enter Tryz.func8, Tryz.ntmps8
  go_wp2
  go_ret3
  exact ⟨rfl, rfl⟩
 by_cases c3 : t < 0
 ·clear hbad
  go_enter Tryz.func8, Tryz.ntmps8
  go_wp2
  go_ret3
  exact ⟨rfl, rfl⟩
 have c4 : 15 < t := by omega
 clear hbad
 go_enter Tryz.func8, Tryz.ntmps8
 go_wp2
 go_ret3
 exact ⟨rfl, rfl⟩
def AlCase (L : List Int) (N : Nat) (t : Int) (low : Nat) (F AE AH : Int) (R : List Int) : Prop :=
 (low = 40 /\ AE = 4 /\ AH = 0 /\ R = []) \/ (low < 40 /\ F < 0 /\ AE = 4 /\ AH = 0 /\ R = []) \/
 (low < 40 /\ ∃ x : Nat, F + 288 = x /\ 0 <= F /\ AE = 0 /\ AH = (low : Int) + 1 /\ putE L ((low : Int) + 1, (x : Int), (N : Int), t) = 0 /\ x + N <= L.length /\ R = splice (putL L ((low : Int) + 1, (x : Int), (N : Int), t)) x (zerosB N))
theorem al_case {L : List Int} (hf : Fine L) {N : Nat} {t : Int} (n1 : 1 <= N) (n2 : N <= 1000) (t1 : 0 <= t) (t2 : t <= 15) : AlCase L N t (lowH L) (fitN L N) (alE L N t) (alH L N t) (if alE L N t = 0 then alB L N t else []) := by
 have hE : alE L N t = if lowH L = 40 then 4 else fitE ((L.length : Int) - 288) (takeL L) N := by unfold alE; rw [if_neg (by omega)]
 have h40 := lowH_le L
 by_cases hlow : lowH L = 40
 ·rw [if_pos hlow] at hE
  left
  refine ⟨hlow, hE, ?_, ?_⟩
  ·unfold alH; rw [hE]; rfl
  ·rw [hE]; rfl
 ·rw [if_neg hlow] at hE
  right
  rcases fitN_spec hf (n := N) (by omega) (by omega) with ⟨e1, e2⟩ | ⟨e1, e2, e3⟩
  ·left
   rw [e1] at hE
   refine ⟨by omega, e2, hE, ?_, ?_⟩
   ·unfold alH; rw [hE]; rfl
   ·rw [hE]; rfl
  ·right
   rw [e1] at hE
   obtain ⟨x, M, hk⟩ := al_ok hf hE
   have hM : M = N := by have := hk.eqn; omega
   subst hM
   refine ⟨by omega, x, by have := hk.eqx; omega, e3, hE, ?_, hk.put hf, hk.x2, ?_⟩
   ·unfold alH; rw [if_pos hE]
   ·rw [if_pos hE]; exact (hk.lay hf hE).symm
set_option maxRecDepth 100000 in
set_option maxHeartbeats 4000000 in
theorem sAlloc_go (a : Option Addr) (cap : Nat) (L : List Int) (N : Nat) (t : Int) (w : World) (hbs : Bs w a cap L) (hf : Fine L) (n1 : 1 <= N) (n2 : N <= 1000) (t1 : 0 <= t) (t2 : t <= 15) (low : Nat) (F AE AH : Int) (R : List Int) (hF : fitN L N = F) (hlow : First (fun j => decide (tagAt L ((j : Int) + 1) = 0)) 40 low) (hcase : AlCase L N t low F AE AH R) :
  Calls Tryz.prog 8 #[.slice a L.length cap, .int .i64 N, .int .i64 t] w fun e w' => ∃ a' c', e = .returned (.tuple #[.slice a' R.length c', .int .i64 AH, .int .i64 AE]) /\ Bs w' a' c' R /\ Below w.heap.size w w' /\ Fr w.heap.size a' := by
 have hl := hf.len
 have hbl := hbs.2.2.1
 have HE := hide (fun (k : Nat) (hk : k < 40) (W : World) (hW : Below w.heap.size w W) => rEntry_any a cap L ((k : Int) + 1) W (hbs.below hW) hl.1 (by omega) (by omega))
 have HTK := hide (fun (W : World) (hW : Below w.heap.size w W) => sTaken_any a cap L W (hbs.below hW) hf)
 have HFT := hide (fun (v : Option Addr) (c : Nat) (W : World) (h : Exs W v c (takeL L)) => rfit_any ((L.length : Int) - 288) v c (takeL L) N W h (take_chk hf))
 change Hid (∀ (v : Option Addr) (c : Nat) (W : World), Exs W v c (takeL L) -> Calls Tryz.prog 24 #[.int .i64 ((L.length : Int) - 288), .slice v (takeL L).length c, .int .i64 N] W fun e w' => e = .returned (.int .i64 (fitN L N)) /\ Below W.heap.size W w') at HFT
 rw [hF] at HFT
 have HPE := hide (fun (e : (Int × Int × Int × Int)) (W : World) (hW : Below w.heap.size w W) => rPutEntry_any a cap L e W (hbs.below hW) hf.len0)
 have HWP := hide (fun (a : Option Addr) (cap : Nat) (P : List Int) (x : Nat) (W : World) (hP : P.length = L.length) (hb : Bs W a cap P) (hx : x + N <= L.length) => rWipe_any a cap P x N W hb (by omega) (by omega) (by omega))
 have htl := takeL_len L
 have HTN : Hid (True -> (takeL L).length <= 8796093021952) := hide (fun _ => by omega)
 have HTI : Hid (∀ e ∈ takeL L, InI e) := hide (fun e he => by
  obtain ⟨h, h1, h2, h3, rfl⟩ := mem_takeL.1 he
  have := hf.ent h1 h2 h3
  unfold InI shE
  dsimp only
  omega)
 have HLOW := hide hlow
 have HCASE := hide hcase
 have HBY := hide hbs.1
 have HHL := hide hl
 have r1 : ¬ (N : Int) < 1 := by omega
 have r2 : ¬ 1000 < (N : Int) := by omega
 have r3 : ¬ t < 0 := by omega
 have r4 : ¬ 15 < t := by omega
 clear hbs hf hF hlow hcase htl
 generalize takeL L = TL at *
 go_enter Tryz.func8, Tryz.ntmps8
 go_wp2_with fail
 go_loopw [9] (fun hv wr => ∃ k : Nat, k <= 40 /\ hv = .int .i64 ((k : Int) + 1) /\ (∀ j, j < k -> decide (tagAt L ((j : Int) + 1) = 0) = false) /\ Below w.heap.size w wr) (fun hv _ => 41 - (intOf hv).toNat)
 case atStart => exact ⟨0, Nat.zero_le _, rfl, fun j hj => absurd hj (Nat.not_lt_zero j), Below.refl _ _⟩
 case round =>
  obtain ⟨k, hk, rfl, hall, hbel⟩ := hrel
  by_cases hk40 : k < 40
  ·have HEk := hide (unhide HE k hk40 wr hbel)
   unfold entV at HEk
   have HALL := hide hall
   have HBEL := hide hbel
   by_cases ht : tagAt L ((k : Int) + 1) = 0
   ·have hkl : low = k := First.unique (unhide HLOW) ⟨hk, hall, fun _ => decide_eq_true ht⟩
    rw [ht] at HEk
    subst hkl
    clear hall hbel ht HALL HLOW
    obtain ⟨E, hE⟩ : ∃ E, entOf L ((low : Int) + 1) = E := ⟨_, rfl⟩
    rw [hE] at HEk
    clear hE
    obtain ⟨y1, y2, y3, y4⟩ := E
    dsimp only at HEk
    go_wp2_with fail
    refine (unhide HEk).mono ?_
    rintro e w1 ⟨rfl, hb1⟩
    have hB1 := ((unhide HBEL).trans (hb1.mono (unhide HBEL).size))
    have hB2 := hB1.alloc hB1.size (.cells #[.int .i64 y1, .int .i64 y2, .int .i64 y3, .int .i64 y4] 72)
    have HTK2 := hide (unhide HTK _ hB2)
    have HB2 := hide hB2
    clear hb1 hB1 hB2 HEk HBEL HTK HE
    go_wp2_with fail
    refine (unhide HTK2).mono ?_
    rintro e w3 ⟨v3, rfl, hown3, hb3⟩
    obtain ⟨a3, c3, rfl, hx3⟩ := ExO.exs (l := TL) hown3 (unhide HTI) (unhide HTN trivial)
    have HFT3 := hide (unhide HFT a3 c3 w3 hx3)
    have hB3 := (unhide HB2).trans (hb3.mono (unhide HB2).size)
    have HB3 := hide hB3
    clear hown3 hx3 hb3 hB3 HTK2 HB2 HFT HTI HTN
    generalize TL.length = TN at *
    go_wp2_with fail
    refine (unhide HFT3).mono ?_
    rintro e w4 ⟨rfl, hb4⟩
    have hB4 := (unhide HB3).trans (hb4.mono (unhide HB3).size)
    have HB4 := hide hB4
    clear hb4 HFT3 HB3
    rcases unhide HCASE with ⟨e1, _⟩ | ⟨_, e2, rfl, rfl, rfl⟩ | ⟨_, x, e1, e2, rfl, rfl, e3, e4, e5⟩
    ·omega
    ·clear HCASE HPE HWP hB4
     go_wp2
     go_ret3
     exact ⟨none, 0, rfl, bs_nil _, unhide HB4, Fr.nil _⟩
    ·have HPE4 := hide (unhide HPE ((low : Int) + 1, (x : Int), (N : Int), t) w4 hB4)
     rw [e3] at HPE4
     have hPl : (putL L ((low : Int) + 1, (x : Int), (N : Int), t)).length = L.length := putL_len e3
     unfold entV at HPE4
     dsimp only at HPE4
     have hFx : F = (x : Int) - 288 := by omega
     subst hFx
     have hx288 : (x : Int) - 288 + 288 = x := by omega
     clear HCASE HPE hB4 e3 e1
     generalize putL L ((low : Int) + 1, (x : Int), (N : Int), t) = P at *
     have HPL := hide hPl
     have HE5 := hide e5
     have hx1 : (288 : Int) <= x := by omega
     have hx2 : (x : Int) <= 6400 := by omega
     clear hPl e5 hx288
     go_wp2_with fail
     refine (unhide HPE4).mono ?_
     rintro e w5 ⟨a5, c5, he5, hbs5, hb5⟩
     rw [unhide HPL] at he5
     subst he5
     have hWP5 := unhide HWP a5 c5 P x w5 (unhide HPL) hbs5 e4
     rw [unhide HPL] at hWP5
     have HWP5 := hide hWP5
     have HB5 := hide ((unhide HB4).trans (hb5.mono (unhide HB4).size))
     have HBR := hide (byt_splice (off := x) hbs5.1 (byt_zerosB N))
     have HRL := hide (length_splice (z := P) (l := zerosB N) (off := x) (by rw [length_zerosB, unhide HPL]; exact e4))
     clear hWP5 hbs5 hb5 HPE4 HWP HB4
     go_wp2_with fail
     refine (unhide HWP5).mono ?_
     rintro e w6 ⟨g6, c6, rfl, ho6, hb6⟩
     have HBS6 := hide (ho6.bs (unhide HBR) (by rw [unhide HRL, unhide HPL]; omega))
     have HB6 := hide ((unhide HB5).trans (hb6.mono (unhide HB5).size))
     have HFR := hide (Nat.le_trans (unhide HB5).size ho6.base)
     clear ho6 hb6 HWP5 HB5
     go_wp2
     go_ret3
     refine ⟨some ⟨g6, 0, none⟩, c6, ?_, ?_, unhide HB6, Fr.at (unhide HFR)⟩
     ·rw [unhide HE5, unhide HRL, unhide HPL]; rfl
     ·rw [unhide HE5]; exact unhide HBS6
   ·have hd : decide (tagAt L ((k : Int) + 1) = 0) = false := decide_eq_false ht
    rw [bne_iff_ne.2 ht] at HEk
    clear hall hbel ht
    obtain ⟨E, hE⟩ : ∃ E, entOf L ((k : Int) + 1) = E := ⟨_, rfl⟩
    rw [hE] at HEk
    clear hE
    obtain ⟨y1, y2, y3, y4⟩ := E
    dsimp only at HEk
    have HD := hide hd
    clear hd
    go_wp2_with fail
    refine (unhide HEk).mono ?_
    rintro e w1 ⟨rfl, hb1⟩
    have HB1 := hide ((unhide HBEL).trans (hb1.mono (unhide HBEL).size))
    clear hb1 HEk HBEL
    go_wp2
    go_roundw
    case rel => exact ⟨k + 1, by omega, by go_num, First.step (unhide HALL) (unhide HD), (unhide HB1).alloc (unhide HB1).size _⟩
    case measure => simp [intOf]; omega
  ·obtain rfl : k = 40 := by omega
   have hkl : low = 40 := First.unique (unhide HLOW) ⟨Nat.le_refl _, hall, fun h => absurd h (Nat.lt_irrefl _)⟩
   rcases unhide HCASE with ⟨_, rfl, rfl, rfl⟩ | ⟨e0, _⟩ | ⟨e0, _⟩
   ·have HTK2 := hide (unhide HTK wr hbel)
    have HB2 := hide hbel
    clear hall hbel hkl HCASE HLOW HE HPE HWP
    go_wp2_with fail
    refine (unhide HTK2).mono ?_
    rintro e w3 ⟨v3, rfl, hown3, hb3⟩
    obtain ⟨a3, c3, rfl, hx3⟩ := ExO.exs (l := TL) hown3 (unhide HTI) (unhide HTN trivial)
    have HFT3 := hide (unhide HFT a3 c3 w3 hx3)
    have HB3 := hide ((unhide HB2).trans (hb3.mono (unhide HB2).size))
    clear hown3 hx3 hb3 HTK2 HB2 HFT HTI HTN
    generalize TL.length = TN at *
    go_wp2_with fail
    refine (unhide HFT3).mono ?_
    rintro e w4 ⟨rfl, hb4⟩
    have HB4 := hide ((unhide HB3).trans (hb4.mono (unhide HB3).size))
    clear hb4 HFT3 HB3
    go_wp2
    go_ret3
    exact ⟨none, 0, rfl, bs_nil _, unhide HB4, Fr.nil _⟩
   ·omega
   ·omega
theorem sAlloc_any (a : Option Addr) (cap : Nat) (L : List Int) (n t : Int) (w : World) (hbs : Bs w a cap L) (hf : Fine L) :
  Calls Tryz.prog 8 #[.slice a L.length cap, .int .i64 n, .int .i64 t] w fun e w' => ∃ a' c', e = .returned (.tuple #[.slice a' (if alE L n t = 0 then alB L n t else []).length c', .int .i64 (alH L n t), .int .i64 (alE L n t)]) /\ Bs w' a' c' (if alE L n t = 0 then alB L n t else []) /\ Below w.heap.size w w' /\ Fr w.heap.size a' := by
 by_cases hr : n < 1 \/ 1000 < n \/ t < 0 \/ 15 < t
 ·have e1 : alE L n t = 1 := by unfold alE; rw [if_pos hr]
  have e2 : alH L n t = 0 := by unfold alH; rw [e1]; rfl
  rw [e1, e2]
  exact (sAlloc_range a L.length cap n t w hr).mono fun e w' ⟨he, hw⟩ => ⟨none, 0, he, bs_nil _, by rw [hw]; exact Below.refl _ _, Fr.nil _⟩
 ·obtain ⟨N, rfl⟩ := Int.eq_ofNat_of_zero_le (show 0 <= n by omega)
  exact sAlloc_go a cap L N t w hbs hf (by omega) (by omega) (by omega) (by omega) (lowH L) _ _ _ _ rfl (lowH_first L) (al_case hf (by omega) (by omega) (by omega) (by omega))
def plI (b : List Int) (s : ByteArray) : Int := if plR b s = 8 then -1 else (plR b s : Int)
set_option maxHeartbeats 1000000 in
theorem sPlace_any (a : Option Addr) (cap : Nat) (L : List Int) (s : ByteArray) (w : World) (hbs : Bs w a cap L) (hl1 : 288 <= L.length) (hl2 : L.length <= 6400) :
  Calls Tryz.prog 32 #[.slice a L.length cap, .string s] w fun e w' => e = .returned (.int .i64 (plI L s)) /\ w = w' := by
 have HRA := hide (fun (k : Nat) (hk : k < 8) => rRootAt_any a cap L k w hbs hl1 hl2 hk)
 have HR11 := hide (fun (k : Nat) (hk : k < 8) => rowAt_len (b := L) (i := k) (by omega))
 have HF := hide (plR_first L s)
 generalize hP : plI L s = P
 have HP := hide hP
 clear hbs hP
 generalize hN : L.length = N at *
 have HN := hide hN
 clear hN
 go_enter Tryz.func32, Tryz.ntmps32
 go_wp2_with fail
 go_loop [5] (fun iv => ∃ k : Nat, k <= 8 /\ iv = .int .i64 k /\ ∀ j, j < k -> isAtR L s j = false) (fun iv => 8 - (intOf iv).toNat)
 case atStart => exact ⟨0, Nat.zero_le _, rfl, fun j hj => absurd hj (Nat.not_lt_zero j)⟩
 case round =>
  obtain ⟨k, hk, rfl, hall⟩ := hrel
  by_cases hlt : k < 8
  ·have HRk := hide (unhide HRA k hlt)
   have hr11 := unhide HR11 k hlt
   have HALL := hide hall
   have hPk : isAtR L s k = true -> P = k := fun h => by
    have : plR L s = k := First.unique (unhide HF) ⟨hk, hall, fun _ => h⟩
    have h2 := unhide HP
    unfold plI at h2
    rw [this, if_neg (by omega)] at h2
    exact h2.symm
   have HPk := hide hPk
   have HIS : Hid (isAtR L s k = (decide ((readOut ((rowAt L k).take 8)).2 = 0) && decide ((readOut ((rowAt L k).take 8)).1 = s))) := hide rfl
   clear hall hPk HP HF
   obtain ⟨I, hI0⟩ : ∃ I, isAtR L s k = I := ⟨_, rfl⟩
   rw [hI0] at HPk HIS
   have HI0 := hide hI0
   clear hI0
   generalize rowAt L k = r at *
   go_wp2_with fail
   refine (unhide HRk).mono ?_
   rintro e w1 ⟨a1, c1, rfl, hb1, hw1⟩
   subst hw1
   obtain ⟨a2, hhi, hb2⟩ := slice_hi (P := Tryz.prog) (t := 31) Tryz.underlying31 size_u8 hb1 8 (by omega)
   rw [hr11, show ((8 : Nat) : Int) = 8 from rfl] at hhi
   have h8 : (r.take 8).length = 8 := by rw [List.length_take]; omega
   have HRD := hide (rRead_any a2 c1 (r.take 8) w hb2)
   rw [h8] at HRD
   clear hb1 hb2 h8 HRk hr11
   generalize (readOut (r.take 8)).1 = nm at *
   generalize (readOut (r.take 8)).2 = cc at *
   by_cases hc : cc = 0
   ·subst hc
    by_cases hs : nm = s
    ·subst hs
     have hI : I = true := by rw [unhide HIS]; simp
     have HPP := hide (unhide HPk hI)
     clear hI HIS HPk
     go_wp2_with fail
     refine (unhide HRD).mono ?_
     rintro e w2 ⟨rfl, hw2⟩
     subst hw2
     go_wp2
     go_ret
     exact ⟨by rw [unhide HPP]; rfl, rfl⟩
    ·have hI : I = false := by rw [unhide HIS]; simp [hs]
     have HI := hide hI
     have hsl := toL_no hs
     clear hI HIS HPk hs
     go_wp2_with fail
     refine (unhide HRD).mono ?_
     rintro e w2 ⟨rfl, hw2⟩
     subst hw2
     go_wp2
     go_round
     case rel => exact ⟨k + 1, by omega, by go_num, First.step (unhide HALL) ((unhide HI0).trans (unhide HI))⟩
     case measure => simp [intOf]; omega
   ·have hI : I = false := by rw [unhide HIS]; simp [hc]
    have HI := hide hI
    have hcb : (cc == 0) = false := beq_eq_false_iff_ne.2 hc
    clear hI HIS HPk hc
    go_wp2_with fail
    refine (unhide HRD).mono ?_
    rintro e w2 ⟨rfl, hw2⟩
    subst hw2
    go_wp2
    go_round
    case rel => exact ⟨k + 1, by omega, by go_num, First.step (unhide HALL) ((unhide HI0).trans (unhide HI))⟩
    case measure => simp [intOf]; omega
  ·obtain rfl : k = 8 := by omega
   have hp8 : P = -1 := by
    have : plR L s = 8 := First.unique (unhide HF) ⟨hk, hall, fun h => absurd h (Nat.lt_irrefl _)⟩
    have h2 := unhide HP
    unfold plI at h2
    rw [this, if_pos rfl] at h2
    exact h2.symm
   have HPP := hide hp8
   clear hall hp8 HP HF
   go_wp2
   go_ret
   exact ⟨by rw [unhide HPP]; rfl, rfl⟩
theorem rNameB (s : ByteArray) (w : World) (hs : s.size <= 140737488351232) : Calls Tryz.prog 31 #[.string s] w fun e w' => e = .returned (.bool (nameB s)) /\ w = w' := by
 cases hn : nameB s with
 | true => exact rName_yes s w (nameB_iff.1 hn)
 | false => exact rName_fail s w hs (fun h => by rw [nameB_iff.2 h] at hn; cases hn)
theorem sUnset_any (a : Option Addr) (cap : Nat) (L : List Int) (s : ByteArray) (w : World) (hbs : Bs w a cap L) (hf : Fine L) (hs : s.size <= 140737488351232) :
  Calls Tryz.prog 12 #[.slice a L.length cap, .string s] w fun e w' => ∃ a' c', e = .returned (.tuple #[.slice a' (if unE L s = 0 then unB L s else []).length c', .int .i64 (unE L s)]) /\ Bs w' a' c' (if unE L s = 0 then unB L s else []) /\ Below w.heap.size w w' /\ Fr w.heap.size a' := by
 have HN := hide (rNameB s w hs)
 have hl := hf.len
 have hbl := hbs.2.2.1
 have HP := hide (sPlace_any a cap L s w hbs hl.1 hl.2)
 have hpl := plR_le L s
 cases hn : nameB s with
 | false =>
  rw [hn] at HN
  have e1 : unE L s = 2 := by unfold unE; rw [hn]; rfl
  rw [e1, if_neg (by decide)]
  clear e1
  clear hbs hf hl hn HP
  generalize L.length = N at *
  go_enter Tryz.func12, Tryz.ntmps12
  go_wp2_with fail
  refine (unhide HN).mono ?_
  rintro e w1 ⟨rfl, hw⟩
  subst hw
  go_wp2
  go_ret2
  exact ⟨none, 0, rfl, bs_nil _, Below.refl _ _, Fr.nil _⟩
 | true =>
  rw [hn] at HN
  unfold plI at HP
  by_cases h8 : plR L s = 8
  ·rw [if_pos h8] at HP
   have e1 : unE L s = 5 := by unfold unE; rw [hn, if_neg (by simp), if_pos h8]
   rw [e1, if_neg (by decide)]
   clear hbs hf hl hn h8 e1
   generalize L.length = N at *
   go_enter Tryz.func12, Tryz.ntmps12
   go_wp2_with fail
   refine (unhide HN).mono ?_
   rintro e w1 ⟨rfl, hw⟩
   subst hw
   go_wp2_with fail
   refine (unhide HP).mono ?_
   rintro e w2 ⟨rfl, hw⟩
   subst hw
   go_wp2
   go_ret2
   exact ⟨none, 0, rfl, bs_nil _, Below.refl _ _, Fr.nil _⟩
  ·rw [if_neg h8] at HP
   have e1 : unE L s = 0 := by unfold unE; rw [hn, if_neg (by simp), if_neg h8]
   rw [e1, if_pos rfl]
   clear e1
   have HW := hide (rWipe_any a cap L (200 + 11 * plR L s) 11 w hbs (by omega) hl.2 (by omega))
   rw [show ((200 + 11 * plR L s : Nat) : Int) = 200 + 11 * (plR L s : Int) by omega, show ((11 : Nat) : Int) = 11 from rfl] at HW
   have hU : unB L s = splice L (200 + 11 * plR L s) (zerosB 11) := rfl
   have hUl : (unB L s).length = L.length := by rw [hU, length_splice (by rw [length_zerosB]; omega)]
   have HBY := hide (show Byt (unB L s) from byt_splice hbs.1 (byt_zerosB 11))
   rw [<- hU] at HW
   have HUL := hide hUl
   have hp7 : (plR L s : Int) <= 7 := by omega
   clear hbs hf hn hU hUl h8 hpl
   generalize unB L s = U at *
   generalize plR L s = p at *
   generalize L.length = N at *
   go_enter Tryz.func12, Tryz.ntmps12
   go_wp2_with fail
   refine (unhide HN).mono ?_
   rintro e w1 ⟨rfl, hw⟩
   subst hw
   go_wp2_with fail
   refine (unhide HP).mono ?_
   rintro e w2 ⟨rfl, hw⟩
   subst hw
   go_wp2_with fail
   refine (unhide HW).mono ?_
   rintro e w3 ⟨g, c, rfl, ho, hb⟩
   have HB := hide hb
   have HFR := hide ho.base
   have HO := hide (ho.bs (unhide HBY) (by rw [unhide HUL]; omega))
   clear ho hb HW
   go_wp2
   go_ret2
   exact ⟨some ⟨g, 0, none⟩, c, by rw [unhide HUL]; rfl, unhide HO, unhide HB, Fr.at (unhide HFR)⟩
def frFrom (L : List Int) (k : Nat) (m : Int) : Prop := (∃ j : Nat, m = j /\ k <= j /\ j < 8 /\ isRoot (rowAt L j) = false /\ ∀ i, k <= i -> i < j -> isRoot (rowAt L i) = true) \/ (m = -1 /\ ∀ i, k <= i -> i < 8 -> isRoot (rowAt L i) = true)
theorem frFrom_zero {L : List Int} {m : Int} (h : frFrom L 0 m) : m = if frR L = 8 then -1 else (frR L : Int) := by
 have hf := frR_first L
 rcases h with ⟨j, rfl, _, h2, h3, h4⟩ | ⟨rfl, h4⟩
 ·have : frR L = j := First.unique hf ⟨by omega, fun i hi => by simp [h4 i (by omega) hi], fun _ => by simp [h3]⟩
  rw [this, if_neg (by omega)]
 ·have : frR L = 8 := First.unique hf ⟨Nat.le_refl _, fun i hi => by simp [h4 i (by omega) hi], fun h => absurd h (Nat.lt_irrefl _)⟩
  rw [this, if_pos rfl]
theorem frFrom_step {L : List Int} {k : Nat} {m : Int} (hk : k < 8) (h : frFrom L (k + 1) m) : frFrom L k (if isRoot (rowAt L k) = true then m else (k : Int)) := by
 cases hr : isRoot (rowAt L k) with
 | false =>
  rw [if_neg (by simp)]
  exact .inl ⟨k, rfl, Nat.le_refl _, hk, hr, fun i h1 h2 => by omega⟩
 | true =>
  rw [if_pos rfl]
  rcases h with ⟨j, rfl, h1, h2, h3, h4⟩ | ⟨rfl, h4⟩
  ·refine .inl ⟨j, rfl, by omega, h2, h3, fun i h5 h6 => ?_⟩
   by_cases e : i = k
   ·subst e; exact hr
   ·exact h4 i (by omega) h6
  ·refine .inr ⟨rfl, fun i h5 h6 => ?_⟩
   by_cases e : i = k
   ·subst e; exact hr
   ·exact h4 i (by omega) h6
theorem frFrom_start (L : List Int) : frFrom L 8 (-1) := .inr ⟨rfl, fun i h1 h2 => by omega⟩
theorem sSet_no (a : Option Addr) (cap : Nat) (L : List Int) (s : ByteArray) (h : Int) (w : World) (hbs : Bs w a cap L) (hf : Fine L) (hs : s.size <= 140737488351232) (hbad : nameB s = false \/ chkE L h ≠ 0) :
  Calls Tryz.prog 11 #[.slice a L.length cap, .string s, .int .i64 h] w fun e w' => e = .returned (.tuple #[.slice none 0 0, .bool false, .int .i64 (seE L s h)]) /\ Below w.heap.size w w' := by
 have HN := hide (rNameB s w hs)
 have HH := hide (sHandle_any a cap L h w hbs hf.len0)
 have hbl := hbs.2.2.1
 cases hn : nameB s with
 | false =>
  have e1 : seE L s h = 2 := by unfold seE; rw [hn]; rfl
  rw [hn] at HN
  rw [e1]
  clear hbs hf hn hbad e1 HH
  generalize L.length = N at *
  go_enter Tryz.func11, Tryz.ntmps11
  go_wp2_with fail
  refine (unhide HN).mono ?_
  rintro e w1 ⟨rfl, hw⟩
  subst hw
  go_wp2
  go_ret3
  exact ⟨rfl, Below.refl _ _⟩
 | true =>
  rcases hbad with hb | hc
  ·rw [hn] at hb; cases hb
  have e1 : seE L s h = chkE L h := by unfold seE; rw [hn, if_neg (by simp), if_pos hc]
  rw [hn] at HN
  rw [e1]
  have hcb : (chkE L h == 0) = false := beq_eq_false_iff_ne.2 hc
  clear hbs hf hn e1 hc
  generalize chkE L h = X at *
  generalize L.length = N at *
  go_enter Tryz.func11, Tryz.ntmps11
  go_wp2_with fail
  refine (unhide HN).mono ?_
  rintro e w1 ⟨rfl, hw⟩
  subst hw
  go_wp2_with fail
  refine (unhide HH).mono ?_
  rintro e w2 ⟨rfl, hb⟩
  have HB := hide hb
  clear hb HH
  go_wp2
  go_ret3
  exact ⟨rfl, unhide HB⟩
set_option maxRecDepth 100000 in
set_option maxHeartbeats 2000000 in
theorem sSet_old (a : Option Addr) (cap : Nat) (L : List Int) (s : ByteArray) (h : Int) (w : World) (hbs : Bs w a cap L) (hf : Fine L) (hs : s.size <= 140737488351232) (hn : nameB s = true) (hc : chkE L h = 0) (hp : plR L s < 8) :
  Calls Tryz.prog 11 #[.slice a L.length cap, .string s, .int .i64 h] w fun e w' => ∃ a' c', e = .returned (.tuple #[.slice a' (seB L s h).length c', .bool false, .int .i64 0]) /\ Bs w' a' c' (seB L s h) /\ Below w.heap.size w w' /\ Fr w.heap.size a' := by
 have HN := hide (rNameB s w hs)
 have HH := hide (sHandle_any a cap L h w hbs hf.len0)
 have hbl := hbs.2.2.1
 have hI : seI L s = plR L s := by unfold seI; rw [if_pos hp]
 have h0 : seE L s h = 0 := by unfold seE; rw [hn, if_neg (by simp), if_neg (fun h => h hc), hI, if_neg (by omega)]
 obtain ⟨p1, p2, _, _⟩ := se_put hf h0
 have hl := hf.len
 have HP := hide (fun (W : World) (hW : Below w.heap.size w W) => sPlace_any a cap L s W (hbs.below hW) hl.1 hl.2)
 have eP : plI L s = (plR L s : Int) := by unfold plI; rw [if_neg (by omega)]
 rw [eP] at HP
 have HPR := hide (fun (W : World) (hW : Below w.heap.size w W) => rPutRootF_any a cap L (seI L s) (s, h) W (hbs.below hW) hf.len0 hs)
 rw [p1] at HPR
 change Hid (∀ W : World, Below w.heap.size w W -> Calls Tryz.prog 35 #[.slice a L.length cap, .int .i64 (seI L s : Nat), rootV (s, h)] W (EndsF W (seB L s h) (.int .i64 0))) at HPR
 rw [hI] at HPR
 unfold rootV at HPR
 dsimp only at HPR
 have hSl : (seB L s h).length = L.length := prL_len p1
 rw [hn] at HN
 rw [hc] at HH
 have HSL := hide hSl
 clear hbs hf hn hc hI h0 p1 p2 eP hSl hl
 generalize seB L s h = SB at *
 generalize plR L s = p at *
 generalize L.length = N at *
 go_enter Tryz.func11, Tryz.ntmps11
 go_wp2_with fail
 refine (unhide HN).mono ?_
 rintro e w1 ⟨rfl, hw⟩
 subst hw
 go_wp2_with fail
 refine (unhide HH).mono ?_
 rintro e w2 ⟨rfl, hb2⟩
 have HP2 := hide (unhide HP w2 hb2)
 have HPR2 := hide (unhide HPR w2 hb2)
 have HB2 := hide hb2
 clear hb2 HH HP HPR
 go_wp2_with fail
 refine (unhide HP2).mono ?_
 rintro e w3 ⟨rfl, hw⟩
 subst hw
 go_wp2_with fail
 go_loop [11, 13] (fun iv kv => iv = .int .i64 p /\ kv = .int .i64 7) (fun _ _ => 0)
 case atStart => exact ⟨rfl, rfl⟩
 case round =>
  obtain ⟨rfl, rfl⟩ := hrel
  have hp0 : (0 : Int) <= (p : Int) := by omega
  go_wp2_with fail
  refine (unhide HPR2).mono ?_
  rintro e w4 ⟨a4, c4, he4, hbs4, hb4, hfr4⟩
  have HFR := hide (hfr4.mono (unhide HB2).size)
  clear hfr4
  rw [unhide HSL] at he4
  subst he4
  have HBS4 := hide hbs4
  have HB4 := hide ((unhide HB2).trans (hb4.mono (unhide HB2).size))
  clear hbs4 hb4 HPR2 HB2
  go_wp2
  go_ret3
  exact ⟨a4, c4, by rw [unhide HSL]; rfl, unhide HBS4, unhide HB4, unhide HFR⟩
set_option maxRecDepth 100000 in
set_option maxHeartbeats 2000000 in
theorem sSet_new (a : Option Addr) (cap : Nat) (L : List Int) (s : ByteArray) (h : Int) (w : World) (hbs : Bs w a cap L) (hf : Fine L) (hs : s.size <= 140737488351232) (hn : nameB s = true) (hc : chkE L h = 0) (hp : plR L s = 8) :
  Calls Tryz.prog 11 #[.slice a L.length cap, .string s, .int .i64 h] w fun e w' => ∃ a' c', e = .returned (.tuple #[.slice a' (if frR L = 8 then [] else seB L s h).length c', .bool (!decide (frR L = 8)), .int .i64 (if frR L = 8 then 4 else 0)]) /\ Bs w' a' c' (if frR L = 8 then [] else seB L s h) /\ Below w.heap.size w w' /\ Fr w.heap.size a' := by
 have HN := hide (rNameB s w hs)
 have HH := hide (sHandle_any a cap L h w hbs hf.len0)
 have hbl := hbs.2.2.1
 have hI : seI L s = frR L := by unfold seI; rw [if_neg (by omega)]
 have hl := hf.len
 have HP := hide (fun (W : World) (hW : Below w.heap.size w W) => sPlace_any a cap L s W (hbs.below hW) hl.1 hl.2)
 have eP : plI L s = -1 := by unfold plI; rw [if_pos hp]
 rw [eP] at HP
 have HPR : Hid (frR L < 8 -> ∀ W : World, Below w.heap.size w W -> Calls Tryz.prog 35 #[.slice a L.length cap, .int .i64 (frR L : Nat), .agg #[.string s, .int .i64 h]] W fun e w' => ∃ a4 c4, e = .returned (.tuple #[.slice a4 L.length c4, .int .i64 0]) /\ Bs w' a4 c4 (seB L s h) /\ Below W.heap.size W w' /\ Fr W.heap.size a4) := hide (fun hlt W hW => by
  have h0 : seE L s h = 0 := by unfold seE; rw [hn, if_neg (by simp), if_neg (fun h => h hc), hI, if_neg (by omega)]
  obtain ⟨p1, p2, _, _⟩ := se_put hf h0
  have := rPutRootF_any a cap L (seI L s) (s, h) W (hbs.below hW) hf.len0 hs
  rw [p1] at this
  have hSl : (seB L s h).length = L.length := prL_len p1
  rw [hI] at this
  refine this.mono fun e w' ⟨a4, c4, he, hb4, hb, hfr⟩ => ⟨a4, c4, ?_, ?_, hb, hfr⟩
  ·rw [he]
   have : prL L (frR L : Nat) (s, h) = seB L s h := by unfold seB; rw [hI]
   rw [this, hSl]
  ·have : prL L (frR L : Nat) (s, h) = seB L s h := by unfold seB; rw [hI]
   rw [<- this]
   exact hb4)
 have HSL : Hid (frR L < 8 -> (seB L s h).length = L.length) := hide (fun hlt => by
  have h0 : seE L s h = 0 := by unfold seE; rw [hn, if_neg (by simp), if_neg (fun h => h hc), hI, if_neg (by omega)]
  exact prL_len (se_put hf h0).1)
 have HRA := hide (fun (k : Nat) (hk : k < 8) (W : World) (hW : Below w.heap.size w W) => rRootAt_any a cap L k W (hbs.below hW) hl.1 hl.2 hk)
 have HR11 := hide (fun (k : Nat) (hk : k < 8) => rowAt_len (b := L) (i := k) (by omega))
 have HST := hide (frFrom_start L)
 have hfl := frR_le L
 rw [hn] at HN
 rw [hc] at HH
 have HFL := hide hfl
 clear hbs hf hn hc hI eP hl hp hfl
 generalize hSB : seB L s h = SB at *
 clear hSB
 generalize hN : L.length = N at *
 clear hN
 have HRES8 : Hid (frR L = 8 -> (if frR L = 8 then [] else SB) = [] /\ (!decide (frR L = 8)) = false /\ (if frR L = 8 then (4 : Int) else 0) = 4) := hide (fun h8 => by rw [h8]; exact ⟨rfl, rfl, rfl⟩)
 have HRESN : Hid (frR L < 8 -> (if frR L = 8 then [] else SB) = SB /\ (!decide (frR L = 8)) = true /\ (if frR L = 8 then (4 : Int) else 0) = 0) := hide (fun hlt => by rw [if_neg (by omega), if_neg (by omega), decide_eq_false (by omega)]; exact ⟨rfl, rfl, rfl⟩)
 generalize (if frR L = 8 then [] else SB) = RS at *
 generalize (!decide (frR L = 8)) = RB at *
 generalize (if frR L = 8 then (4 : Int) else 0) = RE at *
 go_enter Tryz.func11, Tryz.ntmps11
 go_wp2_with fail
 refine (unhide HN).mono ?_
 rintro e w1 ⟨rfl, hw⟩
 subst hw
 go_wp2_with fail
 refine (unhide HH).mono ?_
 rintro e w2 ⟨rfl, hb2⟩
 have HP2 := hide (unhide HP w2 hb2)
 have HB2 := hide hb2
 clear hb2 HH HP
 go_wp2_with fail
 refine (unhide HP2).mono ?_
 rintro e w3 ⟨rfl, hw⟩
 subst hw
 go_wp2_with fail
 go_loop [11, 13] (fun iv kv => ∃ (k : Nat) (m : Int), k <= 8 /\ kv = .int .i64 ((k : Int) - 1) /\ iv = .int .i64 m /\ frFrom L k m) (fun _ kv => (intOf kv + 1).toNat)
 case atStart => exact ⟨8, -1, Nat.le_refl _, rfl, rfl, unhide HST⟩
 case round =>
  obtain ⟨k, m, hk, rfl, rfl, hfr⟩ := hrel
  rcases Nat.eq_zero_or_pos k with rfl | hpos
  ·have hm := frFrom_zero hfr
   by_cases h8 : frR L = 8
   ·rw [if_pos h8] at hm
    subst hm
    obtain ⟨q1, q2, q3⟩ := unhide HRES8 h8
    have HQ1 := hide q1
    have HQ2 := hide q2
    have HQ3 := hide q3
    clear hfr h8 HPR HSL HRA HR11 HST HFL q1 q2 q3 HRES8 HRESN
    go_wp2
    go_ret3
    exact ⟨none, 0, by rw [unhide HQ1, unhide HQ2, unhide HQ3]; rfl, by rw [unhide HQ1]; exact bs_nil _, unhide HB2, Fr.nil _⟩
   ·rw [if_neg h8] at hm
    subst hm
    have hlt : frR L < 8 := by have := unhide HFL; omega
    obtain ⟨q1, q2, q3⟩ := unhide HRESN hlt
    have HQ1 := hide q1
    have HQ2 := hide q2
    have HQ3 := hide q3
    have HPR2 := hide (unhide HPR hlt _ (unhide HB2))
    have HSL2 := hide (unhide HSL hlt)
    clear hfr h8 HPR HSL HRA HR11 HST HFL q1 q2 q3 HRES8 HRESN hlt
    generalize frR L = p at *
    have hp0 : (0 : Int) <= (p : Int) := by omega
    go_wp2_with fail
    refine (unhide HPR2).mono ?_
    rintro e w4 ⟨a4, c4, rfl, hbs4, hb4, hfr4⟩
    have HFR := hide (hfr4.mono (unhide HB2).size)
    clear hfr4
    have HBS4 := hide hbs4
    have HB4 := hide ((unhide HB2).trans (hb4.mono (unhide HB2).size))
    clear hbs4 hb4 HPR2 HB2
    go_wp2
    go_ret3
    refine ⟨a4, c4, ?_, ?_, unhide HB4, unhide HFR⟩
    ·rw [unhide HQ1, unhide HQ2, unhide HQ3, unhide HSL2]; rfl
    ·rw [unhide HQ1]; exact unhide HBS4
  ·obtain ⟨j, rfl⟩ : ∃ j, k = j + 1 := ⟨k - 1, by omega⟩
   have hj8 : j < 8 := by omega
   have HSTEP := hide (frFrom_step hj8 hfr)
   have hr11 := unhide HR11 j hj8
   have HRk := hide (unhide HRA j hj8 _ (unhide HB2))
   have e0 : ((j + 1 : Nat) : Int) - 1 = (j : Int) := by omega
   rw [e0]
   have hj0 : (0 : Int) <= (j : Int) := by omega
   clear hfr e0
   generalize rowAt L j = r at *
   go_wp2_with fail
   refine (unhide HRk).mono ?_
   rintro e w4 ⟨a4, c4, rfl, hb4, hw4⟩
   subst hw4
   have HZ := hide (rZero_any a4 c4 r _ hb4)
   rw [hr11] at HZ
   clear hb4 HRk
   cases hr : isRoot r with
   | false =>
    rw [hr] at HZ HSTEP
    rw [if_neg (by simp)] at HSTEP
    clear hr
    go_wp2_with fail
    refine (unhide HZ).mono ?_
    rintro e w5 ⟨rfl, hw5⟩
    subst hw5
    go_wp2
    go_round
    case rel => exact ⟨j, j, by omega, rfl, rfl, unhide HSTEP⟩
    case measure => simp [intOf]
   | true =>
    rw [hr] at HZ HSTEP
    rw [if_pos rfl] at HSTEP
    clear hr
    go_wp2_with fail
    refine (unhide HZ).mono ?_
    rintro e w5 ⟨rfl, hw5⟩
    subst hw5
    go_wp2
    go_round
    case rel => exact ⟨j, m, by omega, rfl, rfl, unhide HSTEP⟩
    case measure => simp [intOf]
theorem sSet_any (a : Option Addr) (cap : Nat) (L : List Int) (s : ByteArray) (h : Int) (w : World) (hbs : Bs w a cap L) (hf : Fine L) (hs : s.size <= 140737488351232) :
  Calls Tryz.prog 11 #[.slice a L.length cap, .string s, .int .i64 h] w fun e w' => ∃ a' c', e = .returned (.tuple #[.slice a' (if seE L s h = 0 then seB L s h else []).length c', .bool (decide (seE L s h = 0) && seN L s), .int .i64 (seE L s h)]) /\ Bs w' a' c' (if seE L s h = 0 then seB L s h else []) /\ Below w.heap.size w w' /\ Fr w.heap.size a' := by
 by_cases hbad : nameB s = false \/ chkE L h ≠ 0
 ·have hne : seE L s h ≠ 0 := by
   intro h0
   obtain ⟨_, _, h3, h4⟩ := se_put hf h0
   rcases hbad with hb | hb
   ·rw [hb] at h3; cases h3
   ·exact hb h4
  rw [if_neg hne, decide_eq_false hne, Bool.false_and]
  exact (sSet_no a cap L s h w hbs hf hs hbad).mono fun e w' ⟨he, hb⟩ => ⟨none, 0, he, bs_nil _, hb, Fr.nil _⟩
 ·have hn : nameB s = true := by cases h1 : nameB s with | true => rfl | false => exact absurd (.inl h1) hbad
  have hc : chkE L h = 0 := Classical.byContradiction fun h1 => hbad (.inr h1)
  have hE : seE L s h = if seI L s = 8 then 4 else 0 := by unfold seE; rw [hn, if_neg (by simp), if_neg (fun h => h hc)]
  by_cases hp : plR L s = 8
  ·have hI : seI L s = frR L := by unfold seI; rw [if_neg (by omega)]
   have hN : seN L s = true := decide_eq_true hp
   rw [hI] at hE
   have := sSet_new a cap L s h w hbs hf hs hn hc hp
   rw [<- hE] at this
   refine this.mono fun e w' ⟨a', c', he, hb, hbel, hfr⟩ => ⟨a', c', ?_, ?_, hbel, hfr⟩
   ·rw [he, hN]
    by_cases h8 : frR L = 8
    ·rw [hE]; simp [h8]
    ·rw [hE]; simp [h8]
   ·by_cases h8 : frR L = 8
    ·rw [if_pos h8] at hb; rw [hE]; simp only [h8, if_true]; exact hb
    ·rw [if_neg h8] at hb; rw [hE, if_neg h8]; exact hb
  ·have hlt : plR L s < 8 := by have := plR_le L s; omega
   have hI : seI L s = plR L s := by unfold seI; rw [if_pos hlt]
   have hN : seN L s = false := decide_eq_false hp
   rw [hI, if_neg hp] at hE
   rw [hE, hN, if_pos rfl, Bool.and_false]
   exact sSet_old a cap L s h w hbs hf hs hn hc hlt
end Go.Proofs.YtecodmiendedfaaGreatDoor
