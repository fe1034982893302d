/-
  Parts of the proofs, joined by program.
-/
import Derived.Test.YtifmemombecoaaaGreatDoorJIr
import Derived.Test.YtifmemombecoaaaGreatDoorJHal
import Derived.Test.YtifmemombecoaaaGreatDoorJRtp
import Derived.Test.YtifmemombecoaaaGreatDoorJOr
import Derived.Test.YtifmemombecoaaaGreatDoorJMge
import Derived.Test.YtifmemombecoaaaGreatDoorJOb
import Derived.Test.YtifmemombecoaaaGreatDoorJInc
import Derived.Test.YtifmemombecoaaaGreatDoorJSe
import Derived.Test.YtifmemombecoaaaGreatDoorJChp
import Derived.Test.YtifmemombecoaaaGreatDoorJCh
import Derived.Test.YtifmemombecoaaaGreatDoorJIm
import Derived.Maps.AppendAt
import Derived.Test.YtifmemombecoaaaGreatDoorJRc
import Derived.Test.YtifmemombecoaaaGreatDoorJMga
namespace Go.Proofs.YtifmemombecoaaaGreatDoor
open Go.RowKit
set_option linter.unusedVariables false
theorem sHandle_any (a : Option Addr) (cap : Nat) (L : List Int) (h : Int) (w : World) (hbs : Bs w a cap L) (hq : lenB L.length = true) :
  Calls Tryz.prog 24 #[.slice a L.length cap, .int .i64 h] w fun e w' => e = .returned (.int .i64 (chkE L h)) /\ Below w.heap.size w w' := by
 have HH := hide (rHandle_any h w)
 have hl := lenB_iff.1 hq
 unfold chkE
 rw [if_neg (by rw [hq]; simp)]
 cases hn : hndB h with
 | false =>
  rw [hn] at HH
  rw [if_pos rfl]
  have hbl := hbs.2.2.1
  clear hbs hq hl hn
  generalize L.length = N at *
  go_enter Tryz.func24, Tryz.ntmps24
  go_wp2_with fail
  refine (unhide HH).mono ?_
  rintro e w1 ⟨rfl, hw⟩
  subst hw
  go_wp2
  go_ret
  exact ⟨rfl, Below.refl _ _⟩
 | true =>
  rw [hn] at HH
  rw [if_neg (by simp)]
  have hh := hndB_iff.1 hn
  have HE := hide (rEntry_any a cap L h w hbs (by omega) hh.1 hh.2)
  unfold entV at HE
  have hbl := hbs.2.2.1
  clear hbs hq hl hn hh
  generalize entOf L h = E at *
  obtain ⟨e1, e2, e3, e4⟩ := E
  dsimp only at HE
  generalize tagAt L h = t at *
  generalize L.length = N at *
  by_cases ht : t = 0
  ·subst ht
   rw [if_pos rfl]
   go_enter Tryz.func24, Tryz.ntmps24
   go_wp2_with fail
   refine (unhide HH).mono ?_
   rintro e w1 ⟨rfl, hw⟩
   subst hw
   go_wp2_with fail
   refine (unhide HE).mono ?_
   rintro e w2 ⟨rfl, hb2⟩
   have HB := hide hb2
   clear hb2 HE
   go_wp2
   go_ret
   exact ⟨rfl, (unhide HB).alloc (unhide HB).size _⟩
  ·rw [if_neg ht]
   rw [bne_iff_ne.2 ht] at HE
   clear ht
   go_enter Tryz.func24, Tryz.ntmps24
   go_wp2_with fail
   refine (unhide HH).mono ?_
   rintro e w1 ⟨rfl, hw⟩
   subst hw
   go_wp2_with fail
   refine (unhide HE).mono ?_
   rintro e w2 ⟨rfl, hb2⟩
   have HB := hide hb2
   clear hb2 HE
   go_wp2
   go_ret
   exact ⟨rfl, (unhide HB).alloc (unhide HB).size _⟩
def ptAt (L : List Int) (h x n : Int) : Int := if pcE L h x n = 0 then (entOf L h).2.1 + x else 0
theorem plc_mul {h : Int} (h1 : 1 <= h) : ((plc h : Nat) : Int) = 5 * (h - 1) := by unfold plc; omega
section
variable {M A B X : List Int} {N : Nat}
def sdT (M A B : List Int) : List Int := if (mgS M A B).1 = 0 then hndL.filter (thT M A B) else []
theorem sd_obj (hX : X.length = N) (hf : Fine X) (x : Option Addr) (cx : Nat) (k : Int) (h1 : 1 <= k) (h2 : k <= 40) (W : World) (bX : Bs W x cx X) {O : Int × List Int} (hO : objOf X k = O) :
  Calls Tryz.prog 13 #[.slice x N cx, .int .i64 k] W fun e w' => e = .returned (.tuple #[.int .i64 O.1, .string (strOf O.2)]) /\ Below W.heap.size W w' := by
 have h := rObject_any x cx X k W bX hf.len.1 h1 h2 (fun ht => right_in hf.ok h1 h2 ht)
 rw [hX, hO] at h
 exact h
end
theorem any_snoc {l : List Int} {k : Nat} {e x : Int} (h : l[k]? = some e) : (l.take (k + 1)).any (fun y => y == x) = ((l.take k).any (fun y => y == x) || (e == x)) := by
 rw [List.take_add_one, h, List.any_append]
 simp
set_option maxHeartbeats 1000000 in
theorem sHas_any (a1 : Option Addr) (c1 : Nat) (A : List Int) (x : Int) (w : World) (hA : Sls inC 1 w a1 c1 A) :
  Calls Tryz.prog 20 #[.slice a1 A.length c1, .int .i64 x] w fun e w' => e = .returned (.bool (A.any (fun y => y == x))) /\ w = w' := by
 have hla := hA.2.2.1
 have HA := hide hA
 obtain ⟨R, hR⟩ : ∃ R, A.any (fun y => y == x) = R := ⟨_, rfl⟩
 rw [hR]
 have HR := hide hR
 clear hA hR
 go_enter Tryz.func20, Tryz.ntmps20
 go_wp2_with fail
 go_loop [5] (fun iv => ∃ k : Nat, k <= A.length /\ iv = .int .i64 k /\ (A.take k).any (fun y => y == x) = false) (fun iv => A.length - (intOf iv).toNat)
 case atStart => exact ⟨0, Nat.zero_le _, rfl, rfl⟩
 case round =>
  obtain ⟨k, hk, rfl, hall⟩ := hrel
  by_cases hlt : k < A.length
  ·have hne : A ≠ [] := by intro e; rw [e] at hlt; simp at hlt
   obtain ⟨b1, o1, rfl, hc1⟩ := (unhide HA).2.2.2 hne
   obtain ⟨y, hy⟩ : ∃ y, A[k]? = some y := ⟨A[k], List.getElem?_eq_getElem hlt⟩
   have q1 := Sls.num (cap := 0) hc1 hy
   have HSN := hide (any_snoc (x := x) hy)
   have HMEM := hide (List.mem_of_getElem? hy)
   have HALL := hide hall
   clear hc1 hy hne hall
   cases hyx : (y == x)
   ·have HN := hide (show (A.take (k + 1)).any (fun y => y == x) = false by rw [unhide HSN, unhide HALL, hyx]; rfl)
    go_wp2
    go_round
    case rel => exact ⟨k + 1, by omega, by go_num, unhide HN⟩
    case measure => simp [intOf]; omega
   ·have HN := hide (show R = true by rw [<- unhide HR]; exact List.any_eq_true.2 ⟨y, unhide HMEM, hyx⟩)
    go_wp2
    go_ret
    exact ⟨by rw [unhide HN]; rfl, rfl⟩
  ·obtain rfl : k = A.length := by omega
   rw [List.take_length] at hall
   have HN := hide (show R = false by rw [<- unhide HR]; exact hall)
   clear hall
   go_wp2
   go_ret
   exact ⟨by rw [unhide HN]; rfl, rfl⟩
def mvK (A B : List Int) : Nat -> List Int
 | 0 => []
 | k + 1 => mvK A B k ++ if objOf A ((k : Int) + 1) = objOf B ((k : Int) + 1) then [] else [(k : Int) + 1]
theorem mvK_len (A B : List Int) : ∀ k, (mvK A B k).length <= k := by
 intro k
 induction k with
 | zero => simp [mvK]
 | succ k ih =>
  unfold mvK
  rw [List.length_append]
  split <;> simp <;> omega
set_option maxRecDepth 100000 in
set_option maxHeartbeats 2000000 in
theorem sMoved_any (a1 a2 : Option Addr) (c1 c2 : Nat) (A B : List Int) (w : World) (hA : Bs w a1 c1 A) (hB : Bs w a2 c2 B) (hfA : Fine A) (hfB : Fine B) :
  Calls Tryz.prog 6 #[.slice a1 A.length c1, .slice a2 B.length c2] w fun e w' => ∃ v, e = .returned v /\ Lst inC 1 3 w' w.heap.size v (mvK A B 40) /\ Below w.heap.size w w' := by
 obtain ⟨i0, hi0, hz0, hz1, hz2⟩ := info_parts info_inS
 have hla := hA.2.2.1
 have hlb := hB.2.2.1
 have HO1 := hide (fun (k : Nat) (hk : k < 40) (W : World) (hW : Below w.heap.size w W) => rObject_any a1 c1 A ((k : Int) + 1) W (hA.below hW) hfA.len.1 (by omega) (by omega) (fun ht => by have := hfA.ent (show 1 <= (k : Int) + 1 by omega) (by omega) ht; unfold InL; omega))
 have HO2 := hide (fun (k : Nat) (hk : k < 40) (W : World) (hW : Below w.heap.size w W) => rObject_any a2 c2 B ((k : Int) + 1) W (hB.below hW) hfB.len.1 (by omega) (by omega) (fun ht => by have := hfB.ent (show 1 <= (k : Int) + 1 by omega) (by omega) ht; unfold InL; omega))
 have HBA := hide (fun (h : Int) => byt_obj (L := A) (h := h) hA.1)
 have HBB := hide (fun (h : Int) => byt_obj (L := B) (h := h) hB.1)
 clear hA hB hfA hfB
 obtain ⟨NA, hNA⟩ : ∃ n, A.length = n := ⟨_, rfl⟩
 obtain ⟨NB, hNB⟩ : ∃ n, B.length = n := ⟨_, rfl⟩
 rw [hNA] at HO1 hla ⊢
 rw [hNB] at HO2 hlb ⊢
 clear hNA hNB
 go_enter Tryz.func6, Tryz.ntmps6
 go_wp2_with fail
 go_loopw [5, 6] (fun v hv wr => ∃ k : Nat, k <= 40 /\ hv = .int .i64 ((k : Int) + 1) /\ Lst inC 1 3 wr w.heap.size v (mvK A B k) /\ Below w.heap.size w wr) (fun _ hv _ => 41 - (intOf hv).toNat)
 case atStart => exact ⟨0, Nat.zero_le _, rfl, Lst.nil _ _, Below.refl _ _⟩
 case round =>
  obtain ⟨k, hk, rfl, hown, hbel⟩ := hrel
  obtain ⟨va, vm, vc, rfl⟩ := hown.shape
  by_cases hlt : k < 40
  ·have HOk := hide (unhide HO1 k hlt wr hbel)
   have HO2k := hide (unhide HO2 k hlt)
   have hbo1 := unhide HBA ((k : Int) + 1)
   have hbo2 := unhide HBB ((k : Int) + 1)
   have HMV : Hid (mvK A B (k + 1) = mvK A B k ++ if objOf A ((k : Int) + 1) = objOf B ((k : Int) + 1) then [] else [(k : Int) + 1]) := hide rfl
   have HML : Hid (True -> (mvK A B k).length <= 1000) := hide (fun _ => Nat.le_trans (mvK_len A B k) (by omega))
   have HOWN := hide hown
   have HBEL := hide hbel
   clear hown hbel
   obtain ⟨o1, ho1⟩ : ∃ o, objOf A ((k : Int) + 1) = o := ⟨_, rfl⟩
   obtain ⟨o2, ho2⟩ : ∃ o, objOf B ((k : Int) + 1) = o := ⟨_, rfl⟩
   rw [ho1] at HOk HMV hbo1
   rw [ho2] at HO2k HMV hbo2
   clear ho1 ho2
   obtain ⟨t1, l1⟩ := o1
   obtain ⟨t2, l2⟩ := o2
   dsimp only at HOk HO2k hbo1 hbo2
   by_cases hs : t1 = t2 /\ l1 = l2
   ·obtain ⟨rfl, rfl⟩ := hs
    rw [if_pos rfl, List.append_nil] at HMV
    clear hbo1 hbo2
    obtain ⟨S1, hS1⟩ : ∃ S, strOf l1 = S := ⟨_, rfl⟩
    rw [hS1] at HOk HO2k
    clear hS1
    go_wp2_with fail
    refine (unhide HOk).mono ?_
    rintro e w2 ⟨rfl, hb2⟩
    have hB2 := (unhide HBEL).trans (hb2.mono (unhide HBEL).size)
    have HO22 := hide (unhide HO2k w2 hB2)
    have HOW2 := hide ((unhide HOWN).below hb2)
    have HB2 := hide hB2
    clear hb2 hB2 HOk HO2k HOWN HBEL
    go_wp2_with fail
    refine (unhide HO22).mono ?_
    rintro e w3 ⟨rfl, hb3⟩
    have HOW3 := hide ((unhide HOW2).below hb3)
    have HB3 := hide ((unhide HB2).trans (hb3.mono (unhide HB2).size))
    clear hb3 HO22 HOW2 HB2
    go_wp2
    go_roundw
    case rel => exact ⟨k + 1, by omega, by go_num, by rw [unhide HMV]; exact unhide HOW3, unhide HB3⟩
    case measure => simp [intOf]; omega
   ·have hne : ¬ ((t1, l1) : Int × List Int) = (t2, l2) := fun e => hs (by simpa using e)
    rw [if_neg hne] at HMV
    have hcase : (t1 == t2) = false /\ (t1 != t2) = true /\ ¬ t1 = t2 \/ (t2 = t1 /\ ((strOf l1).toList == (strOf l2).toList) = false) := by
     by_cases ht : t1 = t2
     ·right
      refine ⟨ht.symm, toL_no (fun e => hs ⟨ht, (strOf_iff hbo1 hbo2).1 e⟩)⟩
     ·left
      exact ⟨beq_eq_false_iff_ne.2 ht, bne_iff_ne.2 ht, ht⟩
    clear hne hs hbo1 hbo2
    obtain ⟨S1, hS1⟩ : ∃ S, strOf l1 = S := ⟨_, rfl⟩
    obtain ⟨S2, hS2⟩ : ∃ S, strOf l2 = S := ⟨_, rfl⟩
    rw [hS1] at HOk hcase
    rw [hS2] at HO2k hcase
    clear hS1 hS2
    rcases hcase with ⟨hc, hcn, hcd⟩ | ⟨rfl, hc2⟩
    all_goals
     go_wp2_with fail
     refine (unhide HOk).mono ?_
     rintro e w2 ⟨rfl, hb2⟩
     have hB2 := (unhide HBEL).trans (hb2.mono (unhide HBEL).size)
     have HO22 := hide (unhide HO2k w2 hB2)
     have HOW2 := hide ((unhide HOWN).below hb2)
     have HB2 := hide hB2
     clear hb2 hB2 HOk HO2k HOWN HBEL
     go_wp2_with fail
     refine (unhide HO22).mono ?_
     rintro e w3 ⟨rfl, hb3⟩
     have hB3 := (unhide HB2).trans (hb3.mono (unhide HB2).size)
     have HOW3 := hide (((unhide HOW2).below hb3).below ((Below.refl _ w3).alloc (Nat.le_refl _) (.cells #[.int .i64 ((k : Int) + 1)] 3)))
     have HB3 := hide (hB3.alloc hB3.size (.cells #[.int .i64 ((k : Int) + 1)] 3))
     have HGN : Hid ((w3.alloc (.cells #[.int .i64 ((k : Int) + 1)] 3)).heap[w3.heap.size]? = some (.cells (inC ((k : Int) + 1)).toArray 3 (0, 0))) := hide (heap_alloc_new w3 _)
     have hsz3 := hB3.size
     clear hb3 hB3 HO22 HOW2 HB2
     go_wp2_with (at_builtin; refine wpList_append_lst rfl _ _ 25 rfl w.heap.size i0 (.int .i64 0) 8 Tryz.underlying25 hi0 hz0 hz1 hz2 rfl (by decide) (by decide) _ _ rfl (unhide HOW3) w3.heap.size ((k : Int) + 1) rfl (unhide HGN) rfl (inC_one _) (unhide HML trivial) (by simp; omega) ?_)
     intro v9 w9 hown9 hb9
     rw [<- unhide HMV] at hown9
     have HO9 := hide hown9
     have HB9 := hide ((unhide HB3).trans hb9)
     obtain ⟨a9, m9, c9, rfl⟩ := hown9.shape
     clear hown9 hb9 HOW3 HB3 HGN
     go_wp2
     go_roundw
     case rel => exact ⟨k + 1, by omega, by go_num, unhide HO9, unhide HB9⟩
     case measure => simp [intOf]; omega
  ·obtain rfl : k = 40 := by omega
   have HOWN := hide hown
   have HBEL := hide hbel
   clear hown hbel
   go_wp2
   go_ret
   exact ⟨_, rfl, unhide HOWN, unhide HBEL⟩
def hnK (k : Nat) : List Int := (List.range k).map fun i : Nat => (i : Int) + 1
theorem hnK_succ (k : Nat) : hnK (k + 1) = hnK k ++ [(k : Int) + 1] := by
 unfold hnK
 rw [List.range_succ, List.map_append]
 rfl
theorem hnK_len (k : Nat) : (hnK k).length = k := by unfold hnK; rw [List.length_map, List.length_range]
theorem mvK_eq (A B : List Int) : ∀ k : Nat, mvK A B k = (hnK k).filter fun h => !decide (objOf A h = objOf B h)
 | 0 => rfl
 | k + 1 => by
  rw [hnK_succ, List.filter_append, <- mvK_eq A B k]
  show mvK A B k ++ _ = _
  congr 1
  by_cases h : objOf A ((k : Int) + 1) = objOf B ((k : Int) + 1)
  ·rw [if_pos h]; simp [h]
  ·rw [if_neg h]; simp [h]
theorem mvK_hs (A B : List Int) : mvK A B 40 = mvHs A B := by
 rw [mvK_eq]
 unfold mvHs
 show (hndL.filter _) = _
 refine List.filter_congr (fun k hk => ?_)
 have := mem_hndL.1 hk
 unfold oL
 rw [if_pos this, if_pos this]
theorem mvK_any {A B : List Int} {k : Int} (h1 : 1 <= k) (h2 : k <= 40) : (mvK A B 40).any (fun y => y == k) = !decide (objOf A k = objOf B k) := by
 rw [mvK_eq]
 show (hndL.filter _).any _ = _
 have hm := mem_hndL.2 ⟨h1, h2⟩
 cases hq : !decide (objOf A k = objOf B k) with
 | true => exact List.any_eq_true.2 ⟨k, List.mem_filter.2 ⟨hm, hq⟩, by simp⟩
 | false =>
  refine Bool.eq_false_iff.2 (fun hc => ?_)
  obtain ⟨x, hx, he⟩ := List.any_eq_true.1 hc
  obtain rfl : x = k := by simpa using he
  rw [(List.mem_filter.1 hx).2] at hq
  cases hq
def tdK (M A B : List Int) (k : Nat) : List Int := (hnK k).filter (thT M A B)
theorem tdK_succ (M A B : List Int) (k : Nat) : tdK M A B (k + 1) = tdK M A B k ++ if thT M A B ((k : Int) + 1) = true then [(k : Int) + 1] else [] := by
 unfold tdK
 rw [hnK_succ, List.filter_append]
 congr 1
 by_cases h : thT M A B ((k : Int) + 1) = true
 ·rw [if_pos h]; simp [h]
 ·rw [if_neg h]; simp [h]
theorem tdK_len (M A B : List Int) (k : Nat) : (tdK M A B k).length <= k := Nat.le_trans (List.length_filter_le _ _) (by rw [hnK_len]; omega)
theorem tdK_all (M A B : List Int) : tdK M A B 40 = hndL.filter (thT M A B) := rfl
theorem thT_is (M A B : List Int) (k : Int) : thT M A B k = ((!decide (objOf M k = objOf A k)) && ((!decide (objOf M k = objOf B k)) && (!decide (objOf A k = objOf B k)))) := by
 unfold thT
 by_cases h1 : objOf M k = objOf A k <;> by_cases h2 : objOf M k = objOf B k <;> by_cases h3 : objOf A k = objOf B k <;> simp [h1, h2, h3]
theorem pkS_stick {N : Nat} {O : Int -> Int × List Int} {k : Nat} (h : (pkS N O k).1 ≠ 0) : ∀ d : Nat, pkS N O (k + d) = pkS N O k
 | 0 => rfl
 | d + 1 => by
  show pkS N O ((k + d) + 1) = _
  have ih := pkS_stick h d
  show (if (pkS N O (k + d)).1 ≠ 0 then pkS N O (k + d) else _) = _
  rw [if_pos (by rw [ih]; exact h), ih]
theorem pkS_skip {N : Nat} {O : Int -> Int × List Int} {k : Nat} (h0 : (pkS N O k).1 = 0) (h : (O ((k : Int) + 1)).1 < 0) : pkS N O (k + 1) = pkS N O k := by
 show (if (pkS N O k).1 ≠ 0 then pkS N O k else _) = _
 rw [if_neg (fun hc => hc h0), if_pos h]
theorem pkS_full {N : Nat} {O : Int -> Int × List Int} {k : Nat} (h0 : (pkS N O k).1 = 0) (h : ¬ (O ((k : Int) + 1)).1 < 0) (hN : N < (pkS N O k).2.1 + (O ((k : Int) + 1)).2.length) (hk : k < 40) : pkS N O 40 = (4, 0, []) := by
 have e : pkS N O (k + 1) = (4, 0, []) := by
  show (if (pkS N O k).1 ≠ 0 then pkS N O k else _) = _
  rw [if_neg (fun hc => hc h0), if_neg h, if_pos hN]
 have := pkS_stick (k := k + 1) (by rw [e]; decide) (40 - (k + 1))
 rw [show k + 1 + (40 - (k + 1)) = 40 by omega, e] at this
 exact this
theorem pkS_next {N : Nat} {O : Int -> Int × List Int} {k : Nat} (h0 : (pkS N O k).1 = 0) (h : ¬ (O ((k : Int) + 1)).1 < 0) (hN : ¬ N < (pkS N O k).2.1 + (O ((k : Int) + 1)).2.length) :
  pkS N O (k + 1) = (0, (pkS N O k).2.1 + (O ((k : Int) + 1)).2.length, pk1 (pkS N O k).2.2 (pkS N O k).2.1 ((k : Int) + 1) (O ((k : Int) + 1)).1 (O ((k : Int) + 1)).2) := by
 show (if (pkS N O k).1 ≠ 0 then pkS N O k else _) = _
 rw [if_neg (fun hc => hc h0), if_neg h, if_neg hN]
theorem mgS_full {m a b : List Int} (h : pkS m.length (thO m a b) 40 = (4, 0, [])) : mgS m a b = (4, []) := by
 unfold mgS mgT
 rw [h, if_pos (by decide)]
def rtK (m a b out : List Int) (i : Nat) : List (ByteArray × Int) := ((mgN m a b).take i).filterMap fun s => if chkE out (mgH m a b s) = 0 then some (s, mgH m a b s) else none
theorem rtK_all (m a b out : List Int) : rtK m a b out (mgN m a b).length = mgR m a b out := by
 unfold rtK mgR
 rw [List.take_length]
theorem rtK_succ {m a b out : List Int} {i : Nat} {s : ByteArray} (h : (mgN m a b)[i]? = some s) : rtK m a b out (i + 1) = rtK m a b out i ++ (if chkE out (mgH m a b s) = 0 then [(s, mgH m a b s)] else []) := by
 unfold rtK
 rw [List.take_add_one, h, List.filterMap_append]
 congr 1
 by_cases hc : chkE out (mgH m a b s) = 0
 ·rw [if_pos hc]; simp [hc]
 ·rw [if_neg hc]; simp [hc]
theorem rtK_le (m a b out : List Int) (i : Nat) : (rtK m a b out i).length <= (mgR m a b out).length := by
 unfold rtK mgR
 have : (mgN m a b).take i ++ (mgN m a b).drop i = mgN m a b := List.take_append_drop _ _
 conv => rhs; rw [<- this, List.filterMap_append, List.length_append]
 omega
theorem wpList_append_lstM {α : Type} {enc : α -> List Value} {k T : Nat} {P : Program} {w : World} {ops : Array Oper} {rest : List Oper} {o : Oper} {a : Act} {Q : Exit -> Act -> World -> Prop} (hgd : o.guard = none) (s x : Operand) (t : TypeId)
  (ho : o.op = .call { callee := .builtin .append, args := #[s, x], argTypes := #[t, t] }) (B : Nat) (i0 : TypeInfo) (z : Value) (bytes : Nat)
  (ht : P.underlying t = some (.slice T)) (hi : P.info? T = some i0) (hz : i0.zero = some z) (hsize : i0.size = k) (hby : i0.bytes = bytes) (hzs : z.cells.size = k) (hsz : 0 < k) (hbb : bytes <= 100)
  (v : Value) (l : List α) (hs : a.eval s = v) (hown : Lst enc k T w B v l) (g : Nat) (y : α) (hx : a.eval x = .slice (some ⟨g, 0, none⟩) 1 1)
  (hy : w.heap[g]? = some (.cells (enc y).toArray T (0, 0))) (hk : (enc y).length = k) (h1 : ∀ u ∈ enc y, u.oneCell' = true) (hn : l.length <= 1000) (hB : B <= w.heap.size)
  (h : ∀ v' w', Lst enc k T w' B v' (l ++ [y]) -> Below B w w' -> (∀ j, j < w.heap.size -> v.ownBlock ≠ some j -> w'.heap[j]? = w.heap[j]?) -> (v'.ownBlock = v.ownBlock \/ v'.ownBlock = some w.heap.size) -> wpList P ops Q rest (a.put o.dst v') w') :
  wpList P ops Q (o :: rest) a w := by
 refine wpList_append_own_at w hgd s x t ho B T i0 z k bytes ht hi hz hsize hby hzs hsz v l.length (l.flatMap enc) hs hown ⟨g, 0, none⟩ 1 1 (enc y) hx (by rw [hk, Nat.one_mul]) (fun j u hj => ?_) h1 (by unfold maxLen; omega) (Nat.le_trans (Nat.mul_le_mul (show l.length + 1 <= 1001 by omega) hbb) (by decide)) hB ?_
 ·rw [addr_add, Nat.zero_add, cell_of_row _ _ _ _ _ _ hy]
  simpa using hj
 ·intro v' w' ho' hg' _ hob
  refine h v' w' ?_ ((Below.refl _ _).grown hg' hB (fun k hk => hown.block k hk)) (fun j hj hne => hg'.block j hj (fun e => hne e.symm)) hob
  unfold Lst
  rw [List.length_append, List.flatMap_append]
  simpa using ho'
theorem splice_moreM {P B : List Int} {x j : Nat} (hj : j < B.length) (hfit : x + B.length <= P.length) : (splice P x (B.take j)).set (x + j) (B.getD j 0) = splice P x (B.take (j + 1)) := by
 have l1 : (B.take j).length = j := by rw [List.length_take]; omega
 have l2 : (B.take (j + 1)).length = j + 1 := by rw [List.length_take]; omega
 have f1 : x + (B.take j).length <= P.length := by omega
 have f2 : x + (B.take (j + 1)).length <= P.length := by omega
 have hs1 : (splice P x (B.take j)).length = P.length := length_splice f1
 have hs2 : (splice P x (B.take (j + 1))).length = P.length := length_splice f2
 have tk : ∀ m i, i < m -> (B.take m).getD i 0 = B.getD i 0 := fun m i hi => by simp [List.getD, hi]
 apply ext_getD
 ·rw [List.length_set, hs1, hs2]
 ·intro i hi
  rw [List.length_set, hs1] at hi
  have hset : ((splice P x (B.take j)).set (x + j) (B.getD j 0)).getD i 0 = if i = x + j then B.getD j 0 else (splice P x (B.take j)).getD i 0 := by
   by_cases e : i = x + j
   ·subst e
    rw [if_pos rfl]
    simp [List.getD, hs1, hi]
   ·rw [if_neg e]
    simp [List.getD, List.getElem?_set_ne (Ne.symm e)]
  rw [hset]
  by_cases e : i = x + j
  ·subst e
   rw [if_pos rfl, splice_in f2 (show j < (B.take (j + 1)).length by omega), tk _ _ (by omega)]
  ·rw [if_neg e]
   by_cases h1 : i < x
   ·rw [splice_out f1 (.inl h1), splice_out f2 (.inl h1)]
   ·by_cases h2 : i < x + j
    ·obtain ⟨k, rfl⟩ : ∃ k, i = x + k := ⟨i - x, by omega⟩
     rw [splice_in f1 (show k < (B.take j).length by omega), splice_in f2 (show k < (B.take (j + 1)).length by omega), tk _ _ (by omega), tk _ _ (by omega)]
    ·rw [splice_out f1 (.inr (by omega)), splice_out f2 (.inr (by omega))]
theorem Bs.keptM {w w' : World} {a : Option Addr} {cap : Nat} {l : List Int} (h : Bs w a cap l) (hs : ∀ x, a = some x -> w'.heap[x.block]? = w.heap[x.block]?) : Bs w' a cap l := by
 obtain ⟨h1, h2, h3, h4, h5⟩ := h
 refine ⟨h1, h2, h3, h4, fun hne => ?_⟩
 obtain ⟨b, off, rfl, hc⟩ := h5 hne
 exact ⟨b, off, rfl, fun i hi => (World.cell?_of_block (a := ⟨b, off + i, none⟩) (hs ⟨b, off, none⟩ rfl)).trans (hc i hi)⟩
theorem Bs.ltM {w : World} {a : Option Addr} {cap : Nat} {l : List Int} (h : Bs w a cap l) (hne : l ≠ []) : ∀ x, a = some x -> x.block < w.heap.size := fun x hx => by
 obtain ⟨b, off, e, hc⟩ := h.2.2.2.2 hne
 have hl : 0 < l.length := by cases l with
  | nil => exact absurd rfl hne
  | cons _ _ => simp
 have := block_lt_of_cell (hc 0 hl)
 rw [e] at hx
 simp only [Option.some.injEq] at hx
 subst hx
 exact this
theorem Lst.ownLtM {α : Type} {enc : α -> List Value} {k T : Nat} {w : World} {B : Nat} {v : Value} {l : List α} (h : Lst enc k T w B v l) {b : Nat} (hb : v.ownBlock = some b) : b < w.heap.size := by
 rcases h.2 with ⟨rfl, _⟩ | ⟨g1, cap1, cur1, rfl, hB1, hc1, _⟩
 ·cases hb
 ·simp [Value.ownBlock] at hb
  subst hb
  exact (Array.getElem?_eq_some_iff.1 hc1).1
structure Tr (w0 w : World) (M A B : List Int) (k : Nat) (a : Option Addr) (c : Nat) (at_ : Nat) (tv : Value) (T : List Int) : Prop where
 ok : (pkS M.length (thO M A B) k).1 = 0
 bs : Bs w a c (pkS M.length (thO M A B) k).2.2
 at_ : (pkS M.length (thO M A B) k).2.1 = at_
 td : Lst inC 1 3 w w0.heap.size tv T
 ne : ∀ x, a = some x -> tv.ownBlock ≠ some x.block
 base : Below w0.heap.size w0 w
section
variable {w0 w w' : World} {M A B : List Int} {k : Nat} {a : Option Addr} {c at_ : Nat} {tv : Value} {T : List Int}
theorem Tr.below (h : Tr w0 w M A B k a c at_ tv T) (hb : Below w.heap.size w w') : Tr w0 w' M A B k a c at_ tv T :=
 ⟨h.ok, h.bs.below hb, h.at_, h.td.below hb, h.ne, h.base.trans (hb.mono h.base.size)⟩
theorem Tr.start (hm : Fine M) : Tr w0 (mkW w0 M.length) M A B 0 (some ⟨w0.heap.size, 0, none⟩) M.length 288 (.slice none 0 0) [] := by
 have hl := hm.len
 have hb := (mkW_blk w0 M.length).bs (byt_zerosB M.length) (by rw [length_zerosB]; omega)
 rw [length_zerosB] at hb
 exact ⟨rfl, hb, rfl, Lst.nil _ _, fun x _ h => (by cases h), mkW_below w0 M.length⟩
theorem Tr.pk (h : Tr w0 w M A B k a c at_ tv T) (hm : Fine M) (ha : Fine A) (hb : Fine B) (ba : Byt A) (bb : Byt B) (hk : k <= 40) : Pk M.length (pkS M.length (thO M A B) k).2.2 at_ := by
 have hl := hm.len
 obtain ⟨i1, i2, i3⟩ := pkS_ok hl.1 hl.2 (thO_ok (m := M) ha ba hb bb) k hk
 have := (i3 h.ok).1
 rw [h.at_] at this
 exact this
theorem Tr.told {v' : Value} {T' : List Int} (h : Tr w0 w M A B k a c at_ tv T) (hne : (pkS M.length (thO M A B) k).2.2 ≠ []) (hl : Lst inC 1 3 w' w0.heap.size v' T') (hb : Below w0.heap.size w w') (hk : ∀ j, j < w.heap.size -> tv.ownBlock ≠ some j -> w'.heap[j]? = w.heap[j]?) (hob : v'.ownBlock = tv.ownBlock \/ v'.ownBlock = some w.heap.size) : Tr w0 w' M A B k a c at_ v' T' := by
 have hlt := h.bs.ltM hne
 refine ⟨h.ok, h.bs.keptM (fun x hx => hk _ (hlt x hx) (h.ne x hx)), h.at_, hl, fun x hx e => ?_, h.base.trans hb⟩
 rcases hob with hob | hob
 ·rw [hob] at e; exact h.ne x hx e
 ·rw [hob] at e
  simp only [Option.some.injEq] at e
  have := hlt x hx
  omega
theorem Tr.skip (h : Tr w0 w M A B k a c at_ tv T) (ht : (thO M A B ((k : Int) + 1)).1 < 0) : Tr w0 w M A B (k + 1) a c at_ tv T := by
 have e := pkS_skip h.ok ht
 exact ⟨by rw [e]; exact h.ok, by rw [e]; exact h.bs, by rw [e]; exact h.at_, h.td, h.ne, h.base⟩
theorem Tr.full (h : Tr w0 w M A B k a c at_ tv T) (ht : ¬ (thO M A B ((k : Int) + 1)).1 < 0) (hN : M.length < at_ + (thO M A B ((k : Int) + 1)).2.length) (hk : k < 40) : mgS M A B = (4, []) :=
 mgS_full (pkS_full h.ok ht (by rw [h.at_]; exact hN) hk)
theorem Tr.room (h : Tr w0 w M A B k a c at_ tv T) (hm : Fine M) (ha : Fine A) (hb : Fine B) (ba : Byt A) (bb : Byt B) (hk : k < 40) {t : Int} {bs : List Int} (ho : thO M A B ((k : Int) + 1) = (t, bs)) (ht : ¬ t < 0) (hN : ¬ M.length < at_ + bs.length) :
  putE (pkS M.length (thO M A B) k).2.2 ((k : Int) + 1, (at_ : Int), (bs.length : Int), t) = 0 /\ (pkS M.length (thO M A B) (k + 1)).1 = 0 /\ (pkS M.length (thO M A B) (k + 1)).2.1 = at_ + bs.length /\
  (pkS M.length (thO M A B) (k + 1)).2.2 = splice (putL (pkS M.length (thO M A B) k).2.2 ((k : Int) + 1, (at_ : Int), (bs.length : Int), t)) at_ bs /\ Byt (pkS M.length (thO M A B) (k + 1)).2.2 /\ (pkS M.length (thO M A B) (k + 1)).2.2.length = M.length /\
  (putL (pkS M.length (thO M A B) k).2.2 ((k : Int) + 1, (at_ : Int), (bs.length : Int), t)).length = M.length /\ Byt bs := by
 have hl := hm.len
 have pk := h.pk hm ha hb ba bb (by omega)
 have e := pkS_next h.ok (k := k) (by rw [ho]; exact ht) (by rw [ho, h.at_]; exact hN)
 rw [ho, h.at_] at e
 dsimp only at e
 have hO := thO_ok (m := M) ha ba hb bb ((k : Int) + 1) (by omega) (by omega)
 rw [ho] at hO
 rcases hO with hO | ⟨q1, q2, q3, q4, q5⟩
 ·exact absurd (by rw [Prod.mk.injEq] at hO; rw [hO.1]; decide) ht
 dsimp only at q1 q2 q3 q4 q5
 have hlo := pk.lo
 have hpe : putE (pkS M.length (thO M A B) k).2.2 ((k : Int) + 1, (at_ : Int), (bs.length : Int), t) = 0 := putE_zero.2 ⟨pk.fine.len0, hndB_iff.2 ⟨by dsimp only; omega, by dsimp only; omega⟩, by dsimp only; omega, by dsimp only; omega, by dsimp only; omega, by dsimp only; omega, by dsimp only; omega, by dsimp only; rw [pk.len]; omega⟩
 have hpl : (putL (pkS M.length (thO M A B) k).2.2 ((k : Int) + 1, (at_ : Int), (bs.length : Int), t)).length = M.length := by
  unfold putL
  rw [if_pos hpe, length_splice (by have := plc_le (h := (k : Int) + 1) (by omega) (by omega); have := pk.len; show plc ((k : Int) + 1) + 5 <= _; omega)]
  exact pk.len
 obtain ⟨_, _, j3⟩ := pkS_ok hl.1 hl.2 (thO_ok (m := M) ha ba hb bb) (k + 1) (by omega)
 have pk2 := (j3 (by rw [e])).1
 refine ⟨hpe, by rw [e], by rw [e], ?_, pk2.byt, pk2.len, hpl, q5⟩
 rw [e]
 rfl
end
theorem none_ahead {L : List ByteArray} (hnd : L.Nodup) {i : Nat} {s : ByteArray} (h : L[i]? = some s) {f : ByteArray -> Option (ByteArray × Int)} (hf : ∀ t r, f t = some r -> r.1 = t) : s ∉ ((L.take i).filterMap f).map (·.1) := fun hm => by
 obtain ⟨r, hr, rfl⟩ := List.mem_map.1 hm
 obtain ⟨t, ht, e⟩ := List.mem_filterMap.1 hr
 have hst := hf t r e
 subst hst
 obtain ⟨j, hj, ej⟩ := List.mem_iff_getElem.1 ht
 rw [List.length_take] at hj
 rw [List.getElem_take] at ej
 obtain ⟨hi, ei⟩ := List.getElem?_eq_some_iff.1 h
 exact (List.pairwise_iff_getElem.1 hnd) j i (by omega) hi (by omega) (by rw [ej, ei])
theorem RsN.chk {b out : List Int} {R : List (ByteArray × Int)} (o : RsN b out R) (h : Int) : chkE out h = chkE b h := by
 by_cases hh : 1 <= h /\ h <= 40
 ·exact (o.objs h hh.1 hh.2).2
 ·have hn : hndB h = false := Bool.eq_false_iff.2 (fun hc => hh (hndB_iff.1 hc))
  unfold chkE
  rw [o.len, hn]
  rfl
structure Rk (M A B O : List Int) (i n : Nat) (X : List Int) : Prop where
 eq : X = rtP O (rtK M A B O i) 0
 rs : RsN O X (rtK M A B O i)
 n_ : n = (rtK M A B O i).length
 le : n <= 8
section
variable {M A B O X : List Int} {i n N at_ : Nat} {s : ByteArray}
theorem Rk.start (pk : Pk N O at_) : Rk M A B O 0 0 O := by
 have h0 : rootsK O 8 = [] := by
  rw [rootsK_none (b := O) (k := 0) 8 (Nat.zero_le _) (fun j _ hj => pk.none_ j hj)]
  rfl
 exact ⟨rfl, ⟨pk.fine, rfl, pk.byt, h0, fun j _ hj => pk.none_ j hj, fun _ _ _ => ⟨rfl, rfl⟩⟩, rfl, Nat.zero_le _⟩
theorem Rk.skip (r : Rk M A B O i n X) (h : (mgN M A B)[i]? = some s) (hc : chkE X (mgH M A B s) ≠ 0) : Rk M A B O (i + 1) n X := by
 rw [r.rs.chk] at hc
 have e : rtK M A B O (i + 1) = rtK M A B O i := by rw [rtK_succ h, if_neg hc, List.append_nil]
 exact ⟨by rw [e]; exact r.eq, by rw [e]; exact r.rs, by rw [e]; exact r.n_, r.le⟩
theorem rtK_no {i : Nat} (h : (mgN M A B)[i]? = some s) : s ∉ (rtK M A B O i).map (·.1) := by
 have hnd : (mgN M A B).Nodup := by unfold mgN; exact (insL_ris _).nodup
 unfold rtK
 exact none_ahead hnd h (fun t r e => by
  split at e
  ·rw [<- Option.some.inj e]
  ·cases e)
theorem Rk.next (r : Rk M A B O i n X) (fm : Fine M) (fa : Fine A) (fb : Fine B) (bm : Byt M) (ba : Byt A) (bb : Byt B) (h : (mgN M A B)[i]? = some s) (hc : chkE X (mgH M A B s) = 0) (hn : n ≠ 8) : Rk M A B O (i + 1) (n + 1) (prL X n (s, mgH M A B s)) := by
 rw [r.rs.chk] at hc
 have e : rtK M A B O (i + 1) = rtK M A B O i ++ [(s, mgH M A B s)] := by rw [rtK_succ h, if_pos hc]
 have hle := r.le
 have hnn := r.n_
 have hnm : nameB s = true := mgN_ok fm fa fb bm ba bb (List.mem_of_getElem? h)
 have hnx := r.rs.next (s := s) (h := mgH M A B s) (by omega) hnm hc (rtK_no h)
 rw [<- hnn] at hnx
 refine ⟨?_, by rw [e]; exact hnx, by rw [e, List.length_append, <- hnn]; rfl, by omega⟩
 rw [e, rtP_snoc, <- r.eq, Nat.zero_add, <- hnn]
theorem mgS_pk (h0 : (pkS M.length (thO M A B) 40).1 = 0) (hO : (pkS M.length (thO M A B) 40).2.2 = O) : mgS M A B = if 8 < (mgR M A B O).length then (4, []) else (0, rtP O (mgR M A B O) 0) := by
 unfold mgS mgT
 rw [if_neg (fun hc => hc h0), hO]
theorem Rk.full (r : Rk M A B O i 8 X) (h0 : (pkS M.length (thO M A B) 40).1 = 0) (hO : (pkS M.length (thO M A B) 40).2.2 = O) (h : (mgN M A B)[i]? = some s) (hc : chkE X (mgH M A B s) = 0) : mgS M A B = (4, []) := by
 rw [r.rs.chk] at hc
 have e : rtK M A B O (i + 1) = rtK M A B O i ++ [(s, mgH M A B s)] := by rw [rtK_succ h, if_pos hc]
 have hl : (rtK M A B O (i + 1)).length = 9 := by rw [e, List.length_append, <- r.n_]; rfl
 have := rtK_le M A B O (i + 1)
 rw [mgS_pk h0 hO, if_pos (by omega)]
theorem Rk.done (r : Rk M A B O (mgN M A B).length n X) (h0 : (pkS M.length (thO M A B) 40).1 = 0) (hO : (pkS M.length (thO M A B) 40).2.2 = O) : mgS M A B = (0, X) := by
 have e := rtK_all M A B O
 have hl := r.n_
 have hle := r.le
 rw [e] at hl
 rw [mgS_pk h0 hO, if_neg (by omega), r.eq, e]
end
theorem size_str : (Tryz.prog.info? 9).map (·.size) = some 1 := by kernel_rfl
theorem run_size_str (w : World) : (sizeOf 9).run Tryz.prog w = .ok 1 w := by
 have hsz := size_str
 cases hq : Tryz.prog.info? 9 with
 | none => simp [hq] at hsz
 | some i =>
  have : i.size = 1 := by simpa [hq] using hsz
  simp [sizeOf, typeInfo, hq, this]
theorem elem_strs : Tryz.prog.elem 61 = 9 := by simp [Program.elem, Tryz.underlying61]
theorem Sls.dropS {w : World} {a : Option Addr} {cap : Nat} {l : List ByteArray} (h : Sls sgC 1 w a cap l) (i : Nat) (hi : i <= l.length) : Sls sgC 1 w (if cap = i then a else a.map (·.add i)) (cap - i) (l.drop i) := by
 obtain ⟨h1, h2, h3, h4⟩ := h
 refine ⟨by rw [List.length_drop]; omega, fun hn => ?_, by rw [List.length_drop]; omega, fun hne => ?_⟩
 ·by_cases hc : cap = i
  ·omega
  ·rw [if_neg hc] at hn
   cases a with
   | none => rw [h2 rfl]; omega
   | some x => cases hn
 ·have hlt : i < l.length := by
   rcases Nat.lt_or_ge i l.length with h | h
   ·exact h
   ·exact absurd (List.drop_eq_nil_of_le h) hne
  have hnil : l ≠ [] := by intro h; subst h; simp at hlt
  obtain ⟨b, off, rfl, hc⟩ := h4 hnil
  refine ⟨b, off + i, ?_, ?_⟩
  ·rw [if_neg (by omega)]
   simp [addr_add]
  ·intro j x hx q u hu
   have := hc (i + j) x (by rw [List.getElem?_drop] at hx; exact hx) q u hu
   rw [show off + i + j * 1 + q = off + (i + j) * 1 + q by omega]
   exact this
theorem Sls.takeS {w : World} {a : Option Addr} {cap : Nat} {l : List ByteArray} (h : Sls sgC 1 w a cap l) (i : Nat) : Sls sgC 1 w a cap (l.take i) := by
 obtain ⟨h1, h2, h3, h4⟩ := h
 refine ⟨by rw [List.length_take]; omega, h2, by rw [List.length_take]; omega, fun hne => ?_⟩
 have hnil : l ≠ [] := by intro h; subst h; simp at hne
 obtain ⟨b, off, rfl, hc⟩ := h4 hnil
 refine ⟨b, off, rfl, fun j x hx q u hu => ?_⟩
 refine hc j x ?_ q u hu
 rw [List.getElem?_take] at hx
 split at hx
 ·exact hx
 ·cases hx
theorem slice_loS {w : World} {a : Option Addr} {cap : Nat} {l : List ByteArray} (h : Sls sgC 1 w a cap l) (i : Nat) (hi : i <= l.length) :
  ∃ a', (∀ w', (Instr.slice 61 (.slice a l.length cap) (some (.int .i64 i)) none none).run Tryz.prog w' = .ok (.slice a' (l.length - i) (cap - i)) w') /\ Sls sgC 1 w a' (cap - i) (l.drop i) := by
 have hcap := h.1
 refine ⟨_, fun w' => ?_, h.dropS i hi⟩
 rw [run_slice_l (P := Tryz.prog) (w := w') 61 a l.length cap (by rw [elem_strs]; exact Tryz.underlying61) .i64 i (by omega) (by omega), elem_strs, run_size_str w']
 simp [Result.andThen, sliced]
theorem slice_hiS {w : World} {a : Option Addr} {cap : Nat} {l : List ByteArray} (h : Sls sgC 1 w a cap l) (i : Nat) (hi : i <= l.length) :
  ∃ a', (∀ w', (Instr.slice 61 (.slice a l.length cap) none (some (.int .i64 i)) none).run Tryz.prog w' = .ok (.slice a' i cap) w') /\ Sls sgC 1 w a' cap (l.take i) := by
 have hcap := h.1
 refine ⟨a, fun w' => ?_, h.takeS i⟩
 rw [run_slice_h (P := Tryz.prog) (w := w') 61 a l.length cap (by rw [elem_strs]; exact Tryz.underlying61) .i64 i (by omega) (by omega), elem_strs, run_size_str w']
 simp only [Result.andThen, sliced]
 by_cases h0 : cap = 0
 ·simp [h0]
 ·rw [if_neg h0]
  cases a with
  | none => exact absurd (h.2.1 rfl) h0
  | some x => simp [Addr.add]
theorem Sls.str {w : World} {b off : Nat} {l : List ByteArray} (hc : ∀ i x, l[i]? = some x -> ∀ j u, (sgC x)[j]? = some u -> w.cell? ⟨b, off + i * 1 + j, none⟩ = some u) {i : Nat} {s : ByteArray} (h : l[i]? = some s) : w.cell? ⟨b, off + i, none⟩ = some (.string s) := by
 have := hc i s h 0 _ rfl
 simpa using this
def nmI (R : List (ByteArray × Int)) (i : Nat) : List ByteArray := ((R.take i).map (·.1)).foldl insN []
theorem nmI_zero (R : List (ByteArray × Int)) : nmI R 0 = [] := rfl
theorem nmI_succ {R : List (ByteArray × Int)} {i : Nat} {r : (ByteArray × Int)} (h : R[i]? = some r) : nmI R (i + 1) = insN (nmI R i) r.1 := by
 unfold nmI
 rw [List.take_add_one, h, List.map_append, List.foldl_append]
 rfl
theorem nmI_ris (R : List (ByteArray × Int)) (i : Nat) : Ris (nmI R i) := (insL_fold _ [] List.Pairwise.nil).1
theorem nmI_len (R : List (ByteArray × Int)) (i : Nat) : (nmI R i).length <= i := by
 have := insL_len ((R.take i).map (·.1)) []
 unfold nmI
 rw [List.length_map, List.length_take, List.length_nil, Nat.zero_add] at this
 omega
theorem nmI_all (M A B : List Int) : nmI (rootsK M 8 ++ rootsK A 8 ++ rootsK B 8) (rootsK M 8 ++ rootsK A 8 ++ rootsK B 8).length = mgN M A B := by
 unfold nmI mgN insL
 rw [List.take_length]
theorem nm_in {l : List ByteArray} {s : ByteArray} {k : Nat} (h : Ris l) (hk : k < l.length) (hbeh : ∀ x ∈ l.drop (k + 1), bL s x = true) {x : ByteArray} (hx : l[k]? = some x) (hno : bL s x = false) (he : x = s) : insN l s = l := by
 refine (insN_at (k := k + 1) h (by omega) hbeh (fun y hy => ?_)).1 x ?_ he
 ·have : (l.take (k + 1)).getLast? = some x := by
   rw [List.take_add_one, hx]
   simp
  rw [this] at hy
  simp only [Option.some.injEq] at hy
  rw [<- hy]
  exact hno
 ·rw [List.take_add_one, hx]
  simp
theorem nm_new {l : List ByteArray} {s : ByteArray} {k : Nat} (h : Ris l) (hk : k < l.length) (hbeh : ∀ x ∈ l.drop (k + 1), bL s x = true) {x : ByteArray} (hx : l[k]? = some x) (hno : bL s x = false) (he : x ≠ s) : insN l s = l.take (k + 1) ++ s :: l.drop (k + 1) := by
 have hl : (l.take (k + 1)).getLast? = some x := by
  rw [List.take_add_one, hx]
  simp
 refine (insN_at (k := k + 1) h (by omega) hbeh (fun y hy => ?_)).2 (fun y hy => ?_)
 ·rw [hl] at hy
  simp only [Option.some.injEq] at hy
  rw [<- hy]
  exact hno
 ·rw [hl] at hy
  simp only [Option.some.injEq] at hy
  rw [<- hy]
  exact he
theorem nm_first {l : List ByteArray} {s : ByteArray} (h : Ris l) (hbeh : ∀ x ∈ l, bL s x = true) : insN l s = s :: l := by
 have := (insN_at (k := 0) h (Nat.zero_le _) (fun x hx => hbeh x (by simpa using hx)) (fun y hy => by simp at hy)).2 (fun y hy => by simp at hy)
 simpa using this
def thn (e x : Int) : Int := if e = 0 then x else e
theorem thn_zero (x : Int) : thn 0 x = x := if_pos rfl
theorem thn_no {e : Int} (h : e ≠ 0) (x : Int) : thn e x = e := if_neg h
theorem ckOne_is (L : List Int) : ckOne L = fineE L := by
 unfold ckOne fineE chkF
 generalize faults L = F
 cases h : lenB L.length with
 | false => rw [if_pos rfl, if_pos rfl]
 | true => simp
def mB2 (M A : List Int) : Bool := !lenB M.length || (!lenB A.length || decide (M.length ≠ A.length))
def mB3 (M A B : List Int) : Bool := !lenB M.length || (!lenB A.length || (!lenB B.length || (decide (M.length ≠ A.length) || decide (M.length ≠ B.length))))
def mE (b : Bool) : Int := if b = true then 3 else 0
theorem fineE_bad {L : List Int} (h : lenB L.length = false) : fineE L = 3 := by unfold fineE; rw [if_pos h]
theorem mE_two (m a : IM) : thn (thn (mE (mB2 m.2.2 a.2.2)) (fineE m.2.2)) (fineE a.2.2) = ckAll m.2.2.length [m, a] := by
 obtain ⟨m1, m2, M⟩ := m
 obtain ⟨a1, a2, A⟩ := a
 dsimp only
 by_cases hl : M.length = A.length
 ·have e : ckAll M.length [(m1, m2, M), (a1, a2, A)] = thn (fineE M) (fineE A) := by
   unfold ckAll ckLen
   rw [if_neg (by simp [hl])]
   show (if ckOne M = 0 then (if ckOne A = 0 then 0 else ckOne A) else ckOne M) = _
   rw [ckOne_is, ckOne_is]
   unfold thn
   split
   ·split
    ·rename_i h; exact h.symm
    ·rfl
   ·rfl
  rw [e]
  cases hp : lenB M.length with
  | false =>
   have : mB2 M A = true := by unfold mB2; rw [hp]; rfl
   rw [this, fineE_bad hp]
   rfl
  | true =>
   have : mB2 M A = false := by unfold mB2; rw [<- hl, hp]; simp [hl]
   rw [this]
   rfl
 ·have e : mB2 M A = true := by unfold mB2; rw [decide_eq_true hl]; simp
  rw [e]
  unfold ckAll
  rw [if_pos (by unfold ckLen; simp; exact fun h => hl h.symm)]
  rfl
theorem mE_three (m a b : IM) : thn (thn (thn (mE (mB3 m.2.2 a.2.2 b.2.2)) (fineE m.2.2)) (fineE a.2.2)) (fineE b.2.2) = ckAll m.2.2.length [m, a, b] := by
 obtain ⟨m1, m2, M⟩ := m
 obtain ⟨a1, a2, A⟩ := a
 obtain ⟨b1, b2, B⟩ := b
 dsimp only
 by_cases hl : M.length = A.length /\ M.length = B.length
 ·obtain ⟨hl, hm⟩ := hl
  have e : ckAll M.length [(m1, m2, M), (a1, a2, A), (b1, b2, B)] = thn (thn (fineE M) (fineE A)) (fineE B) := by
   unfold ckAll ckLen
   rw [if_neg (by simp [<- hl, <- hm])]
   show (if ckOne M = 0 then (if ckOne A = 0 then (if ckOne B = 0 then 0 else ckOne B) else ckOne A) else ckOne M) = _
   rw [ckOne_is, ckOne_is, ckOne_is]
   unfold thn
   by_cases h1 : fineE M = 0
   ·rw [if_pos h1, if_pos h1]
    by_cases h2 : fineE A = 0
    ·rw [if_pos h2, if_pos h2]
     by_cases h3 : fineE B = 0
     ·rw [if_pos h3, h3]
     ·rw [if_neg h3]
    ·rw [if_neg h2, if_neg h2]
   ·rw [if_neg h1, if_neg h1, if_neg h1]
  rw [e]
  cases hp : lenB M.length with
  | false =>
   have : mB3 M A B = true := by unfold mB3; rw [hp]; rfl
   rw [this, fineE_bad hp]
   rfl
  | true =>
   have : mB3 M A B = false := by unfold mB3; rw [<- hl, <- hm, hp]; simp
   rw [this]
   rfl
 ·have e : mB3 M A B = true := by
   unfold mB3
   by_cases h1 : M.length = A.length
   ·have h2 : M.length ≠ B.length := fun h => hl ⟨h1, h⟩
    rw [decide_eq_true h2]
    simp
   ·rw [decide_eq_true h1]
    simp
  rw [e]
  unfold ckAll
  rw [if_pos (by
   unfold ckLen
   simp
   by_cases h1 : M.length = A.length
   ·exact .inr (fun h => hl ⟨h1, h.symm⟩)
   ·exact .inl (fun h => h1 h.symm))]
  rfl
end Go.Proofs.YtifmemombecoaaaGreatDoor
