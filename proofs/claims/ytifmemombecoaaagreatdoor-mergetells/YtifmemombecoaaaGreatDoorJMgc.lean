/-
  Parts of the proofs, joined by program.
-/
import Derived.Test.YtifmemombecoaaaGreatDoorJMga
import Derived.Test.YtifmemombecoaaaGreatDoorJChp
import Derived.Test.YtifmemombecoaaaGreatDoorJCh
import Derived.Test.YtifmemombecoaaaGreatDoorJCi
import Derived.Test.YtifmemombecoaaaGreatDoorJMgp
import Derived.Test.YtifmemombecoaaaGreatDoorJIn
import Derived.Deep.RegionHeld3
import Derived.BigQuiet
import Derived.Test.YtifmemombecoaaaGreatDoorJHp
import Derived.Test.YtifmemombecoaaaGreatDoorJTn
namespace Go.Proofs.YtifmemombecoaaaGreatDoor
open Go.RowKit
set_option linter.unusedVariables false
abbrev IM := Option Addr × Nat × List Int
def imV (x : IM) : Value := .slice x.1 x.2.2.length x.2.1
def Imz (w : World) (g : Nat) (l : List IM) : Prop := Rw w g 22 (l.map imV) /\ ∀ x ∈ l, Bs w x.1 x.2.1 x.2.2
theorem Imz.below {w w' : World} {g : Nat} {l : List IM} (h : Imz w g l) (hb : Below w.heap.size w w') : Imz w' g l := ⟨h.1.same (hb.block g h.1.lt), fun x hx => (h.2 x hx).below hb⟩
theorem Imz.cell {w : World} {g : Nat} {l : List IM} (h : Imz w g l) {i : Nat} {x : IM} (hx : l[i]? = some x) : w.cell? ⟨g, i, none⟩ = some (imV x) := h.1.cell (by rw [List.getElem?_map, hx]; rfl)
def mpC (g : Nat) : List Value := [.map (some g)]
theorem mpC_len (g : Nat) : (mpC g).length = 1 := rfl
theorem mpC_one (g : Nat) : ∀ u ∈ mpC g, u.oneCell' = true := by
 intro u hu
 simp [mpC] at hu
 subst hu
 rfl
theorem info_mpO : (Tryz.prog.info? 50).map (fun i => (i.zero, i.size, i.bytes)) = some (some (.map none), 1, 8) := by kernel_rfl
theorem info_mpS : (Tryz.prog.info? 75).map (fun i => (i.zero, i.size, i.bytes)) = some (some (.map none), 1, 8) := by kernel_rfl
end Go.Proofs.YtifmemombecoaaaGreatDoor
namespace Go.Proofs.YtifmemombecoaaaGreatDoor
open Go.RowKit Go.Shelf
set_option linter.unusedVariables false
def ckOne (L : List Int) : Int := if lenB L.length = false then 3 else if chkF L = [] then 0 else 6
def ckR : List (List Int) -> Int
 | [] => 0
 | L :: r => if ckOne L = 0 then ckR r else ckOne L
def ckLen (n : Nat) (l : List IM) : Bool := l.any fun x => decide (x.2.2.length ≠ n)
def ckAll (n : Nat) (l : List IM) : Int := if ckLen n l = true then 3 else ckR (l.map (·.2.2))
theorem ckR_take {l : List (List Int)} : ∀ {k : Nat} {L : List Int}, l[k]? = some L -> (∀ M ∈ l.take k, ckOne M = 0) -> ckOne L ≠ 0 -> ckR l = ckOne L := by
 induction l with
 | nil => intro k L h; simp at h
 | cons M r ih =>
  intro k L h h0 hL
  cases k with
  | zero =>
   simp at h
   subst h
   show (if ckOne M = 0 then _ else _) = _
   rw [if_neg hL]
  | succ k =>
   show (if ckOne M = 0 then _ else _) = _
   rw [if_pos (h0 M (by simp))]
   exact ih (by simpa using h) (fun N hN => h0 N (by simp [hN])) hL
theorem ckR_all {l : List (List Int)} (h : ∀ M ∈ l, ckOne M = 0) : ckR l = 0 := by
 induction l with
 | nil => rfl
 | cons M r ih =>
  show (if ckOne M = 0 then _ else _) = _
  rw [if_pos (h M (by simp))]
  exact ih (fun N hN => h N (by simp [hN]))
theorem ck1_any (x : IM) (B n : Nat) (W : World) (hc : W.cell? ⟨B, 0, none⟩ = some (.int .i64 n)) :
  FnGives Tryz.prog 40 #[.pointer (some ⟨B, 0, none⟩)] #[imV x] (.bool (decide (x.2.2.length ≠ n))) W := by
 show Calls Tryz.prog 40 #[imV x, .pointer (some ⟨B, 0, none⟩)] W _
 have he : ((x.2.2.length : Int) != (n : Int)) = decide (x.2.2.length ≠ n) := by
  by_cases e : x.2.2.length = n
  ·rw [e]; simp
  ·rw [decide_eq_true e, bne_iff_ne]; omega
 unfold imV
 generalize decide (x.2.2.length ≠ n) = r at *
 generalize x.2.2.length = m at *
 go_enter Tryz.func40, Tryz.ntmps40
 go_wp2
 go_ret
 exact ⟨rfl, 0, rfl⟩
theorem ckCont (g B n : Nat) (l : List IM) (w : World) (h : Imz w g l) (hB : B < w.heap.size) (hc : w.cell? ⟨B, 0, none⟩ = some (.int .i64 n)) (hl : l.length <= 10) :
  Calls Tryz.prog 39 #[.slice (some ⟨g, 0, none⟩) l.length l.length, .func (.func 40) #[] #[.pointer (some ⟨B, 0, none⟩)]] w fun e w' => e = .returned (.bool (ckLen n l)) /\ Below w.heap.size w w' := by
 have hp : PredAt Tryz.prog 40 #[.pointer (some ⟨B, 0, none⟩)] imV (fun x => decide (x.2.2.length ≠ n)) w := fun W x hb => ck1_any x B n W ((hb.cell (p := ⟨B, 0, none⟩) hB).trans hc)
 have c := AnyE.slices_ContainsFunc cfB imV (fun x => decide (x.2.2.length ≠ n)) 40 #[.pointer (some ⟨B, 0, none⟩)] (enters_of Tryz.func40 (by kernel_rfl) rfl) g 0 l.length l.length l w hp (Nat.le_refl _) (by omega) (fun j hj => by
  rw [Nat.zero_add]
  exact h.cell (by rw [getElem!_pos l j hj]; exact List.getElem?_eq_getElem hj))
 change Calls Tryz.prog 39 _ _ _ at c
 refine c.mono ?_
 rintro e w' ⟨rfl, q, rfl⟩
 rw [List.take_length]
 exact ⟨rfl, below_drewN' (Below.refl _ _) q⟩
set_option maxRecDepth 100000 in
set_option maxHeartbeats 2000000 in
theorem ckAll_any (g : Nat) (l : List IM) (x0 : IM) (w : World) (h : Imz w g l) (h0 : l[0]? = some x0) (hl : l.length <= 10) :
  Calls Tryz.prog 14 #[.slice (some ⟨g, 0, none⟩) l.length l.length] w fun e w' => e = .returned (errV (ckAll x0.2.2.length l)) /\ Below w.heap.size w w' := by
 have hpos : 0 < l.length := (List.getElem?_eq_some_iff.1 h0).1
 have hc0 := h.cell h0
 have hb1 : Below w.heap.size w (w.alloc (.cells #[.int .i64 (x0.2.2.length : Int)] 3)) := (Below.refl _ _).alloc (Nat.le_refl _) _
 have HC := hide (ckCont g w.heap.size x0.2.2.length l _ (h.below hb1) (by rw [sz_alloc]; omega) (cell_new1 _ _ _) hl)
 have HI := hide h
 have hgl := h.1.lt
 have HB1 := hide hb1
 unfold ckAll
 have HT := hide (fun (k : Nat) (x : IM) (hx : l[k]? = some x) (h : ∀ M ∈ (l.map (·.2.2)).take k, ckOne M = 0) (hn : ckOne x.2.2 ≠ 0) => ckR_take (l := l.map (·.2.2)) (k := k) (L := x.2.2) (by rw [List.getElem?_map, hx]; rfl) h hn)
 have HA := hide (fun (h : ∀ M ∈ l.map (·.2.2), ckOne M = 0) => ckR_all h)
 generalize ckR (l.map (·.2.2)) = CR at *
 unfold imV at hc0
 obtain ⟨a0, c00, l0⟩ := x0
 dsimp only at *
 generalize l0.length = n0 at *
 generalize ckLen n0 l = CL at *
 cases CL with
 | true =>
  rw [if_pos rfl, errV_pos 3 (by decide)]
  go_enter Tryz.func14, Tryz.ntmps14
  go_wp2_with fail
  refine (unhide HC).mono ?_
  rintro e w2 ⟨rfl, hb2⟩
  have HB2 := hide ((unhide HB1).trans (hb2.mono (unhide HB1).size))
  clear hb2 HC
  go_wp2
  go_ret
  exact ⟨rfl, unhide HB2⟩
 | false =>
  rw [if_neg (by simp)]
  go_enter Tryz.func14, Tryz.ntmps14
  go_wp2_with fail
  refine (unhide HC).mono ?_
  rintro e w2 ⟨rfl, hb2⟩
  have HB2 := hide ((unhide HB1).trans (hb2.mono (unhide HB1).size))
  clear hb2 HC HB1
  go_wp2
  go_loopw [5, 6, 7, 18] (fun _ _ _ iv wr => ∃ k : Nat, k <= l.length /\ iv = .int .i64 (k : Int) /\ Hid (∀ M ∈ (l.map (·.2.2)).take k, ckOne M = 0) /\ Below w.heap.size w wr) (fun _ _ _ iv _ => l.length - (intOf iv).toNat)
  case atStart => exact ⟨0, Nat.zero_le _, rfl, hide (fun M hM => by simp at hM), unhide HB2⟩
  case round =>
   obtain ⟨k, hk, rfl, HK, hbel⟩ := hrel
   by_cases hlt : k < l.length
   ·obtain ⟨x, hx⟩ : ∃ x, l[k]? = some x := ⟨l[k], List.getElem?_eq_getElem hlt⟩
    have hxm := List.mem_of_getElem? hx
    have hcell := ((unhide HI).below hbel).cell hx
    have HCK := hide (chk_any x.1 x.2.1 x.2.2 wr (((unhide HI).2 x hxm).below hbel))
    have HTX := hide (fun h2 => unhide HT k x hx (unhide HK) h2)
    have hgw : g < wr.heap.size := Nat.lt_of_lt_of_le hgl hbel.size
    have HTK : Hid (ckOne x.2.2 = 0 -> ∀ M ∈ (l.map (·.2.2)).take (k + 1), ckOne M = 0) := hide (fun h1 M hM => by
     rw [List.take_add_one, List.getElem?_map, hx] at hM
     rcases List.mem_append.1 hM with hM | hM
     ·exact unhide HK M hM
     ·simp at hM; rw [hM]; exact h1)
    have HBE := hide hbel
    obtain ⟨xa, xc, xl⟩ := x
    unfold imV at hcell
    unfold ckOne at HTX HTK
    unfold lenE at HCK
    have hcl : (chkF xl).length <= 100 := by
     unfold chkF
     split
     ·unfold faults
      have h1 := hFK_len xl 40
      have h2 := rFK_len xl 8
      rw [List.length_append]
      omega
     ·simp
    dsimp only at *
    clear hx hxm hbel
    generalize hcf : chkF xl = CF at *
    have hlq : lenB xl.length = false -> CF = [] := fun h => by rw [<- hcf]; unfold chkF; rw [if_neg (by rw [h]; simp)]
    generalize lenB xl.length = LB at *
    generalize xl.length = XN at *
    clear hcf
    cases LB with
    | false =>
     rw [if_neg (by simp), errV_pos 3 (by decide)] at HCK
     have HCR : Hid (CR = 3) := hide (by have := unhide HTX (by simp); simpa using this)
     clear HTX HTK hlq
     go_wp2_with fail
     refine (unhide HCK).mono ?_
     rintro e w4 ⟨v4, rfl, hl4, hb4⟩
     obtain ⟨a4, c4, rfl, _⟩ := hl4.sls flC_len (by omega)
     have HB4 := hide ((unhide HBE).trans (hb4.mono (unhide HBE).size))
     clear hl4 hb4 HCK
     go_wp2
     go_ret
     exact ⟨by rw [unhide HCR, errV_pos 3 (by decide)]; rfl, unhide HB4⟩
    | true =>
     rw [if_pos rfl, errV_zero] at HCK
     by_cases hcf0 : CF = []
     ·subst hcf0
      have HKK := hide (unhide HTK (by simp))
      clear HTX HTK hlq
      go_wp2_with fail
      refine (unhide HCK).mono ?_
      rintro e w4 ⟨v4, rfl, hl4, hb4⟩
      obtain ⟨a4, c4, rfl, _⟩ := hl4.sls flC_len (by simp)
      have HB4 := hide ((unhide HBE).trans (hb4.mono (unhide HBE).size))
      clear hl4 hb4 HCK
      go_wp2
      go_roundw
      case rel => exact ⟨k + 1, by omega, by go_num, HKK, unhide HB4⟩
      case measure => simp [intOf]; omega
     ·have HCR : Hid (CR = 6) := hide (by have := unhide HTX (by simp [hcf0]); simpa [hcf0] using this)
      have hcp : 0 < CF.length := List.length_pos_iff.2 hcf0
      clear HTX HTK hlq hcf0
      go_wp2_with fail
      refine (unhide HCK).mono ?_
      rintro e w4 ⟨v4, rfl, hl4, hb4⟩
      obtain ⟨a4, c4, rfl, _⟩ := hl4.sls flC_len (by omega)
      have HB4 := hide ((unhide HBE).trans (hb4.mono (unhide HBE).size))
      clear hl4 hb4 HCK
      generalize CF.length = N at *
      have hgt : (0 : Int) < (N : Int) := by omega
      go_wp2
      go_ret
      exact ⟨by rw [unhide HCR, errV_pos 6 (by decide)]; rfl, unhide HB4⟩
   ·have HB4 := hide hbel
    have HCR : Hid (CR = 0) := hide (unhide HA (fun M hM => unhide HK M (by rw [List.take_of_length_le (by rw [List.length_map]; omega)]; exact hM)))
    have hge : ¬ ((k : Int) < (l.length : Int)) := by omega
    clear hbel
    go_wp2
    go_ret
    exact ⟨by rw [unhide HCR, errV_zero]; rfl, unhide HB4⟩
end Go.Proofs.YtifmemombecoaaaGreatDoor
namespace Go.Proofs.YtifmemombecoaaaGreatDoor
open Go.RowKit Go.MapKept Go.ChangeMaps
set_option linter.unusedVariables false
def ObF (w : World) (F : Int -> Option OV) (O : Int -> Int × List Int) : Prop :=
 ∀ k, (F k = none /\ O k = (-1, [])) \/ ∃ t a c l, F k = some (t, a, l.length, c) /\ O k = (t, l) /\ Bs w a c l /\ l ≠ [] /\ 0 <= t /\ t <= 15 /\ l.length <= 1000
def oL (L : List Int) (k : Int) : Int × List Int := if 1 <= k /\ k <= 40 then objOf L k else (-1, [])
def oPut (L : List Int) (O : Int -> Int × List Int) (e : (Int × Int × Int × Int)) : Int -> Int × List Int := fun k => if k = e.1 then objE L e else O k
def oAll (L : List Int) (es : List (Int × Int × Int × Int)) : Int -> Int × List Int := es.foldl (oPut L) (fun _ => (-1, []))
theorem oAll_snoc (L : List Int) (es : List (Int × Int × Int × Int)) (e : (Int × Int × Int × Int)) : oAll L (es ++ [e]) = oPut L (oAll L es) e := by
 unfold oAll
 rw [List.foldl_append]
 rfl
theorem oAll_ents (L : List Int) : ∀ K : Nat, oAll L (entsK L K) = fun k => if 1 <= k /\ k <= (K : Int) then objOf L k else (-1, [])
 | 0 => by
  funext k
  show (-1, []) = _
  rw [if_neg (by omega)]
 | K + 1 => by
  have ih := oAll_ents L K
  have e1 : entsK L (K + 1) = entsK L K ++ if tagAt L ((K : Int) + 1) = 0 then [] else [entOf L ((K : Int) + 1)] := rfl
  rw [e1]
  by_cases ht : tagAt L ((K : Int) + 1) = 0
  ·rw [if_pos ht, List.append_nil, ih]
   funext k
   by_cases hk : 1 <= k /\ k <= (K : Int)
   ·rw [if_pos hk, if_pos (by omega)]
   ·rw [if_neg hk]
    by_cases hk2 : k = (K : Int) + 1
    ·subst hk2
     rw [if_pos (by omega), objOf_none ht]
    ·rw [if_neg (by omega)]
  ·rw [if_neg ht, oAll_snoc, ih]
   funext k
   unfold oPut
   by_cases hk2 : k = (K : Int) + 1
   ·subst hk2
    rw [if_pos (show (K : Int) + 1 = (entOf L ((K : Int) + 1)).1 from rfl), if_pos (by omega)]
    unfold objOf
    rw [if_neg ht]
   ·rw [if_neg (show ¬ k = (entOf L ((K : Int) + 1)).1 from hk2)]
    dsimp only
    by_cases hk : 1 <= k /\ k <= (K : Int)
    ·rw [if_pos hk, if_pos (by omega)]
    ·rw [if_neg hk, if_neg (by omega)]
theorem oAll_oL (L : List Int) : oAll L (entsK L 40) = oL L := oAll_ents L 40
section
variable {w w' : World} {F G : Int -> Option OV} {O Q : Int -> Int × List Int}
theorem ObF.below (h : ObF w F O) (hb : Below w.heap.size w w') : ObF w' F O := fun k => by
 rcases h k with h | ⟨t, a, c, l, h1, h2, h3, h4⟩
 ·exact .inl h
 ·exact .inr ⟨t, a, c, l, h1, h2, h3.below hb, h4⟩
theorem ObF.some_iff (h : ObF w F O) (k : Int) : (F k).isSome = true ↔ O k ≠ (-1, []) := by
 rcases h k with ⟨h1, h2⟩ | ⟨t, a, c, l, h1, h2, h3, h4, h5, h6⟩
 ·rw [h1, h2]; simp
 ·rw [h1, h2]
  refine ⟨fun _ e => ?_, fun _ => rfl⟩
  have := congrArg Prod.fst e
  dsimp only at this
  omega
theorem ObF.same (hF : ObF w F O) (hG : ObF w G Q) (k : Int) (W : World) (hW : Below w.heap.size w W) :
  Calls Tryz.prog 18 #[ovV ((F k).getD obM.z), ovV ((G k).getD obM.z)] W fun e w' => e = .returned (.bool (decide (O k = Q k))) /\ Below W.heap.size W w' := by
 have key : ∀ {t1 t2 : Int} {a1 a2 : Option Addr} {c1 c2 : Nat} {l1 l2 : List Int} {r : Bool}, Bs W a1 c1 l1 -> Bs W a2 c2 l2 -> (decide (t1 = t2) && decide (l1 = l2)) = r -> Calls Tryz.prog 18 #[ovV (t1, a1, l1.length, c1), ovV (t2, a2, l2.length, c2)] W fun e w' => e = .returned (.bool r) /\ Below W.heap.size W w' := fun h1 h2 hr => by
  rw [<- hr]; exact isSame_any _ _ _ _ _ _ _ _ W h1 h2
 rcases hF k with ⟨h1, h2⟩ | ⟨t, a, c, l, h1, h2, h3, h4, h5, h6⟩
 ·rcases hG k with ⟨g1, g2⟩ | ⟨t', a', c', l', g1, g2, g3, g4, g5, g6⟩
  ·rw [h1, g1, h2, g2]
   exact key (l1 := []) (l2 := []) (bs_nil _) (bs_nil _) (by simp)
  ·rw [h1, g1, h2, g2]
   refine key (l1 := []) (bs_nil _) (g3.below hW) ?_
   rw [decide_eq_false (show ¬ ([] : List Int) = l' from fun e => g4 e.symm), Bool.and_false, decide_eq_false]
   intro e
   exact g4 (congrArg Prod.snd e).symm
 ·rcases hG k with ⟨g1, g2⟩ | ⟨t', a', c', l', g1, g2, g3, g4, g5, g6⟩
  ·rw [h1, g1, h2, g2]
   refine key (l2 := []) (h3.below hW) (bs_nil _) ?_
   rw [decide_eq_false h4, Bool.and_false, decide_eq_false]
   intro e
   exact h4 (congrArg Prod.snd e)
  ·rw [h1, g1, h2, g2]
   refine key (h3.below hW) (g3.below hW) ?_
   by_cases e : (t, l) = (t', l')
   ·rw [decide_eq_true e]
    obtain ⟨rfl, rfl⟩ := Prod.mk.inj e
    simp
   ·rw [decide_eq_false e, Bool.and_eq_false_iff, decide_eq_false_iff_not, decide_eq_false_iff_not]
    by_cases e1 : t = t'
    ·exact .inr (fun e2 => e (by rw [e1, e2]))
    ·exact .inl e1
end
theorem ObF.upd {w : World} {F : Int -> Option OV} {O : Int -> Int × List Int} (h : ObF w F O) {L : List Int} {e : (Int × Int × Int × Int)} {a : Option Addr} {c : Nat} (hb : Bs w a c (objE L e).2) (hl : (objE L e).2 ≠ []) (ht : 0 <= e.2.2.2 /\ e.2.2.2 <= 15) (hn : (objE L e).2.length <= 1000) : ObF w (updF F e.1 (some (e.2.2.2, a, (objE L e).2.length, c))) (oPut L O e) := fun k => by
 unfold updF oPut
 by_cases hk : k = e.1
 ·rw [if_pos hk, if_pos hk]
  exact .inr ⟨e.2.2.2, a, c, _, rfl, rfl, hb, hl, ht.1, ht.2, hn⟩
 ·rw [if_neg hk, if_neg hk]
  exact h k
def RdmO (w : World) (L : List Int) (W : World) (g : Nat) : Prop := ∃ F, Mp obM W g 40 F /\ ObF w F (oL L)
set_option maxRecDepth 100000 in
set_option maxHeartbeats 2000000 in
theorem readO (w0 : World) (a : Option Addr) (cap : Nat) (L : List Int) (w : World) (hbs0 : Bs w0 a cap L) (hw0 : Below w0.heap.size w0 w) (hf : Fine L) :
  Calls Tryz.prog 16 #[.slice a L.length cap] w fun e w' => ∃ g, e = .returned (.tuple #[.map (some g), .nilIface]) /\ w.heap.size <= g /\ RdmO w0 L w' g /\ Below w.heap.size w w' := by
 have hbs := hbs0.below hw0
 have HE := hide (iEnts_yes a cap L w hbs hf.len0)
 have hlen := entsK_len L 40
 have hbl := hbs.2.2.1
 have hmm := @run_makeMap Tryz.prog
 have HBS := hide hbs0
 have HALL := hide (oAll_oL L)
 have HENT : Hid (∀ e ∈ entsK L 40, 1 <= e.1 /\ e.1 <= 40 /\ 288 <= e.2.1 /\ 1 <= e.2.2.1 /\ e.2.2.1 <= 1000 /\ e.2.1 + e.2.2.1 <= L.length /\ 0 <= e.2.2.2 /\ e.2.2.2 <= 15) := hide (fun e he => by
  obtain ⟨j, hj, ht, rfl⟩ := mem_entsP.1 he
  obtain ⟨g1, g2, g3, g4, g5, g6⟩ := hf.ent (h := (j : Int) + 1) (by omega) (by omega) ht
  exact ⟨by show 1 <= (j : Int) + 1; omega, by show (j : Int) + 1 <= 40; omega, g1, g2, g3, g4, g5, g6⟩)
 have hll := hf.len
 generalize entsK L 40 = E at *
 clear hbs hf hbs0 hw0
 go_enter Tryz.func16, Tryz.ntmps16
 go_wp2_with fail
 refine (unhide HE).mono ?_
 rintro e w1 ⟨v1, rfl, hown1, hb1⟩
 obtain ⟨a1, c1, rfl, hsl1⟩ := hown1.sls enC_len (by omega)
 have HS1 := hide hsl1
 have HB1 := hide hb1
 have hsz1 := hb1.size
 clear hown1 hsl1 hb1 HE
 go_wp2_with fail
 go_loopw [8, 20] (fun _ iv wr => ∃ (k : Nat) (F : Int -> Option OV), k <= E.length /\ iv = .int .i64 (k : Int) /\ Mp obM wr w1.heap.size k F /\ Hid (ObF w0 F (oAll L (E.take k))) /\ Below w1.heap.size w1 wr) (fun _ iv _ => E.length - (intOf iv).toNat)
 case atStart => exact ⟨0, fun _ => none, Nat.zero_le _, rfl, Mp.made obM w1, hide (fun k => .inl ⟨rfl, rfl⟩), (Below.refl _ _).alloc (Nat.le_refl _) _⟩
 case round =>
  obtain ⟨k, F, hk, rfl, hmp, HO, hbel⟩ := hrel
  by_cases hlt : k < E.length
  ·obtain ⟨b1, o1, rfl, hc1⟩ := ((unhide HS1).below hbel).2.2.2 (by intro e; rw [e] at hlt; simp at hlt)
   obtain ⟨r, hr⟩ : ∃ r, E[k]? = some r := ⟨E[k], List.getElem?_eq_getElem hlt⟩
   obtain ⟨q0, q1, q2, q3⟩ := Sls.ent (cap := 0) hc1 hr
   obtain ⟨p1, p2, p3, p4, p5, p6, p7, p8⟩ := unhide HENT r (List.mem_of_getElem? hr)
   have HTK : Hid (oAll L (E.take (k + 1)) = oPut L (oAll L (E.take k)) r) := hide (by rw [List.take_add_one, hr]; exact oAll_snoc _ _ _)
   obtain ⟨x, at_, n, t⟩ := r
   dsimp only at *
   obtain ⟨A, rfl⟩ := Int.eq_ofNat_of_zero_le (show 0 <= at_ by omega)
   obtain ⟨N, rfl⟩ := Int.eq_ofNat_of_zero_le (show 0 <= n by omega)
   obtain ⟨a2, hs2, hbs2⟩ := slice_lo (P := Tryz.prog) (t := 22) Tryz.underlying22 (by kernel_rfl) (unhide HBS) A (by omega)
   have hdl : (L.drop A).length = L.length - A := List.length_drop ..
   obtain ⟨a3, hs3, hbs3⟩ := slice_hi (P := Tryz.prog) (t := 22) Tryz.underlying22 (by kernel_rfl) hbs2 N (by omega)
   rw [hdl] at hs3
   have hol : (objE L (x, (A : Int), (N : Int), t)).2 = (L.drop A).take N := by show partL L A N = _; unfold partL; rw [Int.toNat_natCast, Int.toNat_natCast]
   have htl : ((L.drop A).take N).length = N := by rw [List.length_take]; omega
   have HOB : Hid (ObF w0 (updF F x (some (t, a3, N, cap - A))) (oPut L (oAll L (E.take k)) (x, (A : Int), (N : Int), t))) := hide (by
    have := (unhide HO).upd (L := L) (e := (x, (A : Int), (N : Int), t)) (a := a3) (c := cap - A) (by rw [hol]; exact hbs3) (by rw [hol]; intro e; rw [e] at htl; simp at htl; omega) ⟨p7, p8⟩ (by rw [hol, htl]; omega)
    dsimp only at this
    rw [hol, htl] at this
    exact this)
   have hbA : Below wr.heap.size wr (wr.alloc (.cells #[.int .i64 x, .int .i64 (A : Int), .int .i64 (N : Int), .int .i64 t] 60)) := (Below.refl _ _).alloc (Nat.le_refl _) _
   have hev : obM.Eok (t, a3, N, cap - A) := by
    have := ob_eok t hbs3 (by intro e; rw [e] at htl; simp at htl; omega)
    rw [htl] at this
    exact this
   obtain ⟨w2, hst, hm2, htn⟩ := Mp.store (show Mp obM (wr.alloc (.cells #[.int .i64 x, .int .i64 (A : Int), .int .i64 (N : Int), .int .i64 t] 60)).drew w1.heap.size k F from (hmp.below hbA).same rfl) (by unfold maxLen; omega) (k := x) (show -9223372036854775808 <= x /\ x <= 9223372036854775807 by omega) hev
   have hst' : (Instr.mapUpdate 50 (.map (some w1.heap.size)) (.int .i64 x) (.agg #[.int .i64 t, .slice a3 N (cap - A)])).run Tryz.prog (wr.alloc (.cells #[.int .i64 x, .int .i64 (A : Int), .int .i64 (N : Int), .int .i64 t] 60)).drew = .ok () w2 := hst
   have hBA := hbel.trans (hbA.mono hbel.size)
   have HB2 : Hid (Below w1.heap.size w1 w2) := hide (hBA.drew.grown htn.grown hBA.size (fun j hj => by cases hj; exact Nat.le_refl _))
   have HM2 := hide hm2
   have g1 := block_lt_of_cell q0
   have hwl := hmp.lt
   have cc : ∀ j v, (#[Value.int .i64 x, .int .i64 (A : Int), .int .i64 (N : Int), .int .i64 t] : Array Value)[j]? = some v -> (wr.alloc (.cells #[.int .i64 x, .int .i64 (A : Int), .int .i64 (N : Int), .int .i64 t] 60)).cell? ⟨wr.heap.size, j, none⟩ = some v := fun j v hv => by rw [cell_of_row _ _ _ _ _ _ (heap_alloc_new wr _)]; exact hv
   have k0 := cc 0 _ rfl
   have k1 := cc 1 _ rfl
   have k2 := cc 2 _ rfl
   have k3 := cc 3 _ rfl
   have cw : ∀ j v, (wr.alloc (.cells #[.int .i64 x, .int .i64 (A : Int), .int .i64 (N : Int), .int .i64 t] 60)).cell? ⟨wr.heap.size, j, none⟩ = some v -> w2.cell? ⟨wr.heap.size, j, none⟩ = some v := fun j v hv => htn.grown.cell hv (fun e => by have := Option.some.inj e; dsimp only at this; omega)
   have s0 := cw 0 _ k0
   have s1 := cw 1 _ k1
   have s2 := cw 2 _ k2
   have s3 := cw 3 _ k3
   clear hc1 hr hbs2 hbs3 hdl hol htl hev hbA htn hBA hmp hbel hm2 hst cc cw
   go_upto_region 8 with fail
   generalize hwx : wr.alloc (.cells #[.int .i64 x, .int .i64 (A : Int), .int .i64 (N : Int), .int .i64 t] 60) = wx at *
   go_region_held3 (fun w' => w'.cell? ⟨wr.heap.size, 0, none⟩ = some (.int .i64 x) /\ w'.cell? ⟨wr.heap.size, 1, none⟩ = some (.int .i64 (A : Int)) /\ w'.cell? ⟨wr.heap.size, 2, none⟩ = some (.int .i64 (N : Int)) /\ w'.cell? ⟨wr.heap.size, 3, none⟩ = some (.int .i64 t)) (first | exact ⟨s0, s1, s2, s3⟩ | go_keep | (go_split_ands; refine ⟨?_, ?_, ?_, ?_⟩ <;> go_keep))
    (fail)
   clear s0 s1 s2 s3 k0 k1 k2 k3
   go_wp2
   go_roundw
   case rel => exact ⟨k + 1, _, by omega, by go_num, unhide HM2, hide (by rw [unhide HTK]; exact unhide HOB), unhide HB2⟩
   case measure => simp [intOf]; omega
  ·have hkq : E.take k = E := List.take_of_length_le (by omega)
   have HL : Hid (RdmO w0 L wr w1.heap.size) := hide (by
    have ho := unhide HO
    rw [hkq, unhide HALL] at ho
    exact ⟨F, hmp.mono (by omega), ho⟩)
   have HB2 := hide ((unhide HB1).trans (hbel.mono (unhide HB1).size))
   have hge : ¬ ((k : Int) < (E.length : Int)) := by omega
   clear hkq hmp hbel HO
   go_wp2
   go_ret2
   exact ⟨_, rfl, hsz1, unhide HL, unhide HB2⟩
end Go.Proofs.YtifmemombecoaaaGreatDoor
namespace Go.Proofs.YtifmemombecoaaaGreatDoor
open Go.RowKit
set_option linter.unusedVariables false
theorem RdmO.same {w0 W W' : World} {L : List Int} {g : Nat} (h : RdmO w0 L W g) (hs : W'.heap[g]? = W.heap[g]?) : RdmO w0 L W' g := by
 obtain ⟨F, h1, h2⟩ := h
 exact ⟨F, h1.same hs, h2⟩
theorem RdmO.isMap {w0 W : World} {L : List Int} {g : Nat} (h : RdmO w0 L W g) : ∃ es clock, W.heap[g]? = some (.map es clock) := by
 obtain ⟨F, h1, h2⟩ := h
 exact h1.isMap
def RdmsO (w : World) (ims : List IM) (gs : List Nat) (W : World) : Prop := ∀ (i : Nat) x y, ims[i]? = some x -> gs[i]? = some y -> w.heap.size <= y /\ RdmO w x.2.2 W y
set_option maxRecDepth 100000 in
set_option maxHeartbeats 2000000 in
theorem eachO (ims : List IM) (g : Nat) (w : World) (h : Imz w g ims) (hf : ∀ x ∈ ims, Fine x.2.2) (hl : ims.length <= 10) :
  Calls Tryz.prog 15 #[.func (.func 16) #[] #[], .slice (some ⟨g, 0, none⟩) ims.length ims.length] w fun e w' => ∃ v gs, e = .returned (.tuple #[v, .nilIface]) /\ Lst mpC 1 50 w' w.heap.size v gs /\ gs.length = ims.length /\ RdmsO w ims gs w' /\ Below w.heap.size w w' := by
 obtain ⟨i0, hi0, hz0, hz1, hz2⟩ := info_parts info_mpO
 have HI := hide h
 have HF := hide hf
 clear h hf
 go_enter Tryz.func15, Tryz.ntmps15
 go_wp2
 go_loopw [6, 8, 9, 10, 13] (fun v _ _ _ iv wr => ∃ (k : Nat) (gs : List Nat), k <= ims.length /\ gs.length = k /\ iv = .int .i64 (k : Int) /\ Lst mpC 1 50 wr w.heap.size v gs /\ Hid (RdmsO w ims gs wr) /\ Below w.heap.size w wr) (fun _ _ _ _ iv _ => ims.length - (intOf iv).toNat)
 case atStart => exact ⟨0, [], Nat.zero_le _, rfl, rfl, Lst.nil _ _, hide (fun i x y _ hy => by simp at hy), Below.refl _ _⟩
 case round =>
  obtain ⟨k, gs, hk, hgk, rfl, hown, HR, hbel⟩ := hrel
  obtain ⟨va, vm, vc, rfl⟩ := hown.shape
  by_cases hlt : k < ims.length
  ·obtain ⟨x, hx⟩ : ∃ x, ims[k]? = some x := ⟨ims[k], List.getElem?_eq_getElem hlt⟩
   have hxm := List.mem_of_getElem? hx
   have hcell := ((unhide HI).below hbel).cell hx
   have HRD := hide (readO w x.1 x.2.1 x.2.2 wr ((unhide HI).2 x hxm) hbel (unhide HF x hxm))
   have hgl : g < wr.heap.size := Nat.lt_of_lt_of_le (unhide HI).1.lt hbel.size
   have HX := hide hx
   have HOWN := hide hown
   have HBE := hide hbel
   obtain ⟨xa, xc, xl⟩ := x
   unfold imV at hcell
   dsimp only at *
   generalize hxn : xl.length = XN at *
   have HXN := hide hxn
   clear hx hxm hown hbel hxn
   go_wp2_with fail
   refine (unhide HRD).mono ?_
   rintro e w2 ⟨y, rfl, hy, hrd, hb2⟩
   have hB2 : Below w.heap.size w w2 := (unhide HBE).trans (hb2.mono (unhide HBE).size)
   have hb3 : Below w2.heap.size w2 (w2.alloc (.cells #[.map (some y)] 50)) := (Below.refl _ _).alloc (Nat.le_refl _) _
   have HO3 := hide (((unhide HOWN).below hb2).below hb3)
   have HGN : Hid ((w2.alloc (.cells #[.map (some y)] 50)).heap[w2.heap.size]? = some (.cells (mpC y).toArray 50 (0, 0))) := hide (heap_alloc_new _ _)
   have HB3 := hide (hB2.trans (hb3.mono hB2.size))
   have HRD2 := hide hrd
   have HB23 := hide hb3
   have HBW2 := hide hb2
   have hsw := (unhide HBE).size
   have hs2 := hb2.size
   have hyl : y < w2.heap.size := by obtain ⟨es, cl, hm⟩ := hrd.isMap; exact (Array.getElem?_eq_some_iff.1 hm).1
   clear hrd hb2 hB2 hb3 HRD
   go_wp2_with (at_builtin; refine wpList_append_lst2 rfl _ _ 43 rfl w.heap.size i0 (.map none) 8 Tryz.underlying43 hi0 hz0 hz1 hz2 rfl (by decide) (by decide) _ _ rfl (unhide HO3) w2.heap.size y rfl (unhide HGN) rfl (mpC_one _) (by omega) (by simp; omega) ?_)
   intro v9 w9 hown9 hb9 hkeep
   have hsame : ∀ j, j < w2.heap.size -> (∃ es cl, w2.heap[j]? = some (.map es cl)) -> w9.heap[j]? = w2.heap[j]? := fun j hj hm => by
    obtain ⟨es, cl, hm⟩ := hm
    have hm3 := (unhide HB23).block j hj
    refine (hkeep j (by first | omega | (rw [sz_alloc]; omega)) (fun e => ?_)).trans hm3
    rcases (unhide HO3).2 with ⟨e0, _⟩ | ⟨gq, cap, cur, e0, _, hc, _⟩
    ·rw [e0] at e; simp [Value.ownBlock] at e
    ·rw [e0] at e
     simp [Value.ownBlock] at e
     subst e
     rw [hm3, hm] at hc
     cases hc
   have HR9 : Hid (RdmsO w ims (gs ++ [y]) w9) := hide (fun i x' y' hx' hy' => by
    by_cases hi : i < gs.length
    ·rw [List.getElem?_append_left hi] at hy'
     obtain ⟨h1, h2⟩ := unhide HR i x' y' hx' hy'
     obtain ⟨es, cl, hm⟩ := h2.isMap
     have hlt' := (Array.getElem?_eq_some_iff.1 hm).1
     have hs := (unhide HBW2).block y' hlt'
     exact ⟨h1, (h2.same hs).same (hsame y' (by omega) ⟨es, cl, hs.trans hm⟩)⟩
    ·rw [List.getElem?_append_right (by omega)] at hy'
     have hi0 : i - gs.length = 0 := by
      have := (List.getElem?_eq_some_iff.1 hy').1
      simp at this
      omega
     rw [hi0] at hy'
     simp at hy'
     subst hy'
     have hik : i = k := by omega
     subst hik
     have e2 := (unhide HX).symm.trans hx'
     obtain rfl := Option.some.inj e2
     exact ⟨by omega, (unhide HRD2).same (hsame y hyl (unhide HRD2).isMap)⟩)
   have HO9 := hide hown9
   have HB9 := hide ((unhide HB3).trans hb9)
   obtain ⟨a9, m9, c9, rfl⟩ := hown9.shape
   clear hown9 hb9 hkeep hsame HO3 HB3 HGN
   go_wp2
   go_roundw
   case rel => exact ⟨k + 1, gs ++ [y], by omega, by rw [List.length_append, hgk]; rfl, by go_num, unhide HO9, HR9, unhide HB9⟩
   case measure => simp [intOf]; omega
  ·have HO := hide hown
   have HB2 := hide hbel
   have hge : ¬ ((k : Int) < (ims.length : Int)) := by omega
   have HKE : Hid (gs.length = ims.length) := hide (by omega)
   clear hown hbel
   go_wp2
   go_ret2
   first | exact ⟨_, gs, rfl, unhide HO, unhide HKE, unhide HR, unhide HB2⟩ | exact ⟨_, rfl, gs, unhide HO, unhide HKE, unhide HR, unhide HB2⟩
end Go.Proofs.YtifmemombecoaaaGreatDoor
namespace Go.Proofs.YtifmemombecoaaaGreatDoor
open Go.RowKit Go.Shelf
set_option linter.unusedVariables false
def hndL : List Int := (List.range 40).map fun i : Nat => (i : Int) + 1
theorem mem_hndL {k : Int} : k ∈ hndL ↔ 1 <= k /\ k <= 40 := by
 unfold hndL
 rw [List.mem_map]
 constructor
 ·rintro ⟨i, hi, rfl⟩
  have := List.mem_range.1 hi
  omega
 ·intro h
  exact ⟨(k - 1).toNat, List.mem_range.2 (by omega), by omega⟩
theorem hndL_ris : RisI hndL := by
 unfold RisI hndL
 rw [List.pairwise_map]
 exact List.pairwise_lt_range.imp (fun {a b} h => by omega)
theorem hndL_len : hndL.length = 40 := by unfold hndL; rw [List.length_map, List.length_range]
theorem oL_in {L : List Int} {k : Int} (h : oL L k ≠ (-1, [])) : k ∈ hndL := by
 unfold oL at h
 split at h
 ·rename_i hk; exact mem_hndL.2 hk
 ·exact absurd rfl h
theorem ObF.inU {w : World} {F : Int -> Option OV} {L : List Int} (h : ObF w F (oL L)) : ∀ k, (F k).isSome = true -> k ∈ hndL := fun k hk => oL_in ((h.some_iff k).1 hk)
theorem hndL_ok : ∀ k ∈ hndL, obM.kok k := fun k hk => by
 have := mem_hndL.1 hk
 show -9223372036854775808 <= k /\ k <= 9223372036854775807
 omega
theorem ObF.none0 {w : World} {F G : Int -> Option OV} {O Q : Int -> Int × List Int} (hF : ObF w F O) (hG : ObF w G Q) (k : Int) (h1 : F k = none) (h2 : G k = none) : decide (O k = Q k) = true := by
 rcases hF k with ⟨_, e1⟩ | ⟨t, a, c, l, e1, _⟩
 ·rcases hG k with ⟨_, e2⟩ | ⟨t, a, c, l, e2, _⟩
  ·rw [e1, e2]; simp
  ·rw [h2] at e2; cases e2
 ·rw [h1] at e1; cases e1
def mvHs (A B : List Int) : List Int := hndL.filter fun k => !decide (oL A k = oL B k)
theorem ims_two {w : World} {a b : IM} (hA : Bs w a.1 a.2.1 a.2.2) (hB : Bs w b.1 b.2.1 b.2.2) : Imz (w.alloc (.cells #[imV a, imV b] 22)) w.heap.size [a, b] /\ Below w.heap.size w (w.alloc (.cells #[imV a, imV b] 22)) := by
 have hb : Below w.heap.size w (w.alloc (.cells #[imV a, imV b] 22)) := (Below.refl _ _).alloc (Nat.le_refl _) _
 refine ⟨⟨heap_alloc_new w _, fun x hx => ?_⟩, hb⟩
 simp at hx
 rcases hx with rfl | rfl
 ·exact hA.below hb
 ·exact hB.below hb
theorem ckR_zero {l : List (List Int)} (h : ckR l = 0) : ∀ M ∈ l, ckOne M = 0 := by
 induction l with
 | nil => intro M hM; cases hM
 | cons N r ih =>
  unfold ckR at h
  intro M hM
  by_cases e : ckOne N = 0
  ·rw [if_pos e] at h
   rcases List.mem_cons.1 hM with rfl | hM
   ·exact e
   ·exact ih h M hM
  ·rw [if_neg e] at h; exact absurd h e
theorem ckOne_fine {L : List Int} (h : ckOne L = 0) : Fine L := by
 unfold ckOne at h
 by_cases h1 : lenB L.length = false
 ·rw [if_pos h1] at h; cases h
 ·rw [if_neg h1] at h
  have hq : lenB L.length = true := by simpa using h1
  by_cases h2 : chkF L = []
  ·have hl := lenB_iff.1 hq
   refine ⟨by omega, ?_⟩
   unfold chkF at h2
   rw [if_pos hq] at h2
   exact h2
  ·rw [if_neg h2] at h; cases h
theorem ckAll_zero {n : Nat} {l : List IM} (h : ckAll n l = 0) : ∀ x ∈ l, Fine x.2.2 /\ x.2.2.length = n := by
 unfold ckAll at h
 by_cases h1 : ckLen n l = true
 ·rw [if_pos h1] at h; cases h
 ·rw [if_neg h1] at h
  intro x hx
  refine ⟨ckOne_fine (ckR_zero h _ (List.mem_map.2 ⟨x, hx, rfl⟩)), ?_⟩
  refine Classical.byContradiction fun hn => h1 ?_
  unfold ckLen
  exact List.any_eq_true.2 ⟨x, hx, decide_eq_true hn⟩
theorem mvObj (ga gb : Nat) (A B : List Int) (wA W : World) (hA : RdmO wA A W ga) (hB : RdmO wA B W gb) (hW : Below wA.heap.size wA W) :
  Calls Tryz.prog 17 #[.map (some ga), .map (some gb), .func (.func 18) #[] #[]] W fun e w' => ∃ v, e = .returned v /\ Lst inC 1 3 w' W.heap.size v (mvHs A B) /\ Below W.heap.size W w' := by
 obtain ⟨Fa, ha, oa⟩ := hA
 obtain ⟨Fb, hb, ob⟩ := hB
 exact movedO ga gb 40 40 Fa Fb hndL (fun k => decide (oL A k = oL B k)) W ha hb hndL_ris oa.inU ob.inU hndL_ok (by rw [hndL_len]; omega) (by omega) (fun k _ W' hW' => oa.same ob k W' (hW.trans (hW'.mono hW.size))) (fun k _ h1 h2 => oa.none0 ob k h1 h2)
theorem two_of {gs : List Nat} (h : gs.length = 2) : ∃ x y, gs = [x, y] := by
 match gs, h with
 | [x, y], _ => exact ⟨x, y, rfl⟩
set_option maxRecDepth 100000 in
set_option maxHeartbeats 2000000 in
theorem mMoved_any (a b : IM) (w : World) (hA : Bs w a.1 a.2.1 a.2.2) (hB : Bs w b.1 b.2.1 b.2.2) :
  Calls Tryz.prog 7 #[imV a, imV b] w fun e w' => ∃ v, e = .returned (.tuple #[v, errV (ckAll a.2.2.length [a, b])]) /\ Lst inC 1 3 w' w.heap.size v (if ckAll a.2.2.length [a, b] = 0 then mvHs a.2.2 b.2.2 else []) /\ Below w.heap.size w w' := by
 obtain ⟨hi, hb0⟩ := ims_two hA hB
 have HCK : Hid (Calls Tryz.prog 14 #[.slice (some ⟨w.heap.size, 0, none⟩) 2 2] (w.alloc (.cells #[imV a, imV b] 22)) fun e w' => e = .returned (errV (ckAll a.2.2.length [a, b])) /\ Below (w.alloc (.cells #[imV a, imV b] 22)).heap.size (w.alloc (.cells #[imV a, imV b] 22)) w') := hide (ckAll_any w.heap.size [a, b] a _ hi rfl (by show 2 <= 10; omega))
 have HB0 := hide hb0
 have HFI := hide (fun h => ckAll_zero (n := a.2.2.length) (l := [a, b]) h)
 have HE := hide (fun (W : World) (hW : Below w.heap.size w W) (hf : ∀ x ∈ [a, b], Fine x.2.2 /\ x.2.2.length = a.2.2.length) => show Calls Tryz.prog 15 #[.func (.func 16) #[] #[], .slice (some ⟨W.heap.size, 0, none⟩) 2 2] (W.alloc (.cells #[imV a, imV b] 22)) _ from eachO [a, b] W.heap.size _ (ims_two (hA.below hW) (hB.below hW)).1 (fun x hx => (hf x hx).1) (by show 2 <= 10; omega))
 have HBI := hide (fun (W : World) (hW : Below w.heap.size w W) => (ims_two (hA.below hW) (hB.below hW)).2)
 generalize ckAll a.2.2.length [a, b] = C at *
 clear hi hb0 hA hB
 by_cases hC : C = 0
 ·subst hC
  rw [if_pos rfl]
  rw [errV_zero] at *
  have HFI2 := hide (unhide HFI rfl)
  obtain ⟨aa, ac, al⟩ := a
  obtain ⟨ba, bc, bl⟩ := b
  unfold imV at *
  dsimp only at *
  clear HFI
  go_enter Tryz.func7, Tryz.ntmps7
  go_wp2_with fail
  refine (unhide HCK).mono ?_
  rintro e w1 ⟨rfl, hb1⟩
  have hB1 : Below w.heap.size w w1 := (unhide HB0).trans (hb1.mono (unhide HB0).size)
  have HE1 := hide (unhide HE w1 hB1 (unhide HFI2))
  have hB1a := unhide HBI w1 hB1
  have HB1a := hide hB1a
  have HB1 := hide hB1
  clear hb1 hB1 hB1a HCK HE HBI HB0 HFI2
  go_wp2_with fail
  refine (unhide HE1).mono ?_
  rintro e w2 ⟨v2, gs, rfl, hL2, hgl2, hrd2, hb2⟩
  obtain ⟨g0, g1, rfl⟩ := two_of hgl2
  obtain ⟨a2, c2, rfl, hsl2⟩ := hL2.sls mpC_len (by show 2 <= _; omega)
  obtain ⟨b2, o2, rfl, hc2⟩ := hsl2.2.2.2 (by simp)
  have k0 : w2.cell? ⟨b2, o2, none⟩ = some (.map (some g0)) := by have := hc2 0 g0 rfl 0 _ rfl; simpa using this
  have k1 : w2.cell? ⟨b2, o2 + 1, none⟩ = some (.map (some g1)) := by have := hc2 1 g1 rfl 0 _ rfl; simpa using this
  have kl := block_lt_of_cell k0
  have r0 := (hrd2 0 _ _ rfl rfl).2
  have r1 := (hrd2 1 _ _ rfl rfl).2
  dsimp only at r0 r1
  have hB2 : Below w.heap.size w w2 := ((unhide HB1).trans ((unhide HB1a).mono (unhide HB1).size)).trans (hb2.mono (Nat.le_trans (unhide HB1).size (unhide HB1a).size))
  have HMV : Hid (Calls Tryz.prog 17 #[.map (some g0), .map (some g1), .func (.func 18) #[] #[]] w2.drew fun e w' => (∃ v, e = .returned v /\ Lst inC 1 3 w' w.heap.size v (mvHs al bl) /\ Below w.heap.size w w') /\ w'.cell? ⟨b2, o2, none⟩ = some (.map (some g0)) /\ w'.cell? ⟨b2, o2 + 1, none⟩ = some (.map (some g1))) := hide (by
   have hd : Below w2.heap.size w2 w2.drew := (Below.refl _ _).drew
   refine (mvObj g0 g1 al bl _ w2.drew (r0.same rfl) (r1.same rfl) (hb2.trans (hd.mono hb2.size))).mono ?_
   rintro e w' ⟨v, rfl, h1, h2⟩
   have h3 : Below w2.heap.size w2 w' := hd.trans h2
   exact ⟨⟨v, rfl, Lst.lowM h1 hB2.size, hB2.trans (h3.mono hB2.size)⟩, (h3.cell (p := ⟨b2, o2, none⟩) kl).trans k0, (h3.cell (p := ⟨b2, o2 + 1, none⟩) kl).trans k1⟩)
  clear hL2 hgl2 hrd2 hb2 hsl2 hc2 r0 r1 hB2 HE1 HB1 HB1a
  go_upto_region 7 with fail
  go_region_held3 (fun w' => w'.cell? ⟨b2, o2, none⟩ = some (.map (some g0)) /\ w'.cell? ⟨b2, o2 + 1, none⟩ = some (.map (some g1))) (first | go_keep | (go_split_ands; refine ⟨?_, ?_⟩ <;> go_keep))
   ((go_at_call 17; refine (unhide HMV).mono ?_; rintro e w3 ⟨⟨v3, rfl, hl3, hb3⟩, t0, t1⟩))
  have HL3 := hide hl3
  have HB3 := hide hb3
  clear hl3 hb3 t0 t1 k0 k1 HMV
  go_wp2
  go_ret2
  exact ⟨_, rfl, unhide HL3, unhide HB3⟩
 ·rw [if_neg hC]
  rw [errV_pos _ hC] at *
  clear HFI HE HBI
  unfold imV at *
  go_enter Tryz.func7, Tryz.ntmps7
  go_wp2_with fail
  refine (unhide HCK).mono ?_
  rintro e w1 ⟨rfl, hb1⟩
  have HB1 := hide ((unhide HB0).trans (hb1.mono (unhide HB0).size))
  clear hb1 HCK HB0
  go_wp2
  go_ret2
  exact ⟨_, rfl, Lst.nil _ _, unhide HB1⟩
end Go.Proofs.YtifmemombecoaaaGreatDoor
namespace Go.Proofs.YtifmemombecoaaaGreatDoor
open Go.RowKit
set_option linter.unusedVariables false
def pkT (N : Nat) (O : Int -> Int × List Int) (S : Int × Nat × List Int) (k : Int) : Int × Nat × List Int :=
 if S.1 ≠ 0 then S else if N < S.2.1 + (O k).2.length then (4, 0, []) else (0, S.2.1 + (O k).2.length, pk1 S.2.2 S.2.1 k (O k).1 (O k).2)
def pkF (N : Nat) (O : Int -> Int × List Int) (ks : List Int) : Int × Nat × List Int := ks.foldl (pkT N O) (0, 288, zerosB N)
theorem pkF_snoc (N : Nat) (O : Int -> Int × List Int) (ks : List Int) (k : Int) : pkF N O (ks ++ [k]) = pkT N O (pkF N O ks) k := by
 unfold pkF
 rw [List.foldl_append]
 rfl
theorem pkF_next {N : Nat} {O : Int -> Int × List Int} {ks : List Int} {j : Nat} {k : Int} (h : ks[j]? = some k) : pkF N O (ks.take (j + 1)) = pkT N O (pkF N O (ks.take j)) k := by
 rw [List.take_add_one, h]
 exact pkF_snoc N O _ k
theorem pkT_stick {N : Nat} {O : Int -> Int × List Int} : ∀ (ks : List Int) (S : Int × Nat × List Int), S.1 ≠ 0 -> ks.foldl (pkT N O) S = S
 | [], S, h => rfl
 | k :: r, S, h => by
  show r.foldl (pkT N O) (pkT N O S k) = S
  have e : pkT N O S k = S := by unfold pkT; rw [if_pos h]
  rw [e]
  exact pkT_stick r S h
theorem pkF_stick {N : Nat} {O : Int -> Int × List Int} {ks : List Int} {j : Nat} (h : (pkF N O (ks.take j)).1 ≠ 0) : pkF N O ks = pkF N O (ks.take j) := by
 have e : pkF N O ks = (ks.drop j).foldl (pkT N O) (pkF N O (ks.take j)) := by
  unfold pkF
  rw [<- List.foldl_append, List.take_append_drop]
 rw [e, pkT_stick _ _ h]
def upH (K : Nat) : List Int := (List.range K).map fun i : Nat => (i : Int) + 1
theorem upH_succ (K : Nat) : upH (K + 1) = upH K ++ [(K : Int) + 1] := by
 unfold upH
 rw [List.range_succ, List.map_append]
 rfl
theorem pkS_pkF (N : Nat) (O : Int -> Int × List Int) : ∀ K : Nat, pkS N O K = pkF N O ((upH K).filter fun k => decide (0 <= (O k).1))
 | 0 => rfl
 | K + 1 => by
  have ih := pkS_pkF N O K
  rw [upH_succ, List.filter_append]
  have eS : pkS N O (K + 1) = if (pkS N O K).1 ≠ 0 then pkS N O K else if (O ((K : Int) + 1)).1 < 0 then pkS N O K
   else if N < (pkS N O K).2.1 + (O ((K : Int) + 1)).2.length then (4, 0, [])
   else (0, (pkS N O K).2.1 + (O ((K : Int) + 1)).2.length, pk1 (pkS N O K).2.2 (pkS N O K).2.1 ((K : Int) + 1) (O ((K : Int) + 1)).1 (O ((K : Int) + 1)).2) := rfl
  by_cases h : 0 <= (O ((K : Int) + 1)).1
  ·have e1 : ([(K : Int) + 1].filter fun k => decide (0 <= (O k).1)) = [(K : Int) + 1] := by simp [h]
   rw [e1, pkF_snoc, <- ih, eS]
   unfold pkT
   rw [if_neg (show ¬ (O ((K : Int) + 1)).1 < 0 by omega)]
  ·have e1 : ([(K : Int) + 1].filter fun k => decide (0 <= (O k).1)) = [] := by simp [h]
   rw [e1, List.append_nil, <- ih, eS]
   rw [if_pos (show (O ((K : Int) + 1)).1 < 0 by omega)]
   split <;> rfl
theorem pkS_hndL (N : Nat) (O : Int -> Int × List Int) : pkS N O 40 = pkF N O (hndL.filter fun k => decide (0 <= (O k).1)) := pkS_pkF N O 40
theorem pkF_ok {N : Nat} (h1 : 288 <= N) (h2 : N <= 6400) {O : Int -> Int × List Int} (hO : ObjsOk O) {ks : List Int} (hk : ∀ k ∈ ks, 1 <= k /\ k <= 40 /\ 0 <= (O k).1) (hn : ks.Pairwise (· < ·)) :
  ∀ j : Nat, j <= ks.length -> (pkF N O (ks.take j)).1 = 0 -> Pk N (pkF N O (ks.take j)).2.2 (pkF N O (ks.take j)).2.1 /\ ∀ h : Int, 1 <= h -> h <= 40 -> h ∉ ks.take j -> tagAt (pkF N O (ks.take j)).2.2 h = 0
 | 0, _, _ => by
  obtain ⟨z1, z2, z3⟩ := zeros_fine (n := N) h1 h2
  rw [List.take_zero]
  exact ⟨Pk.start h1 h2, fun h _ _ _ => z2 h⟩
 | j + 1, hj, h0 => by
  obtain ⟨k, hkj⟩ : ∃ k, ks[j]? = some k := ⟨ks[j], List.getElem?_eq_getElem (by omega)⟩
  have hnx := pkF_next (N := N) (O := O) hkj
  have ht1 : ks.take (j + 1) = ks.take j ++ [k] := by rw [List.take_add_one, hkj]; rfl
  rw [hnx] at h0 ⊢
  obtain ⟨g1, g2, g3⟩ := hk k (List.mem_of_getElem? hkj)
  by_cases e0 : (pkF N O (ks.take j)).1 = 0
  ·obtain ⟨i1, i2⟩ := pkF_ok h1 h2 hO hk hn j (by omega) e0
   have hnot : k ∉ ks.take j := fun hm => by
    obtain ⟨i, hi⟩ := List.mem_iff_getElem?.1 hm
    have hil := (List.getElem?_eq_some_iff.1 hi).1
    rw [List.length_take] at hil
    rw [List.getElem?_take, if_pos (by omega)] at hi
    have hlt : ks[i]'(by omega) < ks[j]'(by omega) := List.pairwise_iff_getElem.1 hn i j (by omega) (by omega) (by omega)
    obtain ⟨_, e1⟩ := List.getElem?_eq_some_iff.1 hi
    obtain ⟨_, e2⟩ := List.getElem?_eq_some_iff.1 hkj
    omega
   generalize pkF N O (ks.take j) = S at *
   unfold pkT at h0 ⊢
   rw [if_neg (fun h => h e0)] at h0 ⊢
   by_cases hf : N < S.2.1 + (O k).2.length
   ·rw [if_pos hf] at h0; cases h0
   ·rw [if_neg hf] at h0 ⊢
    rcases hO k g1 g2 with hz | ⟨q1, q2, q3, q4, q5⟩
    ·rw [hz] at g3; exact absurd g3 (by decide)
    obtain ⟨p1, p2, p3, p4⟩ := i1.next q5 (h := k) (t := (O k).1) g1 g2 (i2 k g1 g2 hnot) q1 q2 q3 q4 (by omega)
    refine ⟨p1, fun h a b hh => ?_⟩
    have hne : h ≠ k := fun e => hh (by rw [ht1, e]; simp)
    dsimp only
    rw [(p3 h a b hne).2]
    exact i2 h a b (fun hm => hh (by rw [ht1]; simp [hm]))
  ·exfalso
   unfold pkT at h0
   rw [if_pos e0] at h0
   exact e0 h0
theorem pkT_full {N : Nat} {O : Int -> Int × List Int} {S : Int × Nat × List Int} {k : Int} (h : S.1 = 0) (hf : N < S.2.1 + (O k).2.length) : pkT N O S k = (4, 0, []) := by
 unfold pkT
 rw [if_neg (fun x => x h), if_pos hf]
theorem pkT_room {N : Nat} {O : Int -> Int × List Int} {S : Int × Nat × List Int} {k : Int} (h : S.1 = 0) (hf : ¬ N < S.2.1 + (O k).2.length) : pkT N O S k = (0, S.2.1 + (O k).2.length, pk1 S.2.2 S.2.1 k (O k).1 (O k).2) := by
 unfold pkT
 rw [if_neg (fun x => x h), if_neg hf]
theorem pk_put {N a : Nat} {out : List Int} (o : Pk N out a) {h t : Int} {n : Nat} (h1 : 1 <= h) (h2 : h <= 40) (h4 : 0 <= t) (h5 : t <= 15) (h6 : 1 <= n) (h7 : n <= 1000) (h9 : a + n <= N) : putE out (h, (a : Int), (n : Int), t) = 0 := by
 have hlo := o.lo
 have hlen := o.len
 exact putE_zero.2 ⟨o.fine.len0, hndB_iff.2 ⟨h1, h2⟩, h4, h5, by dsimp only; omega, by dsimp only; omega, by dsimp only; omega, by dsimp only; omega⟩
theorem below_dN {B : Nat} {a w : World} (h : Below B a w) (q : Nat) : Below B a (w.drewN q) := ⟨h.os, h.tape, h.output, h.size, h.block⟩
theorem hndL_keys {w : World} {F : Int -> Option OV} {O : Int -> Int × List Int} (hF : ObF w F O) : (hndL.filter fun k => (F k).isSome) = hndL.filter fun k => decide (0 <= (O k).1) := by
 refine List.filter_congr (fun k _ => ?_)
 rcases hF k with ⟨h1, h2⟩ | ⟨t, a, c, l, h1, h2, h3, h4, h5, h6⟩
 ·rw [h1, h2]; rfl
 ·rw [h1, h2, decide_eq_true h5]; rfl
set_option maxRecDepth 100000 in
set_option maxHeartbeats 4000000 in
theorem withObj_any (a : Option Addr) (cap N g n : Nat) (F : Int -> Option OV) (O : Int -> Int × List Int) (w0 w : World) (hb : Bs w a cap (zerosB N)) (hN : 288 <= N /\ N <= 6400) (hm : Mp obM w g n F) (hO : ObF w0 F O) (hw : Below w0.heap.size w0 w) (hin : ∀ k, (F k).isSome = true -> k ∈ hndL) (hok : ObjsOk O) :
  Calls Tryz.prog 62 #[.slice a N cap, .map (some g)] w (Ends w (pkS N O 40).2.2 (errV (pkS N O 40).1)) := by
 have HR := hide (risingO g n F hndL w hm hndL_ris hin (by rw [hndL_len]; omega))
 rw [hndL_keys hO] at HR
 have hkr : (hndL.filter fun k => decide (0 <= (O k).1)).Pairwise (· < ·) := List.Pairwise.filter _ hndL_ris
 have hkm : ∀ k ∈ (hndL.filter fun k => decide (0 <= (O k).1)), 1 <= k /\ k <= 40 /\ 0 <= (O k).1 := fun k hk => by
  obtain ⟨h1, h2⟩ := List.mem_filter.1 hk
  have := mem_hndL.1 h1
  exact ⟨this.1, this.2, of_decide_eq_true h2⟩
 have hkl : (hndL.filter fun k => decide (0 <= (O k).1)).length <= 40 := Nat.le_trans (List.length_filter_le _ _) (by rw [hndL_len]; omega)
 rw [pkS_hndL]
 generalize (hndL.filter fun k => decide (0 <= (O k).1)) = ks at *
 have HOK := hide (pkF_ok hN.1 hN.2 hok hkm hkr)
 have HKM := hide hkm
 have HNX := hide (fun (j : Nat) (k : Int) (h : ks[j]? = some k) => pkF_next (N := N) (O := O) h)
 have HST := hide (fun (j : Nat) (h : (pkF N O (ks.take j)).1 ≠ 0) => pkF_stick h)
 have HEND : Hid (pkF N O (ks.take ks.length) = pkF N O ks) := hide (by rw [List.take_length])
 have HM := hide hm
 have HO := hide hO
 have HOO := hide hok
 have HW := hide hw
 have HS0 : Hid (pkF N O (ks.take 0) = (0, 288, zerosB N)) := hide (by rw [List.take_zero]; rfl)
 have HBS := hide hb
 have hgl := hm.lt
 clear hm hO hw hin hok hkr hkm hb
 go_enter Tryz.func62, Tryz.ntmps62
 go_wp2_with fail
 refine (unhide HR).mono ?_
 rintro e w1 ⟨v1, rfl, hl1, hb1⟩
 obtain ⟨a1, c1, rfl, hsl1⟩ := hl1.sls inC_len (by omega)
 have HS1 := hide hsl1
 have HB1 := hide hb1
 have hcl := hsl1.2.2.1
 clear hl1 hsl1 hb1 HR
 go_wp2_with fail
 go_loopw [0, 6, 8, 9, 10, 11, 15] (fun bv av _ _ _ _ iv wr => ∃ (k : Nat) (a' : Option Addr) (c' At : Nat), k <= ks.length /\ bv = .slice a' N c' /\ av = .int .i64 (At : Int) /\ iv = .int .i64 (k : Int) /\ Hid ((pkF N O (ks.take k)).2.1 = At) /\ Hid ((pkF N O (ks.take k)).1 = 0) /\ Bs wr a' c' (pkF N O (ks.take k)).2.2 /\ Below w1.heap.size w1 wr) (fun _ _ _ _ _ _ iv _ => ks.length - (intOf iv).toNat)
 case atStart => exact ⟨0, a, cap, 288, Nat.zero_le _, rfl, rfl, rfl, hide (by rw [unhide HS0]), hide (by rw [unhide HS0]), by rw [unhide HS0]; exact (unhide HBS).below (unhide HB1), Below.refl _ _⟩
 case round =>
  obtain ⟨k, a', c', At, hk, rfl, rfl, rfl, HAT, H0, hbs, hbel⟩ := hrel
  by_cases hlt : k < ks.length
  ·obtain ⟨b1, o1, rfl, hc1⟩ := ((unhide HS1).below hbel).2.2.2 (by intro e; rw [e] at hlt; simp at hlt)
   obtain ⟨x, hx⟩ : ∃ x, ks[k]? = some x := ⟨ks[k], List.getElem?_eq_getElem hlt⟩
   have q0 : wr.cell? ⟨b1, o1 + k, none⟩ = some (.int .i64 x) := by have := hc1 k x hx 0 _ rfl; rwa [Nat.mul_one, Nat.add_zero] at this
   obtain ⟨x1, x2, x3⟩ := unhide HKM x (List.mem_of_getElem? hx)
   obtain ⟨pk, _⟩ := unhide HOK k hk (unhide H0)
   have hnx := unhide HNX k x hx
   have HSTK := hide (fun h => unhide HST (k + 1) h)
   have hlo := pk.lo
   have hplen := pk.len
   rw [unhide HAT] at pk hlo
   have hB1 : Below w.heap.size w wr := (unhide HB1).trans (hbel.mono (unhide HB1).size)
   have hmw := (unhide HM).below hB1
   rcases unhide HO x with ⟨f1, f2⟩ | ⟨t, oa, oc, bl, f1, f2, f3, f4, f5, f6, f7⟩
   ·rw [f2] at x3; exact absurd x3 (by decide)
   have hlk := hmw.look (k := x) (show -9223372036854775808 <= x /\ x <= 9223372036854775807 by omega)
   rw [f1] at hlk
   replace hlk : (Instr.lookup 50 (.map (some g)) (.int .i64 x) false).run Tryz.prog wr = .ok (.agg #[.int .i64 t, .slice oa bl.length oc]) wr := hlk
   have hfo : Bs wr oa oc bl := (f3.below (unhide HW)).below hB1
   have hblp : 1 <= bl.length := by cases bl with | nil => exact absurd rfl f4 | cons y r => simp
   have hfull := pkT_full (N := N) (O := O) (S := pkF N O (ks.take k)) (k := x) (unhide H0)
   have hroom := pkT_room (N := N) (O := O) (S := pkF N O (ks.take k)) (k := x) (unhide H0)
   rw [f2, unhide HAT] at hfull hroom
   dsimp only at hfull hroom
   have HNX1 := hide hnx
   have HFULL := hide hfull
   have HROOM := hide hroom
   have HOEQ := hide f2
   have hBA : Below wr.heap.size wr (wr.alloc (.cells #[.int .i64 t, .slice oa bl.length oc] 47)) := (Below.refl _ _).alloc (Nat.le_refl _) _
   have g1 := block_lt_of_cell q0
   have hmlt := hmw.lt
   have hen := heap_alloc_new wr (.cells #[.int .i64 t, .slice oa bl.length oc] 47)
   have HEN := hide hen
   have HFO := hide (hfo.below hBA)
   have HBA := hide (hbel.trans (hBA.mono hbel.size))
   generalize pkF N O (ks.take k) = S at *
   have HBN := hide f4
   by_cases hfit : N < At + bl.length
   ·have HPE : Hid (pkF N O ks = (4, 0, [])) := hide (by
     have h1 : pkF N O (ks.take (k + 1)) = (4, 0, []) := (unhide HNX1).trans (unhide HFULL hfit)
     rw [unhide HSTK (by rw [h1]; decide), h1])
    have hgt : ((N : Int) - (At : Int)) < (bl.length : Int) := by omega
    have HB3 : Hid (Below w.heap.size w (wr.alloc (.cells #[.int .i64 t, .slice oa bl.length oc] 47))) := hide (hB1.trans (hBA.mono hB1.size))
    generalize bl.length = BN at *
    clear hc1 hx pk hnx hmw f1 f2 f3 f4 hfo hfull hroom hBA hen hbs hbel hB1 HFO HBA HBN HNX1 HFULL HROOM HSTK HOEQ
    go_wp2
    go_ret2
    rw [unhide HPE]
    exact ⟨none, 0, rfl, bs_nil _, unhide HB3⟩
   ·have hput := pk_put pk (h := x) (t := t) (n := bl.length) x1 x2 f5 f6 hblp f7 (by omega)
    have HPUT := hide (iPut_row a' c' S.2.2 x At bl.length t _ (hbs.below hBA) hput)
    rw [hplen] at HPUT
    have e4 : putL S.2.2 (x, (At : Int), (bl.length : Int), t) = splice S.2.2 (plc x) (rowE (x, (At : Int), (bl.length : Int), t)) := by unfold putL; rw [if_pos hput]
    have hpx := plc_le x1 x2
    have hLS : (splice S.2.2 (plc x) (rowE (x, (At : Int), (bl.length : Int), t))).length = N := by rw [length_splice (by show plc x + 5 <= _; omega)]; exact hplen
    have hby1 : Byt (splice S.2.2 (plc x) (rowE (x, (At : Int), (bl.length : Int), t))) := byt_splice pk.byt (byt_rowE _)
    have HLS := hide hLS
    have HNEW : Hid (pkF N O (ks.take (k + 1)) = (0, At + bl.length, splice (splice S.2.2 (plc x) (rowE (x, (At : Int), (bl.length : Int), t))) At bl)) := hide (by
     rw [unhide HNX1, unhide HROOM hfit]
     unfold pk1
     rw [e4])
    have HBY : Hid (Byt (splice (splice S.2.2 (plc x) (rowE (x, (At : Int), (bl.length : Int), t))) At bl)) := hide (byt_splice hby1 hfo.1)
    have HLEN : Hid ((splice (splice S.2.2 (plc x) (rowE (x, (At : Int), (bl.length : Int), t))) At bl).length = N) := hide (by rw [length_splice (by omega)]; exact hLS)
    have hgt : ¬ ((N : Int) - (At : Int)) < (bl.length : Int) := by omega
    have hXB : At + bl.length <= N := by omega
    have hbl2 : bl.length <= 1000 := f7
    clear hc1 hx pk hnx hmw f1 f2 f3 f4 hfo hfull hroom hBA hen hbs hbel hB1 HNX1 HFULL HROOM HSTK hput e4 hLS hby1 hfit
    go_wp2_with fail
    refine (unhide HPUT).mono ?_
    rintro e w2 ⟨g2, c2, cur2, rfl, hrow2, hB2⟩
    rw [unhide HLS]
    have hen2 := (hB2.block wr.heap.size (by simp)).trans (unhide HEN)
    have t0 : w2.cell? ⟨wr.heap.size, 0, none⟩ = some (.int .i64 t) := by rw [cell_of_row _ _ _ _ _ _ hen2]; rfl
    have t1 : w2.cell? ⟨wr.heap.size, 1, none⟩ = some (.slice oa bl.length oc) := by rw [cell_of_row _ _ _ _ _ _ hen2]; rfl
    have hlc := hrow2.2.2.1
    rw [unhide HLS] at hlc
    have hcut := cut_row (P := Tryz.prog) Tryz.underlying22 size_u8 g2 c2 N At (by omega) hlc (by omega)
    have hrowd : Row w2.drew _ g2 c2 cur2 _ := hrow2.below (below_drew (Below.refl _ _))
    have hcp : ∀ ty, Sem.run Tryz.prog (Builtin.copy_ #[22, 22] ty #[.slice (some ⟨g2, At, none⟩) (N - At) (c2 - At), .slice oa bl.length oc]) w2.drew = .ok (.int .i64 bl.length) (laidW w2.drew g2 cur2 At bl) :=
     fun ty => run_copy_laid w2.drew _ _ ty Tryz.underlying22 size_u8 _ g2 At _ _ c2 cur2 oa oc _ bl (by omega) (unhide HBN) (by rw [unhide HLS]; exact hXB) hrowd (((unhide HFO).below hB2).below (below_drew (Below.refl _ _)))
    have hrow3 := laidW_row hrowd (show At + bl.length <= _ by rw [unhide HLS]; exact hXB)
    have HBS3 := hide (hrow3.bs (unhide HBY) (by rw [unhide HLEN]; omega))
    have hg2 : wr.heap.size + 1 <= g2 := by have := hrow2.1; rw [sz_alloc] at this; exact this
    have HB3 := hide (laidW_below (cur := cur2) (l := bl) (off := At) (below_drew ((unhide HBA).trans (hB2.mono (unhide HBA).size))) (Nat.le_trans (unhide HBA).size hrow2.1))
    have hb3 : Below (wr.heap.size + 1) w2 (laidW w2.drew g2 cur2 At bl) := laidW_below (below_drew (Below.refl _ _)) hg2
    have u1 : (laidW w2.drew g2 cur2 At bl).cell? ⟨wr.heap.size, 1, none⟩ = some (.slice oa bl.length oc) := (hb3.cell (p := ⟨wr.heap.size, 1, none⟩) (by show wr.heap.size < _; omega)).trans t1
    have HCP := hide hcp
    have e0 : (0 : Int) <= (At : Int) := by omega
    have e1 : (At : Int) <= (N : Int) := by omega
    clear hcp hrow3 hrowd hrow2 hB2 hen2 hlc HPUT HFO HBA HEN HLS q0 hb3 hg2
    generalize laidW w2.drew g2 cur2 At bl = w3 at *
    generalize hBNN : bl.length = BN at *
    have HBNN := hide hBNN
    clear hBNN
    go_upto_region 11 with fail
    go_region_law (refine step_copy_run (by rfl) (.tmp 50) (.tmp 52) 22 22 (by rfl) (.slice (some ⟨g2, At, none⟩) (N - At) (c2 - At)) (.slice oa BN oc) (by rfl) (by rfl) (.int .i64 BN) w3 (unhide HCP _) ?_)
    all_goals
     go_upto_region 12 with fail
     go_quiet (fail)
     go_wp2
     go_roundw
     case rel => exact ⟨k + 1, _, _, At + BN, by omega, rfl, by go_num, by go_num, hide (by rw [unhide HNEW]), hide (by rw [unhide HNEW]), by rw [unhide HNEW]; exact unhide HBS3, below_dN (unhide HB3) _⟩
     case measure => simp [intOf]; omega
  ·have hkq : k = ks.length := by omega
   have HPE : Hid (Bs wr a' c' (pkF N O ks).2.2 /\ (pkF N O ks).1 = 0 /\ (pkF N O ks).2.2.length = N) := hide (by
    have h0 := unhide H0
    have h1 := (unhide HOK k hk h0).1.len
    rw [hkq, unhide HEND] at hbs h0 h1
    exact ⟨hbs, h0, h1⟩)
   have HB2 := hide ((unhide HB1).trans (hbel.mono (unhide HB1).size))
   have hge : ¬ ((k : Int) < (ks.length : Int)) := by omega
   clear hkq hbs hbel HAT H0
   go_wp2
   go_ret2
   obtain ⟨p1, p2, p3⟩ := unhide HPE
   rw [p2, errV_zero]
   exact ⟨a', c', by rw [p3]; rfl, p1, unhide HB2⟩
theorem rtP_snoc : ∀ (A : List (ByteArray × Int)) (out : List Int) (i : Nat) (r : (ByteArray × Int)), rtP out (A ++ [r]) i = prL (rtP out A i) ((i + A.length : Nat) : Int) r
 | [], out, i, r => rfl
 | q :: A, out, i, r => by
  show rtP (prL out i q) (A ++ [r]) (i + 1) = _
  rw [rtP_snoc A (prL out i q) (i + 1) r]
  show prL (rtP (prL out i q) A (i + 1)) _ r = prL (rtP (prL out i q) A (i + 1)) _ r
  rw [List.length_cons, show i + 1 + A.length = i + (A.length + 1) by omega]
theorem rtP_next {R : List (ByteArray × Int)} {j : Nat} {r : (ByteArray × Int)} (out : List Int) (h : R[j]? = some r) : rtP out (R.take (j + 1)) 0 = prL (rtP out (R.take j) 0) (j : Int) r := by
 have hj := (List.getElem?_eq_some_iff.1 h).1
 rw [List.take_add_one, h]
 show rtP out (R.take j ++ [r]) 0 = _
 rw [rtP_snoc, List.length_take, Nat.min_eq_left (by omega), Nat.zero_add]
def PutsR (N : Nat) (out : List Int) (R : List (ByteArray × Int)) : Prop := ∀ (j : Nat), j <= R.length -> (rtP out (R.take j) 0).length = N /\ ∀ r, R[j]? = some r -> prE (rtP out (R.take j) 0) (j : Int) r = 0 /\ r.1.size <= 8
set_option maxRecDepth 100000 in
set_option maxHeartbeats 2000000 in
theorem withRoots_any (a : Option Addr) (cap g n N : Nat) (out : List Int) (F : ByteArray -> Option Int) (U : List ByteArray) (w : World) (hb : Bs w a cap out) (hN : out.length = N) (hm : Mp leM w g n F) (hU : Ris U) (hin : ∀ k, (F k).isSome = true -> k ∈ U) (hn : U.length <= 1000) (R : List (ByteArray × Int)) (hR : R = (U.filter fun k => (F k).isSome).map fun s => (s, (F s).getD 0)) (hput : R.length <= 8 -> PutsR N out R) :
  Calls Tryz.prog 63 #[.slice a N cap, .map (some g)] w (Ends w (if 8 < R.length then [] else rtP out R 0) (errV (if 8 < R.length then 4 else 0))) := by
 have HR := hide (risingS g n F U w hm hU hin hn)
 have HM := hide hm
 obtain ⟨D, hown, hD⟩ := hm
 have hm2 : ∀ k, k ∈ (U.filter fun k => (F k).isSome) ↔ (F k).isSome = true := fun k => by
  rw [List.mem_filter]
  exact ⟨fun h => h.2, fun h => ⟨hin k h, h⟩⟩
 have hsz : Maps.size D = (U.filter fun k => (F k).isSome).length := sizeS hown (keysOfS (F := F) hown (fun k => (hD k).1) (List.Pairwise.filter _ hU) hm2)
 have hgl := hown.lt
 have hown' : w.ownsMap Tryz.prog 9 inR g n D := hown
 have hlk : (U.filter fun k => (F k).isSome).length <= 1000 := Nat.le_trans (List.length_filter_le _ _) hn
 have HRE := hide hR
 have hRl : R.length = (U.filter fun k => (F k).isSome).length := by rw [hR, List.length_map]
 have HBS := hide hb
 have HPT := hide hput
 clear hD hm2 hR hown hin hU
 generalize (U.filter fun k => (F k).isSome) = ks at *
 by_cases h8 : 8 < R.length
 ·rw [if_pos h8, if_pos h8, errV_pos 4 (by decide)]
  have hgt : (8 : Int) < (ks.length : Int) := by omega
  generalize ks.length = KN at *
  clear HR HM HRE HBS HPT
  go_enter Tryz.func63, Tryz.ntmps63
  go_wp2_with (at_len; refine wpList_len_own _ rfl _ 75 rfl 9 3 Tryz.underlying75 _ g n D rfl hown' ?_; rw [hsz])
  go_ret2
  exact ⟨none, 0, rfl, bs_nil _, Below.refl _ _⟩
 ·rw [if_neg h8, if_neg h8, errV_zero]
  have hgt : ¬ (8 : Int) < (ks.length : Int) := by omega
  have HP := hide (unhide HPT (by omega))
  have hks8 : ks.length <= 8 := by omega
  have HRT : Hid (∀ (j : Nat) s, ks[j]? = some s -> R[j]? = some (s, (F s).getD 0)) := hide (fun j s hs => by rw [unhide HRE, List.getElem?_map, hs]; rfl)
  have HNX := hide (fun (j : Nat) (r : (ByteArray × Int)) (h : R[j]? = some r) => rtP_next out h)
  have HE : Hid (rtP out (R.take R.length) 0 = rtP out R 0) := hide (by rw [List.take_length])
  have HST : Hid (rtP out (R.take 0) 0 = out) := hide (by rw [List.take_zero]; rfl)
  have HRL := hide hRl
  generalize hKN : ks.length = KN at *
  have HKN := hide hKN
  clear HPT HRE h8 hRl hKN
  go_enter Tryz.func63, Tryz.ntmps63
  go_wp2_with (at_len; refine wpList_len_own _ rfl _ 75 rfl 9 3 Tryz.underlying75 _ g n D rfl hown' ?_; rw [hsz])
  refine (unhide HR).mono ?_
  rintro e w1 ⟨v1, rfl, hl1, hb1⟩
  obtain ⟨a1, c1, rfl, hsl1⟩ := hl1.sls sgC_len (by rw [unhide HKN]; omega)
  rw [unhide HKN]
  have HS1 := hide hsl1
  have HB1 := hide hb1
  have hcl := hsl1.2.2.1
  rw [unhide HKN] at hcl
  clear hl1 hsl1 hb1 HR hown' hsz
  go_wp2_with fail
  go_loopw [0, 6, 7, 8, 9, 17] (fun bv _ _ _ _ iv wr => ∃ (k : Nat) (a' : Option Addr) (c' : Nat), k <= KN /\ bv = .slice a' N c' /\ iv = .int .i64 (k : Int) /\ Bs wr a' c' (rtP out (R.take k) 0) /\ Below w1.heap.size w1 wr) (fun _ _ _ _ _ iv _ => KN - (intOf iv).toNat)
  case atStart => exact ⟨0, a, cap, Nat.zero_le _, rfl, rfl, by rw [unhide HST]; exact (unhide HBS).below (unhide HB1), Below.refl _ _⟩
  case round =>
   obtain ⟨k, a', c', hk, rfl, rfl, hbs, hbel⟩ := hrel
   by_cases hlt : k < KN
   ·have hlt' : k < ks.length := by rw [unhide HKN]; exact hlt
    obtain ⟨b1, o1, rfl, hc1⟩ := ((unhide HS1).below hbel).2.2.2 (by intro e; rw [e] at hlt'; simp at hlt')
    obtain ⟨s, hs⟩ : ∃ s, ks[k]? = some s := ⟨ks[k], List.getElem?_eq_getElem hlt'⟩
    have q0 : wr.cell? ⟨b1, o1 + k, none⟩ = some (.string s) := by have := hc1 k s hs 0 _ rfl; rwa [Nat.mul_one, Nat.add_zero] at this
    have hr := unhide HRT k s hs
    obtain ⟨p1, p2⟩ := unhide HP k (by rw [unhide HRL]; omega)
    obtain ⟨p3, p4⟩ := p2 _ hr
    dsimp only at p4
    have hB1 : Below w.heap.size w wr := (unhide HB1).trans (hbel.mono (unhide HB1).size)
    have hlk2 : (Instr.lookup 75 (.map (some g)) (.string s) false).run Tryz.prog wr = .ok (.int .i64 ((F s).getD 0)) wr := ((unhide HM).below hB1).look (k := s) (show s.size <= maxLen by unfold maxLen; omega)
    have HPR := hide (iPutRoot_any a' c' (rtP out (R.take k) 0) (k : Int) (s, (F s).getD 0) wr hbs (by dsimp only; omega))
    rw [p3, errV_zero, p1, <- unhide HNX k _ hr] at HPR
    have HLN : Hid ((rtP out (R.take (k + 1)) 0).length = N) := hide (unhide HP (k + 1) (by rw [unhide HRL]; omega)).1
    have HBE := hide hbel
    have g1 := block_lt_of_cell q0
    unfold rootV at HPR
    dsimp only at HPR
    generalize (F s).getD 0 = h at *
    clear hc1 hs hr p1 p2 p3 p4 hB1 hbs hbel hlt'
    go_wp2_with fail
    refine (unhide HPR).mono ?_
    rintro e w2 ⟨a2, c2, rfl, hb2, hB2⟩
    rw [unhide HLN]
    have HB2 := hide hb2
    have HBW2 := hide ((unhide HBE).trans (hB2.mono (unhide HBE).size))
    clear hb2 hB2 HPR
    go_wp2
    go_roundw
    case rel => exact ⟨k + 1, a2, c2, by omega, rfl, by go_num, unhide HB2, unhide HBW2⟩
    case measure => simp [intOf]; omega
   ·have hkq : k = R.length := by rw [unhide HRL]; omega
    rw [hkq, unhide HE] at hbs
    have hlN := (unhide HP R.length (Nat.le_refl _)).1
    rw [unhide HE] at hlN
    have HBS2 := hide hbs
    have HLN := hide hlN
    have HB2 := hide ((unhide HB1).trans (hbel.mono (unhide HB1).size))
    have hge : ¬ ((k : Int) < (KN : Int)) := by omega
    clear hkq hbs hbel hlN
    go_wp2
    go_ret2
    exact ⟨a', c', by rw [unhide HLN]; rfl, unhide HBS2, unhide HB2⟩
def ldT (X : Int × Nat × List Int) (R : List (ByteArray × Int)) : Int × List Int := if X.1 ≠ 0 then (X.1, []) else if 8 < R.length then (4, []) else (0, rtP X.2.2 R 0)
set_option maxRecDepth 100000 in
set_option maxHeartbeats 2000000 in
theorem mLaid_any (N go gr no nr : Nat) (Fo : Int -> Option OV) (O : Int -> Int × List Int) (Fr : ByteArray -> Option Int) (U : List ByteArray) (R : List (ByteArray × Int)) (w0 w : World) (hN : 288 <= N /\ N <= 6400) (hmo : Mp obM w go no Fo) (hO : ObF w0 Fo O) (hw : Below w0.heap.size w0 w) (hino : ∀ k, (Fo k).isSome = true -> k ∈ hndL) (hok : ObjsOk O)
  (hmr : Mp leM w gr nr Fr) (hU : Ris U) (hinr : ∀ k, (Fr k).isSome = true -> k ∈ U) (hUl : U.length <= 1000) (hR : R = (U.filter fun k => (Fr k).isSome).map fun s => (s, (Fr s).getD 0)) (hput : (pkS N O 40).1 = 0 -> R.length <= 8 -> PutsR N (pkS N O 40).2.2 R) :
  Calls Tryz.prog 33 #[.int .i64 (N : Int), .map (some go), .map (some gr)] w (Ends w (ldT (pkS N O 40) R).2 (errV (ldT (pkS N O 40) R).1)) := by
 have hlb : lenB (N : Int) = true := lenB_iff.2 (by omega)
 have hnl : newL (N : Int) = zerosB N /\ newE (N : Int) = 0 := by unfold newL newE; rw [if_pos hlb, if_pos hlb, Int.toNat_natCast]; exact ⟨rfl, rfl⟩
 have HNEW := hide (new_any (N : Int) w)
 rw [hnl.1, hnl.2] at HNEW
 obtain ⟨i1, i2, i3⟩ := pkS_ok hN.1 hN.2 hok 40 (Nat.le_refl _)
 have HWO := hide (fun (W : World) (a : Option Addr) (c : Nat) (hW : Below w.heap.size w W) (hb : Bs W a c (zerosB N)) => withObj_any a c N go no Fo O w0 W hb hN (hmo.below hW) hO (hw.trans (hW.mono hw.size)) hino hok)
 have HWR := hide (fun (h0 : (pkS N O 40).1 = 0) (W : World) (a : Option Addr) (c : Nat) (hW : Below w.heap.size w W) (hb : Bs W a c (pkS N O 40).2.2) => withRoots_any a c gr nr N (pkS N O 40).2.2 Fr U W hb (i3 h0).1.len (hmr.below hW) hU hinr hUl R hR (hput h0))
 have HLN : Hid ((pkS N O 40).1 = 0 -> (pkS N O 40).2.2.length = N) := hide (fun h0 => (i3 h0).1.len)
 have HX : Hid ((pkS N O 40).1 ≠ 0 -> pkS N O 40 = (4, 0, [])) := hide i2
 clear i1 i2 i3 hnl hlb hmo hO hw hino hok hmr hU hinr hUl hR hput
 generalize pkS N O 40 = X at *
 by_cases h0 : X.1 = 0
 ·have hT : ldT X R = (if 8 < R.length then 4 else 0, if 8 < R.length then [] else rtP X.2.2 R 0) := by
   unfold ldT
   rw [if_neg (fun h => h h0)]
   split <;> rfl
  rw [hT]
  rw [h0] at HWO
  have HWR0 := hide (unhide HWR h0)
  have hln := unhide HLN h0
  dsimp only
  clear hT HWR HX
  obtain ⟨X1, X2, X3⟩ := X
  dsimp only at *
  generalize (if 8 < R.length then (4 : Int) else 0) = EE at *
  generalize (if 8 < R.length then [] else rtP X3 R 0) = LL at *
  go_enter Tryz.func33, Tryz.ntmps33
  go_wp2_with fail
  refine (unhide HNEW).mono ?_
  rintro e w1 ⟨a1, c1, rfl, hb1, hB1⟩
  have HW1 := hide (unhide HWO w1 a1 c1 hB1 hb1)
  have HB1 := hide hB1
  rw [length_zerosB, show errV 0 = .nilIface from rfl]
  clear hb1 hB1 HNEW HWO
  go_wp2_with fail
  refine (unhide HW1).mono ?_
  rintro e w2 ⟨a2, c2, rfl, hb2, hB2⟩
  have hBW2 := (unhide HB1).trans (hB2.mono (unhide HB1).size)
  have HW2 := hide (unhide HWR0 w2 a2 c2 hBW2 hb2)
  have HB2 := hide hBW2
  rw [hln, show errV 0 = .nilIface from rfl]
  clear hb2 hB2 hBW2 HW1 HWR0
  go_wp2_with fail
  refine (unhide HW2).mono ?_
  rintro e w3 ⟨a3, c3, rfl, hb3, hB3⟩
  have HB3 := hide hb3
  have HBW3 := hide ((unhide HB2).trans (hB3.mono (unhide HB2).size))
  clear hb3 hB3 HW2
  go_wp2
  go_ret2
  exact ⟨a3, c3, rfl, unhide HB3, unhide HBW3⟩
 ·have hX := unhide HX h0
  subst hX
  have hT : ldT (4, 0, []) R = (4, []) := rfl
  rw [hT]
  dsimp only at *
  rw [errV_pos 4 (by decide)] at *
  clear HWR HX HLN hT
  go_enter Tryz.func33, Tryz.ntmps33
  go_wp2_with fail
  refine (unhide HNEW).mono ?_
  rintro e w1 ⟨a1, c1, rfl, hb1, hB1⟩
  have HW1 := hide (unhide HWO w1 a1 c1 hB1 hb1)
  have HB1 := hide hB1
  rw [length_zerosB, show errV 0 = .nilIface from rfl]
  clear hb1 hB1 HNEW HWO
  go_wp2_with fail
  refine (unhide HW1).mono ?_
  rintro e w2 ⟨a2, c2, rfl, hb2, hB2⟩
  have HB2 := hide ((unhide HB1).trans (hB2.mono (unhide HB1).size))
  clear hb2 hB2 HW1
  go_wp2
  go_ret2
  exact ⟨none, 0, rfl, bs_nil _, unhide HB2⟩
end Go.Proofs.YtifmemombecoaaaGreatDoor
namespace Go.Proofs.YtifmemombecoaaaGreatDoor
open Go.RowKit Go.Shelf
open Go.Maps (Keyed)
set_option linter.unusedVariables false
theorem Mp.filter {κ α : Type} {M : MK κ α} {w w' : World} {g n : Nat} {F : κ -> Option α} {D : DataW Unit} (hown : w.ownsMap Tryz.prog M.tk M.R g n D) (hD : ∀ k, Maps.has D (M.kl k) = (F k).isSome /\ ∀ v, F k = some v -> ∃ d, M.R (M.ev v) = some (d, []) /\ ∀ zd, D.atKey (M.kl k) zd = d)
  (pd : Lit -> DataW Unit -> Bool) (p : α -> Bool) (hpd : ∀ k v d, M.R (M.ev v) = some (d, []) -> pd (M.kl k) d = p v) (hkl : ∀ k v, F k = some v -> WideAt.IsKeyLit (M.kl k)) (ho : w'.ownsMap Tryz.prog M.tk M.R g n (Lib.deleteFuncD pd D)) : Mp M w' g n (keepF F fun _ v => p v) := by
 obtain ⟨es, rfl, hap, hk⟩ := hown.entries M.hK
 have hap' : (es.filter fun q => !pd q.1 q.2).Pairwise (fun p q => p.1 ≠ q.1) := List.Pairwise.filter _ hap
 refine ⟨_, ho, fun k => ?_⟩
 show Maps.has (.map (es.filter fun q => !pd q.1 q.2)) (M.kl k) = _ /\ ∀ v, _ -> ∃ d, _ /\ ∀ zd, (DataW.map (es.filter fun q => !pd q.1 q.2)).atKey (M.kl k) zd = d
 have hiff : ∀ q ∈ es, q.1 = M.kl k -> ∃ v, F k = some v /\ M.R (M.ev v) = some (q.2, []) := fun q hq e => by
  have h1 : Maps.has (.map es) (M.kl k) = true := by
   rw [Maps.has_eq]
   exact List.any_eq_true.2 ⟨q, hq, by rw [<- e]; exact WideAt.sameKey_self (hk q hq)⟩
  rw [(hD k).1] at h1
  obtain ⟨v, hv⟩ := Option.isSome_iff_exists.1 h1
  obtain ⟨d, h2, h3⟩ := (hD k).2 v hv
  have h4 : (DataW.map es).atKey (M.kl k) .nil = q.2 := WideAt.atKey_mem .nil (e ▸ hk q hq) hap (by rw [<- e]; exact hq)
  rw [h3] at h4
  exact ⟨v, hv, by rw [<- h4]; exact h2⟩
 cases hF : F k with
 | none =>
  have hno : ∀ q ∈ es, q.1 ≠ M.kl k := fun q hq e => by
   obtain ⟨v, hv, _⟩ := hiff q hq e
   rw [hF] at hv; cases hv
  have e0 : keepF F (fun _ v => p v) k = none := by unfold keepF; rw [hF]; rfl
  rw [e0]
  refine ⟨?_, fun v hv => by cases hv⟩
  rw [Maps.has_eq]
  refine Bool.eq_false_iff.2 (fun h => ?_)
  obtain ⟨q, hq, hs⟩ := List.any_eq_true.1 h
  exact hno q (List.mem_filter.1 hq).1 (WideAt.sameKey_eq hs)
 | some v =>
  obtain ⟨d, h2, h3⟩ := (hD k).2 v hF
  have hlit := hkl k v hF
  have h1 : Maps.has (.map es) (M.kl k) = true := by rw [(hD k).1, hF]; rfl
  rw [Maps.has_eq] at h1
  obtain ⟨q, hq, hs⟩ := List.any_eq_true.1 h1
  have eq1 : q.1 = M.kl k := WideAt.sameKey_eq hs
  obtain ⟨v', hv', hr'⟩ := hiff q hq eq1
  rw [hF] at hv'
  obtain rfl := Option.some.inj hv'
  have hd : q.2 = d := by rw [h2] at hr'; exact (congrArg Prod.fst (Option.some.inj hr')).symm
  have hpq : pd q.1 q.2 = p v := by rw [eq1]; exact hpd k v _ hr'
  cases hp : p v with
  | true =>
   have e0 : keepF F (fun _ v => p v) k = none := by unfold keepF; rw [hF]; simp [Option.filter, hp]
   rw [e0]
   refine ⟨?_, fun v hv => by cases hv⟩
   rw [Maps.has_eq]
   refine Bool.eq_false_iff.2 (fun h => ?_)
   obtain ⟨r, hr, hs2⟩ := List.any_eq_true.1 h
   obtain ⟨r1, r2⟩ := List.mem_filter.1 hr
   obtain ⟨v2, g1, g2⟩ := hiff r r1 (WideAt.sameKey_eq hs2)
   rw [hF] at g1
   obtain rfl := Option.some.inj g1
   have : pd r.1 r.2 = p v := by rw [WideAt.sameKey_eq hs2]; exact hpd k v _ g2
   rw [this, hp] at r2
   cases r2
  | false =>
   have e0 : keepF F (fun _ v => p v) k = some v := by unfold keepF; rw [hF]; simp [Option.filter, hp]
   rw [e0]
   have hqm : q ∈ es.filter fun q => !pd q.1 q.2 := List.mem_filter.2 ⟨hq, by rw [hpq, hp]; rfl⟩
   refine ⟨?_, fun u hu => ?_⟩
   ·rw [Maps.has_eq]
    exact List.any_eq_true.2 ⟨q, hqm, hs⟩
   ·obtain rfl := Option.some.inj hu
    refine ⟨d, h2, fun zd => ?_⟩
    refine WideAt.atKey_mem zd hlit hap' ?_
    rw [<- eq1, <- hd]
    exact hqm
theorem field_body (x : Int) (nv : Value) (w : World) : (Instr.field 47 (.agg #[.int .i64 x, nv]) 1).run Tryz.prog w = .ok nv w := by
 simp [Instr.field, run_underlying Tryz.underlying47, run_underlying Tryz.underlying22, part, isAgg, asAgg, go_sem]
set_option maxRecDepth 100000 in
theorem th2_any (key : Value) (h : Int) (p go n : Nat) (F : Int -> Option OV) (w : World) (hc : w.cell? ⟨p, 0, none⟩ = some (.map (some go))) (hm : Mp obM w go n F) (hF : ∀ v, F h = some v -> 0 < v.2.2.1) (hr : -9223372036854775808 <= h /\ h <= 9223372036854775807) :
  Calls Tryz.prog 32 #[key, .int .i64 h, .pointer (some ⟨p, 0, none⟩)] w fun e w' => e = .returned (.bool (!(F h).isSome)) /\ w = w' := by
 have hlk : (Instr.lookup 50 (.map (some go)) (.int .i64 h) false).run Tryz.prog w = .ok (ovV ((F h).getD (0, none, 0, 0))) w := hm.look hr
 have hfb := field_body
 cases hq : F h with
 | none =>
  rw [hq] at hlk
  replace hlk : (Instr.lookup 50 (.map (some go)) (.int .i64 h) false).run Tryz.prog w = .ok (.agg #[.int .i64 0, .slice none 0 0]) w := hlk
  clear hm hF hq
  go_enter Tryz.func32, Tryz.ntmps32
  go_wp2
  go_ret
  exact ⟨rfl, rfl⟩
 | some v =>
  rw [hq] at hlk
  have hv := hF v hq
  obtain ⟨t, a, N, c⟩ := v
  replace hlk : (Instr.lookup 50 (.map (some go)) (.int .i64 h) false).run Tryz.prog w = .ok (.agg #[.int .i64 t, .slice a N c]) w := hlk
  have hne : ((N : Int) == 0) = false := beq_eq_false_iff_ne.2 (by dsimp only at hv; omega)
  dsimp only at hv
  clear hm hF hq
  go_enter Tryz.func32, Tryz.ntmps32
  go_wp2
  go_ret
  exact ⟨rfl, rfl⟩
def noOb (F : Int -> Option OV) (_ : Lit) (d : DataW Unit) : Bool := match d with | .lit (.int _ h) => !(F h).isSome | _ => false
theorem delRoots (p go n gr nr : Nat) (Fo : Int -> Option OV) (Fr : ByteArray -> Option Int) (w : World) (hc : w.cell? ⟨p, 0, none⟩ = some (.map (some go))) (hm : Mp obM w go n Fo) (hne : go ≠ gr) (hF : ∀ h v, Fo h = some v -> 0 < v.2.2.1) (hr : Mp leM w gr nr Fr) (hpr : p ≠ gr) :
  Calls Tryz.prog 31 #[.map (some gr), .func (.func 32) #[] #[.pointer (some ⟨p, 0, none⟩)]] w fun e w' => e = .returned (.tuple #[]) /\ Mp leM w' gr nr (keepF Fr fun _ h => !(Fo h).isSome) /\ w.grownBy w' (some gr) := by
 obtain ⟨D, hown, hD⟩ := hr
 have hown' : w.ownsMap Tryz.prog 9 inR gr nr D := hown
 have c := AnyDf.maps_DeleteFunc mdS (Maps.string_keyed Tryz.underlying9) inR (noOb Fo) 32 #[.pointer (some ⟨p, 0, none⟩)] gr nr D w (enters_of Tryz.func32 (by kernel_rfl) rfl) hown' (fun W key val kl yd yp hg hkey hv => by
  obtain ⟨h, rfl, e, hr⟩ := inR_inv hv
  obtain ⟨rfl, rfl⟩ := Prod.mk.inj e
  refine (th2_any key h p go n Fo W (hg.cell hc (fun e => hpr (Option.some.inj e))) (hm.grown hg (fun e => hne (Option.some.inj e))) (fun v hv => hF h v hv) hr).mono ?_
  rintro e w' ⟨rfl, rfl⟩
  exact ⟨rfl, World.grownBy.refl _ _⟩)
 change Calls Tryz.prog 31 _ _ _ at c
 refine c.mono ?_
 rintro e w' ⟨rfl, ho, hg⟩
 refine ⟨rfl, Mp.filter (M := leM) (p := fun h => !(Fo h).isSome) hown hD (noOb Fo) (fun k v d hd => ?_) (fun k v hv => trivial) ho, hg⟩
 have hd' : inR (.int .i64 v) = some (d, []) := hd
 obtain ⟨a, e1, e2, _⟩ := inR_inv hd'
 obtain ⟨rfl, _⟩ := Prod.mk.inj e2
 have : v = a := by simpa using e1
 subst this
 rfl
end Go.Proofs.YtifmemombecoaaaGreatDoor
