/-
  Parts of the proofs, joined by program.
-/
import Derived.Test.YtecodmiendedfaaGreatDoorJImp
import Derived.Test.YtecodmiendedfaaGreatDoorJIr
import Derived.Test.YtecodmiendedfaaGreatDoorJChp
import Derived.Test.YtecodmiendedfaaGreatDoorJNum
import Derived.Deep.RegionWith
import Derived.Test.YtecodmiendedfaaGreatDoorJMvp
import Derived.Test.YtecodmiendedfaaGreatDoorJTn
import Derived.Deep.QuietTactic
import Derived.Test.YtecodmiendedfaaGreatDoorJSr
import Derived.Test.YtecodmiendedfaaGreatDoorJWy
import Derived.Test.YtecodmiendedfaaGreatDoorJAb
import Derived.Test.YtecodmiendedfaaGreatDoorJDfr
import Derived.Test.YtecodmiendedfaaGreatDoorJAs
import Derived.Deep.RegionHeld3
import Derived.Test.YtecodmiendedfaaGreatDoorJHp
import Derived.Test.YtecodmiendedfaaGreatDoorJCh
import Derived.Test.YtecodmiendedfaaGreatDoorJRt
namespace Go.Proofs.YtecodmiendedfaaGreatDoor
open Go.RowKit
set_option linter.unusedVariables false
def InL (n : Nat) (e : (Int × Int × Int × Int)) : Prop := 0 <= e.2.1 /\ 0 <= e.2.2.1 /\ e.2.1 + e.2.2.1 <= n
theorem ent_small {L : List Int} {h : Int} (hb : Byt L) (hl : 288 <= L.length) (h1 : 1 <= h) (h2 : h <= 40) : (0 <= (entOf L h).2.1 /\ (entOf L h).2.1 <= 65535) /\ 0 <= (entOf L h).2.2.1 /\ (entOf L h).2.2.1 <= 65535 := by
 have hp := plc_le h1 h2
 unfold entOf
 dsimp only
 rw [getV_two _ _ (by omega), getV_two _ _ (by omega)]
 have e1 := hb.getD (plc h + 1)
 have e2 := hb.getD (plc h + 1 + 1)
 have e3 := hb.getD (plc h + 3)
 have e4 := hb.getD (plc h + 3 + 1)
 omega
theorem strOf_nil : strOf [] = { data := #[] } := rfl
set_option maxRecDepth 100000 in
set_option maxHeartbeats 1000000 in
theorem rObject_any (a : Option Addr) (cap : Nat) (L : List Int) (h : Int) (w : World) (hbs : Bs w a cap L) (hl : 288 <= L.length) (h1 : 1 <= h) (h2 : h <= 40) (hin : tagAt L h ≠ 0 -> InL L.length (entOf L h)) :
  Calls Tryz.prog 37 #[.slice a L.length cap, .int .i64 h] w fun e w' => e = .returned (.tuple #[.int .i64 (objOf L h).1, .string (strOf (objOf L h).2)]) /\ Below w.heap.size w w' := by
 have HE := hide (rEntry_any a cap L h w hbs hl h1 h2)
 unfold entV at HE
 have hsm := ent_small (h := h) hbs.1 hl h1 h2
 by_cases ht : tagAt L h = 0
 ·rw [objOf_none ht]
  rw [ht] at HE
  dsimp only
  rw [strOf_nil]
  have hbl := hbs.2.2.1
  clear hbs hin ht h1 h2 hl hsm
  generalize entOf L h = E at *
  obtain ⟨x1, x2, x3, x4⟩ := E
  dsimp only at *
  generalize L.length = N at *
  go_enter Tryz.func37, Tryz.ntmps37
  go_wp2_with fail
  refine (unhide HE).mono ?_
  rintro e w1 ⟨rfl, hb1⟩
  have HB1 := hide (hb1.alloc hb1.size (.cells #[.int .i64 x1, .int .i64 x2, .int .i64 x3, .int .i64 x4] 72))
  clear hb1 HE
  go_wp2
  go_ret2
  exact ⟨rfl, unhide HB1⟩
 ·have ho : objOf L h = objE L (entOf L h) := by unfold objOf; rw [if_neg ht]
  rw [ho]
  rw [bne_iff_ne.2 ht] at HE
  obtain ⟨i1, i2, i3⟩ := hin ht
  have hbl := hbs.2.2.1
  unfold objE
  generalize entOf L h = E at *
  obtain ⟨x1, x2, x3, x4⟩ := E
  dsimp only at *
  obtain ⟨X2, rfl⟩ := Int.eq_ofNat_of_zero_le i1
  obtain ⟨X3, rfl⟩ := Int.eq_ofNat_of_zero_le i2
  obtain ⟨p1, hs1, hb1⟩ := slice_lohi (P := Tryz.prog) (t := 31) Tryz.underlying31 size_u8 hbs X2 (X2 + X3) (by omega) (by omega)
  rw [show X2 + X3 - X2 = X3 by omega, show ((X2 + X3 : Nat) : Int) = (X2 : Int) + X3 by omega] at hs1
  rw [show X2 + X3 - X2 = X3 by omega] at hb1
  have e1 : partL L (X2 : Int) (X3 : Int) = (L.drop X2).take X3 := by unfold partL; rw [Int.toNat_natCast, Int.toNat_natCast]
  rw [e1]
  have l1 : ((L.drop X2).take X3).length = X3 := by simp; omega
  have HCV := hide (fun (W : World) (hW : Below w.heap.size w W) => conv_str (P := Tryz.prog) (t := 31) (e := 9) Tryz.underlying31 Tryz.underlying5 Tryz.underlying9 (hb1.below hW))
  rw [l1] at HCV
  generalize strOf ((L.drop X2).take X3) = s at *
  clear hbs hb1 e1 l1 ho hin ht h1 h2
  generalize L.length = N at *
  go_enter Tryz.func37, Tryz.ntmps37
  go_wp2_with fail
  refine (unhide HE).mono ?_
  rintro e w1 ⟨rfl, hb1⟩
  have hbA := hb1.alloc hb1.size (.cells #[.int .i64 x1, .int .i64 (X2 : Int), .int .i64 (X3 : Int), .int .i64 x4] 72)
  obtain ⟨c0, c1, c2, c3⟩ := (EnB.new w1 (x1, (X2 : Int), (X3 : Int), x4)).cells
  have hcv : ∀ n, (convert 31 9 (.slice p1 X3 (cap - X2))).run Tryz.prog ((w1.alloc (.cells #[.int .i64 x1, .int .i64 (X2 : Int), .int .i64 (X3 : Int), .int .i64 x4] 72)).drewN n) = .ok (.string s) ((w1.alloc (.cells #[.int .i64 x1, .int .i64 (X2 : Int), .int .i64 (X3 : Int), .int .i64 x4] 72)).drewN n) := fun n => unhide HCV _ (below_drewN hbA n)
  have HB1 := hide hbA
  dsimp only at c0 c1 c2 c3
  clear hb1 hbA HE HCV
  go_wp2_with fail
  generalize w1.alloc (.cells #[.int .i64 x1, .int .i64 (X2 : Int), .int .i64 (X3 : Int), .int .i64 x4] 72) = W at *
  go_quiet (fail)
  go_wp2
  go_ret2
  exact ⟨rfl, below_drewN (unhide HB1) nq⟩
theorem byt_obj {L : List Int} {h : Int} (hb : Byt L) : Byt (objOf L h).2 := by
 unfold objOf objE partL
 split
 ·intro z hz; cases hz
 ·intro z hz
  exact hb z (List.mem_of_mem_drop (List.mem_of_mem_take hz))
def layK (l : List Int) (p : Nat) (o : List Int) : Nat -> List Int
 | 0 => l
 | k + 1 => (layK l p o k).set (p + k) (o.getD k 0)
theorem length_layK (l : List Int) (p : Nat) (o : List Int) (k : Nat) : (layK l p o k).length = l.length := by
 induction k with
 | zero => rfl
 | succ k ih => simp [layK, ih]
theorem layK_in (l : List Int) (p : Nat) (o : List Int) : ∀ k j, j < k -> p + k <= l.length -> (layK l p o k).getD (p + j) 0 = o.getD j 0 := by
 intro k
 induction k with
 | zero => intro j hj; omega
 | succ k ih =>
  intro j hj hk
  have hlen := length_layK l p o k
  by_cases h : j = k
  ·subst h
   simp only [layK, List.getD]
   rw [List.getElem?_set_self (by omega)]
   rfl
  ·have h1 := ih j (by omega) (by omega)
   simp only [layK, List.getD] at h1 ⊢
   rw [List.getElem?_set_ne (by omega)]
   exact h1
theorem layK_out (l : List Int) (p : Nat) (o : List Int) : ∀ k j, (j < p \/ p + k <= j) -> (layK l p o k).getD j 0 = l.getD j 0 := by
 intro k
 induction k with
 | zero => intro j _; rfl
 | succ k ih =>
  intro j hj
  rw [<- ih j (by omega)]
  simp [layK, List.getD]
  rw [List.getElem?_set_ne (by omega)]
theorem layK_splice (l : List Int) (p : Nat) (o : List Int) (h : p + o.length <= l.length) : layK l p o o.length = splice l p o := by
 have hs := length_splice (z := l) (l := o) (off := p) h
 apply ext_getD
 ·rw [length_layK, hs]
 ·intro j hj
  rw [length_layK] at hj
  by_cases h1 : j < p \/ p + o.length <= j
  ·rw [layK_out l p o o.length j h1, splice_out h (by omega)]
  ·obtain ⟨i, rfl⟩ : ∃ i, j = p + i := ⟨j - p, by omega⟩
   rw [layK_in l p o o.length i (by omega) h, splice_in h (by omega)]
def enO (b : Option (Int × Int × Int × Int)) : (Int × Int × Int × Int) := b.getD (0, 0, 0, 0)
theorem bs_take {a : Int} {l : List (Int × Int × Int × Int)} {k : Nat} {e : (Int × Int × Int × Int)} (h : l[k]? = some e) : (l.take (k + 1)).foldl (bsE a) none = bsE a ((l.take k).foldl (bsE a) none) e := by
 rw [List.take_add_one, h, List.foldl_append]
 rfl
theorem bs_mem {a : Int} (l : List (Int × Int × Int × Int)) : ∀ x, l.foldl (bsE a) none = some x -> x ∈ l := fun x hx => by
 have := bsL_spec a l none (fun x hx => by cases hx)
 rw [hx] at this
 rcases this.1 with h | h
 ·cases h
 ·exact h
theorem EnB.drewN {w : World} {g : Nat} {e : (Int × Int × Int × Int)} (h : EnB w g e) (k : Nat) : EnB (w.drewN k) g e := h
theorem turn_drewN (S : Nat -> Prop) (w : World) (n : Nat) : Turn S S w (w.drewN n) := by
 induction n with
 | zero => exact Turn.refl _ _
 | succ n ih => exact ih.trans (Turn.drew _ _)
set_option maxRecDepth 100000 in
set_option maxHeartbeats 8000000 in
theorem sStep_any (a : Option Addr) (cap : Nat) (L : List Int) (w : World) (hbs : Bs w a cap L) (hf : Fine L) :
  Calls Tryz.prog 13 #[.slice a L.length cap] w fun e w' => ∃ a' c', e = .returned (.tuple #[.slice a' L.length c', .bool (mvS L).isSome]) /\ Bs w' a' c' ((mvS L).getD L) /\ Below w.heap.size w w' /\ ((a' = a /\ c' = cap) \/ Fr w.heap.size a') := by
 have hl := hf.len
 have hel := entsK_len L 40
 have hLl := hbs.2.2.1
 have HE := hide (fun (W : World) (hW : Below w.heap.size w W) => rEnts_any a cap L W (hbs.below hW) hl.1)
 have HIN := hide (fun (e : (Int × Int × Int × Int)) (he : e ∈ entsK L 40) => ent_in hf he)
 have HST := hide (StpAt.start hf)
 have HBEST := hide (fun (x : Int) (l1 l2 : List (Int × Int × Int × Int)) (s : StpAt L x l1 l2) => s.best hf)
 have HNEXT := hide (fun (x : Int) (l1 r : List (Int × Int × Int × Int)) (e : (Int × Int × Int × Int)) (s : StpAt L x l1 (e :: r)) (he : ¬ x < e.2.1) => s.next hf he)
 have HMOVE := hide (fun (x : Int) (l1 r : List (Int × Int × Int × Int)) (e : (Int × Int × Int × Int)) (s : StpAt L x l1 (e :: r)) (he : x < e.2.1) => s.move hf he)
 have HSTOP := hide (fun (x : Int) (l1 : List (Int × Int × Int × Int)) (s : StpAt L x l1 []) => s.stop)
 have HOB := hide (fun (e : (Int × Int × Int × Int)) (he : e ∈ entsK L 40) (W : World) (hW : Below w.heap.size w W) => rObject_any a cap L e.1 W (hbs.below hW) hl.1 (ent_in hf he).2.1 (ent_in hf he).2.2.1 (fun _ => by
  have h1 := ent_in hf he
  have h2 : entOf L e.1 = e := h1.1.symm
  rw [h2]
  exact ⟨by omega, by omega, by omega⟩))
 have HPE := hide (fun (x y z t : Int) (W : World) (hW : Below w.heap.size w W) (h0 : putE L (x, y, z, t) = 0) => rPE_own a cap L x y z t W (hbs.below hW) h0)
 have HPUT : Hid (∀ (e : (Int × Int × Int × Int)), e ∈ entsK L 40 -> ∀ x : Nat, 288 <= x -> (x : Int) < e.2.1 -> putE L (e.1, (x : Int), e.2.2.1, e.2.2.2) = 0 /\ (putL L (e.1, (x : Int), e.2.2.1, e.2.2.2)).length = L.length /\ mvB L e.1 x = splice (putL L (e.1, (x : Int), e.2.2.1, e.2.2.2)) x (objOf L e.1).2 /\ (objOf L e.1).2.length = e.2.2.1.toNat /\ Byt (mvB L e.1 x)) := hide (fun e he x hx hlt => by
  have h1 := ent_in hf he
  have h2 : entOf L e.1 = e := h1.1.symm
  have hen := hf.ent h1.2.1 h1.2.2.1 h1.2.2.2.1
  rw [h2] at hen
  have h3 : putE L (e.1, (x : Int), e.2.2.1, e.2.2.2) = 0 := putE_zero.2 ⟨hf.len0, hndB_iff.2 ⟨h1.2.1, h1.2.2.1⟩, hen.2.2.2.2.1, hen.2.2.2.2.2, hen.2.1, hen.2.2.1, by dsimp only; omega, by dsimp only; omega⟩
  refine ⟨h3, putL_len h3, by unfold mvB; rw [h2], ?_, mv_byt hbs.1 _ _⟩
  unfold objOf objE partL
  rw [if_neg h1.2.2.2.1, h2]
  dsimp only
  rw [List.length_take, List.length_drop]
  omega)
 have HBO : Hid (∀ h : Int, strL (strOf (objOf L h).2) = (objOf L h).2) := hide (fun h => strL_strOf _ (byt_obj hbs.1))
 have HBS := hide hbs
 clear hbs hf
 generalize mvS L = MS at *
 generalize entsK L 40 = EN at *
 generalize hN : L.length = N at *
 have HN := hide hN
 clear hN
 go_enter Tryz.func13, Tryz.ntmps13
 go_wp2_with fail
 go_loopw [4] (fun xv wr => ∃ (x : Int) (l1 l2 : List (Int × Int × Int × Int)), xv = .int .i64 x /\ StpAt L x l1 l2 /\ Below w.heap.size w wr) (fun xv _ => (6401 - intOf xv).toNat)
 case atStart => exact ⟨288, [], _, rfl, unhide HST, Below.refl _ _⟩
 case round =>
  obtain ⟨x, l1, l2, rfl, hst, hbel⟩ := hrel
  clear HST
  obtain ⟨W0, hW0⟩ : ∃ W0, W0 = wr := ⟨wr, rfl⟩
  have hx1 := hst.b1
  have hx2 := hst.b2
  rw [unhide HN] at hx2
  have hbA : Below w.heap.size w (wr.alloc (.cells #[.int .i64 0, .int .i64 0, .int .i64 0, .int .i64 0] 72)) := hbel.alloc hbel.size _
  have HE1 := hide (unhide HE _ hbA)
  have HENB := hide (EnB.new wr (0, 0, 0, 0))
  have hsz0 := hbel.size
  have HSTP := hide hst
  have HBA := hide hbA
  clear hst hbel hbA HE
  rw [<- hW0] at *
  generalize hG : W0.heap.size = G at *
  clear hW0
  go_wp2_with fail
  refine (unhide HE1).mono ?_
  rintro e w1 ⟨v1, rfl, ho1, hb1⟩
  have HBK := hide (fun k (hk : v1.ownBlock = some k) => ho1.block k hk)
  obtain ⟨a1, c1, rfl, hs1⟩ := ho1.sls enC_len (by omega)
  have hGs : G + 1 <= w1.heap.size := by have := hb1.size; rw [sz_alloc, hG] at this; exact this
  have hen1 := (unhide HENB).below hb1 (by rw [sz_alloc, hG]; omega)
  have HS1 := hide hs1
  have hcap1 := hs1.2.2.1
  have HB1 := hide ((unhide HBA).trans (hb1.mono (unhide HBA).size))
  have HEN1 := hide hen1
  have HBG : Hid (∀ k, (Value.slice a1 EN.length c1).ownBlock = some k -> G < k) := hide (fun k hk => by have := unhide HBK k hk; rw [sz_alloc, hG] at this; omega)
  clear ho1 hs1 hb1 hen1 HE1 HENB HBA HBK
  go_wp2_with fail
  go_loopw [7] (fun iv wr => ∃ k : Nat, k <= EN.length /\ iv = .int .i64 k /\ EnB wr G (enO ((EN.take k).foldl (bsE x) none)) /\ Turn (fun j => j = G) (fun j => j = G) w1 wr) (fun iv _ => EN.length - (intOf iv).toNat)
  case atStart => exact ⟨0, Nat.zero_le _, rfl, unhide HEN1, Turn.refl _ _⟩
  case round =>
   obtain ⟨k, hk, rfl, hen, htn⟩ := hrel
   by_cases hlt : k < EN.length
   ·have hne : EN ≠ [] := by intro e; rw [e] at hlt; simp at hlt
    obtain ⟨b1, o1, rfl, hc1⟩ := (unhide HS1).2.2.2 hne
    obtain ⟨f, hf⟩ : ∃ f, EN[k]? = some f := ⟨EN[k], List.getElem?_eq_getElem hlt⟩
    obtain ⟨p0, p1, p2, p3⟩ := Sls.ent (cap := 0) hc1 hf
    have hbG := unhide HBG b1 rfl
    have q0 := (World.cell?_of_block (a := ⟨b1, o1 + k * 4, none⟩) (htn.block b1 (block_lt_of_cell p0) (by omega))).trans p0
    have q1 := (World.cell?_of_block (a := ⟨b1, o1 + k * 4 + 1, none⟩) (htn.block b1 (block_lt_of_cell p1) (by omega))).trans p1
    have q2 := (World.cell?_of_block (a := ⟨b1, o1 + k * 4 + 2, none⟩) (htn.block b1 (block_lt_of_cell p2) (by omega))).trans p2
    have q3 := (World.cell?_of_block (a := ⟨b1, o1 + k * 4 + 3, none⟩) (htn.block b1 (block_lt_of_cell p3) (by omega))).trans p3
    have hbt := bs_take (a := x) hf
    have hmem := bs_mem (a := x) (EN.take k)
    have hin := unhide HIN f (List.mem_of_getElem? hf)
    have HTN := hide htn
    have hkE : (k : Int) < (EN.length : Int) := by omega
    obtain ⟨z1, z2, z3, z4⟩ := f
    dsimp only at *
    obtain ⟨_, i1, i2, _, i3, i4, i5, i6⟩ := hin
    have hlen := hen.lt
    have g0 := hen.fr 0
    have g1 := hen.fr 1
    have g2 := hen.fr 2
    have g3 := hen.fr 3
    cases hb : (EN.take k).foldl (bsE x) none with
    | none =>
     rw [hb] at hen hbt
     obtain ⟨d0, d1, d2, d3⟩ := hen.cells
     have HEN2 := hide hen
     unfold enO at d0 d1 d2 d3
     dsimp only [Option.getD] at d0 d1 d2 d3
     by_cases hxz : x <= z2
     ·have e1 : bsE x none (z1, z2, z3, z4) = some (z1, z2, z3, z4) := by unfold bsE; rw [if_pos ⟨hxz, fun y hy => by cases hy⟩]
      rw [e1] at hbt
      have HBT := hide hbt
      have dx : decide (z2 >= x) = true := decide_eq_true hxz
      clear hc1 hf hne p0 p1 p2 p3 hbt hb hmem e1 hen htn
      generalize EN.length = M at *
      go_wp2_with fail
      go_quiet (fail)
      go_wp2
      go_roundw
      case rel => exact ⟨k + 1, by omega, by go_num, by rw [unhide HBT]; exact ((unhide HEN2).drewN nq).set z1 z2 z3 z4, ((((((unhide HTN).trans (turn_drewN _ _ nq)).trans (Turn.setCell _ _ rfl)).trans (Turn.setCell _ _ rfl)).trans (Turn.setCell _ _ rfl)).trans (Turn.setCell _ _ rfl))⟩
      case measure => simp [intOf]; omega
     ·have e1 : bsE x none (z1, z2, z3, z4) = none := by unfold bsE; rw [if_neg (fun h => hxz h.1)]
      rw [e1] at hbt
      have HBT := hide hbt
      have dx : decide (z2 >= x) = false := decide_eq_false hxz
      clear hc1 hf hne p0 p1 p2 p3 hbt hb hmem e1 hen htn
      generalize EN.length = M at *
      go_wp2_with fail
      go_quiet (fail)
      go_wp2
      go_roundw
      case rel => exact ⟨k + 1, by omega, by go_num, by rw [unhide HBT]; exact (unhide HEN2).drewN nq, (unhide HTN).trans (turn_drewN _ _ nq)⟩
      case measure => simp [intOf]; omega
    | some y =>
     rw [hb] at hen hbt
     have hyi := (unhide HIN y (List.mem_of_mem_take (hmem y hb))).2.1
     obtain ⟨d0, d1, d2, d3⟩ := hen.cells
     have HEN2 := hide hen
     unfold enO at d0 d1 d2 d3
     dsimp only [Option.getD] at d0 d1 d2 d3
     obtain ⟨y1, y2, y3, y4⟩ := y
     dsimp only at d0 d1 d2 d3 hyi
     have hy0 : (y1 == 0) = false := by rw [beq_eq_false_iff_ne]; omega
     by_cases hxz : x <= z2
     ·have dx : decide (z2 >= x) = true := decide_eq_true hxz
      by_cases hzy : z2 < y2
      ·have e1 : bsE x (some (y1, y2, y3, y4)) (z1, z2, z3, z4) = some (z1, z2, z3, z4) := by unfold bsE; rw [if_pos ⟨hxz, fun y hy => by cases hy; exact hzy⟩]
       rw [e1] at hbt
       have HBT := hide hbt
       have dz : decide (z2 < y2) = true := decide_eq_true hzy
       clear hc1 hf hne p0 p1 p2 p3 hbt hb hmem e1 hen htn
       generalize EN.length = M at *
       go_wp2_with fail
       go_quiet (fail)
       go_wp2
       go_roundw
       case rel => exact ⟨k + 1, by omega, by go_num, by rw [unhide HBT]; exact ((unhide HEN2).drewN nq).set z1 z2 z3 z4, ((((((unhide HTN).trans (turn_drewN _ _ nq)).trans (Turn.setCell _ _ rfl)).trans (Turn.setCell _ _ rfl)).trans (Turn.setCell _ _ rfl)).trans (Turn.setCell _ _ rfl))⟩
       case measure => simp [intOf]; omega
      ·have e1 : bsE x (some (y1, y2, y3, y4)) (z1, z2, z3, z4) = some (y1, y2, y3, y4) := by unfold bsE; rw [if_neg (fun h => hzy (h.2 _ rfl))]
       rw [e1] at hbt
       have HBT := hide hbt
       have dz : decide (z2 < y2) = false := decide_eq_false hzy
       clear hc1 hf hne p0 p1 p2 p3 hbt hb hmem e1 hen htn
       generalize EN.length = M at *
       go_wp2_with fail
       go_quiet (fail)
       go_wp2
       go_roundw
       case rel => exact ⟨k + 1, by omega, by go_num, by rw [unhide HBT]; exact (unhide HEN2).drewN nq, (unhide HTN).trans (turn_drewN _ _ nq)⟩
       case measure => simp [intOf]; omega
     ·have e1 : bsE x (some (y1, y2, y3, y4)) (z1, z2, z3, z4) = some (y1, y2, y3, y4) := by unfold bsE; rw [if_neg (fun h => hxz h.1)]
      rw [e1] at hbt
      have HBT := hide hbt
      have dx : decide (z2 >= x) = false := decide_eq_false hxz
      clear hc1 hf hne p0 p1 p2 p3 hbt hb hmem e1 hen htn
      generalize EN.length = M at *
      go_wp2_with fail
      go_quiet (fail)
      go_wp2
      go_roundw
      case rel => exact ⟨k + 1, by omega, by go_num, by rw [unhide HBT]; exact (unhide HEN2).drewN nq, (unhide HTN).trans (turn_drewN _ _ nq)⟩
      case measure => simp [intOf]; omega
   ·have hkE : k = EN.length := by omega
    rw [hkE, List.take_length] at hen
    change EnB wr G (enO (bsL x EN)) at hen
    rw [unhide HBEST x l1 l2 (unhide HSTP)] at hen
    have hge : ¬ ((k : Int) < (EN.length : Int)) := by omega
    have hB2 : Below w.heap.size w wr := (unhide HB1).trans (htn.below (fun j hj => by rw [hj]; omega) (unhide HB1).size)
    cases l2 with
    | nil =>
     have hms := unhide HSTOP x l1 (unhide HSTP)
     obtain ⟨d0, d1, d2, d3⟩ := hen.cells
     unfold enO at d0
     dsimp only [List.head?, Option.getD] at d0
     have HMS := hide hms
     have HB2 := hide hB2
     have HBSW := hide ((unhide HBS).below hB2)
     clear hen htn hB2 hkE hlt hk hms d1 d2 d3 HMOVE HNEXT HPUT HPE HOB
     go_wp2
     go_ret2
     refine ⟨a, cap, by rw [unhide HMS]; rfl, ?_, unhide HB2, .inl ⟨rfl, rfl⟩⟩
     rw [unhide HMS]
     exact unhide HBSW
    | cons e r =>
     have hen' : EnB wr G e := hen
     by_cases hxe : x < e.2.1
     ·obtain ⟨hms, hem⟩ := unhide HMOVE x l1 r e (unhide HSTP) hxe
      have hin := unhide HIN e hem
      obtain ⟨X, rfl⟩ := Int.eq_ofNat_of_zero_le (show 0 <= x by omega)
      rw [Int.toNat_natCast] at hms
      obtain ⟨u1, u2, u3, u4, u5⟩ := unhide HPUT e hem X (by omega) hxe
      have HO2 := hide (unhide HOB e hem wr hB2)
      have hst1 := unhide HBO e.1
      generalize objOf L e.1 = OB at *
      obtain ⟨ot, os⟩ := OB
      dsimp only at *
      have hstz : (strOf os).size = os.length := by rw [<- length_strL, hst1]
      have HST1 := hide hst1
      generalize strOf os = SS at *
      have HMS := hide hms
      have HU2 := hide u2
      have HU3 := hide u3
      have HU5 := hide u5
      have HU1 := hide u1
      have HEN2 := hide hen'
      have HB2 := hide hB2
      obtain ⟨_, i1, i2, _, i3, i4, i5, i6⟩ := hin
      obtain ⟨z1, z2, z3, z4⟩ := e
      dsimp only at *
      obtain ⟨d0, d1, d2, d3⟩ := hen'.cells
      dsimp only at d0 d1 d2 d3
      have hsz2 : (SS.size : Int) <= 1000 := by omega
      have hfit : X + SS.size <= N := by omega
      have hz0 : (z1 == 0) = false := by rw [beq_eq_false_iff_ne]; omega
      have HSZ := hide hstz
      clear hen hen' htn hB2 hkE hlt hk hms hst1 u1 u2 u3 u4 u5 hem HMOVE HNEXT HPUT HOB HBEST HSTOP HSTP hstz
      go_wp2_with fail
      refine (unhide HO2).mono ?_
      rintro e w2 ⟨rfl, hb2⟩
      have hen2 := (unhide HEN2).below hb2 (unhide HEN2).lt
      have hB3 := (unhide HB2).trans (hb2.mono (unhide HB2).size)
      clear d0 d1 d2 d3
      obtain ⟨d0, d1, d2, d3⟩ := hen2.cells
      have g1 := hen2.fr 1
      have hlt2 := hen2.lt
      have hen3 : EnB (w2.setCell ⟨G, 1, none⟩ (.int .i64 X)) G (z1, (X : Int), z3, z4) := heap_setCell_same w2 G 1 _ _ (.int .i64 X) hen2
      have hB4 : Below w.heap.size w (w2.setCell ⟨G, 1, none⟩ (.int .i64 X)) := hB3.setCell (by show w.heap.size <= G; omega) _
      obtain ⟨f0, f1, f2, f3⟩ := hen3.cells
      dsimp only at d0 d1 d2 d3 f0 f1 f2 f3
      have HPE4 := hide (unhide HPE z1 X z3 z4 _ hB4 (unhide HU1))
      have HB4 := hide hB4
      clear hen2 hen3 hb2 hB3 hB4 HO2 HPE HEN2 HB2 HU1
      go_wp2_with fail
      refine (unhide HPE4).mono ?_
      rintro e w5 ⟨g5, c5, rfl, ho5, hb5⟩
      have hB5 := (unhide HB4).trans (hb5.mono (unhide HB4).size)
      have ho5' := ho5.low (unhide HB4).size
      have HO5 := hide ho5'
      have HB5 := hide hB5
      have hg5 := ho5'.base
      clear ho5 hb5 hB5 ho5' HPE4 HB4 d0 d1 d2 d3 f0 f1 f2 f3 g1
      generalize putL L (z1, (X : Int), z3, z4) = P at *
      go_wp2_with fail
      go_loopw [12] (fun iv wr => ∃ k : Nat, k <= SS.size /\ iv = .int .i64 k /\ Own wr w.heap.size g5 c5 (layK P X (strL SS) k) /\ Below w.heap.size w wr) (fun iv _ => SS.size - (intOf iv).toNat)
      case atStart => exact ⟨0, Nat.zero_le _, rfl, unhide HO5, unhide HB5⟩
      case round =>
       obtain ⟨j, hj, rfl, ho, hbel⟩ := hrel
       by_cases hjl : j < SS.size
       ·have hcl := ho.cell (X + j) (by rw [length_layK, unhide HU2]; omega)
        have hfz := ho.frozen (X + j)
        have HO6 : Hid (Own (wr.setCell ⟨g5, X + j, none⟩ (.int .u8 (SS[j].toNat : Int))) w.heap.size g5 c5 (layK P X (strL SS) (j + 1))) := hide (by
         have := ho.set (X + j) ((strL SS).getD j 0)
         rw [strL_getD SS j hjl] at this
         unfold layK
         rw [strL_getD SS j hjl]
         exact this)
        have HB6 : Hid (Below w.heap.size w (wr.setCell ⟨g5, X + j, none⟩ (.int .u8 (SS[j].toNat : Int)))) := hide (hbel.setCell hg5 _)
        clear ho hbel HO5 HB5
        generalize (layK P X (strL SS) j).getD (X + j) 0 = x0 at *
        go_wp2
        go_roundw
        case rel => exact ⟨j + 1, by omega, by go_num, unhide HO6, unhide HB6⟩
        case measure => simp [intOf]; omega
       ·obtain rfl : j = SS.size := by omega
        have e9 : SS.size = (strL SS).length := (length_strL SS).symm
        have hfin : layK P X (strL SS) SS.size = mvB L z1 X := by
         rw [e9, layK_splice P X (strL SS) (by rw [<- e9, unhide HU2]; omega), unhide HU3, unhide HST1]
        rw [hfin] at ho
        have hlm : (mvB L z1 X).length = N := by rw [<- hfin, length_layK, unhide HU2]
        have HO6 := hide (ho.bs (unhide HU5) (by rw [hlm]; omega))
        have HB6 := hide hbel
        have HLM := hide hlm
        clear ho hbel HO5 HB5 e9 hfin hlm
        go_wp2
        go_ret2
        refine ⟨some ⟨g5, 0, none⟩, c5, by rw [unhide HMS]; rfl, ?_, unhide HB6, .inr (Fr.at hg5)⟩
        rw [unhide HMS]
        exact unhide HO6
     ·obtain ⟨hnx, hex, hez⟩ := unhide HNEXT x l1 r e (unhide HSTP) (by omega)
      have hem : e ∈ EN := by
       have h1 := unhide HBEST x l1 (e :: r) (unhide HSTP)
       exact bs_mem EN e h1
      have hin := unhide HIN e hem
      obtain ⟨d0, d1, d2, d3⟩ := hen'.cells
      have HNX := hide hnx
      have HB2 := hide hB2
      obtain ⟨_, i1, i2, _, i3, i4, i5, i6⟩ := hin
      obtain ⟨z1, z2, z3, z4⟩ := e
      dsimp only at *
      have hz0 : (z1 == 0) = false := by rw [beq_eq_false_iff_ne]; omega
      clear hen hen' htn hB2 hkE hlt hk hnx hem HMOVE HNEXT HPUT HOB HBEST HSTOP HSTP HPE hex
      go_wp2
      go_roundw
      case rel => exact ⟨x + z3, _, _, by go_num, unhide HNX, unhide HB2⟩
      case measure => simp [intOf]; omega
theorem any_snoc {l : List Int} {k : Nat} {e x : Int} (h : l[k]? = some e) : (l.take (k + 1)).any (fun y => y == x) = ((l.take k).any (fun y => y == x) || (e == x)) := by
 rw [List.take_add_one, h, List.any_append]
 simp
set_option maxRecDepth 100000 in
set_option maxHeartbeats 4000000 in
theorem sRefs_any (a : Option Addr) (cap : Nat) (L : List Int) (h : Int) (w : World) (hbs : Bs w a cap L) (hf : Fine L) (h1 : 1 <= h) (h2 : h <= 40) :
  Calls Tryz.prog 63 #[.slice a L.length cap, .int .i64 h] w fun e w' => ∃ v, e = .returned v /\ Lst inC 1 3 w' w.heap.size v (refsL L h) /\ Below w.heap.size w w' := by
 obtain ⟨i0, hi0, hz0, hz1, hz2⟩ := info_parts info_inS
 have hbl := hbs.2.2.1
 have hl := hf.len
 have HO := hide (rObject_any a cap L h w hbs hl.1 h1 h2 (fun ht => by have := hf.ent h1 h2 ht; unfold InL; omega))
 have HH := hide (fun (x : Int) (W : World) (hW : Below w.heap.size w W) => sHandle_any a cap L x W (hbs.below hW) hf.len0)
 have HBO := hide (byt_obj (L := L) (h := h) hbs.1)
 have HRL : Hid (refsL L h = refK L (objOf L h).2 (objOf L h).1.toNat) := hide rfl
 have ht15 : -1 <= (objOf L h).1 /\ (objOf L h).1 <= 15 := by
  unfold objOf
  by_cases ht : tagAt L h = 0
  ·rw [if_pos ht]; decide
  ·rw [if_neg ht]
   have := hf.ent h1 h2 ht
   unfold objE
   dsimp only
   omega
 have hol : (objOf L h).2.length <= 6400 := by
  unfold objOf
  split
  ·decide
  ·unfold objE partL
   dsimp only
   rw [List.length_take, List.length_drop]
   omega
 clear hbs hf hl
 generalize refsL L h = RF at *
 generalize (objOf L h).1 = t at *
 generalize (objOf L h).2 = l at *
 obtain ⟨s, hs⟩ : ∃ s, strOf l = s := ⟨_, rfl⟩
 rw [hs] at HO
 have hsl : strL s = l := by rw [<- hs]; exact strL_strOf l (unhide HBO)
 have hsz : s.size = l.length := by rw [<- hsl, length_strL]
 have HSL := hide hsl
 have hs64 : s.size <= 6400 := by omega
 have HSZ := hide hsz
 clear hs hsl hsz hol
 generalize L.length = N at *
 go_enter Tryz.func63, Tryz.ntmps63
 go_wp2_with fail
 refine (unhide HO).mono ?_
 rintro e w1 ⟨rfl, hb1⟩
 have HB1 := hide hb1
 clear hb1 HO
 go_wp2_with fail
 go_loopw [7, 8] (fun v iv wr => ∃ k : Nat, k <= 15 /\ k <= l.length /\ (k : Int) <= max t 0 /\ iv = .int .i64 k /\ Lst inC 1 3 wr w.heap.size v (refK L l k) /\ Below w.heap.size w wr) (fun _ iv _ => 16 - (intOf iv).toNat)
 case atStart => exact ⟨0, Nat.zero_le _, Nat.zero_le _, by omega, rfl, Lst.nil _ _, unhide HB1⟩
 case round =>
  obtain ⟨k, hk, hkl, hkt, rfl, hown, hbel⟩ := hrel
  obtain ⟨va, vm, vc, rfl⟩ := hown.shape
  by_cases hlt : (k : Int) < t /\ k < l.length
  ·obtain ⟨hk1, hk2⟩ := hlt
   have hi : k < s.size := by have := unhide HSZ; omega
   have hk3 : (k : Int) < (s.size : Int) := by omega
   obtain ⟨X, hX⟩ : ∃ X : Int, ((s[k]'hi).toNat : Int) = X := ⟨_, rfl⟩
   have hXl : l.getD k 0 = X := by rw [<- unhide HSL, strL_getD s k hi]; exact hX
   have hXb : 0 <= X /\ X <= 255 := by have := (unhide HBO).getD k; rw [hXl] at this; exact this
   have hT : refK L l (k + 1) = refStep L (refK L l k) X := by rw [refK_succ hk2, hXl]
   have HT := hide hT
   have hrl := refK_len L l k
   have HHX := hide (unhide HH X wr hbel)
   have HOWN := hide hown
   have HBEL := hide hbel
   have hkl2 : k + 1 <= l.length := hk2
   clear hXl hT hown hbel
   by_cases hc : chkE L X = 0
   ·rw [hc] at HHX
    have HT2 : Hid (refK L l (k + 1) = if (refK L l k).any (fun y => y == X) = true then refK L l k else refK L l k ++ [X]) := hide (by rw [unhide HT]; unfold refStep; rw [if_neg (fun h => h hc)])
    clear hc HT
    generalize hacc : refK L l k = acc at *
    have HACC := hide hacc
    clear hacc
    go_wp2_with fail
    refine (unhide HHX).mono ?_
    rintro e w2 ⟨rfl, hb2⟩
    have hown2 := (unhide HOWN).below hb2
    obtain ⟨va2, vc2, ev, hsl2⟩ := hown2.sls inC_len (by omega)
    simp only [Value.slice.injEq] at ev
    obtain ⟨rfl, rfl, rfl⟩ := ev
    have HSL2 := hide hsl2
    have HO2 := hide hown2
    have HB2 := hide ((unhide HBEL).trans (hb2.mono (unhide HBEL).size))
    have hcap2 := hsl2.2.2.1
    clear hown2 hsl2 hb2 HHX HOWN HBEL
    go_wp2_with fail
    go_loop [11, 12] (fun hv jv => ∃ j : Nat, j <= acc.length /\ jv = .int .i64 j /\ hv = .bool ((acc.take j).any (fun y => y == X))) (fun _ jv => acc.length - (intOf jv).toNat)
    case atStart => exact ⟨0, Nat.zero_le _, rfl, rfl⟩
    case round =>
     obtain ⟨j, hj, rfl, rfl⟩ := hrel
     by_cases hjl : j < acc.length
     ·have hne : acc ≠ [] := by intro e; rw [e] at hjl; simp at hjl
      obtain ⟨b3, o3, rfl, hc3⟩ := (unhide HSL2).2.2.2 hne
      obtain ⟨y, hy⟩ : ∃ y, acc[j]? = some y := ⟨acc[j], List.getElem?_eq_getElem hjl⟩
      have q0 := Sls.num (cap := 0) hc3 hy
      have HSN := hide (any_snoc (x := X) hy)
      clear hc3 hy hne
      generalize (acc.take j).any (fun y => y == X) = hd at *
      cases hd with
      | true =>
       go_wp2
       go_round
       case rel => exact ⟨j + 1, by omega, by go_num, by rw [unhide HSN, Bool.true_or]⟩
       case measure => simp [intOf]; omega
      | false =>
       go_wp2
       go_round
       case rel => exact ⟨j + 1, by omega, by go_num, by rw [unhide HSN, Bool.false_or]⟩
       case measure => simp [intOf]; omega
     ·obtain rfl : j = acc.length := by omega
      rw [List.take_length]
      generalize acc.any (fun y => y == X) = hd at *
      cases hd with
      | true =>
       rw [if_pos rfl] at HT2
       go_wp2
       go_roundw
       case rel => exact ⟨k + 1, by omega, by omega, by omega, by go_num, by rw [unhide HT2]; exact unhide HO2, unhide HB2⟩
       case measure => simp [intOf]; omega
      | false =>
       rw [if_neg (by simp)] at HT2
       have HO3 := hide ((unhide HO2).below ((Below.refl _ w2).alloc (Nat.le_refl _) (.cells #[.int .i64 X] 3)))
       have HB3 := hide ((unhide HB2).alloc (unhide HB2).size (.cells #[.int .i64 X] 3))
       have HGN : Hid ((w2.alloc (.cells #[.int .i64 X] 3)).heap[w2.heap.size]? = some (.cells (inC X).toArray 3 (0, 0))) := hide (heap_alloc_new w2 _)
       have hsz2 := (unhide HB2).size
       clear HO2 HB2 HSL2
       go_wp2_with (at_builtin; refine wpList_append_lst rfl _ _ 47 rfl w.heap.size i0 (.int .i64 0) 8 Tryz.underlying47 hi0 hz0 hz1 hz2 rfl (by decide) (by decide) _ _ rfl (unhide HO3) w2.heap.size X rfl (unhide HGN) rfl (inC_one _) (by omega) (by simp; omega) ?_)
       intro v9 w9 hown9 hb9
       rw [<- unhide HT2] at hown9
       have HO9 := hide hown9
       have HB9 := hide ((unhide HB3).trans hb9)
       obtain ⟨a9, m9, c9, rfl⟩ := hown9.shape
       clear hown9 hb9 HO3 HB3 HGN
       go_wp2
       go_roundw
       case rel => exact ⟨k + 1, by omega, by omega, by omega, by go_num, unhide HO9, unhide HB9⟩
       case measure => simp [intOf]; omega
   ·have HT2 : Hid (refK L l (k + 1) = refK L l k) := hide (by rw [unhide HT]; unfold refStep; rw [if_pos hc])
    have hcb : (chkE L X == 0) = false := beq_eq_false_iff_ne.2 hc
    clear hc HT
    generalize chkE L X = CC at *
    go_wp2_with fail
    refine (unhide HHX).mono ?_
    rintro e w2 ⟨rfl, hb2⟩
    have HO2 := hide ((unhide HOWN).below hb2)
    have HB2 := hide ((unhide HBEL).trans (hb2.mono (unhide HBEL).size))
    clear hb2 HHX HOWN HBEL
    go_wp2
    go_roundw
    case rel => exact ⟨k + 1, by omega, by omega, by omega, by go_num, by rw [unhide HT2]; exact unhide HO2, unhide HB2⟩
    case measure => simp [intOf]; omega
  ·have hfin : RF = refK L l k := by
    rw [unhide HRL]
    by_cases hq : (k : Int) < t
    ·have : k = l.length := by omega
     rw [this]
     exact refK_all (by omega)
    ·have : t.toNat = k := by omega
     rw [this]
   have HFIN := hide hfin
   have HOWN := hide hown
   have HBEL := hide hbel
   have hcase : ¬ (k : Int) < t \/ ((k : Int) < t /\ ¬ (k : Int) < (s.size : Int)) := by have := unhide HSZ; omega
   clear hfin hown hbel hlt
   rcases hcase with hc | ⟨hc, hc2⟩
   all_goals
    go_wp2
    go_ret
    exact ⟨_, rfl, by rw [unhide HFIN]; exact unhide HOWN, unhide HBEL⟩
set_option maxHeartbeats 1000000 in
theorem sLess_any (a1 a2 : Option Addr) (c1 c2 : Nat) (A B : List Int) (w : World) (hA : Sls inC 1 w a1 c1 A) (hB : Sls inC 1 w a2 c2 B) :
  Calls Tryz.prog 64 #[.slice a1 A.length c1, .slice a2 B.length c2] w fun e w' => e = .returned (.bool (wLess A B)) /\ ∃ n, w' = w.drewN n := by
 have hla := hA.2.2.1
 have hlb := hB.2.2.1
 by_cases hl : A.length = B.length
 ·have e1 : wLess A B = lexL A B := by unfold wLess; rw [if_pos hl]
  rw [e1, <- hl]
  have HA := hide hA
  have HB := hide hB
  have HL := hide hl
  obtain ⟨R, hR⟩ : ∃ R, lexL A B = R := ⟨_, rfl⟩
  rw [hR]
  have HR : Hid (lexL (A.drop 0) (B.drop 0) = R) := hide hR
  clear hA hB hl e1 hR hlb
  go_enter Tryz.func64, Tryz.ntmps64
  go_wp2_with fail
  go_loopw [5] (fun iv wr => ∃ k n : Nat, k <= A.length /\ iv = .int .i64 k /\ lexL (A.drop k) (B.drop k) = R /\ wr = w.drewN n) (fun iv _ => A.length - (intOf iv).toNat)
  case atStart => exact ⟨0, 0, Nat.zero_le _, rfl, unhide HR, rfl⟩
  case round =>
   obtain ⟨k, n, hk, rfl, hrest, rfl⟩ := hrel
   by_cases hlt : k < A.length
   ·have hltB : k < B.length := by have := unhide HL; omega
    have hneA : A ≠ [] := by intro e; rw [e] at hlt; simp at hlt
    have hneB : B ≠ [] := by intro e; rw [e] at hltB; simp at hltB
    obtain ⟨b1, o1, rfl, hc1⟩ := (unhide HA).2.2.2 hneA
    obtain ⟨b2, o2, rfl, hc2⟩ := (unhide HB).2.2.2 hneB
    obtain ⟨x, hx⟩ : ∃ x, A[k]? = some x := ⟨A[k], List.getElem?_eq_getElem hlt⟩
    obtain ⟨y, hy⟩ : ∃ y, B[k]? = some y := ⟨B[k], List.getElem?_eq_getElem hltB⟩
    have q1 := Sls.num (cap := 0) hc1 hx
    have q2 := Sls.num (cap := 0) hc2 hy
    have hstep := lexL_at hx hy
    rw [hrest] at hstep
    clear hc1 hc2 hx hy hneA hneB hltB hrest
    by_cases hxy : x = y
    ·subst hxy
     rw [if_pos rfl] at hstep
     have HST := hide hstep
     clear hstep
     go_wp2_with fail
     go_quiet (fail)
     go_wp2
     go_roundw
     case rel => exact ⟨k + 1, n + nq, by omega, by go_num, (unhide HST).symm, rfl⟩
     case measure => simp [intOf]; omega
    ·rw [if_neg hxy] at hstep
     have HST := hide hstep
     have hxb : (x == y) = false := beq_eq_false_iff_ne.2 hxy
     clear hstep
     go_wp2_with fail
     go_quiet (fail)
     go_wp2_with fail
     go_quiet (fail)
     go_wp2
     go_ret
     refine ⟨by rw [unhide HST]; rfl, ?_⟩
     exact ⟨_, by rw [World.drewN_drewN, World.drewN_drewN]⟩
   ·obtain rfl : k = A.length := by omega
    have hf : R = false := by
     rw [<- hrest, List.drop_length]
     cases B.drop A.length <;> rfl
    have HF := hide hf
    clear hrest hf
    go_wp2
    go_ret
    exact ⟨by rw [unhide HF]; rfl, n, rfl⟩
 ·have e1 : wLess A B = decide (A.length < B.length) := by unfold wLess; rw [if_neg hl]
  rw [e1]
  have hlI : ((A.length : Int) == (B.length : Int)) = false := beq_eq_false_iff_ne.2 (by omega)
  clear hA hB e1 hl
  generalize A.length = NA at *
  generalize B.length = NB at *
  go_enter Tryz.func64, Tryz.ntmps64
  go_wp2
  go_ret
  exact ⟨rfl, 0, rfl⟩
def sIV (r : Option Addr × Nat × List Int) : Value := .slice r.1 r.2.2.length r.2.1
def Wt (w : World) (t : Nat) (W : List (List Int)) : Prop :=
 ∃ rs : List (Option Addr × Nat × List Int), rs.map (·.2.2) = W /\ w.heap[t]? = some (.cells (rs.map sIV).toArray 47 (0, 0)) /\ ∀ r ∈ rs, Sls inC 1 w r.1 r.2.1 r.2.2
theorem info_ints : (Tryz.prog.info? 47).map (fun i => (i.zero, i.size, i.bytes)) = some (some (.slice none 0 0), 1, 24) := by kernel_rfl
theorem Sls.same {α : Type} {enc : α -> List Value} {k : Nat} {w w' : World} {a : Option Addr} {cap : Nat} {l : List α} (h : Sls enc k w a cap l) (hs : ∀ b off, a = some ⟨b, off, none⟩ -> l ≠ [] -> w'.heap[b]? = w.heap[b]?) : Sls enc k w' a cap l := by
 obtain ⟨h1, h2, h3, h4⟩ := h
 refine ⟨h1, h2, h3, fun hne => ?_⟩
 obtain ⟨b, off, rfl, hc⟩ := h4 hne
 refine ⟨b, off, rfl, fun i x hx j u hj => ?_⟩
 have q := hc i x hx j u hj
 exact (World.cell?_of_block (a := ⟨b, off + i * k + j, none⟩) (hs b off rfl hne)).trans q
section
variable {w w' : World} {t : Nat} {W : List (List Int)}
theorem Wt.lt (h : Wt w t W) : t < w.heap.size := by
 obtain ⟨rs, _, h1, _⟩ := h
 exact (Array.getElem?_eq_some_iff.1 h1).1
theorem Wt.below (h : Wt w t W) (hb : Below w.heap.size w w') : Wt w' t W := by
 have hl := h.lt
 obtain ⟨rs, h0, h1, h2⟩ := h
 exact ⟨rs, h0, (hb.block t hl).trans h1, fun r hr => (h2 r hr).below hb⟩
theorem Wt.fr (h : Wt w t W) (i : Nat) : w.frozen? ⟨t, i, none⟩ = false := by
 obtain ⟨rs, _, h1, _⟩ := h
 exact frozen_of_row w t i _ _ h1
theorem Wt.at (h : Wt w t W) {i : Nat} (hi : i < W.length) : ∃ a c, w.cell? ⟨t, i, none⟩ = some (.slice a (W.getD i []).length c) /\ Sls inC 1 w a c (W.getD i []) := by
 obtain ⟨rs, rfl, h1, h2⟩ := h
 rw [List.length_map] at hi
 have e : (rs.map (·.2.2)).getD i [] = rs[i].2.2 := by simp [List.getD, hi]
 rw [e]
 refine ⟨rs[i].1, rs[i].2.1, ?_, h2 _ (List.getElem_mem hi)⟩
 rw [cell_of_row _ _ _ _ _ _ h1]
 simp [sIV, hi]
theorem Wt.apart (h : Wt w t W) {a : Option Addr} {c : Nat} {l : List Int} (hs : Sls inC 1 w a c l) : ∀ b off, a = some ⟨b, off, none⟩ -> l ≠ [] -> b ≠ t := by
 rintro b off rfl hne rfl
 obtain ⟨rs, _, h1, _⟩ := h
 obtain ⟨b', off', e, hc⟩ := hs.2.2.2 hne
 simp only [Option.some.injEq, Addr.mk.injEq, and_true] at e
 obtain ⟨rfl, rfl⟩ := e
 cases l with
 | nil => exact hne rfl
 | cons x r =>
  have q := hc 0 x rfl 0 _ rfl
  rw [cell_of_row _ _ _ _ _ _ h1] at q
  rw [List.getElem?_toArray, List.getElem?_map] at q
  cases hr : rs[off + 0 * 1 + 0]? with
  | none => rw [hr] at q; simp at q
  | some r => rw [hr] at q; simp [sIV] at q
theorem Wt.set (h : Wt w t W) {i : Nat} (hi : i < W.length) {a : Option Addr} {c : Nat} {l : List Int} (hs : Sls inC 1 w a c l) : Wt (w.setCell ⟨t, i, none⟩ (.slice a l.length c)) t (W.set i l) := by
 have hap : ∀ {a : Option Addr} {c : Nat} {l : List Int}, Sls inC 1 w a c l -> Sls inC 1 (w.setCell ⟨t, i, none⟩ (.slice a l.length c)) a c l := fun {a c l} hs => hs.same (fun b off e hne => heap_setCell_other _ _ _ _ (h.apart hs b off e hne))
 have hap2 : ∀ {a' : Option Addr} {c' : Nat} {l' : List Int}, Sls inC 1 w a' c' l' -> Sls inC 1 (w.setCell ⟨t, i, none⟩ (.slice a l.length c)) a' c' l' := fun {a' c' l'} hs' => hs'.same (fun b off e hne => heap_setCell_other _ _ _ _ (h.apart hs' b off e hne))
 obtain ⟨rs, rfl, h1, h2⟩ := h
 rw [List.length_map] at hi
 refine ⟨rs.set i (a, c, l), by rw [List.map_set], ?_, fun r hr => ?_⟩
 ·rw [heap_setCell_same w t i _ _ _ h1, List.map_set]
  simp [sIV]
 ·rcases List.mem_or_eq_of_mem_set hr with hr | rfl
  ·exact hap2 (h2 r hr)
  ·exact hap2 hs
def rdI (w : World) (v : Value) : List Int := match v with
 | .slice (some a) n _ => (List.range n).map (fun i => match w.cell? ⟨a.block, a.off + i, none⟩ with | some (.int _ z) => z | _ => 0)
 | _ => []
theorem rdI_sls {a : Option Addr} {c : Nat} {l : List Int} (h : Sls inC 1 w a c l) : rdI w (.slice a l.length c) = l := by
 by_cases hne : l = []
 ·subst hne
  cases a <;> rfl
 ·obtain ⟨b, off, rfl, hc⟩ := h.2.2.2 hne
  apply List.ext_getElem
  ·simp [rdI]
  ·intro i h1 h2
   have q := Sls.num (cap := c) hc (List.getElem?_eq_getElem h2)
   simp only [rdI, List.getElem_map, List.getElem_range]
   rw [q]
def muO (w : World) (t : Nat) : Nat := match w.heap[t]? with
 | some (.cells cur _ _) => muW (cur.toList.map (rdI w))
 | _ => 0
theorem Wt.mu (h : Wt w t W) : muO w t = muW W := by
 obtain ⟨rs, rfl, h1, h2⟩ := h
 unfold muO
 rw [h1]
 dsimp only
 congr 1
 rw [List.map_map]
 exact List.map_congr_left (fun r hr => rdI_sls (h2 r hr))
end
theorem made_rows (n : Nat) : madeCells (Value.slice none 0 0).cells n = ((List.replicate n ((none, 0, []) : Option Addr × Nat × List Int)).map sIV).toArray := by
 apply Array.toList_inj.1
 apply List.ext_getElem
 ·simp [madeCells]
 ·intro j h1 h2
  simp [madeCells, Value.cells, Nat.mod_one, sIV]
theorem wpList_make_ways {w : World} {ops : Array Oper} {rest : List Oper} {o : Oper} {a : Act} {Q : Exit -> Act -> World -> Prop}
  (hg : o.guard = none) (l c : Operand) (t : TypeId) (hop : o.op = Op.makeSlice t l c) (h1 : Tryz.prog.underlying t = some (.slice 47))
  (kl kc : IntKind) (L C : Int) (hl : a.eval l = .int kl L) (hc : a.eval c = .int kc C) (hL : L = 41) (hC : C = 41)
  (hK : ∀ w', Wt w' w.heap.size (List.replicate 41 []) -> w'.heap.size = w.heap.size + 1 -> Below w.heap.size w w' -> wpList Tryz.prog ops Q rest (a.put o.dst (.slice (some ⟨w.heap.size, 0, none⟩) 41 41)) w') :
  wpList Tryz.prog ops Q (o :: rest) a w := by
 obtain ⟨i, h2, h3, h4, h5⟩ := info_parts info_ints
 refine wpList_plain hg fun K hK' => ?_
 have hrun := run_make (P := Tryz.prog) w t 47 i _ h1 h2 h3 kl kc 41 41 (by omega) (by omega) (by rw [h5]; omega) (by omega)
 subst hL
 subst hC
 unfold Oper.wp
 simp [execOp, hop, hl, hc, hrun, Result.andThen]
 refine hK' _ _ (hK _ ⟨List.replicate 41 (none, 0, []), by simp, ?_, fun r hr => ?_⟩ (by simp) ((Below.refl _ _).alloc (Nat.le_refl _) _))
 ·rw [heap_alloc_new, h4, Nat.mul_one]
  exact congrArg (fun x => some (Obj.cells x 47 (0, 0))) (made_rows 41)
 ·rw [(List.mem_replicate.1 hr).2]
  exact ⟨Nat.le_refl _, fun _ => rfl, Nat.zero_le _, fun h => absurd rfl h⟩
theorem stR_snoc (s : List (List Int) × Bool) (h : Int) {rs : List Int} {j : Nat} {x : Int} (hx : rs[j]? = some x) : stR s h (rs.take (j + 1)) = st1 (stR s h (rs.take j)) h x := by
 unfold stR
 rw [List.take_add_one, hx, List.foldl_append]
 rfl
theorem gW_nat (W : List (List Int)) (j : Nat) : gW W (j : Int) = W.getD j [] := by unfold gW; rw [Int.toNat_natCast]
theorem wi_take {R : List Int} {k : Nat} {x : Int} (hx : R[k]? = some x) : wi (R.take (k + 1)) = (wi (R.take k)).set x.toNat [x] := by
 rw [List.take_add_one, hx]
 exact wi_snoc _ _
def boN (v : Value) : Nat := match v with | .bool true => 1 | _ => 0
theorem Sls.turnT {α : Type} {enc : α -> List Value} {k : Nat} {w w' : World} {t : Nat} {a : Option Addr} {cap : Nat} {l : List α} (h : Sls enc k w a cap l) (hk : ∀ x, (enc x) ≠ []) (ht : Turn (fun k => k = t) (fun k => k = t) w w') (hn : ∀ b off, a = some ⟨b, off, none⟩ -> l ≠ [] -> b ≠ t) : Sls enc k w' a cap l := by
 refine h.same (fun b off e hne => ht.block b ?_ (hn b off e hne))
 obtain ⟨b', off', e', hc⟩ := h.2.2.2 hne
 rw [e] at e'
 simp only [Option.some.injEq, Addr.mk.injEq, and_true] at e'
 obtain ⟨rfl, rfl⟩ := e'
 cases l with
 | nil => exact absurd rfl hne
 | cons x r =>
  cases hx : enc x with
  | nil => exact absurd hx (hk x)
  | cons u v =>
   have q := hc 0 x rfl 0 u (by rw [hx]; rfl)
   exact block_lt_of_cell q
theorem ne_inC (x : Int) : inC x ≠ [] := by unfold inC; simp
theorem ne_roC (x : (ByteArray × Int)) : roC x ≠ [] := by unfold roC; simp
theorem sls_one (w : World) (x : Int) : Sls inC 1 (w.alloc (.cells #[.int .i64 x] 3)) (some ⟨w.heap.size, 0, none⟩) 1 [x] := by
 refine ⟨Nat.le_refl _, fun e => (by cases e), by simp, fun _ => ⟨w.heap.size, 0, rfl, fun i y hy j u hj => ?_⟩⟩
 have hi : i = 0 := by have := (List.getElem?_eq_some_iff.1 hy).1; simp at this; exact this
 subst hi
 obtain rfl : x = y := by simpa using hy
 have hj0 : j = 0 := by have := (List.getElem?_eq_some_iff.1 hj).1; simp [inC] at this; exact this
 subst hj0
 rw [cell_of_row _ _ _ _ _ _ (heap_alloc_new w _)]
 simpa [inC] using hj
set_option maxRecDepth 100000 in
set_option maxHeartbeats 8000000 in
theorem sWays_any (a : Option Addr) (cap : Nat) (L : List Int) (w : World) (hbs : Bs w a cap L) (hf : Fine L) :
  Calls Tryz.prog 38 #[.slice a L.length cap] w fun e w' => ∃ t W, e = .returned (.slice (some ⟨t, 0, none⟩) 41 41) /\ Wt w' t W /\ W.length = 41 /\ (∀ h, 0 <= h -> gW W h = wyL L h) /\ w.heap.size <= t /\ Below w.heap.size w w' := by
 obtain ⟨i0, hi0, hz0, hz1, hz2⟩ := info_parts info_inS
 have hl := hf.len
 have hbl := hbs.2.2.1
 have hr := rtH_dg hf
 have hrf := refsL_dg L
 have HR := hide (fun (W : World) (hW : Below w.heap.size w W) => rRoots_any a cap L W (hbs.below hW) hl.1 hl.2)
 have HRE := hide (fun (h : Int) (W : World) (hW : Below w.heap.size w W) (h1 : 1 <= h) (h2 : h <= 40) => sRefs_any a cap L h W (hbs.below hW) hf h1 h2)
 have HRH : Hid (rtH L = (rootsK L 8).map (·.2)) := hide rfl
 have hrl := rootsK_len L 8
 have HFIN : Hid (∀ W, WInv (rtH L) (refsL L) W -> (stP (refsL L) W 40).2 = false -> ∀ h, gW W h = wyL L h) := hide (fun W I hz h => (still_of hr hrf I hz).eq hr hrf h)
 have HPAS : Hid (∀ W, WInv (rtH L) (refsL L) W -> ∀ k, k <= 40 -> Prog (rtH L) (refsL L) (W, false) (stP (refsL L) W k)) := hide (fun W I k hk => (stP_prog hr hrf I k hk).1)
 have HSTR : Hid (∀ (h : Int) (s : List (List Int) × Bool), 0 <= h -> WInv (rtH L) (refsL L) s.1 -> gW s.1 h ≠ [] -> ∀ j, Prog (rtH L) (refsL L) s (stR s h ((refsL L h).take j))) := hide (fun h s hh I hw j => (stR_prog hr hrf hh _ s I hw (fun x hx => List.mem_of_mem_take hx)).1)
 have HDW : Hid (∀ W, WInv (rtH L) (refsL L) W -> ∀ h, 0 <= h -> Dg (gW W h) /\ (gW W h).length <= 41) := hide (fun W I h hh => by
  refine ⟨?_, ?_⟩
  ·by_cases e : gW W h = []
   ·rw [e]; intro x hx; cases hx
   ·exact ((I.way h hh e).dg hr hrf).1
  ·have h1 := I.short h hh
   have h2 := cnW_le W
   rw [I.len] at h2
   omega)
 have HW0 := hide (wi_inv (refs := refsL L) hr)
 have HRD := hide hr
 have HRF := hide hrf
 have HRL : Hid (∀ h, 1 <= h -> h <= 40 -> (refsL L h).length <= 15) := hide (fun h h1 h2 => by
  refine Nat.le_trans (refK_len L _ _) ?_
  unfold objOf
  split
  ·decide
  ·rename_i ht
   have := hf.ent h1 h2 ht
   unfold objE
   dsimp only
   omega)
 clear hbs hf hr hrf
 generalize rtH L = RH at *
 generalize refsL L = rf at *
 generalize rootsK L 8 = R at *
 generalize hN : L.length = N at *
 clear hN
 go_enter Tryz.func38, Tryz.ntmps38
 go_wp2_with (at_make; refine wpList_make_ways rfl _ _ 96 rfl Tryz.underlying96 _ _ _ _ rfl rfl rfl rfl ?_)
 intro w1 hwt1 hs1 hb1
 have HR1 := hide (unhide HR w1 hb1)
 have HWT1 : Hid (Wt w1 w.heap.size (wi (RH.take 0))) := hide hwt1
 have HB1 := hide hb1
 obtain ⟨t, ht⟩ : ∃ t, t = w.heap.size := ⟨_, rfl⟩
 rw [<- ht] at HWT1 ⊢
 have htl : t < w1.heap.size := by omega
 have HTE := hide ht
 clear hwt1 hb1 HR hs1 ht
 go_wp2_with fail
 refine (unhide HR1).mono ?_
 rintro e w2 ⟨v2, rfl, hl2, hb2⟩
 have HBLK := hide (fun k (hk : v2.ownBlock = some k) => hl2.block k hk)
 obtain ⟨a2, c2, rfl, hsl2⟩ := hl2.sls roC_len (by omega)
 have HWT2 := hide ((unhide HWT1).below hb2)
 have HB2 := hide ((unhide HB1).trans (hb2.mono (unhide HB1).size))
 have HAP : Hid (∀ b off, a2 = some ⟨b, off, none⟩ -> R ≠ [] -> b ≠ t) := hide (fun b off e _ => by
  have := unhide HBLK b (by rw [e]; rfl)
  omega)
 have HS2 := hide hsl2
 have hcl2 := hsl2.2.2.1
 have htl2 : t < w2.heap.size := (unhide HWT2).lt
 clear hl2 hb2 hsl2 HR1 HWT1 HB1 HBLK
 go_wp2_with fail
 go_loopw [5] (fun iv wr => ∃ k : Nat, k <= R.length /\ iv = .int .i64 (k : Int) /\ Wt wr t (wi (RH.take k)) /\ Turn (fun k => k = t) (fun k => k = t) w2 wr) (fun iv _ => R.length - (intOf iv).toNat)
 case atStart => exact ⟨0, Nat.zero_le _, rfl, unhide HWT2, Turn.refl _ _⟩
 case round =>
  obtain ⟨k, hk, rfl, hwt, htn⟩ := hrel
  by_cases hlt : k < R.length
  ·obtain ⟨b1, o1, rfl, hc1⟩ := ((unhide HS2).turnT ne_roC htn (unhide HAP)).2.2.2 (by intro e; rw [e] at hlt; simp at hlt)
   obtain ⟨r, hr⟩ : ∃ r, R[k]? = some r := ⟨R[k], List.getElem?_eq_getElem hlt⟩
   obtain ⟨q0, q1⟩ := Sls.root (cap := 0) hc1 hr
   have hrx : RH[k]? = some r.2 := by rw [unhide HRH, List.getElem?_map, hr]; rfl
   have hxb := unhide HRD r.2 (List.mem_of_getElem? hrx)
   have hwx := wi_take hrx
   obtain ⟨s, x⟩ := r
   dsimp only at *
   obtain ⟨X, rfl⟩ := Int.eq_ofNat_of_zero_le (show 0 <= x by omega)
   rw [Int.toNat_natCast] at hwx
   have hwl : (wi (RH.take k)).length = 41 := wi_len _
   obtain ⟨ta, tc, htc, _⟩ := hwt.at (i := X) (by omega)
   have htf := hwt.fr X
   have hwt2 := (hwt.below ((Below.refl _ _).alloc (Nat.le_refl _) (.cells #[.int .i64 (X : Int)] 3))).set (i := X) (by omega) (sls_one _ (X : Int))
   rw [<- hwx, World.setCell_alloc_past _ _ _ _ hwt.lt] at hwt2
   have hwt2 := hwt2.below (below_drew (Below.refl _ _))
   have hb3 := htn.trans (((Turn.setCell (S := fun k => k = t) wr (a := ⟨t, X, none⟩) (.slice (some ⟨wr.heap.size, 0, none⟩) 1 1) rfl).trans (Turn.alloc _ _ (.cells #[.int .i64 (X : Int)] 3))).trans (Turn.drew _ _))
   have HTN3 := hide hb3
   have hneR : R ≠ [] := by intro e; rw [e] at hlt; simp at hlt
   have hne : b1 ≠ t := unhide HAP b1 o1 rfl hneR
   have HG2 : Hid (b1 < w2.heap.size) := hide (by
    obtain ⟨b', off', e', hc'⟩ := (unhide HS2).2.2.2 hneR
    simp only [Option.some.injEq, Addr.mk.injEq, and_true] at e'
    obtain ⟨rfl, rfl⟩ := e'
    exact block_lt_of_cell (hc' k _ hr 0 _ rfl))
   have htl3 := hwt.lt
   have HWT3 := hide hwt2
   have hq9 := ((unhide HTN3).block b1 (unhide HG2) hne)
   have g1 := block_lt_of_cell q1
   have hq8 : (((wr.setCell ⟨t, X, none⟩ (.slice (some ⟨wr.heap.size, 0, none⟩) 1 1)).alloc (.cells #[.int .i64 (X : Int)] 3)).drew).cell? ⟨b1, o1 + k * 2 + 1, none⟩ = some (.int .i64 (X : Int)) :=
    (World.cell?_of_block (a := ⟨b1, o1 + k * 2 + 1, none⟩) (hq9.trans (htn.block b1 (unhide HG2) hne).symm)).trans q1
   clear hq9 hb3
   have x0 : (0 : Int) <= (X : Int) := by omega
   have x1 : (X : Int) < 41 := by omega
   clear hwt2 htn hwt hc1 hr hrx hwx hwl q0
   go_wp2_with fail
   go_region_held3 (fun w' => w'.cell? ⟨b1, o1 + k * 2 + 1, none⟩ = some (.int .i64 (X : Int))) (first | go_keep | exact hq8) (fail)
   generalize (((wr.setCell ⟨t, X, none⟩ (.slice (some ⟨wr.heap.size, 0, none⟩) 1 1)).alloc (.cells #[.int .i64 (X : Int)] 3)).drew) = w9 at *
   clear hq8 htc htf
   go_wp2
   go_roundw
   case rel => exact ⟨k + 1, by omega, by go_num, unhide HWT3, unhide HTN3⟩
   case measure => simp [intOf]; omega
  ·have hkR : k = R.length := by omega
   have hRl : RH.length = R.length := by rw [unhide HRH, List.length_map]
   have hwi : wi (RH.take k) = wi RH := by rw [hkR, <- hRl, List.take_length]
   rw [hwi] at hwt
   have hge : ¬ ((k : Int) < (R.length : Int)) := by omega
   have HWTW := hide hwt
   have HBW := hide ((unhide HB2).trans (htn.below (B := w.heap.size) (fun k hk => by rw [hk, unhide HTE]; exact Nat.le_refl _) (unhide HB2).size))
   clear hwt htn hkR hRl hwi hlt hk HWT2 HAP HS2 HRH HRD HB2
   generalize wi RH = Wz at *
   go_wp2_with fail
   go_loopw [6, 7, 8, 9, 10, 11] (fun bv _ _ _ _ _ wr => ∃ (b : Bool) (W : List (List Int)), bv = .bool b /\ WInv RH rf W /\ (b = false -> (stP rf W 40).2 = false) /\ Wt wr t W /\ Below w.heap.size w wr) (fun bv _ _ _ _ _ wr => 2 * muO wr t + boN bv)
   case atStart => exact ⟨true, Wz, rfl, unhide HW0, fun h => (by cases h), unhide HWTW, unhide HBW⟩
   case round =>
    obtain ⟨b, W, rfl, hI, hbf, hwt, hbel⟩ := hrel
    have hmu := hwt.mu
    cases b with
    | false =>
     have HX := hide (unhide HFIN W hI (hbf rfl))
     have HWT := hide hwt
     have HBEL := hide hbel
     have HLN := hide hI.len
     clear hI hbf hwt hbel hmu
     go_wp2
     go_ret
     exact ⟨t, W, rfl, unhide HWT, unhide HLN, fun h _ => unhide HX h, by rw [unhide HTE]; exact Nat.le_refl _, unhide HBEL⟩
    | true =>
     have HI := hide hI
     have HMU := hide hmu
     have HWT := hide hwt
     have HBEL := hide hbel
     have HP := hide (unhide HPAS W hI)
     have HST0 : Hid (stP rf W 0 = (W, false)) := hide rfl
     have HSTS : Hid (∀ k, stP rf W (k + 1) = stH rf (stP rf W k) ((k : Int) + 1)) := hide (fun k => rfl)
     obtain ⟨wa, hwa⟩ : ∃ wa, wa = wr := ⟨_, rfl⟩
     rw [<- hwa] at HMU
     have HWA := hide hwa
     clear hI hbf hwt hbel hmu hwa
     go_wp2_with fail
     generalize hsp : stP rf W = sp at *
     have HSP := hide hsp
     clear hsp
     go_loopw [6, 7, 8, 9, 10, 11] (fun bv hv _ _ _ _ wr => ∃ k : Nat, k <= 40 /\ hv = .int .i64 ((k : Int) + 1) /\ bv = .bool (sp k).2 /\ Wt wr t (sp k).1 /\ Below w.heap.size w wr) (fun _ hv _ _ _ _ _ => 41 - (intOf hv).toNat)
     case atStart => exact ⟨0, Nat.zero_le _, rfl, by rw [unhide HST0], by rw [unhide HST0]; exact unhide HWT, unhide HBEL⟩
     case round =>
      obtain ⟨k, hk, rfl, rfl, hwt, hbel⟩ := hrel
      by_cases hlt : k < 40
      ·obtain ⟨K, hK⟩ : ∃ K : Nat, K = k + 1 := ⟨_, rfl⟩
       have hKi : (k : Int) + 1 = (K : Int) := by omega
       rw [hKi]
       have hSS := unhide HSTS k
       rw [hKi] at hSS
       have hpr := unhide HP k hk
       have hIk := hpr.inv
       have hlen := hIk.len
       obtain ⟨ta, tc, htc, hts⟩ := hwt.at (i := K) (by omega)
       have HRE5 := hide (unhide HRE (K : Int) wr hbel (by omega) (by omega))
       have hrl5 := unhide HRL (K : Int) (by omega) (by omega)
       have k0 : (0 : Int) <= (K : Int) := by omega
       have k1 : (K : Int) < 41 := by omega
       have k2 : (K : Int) <= 40 := by omega
       have hgK : gW (sp k).1 (K : Int) = (sp k).1.getD K [] := gW_nat _ _
       have HK := hide hK
       have hgl := hts.2.2.1
       have HIK := hide hIk
       have HLEN := hide hlen
       have HBEL3 := hide hbel
       have HWT3 := hide hwt
       by_cases hg0 : (sp k).1.getD K [] = []
       ·have HE : Hid (sp (k + 1) = sp k) := hide (by rw [hSS]; unfold stH; rw [if_pos (by rw [hgK]; exact hg0)])
        rw [hg0] at htc
        have htc0 : wr.cell? ⟨t, K, none⟩ = some (.slice ta 0 tc) := htc
        clear hSS hpr hIk hlen htc hts hKi hK hwt hbel hgK hg0 hgl HRE5 hrl5 HIK
        go_wp2
        go_roundw
        case rel => exact ⟨k + 1, by omega, by have := unhide HK; go_num, by rw [unhide HE], by rw [unhide HE]; exact unhide HWT3, unhide HBEL3⟩
        case measure => simp [intOf]; have := unhide HK; omega
       ·have hpos : 0 < ((sp k).1.getD K []).length := List.length_pos_iff.2 hg0
        have hlz : (((((sp k).1.getD K []).length : Nat) : Int) == 0) = false := beq_eq_false_iff_ne.2 (by omega)
        have HE : Hid (sp (k + 1) = stR (sp k) (K : Int) (rf (K : Int))) := hide (by rw [hSS]; unfold stH; rw [if_neg (by rw [hgK]; exact hg0)])
        have HPJ := hide (unhide HSTR (K : Int) (sp k) k0 hIk (by rw [hgK]; exact hg0))
        have HDG := hide (fun x hx => unhide HRF (K : Int) x hx)
        clear hSS hpr hIk hlen hts hKi hK hwt hbel hgK hg0
        generalize ((sp k).1.getD K []).length = gl at *
        go_wp2_with fail
        refine (unhide HRE5).mono ?_
        rintro e w5 ⟨v5, rfl, hl5, hb5⟩
        obtain ⟨a5, c5, rfl, hsl5⟩ := hl5.sls inC_len (by omega)
        have HWT5 := hide ((unhide HWT3).below hb5)
        have HB5 := hide ((unhide HBEL3).trans (hb5.mono (unhide HBEL3).size))
        have HAP5 := hide ((unhide HWT5).apart hsl5)
        have HS5 := hide hsl5
        have hcl5 := hsl5.2.2.1
        clear hl5 hb5 hsl5 htc hlz hpos hgl HRE5 HWT3 HBEL3
        generalize rf (K : Int) = r at *
        have HR0 : Hid (stR (sp k) (K : Int) (r.take 0) = sp k) := hide rfl
        have HRS := hide (fun j x hx => stR_snoc (sp k) (K : Int) (rs := r) (j := j) (x := x) hx)
        generalize hsj : (fun j => stR (sp k) (K : Int) (r.take j)) = sj at *
        have HSJ : Hid (∀ j, stR (sp k) (K : Int) (r.take j) = sj j) := hide (fun j => by rw [<- hsj])
        clear hsj
        go_wp2_with fail
        go_loopw [6, 9, 10, 11] (fun bv iv _ _ wr => ∃ j : Nat, j <= r.length /\ iv = .int .i64 (j : Int) /\ bv = .bool (sj j).2 /\ Wt wr t (sj j).1 /\ Turn (fun k => k = t) (fun k => k = t) w5 wr) (fun _ iv _ _ _ => r.length - (intOf iv).toNat)
        case atStart => exact ⟨0, Nat.zero_le _, rfl, by rw [<- unhide HSJ, unhide HR0], by rw [<- unhide HSJ, unhide HR0]; exact unhide HWT5, Turn.refl _ _⟩
        case round =>
         obtain ⟨j, hj, rfl, rfl, hwt, htn⟩ := hrel
         by_cases hjl : j < r.length
         ·have hne : r ≠ [] := by intro e; rw [e] at hjl; simp at hjl
          have hS := (unhide HS5).turnT ne_inC htn (unhide HAP5)
          obtain ⟨b3, o3, rfl, hc3⟩ := hS.2.2.2 hne
          obtain ⟨x, hx⟩ : ∃ x, r[j]? = some x := ⟨r[j], List.getElem?_eq_getElem hjl⟩
          have hxb := unhide HDG x (List.mem_of_getElem? hx)
          obtain ⟨X, rfl⟩ := Int.eq_ofNat_of_zero_le (show 0 <= x by omega)
          have q0 := Sls.num (cap := 0) hc3 hx
          have hI := (unhide HPJ j).inv
          rw [unhide HSJ] at hI
          have hst := unhide HRS j _ hx
          rw [unhide HSJ, unhide HSJ] at hst
          have hl41 := hI.len
          obtain ⟨a1, c1, hk1, hs1⟩ := hwt.at (i := K) (by omega)
          obtain ⟨a3, c3, hk3, hs3⟩ := hwt.at (i := X) (by omega)
          have hfr := hwt.fr X
          obtain ⟨d1, d2⟩ := unhide HDW _ hI (K : Int) k0
          obtain ⟨d3, d4⟩ := unhide HDW _ hI (X : Int) (by omega)
          rw [gW_nat] at d1 d2 d3 d4
          have hshB : shB (sj j).1 (K : Int) (X : Int) = (decide ((sj j).1.getD X [] = []) || decide (rk ((sj j).1.getD K [] ++ [(X : Int)]) < rk ((sj j).1.getD X []))) := by unfold shB; rw [gW_nat, gW_nat]
          have hset : ((sj j).1.set (X : Int).toNat (gW (sj j).1 (K : Int) ++ [(X : Int)]), true) = ((sj j).1.set X ((sj j).1.getD K [] ++ [(X : Int)]), true) := by rw [gW_nat, Int.toNat_natCast]
          unfold st1 at hst
          rw [hshB, hset] at hst
          have HST := hide hst
          have HWT := hide hwt
          have HTN := hide htn
          have HD1 := hide d1
          have HD3 := hide d3
          have HS1 := hide hs1
          have HS3 := hide hs3
          have HX40 := hide hxb
          have x0 : (0 : Int) <= (X : Int) := by omega
          have x1 : (X : Int) < 41 := by omega
          have hlt5 : t < wr.heap.size := hwt.lt
          have g3 := block_lt_of_cell q0
          have hXl : X < (sj j).1.length := by omega
          clear hst hshB hset hwt htn hI hs1 hs3 hc3 hx hne hS hxb d1 d3
          generalize (sj j).1.getD K [] = gh at *
          generalize (sj j).1.getD X [] = gx at *
          generalize hsw : (sj j).1 = sw at *
          generalize hsb : (sj j).2 = sb at *
          have HSW := hide hsw
          have HSB := hide hsb
          clear hsw hsb
          go_wp2_with (at_builtin; refine wpList_append_sls rfl _ _ 47 rfl wr.heap.size i0 (.int .i64 0) 8 Tryz.underlying47 hi0 hz0 hz1 hz2 rfl (by decide) (by decide) (.slice none 0 0) [] rfl (Lst.nil _ _) a1 c1 gh rfl (unhide HS1) inC_len inC_one (by simp; omega) (Nat.le_refl _) ?_)
          intro v6 w6 hown6 hb6
          try rw [List.nil_append] at hown6
          have q6 := (hb6.cell (p := ⟨b3, o3 + j, none⟩) g3).trans q0
          have hb7 : Below w6.heap.size w6 (w6.alloc (.cells #[.int .i64 (X : Int)] 3)) := (Below.refl _ _).alloc (Nat.le_refl _) _
          have HO7 := hide (hown6.below hb7)
          have HB7 := hide (hb6.trans (hb7.mono hb6.size))
          have HG7 : Hid ((w6.alloc (.cells #[.int .i64 (X : Int)] 3)).heap[w6.heap.size]? = some (.cells (inC (X : Int)).toArray 3 (0, 0))) := hide (heap_alloc_new w6 _)
          have hsz6 := hb6.size
          have hgh : gh.length <= 1000 := by omega
          obtain ⟨a6, m6, c6, rfl⟩ := hown6.shape
          clear hown6 hb6 hb7
          go_wp2_with (at_builtin; refine wpList_append_lst rfl _ _ 47 rfl wr.heap.size i0 (.int .i64 0) 8 Tryz.underlying47 hi0 hz0 hz1 hz2 rfl (by decide) (by decide) _ _ rfl (unhide HO7) w6.heap.size (X : Int) rfl (unhide HG7) rfl (inC_one _) hgh (by simp; omega) ?_)
          intro v8 w8 hown8 hb8
          have hb8' := (unhide HB7).trans hb8
          have q8 := (hb8'.cell (p := ⟨b3, o3 + j, none⟩) g3).trans q0
          have k8 := (hb8'.cell (p := ⟨t, X, none⟩) hlt5).trans hk3
          have HS8 := hide ((unhide HS3).below hb8')
          have HWT8 := hide ((unhide HWT).below hb8')
          have HTN8 := hide ((unhide HTN).trans (Turn.of_below hb8'))
          have hnl : (gh ++ [(X : Int)]).length = gh.length + 1 := by simp
          obtain ⟨a8, c8, rfl, hsl8⟩ := hown8.sls inC_len (by omega)
          have HN8 := hide hsl8
          have HLS := hide (sLess_any a8 a3 c8 c3 (gh ++ [(X : Int)]) gx w8 hsl8 (unhide HS8))
          have hwl : wLess (gh ++ [(X : Int)]) gx = decide (rk (gh ++ [(X : Int)]) < rk gx) := wLess_rk ((unhide HD1).snoc (unhide HX40).1 (unhide HX40).2) (unhide HD3)
          rw [hwl] at HLS
          have hgl8 := hsl8.2.2.1
          have hgx8 := (unhide HS8).2.2.1
          clear hown8 hb8 hb8' hsl8 hnl hwl HO7 HB7 HG7 q6 q0 hk1 hk3 HWT HTN HS1 HS3 HX40
          generalize hgn : gh ++ [(X : Int)] = gn at *
          clear hgn
          generalize decide (rk gn < rk gx) = lessB at *
          have HFIN2 : Hid (∀ w9, Wt w9 t sw -> Sls inC 1 w9 a8 c8 gn -> Wt (w9.setCell ⟨t, X, none⟩ (.slice a8 gn.length c8)) t (sw.set X gn)) := hide (fun w9 h1 h2 => h1.set hXl h2)
          by_cases hg0 : gx = []
          ·subst hg0
           have HE9 : Hid (sj (j + 1) = (sw.set X gn, true)) := hide (by rw [unhide HST]; simp)
           have k8' : w8.cell? ⟨t, X, none⟩ = some (.slice a3 0 c3) := k8
           have f8 := (unhide HWT8).fr X
           have HW9 := hide (unhide HFIN2 w8 (unhide HWT8) (unhide HN8))
           have HT9 := hide ((unhide HTN8).trans (Turn.setCell (S := fun k => k = t) w8 (a := ⟨t, X, none⟩) (.slice a8 gn.length c8) rfl))
           clear k8 HLS HST HWT8 HTN8 HN8 HFIN2
           generalize gn.length = gnl at *
           go_wp2
           go_roundw
           case rel => exact ⟨j + 1, by omega, by go_num, by rw [unhide HE9], by rw [unhide HE9]; exact unhide HW9, unhide HT9⟩
           case measure => simp [intOf]; omega
          ·have hpx : 0 < gx.length := List.length_pos_iff.2 hg0
           have hlz : (((gx.length : Nat) : Int) == 0) = false := beq_eq_false_iff_ne.2 (by omega)
           rw [decide_eq_false hg0, Bool.false_or] at HST
           clear hg0
           cases lessB with
           | true =>
            have HE9 : Hid (sj (j + 1) = (sw.set X gn, true)) := hide (by rw [unhide HST]; simp)
            clear HST
            generalize hgx2 : gx.length = gxl at *
            clear hgx2
            go_wp2_with fail
            refine (unhide HLS).mono ?_
            rintro e w9 ⟨rfl, n9, hw9⟩
            have hb9 : Below w8.heap.size w8 w9 := by rw [hw9]; exact below_drewN (Below.refl _ _) n9
            have q9 := (hb9.cell (p := ⟨b3, o3 + j, none⟩) (block_lt_of_cell q8)).trans q8
            have k9 := (hb9.cell (p := ⟨t, X, none⟩) (block_lt_of_cell k8)).trans k8
            have hwt9 := (unhide HWT8).below hb9
            have f9 := hwt9.fr X
            have HW9 := hide (unhide HFIN2 w9 hwt9 ((unhide HN8).below hb9))
            have HT9 := hide (((unhide HTN8).trans (Turn.of_below hb9)).trans (Turn.setCell (S := fun k => k = t) w9 (a := ⟨t, X, none⟩) (.slice a8 gn.length c8) rfl))
            clear hw9 hb9 q8 k8 hwt9 HLS HWT8 HTN8 HN8 HFIN2 HS8
            generalize gn.length = gnl at *
            go_wp2
            go_roundw
            case rel => exact ⟨j + 1, by omega, by go_num, by rw [unhide HE9], by rw [unhide HE9]; exact unhide HW9, unhide HT9⟩
            case measure => simp [intOf]; omega
           | false =>
            have HE9 : Hid (sj (j + 1) = sj j) := hide (by rw [unhide HST]; simp)
            clear HST
            generalize hgx2 : gx.length = gxl at *
            clear hgx2
            go_wp2_with fail
            refine (unhide HLS).mono ?_
            rintro e w9 ⟨rfl, n9, hw9⟩
            have hb9 : Below w8.heap.size w8 w9 := by rw [hw9]; exact below_drewN (Below.refl _ _) n9
            have HW9 := hide ((unhide HWT8).below hb9)
            have HT9 := hide ((unhide HTN8).trans (Turn.of_below hb9))
            clear hw9 hb9 q8 k8 HLS HWT8 HTN8 HN8 HFIN2 HS8
            go_wp2
            go_roundw
            case rel => exact ⟨j + 1, by omega, by go_num, by rw [unhide HE9, unhide HSB], by rw [unhide HE9, unhide HSW]; exact unhide HW9, unhide HT9⟩
            case measure => simp [intOf]; omega
         ·have hjq : sj j = stR (sp k) (K : Int) r := by rw [<- unhide HSJ, show j = r.length by omega, List.take_length]
          rw [hjq, <- unhide HE] at hwt
          rw [hjq, <- unhide HE]
          have HWT9 := hide hwt
          have HB9 := hide ((unhide HB5).trans (htn.below (B := w.heap.size) (fun k hk => by rw [hk, unhide HTE]; exact Nat.le_refl _) (unhide HB5).size))
          have hge : ¬ ((j : Int) < (r.length : Int)) := by omega
          clear hwt htn hjq hjl hj
          go_wp2
          go_roundw
          case rel => exact ⟨k + 1, by omega, by have := unhide HK; go_num, rfl, unhide HWT9, unhide HB9⟩
          case measure => simp [intOf]; have := unhide HK; omega
      ·obtain rfl : k = 40 := by omega
       have hpr := unhide HP 40 (Nat.le_refl _)
       have hle : muO wr t = muW (sp 40).1 := hwt.mu
       have HWT2 := hide hwt
       have HBEL2 := hide hbel
       have HPR := hide hpr
       have HLE := hide hle
       have hsp40 : (stP rf W 40) = sp 40 := by rw [unhide HSP]
       have HSP40 := hide hsp40
       clear hpr hle hwt hbel hlt hk hsp40 HSTS HP HST0
       generalize sp 40 = s9 at *
       obtain ⟨s1, s2⟩ := s9
       dsimp only at *
       go_wp2
       go_roundw
       case rel => exact ⟨s2, s1, rfl, (unhide HPR).inv, fun h => by
        have e := (unhide HPR).flag h
        have e1 : s1 = W := congrArg Prod.fst e
        rw [e1, unhide HSP40]
        exact h, unhide HWT2, unhide HBEL2⟩
       case measure =>
        rw [<- unhide HWA, unhide HLE, unhide HMU]
        cases s2 with
        | true =>
         have := (unhide HPR).less rfl rfl
         dsimp only at this
         simp only [boN]
         omega
        | false =>
         have e := (unhide HPR).flag rfl
         have e1 : s1 = W := congrArg Prod.fst e
         rw [e1]
         simp only [boN]
         omega
theorem lvK_succ (L : List Int) (k : Nat) : lvK L (k + 1) = if tagAt L ((k : Int) + 1) ≠ 0 /\ lvB L ((k : Int) + 1) = true then lvK L k ++ [(k : Int) + 1] else lvK L k := by
 unfold lvK
 rw [List.range_succ, List.map_append, List.filter_append]
 by_cases h : tagAt L ((k : Int) + 1) ≠ 0 /\ lvB L ((k : Int) + 1) = true
 ·rw [if_pos h]
  simp [h.1, h.2]
 ·rw [if_neg h]
  by_cases h1 : tagAt L ((k : Int) + 1) = 0
  ·simp [h1]
  ·have h2 : lvB L ((k : Int) + 1) = false := by
    cases e : lvB L ((k : Int) + 1) with
    | false => rfl
    | true => exact absurd ⟨h1, e⟩ h
   simp [h2]
theorem lv_dd (L : List Int) (k : Nat) : ∀ x ∈ lvK L k, x ∉ ddK L k := fun x h1 h2 => (mem_lvK.1 h1).2.2 (mem_ddK.1 h2).2.2
theorem lvKk_len (L : List Int) (k : Nat) : (lvK L k).length <= k := by
 unfold lvK
 exact Nat.le_trans (List.length_filter_le _ _) (by simp)
theorem Lst.apart2 {w : World} {B : Nat} {v1 v2 : Value} {l1 l2 : List Int} (h1 : Lst inC 1 3 w B v1 l1) (h2 : Lst inC 1 3 w B v2 l2) (n1 : l1 = [] -> v1 = .slice none 0 0) (n2 : l2 = [] -> v2 = .slice none 0 0) (hd : ∀ x ∈ l1, x ∉ l2) : ∀ g, v1.ownBlock = some g -> v2.ownBlock ≠ some g := by
 intro g e1 e2
 cases l1 with
 | nil => rw [n1 rfl] at e1; cases e1
 | cons x r1 =>
  cases l2 with
  | nil => rw [n2 rfl] at e2; cases e2
  | cons y r2 =>
   rcases h1.2 with ⟨rfl, _⟩ | ⟨g1, c1, u1, rfl, _, hb1, _, _, _, t1⟩
   ·cases e1
   rcases h2.2 with ⟨rfl, _⟩ | ⟨g2, c2, u2, rfl, _, hb2, _, _, _, t2⟩
   ·cases e2
   simp [Value.ownBlock] at e1 e2
   subst e1
   subst e2
   rw [hb1] at hb2
   simp at hb2
   subst hb2
   have a1 : u1.toList[0]? = some (.int .i64 x) := by
    have := congrArg (fun l => l[0]?) t1
    simpa [inC] using this
   have a2 : u1.toList[0]? = some (.int .i64 y) := by
    have := congrArg (fun l => l[0]?) t2
    simpa [inC] using this
   rw [a1] at a2
   have : x = y := by simpa using a2
   exact hd x (by simp) (by rw [this]; simp)
theorem Lst.keep2 {α : Type} {enc : α -> List Value} {k T : Nat} {w w' : World} {B : Nat} {v v' : Value} {l' : List α} (h' : Lst enc k T w B v' l') (ha : ∀ g, v.ownBlock = some g -> v'.ownBlock ≠ some g)
  (hk : ∀ j, j < w.heap.size -> v.ownBlock ≠ some j -> w'.heap[j]? = w.heap[j]?) : Lst enc k T w' B v' l' := by
 refine ⟨h'.1, ?_⟩
 rcases h'.2 with h0 | ⟨g, cap, cur, rfl, hB, hc, h3⟩
 ·exact .inl h0
 ·exact .inr ⟨g, cap, cur, rfl, hB, (hk g (Array.getElem?_eq_some_iff.1 hc).1 (fun e => ha g e rfl)).trans hc, h3⟩
set_option maxRecDepth 100000 in
set_option maxHeartbeats 4000000 in
theorem sLive_any (a : Option Addr) (cap : Nat) (L : List Int) (w : World) (hbs : Bs w a cap L) (hf : Fine L) :
  Calls Tryz.prog 14 #[.slice a L.length cap] w fun e w' => ∃ v1 v2, e = .returned (.tuple #[v1, v2]) /\ Lst inC 1 3 w' w.heap.size v1 (lvK L 40) /\ Lst inC 1 3 w' w.heap.size v2 (ddK L 40) /\ Below w.heap.size w w' := by
 obtain ⟨i0, hi0, hz0, hz1, hz2⟩ := info_parts info_inS
 have hl := hf.len
 have hbl := hbs.2.2.1
 have HW := hide (sWays_any a cap L w hbs hf)
 have HE := hide (fun (h : Int) (W : World) (hW : Below w.heap.size w W) (h1 : 1 <= h) (h2 : h <= 40) => rEntry_any a cap L h W (hbs.below hW) hl.1 h1 h2)
 unfold entV at HE
 have HLS := hide (fun k => lvK_succ L k)
 have HDS := hide (fun k => ddK_succ L k)
 have HLL := hide (fun k => lvKk_len L k)
 have HDL := hide (fun k => ddK_len L k)
 have HDJ := hide (fun k => lv_dd L k)
 have H0 : Hid (lvK L 0 = [] /\ ddK L 0 = []) := hide ⟨rfl, rfl⟩
 have HLV : Hid (∀ h, lvB L h = decide (wyL L h ≠ [])) := hide (fun h => rfl)
 clear hbs hf
 generalize lvK L = lk at *
 generalize ddK L = dk at *
 generalize hN : L.length = N at *
 clear hN
 go_enter Tryz.func14, Tryz.ntmps14
 go_wp2_with fail
 refine (unhide HW).mono ?_
 rintro e w1 ⟨t, W, rfl, hwt1, hwl, hgw, htl, hb1⟩
 have HWT := hide hwt1
 have HB1 := hide hb1
 have HGW := hide hgw
 clear hwt1 hb1 hgw HW
 go_wp2_with fail
 go_loopw [5, 6, 7, 8, 9] (fun v1 v2 hv _ _ wr => ∃ k : Nat, k <= 40 /\ hv = .int .i64 ((k : Int) + 1) /\ Lst inC 1 3 wr w1.heap.size v1 (lk k) /\ Lst inC 1 3 wr w1.heap.size v2 (dk k) /\ (lk k = [] -> v1 = .slice none 0 0) /\ (dk k = [] -> v2 = .slice none 0 0) /\ Below w1.heap.size w1 wr) (fun _ _ hv _ _ _ => 41 - (intOf hv).toNat)
 case atStart => exact ⟨0, Nat.zero_le _, rfl, by rw [(unhide H0).1]; exact Lst.nil _ _, by rw [(unhide H0).2]; exact Lst.nil _ _, fun _ => rfl, fun _ => rfl, Below.refl _ _⟩
 case round =>
  obtain ⟨k, hk, rfl, ho1, ho2, hn1, hn2, hbel⟩ := hrel
  by_cases hlt : k < 40
  ·obtain ⟨K, hK⟩ : ∃ K : Nat, K = k + 1 := ⟨_, rfl⟩
   have hKi : (k : Int) + 1 = (K : Int) := by omega
   have hls := unhide HLS k
   have hds := unhide HDS k
   have hll := unhide HLL k
   have hdl := unhide HDL k
   rw [hKi] at hls hds
   rw [hKi]
   have HEX := hide (unhide HE (K : Int) wr ((unhide HB1).trans (hbel.mono (unhide HB1).size)) (by omega) (by omega))
   have hlv := unhide HLV (K : Int)
   rw [<- unhide HGW (K : Int) (by omega), gW_nat] at hlv
   obtain ⟨ta, tc, htc, hts⟩ := (unhide HWT).at (i := K) (by omega)
   have k0 : (0 : Int) <= (K : Int) := by omega
   have k1 : (K : Int) < 41 := by omega
   have k2 : (K : Int) <= 40 := by omega
   have HK := hide hK
   have hgl := hts.2.2.1
   have HAP := hide (Lst.apart2 ho1 ho2 hn1 hn2 (unhide HDJ k))
   have HO1 := hide ho1
   have HO2 := hide ho2
   have HN1 := hide hn1
   have HN2 := hide hn2
   have HBEL := hide hbel
   obtain ⟨va1, vm1, vc1, hv1⟩ := ho1.shape
   obtain ⟨va2, vm2, vc2, hv2⟩ := ho2.shape
   subst hv1
   subst hv2
   clear ho1 ho2 hn1 hn2 hbel hts hKi hK
   generalize entOf L (K : Int) = E at *
   obtain ⟨e1, e2, e3, e4⟩ := E
   dsimp only at HEX
   by_cases ht : tagAt L (K : Int) = 0
   ·have HEQ : Hid (lk (k + 1) = lk k /\ dk (k + 1) = dk k) := hide ⟨by rw [hls, if_neg (fun h => h.1 ht)], by rw [hds, if_neg (fun h => h.1 ht)]⟩
    rw [show (tagAt L (K : Int) != 0) = false by rw [ht]; rfl] at HEX
    clear hls hds hlv ht htc hgl
    go_wp2_with fail
    refine (unhide HEX).mono ?_
    rintro e w2 ⟨rfl, hb2⟩
    have hb3 : Below wr.heap.size wr (w2.alloc (.cells #[.int .i64 e1, .int .i64 e2, .int .i64 e3, .int .i64 e4] 72)) := hb2.alloc hb2.size _
    have HO13 := hide ((unhide HO1).below hb3)
    have HO23 := hide ((unhide HO2).below hb3)
    have HB3 := hide ((unhide HBEL).trans (hb3.mono (unhide HBEL).size))
    clear hb2 hb3 HEX HO1 HO2 HBEL
    go_wp2
    go_roundw
    case rel => exact ⟨k + 1, by omega, by have := unhide HK; go_num, by rw [(unhide HEQ).1]; exact unhide HO13, by rw [(unhide HEQ).2]; exact unhide HO23, by rw [(unhide HEQ).1]; exact unhide HN1, by rw [(unhide HEQ).2]; exact unhide HN2, unhide HB3⟩
    case measure => simp [intOf]; have := unhide HK; omega
   ·rw [bne_iff_ne.2 ht] at HEX
    have hq1 : wr.cell? ⟨t, K, none⟩ = some (.slice ta (W.getD K []).length tc) := ((unhide HBEL).cell (p := ⟨t, K, none⟩) (block_lt_of_cell htc)).trans htc
    clear htc
    by_cases hgo : W.getD K [] = []
    ·have hlf : lvB L (K : Int) = false := by rw [hlv]; exact decide_eq_false (fun h => h hgo)
     have HEQ : Hid (lk (k + 1) = lk k /\ dk (k + 1) = dk k ++ [(K : Int)]) := hide ⟨by rw [hls, if_neg (fun h => by rw [hlf] at h; cases h.2)], by rw [hds, if_pos ⟨ht, hlf⟩]⟩
     rw [hgo] at hq1
     have hq1 : wr.cell? ⟨t, K, none⟩ = some (.slice ta 0 tc) := hq1
     clear hls hds hlv ht hlf hgo hgl
     go_wp2_with fail
     refine (unhide HEX).mono ?_
     rintro e w2 ⟨rfl, hb2⟩
     have hb3 : Below wr.heap.size wr ((w2.alloc (.cells #[.int .i64 e1, .int .i64 e2, .int .i64 e3, .int .i64 e4] 72)).alloc (.cells #[.int .i64 (K : Int)] 3)) := (hb2.alloc hb2.size _).alloc (by rw [sz_alloc]; have := hb2.size; omega) _
     have HGN : Hid (((w2.alloc (.cells #[.int .i64 e1, .int .i64 e2, .int .i64 e3, .int .i64 e4] 72)).alloc (.cells #[.int .i64 (K : Int)] 3)).heap[w2.heap.size + 1]? = some (.cells (inC (K : Int)).toArray 3 (0, 0))) := hide (by
      have := heap_alloc_new (w2.alloc (.cells #[.int .i64 e1, .int .i64 e2, .int .i64 e3, .int .i64 e4] 72)) (.cells #[.int .i64 (K : Int)] 3)
      rw [sz_alloc] at this
      exact this)
     have hq2 := (hb2.cell (p := ⟨t, K, none⟩) (block_lt_of_cell hq1)).trans hq1
     have g2 := block_lt_of_cell hq2
     have HO13 := hide ((unhide HO1).below hb3)
     have HO23 := hide ((unhide HO2).below hb3)
     have HB3 := hide ((unhide HBEL).trans (hb3.mono (unhide HBEL).size))
     have hszB : w1.heap.size <= w2.heap.size := Nat.le_trans (unhide HBEL).size hb2.size
     clear hb2 hb3 HEX HO1 HO2 HBEL hq1
     generalize hac : dk k = acc at HO23 HEQ
     have hacl : acc.length <= 1000 := by rw [<- hac]; omega
     clear hac
     go_wp2_with (at_builtin; refine wpList_append_lst2 rfl _ _ 47 rfl w1.heap.size i0 (.int .i64 0) 8 Tryz.underlying47 hi0 hz0 hz1 hz2 rfl (by decide) (by decide) _ _ rfl (unhide HO23) (w2.heap.size + 1) (K : Int) rfl (unhide HGN) rfl (inC_one _) hacl (by simp; omega) ?_)
     intro v9 w9 hown9 hb9 hkp9
     have HOT := hide ((unhide HO13).keep2 (fun g e1 e2 => unhide HAP g e2 e1) (fun j hj hne => hkp9 j (by rw [sz_alloc, sz_alloc] at hj; exact hj) hne))
     rw [<- (unhide HEQ).2] at hown9
     have HO9 := hide hown9
     have HB9 := hide ((unhide HB3).trans hb9)
     obtain ⟨a9, m9, c9, rfl⟩ := hown9.shape
     clear hown9 hb9 hkp9 HO13 HO23 HB3 HGN hq2
     go_wp2
     go_roundw
     case rel => exact ⟨k + 1, by omega, by have := unhide HK; go_num, by rw [(unhide HEQ).1]; exact unhide HOT, unhide HO9, by rw [(unhide HEQ).1]; exact unhide HN1, fun h => by rw [(unhide HEQ).2] at h; simp at h, unhide HB9⟩
     case measure => simp [intOf]; have := unhide HK; omega
    ·have hlf : lvB L (K : Int) = true := by rw [hlv]; exact decide_eq_true hgo
     have HEQ : Hid (lk (k + 1) = lk k ++ [(K : Int)] /\ dk (k + 1) = dk k) := hide ⟨by rw [hls, if_pos ⟨ht, hlf⟩], by rw [hds, if_neg (fun h => by rw [hlf] at h; cases h.2)]⟩
     have hpos : 0 < (W.getD K []).length := List.length_pos_iff.2 hgo
     clear hls hds hlv ht hlf hgo
     generalize (W.getD K []).length = gl at *
     have hpi : (0 : Int) < (gl : Int) := by omega
     go_wp2_with fail
     refine (unhide HEX).mono ?_
     rintro e w2 ⟨rfl, hb2⟩
     have hb3 : Below wr.heap.size wr ((w2.alloc (.cells #[.int .i64 e1, .int .i64 e2, .int .i64 e3, .int .i64 e4] 72)).alloc (.cells #[.int .i64 (K : Int)] 3)) := (hb2.alloc hb2.size _).alloc (by rw [sz_alloc]; have := hb2.size; omega) _
     have HGN : Hid (((w2.alloc (.cells #[.int .i64 e1, .int .i64 e2, .int .i64 e3, .int .i64 e4] 72)).alloc (.cells #[.int .i64 (K : Int)] 3)).heap[w2.heap.size + 1]? = some (.cells (inC (K : Int)).toArray 3 (0, 0))) := hide (by
      have := heap_alloc_new (w2.alloc (.cells #[.int .i64 e1, .int .i64 e2, .int .i64 e3, .int .i64 e4] 72)) (.cells #[.int .i64 (K : Int)] 3)
      rw [sz_alloc] at this
      exact this)
     have hq2 := (hb2.cell (p := ⟨t, K, none⟩) (block_lt_of_cell hq1)).trans hq1
     have g2 := block_lt_of_cell hq2
     have HO13 := hide ((unhide HO1).below hb3)
     have HO23 := hide ((unhide HO2).below hb3)
     have HB3 := hide ((unhide HBEL).trans (hb3.mono (unhide HBEL).size))
     have hszB : w1.heap.size <= w2.heap.size := Nat.le_trans (unhide HBEL).size hb2.size
     clear hb2 hb3 HEX HO1 HO2 HBEL hq1
     generalize hac : lk k = acc at HO13 HEQ
     have hacl : acc.length <= 1000 := by rw [<- hac]; omega
     clear hac
     go_wp2_with (at_builtin; refine wpList_append_lst2 rfl _ _ 47 rfl w1.heap.size i0 (.int .i64 0) 8 Tryz.underlying47 hi0 hz0 hz1 hz2 rfl (by decide) (by decide) _ _ rfl (unhide HO13) (w2.heap.size + 1) (K : Int) rfl (unhide HGN) rfl (inC_one _) hacl (by simp; omega) ?_)
     intro v9 w9 hown9 hb9 hkp9
     have HOT := hide ((unhide HO23).keep2 (unhide HAP) (fun j hj hne => hkp9 j (by rw [sz_alloc, sz_alloc] at hj; exact hj) hne))
     rw [<- (unhide HEQ).1] at hown9
     have HO9 := hide hown9
     have HB9 := hide ((unhide HB3).trans hb9)
     obtain ⟨a9, m9, c9, rfl⟩ := hown9.shape
     clear hown9 hb9 hkp9 HO13 HO23 HB3 HGN hq2
     go_wp2
     go_roundw
     case rel => exact ⟨k + 1, by omega, by have := unhide HK; go_num, unhide HO9, by rw [(unhide HEQ).2]; exact unhide HOT, fun h => by rw [(unhide HEQ).1] at h; simp at h, by rw [(unhide HEQ).2]; exact unhide HN2, unhide HB9⟩
     case measure => simp [intOf]; have := unhide HK; omega
  ·obtain rfl : k = 40 := by omega
   have HO1 := hide (ho1.lowA (unhide HB1).size)
   have HO2 := hide (ho2.lowA (unhide HB1).size)
   have HB2 := hide ((unhide HB1).trans (hbel.mono (unhide HB1).size))
   obtain ⟨va1, vm1, vc1, hv1⟩ := ho1.shape
   obtain ⟨va2, vm2, vc2, hv2⟩ := ho2.shape
   subst hv1
   subst hv2
   clear ho1 ho2 hn1 hn2 hbel
   go_wp2
   go_ret2
   exact ⟨_, _, rfl, unhide HO1, unhide HO2, unhide HB2⟩
end Go.Proofs.YtecodmiendedfaaGreatDoor
