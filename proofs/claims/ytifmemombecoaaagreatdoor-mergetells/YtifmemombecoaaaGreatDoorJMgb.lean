/-
  Parts of the proofs, joined by program.
-/
import Derived.Test.YtifmemombecoaaaGreatDoorJMga
import Derived.Test.YtifmemombecoaaaGreatDoorJRh
import Derived.Deep.RegionHeld3
import Derived.BigQuiet
namespace Go.Proofs.YtifmemombecoaaaGreatDoor
open Go.RowKit Go.Shelf
set_option linter.unusedVariables false
def tkFO (F G : Int -> Option OV) (ks : List Int) : Int -> Option OV := fun k => if ks.any (fun y => decide (y = k)) = true then G k else F k
theorem any_memO {ks : List Int} {k : Int} : ks.any (fun y => decide (y = k)) = true ↔ k ∈ ks := by
 rw [List.any_eq_true]
 exact ⟨fun ⟨y, h1, h2⟩ => by rw [<- of_decide_eq_true h2]; exact h1, fun h => ⟨k, h, decide_eq_true rfl⟩⟩
theorem tk_oneO {F G : Int -> Option OV} {ks : List Int} {x : Int} : updF (tkFO F G ks) x (G x) = tkFO F G (ks ++ [x]) := by
 funext k
 unfold updF tkFO
 by_cases e : k = x
 ·subst e
  rw [if_pos rfl, if_pos (any_memO.2 (by simp))]
 ·rw [if_neg e]
  by_cases h : k ∈ ks
  ·rw [if_pos (any_memO.2 h), if_pos (any_memO.2 (by simp [h]))]
  ·rw [if_neg (fun q => h (any_memO.1 q)), if_neg (fun q => by have := any_memO.1 q; simp [h, e] at this)]
set_option maxRecDepth 100000 in
set_option maxHeartbeats 2000000 in
theorem takeO (go gb n m : Nat) (F G : Int -> Option OV) (a : Option Addr) (c : Nat) (ks : List Int) (w : World) (hF : Mp obM w go n F) (hG : Mp obM w gb m G) (hne : go ≠ gb) (hk : Sls inC 1 w a c ks) (hok : ∀ k ∈ ks, (obM).kok k) (hl : ks.length <= 1000) (hn : n <= 10000) :
  Calls Tryz.prog 54 #[.map (some go), .map (some gb), .slice a ks.length c] w fun e w' => e = .returned (.tuple #[]) /\ Mp obM w' go (n + ks.length) (tkFO F G ks) /\ w.grownBy w' (some go) := by
 have HF := hide hF
 have HG := hide hG
 have HOK := hide hok
 have HS := hide hk
 have hcl := hk.2.2.1
 have hgo := hF.lt
 have hgb := hG.lt
 obtain ⟨es, clock, hmap⟩ := hF.isMap
 have HM := hide hmap
 clear hF hG hok hk hmap
 go_enter Tryz.func54, Tryz.ntmps54
 go_wp2
 go_loopw [7, 8, 9, 12] (fun _ _ _ iv wr => ∃ k : Nat, k <= ks.length /\ iv = .int .i64 (k : Int) /\ Mp obM wr go (n + k) (tkFO F G (ks.take k)) /\ w.grownBy wr (some go)) (fun _ _ _ iv _ => ks.length - (intOf iv).toNat)
 case atStart => exact ⟨0, Nat.zero_le _, rfl, by rw [List.take_zero]; exact (by have := unhide HF; rwa [show tkFO F G [] = F from funext fun k => if_neg (by simp)]), World.grownBy.refl _ _⟩
 case round =>
  obtain ⟨k, hk, rfl, hmp, hgr⟩ := hrel
  by_cases hlt : k < ks.length
  ·obtain ⟨b1, o1, rfl, hc1⟩ := (unhide HS).2.2.2 (by intro e; rw [e] at hlt; simp at hlt)
   obtain ⟨x, hx⟩ : ∃ x, ks[k]? = some x := ⟨ks[k], List.getElem?_eq_getElem hlt⟩
   have q0w : w.cell? ⟨b1, o1 + k, none⟩ = some ((Value.int .i64) x) := by have := hc1 k x hx 0 _ rfl; rwa [Nat.mul_one, Nat.add_zero] at this
   have hbne : b1 ≠ go := fun e => by
    subst e
    have hm := unhide HM
    unfold World.cell? at q0w
    rw [hm] at q0w
    simp at q0w
   have q0 : wr.cell? ⟨b1, o1 + k, none⟩ = some ((Value.int .i64) x) := hgr.cell q0w (fun e => hbne (Option.some.inj e))
   have hok := unhide HOK x (List.mem_of_getElem? hx)
   have hGr := (unhide HG).grown hgr (fun e => hne (Option.some.inj e).symm)
   have HTK : Hid (ks.take (k + 1) = ks.take k ++ [x]) := hide (by rw [List.take_add_one, hx]; rfl)
   have HX := hide hx
   have HGR := hide hgr
   clear hc1 hx hgr q0w
   have hlk := hGr.look2 hok
   have HOKX := hide hok
   have HMP := hide hmp
   have HGW := hide hGr
   cases hq : G x with
   | none =>
    rw [hq] at hlk
    simp only [Option.getD_none, Option.isSome_none] at hlk
    have hlk' : (Instr.lookup 50 (.map (some gb)) (.int .i64 x) true).run Tryz.prog wr = .ok (.tuple #[.agg #[.int .i64 0, .slice none 0 0], .bool false]) wr := hlk
    have hA : wr.grownBy (wr.alloc (.cells #[.int .i64 0, .slice none 0 0] 47)) none := World.grownBy_alloc wr _ _
    obtain ⟨w5, hrun, hmp5, ht5⟩ := (hmp.grown hA (by simp)).drop hok 0
    have hrun' : (Builtin.delete_ #[50, 3] 0 #[.map (some go), .int .i64 x]).run Tryz.prog (wr.alloc (.cells #[.int .i64 0, .slice none 0 0] 47)) = .ok (.tuple #[]) w5 := hrun
    have HA : Hid (w.grownBy w5 (some go)) := hide (((unhide HGR).andThen (hA.but _) (fun j hj => .inr hj)).andThen ht5.grown (fun j hj => .inr hj))
    clear hlk hrun hmp hGr hok hA ht5
    have HMP5 := hide hmp5
    clear hmp5
    go_wp2
    go_roundw
    case rel => exact ⟨k + 1, by omega, by go_num, by
     have h1 := unhide HMP5
     rw [<- hq, tk_oneO] at h1
     rw [unhide HTK]
     exact h1.mono (by omega), unhide HA⟩
    case measure => simp [intOf]; omega
   | some v =>
    rw [hq] at hlk
    simp only [Option.getD_some, Option.isSome_some] at hlk
    have hev := (unhide HGW).eok hq
    obtain ⟨vt, va, vn, vc⟩ := v
    have hlk' : (Instr.lookup 50 (.map (some gb)) (.int .i64 x) true).run Tryz.prog wr = .ok (.tuple #[.agg #[.int .i64 vt, .slice va vn vc], .bool true]) wr := hlk
    have hA : wr.grownBy (wr.alloc (.cells #[.int .i64 vt, .slice va vn vc] 47)) none := World.grownBy_alloc wr _ _
    obtain ⟨w5, hrun, hmp5, ht5⟩ := (hmp.grown hA (by simp)).store (by unfold maxLen; omega) hok hev
    have hrun' : (Instr.mapUpdate 50 (.map (some go)) (.int .i64 x) (.agg #[.int .i64 vt, .slice va vn vc])).run Tryz.prog (wr.alloc (.cells #[.int .i64 vt, .slice va vn vc] 47)) = .ok () w5 := hrun
    have HA : Hid (w.grownBy w5 (some go)) := hide (((unhide HGR).andThen (hA.but _) (fun j hj => .inr hj)).andThen ht5.grown (fun j hj => .inr hj))
    clear hlk hrun hmp hGr hok hA ht5 hev
    have HMP5 := hide hmp5
    clear hmp5
    go_wp2
    go_roundw
    case rel => exact ⟨k + 1, by omega, by go_num, by
     have h1 := unhide HMP5
     rw [<- hq, tk_oneO] at h1
     rw [unhide HTK]
     exact h1.mono (by omega), unhide HA⟩
    case measure => simp [intOf]; omega
  ·have hge : ¬ ((k : Int) < (ks.length : Int)) := by omega
   have HMP : Hid (Mp obM wr go (n + ks.length) (tkFO F G ks)) := hide (by rw [List.take_of_length_le (by omega)] at hmp; exact hmp.mono (by omega))
   have HGR := hide hgr
   clear hmp hgr
   go_wp2
   go_end0
   exact ⟨rfl, unhide HMP, unhide HGR⟩
def tkFS (F G : ByteArray -> Option Int) (ks : List ByteArray) : ByteArray -> Option Int := fun k => if ks.any (fun y => decide (y = k)) = true then G k else F k
theorem any_memS {ks : List ByteArray} {k : ByteArray} : ks.any (fun y => decide (y = k)) = true ↔ k ∈ ks := by
 rw [List.any_eq_true]
 exact ⟨fun ⟨y, h1, h2⟩ => by rw [<- of_decide_eq_true h2]; exact h1, fun h => ⟨k, h, decide_eq_true rfl⟩⟩
theorem tk_oneS {F G : ByteArray -> Option Int} {ks : List ByteArray} {x : ByteArray} : updF (tkFS F G ks) x (G x) = tkFS F G (ks ++ [x]) := by
 funext k
 unfold updF tkFS
 by_cases e : k = x
 ·subst e
  rw [if_pos rfl, if_pos (any_memS.2 (by simp))]
 ·rw [if_neg e]
  by_cases h : k ∈ ks
  ·rw [if_pos (any_memS.2 h), if_pos (any_memS.2 (by simp [h]))]
  ·rw [if_neg (fun q => h (any_memS.1 q)), if_neg (fun q => by have := any_memS.1 q; simp [h, e] at this)]
set_option maxRecDepth 100000 in
set_option maxHeartbeats 2000000 in
theorem takeS (go gb n m : Nat) (F G : ByteArray -> Option Int) (a : Option Addr) (c : Nat) (ks : List ByteArray) (w : World) (hF : Mp leM w go n F) (hG : Mp leM w gb m G) (hne : go ≠ gb) (hk : Sls sgC 1 w a c ks) (hok : ∀ k ∈ ks, (leM).kok k) (hl : ks.length <= 1000) (hn : n <= 10000) :
  Calls Tryz.prog 57 #[.map (some go), .map (some gb), .slice a ks.length c] w fun e w' => e = .returned (.tuple #[]) /\ Mp leM w' go (n + ks.length) (tkFS F G ks) /\ w.grownBy w' (some go) := by
 have HF := hide hF
 have HG := hide hG
 have HOK := hide hok
 have HS := hide hk
 have hcl := hk.2.2.1
 have hgo := hF.lt
 have hgb := hG.lt
 obtain ⟨es, clock, hmap⟩ := hF.isMap
 have HM := hide hmap
 clear hF hG hok hk hmap
 go_enter Tryz.func57, Tryz.ntmps57
 go_wp2
 go_loopw [7, 8, 9, 12] (fun _ _ _ iv wr => ∃ k : Nat, k <= ks.length /\ iv = .int .i64 (k : Int) /\ Mp leM wr go (n + k) (tkFS F G (ks.take k)) /\ w.grownBy wr (some go)) (fun _ _ _ iv _ => ks.length - (intOf iv).toNat)
 case atStart => exact ⟨0, Nat.zero_le _, rfl, by rw [List.take_zero]; exact (by have := unhide HF; rwa [show tkFS F G [] = F from funext fun k => if_neg (by simp)]), World.grownBy.refl _ _⟩
 case round =>
  obtain ⟨k, hk, rfl, hmp, hgr⟩ := hrel
  by_cases hlt : k < ks.length
  ·obtain ⟨b1, o1, rfl, hc1⟩ := (unhide HS).2.2.2 (by intro e; rw [e] at hlt; simp at hlt)
   obtain ⟨x, hx⟩ : ∃ x, ks[k]? = some x := ⟨ks[k], List.getElem?_eq_getElem hlt⟩
   have q0w : w.cell? ⟨b1, o1 + k, none⟩ = some (Value.string x) := by have := hc1 k x hx 0 _ rfl; rwa [Nat.mul_one, Nat.add_zero] at this
   have hbne : b1 ≠ go := fun e => by
    subst e
    have hm := unhide HM
    unfold World.cell? at q0w
    rw [hm] at q0w
    simp at q0w
   have q0 : wr.cell? ⟨b1, o1 + k, none⟩ = some (Value.string x) := hgr.cell q0w (fun e => hbne (Option.some.inj e))
   have hok := unhide HOK x (List.mem_of_getElem? hx)
   have hGr := (unhide HG).grown hgr (fun e => hne (Option.some.inj e).symm)
   have HTK : Hid (ks.take (k + 1) = ks.take k ++ [x]) := hide (by rw [List.take_add_one, hx]; rfl)
   have HX := hide hx
   have HGR := hide hgr
   clear hc1 hx hgr q0w
   have hlk := hGr.look2 hok
   have HOKX := hide hok
   have HMP := hide hmp
   have HGW := hide hGr
   cases hq : G x with
   | none =>
    rw [hq] at hlk
    simp only [Option.getD_none, Option.isSome_none] at hlk
    have hlk' : (Instr.lookup 75 (.map (some gb)) (.string x) true).run Tryz.prog wr = .ok (.tuple #[.int .i64 0, .bool false]) wr := hlk
    obtain ⟨w5, hrun, hmp5, ht5⟩ := hmp.drop hok 0
    have hrun' : (Builtin.delete_ #[75, 9] 0 #[.map (some go), .string x]).run Tryz.prog wr = .ok (.tuple #[]) w5 := hrun
    have HA : Hid (w.grownBy w5 (some go)) := hide ((unhide HGR).andThen ht5.grown (fun j hj => .inr hj))
    clear hlk hrun hmp hGr hok ht5
    have HMP5 := hide hmp5
    clear hmp5
    go_wp2
    go_roundw
    case rel => exact ⟨k + 1, by omega, by go_num, by
     have h1 := unhide HMP5
     rw [<- hq, tk_oneS] at h1
     rw [unhide HTK]
     exact h1.mono (by omega), unhide HA⟩
    case measure => simp [intOf]; omega
   | some v =>
    rw [hq] at hlk
    simp only [Option.getD_some, Option.isSome_some] at hlk
    have hev := (unhide HGW).eok hq
    have hlk' : (Instr.lookup 75 (.map (some gb)) (.string x) true).run Tryz.prog wr = .ok (.tuple #[.int .i64 v, .bool true]) wr := hlk
    obtain ⟨w5, hrun, hmp5, ht5⟩ := hmp.store (by unfold maxLen; omega) hok hev
    have hrun' : (Instr.mapUpdate 75 (.map (some go)) (.string x) (.int .i64 v)).run Tryz.prog wr = .ok () w5 := hrun
    have HA : Hid (w.grownBy w5 (some go)) := hide ((unhide HGR).andThen ht5.grown (fun j hj => .inr hj))
    clear hlk hrun hmp hGr hok ht5 hev
    have HMP5 := hide hmp5
    clear hmp5
    go_wp2
    go_roundw
    case rel => exact ⟨k + 1, by omega, by go_num, by
     have h1 := unhide HMP5
     rw [<- hq, tk_oneS] at h1
     rw [unhide HTK]
     exact h1.mono (by omega), unhide HA⟩
    case measure => simp [intOf]; omega
  ·have hge : ¬ ((k : Int) < (ks.length : Int)) := by omega
   have HMP : Hid (Mp leM wr go (n + ks.length) (tkFS F G ks)) := hide (by rw [List.take_of_length_le (by omega)] at hmp; exact hmp.mono (by omega))
   have HGR := hide hgr
   clear hmp hgr
   go_wp2
   go_end0
   exact ⟨rfl, unhide HMP, unhide HGR⟩
set_option maxRecDepth 100000 in
set_option maxHeartbeats 1000000 in
theorem th1O (k : Int) (pi pm pa pb gm ga gb nm na nb : Nat) (Fm Fa Fb : Int -> Option OV) (r1 r2 : Bool) (w : World) (ci : w.cell? ⟨pi, 0, none⟩ = some (.func (.func 18) #[] #[])) (cm : w.cell? ⟨pm, 0, none⟩ = some (.map (some gm))) (ca : w.cell? ⟨pa, 0, none⟩ = some (.map (some ga))) (cb : w.cell? ⟨pb, 0, none⟩ = some (.map (some gb))) (hM : Mp obM w gm nm Fm) (hA : Mp obM w ga na Fa) (hB : Mp obM w gb nb Fb) (hk : (obM).kok k)
  (hs1 : Calls Tryz.prog 18 #[ovV ((Fm k).getD (obM).z), ovV ((Fa k).getD (obM).z)] w fun e w' => e = .returned (.bool r1) /\ Below w.heap.size w w') (hs2 : ∀ W, Below w.heap.size w W -> Calls Tryz.prog 18 #[ovV ((Fm k).getD (obM).z), ovV ((Fb k).getD (obM).z)] W fun e w' => e = .returned (.bool r2) /\ Below W.heap.size W w') :
  Calls Tryz.prog 55 #[(Value.int .i64) k, .pointer (some ⟨pi, 0, none⟩), .pointer (some ⟨pm, 0, none⟩), .pointer (some ⟨pa, 0, none⟩), .pointer (some ⟨pb, 0, none⟩)] w fun e w' => e = .returned (.bool (r1 || r2)) /\ Below w.heap.size w w' := by
 have l1 : (Instr.lookup 50 (.map (some gm)) ((Value.int .i64) k) false).run Tryz.prog w = .ok (ovV ((Fm k).getD (obM).z)) w := hM.look hk
 have l2 : (Instr.lookup 50 (.map (some ga)) ((Value.int .i64) k) false).run Tryz.prog w = .ok (ovV ((Fa k).getD (obM).z)) w := hA.look hk
 have l3 : ∀ W, Below w.heap.size w W -> (Instr.lookup 50 (.map (some gm)) ((Value.int .i64) k) false).run Tryz.prog W = .ok (ovV ((Fm k).getD (obM).z)) W := fun W hW => (hM.below hW).look hk
 have l4 : ∀ W, Below w.heap.size w W -> (Instr.lookup 50 (.map (some gb)) ((Value.int .i64) k) false).run Tryz.prog W = .ok (ovV ((Fb k).getD (obM).z)) W := fun W hW => (hB.below hW).look hk
 have HL3 := hide l3
 have HL4 := hide l4
 have bi := block_lt_of_cell ci
 have bm := block_lt_of_cell cm
 have bb := block_lt_of_cell cb
 generalize ovV ((Fm k).getD (obM).z) = vm at *
 generalize ovV ((Fa k).getD (obM).z) = va at *
 generalize ovV ((Fb k).getD (obM).z) = vb at *
 have HS1 := hide hs1
 have HS2 := hide hs2
 have CI := hide ci
 have CM := hide cm
 have CB := hide cb
 clear hM hA hB hs1 hs2 hk l3 l4
 cases r1 with
 | true =>
  go_enter Tryz.func55, Tryz.ntmps55
  go_wp2_with (go_at_call 18; refine (unhide HS1).mono ?_; rintro e w1 ⟨rfl, hb⟩)
  go_ret
  exact ⟨rfl, hb⟩
 | false =>
  rw [Bool.false_or]
  go_enter Tryz.func55, Tryz.ntmps55
  go_wp2_with (first
   | (go_at_call 18; refine (unhide HS1).mono ?_; rintro e w1 ⟨rfl, hb⟩; clear HS1; have d1 := (hb.cell (p := ⟨pi, 0, none⟩) bi).trans (unhide CI); have d2 := (hb.cell (p := ⟨pm, 0, none⟩) bm).trans (unhide CM); have d3 := (hb.cell (p := ⟨pb, 0, none⟩) bb).trans (unhide CB); have m1 := unhide HL3 w1 hb; have m2 := unhide HL4 w1 hb; have HB1 := hide hb)
   | (go_at_call 18; refine (unhide HS2 w1 (unhide HB1)).mono ?_; rintro e w2 ⟨rfl, hb2⟩))
  go_ret
  exact ⟨rfl, (unhide HB1).trans (hb2.mono (unhide HB1).size)⟩
def BxO (B gm ga gb : Nat) (W : World) : Prop := W.cell? ⟨B, 0, none⟩ = some (.map (some gm)) /\ W.cell? ⟨B + 1, 0, none⟩ = some (.map (some ga)) /\ W.cell? ⟨B + 1 + 1, 0, none⟩ = some (.map (some gb)) /\ W.cell? ⟨B + 1 + 1 + 1, 0, none⟩ = some (.func (.func 18) #[] #[])
theorem BxO.below {B C gm ga gb : Nat} {W W' : World} (h : BxO B gm ga gb W) (hb : Below C W W') (hC : B + 1 + 1 + 1 < C) : BxO B gm ga gb W' :=
 ⟨(hb.cell (p := ⟨B, 0, none⟩) (by show B < _; omega)).trans h.1, (hb.cell (p := ⟨B + 1, 0, none⟩) (by show B + 1 < _; omega)).trans h.2.1, (hb.cell (p := ⟨B + 1 + 1, 0, none⟩) (by show B + 1 + 1 < _; omega)).trans h.2.2.1, (hb.cell (p := ⟨B + 1 + 1 + 1, 0, none⟩) hC).trans h.2.2.2⟩
theorem BxO.grown {B g gm ga gb : Nat} {W W' : World} (h : BxO B gm ga gb W) (hb : W.grownBy W' (some g)) (hC : B + 1 + 1 + 1 < g) : BxO B gm ga gb W' :=
 ⟨hb.cell h.1 (fun e => by have := Option.some.inj e; dsimp only at this; omega), hb.cell h.2.1 (fun e => by have := Option.some.inj e; dsimp only at this; omega), hb.cell h.2.2.1 (fun e => by have := Option.some.inj e; dsimp only at this; omega), hb.cell h.2.2.2 (fun e => by have := Option.some.inj e; dsimp only at this; omega)⟩
def thFO (Fm Fa Fb : Int -> Option OV) (U : List Int) (pa pb : Int -> Bool) : Int -> Option OV := tkFO (tkFO Fm Fb (U.filter fun k => !pb k)) Fa (U.filter fun k => !pa k)
def SamO (w : World) (U : List Int) (Fa Fb : Int -> Option OV) (p : Int -> Bool) : Prop := (∀ k ∈ U, ∀ W, Below w.heap.size w W -> Calls Tryz.prog 18 #[ovV ((Fa k).getD (obM).z), ovV ((Fb k).getD (obM).z)] W fun e w' => e = .returned (.bool (p k)) /\ Below W.heap.size W w') /\ ∀ k ∈ U, Fa k = none -> Fb k = none -> p k = true
theorem SamO.at {w W : World} {U : List Int} {Fa Fb : Int -> Option OV} {p : Int -> Bool} (h : SamO w U Fa Fb p) (hW : Below w.heap.size w W) : SamO W U Fa Fb p := ⟨fun k hk W' hb => h.1 k hk W' (hW.trans (hb.mono hW.size)), h.2⟩
theorem mvInO (ga gb na nb : Nat) (Fa Fb : Int -> Option OV) (U : List Int) (p : Int -> Bool) (W : World) (B x y z : Nat) (hA : Mp obM W ga na Fa) (hB : Mp obM W gb nb Fb) (hU : RisI U) (hiA : ∀ k, (Fa k).isSome = true -> k ∈ U) (hiB : ∀ k, (Fb k).isSome = true -> k ∈ U) (hok : ∀ k ∈ U, (obM).kok k) (hl : U.length <= 1000) (hn : na <= 20000 /\ nb <= 20000) (hs : SamO W U Fa Fb p) (hx : BxO B x y z W) (hBW : B + 1 + 1 + 1 < W.heap.size) :
  Calls Tryz.prog 17 #[.map (some ga), .map (some gb), .func (.func 18) #[] #[]] W fun e w' => ∃ a c, e = .returned (.slice a (U.filter fun k => !p k).length c) /\ (Lst inC 1 3 w' W.heap.size (.slice a (U.filter fun k => !p k).length c) (U.filter fun k => !p k) /\ Below W.heap.size W w') /\ w'.cell? ⟨B, 0, none⟩ = some (.map (some x)) /\ w'.cell? ⟨B + 1, 0, none⟩ = some (.map (some y)) /\ w'.cell? ⟨B + 1 + 1, 0, none⟩ = some (.map (some z)) /\ w'.cell? ⟨B + 1 + 1 + 1, 0, none⟩ = some (.func (.func 18) #[] #[]) := by
 refine (movedO ga gb na nb Fa Fb U p W hA hB hU hiA hiB hok hl hn hs.1 hs.2).mono ?_
 rintro e w' ⟨v, rfl, h1, h2⟩
 obtain ⟨a, c, rfl, _⟩ := h1.sls inC_len (Nat.le_trans (List.length_filter_le _ _) (by omega))
 exact ⟨a, c, rfl, ⟨h1, h2⟩, hx.below h2 hBW⟩
theorem tkInO (go gb n m : Nat) (F G : Int -> Option OV) (a : Option Addr) (c : Nat) (ks : List Int) (W : World) (B x y z : Nat) (hF : Mp obM W go n F) (hG : Mp obM W gb m G) (hne : go ≠ gb) (hk : Sls inC 1 W a c ks) (hok : ∀ k ∈ ks, (obM).kok k) (hl : ks.length <= 1000) (hn : n <= 10000) (hx : BxO B x y z W) (hB : B + 1 + 1 + 1 < go) :
  Calls Tryz.prog 54 #[.map (some go), .map (some gb), .slice a ks.length c] W fun e w' => e = .returned (.tuple #[]) /\ (Mp obM w' go (n + ks.length) (tkFO F G ks) /\ W.grownBy w' (some go)) /\ w'.cell? ⟨B, 0, none⟩ = some (.map (some x)) /\ w'.cell? ⟨B + 1, 0, none⟩ = some (.map (some y)) /\ w'.cell? ⟨B + 1 + 1, 0, none⟩ = some (.map (some z)) /\ w'.cell? ⟨B + 1 + 1 + 1, 0, none⟩ = some (.func (.func 18) #[] #[]) := by
 refine (takeO go gb n m F G a c ks W hF hG hne hk hok hl hn).mono ?_
 rintro e w' ⟨rfl, h1, h2⟩
 exact ⟨rfl, ⟨h1, h2⟩, hx.grown h2 hB⟩
theorem mvAtO (ga gb na nb : Nat) (Fa Fb : Int -> Option OV) (U : List Int) (p : Int -> Bool) (w1 : World) (B x y z : Nat) (hA : Mp obM w1 ga na Fa) (hB : Mp obM w1 gb nb Fb) (hU : RisI U) (hiA : ∀ k, (Fa k).isSome = true -> k ∈ U) (hiB : ∀ k, (Fb k).isSome = true -> k ∈ U) (hok : ∀ k ∈ U, (obM).kok k) (hl : U.length <= 1000) (hn : na <= 20000 /\ nb <= 20000) (hs : SamO w1 U Fa Fb p) (hx : BxO B x y z w1) (hBW : B + 1 + 1 + 1 < w1.heap.size) (W : World) (hW : Below w1.heap.size w1 W) :
  Calls Tryz.prog 17 #[.map (some ga), .map (some gb), .func (.func 18) #[] #[]] W fun e w' => ∃ a c, e = .returned (.slice a (U.filter fun k => !p k).length c) /\ (Lst inC 1 3 w' w1.heap.size (.slice a (U.filter fun k => !p k).length c) (U.filter fun k => !p k) /\ Below w1.heap.size w1 w') /\ w'.cell? ⟨B, 0, none⟩ = some (.map (some x)) /\ w'.cell? ⟨B + 1, 0, none⟩ = some (.map (some y)) /\ w'.cell? ⟨B + 1 + 1, 0, none⟩ = some (.map (some z)) /\ w'.cell? ⟨B + 1 + 1 + 1, 0, none⟩ = some (.func (.func 18) #[] #[]) := by
 refine (mvInO ga gb na nb Fa Fb U p W B x y z (hA.below hW) (hB.below hW) hU hiA hiB hok hl hn (hs.at hW) (hx.below hW hBW) (by have := hW.size; omega)).mono ?_
 rintro e w' ⟨a, c, rfl, ⟨h1, h2⟩, h3⟩
 exact ⟨a, c, rfl, ⟨Lst.lowM h1 hW.size, hW.trans (h2.mono hW.size)⟩, h3⟩
theorem tkAtO (go gb n m : Nat) (F G : Int -> Option OV) (ks : List Int) (w1 : World) (B x y z : Nat) (hF : Mp obM w1 go n F) (hG : Mp obM w1 gb m G) (hne : go ≠ gb) (hok : ∀ k ∈ ks, (obM).kok k) (hl : ks.length <= 1000) (hn : n <= 10000) (hx : BxO B x y z w1) (hB : B + 1 + 1 + 1 < go) (W : World) (a : Option Addr) (c : Nat) (h : Lst inC 1 3 W w1.heap.size (.slice a ks.length c) ks /\ Below w1.heap.size w1 W) (W' : World) (hW : Below W.heap.size W W') :
  Calls Tryz.prog 54 #[.map (some go), .map (some gb), .slice a ks.length c] W' fun e w' => e = .returned (.tuple #[]) /\ (Mp obM w' go (n + ks.length) (tkFO F G ks) /\ Below (B + 1 + 1 + 1 + 1) w1 w') /\ w'.cell? ⟨B, 0, none⟩ = some (.map (some x)) /\ w'.cell? ⟨B + 1, 0, none⟩ = some (.map (some y)) /\ w'.cell? ⟨B + 1 + 1, 0, none⟩ = some (.map (some z)) /\ w'.cell? ⟨B + 1 + 1 + 1, 0, none⟩ = some (.func (.func 18) #[] #[]) := by
 have hall : Below w1.heap.size w1 W' := h.2.trans (hW.mono h.2.size)
 have hlt := hF.lt
 obtain ⟨a', c', e', hs'⟩ := h.1.sls inC_len (by omega)
 cases e'
 refine (tkInO go gb n m F G a c ks W' B x y z (hF.below hall) (hG.below hall) hne (hs'.below hW) hok hl hn (hx.below hall (by omega)) hB).mono ?_
 rintro e w' ⟨rfl, ⟨h1, h2⟩, h3⟩
 refine ⟨rfl, ⟨h1, (hall.mono (by omega)).trans ((Below.refl _ _).grown h2 (by have := hall.size; omega) (fun j hj => by cases hj; omega))⟩, h3⟩
set_option maxRecDepth 100000 in
set_option maxHeartbeats 1000000 in
theorem th1S (k : ByteArray) (pi pm pa pb gm ga gb nm na nb : Nat) (Fm Fa Fb : ByteArray -> Option Int) (r1 r2 : Bool) (w : World) (ci : w.cell? ⟨pi, 0, none⟩ = some (.func (.func 30) #[] #[])) (cm : w.cell? ⟨pm, 0, none⟩ = some (.map (some gm))) (ca : w.cell? ⟨pa, 0, none⟩ = some (.map (some ga))) (cb : w.cell? ⟨pb, 0, none⟩ = some (.map (some gb))) (hM : Mp leM w gm nm Fm) (hA : Mp leM w ga na Fa) (hB : Mp leM w gb nb Fb) (hk : (leM).kok k)
  (hs1 : Calls Tryz.prog 30 #[(Value.int .i64) ((Fm k).getD (leM).z), (Value.int .i64) ((Fa k).getD (leM).z)] w fun e w' => e = .returned (.bool r1) /\ Below w.heap.size w w') (hs2 : ∀ W, Below w.heap.size w W -> Calls Tryz.prog 30 #[(Value.int .i64) ((Fm k).getD (leM).z), (Value.int .i64) ((Fb k).getD (leM).z)] W fun e w' => e = .returned (.bool r2) /\ Below W.heap.size W w') :
  Calls Tryz.prog 59 #[Value.string k, .pointer (some ⟨pi, 0, none⟩), .pointer (some ⟨pm, 0, none⟩), .pointer (some ⟨pa, 0, none⟩), .pointer (some ⟨pb, 0, none⟩)] w fun e w' => e = .returned (.bool (r1 || r2)) /\ Below w.heap.size w w' := by
 have l1 : (Instr.lookup 75 (.map (some gm)) (Value.string k) false).run Tryz.prog w = .ok ((Value.int .i64) ((Fm k).getD (leM).z)) w := hM.look hk
 have l2 : (Instr.lookup 75 (.map (some ga)) (Value.string k) false).run Tryz.prog w = .ok ((Value.int .i64) ((Fa k).getD (leM).z)) w := hA.look hk
 have l3 : ∀ W, Below w.heap.size w W -> (Instr.lookup 75 (.map (some gm)) (Value.string k) false).run Tryz.prog W = .ok ((Value.int .i64) ((Fm k).getD (leM).z)) W := fun W hW => (hM.below hW).look hk
 have l4 : ∀ W, Below w.heap.size w W -> (Instr.lookup 75 (.map (some gb)) (Value.string k) false).run Tryz.prog W = .ok ((Value.int .i64) ((Fb k).getD (leM).z)) W := fun W hW => (hB.below hW).look hk
 have HL3 := hide l3
 have HL4 := hide l4
 have bi := block_lt_of_cell ci
 have bm := block_lt_of_cell cm
 have bb := block_lt_of_cell cb
 generalize (Value.int .i64) ((Fm k).getD (leM).z) = vm at *
 generalize (Value.int .i64) ((Fa k).getD (leM).z) = va at *
 generalize (Value.int .i64) ((Fb k).getD (leM).z) = vb at *
 have HS1 := hide hs1
 have HS2 := hide hs2
 have CI := hide ci
 have CM := hide cm
 have CB := hide cb
 clear hM hA hB hs1 hs2 hk l3 l4
 cases r1 with
 | true =>
  go_enter Tryz.func59, Tryz.ntmps59
  go_wp2_with (go_at_call 30; refine (unhide HS1).mono ?_; rintro e w1 ⟨rfl, hb⟩)
  go_ret
  exact ⟨rfl, hb⟩
 | false =>
  rw [Bool.false_or]
  go_enter Tryz.func59, Tryz.ntmps59
  go_wp2_with (first
   | (go_at_call 30; refine (unhide HS1).mono ?_; rintro e w1 ⟨rfl, hb⟩; clear HS1; have d1 := (hb.cell (p := ⟨pi, 0, none⟩) bi).trans (unhide CI); have d2 := (hb.cell (p := ⟨pm, 0, none⟩) bm).trans (unhide CM); have d3 := (hb.cell (p := ⟨pb, 0, none⟩) bb).trans (unhide CB); have m1 := unhide HL3 w1 hb; have m2 := unhide HL4 w1 hb; have HB1 := hide hb)
   | (go_at_call 30; refine (unhide HS2 w1 (unhide HB1)).mono ?_; rintro e w2 ⟨rfl, hb2⟩))
  go_ret
  exact ⟨rfl, (unhide HB1).trans (hb2.mono (unhide HB1).size)⟩
def BxS (B gm ga gb : Nat) (W : World) : Prop := W.cell? ⟨B, 0, none⟩ = some (.map (some gm)) /\ W.cell? ⟨B + 1, 0, none⟩ = some (.map (some ga)) /\ W.cell? ⟨B + 1 + 1, 0, none⟩ = some (.map (some gb)) /\ W.cell? ⟨B + 1 + 1 + 1, 0, none⟩ = some (.func (.func 30) #[] #[])
theorem BxS.below {B C gm ga gb : Nat} {W W' : World} (h : BxS B gm ga gb W) (hb : Below C W W') (hC : B + 1 + 1 + 1 < C) : BxS B gm ga gb W' :=
 ⟨(hb.cell (p := ⟨B, 0, none⟩) (by show B < _; omega)).trans h.1, (hb.cell (p := ⟨B + 1, 0, none⟩) (by show B + 1 < _; omega)).trans h.2.1, (hb.cell (p := ⟨B + 1 + 1, 0, none⟩) (by show B + 1 + 1 < _; omega)).trans h.2.2.1, (hb.cell (p := ⟨B + 1 + 1 + 1, 0, none⟩) hC).trans h.2.2.2⟩
theorem BxS.grown {B g gm ga gb : Nat} {W W' : World} (h : BxS B gm ga gb W) (hb : W.grownBy W' (some g)) (hC : B + 1 + 1 + 1 < g) : BxS B gm ga gb W' :=
 ⟨hb.cell h.1 (fun e => by have := Option.some.inj e; dsimp only at this; omega), hb.cell h.2.1 (fun e => by have := Option.some.inj e; dsimp only at this; omega), hb.cell h.2.2.1 (fun e => by have := Option.some.inj e; dsimp only at this; omega), hb.cell h.2.2.2 (fun e => by have := Option.some.inj e; dsimp only at this; omega)⟩
def thFS (Fm Fa Fb : ByteArray -> Option Int) (U : List ByteArray) (pa pb : ByteArray -> Bool) : ByteArray -> Option Int := tkFS (tkFS Fm Fb (U.filter fun k => !pb k)) Fa (U.filter fun k => !pa k)
def SamS (w : World) (U : List ByteArray) (Fa Fb : ByteArray -> Option Int) (p : ByteArray -> Bool) : Prop := (∀ k ∈ U, ∀ W, Below w.heap.size w W -> Calls Tryz.prog 30 #[(Value.int .i64) ((Fa k).getD (leM).z), (Value.int .i64) ((Fb k).getD (leM).z)] W fun e w' => e = .returned (.bool (p k)) /\ Below W.heap.size W w') /\ ∀ k ∈ U, Fa k = none -> Fb k = none -> p k = true
theorem SamS.at {w W : World} {U : List ByteArray} {Fa Fb : ByteArray -> Option Int} {p : ByteArray -> Bool} (h : SamS w U Fa Fb p) (hW : Below w.heap.size w W) : SamS W U Fa Fb p := ⟨fun k hk W' hb => h.1 k hk W' (hW.trans (hb.mono hW.size)), h.2⟩
theorem mvInS (ga gb na nb : Nat) (Fa Fb : ByteArray -> Option Int) (U : List ByteArray) (p : ByteArray -> Bool) (W : World) (B x y z : Nat) (hA : Mp leM W ga na Fa) (hB : Mp leM W gb nb Fb) (hU : Ris U) (hiA : ∀ k, (Fa k).isSome = true -> k ∈ U) (hiB : ∀ k, (Fb k).isSome = true -> k ∈ U) (hok : ∀ k ∈ U, (leM).kok k) (hl : U.length <= 1000) (hn : na <= 20000 /\ nb <= 20000) (hs : SamS W U Fa Fb p) (hx : BxS B x y z W) (hBW : B + 1 + 1 + 1 < W.heap.size) :
  Calls Tryz.prog 58 #[.map (some ga), .map (some gb), .func (.func 30) #[] #[]] W fun e w' => ∃ a c, e = .returned (.slice a (U.filter fun k => !p k).length c) /\ (Lst sgC 1 9 w' W.heap.size (.slice a (U.filter fun k => !p k).length c) (U.filter fun k => !p k) /\ Below W.heap.size W w') /\ w'.cell? ⟨B, 0, none⟩ = some (.map (some x)) /\ w'.cell? ⟨B + 1, 0, none⟩ = some (.map (some y)) /\ w'.cell? ⟨B + 1 + 1, 0, none⟩ = some (.map (some z)) /\ w'.cell? ⟨B + 1 + 1 + 1, 0, none⟩ = some (.func (.func 30) #[] #[]) := by
 refine (movedS ga gb na nb Fa Fb U p W hA hB hU hiA hiB hok hl hn hs.1 hs.2).mono ?_
 rintro e w' ⟨v, rfl, h1, h2⟩
 obtain ⟨a, c, rfl, _⟩ := h1.sls sgC_len (Nat.le_trans (List.length_filter_le _ _) (by omega))
 exact ⟨a, c, rfl, ⟨h1, h2⟩, hx.below h2 hBW⟩
theorem tkInS (go gb n m : Nat) (F G : ByteArray -> Option Int) (a : Option Addr) (c : Nat) (ks : List ByteArray) (W : World) (B x y z : Nat) (hF : Mp leM W go n F) (hG : Mp leM W gb m G) (hne : go ≠ gb) (hk : Sls sgC 1 W a c ks) (hok : ∀ k ∈ ks, (leM).kok k) (hl : ks.length <= 1000) (hn : n <= 10000) (hx : BxS B x y z W) (hB : B + 1 + 1 + 1 < go) :
  Calls Tryz.prog 57 #[.map (some go), .map (some gb), .slice a ks.length c] W fun e w' => e = .returned (.tuple #[]) /\ (Mp leM w' go (n + ks.length) (tkFS F G ks) /\ W.grownBy w' (some go)) /\ w'.cell? ⟨B, 0, none⟩ = some (.map (some x)) /\ w'.cell? ⟨B + 1, 0, none⟩ = some (.map (some y)) /\ w'.cell? ⟨B + 1 + 1, 0, none⟩ = some (.map (some z)) /\ w'.cell? ⟨B + 1 + 1 + 1, 0, none⟩ = some (.func (.func 30) #[] #[]) := by
 refine (takeS go gb n m F G a c ks W hF hG hne hk hok hl hn).mono ?_
 rintro e w' ⟨rfl, h1, h2⟩
 exact ⟨rfl, ⟨h1, h2⟩, hx.grown h2 hB⟩
theorem mvAtS (ga gb na nb : Nat) (Fa Fb : ByteArray -> Option Int) (U : List ByteArray) (p : ByteArray -> Bool) (w1 : World) (B x y z : Nat) (hA : Mp leM w1 ga na Fa) (hB : Mp leM w1 gb nb Fb) (hU : Ris U) (hiA : ∀ k, (Fa k).isSome = true -> k ∈ U) (hiB : ∀ k, (Fb k).isSome = true -> k ∈ U) (hok : ∀ k ∈ U, (leM).kok k) (hl : U.length <= 1000) (hn : na <= 20000 /\ nb <= 20000) (hs : SamS w1 U Fa Fb p) (hx : BxS B x y z w1) (hBW : B + 1 + 1 + 1 < w1.heap.size) (W : World) (hW : Below w1.heap.size w1 W) :
  Calls Tryz.prog 58 #[.map (some ga), .map (some gb), .func (.func 30) #[] #[]] W fun e w' => ∃ a c, e = .returned (.slice a (U.filter fun k => !p k).length c) /\ (Lst sgC 1 9 w' w1.heap.size (.slice a (U.filter fun k => !p k).length c) (U.filter fun k => !p k) /\ Below w1.heap.size w1 w') /\ w'.cell? ⟨B, 0, none⟩ = some (.map (some x)) /\ w'.cell? ⟨B + 1, 0, none⟩ = some (.map (some y)) /\ w'.cell? ⟨B + 1 + 1, 0, none⟩ = some (.map (some z)) /\ w'.cell? ⟨B + 1 + 1 + 1, 0, none⟩ = some (.func (.func 30) #[] #[]) := by
 refine (mvInS ga gb na nb Fa Fb U p W B x y z (hA.below hW) (hB.below hW) hU hiA hiB hok hl hn (hs.at hW) (hx.below hW hBW) (by have := hW.size; omega)).mono ?_
 rintro e w' ⟨a, c, rfl, ⟨h1, h2⟩, h3⟩
 exact ⟨a, c, rfl, ⟨Lst.lowM h1 hW.size, hW.trans (h2.mono hW.size)⟩, h3⟩
theorem tkAtS (go gb n m : Nat) (F G : ByteArray -> Option Int) (ks : List ByteArray) (w1 : World) (B x y z : Nat) (hF : Mp leM w1 go n F) (hG : Mp leM w1 gb m G) (hne : go ≠ gb) (hok : ∀ k ∈ ks, (leM).kok k) (hl : ks.length <= 1000) (hn : n <= 10000) (hx : BxS B x y z w1) (hB : B + 1 + 1 + 1 < go) (W : World) (a : Option Addr) (c : Nat) (h : Lst sgC 1 9 W w1.heap.size (.slice a ks.length c) ks /\ Below w1.heap.size w1 W) (W' : World) (hW : Below W.heap.size W W') :
  Calls Tryz.prog 57 #[.map (some go), .map (some gb), .slice a ks.length c] W' fun e w' => e = .returned (.tuple #[]) /\ (Mp leM w' go (n + ks.length) (tkFS F G ks) /\ Below (B + 1 + 1 + 1 + 1) w1 w') /\ w'.cell? ⟨B, 0, none⟩ = some (.map (some x)) /\ w'.cell? ⟨B + 1, 0, none⟩ = some (.map (some y)) /\ w'.cell? ⟨B + 1 + 1, 0, none⟩ = some (.map (some z)) /\ w'.cell? ⟨B + 1 + 1 + 1, 0, none⟩ = some (.func (.func 30) #[] #[]) := by
 have hall : Below w1.heap.size w1 W' := h.2.trans (hW.mono h.2.size)
 have hlt := hF.lt
 obtain ⟨a', c', e', hs'⟩ := h.1.sls sgC_len (by omega)
 cases e'
 refine (tkInS go gb n m F G a c ks W' B x y z (hF.below hall) (hG.below hall) hne (hs'.below hW) hok hl hn (hx.below hall (by omega)) hB).mono ?_
 rintro e w' ⟨rfl, ⟨h1, h2⟩, h3⟩
 refine ⟨rfl, ⟨h1, (hall.mono (by omega)).trans ((Below.refl _ _).grown h2 (by have := hall.size; omega) (fun j hj => by cases hj; omega))⟩, h3⟩
set_option maxRecDepth 100000 in
set_option maxHeartbeats 4000000 in
theorem threeO (gm ga gb nm na nb : Nat) (Fm Fa Fb : Int -> Option OV) (U : List Int) (pa pb pc : Int -> Bool) (w : World) (hM : Mp obM w gm nm Fm) (hA : Mp obM w ga na Fa) (hB : Mp obM w gb nb Fb) (hU : RisI U) (hiM : ∀ k, (Fm k).isSome = true -> k ∈ U) (hiA : ∀ k, (Fa k).isSome = true -> k ∈ U) (hiB : ∀ k, (Fb k).isSome = true -> k ∈ U) (hok : ∀ k ∈ U, (obM).kok k) (hl : U.length <= 1000) (hn : nm <= 5000 /\ na <= 5000 /\ nb <= 5000)
    (sa : SamO w U Fm Fa pa) (sb : SamO w U Fm Fb pb) (sc : SamO w U Fa Fb pc) :
    Calls Tryz.prog 28 #[.map (some gm), .map (some ga), .map (some gb), .func (.func 18) #[] #[]] w fun e w' => ∃ gE v, e = .returned (.tuple #[.map (some gE), v]) /\ w.heap.size <= gE /\ Mp obM w' gE 7000 (thFO Fm Fa Fb U pa pb) /\ Lst inC 1 3 w' w.heap.size v ((U.filter fun k => !pc k).filter fun k => !(pa k || pb k)) /\ Below w.heap.size w w' := by
  have hb0 : Below w.heap.size w ((((w.alloc (.cells #[.map (some gm)] 50)).alloc (.cells #[.map (some ga)] 50)).alloc (.cells #[.map (some gb)] 50)).alloc (.cells #[.func (.func 18) #[] #[]] 51)) := ((((Below.refl _ _).alloc (Nat.le_refl _) _).alloc (by rw [sz_alloc]; omega) _).alloc (by rw [sz_alloc, sz_alloc]; omega) _).alloc (by rw [sz_alloc, sz_alloc, sz_alloc]; omega) _
  have s0 : ((((w.alloc (.cells #[.map (some gm)] 50)).alloc (.cells #[.map (some ga)] 50)).alloc (.cells #[.map (some gb)] 50)).alloc (.cells #[.func (.func 18) #[] #[]] 51)).heap.size = w.heap.size + 1 + 1 + 1 + 1 := by rw [sz_alloc, sz_alloc, sz_alloc, sz_alloc]
  have hx0 : BxO w.heap.size gm ga gb ((((w.alloc (.cells #[.map (some gm)] 50)).alloc (.cells #[.map (some ga)] 50)).alloc (.cells #[.map (some gb)] 50)).alloc (.cells #[.func (.func 18) #[] #[]] 51)) :=
    ⟨cell_old _ (cell_old _ (cell_old _ (cell_new1 _ _ _))),
     cell_old _ (cell_old _ (by have := cell_new1 (w.alloc (.cells #[.map (some gm)] 50)) (.map (some ga)) 50; rwa [sz_alloc] at this)),
     cell_old _ (by have := cell_new1 ((w.alloc (.cells #[.map (some gm)] 50)).alloc (.cells #[.map (some ga)] 50)) (.map (some gb)) 50; rwa [sz_alloc, sz_alloc] at this),
     by have := cell_new1 (((w.alloc (.cells #[.map (some gm)] 50)).alloc (.cells #[.map (some ga)] 50)).alloc (.cells #[.map (some gb)] 50)) (.func (.func 18) #[] #[]) 51; rwa [sz_alloc, sz_alloc, sz_alloc] at this⟩
  have HC := hide (cloneO gm nm Fm _ (hM.below hb0))
  have HB0 := hide hb0
  have HS0 := hide s0
  have HX0 := hide hx0
  have HM := hide hM
  have HA := hide hA
  have HB := hide hB
  have hgm := hM.lt
  have hga := hA.lt
  have hgb := hB.lt
  have HU := hide hU
  have HIM := hide hiM
  have HIA := hide hiA
  have HIB := hide hiB
  have HOK := hide hok
  have HSA := hide sa
  have HSB := hide sb
  have HSC := hide sc
  have HOKF : Hid (∀ (q : Int -> Bool), ∀ k ∈ U.filter (fun k => !q k), (obM).kok k) := hide (fun q k hk => hok k (List.mem_filter.1 hk).1)
  have HLF : Hid (∀ (q : Int -> Bool), (U.filter (fun k => !q k)).length <= 1000) := hide (fun q => Nat.le_trans (List.length_filter_le _ _) hl)
  clear hb0 s0 hx0 hM hA hB hU hiM hiA hiB hok sa sb sc
  go_enter Tryz.func28, Tryz.ntmps28
  go_wp2_with fail
  refine (unhide HC).mono ?_
  rintro e w1 ⟨gE, rfl, hgE, hm1, hb1⟩
  have hB1 : Below w.heap.size w w1 := (unhide HB0).trans (hb1.mono (by rw [unhide HS0]; omega))
  have hx1 := (unhide HX0).below hb1 (by rw [unhide HS0]; omega)
  have hz1 : w.heap.size + 1 + 1 + 1 + 1 <= w1.heap.size := by have := hb1.size; rw [unhide HS0] at this; exact this
  rw [unhide HS0] at hgE
  have hgE1 := hm1.lt
  have HMV := hide (mvAtO gm gb nm nb Fm Fb U pb w1 w.heap.size gm ga gb ((unhide HM).below hB1) ((unhide HB).below hB1) (unhide HU) (unhide HIM) (unhide HIB) (unhide HOK) hl (by omega) ((unhide HSB).at hB1) hx1 (by omega))
  have HTK := hide (tkAtO gE gb nm nb Fm Fb (U.filter fun k => !pb k) w1 w.heap.size gm ga gb hm1 ((unhide HB).below hB1) (by omega) (unhide HOKF pb) (unhide HLF pb) (by omega) hx1 (by omega))
  have HB1 := hide hB1
  obtain ⟨q0, q1, q2, q3⟩ := hx1
  have hNL := unhide HLF pb
  generalize (U.filter fun k => !pb k).length = NB at HMV HTK hNL
  clear hm1 hb1 hB1 HC HB0 HS0 HX0
  go_upto_region 2 with fail
  go_region_held3 (fun w' => w'.cell? ⟨w.heap.size, 0, none⟩ = some (.map (some gm)) /\ w'.cell? ⟨w.heap.size + 1, 0, none⟩ = some (.map (some ga)) /\ w'.cell? ⟨w.heap.size + 1 + 1, 0, none⟩ = some (.map (some gb)) /\ w'.cell? ⟨w.heap.size + 1 + 1 + 1, 0, none⟩ = some (.func (.func 18) #[] #[])) (first | go_keep | (go_split_ands; refine ⟨?_, ?_, ?_, ?_⟩ <;> go_keep))
    (first | (go_at_call 17; refine (unhide HMV _ (by repeat (first | exact Below.refl _ _ | refine Below.drew ?_))).mono ?_; rintro e w2 ⟨a2, c2, rfl, h2, r0, r1, r2, r3⟩) | (go_at_call 54; refine (unhide HTK _ _ _ h2 _ (by repeat (first | exact Below.refl _ _ | refine Below.drew ?_))).mono ?_; rintro e w3 ⟨rfl, h3, t0, t1, t2, t3⟩))
  obtain ⟨hm3, hb3⟩ := h3
  have hB3 : Below w.heap.size w w3 := (unhide HB1).trans (hb3.mono (by omega))
  have hx3 : BxO w.heap.size gm ga gb w3 := ⟨t0, t1, t2, t3⟩
  have hgE3 := hm3.lt
  have hz3 : w.heap.size + 1 + 1 + 1 + 1 <= w3.heap.size := by have := hb3.size; omega
  have HMV3 := hide (mvAtO gm ga nm na Fm Fa U pa w3 w.heap.size gm ga gb ((unhide HM).below hB3) ((unhide HA).below hB3) (unhide HU) (unhide HIM) (unhide HIA) (unhide HOK) hl (by omega) ((unhide HSA).at hB3) hx3 (by omega))
  have HTK3 := hide (tkAtO gE ga (nm + NB) na (tkFO Fm Fb (U.filter fun k => !pb k)) Fa (U.filter fun k => !pa k) w3 w.heap.size gm ga gb hm3 ((unhide HA).below hB3) (by omega) (unhide HOKF pa) (unhide HLF pa) (by omega) hx3 (by omega))
  have HB3 := hide hB3
  have hNA := unhide HLF pa
  generalize (U.filter fun k => !pa k).length = NA at HMV3 HTK3 hNA
  clear hm3 hb3 hB3 hx3 h2 HMV HTK HB1 q0 q1 q2 q3 r0 r1 r2 r3
  go_upto_region 3 with fail
  go_region_held3 (fun w' => w'.cell? ⟨w.heap.size, 0, none⟩ = some (.map (some gm)) /\ w'.cell? ⟨w.heap.size + 1, 0, none⟩ = some (.map (some ga)) /\ w'.cell? ⟨w.heap.size + 1 + 1, 0, none⟩ = some (.map (some gb)) /\ w'.cell? ⟨w.heap.size + 1 + 1 + 1, 0, none⟩ = some (.func (.func 18) #[] #[])) (first | go_keep | (go_split_ands; refine ⟨?_, ?_, ?_, ?_⟩ <;> go_keep))
    (first | (go_at_call 17; refine (unhide HMV3 _ (by repeat (first | exact Below.refl _ _ | refine Below.drew ?_))).mono ?_; rintro e w4 ⟨a4, c4, rfl, h4, r0, r1, r2, r3⟩) | (go_at_call 54; refine (unhide HTK3 _ _ _ h4 _ (by repeat (first | exact Below.refl _ _ | refine Below.drew ?_))).mono ?_; rintro e w5 ⟨rfl, h5, s0, s1, s2, s3⟩))
  obtain ⟨hm5, hb5⟩ := h5
  have hB5 : Below w.heap.size w w5 := (unhide HB3).trans (hb5.mono (by omega))
  have hx5 : BxO w.heap.size gm ga gb w5 := ⟨s0, s1, s2, s3⟩
  have hgE5 := hm5.lt
  have hz5 : w.heap.size + 1 + 1 + 1 + 1 <= w5.heap.size := by have := hb5.size; omega
  have HMV5 := hide (mvAtO ga gb na nb Fa Fb U pc w5 w.heap.size gm ga gb ((unhide HA).below hB5) ((unhide HB).below hB5) (unhide HU) (unhide HIA) (unhide HIB) (unhide HOK) hl (by omega) ((unhide HSC).at hB5) hx5 (by omega) w5 (Below.refl _ _))
  have HB5 := hide hB5
  have HM5 := hide hm5
  have HX5 := hide hx5
  clear hm5 hb5 hB5 hx5 h4 HMV3 HTK3 HB3 t0 t1 t2 t3 r0 r1 r2 r3
  go_wp2_with fail
  refine (unhide HMV5).mono ?_
  rintro e w6 ⟨a6, c6, rfl, ⟨hl6, hb6⟩, _⟩
  have hsay : SaysO w6 w5.heap.size 55 #[.pointer (some ⟨w.heap.size + 1 + 1 + 1, 0, none⟩), .pointer (some ⟨w.heap.size, 0, none⟩), .pointer (some ⟨w.heap.size + 1, 0, none⟩), .pointer (some ⟨w.heap.size + 1 + 1, 0, none⟩)] (U.filter fun k => !pc k) (fun k => pa k || pb k) := fun W x hx hW => by
    have hxU := (List.mem_filter.1 hx).1
    have hW5 : Below w5.heap.size w5 W := hb6.trans hW
    have hWw : Below w.heap.size w W := (unhide HB5).trans (hW5.mono (unhide HB5).size)
    obtain ⟨y0, y1, y2, y3⟩ := (unhide HX5).below hW5 (by omega)
    exact th1O x _ _ _ _ gm ga gb nm na nb Fm Fa Fb (pa x) (pb x) W y3 y0 y1 y2 ((unhide HM).below hWw) ((unhide HA).below hWw) ((unhide HB).below hWw) (unhide HOK x hxU) ((unhide HSA).1 x hxU W hWw) (fun W' hW' => (unhide HSB).1 x hxU W' (hWw.trans (hW'.mono hWw.size)))
  have HD := hide (delO 55 _ _ _ w5.heap.size _ w6 (enters_of Tryz.func55 (by kernel_rfl) rfl) hsay hb6.size hl6 (unhide HLF pc))
  have HB6 := hide hb6
  have hB5s := (unhide HB5).size
  clear hsay hl6 hb6 HMV5 HX5
  generalize (U.filter fun k => !pc k).length = NC at HD
  go_wp2_with fail
  refine (unhide HD).mono ?_
  rintro e w7 ⟨v7, rfl, hl7, hb7⟩
  have hB7 : Below w5.heap.size w5 w7 := (unhide HB6).trans hb7
  have HL7 := hide (Lst.lowM hl7 hB5s)
  have HM7 : Hid (Mp obM w7 gE 7000 (thFO Fm Fa Fb U pa pb)) := hide (((unhide HM5).below hB7).mono (by omega))
  have HB7 := hide ((unhide HB5).trans (hB7.mono hB5s))
  obtain ⟨a7, m7, c7, rfl⟩ := hl7.shape
  clear hl7 hb7 hB7 HD HB6 HM5 HB5
  go_wp2
  go_ret2
  exact ⟨gE, _, rfl, by omega, unhide HM7, unhide HL7, unhide HB7⟩
set_option maxRecDepth 100000 in
set_option maxHeartbeats 4000000 in
theorem threeS (gm ga gb nm na nb : Nat) (Fm Fa Fb : ByteArray -> Option Int) (U : List ByteArray) (pa pb pc : ByteArray -> Bool) (w : World) (hM : Mp leM w gm nm Fm) (hA : Mp leM w ga na Fa) (hB : Mp leM w gb nb Fb) (hU : Ris U) (hiM : ∀ k, (Fm k).isSome = true -> k ∈ U) (hiA : ∀ k, (Fa k).isSome = true -> k ∈ U) (hiB : ∀ k, (Fb k).isSome = true -> k ∈ U) (hok : ∀ k ∈ U, (leM).kok k) (hl : U.length <= 1000) (hn : nm <= 5000 /\ na <= 5000 /\ nb <= 5000)
    (sa : SamS w U Fm Fa pa) (sb : SamS w U Fm Fb pb) (sc : SamS w U Fa Fb pc) :
    Calls Tryz.prog 29 #[.map (some gm), .map (some ga), .map (some gb), .func (.func 30) #[] #[]] w fun e w' => ∃ gE v, e = .returned (.tuple #[.map (some gE), v]) /\ w.heap.size <= gE /\ Mp leM w' gE 7000 (thFS Fm Fa Fb U pa pb) /\ Lst sgC 1 9 w' w.heap.size v ((U.filter fun k => !pc k).filter fun k => !(pa k || pb k)) /\ Below w.heap.size w w' := by
  have hb0 : Below w.heap.size w ((((w.alloc (.cells #[.map (some gm)] 75)).alloc (.cells #[.map (some ga)] 75)).alloc (.cells #[.map (some gb)] 75)).alloc (.cells #[.func (.func 30) #[] #[]] 78)) := ((((Below.refl _ _).alloc (Nat.le_refl _) _).alloc (by rw [sz_alloc]; omega) _).alloc (by rw [sz_alloc, sz_alloc]; omega) _).alloc (by rw [sz_alloc, sz_alloc, sz_alloc]; omega) _
  have s0 : ((((w.alloc (.cells #[.map (some gm)] 75)).alloc (.cells #[.map (some ga)] 75)).alloc (.cells #[.map (some gb)] 75)).alloc (.cells #[.func (.func 30) #[] #[]] 78)).heap.size = w.heap.size + 1 + 1 + 1 + 1 := by rw [sz_alloc, sz_alloc, sz_alloc, sz_alloc]
  have hx0 : BxS w.heap.size gm ga gb ((((w.alloc (.cells #[.map (some gm)] 75)).alloc (.cells #[.map (some ga)] 75)).alloc (.cells #[.map (some gb)] 75)).alloc (.cells #[.func (.func 30) #[] #[]] 78)) :=
    ⟨cell_old _ (cell_old _ (cell_old _ (cell_new1 _ _ _))),
     cell_old _ (cell_old _ (by have := cell_new1 (w.alloc (.cells #[.map (some gm)] 75)) (.map (some ga)) 75; rwa [sz_alloc] at this)),
     cell_old _ (by have := cell_new1 ((w.alloc (.cells #[.map (some gm)] 75)).alloc (.cells #[.map (some ga)] 75)) (.map (some gb)) 75; rwa [sz_alloc, sz_alloc] at this),
     by have := cell_new1 (((w.alloc (.cells #[.map (some gm)] 75)).alloc (.cells #[.map (some ga)] 75)).alloc (.cells #[.map (some gb)] 75)) (.func (.func 30) #[] #[]) 78; rwa [sz_alloc, sz_alloc, sz_alloc] at this⟩
  have HC := hide (cloneS gm nm Fm _ (hM.below hb0))
  have HB0 := hide hb0
  have HS0 := hide s0
  have HX0 := hide hx0
  have HM := hide hM
  have HA := hide hA
  have HB := hide hB
  have hgm := hM.lt
  have hga := hA.lt
  have hgb := hB.lt
  have HU := hide hU
  have HIM := hide hiM
  have HIA := hide hiA
  have HIB := hide hiB
  have HOK := hide hok
  have HSA := hide sa
  have HSB := hide sb
  have HSC := hide sc
  have HOKF : Hid (∀ (q : ByteArray -> Bool), ∀ k ∈ U.filter (fun k => !q k), (leM).kok k) := hide (fun q k hk => hok k (List.mem_filter.1 hk).1)
  have HLF : Hid (∀ (q : ByteArray -> Bool), (U.filter (fun k => !q k)).length <= 1000) := hide (fun q => Nat.le_trans (List.length_filter_le _ _) hl)
  clear hb0 s0 hx0 hM hA hB hU hiM hiA hiB hok sa sb sc
  go_enter Tryz.func29, Tryz.ntmps29
  go_wp2_with fail
  refine (unhide HC).mono ?_
  rintro e w1 ⟨gE, rfl, hgE, hm1, hb1⟩
  have hB1 : Below w.heap.size w w1 := (unhide HB0).trans (hb1.mono (by rw [unhide HS0]; omega))
  have hx1 := (unhide HX0).below hb1 (by rw [unhide HS0]; omega)
  have hz1 : w.heap.size + 1 + 1 + 1 + 1 <= w1.heap.size := by have := hb1.size; rw [unhide HS0] at this; exact this
  rw [unhide HS0] at hgE
  have hgE1 := hm1.lt
  have HMV := hide (mvAtS gm gb nm nb Fm Fb U pb w1 w.heap.size gm ga gb ((unhide HM).below hB1) ((unhide HB).below hB1) (unhide HU) (unhide HIM) (unhide HIB) (unhide HOK) hl (by omega) ((unhide HSB).at hB1) hx1 (by omega))
  have HTK := hide (tkAtS gE gb nm nb Fm Fb (U.filter fun k => !pb k) w1 w.heap.size gm ga gb hm1 ((unhide HB).below hB1) (by omega) (unhide HOKF pb) (unhide HLF pb) (by omega) hx1 (by omega))
  have HB1 := hide hB1
  obtain ⟨q0, q1, q2, q3⟩ := hx1
  have hNL := unhide HLF pb
  generalize (U.filter fun k => !pb k).length = NB at HMV HTK hNL
  clear hm1 hb1 hB1 HC HB0 HS0 HX0
  go_upto_region 2 with fail
  go_region_held3 (fun w' => w'.cell? ⟨w.heap.size, 0, none⟩ = some (.map (some gm)) /\ w'.cell? ⟨w.heap.size + 1, 0, none⟩ = some (.map (some ga)) /\ w'.cell? ⟨w.heap.size + 1 + 1, 0, none⟩ = some (.map (some gb)) /\ w'.cell? ⟨w.heap.size + 1 + 1 + 1, 0, none⟩ = some (.func (.func 30) #[] #[])) (first | go_keep | (go_split_ands; refine ⟨?_, ?_, ?_, ?_⟩ <;> go_keep))
    (first | (go_at_call 58; refine (unhide HMV _ (by repeat (first | exact Below.refl _ _ | refine Below.drew ?_))).mono ?_; rintro e w2 ⟨a2, c2, rfl, h2, r0, r1, r2, r3⟩) | (go_at_call 57; refine (unhide HTK _ _ _ h2 _ (by repeat (first | exact Below.refl _ _ | refine Below.drew ?_))).mono ?_; rintro e w3 ⟨rfl, h3, t0, t1, t2, t3⟩))
  obtain ⟨hm3, hb3⟩ := h3
  have hB3 : Below w.heap.size w w3 := (unhide HB1).trans (hb3.mono (by omega))
  have hx3 : BxS w.heap.size gm ga gb w3 := ⟨t0, t1, t2, t3⟩
  have hgE3 := hm3.lt
  have hz3 : w.heap.size + 1 + 1 + 1 + 1 <= w3.heap.size := by have := hb3.size; omega
  have HMV3 := hide (mvAtS gm ga nm na Fm Fa U pa w3 w.heap.size gm ga gb ((unhide HM).below hB3) ((unhide HA).below hB3) (unhide HU) (unhide HIM) (unhide HIA) (unhide HOK) hl (by omega) ((unhide HSA).at hB3) hx3 (by omega))
  have HTK3 := hide (tkAtS gE ga (nm + NB) na (tkFS Fm Fb (U.filter fun k => !pb k)) Fa (U.filter fun k => !pa k) w3 w.heap.size gm ga gb hm3 ((unhide HA).below hB3) (by omega) (unhide HOKF pa) (unhide HLF pa) (by omega) hx3 (by omega))
  have HB3 := hide hB3
  have hNA := unhide HLF pa
  generalize (U.filter fun k => !pa k).length = NA at HMV3 HTK3 hNA
  clear hm3 hb3 hB3 hx3 h2 HMV HTK HB1 q0 q1 q2 q3 r0 r1 r2 r3
  go_upto_region 3 with fail
  go_region_held3 (fun w' => w'.cell? ⟨w.heap.size, 0, none⟩ = some (.map (some gm)) /\ w'.cell? ⟨w.heap.size + 1, 0, none⟩ = some (.map (some ga)) /\ w'.cell? ⟨w.heap.size + 1 + 1, 0, none⟩ = some (.map (some gb)) /\ w'.cell? ⟨w.heap.size + 1 + 1 + 1, 0, none⟩ = some (.func (.func 30) #[] #[])) (first | go_keep | (go_split_ands; refine ⟨?_, ?_, ?_, ?_⟩ <;> go_keep))
    (first | (go_at_call 58; refine (unhide HMV3 _ (by repeat (first | exact Below.refl _ _ | refine Below.drew ?_))).mono ?_; rintro e w4 ⟨a4, c4, rfl, h4, r0, r1, r2, r3⟩) | (go_at_call 57; refine (unhide HTK3 _ _ _ h4 _ (by repeat (first | exact Below.refl _ _ | refine Below.drew ?_))).mono ?_; rintro e w5 ⟨rfl, h5, s0, s1, s2, s3⟩))
  obtain ⟨hm5, hb5⟩ := h5
  have hB5 : Below w.heap.size w w5 := (unhide HB3).trans (hb5.mono (by omega))
  have hx5 : BxS w.heap.size gm ga gb w5 := ⟨s0, s1, s2, s3⟩
  have hgE5 := hm5.lt
  have hz5 : w.heap.size + 1 + 1 + 1 + 1 <= w5.heap.size := by have := hb5.size; omega
  have HMV5 := hide (mvAtS ga gb na nb Fa Fb U pc w5 w.heap.size gm ga gb ((unhide HA).below hB5) ((unhide HB).below hB5) (unhide HU) (unhide HIA) (unhide HIB) (unhide HOK) hl (by omega) ((unhide HSC).at hB5) hx5 (by omega) w5 (Below.refl _ _))
  have HB5 := hide hB5
  have HM5 := hide hm5
  have HX5 := hide hx5
  clear hm5 hb5 hB5 hx5 h4 HMV3 HTK3 HB3 t0 t1 t2 t3 r0 r1 r2 r3
  go_wp2_with fail
  refine (unhide HMV5).mono ?_
  rintro e w6 ⟨a6, c6, rfl, ⟨hl6, hb6⟩, _⟩
  have hsay : SaysS w6 w5.heap.size 59 #[.pointer (some ⟨w.heap.size + 1 + 1 + 1, 0, none⟩), .pointer (some ⟨w.heap.size, 0, none⟩), .pointer (some ⟨w.heap.size + 1, 0, none⟩), .pointer (some ⟨w.heap.size + 1 + 1, 0, none⟩)] (U.filter fun k => !pc k) (fun k => pa k || pb k) := fun W x hx hW => by
    have hxU := (List.mem_filter.1 hx).1
    have hW5 : Below w5.heap.size w5 W := hb6.trans hW
    have hWw : Below w.heap.size w W := (unhide HB5).trans (hW5.mono (unhide HB5).size)
    obtain ⟨y0, y1, y2, y3⟩ := (unhide HX5).below hW5 (by omega)
    exact th1S x _ _ _ _ gm ga gb nm na nb Fm Fa Fb (pa x) (pb x) W y3 y0 y1 y2 ((unhide HM).below hWw) ((unhide HA).below hWw) ((unhide HB).below hWw) (unhide HOK x hxU) ((unhide HSA).1 x hxU W hWw) (fun W' hW' => (unhide HSB).1 x hxU W' (hWw.trans (hW'.mono hWw.size)))
  have HD := hide (delS 59 _ _ _ w5.heap.size _ w6 (enters_of Tryz.func59 (by kernel_rfl) rfl) hsay hb6.size hl6 (unhide HLF pc))
  have HB6 := hide hb6
  have hB5s := (unhide HB5).size
  clear hsay hl6 hb6 HMV5 HX5
  generalize (U.filter fun k => !pc k).length = NC at HD
  go_wp2_with fail
  refine (unhide HD).mono ?_
  rintro e w7 ⟨v7, rfl, hl7, hb7⟩
  have hB7 : Below w5.heap.size w5 w7 := (unhide HB6).trans hb7
  have HL7 := hide (Lst.lowM hl7 hB5s)
  have HM7 : Hid (Mp leM w7 gE 7000 (thFS Fm Fa Fb U pa pb)) := hide (((unhide HM5).below hB7).mono (by omega))
  have HB7 := hide ((unhide HB5).trans (hB7.mono hB5s))
  obtain ⟨a7, m7, c7, rfl⟩ := hl7.shape
  clear hl7 hb7 hB7 HD HB6 HM5 HB5
  go_wp2
  go_ret2
  exact ⟨gE, _, rfl, by omega, unhide HM7, unhide HL7, unhide HB7⟩
end Go.Proofs.YtifmemombecoaaaGreatDoor
