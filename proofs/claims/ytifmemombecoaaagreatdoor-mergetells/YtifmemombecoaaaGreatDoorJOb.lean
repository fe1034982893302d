/-
  Parts of the proofs, joined by program.
-/
import Derived.Test.YtifmemombecoaaaGreatDoorJIr
import Derived.Test.YtifmemombecoaaaGreatDoorJIl
import Derived.Test.YtifmemombecoaaaGreatDoorJChp
import Derived.Test.YtifmemombecoaaaGreatDoorJNum
import Derived.Deep.RegionWith
import Derived.Test.YtifmemombecoaaaGreatDoorJRc
import Derived.Test.YtifmemombecoaaaGreatDoorJChl
namespace Go.Proofs.YtifmemombecoaaaGreatDoor
open Go.RowKit
set_option linter.unusedVariables false
theorem strOf_nil : strOf [] = { data := #[] } := rfl
set_option maxRecDepth 100000 in
set_option maxHeartbeats 1000000 in
theorem rObject_any (a : Option Addr) (cap : Nat) (L : List Int) (h : Int) (w : World) (hbs : Bs w a cap L) (hl : 288 <= L.length) (h1 : 1 <= h) (h2 : h <= 40) (hin : tagAt L h ≠ 0 -> InL L.length (entOf L h)) :
  Calls Tryz.prog 13 #[.slice a L.length cap, .int .i64 h] w fun e w' => e = .returned (.tuple #[.int .i64 (objOf L h).1, .string (strOf (objOf L h).2)]) /\ Below w.heap.size w w' := by
 have HE := hide (rEntry_any a cap L h w hbs hl h1 h2)
 unfold entV at HE
 have hsm := ent_small (h := h) hbs.1 hl h1 h2
 by_cases ht : tagAt L h = 0
 ·rw [objOf_none ht]
  rw [ht] at HE
  dsimp only
  rw [strOf_nil]
  have hbl := hbs.2.2.1
  clear hbs hin ht h1 h2 hl hsm
  generalize entOf L h = E at *
  obtain ⟨x1, x2, x3, x4⟩ := E
  dsimp only at *
  generalize L.length = N at *
  go_enter Tryz.func13, Tryz.ntmps13
  go_wp2_with fail
  refine (unhide HE).mono ?_
  rintro e w1 ⟨rfl, hb1⟩
  have HB1 := hide (hb1.alloc hb1.size (.cells #[.int .i64 x1, .int .i64 x2, .int .i64 x3, .int .i64 x4] 60))
  clear hb1 HE
  go_wp2
  go_ret2
  exact ⟨rfl, unhide HB1⟩
 ·have ho : objOf L h = objE L (entOf L h) := by unfold objOf; rw [if_neg ht]
  rw [ho]
  rw [bne_iff_ne.2 ht] at HE
  obtain ⟨i1, i2, i3⟩ := hin ht
  have hbl := hbs.2.2.1
  unfold objE
  generalize entOf L h = E at *
  obtain ⟨x1, x2, x3, x4⟩ := E
  dsimp only at *
  obtain ⟨X2, rfl⟩ := Int.eq_ofNat_of_zero_le i1
  obtain ⟨X3, rfl⟩ := Int.eq_ofNat_of_zero_le i2
  obtain ⟨p1, hs1, hb1⟩ := slice_lohi (P := Tryz.prog) (t := 22) Tryz.underlying22 size_u8 hbs X2 (X2 + X3) (by omega) (by omega)
  rw [show X2 + X3 - X2 = X3 by omega, show ((X2 + X3 : Nat) : Int) = (X2 : Int) + X3 by omega] at hs1
  rw [show X2 + X3 - X2 = X3 by omega] at hb1
  have e1 : partL L (X2 : Int) (X3 : Int) = (L.drop X2).take X3 := by unfold partL; rw [Int.toNat_natCast, Int.toNat_natCast]
  rw [e1]
  have l1 : ((L.drop X2).take X3).length = X3 := by simp; omega
  have HCV := hide (fun (W : World) (hW : Below w.heap.size w W) => conv_str (P := Tryz.prog) (t := 22) (e := 9) Tryz.underlying22 Tryz.underlying5 Tryz.underlying9 (hb1.below hW))
  rw [l1] at HCV
  generalize strOf ((L.drop X2).take X3) = s at *
  clear hbs hb1 e1 l1 ho hin ht h1 h2
  generalize L.length = N at *
  go_enter Tryz.func13, Tryz.ntmps13
  go_wp2_with fail
  refine (unhide HE).mono ?_
  rintro e w1 ⟨rfl, hb1⟩
  have hbA := hb1.alloc hb1.size (.cells #[.int .i64 x1, .int .i64 (X2 : Int), .int .i64 (X3 : Int), .int .i64 x4] 60)
  obtain ⟨c0, c1, c2, c3⟩ := (EnB.new w1 (x1, (X2 : Int), (X3 : Int), x4)).cells
  have hcv : ∀ n, (convert 22 9 (.slice p1 X3 (cap - X2))).run Tryz.prog ((w1.alloc (.cells #[.int .i64 x1, .int .i64 (X2 : Int), .int .i64 (X3 : Int), .int .i64 x4] 60)).drewN n) = .ok (.string s) ((w1.alloc (.cells #[.int .i64 x1, .int .i64 (X2 : Int), .int .i64 (X3 : Int), .int .i64 x4] 60)).drewN n) := fun n => unhide HCV _ (below_drewN hbA n)
  have HB1 := hide hbA
  dsimp only at c0 c1 c2 c3
  clear hb1 hbA HE HCV
  go_wp2_with fail
  generalize w1.alloc (.cells #[.int .i64 x1, .int .i64 (X2 : Int), .int .i64 (X3 : Int), .int .i64 x4] 60) = W at *
  go_quiet (fail)
  go_wp2
  go_ret2
  exact ⟨rfl, below_drewN (unhide HB1) nq⟩
theorem byt_obj {L : List Int} {h : Int} (hb : Byt L) : Byt (objOf L h).2 := by
 unfold objOf objE partL
 split
 ·intro z hz; cases hz
 ·intro z hz
  exact hb z (List.mem_of_mem_drop (List.mem_of_mem_take hz))
theorem lead_drop {R : List (ByteArray × Int)} {k : Nat} {r : (ByteArray × Int)} {s : ByteArray} (h : R[k]? = some r) : leadOf (R.drop k) s = if r.1 = s then r.2 else leadOf (R.drop (k + 1)) s := by
 obtain ⟨hk, rfl⟩ := List.getElem?_eq_some_iff.1 h
 rw [List.drop_eq_getElem_cons hk]
 unfold leadOf
 by_cases e : R[k].1 = s
 ·rw [if_pos e, List.find?_cons_of_pos (p := fun (r : (ByteArray × Int)) => r.1 == s) (ba_beq.2 e)]
  rfl
 ·rw [if_neg e, List.find?_cons_of_neg (p := fun (r : (ByteArray × Int)) => r.1 == s) (fun h => e (ba_beq.1 h))]
set_option maxRecDepth 100000 in
theorem rLead_any (a : Option Addr) (cap : Nat) (L : List Int) (s : ByteArray) (w : World) (hbs : Bs w a cap L) (hl : 288 <= L.length) (hl2 : L.length <= 6400) :
  Calls Tryz.prog 23 #[.slice a L.length cap, .string s] w fun e w' => e = .returned (.int .i64 (leadOf (rootsK L 8) s)) /\ Below w.heap.size w w' := by
 have HR := hide (rRoots_any a cap L w hbs hl hl2)
 have hlen := rootsK_len L 8
 have hbl := hbs.2.2.1
 generalize rootsK L 8 = R at *
 generalize L.length = N at *
 clear hbs
 generalize hLD : leadOf R s = V at *
 go_enter Tryz.func23, Tryz.ntmps23
 go_wp2_with fail
 refine (unhide HR).mono ?_
 rintro e w1 ⟨v1, rfl, hown1, hb1⟩
 obtain ⟨a1, c1, rfl, hsl1⟩ := hown1.sls roC_len (by omega)
 have HS1 := hide hsl1
 have HB1 := hide hb1
 have HV : Hid (leadOf (R.drop 0) s = V) := hide (by rw [List.drop_zero]; exact hLD)
 clear hown1 hsl1 hb1 HR hLD
 go_wp2_with fail
 go_loopw [6] (fun iv wr => ∃ k : Nat, k <= R.length /\ iv = .int .i64 (k : Int) /\ leadOf (R.drop k) s = V /\ wr = w1) (fun iv _ => R.length - (intOf iv).toNat)
 case atStart => exact ⟨0, Nat.zero_le _, rfl, unhide HV, rfl⟩
 case round =>
  obtain ⟨k, hk, rfl, hV, hwr⟩ := hrel
  subst hwr
  by_cases hlt : k < R.length
  ·obtain ⟨b1, o1, rfl, hc1⟩ := (unhide HS1).2.2.2 (by intro e; rw [e] at hlt; simp at hlt)
   obtain ⟨r, hr⟩ : ∃ r, R[k]? = some r := ⟨R[k], List.getElem?_eq_getElem hlt⟩
   obtain ⟨q0, q1⟩ := Sls.root (cap := 0) hc1 hr
   rw [lead_drop hr] at hV
   obtain ⟨t, h⟩ := r
   dsimp only at *
   clear hc1 hr
   by_cases e : t = s
   ·rw [if_pos e] at hV
    have heq : (t.toList == s.toList) = true := toL_iff.2 e
    have HVV := hide hV
    clear hV e
    go_wp2
    go_ret
    exact ⟨by rw [<- unhide HVV]; rfl, unhide HB1⟩
   ·rw [if_neg e] at hV
    have heq : (t.toList == s.toList) = false := toL_no e
    have HVV := hide hV
    clear hV e
    go_wp2
    go_roundw
    case rel => exact ⟨k + 1, by omega, by go_num, unhide HVV, trivial⟩
    case measure => simp [intOf]; omega
  ·have hkq : k = R.length := by omega
   have h0 : 0 = V := by rw [hkq, List.drop_length] at hV; exact hV
   have HVV := hide h0
   have hge : ¬ ((k : Int) < (R.length : Int)) := by omega
   clear hV hkq hlt hk h0
   go_wp2
   go_ret
   exact ⟨by rw [<- unhide HVV]; rfl, unhide HB1⟩
theorem sameO_no {a b : List Int} {j : Nat} (hj : j < 40) (h : objOf a ((j : Int) + 1) ≠ objOf b ((j : Int) + 1)) : sameO a b 40 = false := by
 cases hq : sameO a b 40 with
 | false => rfl
 | true => exact absurd (sameO_iff.1 hq j hj) h
theorem right_in {b : List Int} (hf : faults b = []) {h : Int} (h1 : 1 <= h) (h2 : h <= 40) (ht : tagAt b h ≠ 0) : InL b.length (entOf b h) := by
 obtain ⟨n, rfl⟩ : ∃ n : Nat, h = (n : Int) + 1 := ⟨(h - 1).toNat, by omega⟩
 exact right_ents hf _ (mem_entsK.2 ⟨n, by omega, ht, rfl⟩)
end Go.Proofs.YtifmemombecoaaaGreatDoor
