/-
  Lists of bytes and their texts: whether two are the same; bytes.Equal. (Part of the proofs over packages check and diff.)
-/
import Derived.Test.YtifmemombecoaaaGreatDoorJNum
namespace Go.Proofs.YtifmemombecoaaaGreatDoor
open Go.RowKit
set_option linter.unusedVariables false
theorem str_inj {s t : ByteArray} (h : s.data.toList = t.data.toList) : s = t := by
 cases s with | mk x => cases t with | mk y =>
 simp at h
 rw [h]
theorem toL_iff {s t : ByteArray} : (s.toList == t.toList) = true ↔ s = t := by
 constructor
 ·intro h
  have := eq_of_beq h
  rw [ByteArray.toList_eq, ByteArray.toList_eq] at this
  exact str_inj this
 ·intro h
  rw [h]
  exact beq_self_eq_true _
theorem toL_no {s t : ByteArray} (h : s ≠ t) : (s.toList == t.toList) = false := by
 cases hq : (s.toList == t.toList) with
 | false => rfl
 | true => exact absurd (toL_iff.1 hq) h
theorem strOf_iff {l m : List Int} (hl : Byt l) (hm : Byt m) : strOf l = strOf m ↔ l = m := by
 constructor
 ·intro h
  rw [<- strL_strOf l hl, <- strL_strOf m hm, h]
 ·intro h; rw [h]
theorem bytesEq_any (a1 a2 : Option Addr) (c1 c2 : Nat) (l1 l2 : List Int) (w : World) (h1 : Bs w a1 c1 l1) (h2 : Bs w a2 c2 l2) :
  Calls Tryz.prog 48 #[.slice a1 l1.length c1, .slice a2 l2.length c2] w fun r w' => r = .returned (.bool (decide (l1 = l2))) /\ w = w' := by
 have hs1 := conv_str (P := Tryz.prog) (t := 22) (e := 9) Tryz.underlying22 Tryz.underlying5 Tryz.underlying9 h1
 have hs2 := conv_str (P := Tryz.prog) (t := 22) (e := 9) Tryz.underlying22 Tryz.underlying5 Tryz.underlying9 h2
 have he : ((strOf l1).toList == (strOf l2).toList) = decide (l1 = l2) := by
  by_cases e : l1 = l2
  ·rw [decide_eq_true e, e]; exact toL_iff.2 rfl
  ·rw [decide_eq_false e]; exact toL_no (fun h => e ((strOf_iff h1.1 h2.1).1 h))
 generalize decide (l1 = l2) = r at *
 generalize strOf l1 = s1 at *
 generalize strOf l2 = s2 at *
 generalize l1.length = n1 at *
 generalize l2.length = n2 at *
 clear h1 h2
 go_enter Tryz.func48, Tryz.ntmps48
 go_wp2
 go_ret
 exact ⟨rfl, rfl⟩
end Go.Proofs.YtifmemombecoaaaGreatDoor
