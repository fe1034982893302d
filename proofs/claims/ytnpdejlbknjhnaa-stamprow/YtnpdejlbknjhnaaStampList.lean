/-
  Plain facts on sectors that Make made. (Part of the proofs of StampTells, StampWhole, StampRow.)
-/
import Derived.Test.YtnpdejlbknjhnaaStampB
import Derived.Laws.Strings
namespace Go.Proofs.Ytnpdejlbknjhnaa
open Go.RowKit
set_option linter.unusedVariables false

theorem zerosB_drop (n k : Nat) : (zerosB n).drop k = zerosB (n - k) := by simp [zerosB]
theorem zerosB_take (n k : Nat) (h : k ≤ n) : (zerosB n).take k = zerosB k := by simp [zerosB, Nat.min_eq_left h]

theorem secL_eq (n : Int) (b : List Int) (h : b.length ≤ 24) : secL n b = side n ++ ((b ++ zerosB (24 - b.length)) ++ side n) := by
  have hs := length_side n
  have e1 : splice (zerosB 32) 0 (side n) = side n ++ zerosB 28 := by
    unfold splice; rw [hs, zerosB_drop]; rfl
  have e2 : splice (side n ++ zerosB 28) 4 b = side n ++ (b ++ zerosB (28 - b.length)) := by
    unfold splice
    rw [List.take_append_of_le_length (by omega), List.take_of_length_le (by omega), List.drop_append, hs, List.drop_eq_nil_of_le (by omega), List.nil_append, zerosB_drop]
    congr 3
    omega
  have l3 : (side n ++ (b ++ zerosB (28 - b.length))).length = 32 := by simp [hs, zerosB]; omega
  unfold secL
  rw [e1, e2]
  unfold splice
  rw [List.drop_eq_nil_of_le (by rw [l3, hs]; decide), List.append_nil]
  have e3 : (side n ++ (b ++ zerosB (28 - b.length))).take 28 = side n ++ (b ++ zerosB (24 - b.length)) := by
    rw [List.take_append, hs, List.take_of_length_le (by omega), List.take_append, List.take_of_length_le (by omega), zerosB_take _ _ (by omega)]
  rw [e3, List.append_assoc]

theorem numOf_side (n : Int) (h1 : 1 ≤ n) (h2 : n ≤ 4294967295) : numOf (side n) = n := by
  have h := getV_putK_self (zerosB 4) 0 n 4 (by decide) (by decide) (by omega) (by show n ≤ 4294967295; exact h2) (by rw [length_zerosB]; decide)
  unfold getV at h
  rw [List.drop_zero, List.take_of_length_le (by rw [length_putK, length_zerosB]; decide)] at h
  exact h

theorem secL_front (n : Int) (b : List Int) (h : b.length ≤ 24) : (secL n b).take 4 = side n := by
  rw [secL_eq n b h, List.take_append_of_le_length (by rw [length_side]; decide), List.take_of_length_le (by rw [length_side]; decide)]
theorem secL_back (n : Int) (b : List Int) (h : b.length ≤ 24) : (secL n b).drop 28 = side n := by
  have hs := length_side n
  have l1 : (b ++ zerosB (24 - b.length)).length = 24 := by simp [zerosB]; omega
  rw [secL_eq n b h, List.drop_append, hs, List.drop_eq_nil_of_le (by omega), List.nil_append, List.drop_append, l1, List.drop_eq_nil_of_le (by omega), List.nil_append]
  rfl
theorem secL_body (n : Int) (b : List Int) (h : b.length ≤ 24) : ((secL n b).drop 4).take 24 = b ++ zerosB (24 - b.length) := by
  have hs := length_side n
  have l1 : (b ++ zerosB (24 - b.length)).length = 24 := by simp [zerosB]; omega
  rw [secL_eq n b h, List.drop_append, hs, List.drop_eq_nil_of_le (by omega), List.nil_append]
  show (List.take 24 ((b ++ zerosB (24 - b.length)) ++ side n)) = _
  rw [List.take_append_of_le_length (by omega), List.take_of_length_le (by omega)]
theorem getV_front (l : List Int) : getV l 0 4 = numOf (l.take 4) := by unfold getV; rw [List.drop_zero]
theorem getV_back (l : List Int) (h : l.length = 32) : getV l 28 4 = numOf (l.drop 28) := by
  unfold getV; rw [List.take_of_length_le (by simp; omega)]

theorem openOut_secL (n : Int) (b : List Int) (h1 : 1 ≤ n) (h2 : n ≤ 4294967295) (h : b.length ≤ 24) : openOut (secL n b) = (n, b ++ zerosB (24 - b.length), 0) := by
  have hl := length_secL n b h
  have e1 : getV (secL n b) 0 4 = n := by rw [getV_front, secL_front n b h, numOf_side n h1 h2]
  have e2 : getV (secL n b) 28 4 = n := by rw [getV_back _ hl, secL_back n b h, numOf_side n h1 h2]
  unfold openOut
  rw [if_neg (by omega), e1, e2, if_neg (by omega), if_neg (by omega), secL_body n b h]

theorem strOf_inj {l m : List Int} (hl : Byt l) (hm : Byt m) (h : strOf l = strOf m) : l = m := by
  rw [← strL_strOf l hl, ← strL_strOf m hm, h]
theorem toList_ne {a b : ByteArray} (h : ¬ a = b) : (a.toList == b.toList) = false := by
  have : ¬ a.toList = b.toList := fun e => h (by
    have e2 : a.data.toList = b.data.toList := by rw [← ByteArray.toList_eq, ← ByteArray.toList_eq, e]
    cases a; cases b
    exact congrArg ByteArray.mk (Array.toList_inj.1 e2))
  simpa using this
theorem secL_inj {n m : Int} {b : List Int} (h1 : 1 ≤ n) (h2 : n ≤ 4294967295) (k1 : 1 ≤ m) (k2 : m ≤ 4294967295) (h : b.length ≤ 24) (e : secL n b = secL m b) : n = m := by
  have := openOut_secL n b h1 h2 h
  rw [e, openOut_secL m b k1 k2 h] at this
  exact (congrArg Prod.fst this).symm
end Go.Proofs.Ytnpdejlbknjhnaa
