/-
  Plain facts on sectors that Make made. (Part of the proofs of StampTells, StampWhole, StampRow.)
-/
import Derived.Test.YtnpdejlbknjhnaaDoorStampB
import Derived.Laws.Strings
namespace Go.Proofs.YtnpdejlbknjhnaaDoor
open Go.RowKit
set_option linter.unusedVariables false

theorem zerosB_drop (n k : Nat) : (zerosB n).drop k = zerosB (n - k) := by simp [zerosB]
theorem zerosB_take (n k : Nat) (h : k ≤ n) : (zerosB n).take k = zerosB k := by simp [zerosB, Nat.min_eq_left h]

theorem secL_eq (n : Int) (b : List Int) (h : b.length ≤ 24) : secL n b = side n ++ ((b ++ zerosB (24 - b.length)) ++ side n) := by
  have hs := length_side n
  have e1 : splice (zerosB 32) 0 (side n) = side n ++ zerosB 28 := by
    unfold splice; rw [hs, zerosB_drop]; rfl
  have e2 : splice (side n ++ zerosB 28) 4 b = side n ++ (b ++ zerosB (28 - b.length)) := by
    unfold splice
    rw [List.take_append_of_le_length (by omega), List.take_of_length_le (by omega), List.drop_append, hs, List.drop_eq_nil_of_le (by omega), List.nil_append, zerosB_drop]
    congr 3
    omega
  have l3 : (side n ++ (b ++ zerosB (28 - b.length))).length = 32 := by simp [hs, zerosB]; omega
  unfold secL
  rw [e1, e2]
  unfold splice
  rw [List.drop_eq_nil_of_le (by rw [l3, hs]; decide), List.append_nil]
  have e3 : (side n ++ (b ++ zerosB (28 - b.length))).take 28 = side n ++ (b ++ zerosB (24 - b.length)) := by
    rw [List.take_append, hs, List.take_of_length_le (by omega), List.take_append, List.take_of_length_le (by omega), zerosB_take _ _ (by omega)]
  rw [e3, List.append_assoc]

theorem numOf_side (n : Int) (h1 : 1 ≤ n) (h2 : n ≤ 4294967295) : numOf (side n) = n := by
  have h := getV_putK_self (zerosB 4) 0 n 4 (by decide) (by decide) (by omega) (by show n ≤ 4294967295; exact h2) (by rw [length_zerosB]; decide)
  unfold getV at h
  rw [List.drop_zero, List.take_of_length_le (by rw [length_putK, length_zerosB]; decide)] at h
  exact h

theorem secL_front (n : Int) (b : List Int) (h : b.length ≤ 24) : (secL n b).take 4 = side n := by
  rw [secL_eq n b h, List.take_append_of_le_length (by rw [length_side]; decide), List.take_of_length_le (by rw [length_side]; decide)]
theorem secL_back (n : Int) (b : List Int) (h : b.length ≤ 24) : (secL n b).drop 28 = side n := by
  have hs := length_side n
  have l1 : (b ++ zerosB (24 - b.length)).length = 24 := by simp [zerosB]; omega
  rw [secL_eq n b h, List.drop_append, hs, List.drop_eq_nil_of_le (by omega), List.nil_append, List.drop_append, l1, List.drop_eq_nil_of_le (by omega), List.nil_append]
  rfl
theorem secL_body (n : Int) (b : List Int) (h : b.length ≤ 24) : ((secL n b).drop 4).take 24 = b ++ zerosB (24 - b.length) := by
  have hs := length_side n
  have l1 : (b ++ zerosB (24 - b.length)).length = 24 := by simp [zerosB]; omega
  rw [secL_eq n b h, List.drop_append, hs, List.drop_eq_nil_of_le (by omega), List.nil_append]
  show (List.take 24 ((b ++ zerosB (24 - b.length)) ++ side n)) = _
  rw [List.take_append_of_le_length (by omega), List.take_of_length_le (by omega)]
theorem getV_front (l : List Int) : getV l 0 4 = numOf (l.take 4) := by unfold getV; rw [List.drop_zero]
theorem getV_back (l : List Int) (h : l.length = 32) : getV l 28 4 = numOf (l.drop 28) := by
  unfold getV; rw [List.take_of_length_le (by simp; omega)]

theorem openOut_secL (n : Int) (b : List Int) (h1 : 1 ≤ n) (h2 : n ≤ 4294967295) (h : b.length ≤ 24) : openOut (secL n b) = (n, b ++ zerosB (24 - b.length), 0) := by
  have hl := length_secL n b h
  have e1 : getV (secL n b) 0 4 = n := by rw [getV_front, secL_front n b h, numOf_side n h1 h2]
  have e2 : getV (secL n b) 28 4 = n := by rw [getV_back _ hl, secL_back n b h, numOf_side n h1 h2]
  unfold openOut
  rw [if_neg (by omega), e1, e2, if_neg (by omega), if_neg (by omega), secL_body n b h]

theorem strOf_inj {l m : List Int} (hl : Byt l) (hm : Byt m) (h : strOf l = strOf m) : l = m := by
  rw [← strL_strOf l hl, ← strL_strOf m hm, h]
theorem toList_ne {a b : ByteArray} (h : ¬ a = b) : (a.toList == b.toList) = false := by
  have : ¬ a.toList = b.toList := fun e => h (by
    have e2 : a.data.toList = b.data.toList := by rw [← ByteArray.toList_eq, ← ByteArray.toList_eq, e]
    cases a; cases b
    exact congrArg ByteArray.mk (Array.toList_inj.1 e2))
  simpa using this
theorem secL_inj {n m : Int} {b : List Int} (h1 : 1 ≤ n) (h2 : n ≤ 4294967295) (k1 : 1 ≤ m) (k2 : m ≤ 4294967295) (h : b.length ≤ 24) (e : secL n b = secL m b) : n = m := by
  have := openOut_secL n b h1 h2 h
  rw [e, openOut_secL m b k1 k2 h] at this
  exact (congrArg Prod.fst this).symm

/-! ### A sector that is torn -/
theorem numOf_inj : ∀ {l m : List Int}, l.length = m.length → Byt l → Byt m → numOf l = numOf m → l = m
  | [], [], _, _, _, _ => rfl
  | x :: l, y :: m, hlen, hl, hm, h => by
    have h' : x + 256 * numOf l = y + 256 * numOf m := h
    have hx := hl x (List.mem_cons_self ..)
    have hy := hm y (List.mem_cons_self ..)
    have e1 : x = y := by omega
    have e2 : numOf l = numOf m := by omega
    rw [e1, numOf_inj (by simpa using hlen) (fun z hz => hl z (List.mem_cons_of_mem _ hz)) (fun z hz => hm z (List.mem_cons_of_mem _ hz)) e2]

theorem torn {X Y : List Int} (hx : X.length = 32) (hy : Y.length = 32) (fx : X.take 4 = X.drop 28) (fy : Y.take 4 = Y.drop 28) (hne : X.take 4 ≠ Y.take 4) {c : Nat} (hc : c ≤ 32)
    (hz : (mixL X Y c).take 4 = (mixL X Y c).drop 28) : mixL X Y c = X ∨ mixL X Y c = Y := by
  have lx : (X.take c).length = c := by simp; omega
  have zt : ∀ k, k ≤ c → (mixL X Y c).take k = X.take k := fun k hk => by
    unfold mixL
    rw [List.take_append_of_le_length (by omega), List.take_take, Nat.min_eq_left hk]
  have zd : ∀ k, c ≤ k → (mixL X Y c).drop k = Y.drop k := fun k hk => by
    unfold mixL
    rw [List.drop_append, lx, List.drop_eq_nil_of_le (by omega), List.nil_append, List.drop_drop]
    congr 1
    omega
  by_cases h : c ≤ 28
  · rw [zd 28 h, ← fy] at hz
    by_cases h4 : 4 ≤ c
    · rw [zt 4 h4] at hz
      exact absurd hz hne
    · right
      have h1 : (mixL X Y c).take c = Y.take c := by
        have := congrArg (List.take c) hz
        rwa [List.take_take, List.take_take, Nat.min_eq_left (by omega)] at this
      rw [← List.take_append_drop c (mixL X Y c), h1, zd c (Nat.le_refl _), List.take_append_drop]
  · left
    rw [zt 4 (by omega), fx] at hz
    have h1 : X.drop c = (mixL X Y c).drop c := by
      have := congrArg (List.drop (c - 28)) hz
      rwa [List.drop_drop, List.drop_drop, show 28 + (c - 28) = c by omega] at this
    rw [← List.take_append_drop c (mixL X Y c), zt c (Nat.le_refl _), ← h1, List.take_append_drop]

/-- TORN IS TOLD: what is opened is the one, or the other. -/
theorem torn_told {X Y : List Int} (hx : X.length = 32) (hy : Y.length = 32) (bx : Byt X) (by' : Byt Y) (fx : X.take 4 = X.drop 28) (fy : Y.take 4 = Y.drop 28) (hne : X.take 4 ≠ Y.take 4) {c : Nat} (hc : c ≤ 32)
    (ho : (openOut (mixL X Y c)).2.2 = 0) : mixL X Y c = X ∨ mixL X Y c = Y := by
  have hl := length_mixL X Y c hx hy hc
  have hb := byt_mixL bx by' c
  refine torn hx hy fx fy hne hc ?_
  have he : getV (mixL X Y c) 0 4 = getV (mixL X Y c) 28 4 := by
    unfold openOut at ho
    rw [if_neg (by omega)] at ho
    by_cases h2 : getV (mixL X Y c) 0 4 ≠ getV (mixL X Y c) 28 4
    · rw [if_pos h2] at ho; cases ho
    · omega
  rw [getV_front, getV_back _ hl] at he
  exact numOf_inj (by simp; omega) (fun z hz => hb z (List.mem_of_mem_take hz)) (fun z hz => hb z (List.mem_of_mem_drop hz)) he

theorem makeOut_cases (n : Int) (b : List Int) : (∃ e, e ≠ 0 ∧ makeOut n b = ([], e)) ∨ (makeOut n b = (secL n b, 0) ∧ 1 ≤ n ∧ n ≤ 4294967295 ∧ b.length ≤ 24) := by
  unfold makeOut
  by_cases hr : n < 1 ∨ 4294967295 < n
  · rw [if_pos hr]; exact .inl ⟨1, by decide, rfl⟩
  · rw [if_neg hr]
    by_cases h3 : 24 < b.length
    · rw [if_pos h3]; exact .inl ⟨4, by decide, rfl⟩
    · rw [if_neg h3]; exact .inr ⟨rfl, by omega, by omega, by omega⟩
theorem side_ne {n m : Int} (h1 : 1 ≤ n) (h2 : n ≤ 4294967295) (k1 : 1 ≤ m) (k2 : m ≤ 4294967295) (h : ¬ n = m) : side n ≠ side m := fun e => h (by rw [← numOf_side n h1 h2, ← numOf_side m k1 k2, e])
theorem side_ne_zero {n : Int} (h1 : 1 ≤ n) (h2 : n ≤ 4294967295) : side n ≠ (zerosB 32).take 4 := fun e => by
  have := numOf_side n h1 h2
  rw [e] at this
  have h0 : numOf ((zerosB 32).take 4) = 0 := rfl
  omega
end Go.Proofs.YtnpdejlbknjhnaaDoor
