/-
  Parts of the proofs, joined by program.
-/
import Derived.Test.YtecodmiendedfaaGreatDoorJNum
import Derived.OwnWalk
import Derived.Deep.RegionLaw
import Derived.Laws.Strings
namespace Go.Proofs.YtecodmiendedfaaGreatDoor
open Go.RowKit
set_option linter.unusedVariables false
def side (n : Int) : List Int := putK (zerosB 4) 0 n 4
theorem length_side (n : Int) : (side n).length = 4 := by unfold side; rw [length_putK, length_zerosB]
theorem byt_side (n : Int) : Byt (side n) := byt_putK (byt_zerosB 4) 0 n 4
def secL (n : Int) (b : List Int) : List Int := splice (splice (splice (zerosB 32) 0 (side n)) 4 b) 28 (side n)
theorem length_secL (n : Int) (b : List Int) (h : b.length <= 24) : (secL n b).length = 32 := by
 have h1 : (splice (zerosB 32) 0 (side n)).length = 32 := by rw [length_splice _ _ _ (by rw [length_side, length_zerosB]; decide), length_zerosB]
 have h2 : (splice (splice (zerosB 32) 0 (side n)) 4 b).length = 32 := by rw [length_splice _ _ _ (by rw [h1]; omega), h1]
 unfold secL
 rw [length_splice _ _ _ (by rw [length_side, h2]; decide), h2]
theorem byt_secL (n : Int) (b : List Int) (hb : Byt b) : Byt (secL n b) := byt_splice (byt_splice (byt_splice (byt_zerosB 32) (byt_side n)) hb) (byt_side n)
set_option maxRecDepth 100000 in
set_option maxHeartbeats 800000 in
theorem make_yes (n : Int) (a : Option Addr) (cap : Nat) (b : List Int) (w : World) (hb : Bs w a cap b) (h1 : ¬ n < 1) (h2 : ¬ 4294967295 < n) (h3 : b.length <= 24) :
  Calls Tryz.prog 88 #[.int .i64 n, .slice a b.length cap] w fun e w' => ∃ g, e = .returned (.tuple #[.slice (some ⟨g, 0, none⟩) 32 32, .nilIface]) /\ w.heap.size <= g /\ Blk w' g (secL n b) /\ Below w.heap.size w w' := by
 obtain ⟨i0, hi0, hz0, hz1, hz2⟩ := info_parts info_u8
 have HB := hide hb
 clear hb
 go_enter Tryz.func88, Tryz.ntmps88
 go_wp2_with (at_make; refine wpList_make_u8 rfl _ _ 31 rfl i0 Tryz.underlying31 hi0 hz0 hz1 hz2 _ _ _ _ 4 rfl rfl rfl rfl (by omega) ?_)
 intro w1 hk1 hs1 hb1
 have hput := put_nat (some ⟨w.heap.size, 0, none⟩) 4 (zerosB 4) 0 4 n w1 (by have := hk1.bs (byt_zerosB 4) (by rw [length_zerosB]; decide); rwa [length_zerosB] at this) (by decide) (by decide) (by omega) (by show ¬ (4294967295 : Int) < n; omega) (by rw [length_zerosB]; decide)
 rw [length_zerosB, show ((0 : Nat) : Int) = 0 from rfl, show ((4 : Nat) : Int) = 4 from rfl] at hput
 have HP := hide hput
 have HBL := hide hb1
 clear hput hk1 hb1
 go_wp2_with fail
 refine (unhide HP).mono ?_
 rintro e w2 ⟨gs, rfl, hgs, hks, hb2⟩
 have hbel : Below w.heap.size w w2 := (unhide HBL).trans (hb2.mono (unhide HBL).size)
 have hBs : Bs w2 (some ⟨gs, 0, none⟩) 4 (side n) := by
  have := Blk.bs (l := side n) hks (byt_side n) (by rw [length_side]; decide)
  rwa [length_side] at this
 have HBS := hide hBs
 have HW2 := hide hbel
 clear hbel hBs hks hb2 HP HBL
 go_wp2_with (at_make; refine wpList_make_u8 rfl _ _ 31 rfl i0 Tryz.underlying31 hi0 hz0 hz1 hz2 _ _ _ _ 32 rfl rfl rfl rfl (by omega) ?_)
 intro w3 hk3 hs3 hb3
 have hw3 : Below w.heap.size w w3 := (unhide HW2).trans (hb3.mono (unhide HW2).size)
 have hg : w.heap.size <= w2.heap.size := (unhide HW2).size
 have q0 : Bs w3 (some ⟨gs, 0, none⟩) 4 (side n) := (unhide HBS).below hb3
 have gl : gs < w2.heap.size := by
  obtain ⟨b', o', e', hc⟩ := (unhide HBS).2.2.2.2 (by intro e; have := length_side n; rw [e] at this; cases this)
  have := block_lt_of_cell (hc 0 (by rw [length_side]; decide))
  simp at e'
  obtain ⟨rfl, rfl⟩ := e'
  exact this
 obtain ⟨X1, hX1⟩ : ∃ X1, X1 = splice (zerosB 32) 0 (side n) := ⟨_, rfl⟩
 obtain ⟨X2, hX2⟩ : ∃ X2, X2 = splice X1 4 b := ⟨_, rfl⟩
 obtain ⟨X3, hX3⟩ : ∃ X3, X3 = splice X2 28 (side n) := ⟨_, rfl⟩
 have l1 : X1.length = 32 := by rw [hX1, length_splice _ _ _ (by rw [length_side, length_zerosB]; decide), length_zerosB]
 have l2 : X2.length = 32 := by rw [hX2, length_splice _ _ _ (by rw [l1]; omega), l1]
 have k1 : Blk (rowW w3 w2.heap.size X1) w2.heap.size X1 := rowW_blk hk3 X1
 have k2 : Blk (rowW (rowW w3 w2.heap.size X1) w2.heap.size X2) w2.heap.size X2 := rowW_blk k1 X2
 have k3 : Blk (rowW (rowW (rowW w3 w2.heap.size X1) w2.heap.size X2) w2.heap.size X3) w2.heap.size X3 := rowW_blk k2 X3
 have b1 : Below w2.heap.size w2 (rowW w3 w2.heap.size X1) := rowW_below _ hb3 (Nat.le_refl _)
 have b2 : Below w2.heap.size w2 (rowW (rowW w3 w2.heap.size X1) w2.heap.size X2) := rowW_below _ b1 (Nat.le_refl _)
 have b3 : Below w2.heap.size w2 (rowW (rowW (rowW w3 w2.heap.size X1) w2.heap.size X2) w2.heap.size X3) := rowW_below _ b2 (Nat.le_refl _)
 obtain ⟨d4, e4, f4⟩ := cut_own (P := Tryz.prog) (t := 31) Tryz.underlying31 size_u8 w2.heap.size 4 28 rfl
 obtain ⟨d28, e28, f28⟩ := cut_own (P := Tryz.prog) (t := 31) Tryz.underlying31 size_u8 w2.heap.size 28 4 rfl
 have c1 := run_copy_at (P := Tryz.prog) w3 31 31 3 Tryz.underlying31 size_u8 w2.heap.size 0 32 32 (some ⟨w2.heap.size, 0, none⟩) _ 4 (zerosB 32) (side n) (by rw [length_side]; decide) (fun _ => rfl) (by rw [length_side, length_zerosB]; decide) hk3 q0
 have c2 := run_copy_at (P := Tryz.prog) (rowW w3 w2.heap.size X1) 31 31 3 Tryz.underlying31 size_u8 w2.heap.size 4 28 28 d4 a cap X1 b (by omega) (fun _ => f4 (by decide)) (by rw [l1]; omega) k1 ((unhide HB).below ((unhide HW2).trans (b1.mono hg)))
 have c3 := run_copy_at (P := Tryz.prog) (rowW (rowW w3 w2.heap.size X1) w2.heap.size X2) 31 31 3 Tryz.underlying31 size_u8 w2.heap.size 28 4 4 d28 _ 4 X2 (side n) (by rw [length_side]; decide) (fun _ => f28 (by decide)) (by rw [length_side, l2]; decide) k2 ((unhide HBS).below b2)
 rw [<- hX1] at c1
 rw [<- hX2] at c2
 rw [<- hX3] at c3
 rw [length_side, show ((4 : Nat) : Int) = 4 from rfl] at c1 c3
 rw [show ((4 : Nat) : Int) = 4 from rfl] at e4
 rw [show ((28 : Nat) : Int) = 28 from rfl] at e28
 have hfin : X3 = secL n b := by rw [hX3, hX2, hX1]; rfl
 have HF := hide hfin
 have HK3 := hide k3
 have HB3 := hide ((unhide HW2).trans (b3.mono hg))
 have hgg := hg
 clear hfin k1 k2 k3 b1 b2 b3 l1 l2 hX1 hX2 hX3 q0 gl hb3 hk3 hw3 HW2 HBS f4 f28 hs3 hs1
 go_wp2
 go_ret2
 exact ⟨_, rfl, hgg, by rw [<- unhide HF]; exact unhide HK3, unhide HB3⟩
def makeOut (n : Int) (b : List Int) : List Int × Int := if n < 1 \/ 4294967295 < n then ([], 1) else if 24 < b.length then ([], 4) else (secL n b, 0)
def openOut (l : List Int) : Int × List Int × Int :=
 if l.length ≠ 32 then (0, [], 3) else if getV l 0 4 ≠ getV l 28 4 then (0, [], 6) else if getV l 0 4 = 0 then (0, [], 5) else (getV l 0 4, (l.drop 4).take 24, 0)
def mixL (l m : List Int) (c : Nat) : List Int := l.take c ++ m.drop c
theorem length_mixL (l m : List Int) (c : Nat) (hl : l.length = 32) (hm : m.length = 32) (hc : c <= 32) : (mixL l m c).length = 32 := by
 simp [mixL]; omega
theorem byt_mixL {l m : List Int} (hl : Byt l) (hm : Byt m) (c : Nat) : Byt (mixL l m c) := by
 intro z hz
 rcases List.mem_append.1 hz with h | h
 ·exact hl z (List.mem_of_mem_take h)
 ·exact hm z (List.mem_of_mem_drop h)
theorem zerosB_drop (n k : Nat) : (zerosB n).drop k = zerosB (n - k) := by simp [zerosB]
theorem zerosB_take (n k : Nat) (h : k <= n) : (zerosB n).take k = zerosB k := by simp [zerosB, Nat.min_eq_left h]
theorem secL_eq (n : Int) (b : List Int) (h : b.length <= 24) : secL n b = side n ++ ((b ++ zerosB (24 - b.length)) ++ side n) := by
 have hs := length_side n
 have e1 : splice (zerosB 32) 0 (side n) = side n ++ zerosB 28 := by
  unfold splice; rw [hs, zerosB_drop]; rfl
 have e2 : splice (side n ++ zerosB 28) 4 b = side n ++ (b ++ zerosB (28 - b.length)) := by
  unfold splice
  rw [List.take_append_of_le_length (by omega), List.take_of_length_le (by omega), List.drop_append, hs, List.drop_eq_nil_of_le (by omega), List.nil_append, zerosB_drop]
  congr 3
  omega
 have l3 : (side n ++ (b ++ zerosB (28 - b.length))).length = 32 := by simp [hs, zerosB]; omega
 unfold secL
 rw [e1, e2]
 unfold splice
 rw [List.drop_eq_nil_of_le (by rw [l3, hs]; decide), List.append_nil]
 have e3 : (side n ++ (b ++ zerosB (28 - b.length))).take 28 = side n ++ (b ++ zerosB (24 - b.length)) := by
  rw [List.take_append, hs, List.take_of_length_le (by omega), List.take_append, List.take_of_length_le (by omega), zerosB_take _ _ (by omega)]
 rw [e3, List.append_assoc]
theorem numOf_side (n : Int) (h1 : 1 <= n) (h2 : n <= 4294967295) : numOf (side n) = n := by
 have h := getV_putK_self (zerosB 4) 0 n 4 (by decide) (by decide) (by omega) (by show n <= 4294967295; exact h2) (by rw [length_zerosB]; decide)
 unfold getV at h
 rw [List.drop_zero, List.take_of_length_le (by rw [length_putK, length_zerosB]; decide)] at h
 exact h
theorem secL_front (n : Int) (b : List Int) (h : b.length <= 24) : (secL n b).take 4 = side n := by
 rw [secL_eq n b h, List.take_append_of_le_length (by rw [length_side]; decide), List.take_of_length_le (by rw [length_side]; decide)]
theorem secL_back (n : Int) (b : List Int) (h : b.length <= 24) : (secL n b).drop 28 = side n := by
 have hs := length_side n
 have l1 : (b ++ zerosB (24 - b.length)).length = 24 := by simp [zerosB]; omega
 rw [secL_eq n b h, List.drop_append, hs, List.drop_eq_nil_of_le (by omega), List.nil_append, List.drop_append, l1, List.drop_eq_nil_of_le (by omega), List.nil_append]
 rfl
theorem secL_body (n : Int) (b : List Int) (h : b.length <= 24) : ((secL n b).drop 4).take 24 = b ++ zerosB (24 - b.length) := by
 have hs := length_side n
 have l1 : (b ++ zerosB (24 - b.length)).length = 24 := by simp [zerosB]; omega
 rw [secL_eq n b h, List.drop_append, hs, List.drop_eq_nil_of_le (by omega), List.nil_append]
 show (List.take 24 ((b ++ zerosB (24 - b.length)) ++ side n)) = _
 rw [List.take_append_of_le_length (by omega), List.take_of_length_le (by omega)]
theorem getV_front (l : List Int) : getV l 0 4 = numOf (l.take 4) := by unfold getV; rw [List.drop_zero]
theorem getV_back (l : List Int) (h : l.length = 32) : getV l 28 4 = numOf (l.drop 28) := by
 unfold getV; rw [List.take_of_length_le (by simp; omega)]
theorem openOut_secL (n : Int) (b : List Int) (h1 : 1 <= n) (h2 : n <= 4294967295) (h : b.length <= 24) : openOut (secL n b) = (n, b ++ zerosB (24 - b.length), 0) := by
 have hl := length_secL n b h
 have e1 : getV (secL n b) 0 4 = n := by rw [getV_front, secL_front n b h, numOf_side n h1 h2]
 have e2 : getV (secL n b) 28 4 = n := by rw [getV_back _ hl, secL_back n b h, numOf_side n h1 h2]
 unfold openOut
 rw [if_neg (by omega), e1, e2, if_neg (by omega), if_neg (by omega), secL_body n b h]
theorem numOf_inj : ∀ {l m : List Int}, l.length = m.length -> Byt l -> Byt m -> numOf l = numOf m -> l = m
 | [], [], _, _, _, _ => rfl
 | x :: l, y :: m, hlen, hl, hm, h => by
  have h' : x + 256 * numOf l = y + 256 * numOf m := h
  have hx := hl x (List.mem_cons_self ..)
  have hy := hm y (List.mem_cons_self ..)
  have e1 : x = y := by omega
  have e2 : numOf l = numOf m := by omega
  rw [e1, numOf_inj (by simpa using hlen) (fun z hz => hl z (List.mem_cons_of_mem _ hz)) (fun z hz => hm z (List.mem_cons_of_mem _ hz)) e2]
theorem torn {X Y : List Int} (hx : X.length = 32) (hy : Y.length = 32) (fx : X.take 4 = X.drop 28) (fy : Y.take 4 = Y.drop 28) (hne : X.take 4 ≠ Y.take 4) {c : Nat} (hc : c <= 32)
  (hz : (mixL X Y c).take 4 = (mixL X Y c).drop 28) : mixL X Y c = X \/ mixL X Y c = Y := by
 have lx : (X.take c).length = c := by simp; omega
 have zt : ∀ k, k <= c -> (mixL X Y c).take k = X.take k := fun k hk => by
  unfold mixL
  rw [List.take_append_of_le_length (by omega), List.take_take, Nat.min_eq_left hk]
 have zd : ∀ k, c <= k -> (mixL X Y c).drop k = Y.drop k := fun k hk => by
  unfold mixL
  rw [List.drop_append, lx, List.drop_eq_nil_of_le (by omega), List.nil_append, List.drop_drop]
  congr 1
  omega
 by_cases h : c <= 28
 ·rw [zd 28 h, <- fy] at hz
  by_cases h4 : 4 <= c
  ·rw [zt 4 h4] at hz
   exact absurd hz hne
  ·right
   have h1 : (mixL X Y c).take c = Y.take c := by
    have := congrArg (List.take c) hz
    rwa [List.take_take, List.take_take, Nat.min_eq_left (by omega)] at this
   rw [<- List.take_append_drop c (mixL X Y c), h1, zd c (Nat.le_refl _), List.take_append_drop]
 ·left
  rw [zt 4 (by omega), fx] at hz
  have h1 : X.drop c = (mixL X Y c).drop c := by
   have := congrArg (List.drop (c - 28)) hz
   rwa [List.drop_drop, List.drop_drop, show 28 + (c - 28) = c by omega] at this
  rw [<- List.take_append_drop c (mixL X Y c), zt c (Nat.le_refl _), <- h1, List.take_append_drop]
theorem torn_told {X Y : List Int} (hx : X.length = 32) (hy : Y.length = 32) (bx : Byt X) (by' : Byt Y) (fx : X.take 4 = X.drop 28) (fy : Y.take 4 = Y.drop 28) (hne : X.take 4 ≠ Y.take 4) {c : Nat} (hc : c <= 32)
  (ho : (openOut (mixL X Y c)).2.2 = 0) : mixL X Y c = X \/ mixL X Y c = Y := by
 have hl := length_mixL X Y c hx hy hc
 have hb := byt_mixL bx by' c
 refine torn hx hy fx fy hne hc ?_
 have he : getV (mixL X Y c) 0 4 = getV (mixL X Y c) 28 4 := by
  unfold openOut at ho
  rw [if_neg (by omega)] at ho
  by_cases h2 : getV (mixL X Y c) 0 4 ≠ getV (mixL X Y c) 28 4
  ·rw [if_pos h2] at ho; cases ho
  ·omega
 rw [getV_front, getV_back _ hl] at he
 exact numOf_inj (by simp; omega) (fun z hz => hb z (List.mem_of_mem_take hz)) (fun z hz => hb z (List.mem_of_mem_drop hz)) he
theorem side_ne_zero {n : Int} (h1 : 1 <= n) (h2 : n <= 4294967295) : side n ≠ (zerosB 32).take 4 := fun e => by
 have := numOf_side n h1 h2
 rw [e] at this
 have h0 : numOf ((zerosB 32).take 4) = 0 := rfl
 omega
end Go.Proofs.YtecodmiendedfaaGreatDoor
