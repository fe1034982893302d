/-
  Contracts of the reference: an image with a root. (Part of the proofs over package image.)
-/
import Derived.Test.YtccailoccgbehaaDoorIrC
namespace Go.Proofs.YtccailoccgbehaaDoor
open Go.RowKit
set_option linter.unusedVariables false

/-- Bytes in which the first letters of a text stand from a place on. -/
def nmK (l : List Int) (p : Nat) (s : ByteArray) : Nat → List Int
  | 0 => l
  | k + 1 => (nmK l p s k).set (p + k) ((strL s).getD k 0)
theorem length_nmK (l : List Int) (p : Nat) (s : ByteArray) (k : Nat) : (nmK l p s k).length = l.length := by
  induction k with
  | zero => rfl
  | succ k ih => simp [nmK, ih]
theorem nmK_in (l : List Int) (p : Nat) (s : ByteArray) : ∀ k j, j < k → p + k ≤ l.length → (nmK l p s k).getD (p + j) 0 = (strL s).getD j 0 := by
  intro k
  induction k with
  | zero => intro j hj; omega
  | succ k ih =>
    intro j hj hk
    have hlen := length_nmK l p s k
    by_cases h : j = k
    · subst h
      simp only [nmK, List.getD]
      rw [List.getElem?_set_self (by omega)]
      rfl
    · have h1 := ih j (by omega) (by omega)
      simp only [nmK]
      rw [← h1]
      simp only [List.getD]
      rw [List.getElem?_set_ne (by omega)]
theorem nmK_out (l : List Int) (p : Nat) (s : ByteArray) : ∀ k j, (j < p ∨ p + k ≤ j) → (nmK l p s k).getD j 0 = l.getD j 0 := by
  intro k
  induction k with
  | zero => intro j _; rfl
  | succ k ih =>
    intro j hj
    rw [← ih j (by omega)]
    simp only [nmK, List.getD]
    rw [List.getElem?_set_ne (by omega)]
theorem set_getD {l : List Int} {i j : Nat} {c : Int} (hi : i < l.length) : (l.set i c).getD j 0 = if j = i then c else l.getD j 0 := by
  by_cases h : j = i
  · subst h
    rw [if_pos rfl, List.getD, List.getElem?_set_self hi]
    rfl
  · rw [if_neg h, List.getD, List.getElem?_set_ne (fun e => h e.symm)]
    rfl
theorem nmK_row (L : List Int) (p : Nat) (s : ByteArray) (h : Int) (hfit : p + 11 ≤ L.length) (hn : NameOk s) (h1 : 1 ≤ h) (h2 : h ≤ 40) :
    (nmK (splice L p (zerosB 11)) p s s.size).set (p + 10) h = splice L p (rowR (s, h)) := by
  have hz := length_zerosB 11
  have hs8 := hn.2.1
  have hne : ¬ noRoot (s, h) = true := by
    rw [noRoot_iff]
    rintro ⟨_, h0⟩
    dsimp only at h0
    omega
  have hrr : rowR (s, h) = nameL s ++ [0, 0, h % 256] := by unfold rowR; rw [if_neg hne]
  have hnl := length_nameL s hs8
  have hrl : (rowR (s, h)).length = 11 := by rw [hrr, List.length_append, hnl]; rfl
  have l0 : (splice L p (zerosB 11)).length = L.length := length_splice (by omega)
  have l1 : (nmK (splice L p (zerosB 11)) p s s.size).length = L.length := by rw [length_nmK, l0]
  have l2 : (splice L p (rowR (s, h))).length = L.length := length_splice (by omega)
  have hm : h % 256 = h := by omega
  apply ext_getD
  · rw [List.length_set, l1, l2]
  · intro j hj
    rw [List.length_set, l1] at hj
    rw [set_getD (by omega)]
    by_cases e10 : j = p + 10
    · rw [if_pos e10, e10, splice_in (by omega) (by omega), hrr, List.getD, List.getElem?_append_right (by omega), hnl]
      show h = h % 256
      omega
    · rw [if_neg e10]
      by_cases ho : j < p ∨ p + 11 ≤ j
      · rw [nmK_out _ _ _ _ _ (by omega), splice_out (by omega) (by omega), splice_out (by omega) (by omega)]
      · obtain ⟨i, rfl⟩ : ∃ i, j = p + i := ⟨j - p, by omega⟩
        rw [splice_in (l := rowR (s, h)) (by omega) (by omega), hrr]
        by_cases hi : i < s.size
        · rw [nmK_in _ _ _ _ i hi (by omega), List.getD, List.getD, List.getElem?_append_left (by omega)]
          have := nameL_lo s i hi
          simp only [List.getD] at this
          exact this.symm
        · rw [nmK_out _ _ _ _ _ (by omega), splice_in (by omega) (by omega), zerosB_getD]
          by_cases h8 : i < 8
          · rw [List.getD, List.getElem?_append_left (by omega)]
            have := nameL_hi s i (by omega)
            simp only [List.getD] at this
            exact this.symm
          · rcases (show i = 8 ∨ i = 9 by omega) with rfl | rfl
            · rw [List.getD, List.getElem?_append_right (by omega), hnl]; rfl
            · rw [List.getD, List.getElem?_append_right (by omega), hnl]; rfl

theorem rPR_range (b : Option Addr) (len cap : Nat) (i : Int) (s : ByteArray) (h : Int) (w : World) (hi : i < 0 ∨ 7 < i) :
    Calls Tryd.prog 16 #[.slice b len cap, .int .i64 i, .agg #[.string s, .int .i64 h]] w (Ends w [] (.int .i64 1)) := by
  by_cases h1 : i < 0
  · clear hi
    go_enter Tryd.func16, Tryd.ntmps16
    go_wp2
    go_ret2
    exact ⟨none, 0, rfl, bs_nil _, (Below.refl _ _).alloc (Nat.le_refl _) _⟩
  · have h2 : 7 < i := by omega
    clear hi
    go_enter Tryd.func16, Tryd.ntmps16
    go_wp2
    go_ret2
    exact ⟨none, 0, rfl, bs_nil _, (Below.refl _ _).alloc (Nat.le_refl _) _⟩

/-- The other ways: the bytes are wiped first. -/
theorem rPR_wiped (b : Option Addr) (cap : Nat) (L : List Int) (i : Nat) (s : ByteArray) (h : Int) (w : World) (hbs : Bs w b cap L) (hl : 288 ≤ L.length) (hl2 : L.length ≤ 6400) (hi : i ≤ 7) :
    Calls Tryd.prog 20 #[.slice b L.length cap, .int .i64 (200 + 11 * (i : Int)), .int .i64 11] (w.alloc (.cells #[.string s, .int .i64 h] 28)) fun e w' => ∃ g c, e = .returned (.slice (some ⟨g, 0, none⟩) L.length c) ∧ Own w' (w.heap.size + 1) g c (splice L (200 + 11 * i) (zerosB 11)) ∧ Below (w.heap.size + 1) (w.alloc (.cells #[.string s, .int .i64 h] 28)) w' := by
  have hb0 : Below w.heap.size w (w.alloc (.cells #[.string s, .int .i64 h] 28)) := (Below.refl _ _).alloc (Nat.le_refl _) _
  have := rWipe_any b cap L (200 + 11 * i) 11 _ (hbs.below hb0) (by omega) hl2 (by omega)
  rw [sz_alloc] at this
  exact this

set_option maxRecDepth 100000 in
set_option maxHeartbeats 1000000 in
theorem rPR_none (b : Option Addr) (cap : Nat) (L : List Int) (i : Nat) (s : ByteArray) (h : Int) (w : World) (hbs : Bs w b cap L) (hl : 288 ≤ L.length) (hl2 : L.length ≤ 6400) (hi : i ≤ 7) (h0 : s.size = 0) (hh : h = 0) :
    Calls Tryd.prog 16 #[.slice b L.length cap, .int .i64 i, .agg #[.string s, .int .i64 h]] w (Ends w (splice L (200 + 11 * i) (zerosB 11)) (.int .i64 0)) := by
  subst hh
  have HW := hide (rPR_wiped b cap L i s 0 w hbs hl hl2 hi)
  have he : s.toList.isEmpty = true := empty_yes s h0
  have HEN := hide (RoB.new w (s, 0))
  have HBY := hide (byt_splice (off := 200 + 11 * i) hbs.1 (byt_zerosB 11))
  have HLN := hide (length_splice (z := L) (l := zerosB 11) (off := 200 + 11 * i) (by rw [length_zerosB]; omega))
  have g1 : ¬ (i : Int) < 0 := by omega
  have g2 : ¬ (7 : Int) < i := by omega
  clear hbs
  generalize splice L (200 + 11 * i) (zerosB 11) = X at *
  go_enter Tryd.func16, Tryd.ntmps16
  go_wp2_with fail
  refine (unhide HW).mono ?_
  rintro e w1 ⟨g, c, rfl, hown, hb1⟩
  have hro := (unhide HEN).below hb1 (by omega)
  obtain ⟨c0, c1⟩ := hro.cells
  have HO := hide hown
  have HB1 : Hid (Below w.heap.size w w1) := hide (((Below.refl _ w).alloc (Nat.le_refl _) _).trans (hb1.mono (by omega)))
  dsimp only at c0 c1
  clear hro hown hb1 HW HEN
  go_wp2
  go_ret2
  exact ⟨some ⟨g, 0, none⟩, c, by rw [unhide HLN]; rfl, (unhide HO).bs (unhide HBY) (by rw [unhide HLN]; omega), unhide HB1⟩

set_option maxRecDepth 100000 in
set_option maxHeartbeats 1000000 in
theorem rPR_hand (b : Option Addr) (cap : Nat) (L : List Int) (i : Nat) (s : ByteArray) (h : Int) (w : World) (hbs : Bs w b cap L) (hl : 288 ≤ L.length) (hl2 : L.length ≤ 6400) (hi : i ≤ 7) (h0 : ¬ (s.size = 0 ∧ h = 0)) (hh : hndB h = false) :
    Calls Tryd.prog 16 #[.slice b L.length cap, .int .i64 i, .agg #[.string s, .int .i64 h]] w (Ends w [] (.int .i64 1)) := by
  have HW := hide (rPR_wiped b cap L i s h w hbs hl hl2 hi)
  have HEN := hide (RoB.new w (s, h))
  have HH := hide (fun W => rHandle_any h W)
  rw [hh] at HH
  have g1 : ¬ (i : Int) < 0 := by omega
  have g2 : ¬ (7 : Int) < i := by omega
  clear hbs hh
  generalize splice L (200 + 11 * i) (zerosB 11) = X at *
  have hcase : (s.toList.isEmpty = true ∧ ¬ h = 0) ∨ s.toList.isEmpty = false := by
    by_cases hs : s.size = 0
    · exact .inl ⟨empty_yes s hs, fun e => h0 ⟨hs, e⟩⟩
    · exact .inr (empty_no s (by omega))
  clear h0
  rcases hcase with ⟨he, hne⟩ | he
  all_goals
    go_enter Tryd.func16, Tryd.ntmps16
    go_wp2_with fail
    refine (unhide HW).mono ?_
    rintro e w1 ⟨g, c, rfl, hown, hb1⟩
    have hro := (unhide HEN).below hb1 (by omega)
    obtain ⟨c0, c1⟩ := hro.cells
    have HB1 : Hid (Below w.heap.size w w1) := hide (((Below.refl _ w).alloc (Nat.le_refl _) _).trans (hb1.mono (by omega)))
    dsimp only at c0 c1
    clear hro hown hb1 HW HEN
    go_wp2_with (go_at_call 18; refine (unhide HH _).mono ?_; rintro e w2 ⟨rfl, hw2⟩; subst hw2)
    go_ret2
    exact ⟨none, 0, rfl, bs_nil _, unhide HB1⟩

set_option maxRecDepth 100000 in
set_option maxHeartbeats 1000000 in
theorem rPR_name (b : Option Addr) (cap : Nat) (L : List Int) (i : Nat) (s : ByteArray) (h : Int) (w : World) (hbs : Bs w b cap L) (hl : 288 ≤ L.length) (hl2 : L.length ≤ 6400) (hi : i ≤ 7) (hs : s.size ≤ 140737488351232) (hh : hndB h = true) (hn : ¬ NameOk s) :
    Calls Tryd.prog 16 #[.slice b L.length cap, .int .i64 i, .agg #[.string s, .int .i64 h]] w (Ends w [] (.int .i64 2)) := by
  have HW := hide (rPR_wiped b cap L i s h w hbs hl hl2 hi)
  have HEN := hide (RoB.new w (s, h))
  have HH := hide (fun W => rHandle_any h W)
  have HNM := hide (fun W => rName_fail s W hs hn)
  have hh1 := hndB_iff.1 hh
  have hne : ¬ h = 0 := by omega
  rw [hh] at HH
  have g1 : ¬ (i : Int) < 0 := by omega
  have g2 : ¬ (7 : Int) < i := by omega
  clear hbs hh hn
  generalize splice L (200 + 11 * i) (zerosB 11) = X at *
  have hcase : s.toList.isEmpty = true ∨ s.toList.isEmpty = false := by cases s.toList.isEmpty <;> simp
  rcases hcase with he | he
  all_goals
    go_enter Tryd.func16, Tryd.ntmps16
    go_wp2_with fail
    refine (unhide HW).mono ?_
    rintro e w1 ⟨g, c, rfl, hown, hb1⟩
    have hro := (unhide HEN).below hb1 (by omega)
    obtain ⟨c0, c1⟩ := hro.cells
    have HB1 : Hid (Below w.heap.size w w1) := hide (((Below.refl _ w).alloc (Nat.le_refl _) _).trans (hb1.mono (by omega)))
    dsimp only at c0 c1
    clear hro hown hb1 HW HEN
    go_wp2_with (first | (go_at_call 18; refine (unhide HH _).mono ?_; rintro e w2 ⟨rfl, hw2⟩; subst hw2) | (go_at_call 38; refine (unhide HNM _).mono ?_; rintro e w2 ⟨rfl, hw2⟩; subst hw2))
    go_ret2
    exact ⟨none, 0, rfl, bs_nil _, unhide HB1⟩

set_option maxRecDepth 100000 in
set_option maxHeartbeats 2000000 in
theorem rPR_yes (b : Option Addr) (cap : Nat) (L : List Int) (i : Nat) (s : ByteArray) (h : Int) (w : World) (hbs : Bs w b cap L) (hl : 288 ≤ L.length) (hl2 : L.length ≤ 6400) (hi : i ≤ 7) (hh : hndB h = true) (hn : NameOk s) :
    Calls Tryd.prog 16 #[.slice b L.length cap, .int .i64 i, .agg #[.string s, .int .i64 h]] w (Ends w (splice L (200 + 11 * i) (rowR (s, h))) (.int .i64 0)) := by
  have HW := hide (rPR_wiped b cap L i s h w hbs hl hl2 hi)
  have HEN := hide (RoB.new w (s, h))
  have HH := hide (fun W => rHandle_any h W)
  have HNM := hide (fun W => rName_yes s W hn)
  have hh1 := hndB_iff.1 hh
  have hne : ¬ h = 0 := by omega
  have he : s.toList.isEmpty = false := empty_no s hn.1
  have hs8 := hn.2.1
  have HROW := hide (nmK_row L (200 + 11 * i) s h (by omega) hn hh1.1 hh1.2)
  have HBY := hide (byt_splice (z := L) (off := 200 + 11 * i) hbs.1 (byt_rowR (s, h)))
  have hXl : (splice L (200 + 11 * i) (zerosB 11)).length = L.length := length_splice (by rw [length_zerosB]; omega)
  rw [hh] at HH
  have g1 : ¬ (i : Int) < 0 := by omega
  have g2 : ¬ (7 : Int) < i := by omega
  clear hbs hh hn
  generalize splice L (200 + 11 * i) (zerosB 11) = X at *
  generalize splice L (200 + 11 * i) (rowR (s, h)) = Y at *
  go_enter Tryd.func16, Tryd.ntmps16
  go_wp2_with fail
  refine (unhide HW).mono ?_
  rintro e w1 ⟨g, c, rfl, hown, hb1⟩
  have hro := (unhide HEN).below hb1 (by omega)
  obtain ⟨c0, c1⟩ := hro.cells
  have HRO := hide hro
  have HO := hide hown
  have hgb := hown.base
  have HB1 := hide hb1
  have hs1 := hb1.size
  rw [sz_alloc] at hs1
  dsimp only at c0 c1
  clear hro hown hb1 HW
  go_wp2_with (first | (go_at_call 18; refine (unhide HH _).mono ?_; rintro e w2 ⟨rfl, hw2⟩; subst hw2) | (go_at_call 38; refine (unhide HNM _).mono ?_; rintro e w2 ⟨rfl, hw2⟩; subst hw2))
  go_loopw [11] (fun v wr => ∃ k : Nat, k ≤ s.size ∧ v = .int .i64 k ∧ Own wr (w.heap.size + 1) g c (nmK X (200 + 11 * i) s k) ∧ Below (w.heap.size + 1) w1 wr) (fun v _ => s.size - (intOf v).toNat)
  case atStart => exact ⟨0, Nat.zero_le _, rfl, unhide HO, Below.refl _ _⟩
  case round =>
    obtain ⟨k, hk, rfl, hown, hbel⟩ := hrel
    have hro := (unhide HRO).below hbel (by omega)
    clear c0 c1
    obtain ⟨c0, c1⟩ := hro.cells
    dsimp only at c0 c1
    have hglt : w.heap.size < g := by omega
    by_cases hlt : k < s.size
    · have hcl := hown.cell (200 + 11 * i + k) (by rw [length_nmK]; omega)
      have hfz := hown.frozen (200 + 11 * i + k)
      have HO2 : Hid (Own (wr.setCell ⟨g, 200 + 11 * i + k, none⟩ (.int .u8 (s[k].toNat : Int))) (w.heap.size + 1) g c (nmK X (200 + 11 * i) s (k + 1))) := hide (by
        have := hown.set (200 + 11 * i + k) ((strL s).getD k 0)
        rw [strL_getD s k hlt] at this
        unfold nmK
        rw [strL_getD s k hlt]
        exact this)
      have HB2 : Hid (Below (w.heap.size + 1) w1 (wr.setCell ⟨g, 200 + 11 * i + k, none⟩ (.int .u8 (s[k].toNat : Int)))) := hide (hbel.setCell hgb _)
      clear hown hbel HO HB1 hro HRO HROW HBY
      generalize (nmK X (200 + 11 * i) s k).getD (200 + 11 * i + k) 0 = x0 at *
      go_wp2
      go_roundw
      case rel => exact ⟨k + 1, by omega, by go_num, unhide HO2, unhide HB2⟩
      case measure => simp [intOf]; omega
    · obtain rfl : k = s.size := by omega
      have hcl := hown.cell (200 + 11 * i + 10) (by rw [length_nmK]; omega)
      have hfz := hown.frozen (200 + 11 * i + 10)
      have e210 : 200 + 11 * i + 10 = 210 + 11 * i := by omega
      have HO2 := hide (hown.set (200 + 11 * i + 10) h)
      rw [unhide HROW, e210] at HO2
      rw [e210] at hcl hfz
      have HYL : Hid (Y.length = L.length) := hide (by rw [← unhide HROW, List.length_set, length_nmK, hXl])
      have HB2 : Hid (Below (w.heap.size + 1) w1 (wr.setCell ⟨g, 210 + 11 * i, none⟩ (.int .u8 h))) := hide (hbel.setCell hgb _)
      clear hown hbel HO hro HRO HROW e210
      generalize (nmK X (200 + 11 * i) s s.size).getD (210 + 11 * i) 0 = x0 at *
      go_wp2
      go_ret2
      refine ⟨some ⟨g, 0, none⟩, c, by rw [unhide HYL]; rfl, (unhide HO2).bs (unhide HBY) (by rw [unhide HYL]; omega), ?_⟩
      exact ((Below.refl _ w).alloc (Nat.le_refl _) _).trans ((unhide HB1).mono (by omega)) |>.trans ((unhide HB2).mono (by omega))
theorem rPutRoot_any (b : Option Addr) (cap : Nat) (L : List Int) (i : Int) (r : (ByteArray × Int)) (w : World) (hbs : Bs w b cap L) (hq : lenB L.length = true) (hs : r.1.size ≤ 140737488351232) :
    Calls Tryd.prog 16 #[.slice b L.length cap, .int .i64 i, rootV r] w (Ends w (prL L i r) (.int .i64 (prE L i r))) := by
  obtain ⟨s, h⟩ := r
  have hl := lenB_iff.1 hq
  dsimp only at hs
  unfold rootV
  dsimp only
  by_cases hi : i < 0 ∨ 7 < i
  · have e : prE L i (s, h) = 1 := by unfold prE; rw [if_neg (by rw [hq]; simp), if_pos hi]
    have e2 : prL L i (s, h) = [] := by unfold prL; rw [e, if_neg (by decide)]
    rw [e, e2]
    exact rPR_range b L.length cap i s h w hi
  · have e : prE L i (s, h) = rowRE (s, h) := by unfold prE; rw [if_neg (by rw [hq]; simp), if_neg hi]
    obtain ⟨I, rfl⟩ := Int.eq_ofNat_of_zero_le (show 0 ≤ i by omega)
    unfold prL
    rw [e, Int.toNat_natCast]
    by_cases h0 : noRoot (s, h) = true
    · have e1 : rowRE (s, h) = 0 := by unfold rowRE; rw [if_pos h0]
      have e2 : rowR (s, h) = zerosB 11 := by unfold rowR; rw [if_pos h0]
      rw [e1, if_pos rfl, e2]
      have := noRoot_iff.1 h0
      exact rPR_none b cap L I s h w hbs (by omega) (by omega) (by omega) this.1 this.2
    · have h0' : ¬ (s.size = 0 ∧ h = 0) := fun h => h0 (noRoot_iff.2 h)
      cases hh : hndB h with
      | false =>
        have e1 : rowRE (s, h) = 1 := by unfold rowRE; rw [if_neg h0, if_pos hh]
        rw [e1, if_neg (by decide)]
        exact rPR_hand b cap L I s h w hbs (by omega) (by omega) (by omega) h0' hh
      | true =>
        by_cases hn : nameB s = true
        · have e1 : rowRE (s, h) = 0 := by unfold rowRE; rw [if_neg h0, if_neg (by dsimp only; rw [hh]; simp), if_pos hn]
          rw [e1, if_pos rfl]
          exact rPR_yes b cap L I s h w hbs (by omega) (by omega) (by omega) hh (nameB_iff.1 hn)
        · have e1 : rowRE (s, h) = 2 := by unfold rowRE; rw [if_neg h0, if_neg (by dsimp only; rw [hh]; simp), if_neg hn]
          rw [e1, if_neg (by decide)]
          exact rPR_name b cap L I s h w hbs (by omega) (by omega) (by omega) hs hh (fun h => hn (nameB_iff.2 h))
end Go.Proofs.YtccailoccgbehaaDoor
