/-
  The contracts of the document's own answers for names (vaultref1.Name, NameBytes, ReadName). (Part of the proof of NumTells.)
-/
import Derived.Test.YtllpeknpplpgeaaGreatDoorNumPlain
namespace Go.Proofs.YtllpeknpplpgeaaGreatDoor
open Go.RowKit
set_option linter.unusedVariables false

theorem empty_yes (s : ByteArray) (h : s.size = 0) : s.toList.isEmpty = true := by
  have he : s = ByteArray.empty := by simpa using h
  have := Classical.propDecidable (s = ByteArray.empty)
  rw [← decide_eq_emptyBytes]
  exact decide_eq_true he

theorem empty_no (s : ByteArray) (h : 1 ≤ s.size) : s.toList.isEmpty = false := by
  have := Classical.propDecidable (s = ByteArray.empty)
  rw [← decide_eq_emptyBytes]
  refine decide_eq_false ?_
  intro he
  rw [he] at h
  simp at h

set_option maxRecDepth 100000 in
theorem rName_len (s : ByteArray) (w : World) (hs : s.size ≤ 140737488351232) (h : ¬ (1 ≤ s.size ∧ s.size ≤ 8)) :
    Calls Tryz.prog 51 #[.string s] w fun e w' => e = .returned (.bool false) ∧ w = w' := by
  by_cases h1 : 1 ≤ s.size
  · have h2 : ¬ s.size ≤ 8 := by omega
    have he : s.toList.isEmpty = false := empty_no s h1
    clear h
    go_enter Tryz.func51, Tryz.ntmps51
    go_wp2
    go_ret
    exact ⟨rfl, rfl⟩
  · have he : s.toList.isEmpty = true := empty_yes s (by omega)
    clear h
    go_enter Tryz.func51, Tryz.ntmps51
    go_wp2
    go_ret
    exact ⟨rfl, rfl⟩

theorem ltr_bd (c : Int) (h : ltr c = true) : 97 ≤ c ∧ c ≤ 122 := by simpa [ltr] using h
theorem ltr_no (c : Int) (h : ltr c = false) : c < 97 ∨ 122 < c := by
  by_cases h1 : 97 ≤ c
  · by_cases h2 : c ≤ 122
    · simp [ltr, h1, h2] at h
    · omega
  · omega

set_option maxRecDepth 100000 in
theorem rName_yes (s : ByteArray) (w : World) (h : NameOk s) :
    Calls Tryz.prog 51 #[.string s] w fun e w' => e = .returned (.bool true) ∧ w = w' := by
  obtain ⟨h1, h2, h3⟩ := h
  have he : s.toList.isEmpty = false := empty_no s h1
  have HA := hide h3.2.1
  clear h3
  go_enter Tryz.func51, Tryz.ntmps51
  go_wp2
  go_loop [3] (fun i => ∃ k : Nat, k ≤ s.size ∧ i = .int .i64 k) (fun i => s.size - (intOf i).toNat)
  case atStart => exact ⟨0, by omega, rfl⟩
  case round =>
    obtain ⟨k, hk, rfl⟩ := hrel
    by_cases hlt : k < s.size
    · have hk1 := unhide HA k hlt
      rw [strL_getD s k hlt] at hk1
      have hk2 := ltr_bd _ (by simpa using hk1)
      clear hk1
      go_wp2
      go_round
      case rel => exact ⟨k + 1, by omega, by go_num⟩
      case measure => simp [intOf]; omega
    · go_wp2
      go_ret
      exact ⟨rfl, rfl⟩

set_option maxRecDepth 100000 in
theorem rName_no (s : ByteArray) (w : World) (h1 : 1 ≤ s.size) (h2 : s.size ≤ 8) (i : Nat) (hi : First (fun j => (!ltr ((strL s).getD j 0))) s.size i) (hlt : i < s.size) :
    Calls Tryz.prog 51 #[.string s] w fun e w' => e = .returned (.bool false) ∧ w = w' := by
  have he : s.toList.isEmpty = false := empty_no s h1
  have HA := hide hi.2.1
  have HB := hide (hi.2.2 hlt)
  clear hi
  go_enter Tryz.func51, Tryz.ntmps51
  go_wp2
  go_loop [3] (fun j => ∃ k : Nat, k ≤ i ∧ j = .int .i64 k) (fun j => i - (intOf j).toNat)
  case atStart => exact ⟨0, by omega, rfl⟩
  case round =>
    obtain ⟨k, hk, rfl⟩ := hrel
    have hks : k < s.size := by omega
    by_cases hki : k < i
    · have hk1 := unhide HA k hki
      rw [strL_getD s k hks] at hk1
      have hk2 := ltr_bd _ (by simpa using hk1)
      clear hk1
      go_wp2
      go_round
      case rel => exact ⟨k + 1, by omega, by go_num⟩
      case measure => simp [intOf]; omega
    · obtain rfl : k = i := by omega
      have hk1 := unhide HB
      rw [strL_getD s k hks] at hk1
      have hk2 := ltr_no _ (by simpa using hk1)
      clear hk1
      rcases hk2 with hk2 | hk2
      · go_wp2
        go_ret
        exact ⟨rfl, rfl⟩
      · have hk3 : ¬ ((s[k].toNat : Int) < 97) := by omega
        go_wp2
        go_ret
        exact ⟨rfl, rfl⟩

/-- Zeros, of which the first k are those of s. -/
def nameK (s : ByteArray) : Nat → List Int
  | 0 => zerosB 8
  | k + 1 => (nameK s k).set k ((strL s).getD k 0)
theorem length_nameK (s : ByteArray) (k : Nat) : (nameK s k).length = 8 := by
  induction k with
  | zero => exact length_zerosB 8
  | succ k ih => simp [nameK, ih]
theorem nameK_getD (s : ByteArray) (k : Nat) (hk : k ≤ 8) : ∀ j, j < 8 → (nameK s k).getD j 0 = if j < k then (strL s).getD j 0 else 0 := by
  induction k with
  | zero =>
    intro j hj
    have := zeros_getD 8 0 j
    simpa [nameK] using this
  | succ k ih =>
    intro j hj
    have hlen := length_nameK s k
    by_cases h : j = k
    · subst h
      rw [if_pos (by omega)]
      simp only [nameK, List.getD]
      rw [List.getElem?_set_self (by omega)]
      rfl
    · have h1 := ih (by omega) j hj
      simp only [nameK, List.getD] at h1 ⊢
      rw [List.getElem?_set_ne (by omega), h1]
      by_cases h2 : j < k
      · rw [if_pos h2, if_pos (by omega)]
      · rw [if_neg h2, if_neg (by omega)]
theorem nameK_size (s : ByteArray) (h : s.size ≤ 8) : nameK s s.size = nameL s := by
  apply ext_getD (by rw [length_nameK, length_nameL s h])
  intro j hj
  rw [length_nameK] at hj
  rw [nameK_getD s s.size h j hj]
  by_cases h1 : j < s.size
  · rw [if_pos h1, nameL_lo s j h1]
  · rw [if_neg h1, nameL_hi s j (by omega)]

set_option maxRecDepth 100000 in
theorem rNameBytes (s : ByteArray) (w : World) (h2 : s.size ≤ 8) :
    Calls Tryz.prog 32 #[.string s] w fun e w' => ∃ g, e = .returned (.slice (some ⟨g, 0, none⟩) 8 8) ∧ w.heap.size ≤ g ∧ Blk w' g (nameL s) ∧ Below w.heap.size w w' := by
  obtain ⟨i0, hi, hz0, hz1, hz2⟩ := info_parts info_u8
  go_enter Tryz.func32, Tryz.ntmps32
  go_wp2_with (at_make; refine wpList_make_u8 rfl _ _ 22 rfl i0 Tryz.underlying22 hi hz0 hz1 hz2 _ _ _ _ 8 rfl rfl rfl rfl (by omega) ?_; intro w1 hk1 hs1 hb1)
  go_loopw [4] (fun i wr => ∃ k : Nat, k ≤ s.size ∧ i = .int .i64 k ∧ Blk wr w.heap.size (nameK s k) ∧ Below w.heap.size w wr) (fun i _ => s.size - (intOf i).toNat)
  case atStart => exact ⟨0, by omega, rfl, hk1, hb1⟩
  case round =>
    obtain ⟨k, hk, rfl, hblk, hbel⟩ := hrel
    by_cases hlt : k < s.size
    · have hfz := hblk.frozen k
      have hcl := hblk.cell k (by rw [length_nameK]; omega)
      have HN : Hid (nameK s (k + 1) = (nameK s k).set k (s[k].toNat : Int)) := by
        show (nameK s k).set k ((strL s).getD k 0) = _
        rw [strL_getD s k hlt]
      have HB := hide hblk
      clear hblk hk1
      go_wp2
      go_roundw
      case rel => exact ⟨k + 1, by omega, by go_num, by rw [unhide HN]; exact (unhide HB).set k _, hbel.setCell (Nat.le_refl _) _⟩
      case measure => simp [intOf]; omega
    · obtain rfl : k = s.size := by omega
      rw [nameK_size s h2] at hblk
      go_wp2
      go_ret
      exact ⟨_, rfl, Nat.le_refl _, hblk, hbel⟩

theorem rName_fail (s : ByteArray) (w : World) (hs : s.size ≤ 140737488351232) (h : ¬ NameOk s) :
    Calls Tryz.prog 51 #[.string s] w fun e w' => e = .returned (.bool false) ∧ w = w' := by
  by_cases h1 : 1 ≤ s.size ∧ s.size ≤ 8
  · have hf := first_fstN (fun j => (!ltr ((strL s).getD j 0))) s.size
    by_cases h2 : fstN (fun j => (!ltr ((strL s).getD j 0))) s.size < s.size
    · exact rName_no s w h1.1 h1.2 _ hf h2
    · have h3 : fstN (fun j => (!ltr ((strL s).getD j 0))) s.size = s.size := by have := hf.1; omega
      rw [h3] at hf
      exact absurd ⟨h1.1, h1.2, hf⟩ h
  · exact rName_len s w hs h1

/-! ### ReadName -/
set_option maxRecDepth 100000 in
theorem rRead_len (a : Option Addr) (len cap : Nat) (w : World) (hl : len ≤ 140737488351232) (h : ¬ len = 8) :
    Calls Tryz.prog 21 #[.slice a len cap] w fun e w' => e = .returned (.tuple #[.string ByteArray.empty, .int .i64 3]) ∧ w = w' := by
  have hne : ((len : Int) != 8) = true := by simp; omega
  go_enter Tryz.func21, Tryz.ntmps21
  go_wp2
  go_ret2
  exact ⟨rfl, rfl⟩

theorem drop_getD (l : List Int) (n j : Nat) : (l.drop n).getD j 0 = l.getD (n + j) 0 := by simp [List.getD]

set_option maxRecDepth 100000 in
set_option maxHeartbeats 1000000 in
theorem rRead_more (b off cap : Nat) (l : List Int) (w : World) (h8 : l.length = 8) (hc : ∀ i, i < l.length → w.cell? ⟨b, off + i, none⟩ = some (.int .u8 (l.getD i 0)))
    (n m : Nat) (hn : First (fun j => (l.getD j 0 == 0)) 8 n) (hm : First (fun j => ((l.drop n).getD j 0 != 0)) (8 - n) m) (hlt : m < 8 - n) :
    Calls Tryz.prog 21 #[.slice (some ⟨b, off, none⟩) l.length cap] w fun e w' => e = .returned (.tuple #[.string ByteArray.empty, .int .i64 2]) ∧ w = w' := by
  have ht1 : ((l.length : Int) != 8) = false := by simp; omega
  have hle : 8 ≤ l.length := by omega
  have hle2 : l.length ≤ 8 := by omega
  have hn8 : n ≤ 8 := hn.1
  have HC := hide hc
  have HN := hide hn
  have HM := hide hm
  clear h8 hc hn hm
  go_enter Tryz.func21, Tryz.ntmps21
  go_wp2
  go_loop [4] (fun i => ∃ k : Nat, k ≤ n ∧ i = .int .i64 k) (fun i => n - (intOf i).toNat)
  case atStart => exact ⟨0, by omega, rfl⟩
  case round =>
    obtain ⟨k, hk, rfl⟩ := hrel
    by_cases hkn : k < n
    · have hx := unhide HC k (by omega)
      have hz := (unhide HN).2.1 k hkn
      have hz2 : (l.getD k 0 != 0) = true := by simpa [bne] using hz
      clear hz
      generalize l.getD k 0 = c at *
      go_wp2
      go_round
      case rel => exact ⟨k + 1, by omega, by go_num⟩
      case measure => simp [intOf]; omega
    · obtain rfl : k = n := by omega
      have hx := unhide HC k (by omega)
      have hz := (unhide HN).2.2 (by omega)
      have hz2 : (l.getD k 0 != 0) = false := by simpa [bne] using hz
      clear hz
      generalize hcc : l.getD k 0 = c at *
      clear hcc
      go_wp2_with fail
      go_loop [5] (fun i => ∃ j : Nat, j ≤ m ∧ i = .int .i64 ((k + j : Nat) : Int)) (fun i => k + m - (intOf i).toNat)
      case atStart => exact ⟨0, by omega, rfl⟩
      case round =>
        obtain ⟨j, hj, rfl⟩ := hrel
        have hx2 := unhide HC (k + j) (by omega)
        by_cases hjm : j < m
        · have hy := (unhide HM).2.1 j hjm
          have hy2 : (l.getD (k + j) 0 != 0) = false := by rw [← drop_getD]; exact hy
          clear hy
          generalize l.getD (k + j) 0 = d at *
          go_wp2
          go_round
          case rel => exact ⟨j + 1, by omega, by go_num⟩
          case measure => simp [intOf]; omega
        · obtain rfl : j = m := by omega
          have hy := (unhide HM).2.2 hlt
          have hy2 : (l.getD (k + j) 0 != 0) = true := by rw [← drop_getD]; exact hy
          clear hy
          generalize l.getD (k + j) 0 = d at *
          go_wp2
          go_ret2
          exact ⟨rfl, rfl⟩
set_option maxRecDepth 100000 in
set_option maxHeartbeats 1000000 in
theorem rRead_zero (b off cap : Nat) (l : List Int) (w : World) (hbs : Bs w (some ⟨b, off, none⟩) cap l) (h8 : l.length = 8) (hc : ∀ i, i < l.length → w.cell? ⟨b, off + i, none⟩ = some (.int .u8 (l.getD i 0)))
    (n m : Nat) (hn : First (fun j => (l.getD j 0 == 0)) 8 n) (hm : First (fun j => ((l.drop n).getD j 0 != 0)) (8 - n) m) (hge : 8 - n ≤ m) (v : Bool) (hv : ∀ w', Calls Tryz.prog 51 #[.string (strOf (l.take n))] w' fun e w2 => e = .returned (.bool v) ∧ w' = w2) :
    Calls Tryz.prog 21 #[.slice (some ⟨b, off, none⟩) l.length cap] w fun e w' => e = .returned (if v then .tuple #[.string (strOf (l.take n)), .int .i64 0] else .tuple #[.string ByteArray.empty, .int .i64 2]) ∧ w = w' := by
  have ht1 : ((l.length : Int) != 8) = false := by simp; omega
  have hle : 8 ≤ l.length := by omega
  have hle2 : l.length ≤ 8 := by omega
  have hn8 : n ≤ 8 := hn.1
  have hm8 : m ≤ 8 - n := hm.1
  obtain ⟨a3, hsh, hbs3⟩ := slice_hi Tryz.underlying22 size_u8 hbs n (by omega)
  have hcv := conv_str (P := Tryz.prog) (t := 22) (e := 9) Tryz.underlying22 Tryz.underlying5 Tryz.underlying9 hbs3
  rw [show (l.take n).length = n from by simp; omega] at hcv
  have HV := hide hv
  have HC := hide hc
  clear hv hbs hbs3
  have HN := hide hn
  have HM := hide hm
  clear h8 hc hn hm
  go_enter Tryz.func21, Tryz.ntmps21
  go_wp2
  go_loop [4] (fun i => ∃ k : Nat, k ≤ n ∧ i = .int .i64 k) (fun i => n - (intOf i).toNat)
  case atStart => exact ⟨0, by omega, rfl⟩
  case round =>
    obtain ⟨k, hk, rfl⟩ := hrel
    by_cases hkn : k < n
    · have hx := unhide HC k (by omega)
      have hz := (unhide HN).2.1 k hkn
      have hz2 : (l.getD k 0 != 0) = true := by simpa [bne] using hz
      clear hz
      generalize l.getD k 0 = c at *
      go_wp2
      go_round
      case rel => exact ⟨k + 1, by omega, by go_num⟩
      case measure => simp [intOf]; omega
    · obtain rfl : k = n := by omega
      by_cases hk8 : k < 8
      · have hx := unhide HC k (by omega)
        have hz := (unhide HN).2.2 (by omega)
        have hz2 : (l.getD k 0 != 0) = false := by simpa [bne] using hz
        clear hz
        generalize hcc : l.getD k 0 = c at *
        clear hcc
        go_wp2_with fail
        go_loop [5] (fun i => ∃ j : Nat, j ≤ m ∧ i = .int .i64 ((k + j : Nat) : Int)) (fun i => k + m - (intOf i).toNat)
        case atStart => exact ⟨0, by omega, rfl⟩
        case round =>
          obtain ⟨j, hj, rfl⟩ := hrel
          by_cases hjm : j < m
          · have hx2 := unhide HC (k + j) (by omega)
            have hy := (unhide HM).2.1 j hjm
            have hy2 : (l.getD (k + j) 0 != 0) = false := by rw [← drop_getD]; exact hy
            clear hy
            generalize l.getD (k + j) 0 = d at *
            go_wp2
            go_round
            case rel => exact ⟨j + 1, by omega, by go_num⟩
            case measure => simp [intOf]; omega
          · have hkj : ¬ k + j < 8 := by omega
            go_wp2_with fail
            refine (unhide HV _).mono ?_
            rintro e w1 ⟨rfl, rfl⟩
            cases v
            · go_wp2
              go_ret2
              exact ⟨rfl, rfl⟩
            · go_wp2
              go_ret2
              exact ⟨rfl, rfl⟩
      · go_wp2_with fail
        go_loop [5] (fun i => ∃ j : Nat, j ≤ m ∧ i = .int .i64 ((k + j : Nat) : Int)) (fun i => k + m - (intOf i).toNat)
        case atStart => exact ⟨0, by omega, rfl⟩
        case round =>
          obtain ⟨j, hj, rfl⟩ := hrel
          by_cases hjm : j < m
          · exact absurd hjm (by omega)
          · have hkj : ¬ k + j < 8 := by omega
            go_wp2_with fail
            refine (unhide HV _).mono ?_
            rintro e w1 ⟨rfl, rfl⟩
            cases v
            · go_wp2
              go_ret2
              exact ⟨rfl, rfl⟩
            · go_wp2
              go_ret2
              exact ⟨rfl, rfl⟩
end Go.Proofs.YtllpeknpplpgeaaGreatDoor
