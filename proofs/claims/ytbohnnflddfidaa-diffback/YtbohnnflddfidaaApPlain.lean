/-
  Where two images differ of which one was made of the other by a row of bytes, as plain lists. (Part of the proof of ImageApart.)
-/
import Derived.Test.YtbohnnflddfidaaDfRun
namespace Go.Proofs.Ytbohnnflddfidaa
open Go.RowKit
set_option linter.unusedVariables false

theorem getD_mem {l : List (Int × List Int × List Int)} {k : Nat} (h : k < l.length) : l.getD k (0, [], []) ∈ l := by
  have : l.getD k (0, [], []) = l[k] := by simp [List.getD, h]
  rw [this]
  exact List.getElem_mem h
/-- What differs in a row alone is told in it alone. -/
theorem df_range {b c : List Int} {off n : Nat} (hl : b.length = c.length) (hs : ∀ k, (k < off ∨ off + n ≤ k) → b.getD k 0 = c.getD k 0) : ∀ x ∈ dfK b c b.length, (off : Int) ≤ x.1 ∧ x.1 + x.2.2.length ≤ off + n ∧ x.1 ≤ b.length := by
  intro x hx
  obtain ⟨p, m, rfl, h1, h2, h3⟩ := (df_dfK hl b.length (Nat.le_refl _)).all x hx
  have hln : (chOf b c p m).2.2.length = m := by
    show ((c.drop p).take m).length = m
    rw [List.length_take, List.length_drop]; omega
  rw [hln]
  show (off : Int) ≤ p ∧ (p : Int) + m ≤ off + n ∧ (p : Int) ≤ b.length
  have ha : off ≤ p := Classical.byContradiction fun h => h3 p (Nat.le_refl _) (by omega) (hs p (by omega))
  have hb : p + m ≤ off + n := Classical.byContradiction fun h => h3 (p + m - 1) (by omega) (by omega) (hs (p + m - 1) (by omega))
  omega
theorem df_some {b c : List Int} (hl : b.length = c.length) {k : Nat} (hk : k < b.length) (h : b.getD k 0 ≠ c.getD k 0) : 1 ≤ (dfK b c b.length).length := by
  obtain ⟨x, hx, _⟩ := (df_dfK hl b.length (Nat.le_refl _)).cov k hk h
  cases hd : dfK b c b.length with
  | nil => rw [hd] at hx; cases hx
  | cons _ _ => simp
theorem df_none (b : List Int) (n : Nat) : dfK b b n = [] := by
  rw [dfK_same (i := 0) (Nat.zero_le _) (fun _ _ _ => rfl)]
  rfl
theorem zeros_at (N k : Nat) : (zerosB N).getD k 0 = 0 := by
  have z0 := zeros_getD N 0 k
  rw [List.drop_zero] at z0
  exact z0
/-- An entry, put into an image that is all 0. -/
theorem ap_put {N : Nat} {e : (Int × Int × Int × Int)} (h : putE (zerosB N) e = 0) :
    (putL (zerosB N) e).length = N ∧ 1 ≤ (dfK (zerosB N) (putL (zerosB N) e) N).length ∧ ∀ x ∈ dfK (zerosB N) (putL (zerosB N) e) N, 5 * (e.1 - 1) ≤ x.1 ∧ x.1 + x.2.2.length ≤ 5 * e.1 ∧ x.1 ≤ N := by
  have hz := length_zerosB N
  have hlen := putL_len h
  rw [hz] at hlen
  obtain ⟨h1, h2, h3, h4, _⟩ := putE_zero.1 h
  have h1' := lenB_iff.1 h1
  have h2' := hndB_iff.1 h2
  rw [hz] at h1'
  have hp := plc_le h2'.1 h2'.2
  have hr : (rowE e).length = 5 := rfl
  have hL : putL (zerosB N) e = splice (zerosB N) (plc e.1) (rowE e) := by unfold putL; rw [if_pos h]
  have hl : (zerosB N).length = (putL (zerosB N) e).length := by rw [hlen, hz]
  have hq : ((plc e.1 : Nat) : Int) = 5 * (e.1 - 1) := by unfold plc; omega
  have key := df_range (off := plc e.1) (n := 5) hl (fun k hk => by rw [hL, splice_out (by rw [hr, hz]; omega) (by rw [hr]; exact hk)])
  have hsm := df_some hl (k := plc e.1) (by rw [hz]; omega) (by
    have hin := splice_in (z := zerosB N) (l := rowE e) (off := plc e.1) (j := 0) (by rw [hr, hz]; omega) (by rw [hr]; decide)
    rw [Nat.add_zero] at hin
    rw [hL, hin, zeros_at]
    show (0 : Int) ≠ (e.2.2.2 + 1) % 256
    omega)
  rw [hz] at key hsm
  refine ⟨hlen, hsm, fun x hx => ?_⟩
  obtain ⟨k1, k2, k3⟩ := key x hx
  omega
/-- A root, put into an image that is all 0. -/
theorem ap_root {N : Nat} {i : Int} {r : (ByteArray × Int)} (h : prE (zerosB N) i r = 0) :
    (prL (zerosB N) i r).length = N ∧ (1 ≤ (dfK (zerosB N) (prL (zerosB N) i r) N).length ↔ r.1.size ≠ 0) ∧ ∀ x ∈ dfK (zerosB N) (prL (zerosB N) i r) N, 200 + 11 * i ≤ x.1 ∧ x.1 + x.2.2.length ≤ 211 + 11 * i ∧ x.1 ≤ N := by
  have hz := length_zerosB N
  have hlen := prL_len h
  rw [hz] at hlen
  obtain ⟨h1, h2, h3, h4⟩ := prE_zero.1 h
  have h1' := lenB_iff.1 h1
  rw [hz] at h1'
  have hr := rowR_len h4
  have hL : prL (zerosB N) i r = splice (zerosB N) (200 + 11 * i.toNat) (rowR r) := by unfold prL; rw [if_pos h]
  have hl : (zerosB N).length = (prL (zerosB N) i r).length := by rw [hlen, hz]
  have key := df_range (off := 200 + 11 * i.toNat) (n := 11) hl (fun k hk => by rw [hL, splice_out (by rw [hr, hz]; omega) (by rw [hr]; exact hk)])
  rw [hz] at key
  refine ⟨hlen, ?_, fun x hx => ?_⟩
  · by_cases hn : noRoot r = true
    · obtain ⟨n1, n2⟩ := noRoot_iff.1 hn
      have hrow : rowR r = zerosB 11 := by unfold rowR; rw [if_pos hn]
      have hsame : prL (zerosB N) i r = zerosB N := by
        apply ext_getD
        · rw [hlen, hz]
        · intro k hk
          rw [hL, hrow, zeros_at]
          have hz11 := length_zerosB 11
          by_cases hin : 200 + 11 * i.toNat ≤ k ∧ k < 200 + 11 * i.toNat + 11
          · obtain ⟨j, rfl⟩ : ∃ j, k = 200 + 11 * i.toNat + j := ⟨k - (200 + 11 * i.toNat), by omega⟩
            rw [splice_in (by rw [hz11, hz]; omega) (by rw [hz11]; omega), zeros_at]
          · rw [splice_out (by rw [hz11, hz]; omega) (by rw [hz11]; omega), zeros_at]
      rw [hsame, df_none]
      simp [n1]
    · have hsz : 1 ≤ r.1.size ∧ nameB r.1 = true := by
        unfold rowRE at h4
        rw [if_neg hn] at h4
        by_cases g1 : hndB r.2 = false
        · rw [if_pos g1] at h4; cases h4
        · rw [if_neg g1] at h4
          by_cases g2 : nameB r.1 = true
          · exact ⟨(nameB_iff.1 g2).1, g2⟩
          · rw [if_neg g2] at h4; cases h4
      have hro := (rootOf_rowR h4 hn).1
      have hsm : ∃ j, j < 11 ∧ (rowR r).getD j 0 ≠ 0 := by
        unfold isRoot at hro
        obtain ⟨c, hc, hc0⟩ := List.any_eq_true.1 hro
        obtain ⟨j, hj, rfl⟩ := List.mem_iff_getElem.1 hc
        refine ⟨j, by omega, ?_⟩
        have : (rowR r).getD j 0 = (rowR r)[j] := by simp [List.getD, hj]
        rw [this]
        simpa using hc0
      obtain ⟨j, hj, hjn⟩ := hsm
      have := df_some hl (k := 200 + 11 * i.toNat + j) (by rw [hz]; omega) (by
        rw [hL, splice_in (by rw [hr, hz]; omega) (by rw [hr]; omega), zeros_at]
        exact fun e => hjn e.symm)
      rw [hz] at this
      exact ⟨fun _ => by omega, fun _ => this⟩
  · obtain ⟨k1, k2, k3⟩ := key x hx
    omega
end Go.Proofs.Ytbohnnflddfidaa
