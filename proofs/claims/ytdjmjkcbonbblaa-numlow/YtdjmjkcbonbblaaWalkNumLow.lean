/-
  The walk of the law NumLow. (Part of the proof of NumLow.)
-/
import Derived.Test.YtdjmjkcbonbblaaNumPlain
import Derived.Test.YtdjmjkcbonbblaaNumSame
namespace Go.Proofs.Ytdjmjkcbonbblaa
open Go.RowKit
set_option linter.unusedVariables false

theorem blk_new3 (w : World) (l : List Int) : Blk (w.alloc (.cells (l.map (Value.int .u8)).toArray 5)) w.heap.size l := heap_alloc_new _ _

theorem put_979 (w : World) : Calls Try.prog 8 #[.slice (some ⟨w.heap.size, 0, none⟩) 3 3, .int .i64 1, .int .i64 7, .int .i64 1] (w.alloc (.cells #[.int .u8 9, .int .u8 9, .int .u8 9] 5)) fun e w' =>
    ∃ g, e = .returned (.tuple #[.slice (some ⟨g, 0, none⟩) 3 3, .nilIface]) ∧ w.heap.size + 1 ≤ g ∧ Blk w' g [9, 7, 9] ∧ Below (w.heap.size + 1) (w.alloc (.cells #[.int .u8 9, .int .u8 9, .int .u8 9] 5)) w' := by
  have hb : Byt [9, 9, 9] := by intro z hz; simp at hz; omega
  have h := put_ok (some ⟨w.heap.size, 0, none⟩) 3 [9, 9, 9] 1 1 7 _ ((blk_new3 w [9, 9, 9]).bs hb (by decide)) ⟨by decide, by decide, by decide, by decide, by decide, by decide⟩
  rw [World.size_alloc] at h
  exact h

theorem pow_any (m : Nat) (w : World) (hm : m ≤ 32) :
    Calls Try.prog 11 #[.int .i64 m] w fun e w' => e = .returned (.int .i64 (2 ^ m)) ∧ w = w' := by
  go_enter Try.func11, Try.ntmps11
  go_wp2
  go_loop [3, 4] (fun x i => ∃ k : Nat, k ≤ m ∧ i = .int .i64 k ∧ x = .int .i64 (2 ^ k)) (fun _ i => m - (intOf i).toNat)
  case atStart => exact ⟨0, by omega, rfl, rfl⟩
  case round =>
    obtain ⟨k, hk, rfl, rfl⟩ := hrel
    by_cases hlt : k < m
    · have hp : (2 : Int) ^ k ≤ 4294967296 := by
        have h1 : 2 ^ k ≤ 2 ^ 32 := Nat.pow_le_pow_right (by omega) (by omega)
        have h2 : ((2 ^ k : Nat) : Int) ≤ ((2 ^ 32 : Nat) : Int) := by exact Int.ofNat_le.2 h1
        simpa using h2
      have hp0 : (0 : Int) ≤ 2 ^ k := Int.le_of_lt (Int.pow_pos (by decide))
      have HS : Hid ((2 : Int) ^ (k + 1) = 2 ^ k * 2) := hide (Int.pow_succ 2 k)
      generalize (2 : Int) ^ k = y at *
      go_wp2
      go_round
      case rel => exact ⟨k + 1, by omega, by go_num, by rw [unhide HS]⟩
      case measure => simp [intOf]; omega
    · obtain rfl : k = m := by omega
      go_wp2
      go_ret
      exact ⟨rfl, rfl⟩

theorem getV_congr (l m : List Int) (p : Nat) : ∀ s, p + s ≤ l.length → p + s ≤ m.length → (∀ j, j < s → l.getD (p + j) 0 = m.getD (p + j) 0) → getV l p s = getV m p s := by
  intro s
  induction s with
  | zero => intro _ _ _; simp [getV, numOf]
  | succ k ih =>
    intro h1 h2 h
    rw [getV_succ l p k (by omega), getV_succ m p k (by omega), ih (by omega) (by omega) (fun j hj => h j (by omega)), h k (by omega)]

/-- Get at any size: it answers, and nothing is changed. -/
theorem get_some (a : Option Addr) (cap : Nat) (l : List Int) (p s : Int) (w : World) (hb : Bs w a cap l) (h1 : 1 ≤ s) (h2 : s ≤ 4) :
    Calls Try.prog 7 #[.slice a l.length cap, .int .i64 p, .int .i64 s] w fun e w' => ∃ v er, e = .returned (.tuple #[.int .i64 v, er]) ∧ w = w' := by
  by_cases h : 0 ≤ p ∧ p ≤ l.length - s
  · exact (get_yes a cap l p s w hb h1 h2 h.1 h.2).mono fun e w' ⟨he, hw⟩ => ⟨_, _, he, hw⟩
  · exact (get_shape a l.length cap p s w (by have := hb.2.1; have := hb.2.2.1; omega) h1 h2 h).mono fun e w' ⟨he, hw⟩ => ⟨_, _, he, hw⟩

/-- Of what Put puts, Get gets the lowest bytes. -/
theorem get_at (l : List Int) (p s k : Nat) (n : Int) (g : Nat) (w : World) (hl : l.length ≤ 140737488351232) (hb : Byt l) (h : PutOk l.length p n s) (hk : Blk w g (putK l p n s)) (h1 : 1 ≤ k) (h2 : k ≤ s) :
    Calls Try.prog 7 #[.slice (some ⟨g, 0, none⟩) l.length l.length, .int .i64 p, .int .i64 k] w fun e w' => e = .returned (.tuple #[.int .i64 (n % 256 ^ k), .nilIface]) ∧ w = w' := by
  obtain ⟨q1, q2, q3, q4, q5, q6⟩ := h
  have hlen := length_putK l p n s
  have hbs := hk.bs (byt_putK hb p n s) (by rw [hlen]; exact hl)
  have hg := get_yes (some ⟨g, 0, none⟩) (putK l p n s).length (putK l p n s) p k w hbs (by omega) (by omega) q5 (by rw [hlen]; omega)
  rw [Int.toNat_natCast, Int.toNat_natCast, getV_putK l p n s q3 (by omega) k h2, hlen] at hg
  exact hg

/-- A zero put elsewhere: the number is got as it was, and up to there nothing has changed. -/
theorem nl_out (l : List Int) (n : Int) (P S O g2 g3 : Nat) (w2 w3 : World) (hl : l.length ≤ 140737488351232) (hb : Byt l) (h : PutOk l.length P n S) (hO : O + 1 ≤ l.length) (hout : O < P ∨ P + S ≤ O)
    (hk2 : Blk w2 g2 (putK l P n S)) (hk3 : Blk w3 g3 (putK (putK l P n S) O 0 1)) (hb3 : Below w2.heap.size w2 w3) :
    (Calls Try.prog 7 #[.slice (some ⟨g3, 0, none⟩) l.length l.length, .int .i64 P, .int .i64 S] w3 fun e w' => e = .returned (.tuple #[.int .i64 n, .nilIface]) ∧ w3 = w') ∧
    (Calls Try.prog 12 #[.slice (some ⟨g2, 0, none⟩) l.length l.length, .slice (some ⟨g3, 0, none⟩) l.length l.length] w3 fun e w' => ∃ i : Nat, e = .returned (.int .i64 i) ∧ O ≤ i ∧ Below w3.heap.size w3 w') := by
  obtain ⟨q1, q2, q3, q4, q5, q6⟩ := h
  have hlen := length_putK l P n S
  have hlen2 := length_putK (putK l P n S) O 0 1
  rw [hlen] at hlen2
  have hbp := byt_putK hb P n S
  have hbs2 := (hk2.bs hbp (by rw [hlen]; exact hl)).below hb3
  have hbs3 := hk3.bs (byt_putK hbp O 0 1) (by rw [hlen2]; exact hl)
  constructor
  · have hg := get_yes (some ⟨g3, 0, none⟩) _ (putK (putK l P n S) O 0 1) P S w3 hbs3 q1 q2 q5 (by rw [hlen2]; exact q6)
    have hv : getV (putK (putK l P n S) O 0 1) P S = n := by
      rw [getV_congr _ (putK l P n S) P S (by rw [hlen2]; omega) (by rw [hlen]; omega) (fun j hj => putK_out _ O 0 1 (P + j) (by omega))]
      exact getV_putK_self l P n S (by omega) (by omega) q3 q4 (by omega)
    rw [Int.toNat_natCast, Int.toNat_natCast, hv, hlen2] at hg
    exact hg
  · have hs := same_any (some ⟨g2, 0, none⟩) (some ⟨g3, 0, none⟩) _ _ _ _ w3 hbs2 hbs3
    rw [hlen, hlen2] at hs
    refine hs.mono fun e w' ⟨i, he, hi, hw⟩ => ⟨i, he, ?_, hw⟩
    rcases Nat.lt_or_ge i O with h1 | h1
    · have h2 := hi.2.2 (by simp; omega)
      have h3 := putK_out (putK l P n S) O 0 1 i (Or.inl h1)
      simp only [h3] at h2
      simp at h2
    · exact h1

theorem nl_fail (a0 : Option Addr) (cap0 : Nat) (l0 : List Int) (a1 a2 a3 a4 : Int) (w : World) (hl : l0.length ≤ 140737488351232) (hp : ¬ PutOk l0.length a2 a1 a4) :
    Calls Try.prog 5 #[.slice a0 l0.length cap0, .int .i64 a1, .int .i64 a2, .int .i64 a3, .int .i64 a4] w fun e w' => e = .returned (.bool true) ∧ Below w.heap.size w w' := by
  have HP := hide hp
  clear hp
  go_enter Try.func5, Try.ntmps5
  go_wp2_with fail
  refine (put_979 w).mono ?_
  rintro e w1 ⟨g, rfl, hg, hk, hb1⟩
  have c0 : w1.cell? ⟨g, 0, none⟩ = some (.int .u8 9) := hk.cell 0 (by decide)
  have c1 : w1.cell? ⟨g, 1, none⟩ = some (.int .u8 7) := hk.cell 1 (by decide)
  have c2 : w1.cell? ⟨g, 2, none⟩ = some (.int .u8 9) := hk.cell 2 (by decide)
  clear hk
  go_wp2_with fail
  refine (put_fail _ _ _ _ _ _ _ (by omega) (unhide HP)).mono ?_
  rintro e w2 ⟨k, rfl, rfl⟩
  go_wp2
  go_ret
  exact ⟨rfl, ((Below.refl _ _).alloc (Nat.le_refl _) _).trans (hb1.mono (by omega))⟩

set_option maxHeartbeats 2000000 in
theorem nl_ok (a0 : Option Addr) (cap0 : Nat) (l0 : List Int) (n : Int) (P S : Nat) (a3 : Int) (w : World) (w0 : Bs w a0 cap0 l0) (hp : PutOk l0.length P n S) (ho : -9223372036854775808 ≤ a3 ∧ a3 ≤ 9223372036854775807) :
    Calls Try.prog 5 #[.slice a0 l0.length cap0, .int .i64 n, .int .i64 P, .int .i64 a3, .int .i64 S] w fun e w' => e = .returned (.bool true) ∧ Below w.heap.size w w' := by
  have hl : l0.length ≤ 140737488351232 := Nat.le_trans w0.2.1 w0.2.2.1
  have hPS : P + S ≤ l0.length := by obtain ⟨h1, h2, h3, h4, h5, h6⟩ := hp; omega
  have hn0 : 0 ≤ n := hp.2.2.1
  have hS4 : S ≤ 4 := by have := hp.2.1; omega
  have HP := hide hp
  clear hp
  go_enter Try.func5, Try.ntmps5
  go_wp2_with fail
  refine (put_979 w).mono ?_
  rintro e w1 ⟨g, rfl, hg, hk, hb1⟩
  have hb0 : Below w.heap.size w w1 := ((Below.refl _ _).alloc (Nat.le_refl _) _).trans (hb1.mono (by omega))
  have c0 : w1.cell? ⟨g, 0, none⟩ = some (.int .u8 9) := hk.cell 0 (by decide)
  have c1 : w1.cell? ⟨g, 1, none⟩ = some (.int .u8 7) := hk.cell 1 (by decide)
  have c2 : w1.cell? ⟨g, 2, none⟩ = some (.int .u8 9) := hk.cell 2 (by decide)
  have hbs1 := w0.below hb0
  clear hk hb1
  go_wp2_with fail
  refine (put_ok a0 cap0 l0 P S n w1 hbs1 (unhide HP)).mono ?_
  rintro e w2 ⟨g2, rfl, hg2, hk2, hb2⟩
  clear c0 c1 c2 hbs1
  have hlen := length_putK l0 P n S
  have hbs2 := hk2.bs (byt_putK w0.1 P n S) (by rw [hlen]; exact hl)
  have HLEN := hide hlen
  clear hlen
  go_wp2_with fail
  go_loop [15] (fun i => ∃ k : Nat, 1 ≤ k ∧ k ≤ 5 ∧ i = .int .i64 k) (fun i => 5 - (intOf i).toNat)
  case atStart => exact ⟨1, by omega, by omega, rfl⟩
  case round =>
    obtain ⟨k, hk1, hk5, rfl⟩ := hrel
    by_cases hk : k ≤ 4
    · by_cases hkS : k < S
      · obtain ⟨pw, hpw⟩ : ∃ pw : Int, pw = 256 ^ k := ⟨_, rfl⟩
        have hpw1 : 1 ≤ pw := by rw [hpw]; exact Int.pow_pos (by decide)
        have hget := get_at l0 P S k n g2 w2 hl w0.1 (unhide HP) hk2 hk1 (by omega)
        have hpow := pow_any (8 * k) w2 (by omega)
        rw [← hpw] at hget
        rw [show (2 : Int) ^ (8 * k) = pw from by rw [hpw, Int.pow_mul]; rfl, Int.natCast_mul] at hpow
        have HG := hide hget
        have HW := hide hpow
        clear hpw hget hpow
        go_wp2_with fail
        refine (unhide HG).mono ?_
        rintro e w3 ⟨rfl, rfl⟩
        go_wp2_with fail
        refine (unhide HW).mono ?_
        rintro e w3 ⟨rfl, rfl⟩
        go_wp2
        go_round
        case rel => exact ⟨k + 1, by omega, by omega, by go_num⟩
        case measure => simp [intOf]; omega
      · have hget := get_some (some ⟨g2, 0, none⟩) (putK l0 P n S).length (putK l0 P n S) P k w2 hbs2 (by omega) (by omega)
        rw [unhide HLEN] at hget
        have HG := hide hget
        clear hget
        go_wp2_with fail
        refine (unhide HG).mono ?_
        rintro e w3 ⟨v, er, rfl, rfl⟩
        go_wp2
        go_round
        case rel => exact ⟨k + 1, by omega, by omega, by go_num⟩
        case measure => simp [intOf]; omega
    · obtain rfl : k = 5 := by omega
      by_cases hp2 : PutOk l0.length a3 0 1
      · obtain ⟨O, rfl⟩ := Int.eq_ofNat_of_zero_le hp2.2.2.2.2.1
        have hO : O + 1 ≤ l0.length := by have := hp2.2.2.2.2.2; omega
        have hput := put_ok (some ⟨g2, 0, none⟩) (putK l0 P n S).length (putK l0 P n S) O 1 0 w2 hbs2 (by rw [unhide HLEN]; exact hp2)
        rw [unhide HLEN] at hput
        have HPT := hide hput
        clear hput hp2 ho
        by_cases hin1 : P ≤ O
        · by_cases hin2 : O < P + S
          · go_wp2_with fail
            refine (unhide HPT).mono ?_
            rintro e w3 ⟨g3, rfl, hg3, hk3, hb3⟩
            go_wp2
            go_ret
            have hz := hb0.size
            have hz2 := hb2.size
            exact ⟨rfl, hb0.trans ((hb2.mono (by omega)).trans (hb3.mono (by omega)))⟩
          · go_wp2_with fail
            refine (unhide HPT).mono ?_
            rintro e w3 ⟨g3, rfl, hg3, hk3, hb3⟩
            have hout := nl_out l0 n P S O g2 g3 w2 w3 hl w0.1 (unhide HP) hO (Or.inr (by omega)) hk2 hk3 hb3
            have HG := hide hout.1
            have HQ := hide hout.2
            clear hout hk3
            go_wp2_with fail
            refine (unhide HG).mono ?_
            rintro e w4 ⟨rfl, rfl⟩
            go_wp2_with fail
            refine (unhide HQ).mono ?_
            rintro e w4 ⟨i, rfl, hi, hb4⟩
            go_wp2
            go_ret
            have hz := hb0.size
            have hz2 := hb2.size
            have hz3 := hb3.size
            exact ⟨rfl, hb0.trans ((hb2.mono (by omega)).trans ((hb3.mono (by omega)).trans (hb4.mono (by omega))))⟩
        · go_wp2_with fail
          refine (unhide HPT).mono ?_
          rintro e w3 ⟨g3, rfl, hg3, hk3, hb3⟩
          have hout := nl_out l0 n P S O g2 g3 w2 w3 hl w0.1 (unhide HP) hO (Or.inl (by omega)) hk2 hk3 hb3
          have HG := hide hout.1
          have HQ := hide hout.2
          clear hout hk3
          go_wp2_with fail
          refine (unhide HG).mono ?_
          rintro e w4 ⟨rfl, rfl⟩
          go_wp2_with fail
          refine (unhide HQ).mono ?_
          rintro e w4 ⟨i, rfl, hi, hb4⟩
          go_wp2
          go_ret
          have hz := hb0.size
          have hz2 := hb2.size
          have hz3 := hb3.size
          exact ⟨rfl, hb0.trans ((hb2.mono (by omega)).trans ((hb3.mono (by omega)).trans (hb4.mono (by omega))))⟩
      · have hput := put_fail (some ⟨g2, 0, none⟩) l0.length l0.length a3 0 1 w2 (by omega) hp2
        have HPT := hide hput
        clear hput hp2
        go_wp2_with fail
        refine (unhide HPT).mono ?_
        rintro e w3 ⟨v, rfl, rfl⟩
        go_wp2
        go_ret
        have hz := hb0.size
        exact ⟨rfl, hb0.trans (hb2.mono (by omega))⟩

theorem walkNumLow (a0 : Option Addr) (cap0 : Nat) (l0 : List Int) (a1 a2 a3 a4 : Int) (w : World) (w0 : Bs w a0 cap0 l0) (b1 : -9223372036854775808 ≤ a1 ∧ a1 ≤ 9223372036854775807) (b2 : -9223372036854775808 ≤ a2 ∧ a2 ≤ 9223372036854775807) (b3 : -9223372036854775808 ≤ a3 ∧ a3 ≤ 9223372036854775807) (b4 : -9223372036854775808 ≤ a4 ∧ a4 ≤ 9223372036854775807) :
    Calls Try.prog 5 #[.slice a0 l0.length cap0, .int .i64 a1, .int .i64 a2, .int .i64 a3, .int .i64 a4] w fun e w' => e = .returned (.bool true) ∧ Below w.heap.size w w' := by
  have hl : l0.length ≤ 140737488351232 := Nat.le_trans w0.2.1 w0.2.2.1
  by_cases hp : PutOk l0.length a2 a1 a4
  · obtain ⟨P, rfl⟩ := Int.eq_ofNat_of_zero_le hp.2.2.2.2.1
    obtain ⟨S, rfl⟩ := Int.eq_ofNat_of_zero_le (show 0 ≤ a4 from by have := hp.1; omega)
    exact nl_ok a0 cap0 l0 a1 P S a3 w w0 hp b3
  · exact nl_fail a0 cap0 l0 a1 a2 a3 a4 w hl hp
end Go.Proofs.Ytdjmjkcbonbblaa
