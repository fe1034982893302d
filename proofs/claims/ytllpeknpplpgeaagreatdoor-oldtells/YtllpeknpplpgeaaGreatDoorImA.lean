/-
  Contracts of package image's small functions. (Part of the proofs over package image.)
-/
import Derived.Test.YtllpeknpplpgeaaGreatDoorImPlain
namespace Go.Proofs.YtllpeknpplpgeaaGreatDoor
open Go.RowKit
set_option linter.unusedVariables false

theorem isLength_any (n : Int) (w : World) :
    Calls Tryz.prog 63 #[.int .i64 n] w fun e w' => e = .returned (.bool (lenB n)) ∧ w = w' := by
  unfold lenB
  by_cases h1 : 288 ≤ n
  · rw [decide_eq_true h1, Bool.true_and]
    go_enter Tryz.func63, Tryz.ntmps63
    go_wp2
    go_ret
    exact ⟨rfl, rfl⟩
  · rw [decide_eq_false h1, Bool.false_and]
    go_enter Tryz.func63, Tryz.ntmps63
    go_wp2
    go_ret
    exact ⟨rfl, rfl⟩
theorem isHandle_any (n : Int) (w : World) :
    Calls Tryz.prog 108 #[.int .i64 n] w fun e w' => e = .returned (.bool (hndB n)) ∧ w = w' := by
  unfold hndB
  by_cases h1 : 1 ≤ n
  · rw [decide_eq_true h1, Bool.true_and]
    go_enter Tryz.func108, Tryz.ntmps108
    go_wp2
    go_ret
    exact ⟨rfl, rfl⟩
  · rw [decide_eq_false h1, Bool.false_and]
    go_enter Tryz.func108, Tryz.ntmps108
    go_wp2
    go_ret
    exact ⟨rfl, rfl⟩
def tagB (n : Int) : Bool := decide (0 ≤ n) && decide (n ≤ 15)
def sizB (n : Int) : Bool := decide (1 ≤ n) && decide (n ≤ 1000)
def behB (n a l : Int) : Bool := decide (288 ≤ a) && decide (l ≤ n - a)
theorem isTag_any (n : Int) (w : World) :
    Calls Tryz.prog 109 #[.int .i64 n] w fun e w' => e = .returned (.bool (tagB n)) ∧ w = w' := by
  unfold tagB
  by_cases h1 : 0 ≤ n
  · rw [decide_eq_true h1, Bool.true_and]
    go_enter Tryz.func109, Tryz.ntmps109
    go_wp2
    go_ret
    exact ⟨rfl, rfl⟩
  · rw [decide_eq_false h1, Bool.false_and]
    go_enter Tryz.func109, Tryz.ntmps109
    go_wp2
    go_ret
    exact ⟨rfl, rfl⟩
theorem imSize_any (n : Int) (w : World) :
    Calls Tryz.prog 110 #[.int .i64 n] w fun e w' => e = .returned (.bool (sizB n)) ∧ w = w' := by
  unfold sizB
  by_cases h1 : 1 ≤ n
  · rw [decide_eq_true h1, Bool.true_and]
    go_enter Tryz.func110, Tryz.ntmps110
    go_wp2
    go_ret
    exact ⟨rfl, rfl⟩
  · rw [decide_eq_false h1, Bool.false_and]
    go_enter Tryz.func110, Tryz.ntmps110
    go_wp2
    go_ret
    exact ⟨rfl, rfl⟩
theorem isBehind_any (n a l : Int) (w : World) (hn : 0 ≤ n ∧ n ≤ 6400) (ha : -9223372036854775808 ≤ a ∧ a ≤ 9223372036854775807) :
    Calls Tryz.prog 111 #[.int .i64 n, .agg #[.int .i64 a, .int .i64 l]] w fun e w' => e = .returned (.bool (behB n a l)) ∧ Below w.heap.size w w' := by
  obtain ⟨n1, n2⟩ := hn
  obtain ⟨a1, a2⟩ := ha
  unfold behB
  by_cases h1 : 288 ≤ a
  · rw [decide_eq_true h1, Bool.true_and]
    go_enter Tryz.func111, Tryz.ntmps111
    go_wp2
    go_ret
    exact ⟨rfl, (Below.refl _ _).alloc (Nat.le_refl _) _⟩
  · rw [decide_eq_false h1, Bool.false_and]
    go_enter Tryz.func111, Tryz.ntmps111
    go_wp2
    go_ret
    exact ⟨rfl, (Below.refl _ _).alloc (Nat.le_refl _) _⟩
theorem entryAt_any (h : Int) (w : World) (h1 : 1 ≤ h) (h2 : h ≤ 40) :
    Calls Tryz.prog 76 #[.int .i64 h] w fun e w' => e = .returned (.int .i64 (plc h)) ∧ w = w' := by
  have e : ((plc h : Nat) : Int) = (h - 1) * 5 := by unfold plc; omega
  rw [e]
  go_enter Tryz.func76, Tryz.ntmps76
  go_wp2
  go_ret
  exact ⟨rfl, rfl⟩
theorem rootAt_any (i : Nat) (w : World) (h : i ≤ 8) :
    Calls Tryz.prog 64 #[.int .i64 i] w fun e w' => e = .returned (.int .i64 ((200 + 11 * i : Nat) : Int)) ∧ w = w' := by
  have e : ((200 + 11 * i : Nat) : Int) = 200 + (i : Int) * 11 := by omega
  rw [e]
  go_enter Tryz.func64, Tryz.ntmps64
  go_wp2
  go_ret
  exact ⟨rfl, rfl⟩
theorem has_any (a : Option Addr) (cap : Nat) (l : List Int) (h : Int) (w : World) (hb : Bs w a cap l) (hl : 288 ≤ l.length) (h1 : 1 ≤ h) (h2 : h ≤ 40) :
    Calls Tryz.prog 70 #[.slice a l.length cap, .int .i64 h] w fun e w' => e = .returned (.bool (tagAt l h != 0)) ∧ w = w' := by
  have hp := plc_le h1 h2
  obtain ⟨b, off, rfl, hcell⟩ := hb.at (plc h) (by omega)
  have h3 := hb.2.2.1
  have HE := hide (entryAt_any h w h1 h2)
  unfold tagAt
  have hlt : (plc h : Int) < l.length := by omega
  clear hb
  generalize l.getD (plc h) 0 = c at *
  generalize plc h = p at *
  go_enter Tryz.func70, Tryz.ntmps70
  go_wp2_with fail
  refine (unhide HE).mono ?_
  rintro e w1 ⟨rfl, rfl⟩
  go_wp2
  go_ret
  exact ⟨rfl, rfl⟩
theorem check_any (a : Option Addr) (cap : Nat) (l : List Int) (h : Int) (w : World) (hb : Bs w a cap l) :
    Calls Tryz.prog 105 #[.slice a l.length cap, .int .i64 h] w fun e w' => e = .returned (errV (chkE l h)) ∧ w = w' := by
  have h3 := hb.2.2.1
  have HL := hide (isLength_any l.length w)
  have HH := hide (isHandle_any h w)
  unfold chkE
  cases hq : lenB l.length with
  | false =>
    rw [if_pos rfl]
    rw [hq] at HL
    clear hq
    go_enter Tryz.func105, Tryz.ntmps105
    go_wp2_with fail
    refine (unhide HL).mono ?_
    rintro e w1 ⟨rfl, rfl⟩
    go_wp2
    go_ret
    exact ⟨rfl, rfl⟩
  | true =>
    rw [if_neg (by simp)]
    rw [hq] at HL
    have hlen := lenB_iff.1 hq
    cases hh : hndB h with
    | false =>
      rw [if_pos rfl]
      rw [hh] at HH
      clear hq hh
      go_enter Tryz.func105, Tryz.ntmps105
      go_wp2_with fail
      refine (unhide HL).mono ?_
      rintro e w1 ⟨rfl, rfl⟩
      go_wp2_with fail
      refine (unhide HH).mono ?_
      rintro e w1 ⟨rfl, rfl⟩
      go_wp2
      go_ret
      exact ⟨rfl, rfl⟩
    | true =>
      rw [if_neg (by simp)]
      rw [hh] at HH
      have hhn := hndB_iff.1 hh
      have HA := hide (has_any a cap l h w hb (by omega) hhn.1 hhn.2)
      clear hq hh hb
      by_cases ht : tagAt l h = 0
      · rw [if_pos ht]
        rw [ht] at HA
        clear ht
        go_enter Tryz.func105, Tryz.ntmps105
        go_wp2_with fail
        refine (unhide HL).mono ?_
        rintro e w1 ⟨rfl, rfl⟩
        go_wp2_with fail
        refine (unhide HH).mono ?_
        rintro e w1 ⟨rfl, rfl⟩
        go_wp2_with fail
        refine (unhide HA).mono ?_
        rintro e w1 ⟨rfl, rfl⟩
        go_wp2
        go_ret
        exact ⟨rfl, rfl⟩
      · rw [if_neg ht]
        rw [bne_iff_ne.2 ht] at HA
        clear ht
        go_enter Tryz.func105, Tryz.ntmps105
        go_wp2_with fail
        refine (unhide HL).mono ?_
        rintro e w1 ⟨rfl, rfl⟩
        go_wp2_with fail
        refine (unhide HH).mono ?_
        rintro e w1 ⟨rfl, rfl⟩
        go_wp2_with fail
        refine (unhide HA).mono ?_
        rintro e w1 ⟨rfl, rfl⟩
        go_wp2
        go_ret
        exact ⟨rfl, rfl⟩
/-- New: zeros, or nothing. -/
def newL (n : Int) : List Int := if lenB n = true then zerosB n.toNat else []
def newE (n : Int) : Int := if lenB n = true then 0 else 1
theorem new_any (n : Int) (w : World) :
    Calls Tryz.prog 38 #[.int .i64 n] w (Ends w (newL n) (errV (newE n))) := by
  have HL := hide (isLength_any n w)
  unfold newL newE
  obtain ⟨i0, hi, hz0, hz1, hz2⟩ := info_parts info_u8
  cases hq : lenB n with
  | false =>
    rw [if_neg (by simp), if_neg (by simp)]
    rw [hq] at HL
    clear hq
    go_enter Tryz.func38, Tryz.ntmps38
    go_wp2_with fail
    refine (unhide HL).mono ?_
    rintro e w1 ⟨rfl, rfl⟩
    go_wp2
    go_ret2
    exact ends_nil rfl rfl
  | true =>
    rw [if_pos rfl, if_pos rfl]
    rw [hq] at HL
    have hn := lenB_iff.1 hq
    obtain ⟨N, rfl⟩ := Int.eq_ofNat_of_zero_le (show 0 ≤ n by omega)
    rw [Int.toNat_natCast]
    clear hq
    go_enter Tryz.func38, Tryz.ntmps38
    go_wp2_with fail
    refine (unhide HL).mono ?_
    rintro e w1 ⟨rfl, rfl⟩
    go_wp2_with (at_make; refine wpList_make_u8 rfl _ _ 22 rfl i0 Tryz.underlying22 hi hz0 hz1 hz2 _ _ _ _ N rfl rfl rfl rfl (by omega) ?_; intro w2 hk2 hs2 hb2)
    go_ret2
    have hlen := length_zerosB N
    exact ⟨_, N, by rw [hlen]; rfl, by have := hk2.bs (byt_zerosB N) (by rw [hlen]; omega); rw [hlen] at this; exact this, hb2⟩
end Go.Proofs.YtllpeknpplpgeaaGreatDoor
