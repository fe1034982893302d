/-
  Contracts of package image: CheckEntry. (Part of the proofs over packages image and check.)
-/
import Derived.Test.YtllpeknpplpgeaaGreatDoorImB
namespace Go.Proofs.YtllpeknpplpgeaaGreatDoor
open Go.RowKit
set_option linter.unusedVariables false

theorem ck_len (len : Nat) (x a l t : Int) (w : World) (hb : len ≤ 140737488351232) (hq : lenB len = false) :
    Calls Tryz.prog 73 #[.int .i64 len, .agg #[.int .i64 x, .int .i64 a, .int .i64 l, .int .i64 t]] w fun e w' => e = .returned (errV 3) ∧ Below w.heap.size w w' := by
  rw [errV_pos 3 (by decide)]
  have HL := hide (fun W => isLength_any len W)
  rw [hq] at HL
  clear hq
  go_enter Tryz.func73, Tryz.ntmps73
  go_wp2_with (go_at_call 63; refine (unhide HL _).mono ?_; rintro e w1 ⟨rfl, rfl⟩)
  go_ret
  exact ⟨rfl, (Below.refl _ _).alloc (Nat.le_refl _) _⟩

theorem ck_range (len : Nat) (x a l t : Int) (w : World) (hb : len ≤ 140737488351232) (hq : lenB len = true) (hr : hndB x = false ∨ (hndB x = true ∧ tagB t = false) ∨ (hndB x = true ∧ tagB t = true ∧ sizB l = false)) :
    Calls Tryz.prog 73 #[.int .i64 len, .agg #[.int .i64 x, .int .i64 a, .int .i64 l, .int .i64 t]] w fun e w' => e = .returned (errV 1) ∧ Below w.heap.size w w' := by
  rw [errV_pos 1 (by decide)]
  have HL := hide (fun W => isLength_any len W)
  have HH := hide (fun W => isHandle_any x W)
  have HT := hide (fun W => isTag_any t W)
  have HS := hide (fun W => imSize_any l W)
  rw [hq] at HL
  rcases hr with h1 | ⟨h1, h2⟩ | ⟨h1, h2, h3⟩
  · rw [h1] at HH
    clear hq h1
    go_enter Tryz.func73, Tryz.ntmps73
    go_wp2_with (first | (go_at_call 63; refine (unhide HL _).mono ?_; rintro e w1 ⟨rfl, rfl⟩) | (go_at_call 108; refine (unhide HH _).mono ?_; rintro e w1 ⟨rfl, rfl⟩))
    go_ret
    exact ⟨rfl, (Below.refl _ _).alloc (Nat.le_refl _) _⟩
  · rw [h1] at HH
    rw [h2] at HT
    clear hq h1 h2
    go_enter Tryz.func73, Tryz.ntmps73
    go_wp2_with (first | (go_at_call 63; refine (unhide HL _).mono ?_; rintro e w1 ⟨rfl, rfl⟩) | (go_at_call 108; refine (unhide HH _).mono ?_; rintro e w1 ⟨rfl, rfl⟩) | (go_at_call 109; refine (unhide HT _).mono ?_; rintro e w1 ⟨rfl, rfl⟩))
    go_ret
    exact ⟨rfl, (Below.refl _ _).alloc (Nat.le_refl _) _⟩
  · rw [h1] at HH
    rw [h2] at HT
    rw [h3] at HS
    clear hq h1 h2 h3
    go_enter Tryz.func73, Tryz.ntmps73
    go_wp2_with (first | (go_at_call 63; refine (unhide HL _).mono ?_; rintro e w1 ⟨rfl, rfl⟩) | (go_at_call 108; refine (unhide HH _).mono ?_; rintro e w1 ⟨rfl, rfl⟩) | (go_at_call 109; refine (unhide HT _).mono ?_; rintro e w1 ⟨rfl, rfl⟩) | (go_at_call 110; refine (unhide HS _).mono ?_; rintro e w1 ⟨rfl, rfl⟩))
    go_ret
    exact ⟨rfl, (Below.refl _ _).alloc (Nat.le_refl _) _⟩

theorem ck_shape (len : Nat) (x a l t : Int) (w : World) (hb : len ≤ 140737488351232) (hq : lenB len = true) (h1 : hndB x = true) (h2 : tagB t = true) (h3 : sizB l = true) (h4 : behB len a l = false) (ha : -9223372036854775808 ≤ a ∧ a ≤ 9223372036854775807) :
    Calls Tryz.prog 73 #[.int .i64 len, .agg #[.int .i64 x, .int .i64 a, .int .i64 l, .int .i64 t]] w fun e w' => e = .returned (errV 3) ∧ Below w.heap.size w w' := by
  rw [errV_pos 3 (by decide)]
  have HL := hide (fun W => isLength_any len W)
  have HH := hide (fun W => isHandle_any x W)
  have HT := hide (fun W => isTag_any t W)
  have HS := hide (fun W => imSize_any l W)
  have hlen := lenB_iff.1 hq
  have HB := hide (isBehind_any len a l (w.alloc (.cells #[.int .i64 x, .int .i64 a, .int .i64 l, .int .i64 t] 47)) (by omega) ha)
  rw [hq] at HL
  rw [h1] at HH
  rw [h2] at HT
  rw [h3] at HS
  rw [h4] at HB
  clear hq h1 h2 h3 h4 ha
  go_enter Tryz.func73, Tryz.ntmps73
  go_wp2_with (first | (go_at_call 63; refine (unhide HL _).mono ?_; rintro e w1 ⟨rfl, rfl⟩) | (go_at_call 108; refine (unhide HH _).mono ?_; rintro e w1 ⟨rfl, rfl⟩) | (go_at_call 109; refine (unhide HT _).mono ?_; rintro e w1 ⟨rfl, rfl⟩) | (go_at_call 110; refine (unhide HS _).mono ?_; rintro e w1 ⟨rfl, rfl⟩) | (go_at_call 111; refine (unhide HB).mono ?_; rintro e w1 ⟨rfl, hb1⟩; have HB1 := hide hb1; clear hb1))
  go_ret
  exact ⟨rfl, ((Below.refl _ w).alloc (Nat.le_refl _) _).trans ((unhide HB1).mono (by simp))⟩

theorem ck_yes (len : Nat) (x a l t : Int) (w : World) (hq : lenB len = true) (h1 : hndB x = true) (h2 : tagB t = true) (h3 : sizB l = true) (h4 : behB len a l = true) (ha : -9223372036854775808 ≤ a ∧ a ≤ 9223372036854775807) :
    Calls Tryz.prog 73 #[.int .i64 len, .agg #[.int .i64 x, .int .i64 a, .int .i64 l, .int .i64 t]] w fun e w' => e = .returned (errV 0) ∧ Below w.heap.size w w' := by
  rw [errV_zero]
  have HL := hide (fun W => isLength_any len W)
  have HH := hide (fun W => isHandle_any x W)
  have HT := hide (fun W => isTag_any t W)
  have HS := hide (fun W => imSize_any l W)
  have hlen := lenB_iff.1 hq
  have HB := hide (isBehind_any len a l (w.alloc (.cells #[.int .i64 x, .int .i64 a, .int .i64 l, .int .i64 t] 47)) (by omega) ha)
  rw [hq] at HL
  rw [h1] at HH
  rw [h2] at HT
  rw [h3] at HS
  rw [h4] at HB
  clear hq h1 h2 h3 h4 ha
  go_enter Tryz.func73, Tryz.ntmps73
  go_wp2_with (first | (go_at_call 63; refine (unhide HL _).mono ?_; rintro e w1 ⟨rfl, rfl⟩) | (go_at_call 108; refine (unhide HH _).mono ?_; rintro e w1 ⟨rfl, rfl⟩) | (go_at_call 109; refine (unhide HT _).mono ?_; rintro e w1 ⟨rfl, rfl⟩) | (go_at_call 110; refine (unhide HS _).mono ?_; rintro e w1 ⟨rfl, rfl⟩) | (go_at_call 111; refine (unhide HB).mono ?_; rintro e w1 ⟨rfl, hb1⟩; have HB1 := hide hb1; clear hb1))
  go_ret
  exact ⟨rfl, ((Below.refl _ w).alloc (Nat.le_refl _) _).trans ((unhide HB1).mono (by simp))⟩
/-- CheckEntry: what is wrong with an entry. -/
theorem ckEnt_any (L : List Int) (e : (Int × Int × Int × Int)) (w : World) (hl : L.length ≤ 140737488351232) (ha : -9223372036854775808 ≤ e.2.1 ∧ e.2.1 ≤ 9223372036854775807) :
    Calls Tryz.prog 73 #[.int .i64 L.length, entV e] w fun r w' => r = .returned (errV (putE L e)) ∧ Below w.heap.size w w' := by
  obtain ⟨x, a, l, t⟩ := e
  dsimp only at ha
  unfold entV
  dsimp only
  by_cases h0 : putE L (x, a, l, t) = 0
  · obtain ⟨h1, h2, h3⟩ := putE_zero.1 h0
    dsimp only at h2 h3
    rw [h0]
    exact ck_yes L.length x a l t w h1 h2 (by unfold tagB; rw [decide_eq_true h3.1, decide_eq_true h3.2.1]; rfl) (by unfold sizB; rw [decide_eq_true h3.2.2.1, decide_eq_true h3.2.2.2.1]; rfl) (by unfold behB; rw [decide_eq_true h3.2.2.2.2.1, decide_eq_true (by omega)]; rfl) ha
  · have fin : ∀ c, putE L (x, a, l, t) = c → (Calls Tryz.prog 73 #[.int .i64 L.length, .agg #[.int .i64 x, .int .i64 a, .int .i64 l, .int .i64 t]] w fun e w' => e = .returned (errV c) ∧ Below w.heap.size w w') → Calls Tryz.prog 73 #[.int .i64 L.length, .agg #[.int .i64 x, .int .i64 a, .int .i64 l, .int .i64 t]] w fun e w' => e = .returned (errV (putE L (x, a, l, t))) ∧ Below w.heap.size w w' := fun c hc h => by
      rw [hc]
      exact h
    by_cases h1 : lenB L.length = false
    · refine fin 3 (by unfold putE; rw [if_pos h1]) (ck_len L.length x a l t w hl h1)
    have h1' : lenB L.length = true := by simpa using h1
    by_cases h2 : hndB x = false ∨ t < 0 ∨ 15 < t ∨ l < 1 ∨ 1000 < l
    · refine fin 1 (by unfold putE; rw [if_neg h1, if_pos h2]) (ck_range L.length x a l t w hl h1' ?_)
      cases e1 : hndB x with
      | false => exact .inl rfl
      | true =>
        cases e2 : tagB t with
        | false => exact .inr (.inl ⟨rfl, rfl⟩)
        | true =>
          refine .inr (.inr ⟨rfl, rfl, ?_⟩)
          have htt : 0 ≤ t ∧ t ≤ 15 := by unfold tagB at e2; simpa using e2
          have hll : ¬ (1 ≤ l ∧ l ≤ 1000) := by
            rcases h2 with h2 | h2
            · rw [e1] at h2; cases h2
            · omega
          unfold sizB
          rw [Bool.and_eq_false_iff, decide_eq_false_iff_not, decide_eq_false_iff_not]
          omega
    have h2' : hndB x = true := by
      cases e : hndB x with
      | true => rfl
      | false => exact absurd (.inl e) h2
    have h3' : ¬ (t < 0 ∨ 15 < t ∨ l < 1 ∨ 1000 < l) := fun h => h2 (.inr h)
    by_cases h4 : a < 288 ∨ L.length - a < l
    · refine fin 3 (by unfold putE; rw [if_neg h1, if_neg h2, if_pos h4]) (ck_shape L.length x a l t w hl h1' h2' (by unfold tagB; rw [decide_eq_true (show 0 ≤ t by omega), decide_eq_true (show t ≤ 15 by omega)]; rfl) (by unfold sizB; rw [decide_eq_true (show 1 ≤ l by omega), decide_eq_true (show l ≤ 1000 by omega)]; rfl) ?_ ha)
      unfold behB
      rw [Bool.and_eq_false_iff, decide_eq_false_iff_not, decide_eq_false_iff_not]
      omega
    · exact absurd (by unfold putE; rw [if_neg h1, if_neg h2, if_neg h4]) h0
def plcB (i : Int) : Bool := decide (0 ≤ i) && decide (i < 8)
theorem isPlace_any (n : Int) (w : World) :
    Calls Tryz.prog 88 #[.int .i64 n] w fun e w' => e = .returned (.bool (plcB n)) ∧ w = w' := by
  unfold plcB
  by_cases h1 : 0 ≤ n
  · rw [decide_eq_true h1, Bool.true_and]
    go_enter Tryz.func88, Tryz.ntmps88
    go_wp2
    go_ret
    exact ⟨rfl, rfl⟩
  · rw [decide_eq_false h1, Bool.false_and]
    go_enter Tryz.func88, Tryz.ntmps88
    go_wp2
    go_ret
    exact ⟨rfl, rfl⟩
/-! ### the first that is not 0 -/
/-- The first that is not 0; -1, if none is. -/
def firstNz (l : List Int) : Int := if isRoot l = true then (fstN (fun j => l.getD j 0 != 0) l.length : Nat) else -1
theorem firstNz_nat {l : List Int} {k : Nat} (hk : k < l.length) (h : (l.getD k 0 != 0) = true) (hall : ∀ j, j < k → (l.getD j 0 != 0) = false) : firstNz l = k := by
  have hr : isRoot l = true := by
    unfold isRoot
    refine List.any_eq_true.2 ⟨l.getD k 0, ?_, h⟩
    have : l.getD k 0 = l[k] := by simp [List.getD, hk]
    rw [this]
    exact List.getElem_mem hk
  unfold firstNz
  rw [if_pos hr, (first_fstN _ _).unique ⟨by omega, hall, fun _ => h⟩]
theorem firstNz_neg {l : List Int} (hall : ∀ j, j < l.length → (l.getD j 0 != 0) = false) : firstNz l = -1 := by
  have hr : isRoot l = false := by
    unfold isRoot
    rw [List.any_eq_false]
    intro x hx
    obtain ⟨j, hj, rfl⟩ := List.getElem_of_mem hx
    have := hall j hj
    rw [show l.getD j 0 = l[j] by simp [List.getD, hj]] at this
    rw [this]; simp
  unfold firstNz
  rw [if_neg (by rw [hr]; simp)]
end Go.Proofs.YtllpeknpplpgeaaGreatDoor
