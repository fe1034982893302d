/-
  Contracts of package image: Put. (Part of the proofs over package image.)
-/
import Derived.Test.YtaiheakjhhdmbaaDoorImD
namespace Go.Proofs.YtaiheakjhhdmbaaDoor
open Go.RowKit
set_option linter.unusedVariables false

theorem iPut_len (b : Option Addr) (len cap : Nat) (x a l t : Int) (w : World) (hb : len ≤ 140737488351232) (hq : lenB len = false) :
    Calls Tryd.prog 15 #[.slice b len cap, .agg #[.int .i64 x, .int .i64 a, .int .i64 l, .int .i64 t]] w fun e w' => e = .returned (.tuple #[.slice none 0 0, errV 3]) ∧ Below w.heap.size w w' := by
  rw [errV_pos 3 (by decide)]
  have HL := hide (fun W => isLength_any len W)
  rw [hq] at HL
  clear hq
  go_enter Tryd.func15, Tryd.ntmps15
  go_wp2_with (go_at_call 23; refine (unhide HL _).mono ?_; rintro e w1 ⟨rfl, rfl⟩)
  go_ret2
  exact ⟨rfl, (Below.refl _ _).alloc (Nat.le_refl _) _⟩

theorem iPut_range (b : Option Addr) (len cap : Nat) (x a l t : Int) (w : World) (hb : len ≤ 140737488351232) (hq : lenB len = true) (hr : hndB x = false ∨ (hndB x = true ∧ tagB t = false) ∨ (hndB x = true ∧ tagB t = true ∧ sizB l = false)) :
    Calls Tryd.prog 15 #[.slice b len cap, .agg #[.int .i64 x, .int .i64 a, .int .i64 l, .int .i64 t]] w fun e w' => e = .returned (.tuple #[.slice none 0 0, errV 1]) ∧ Below w.heap.size w w' := by
  rw [errV_pos 1 (by decide)]
  have HL := hide (fun W => isLength_any len W)
  have HH := hide (fun W => isHandle_any x W)
  have HT := hide (fun W => isTag_any t W)
  have HS := hide (fun W => imSize_any l W)
  rw [hq] at HL
  rcases hr with h1 | ⟨h1, h2⟩ | ⟨h1, h2, h3⟩
  · rw [h1] at HH
    clear hq h1
    go_enter Tryd.func15, Tryd.ntmps15
    go_wp2_with (first | (go_at_call 23; refine (unhide HL _).mono ?_; rintro e w1 ⟨rfl, rfl⟩) | (go_at_call 34; refine (unhide HH _).mono ?_; rintro e w1 ⟨rfl, rfl⟩))
    go_ret2
    exact ⟨rfl, (Below.refl _ _).alloc (Nat.le_refl _) _⟩
  · rw [h1] at HH
    rw [h2] at HT
    clear hq h1 h2
    go_enter Tryd.func15, Tryd.ntmps15
    go_wp2_with (first | (go_at_call 23; refine (unhide HL _).mono ?_; rintro e w1 ⟨rfl, rfl⟩) | (go_at_call 34; refine (unhide HH _).mono ?_; rintro e w1 ⟨rfl, rfl⟩) | (go_at_call 35; refine (unhide HT _).mono ?_; rintro e w1 ⟨rfl, rfl⟩))
    go_ret2
    exact ⟨rfl, (Below.refl _ _).alloc (Nat.le_refl _) _⟩
  · rw [h1] at HH
    rw [h2] at HT
    rw [h3] at HS
    clear hq h1 h2 h3
    go_enter Tryd.func15, Tryd.ntmps15
    go_wp2_with (first | (go_at_call 23; refine (unhide HL _).mono ?_; rintro e w1 ⟨rfl, rfl⟩) | (go_at_call 34; refine (unhide HH _).mono ?_; rintro e w1 ⟨rfl, rfl⟩) | (go_at_call 35; refine (unhide HT _).mono ?_; rintro e w1 ⟨rfl, rfl⟩) | (go_at_call 36; refine (unhide HS _).mono ?_; rintro e w1 ⟨rfl, rfl⟩))
    go_ret2
    exact ⟨rfl, (Below.refl _ _).alloc (Nat.le_refl _) _⟩

theorem iPut_shape (b : Option Addr) (len cap : Nat) (x a l t : Int) (w : World) (hb : len ≤ 140737488351232) (hq : lenB len = true) (h1 : hndB x = true) (h2 : tagB t = true) (h3 : sizB l = true) (h4 : behB len a l = false) (ha : -9223372036854775808 ≤ a ∧ a ≤ 9223372036854775807) :
    Calls Tryd.prog 15 #[.slice b len cap, .agg #[.int .i64 x, .int .i64 a, .int .i64 l, .int .i64 t]] w fun e w' => e = .returned (.tuple #[.slice none 0 0, errV 3]) ∧ Below w.heap.size w w' := by
  rw [errV_pos 3 (by decide)]
  have HL := hide (fun W => isLength_any len W)
  have HH := hide (fun W => isHandle_any x W)
  have HT := hide (fun W => isTag_any t W)
  have HS := hide (fun W => imSize_any l W)
  have hlen := lenB_iff.1 hq
  have HB := hide (isBehind_any len a l (w.alloc (.cells #[.int .i64 x, .int .i64 a, .int .i64 l, .int .i64 t] 26)) (by omega) ha)
  rw [hq] at HL
  rw [h1] at HH
  rw [h2] at HT
  rw [h3] at HS
  rw [h4] at HB
  clear hq h1 h2 h3 h4 ha
  go_enter Tryd.func15, Tryd.ntmps15
  go_wp2_with (first | (go_at_call 23; refine (unhide HL _).mono ?_; rintro e w1 ⟨rfl, rfl⟩) | (go_at_call 34; refine (unhide HH _).mono ?_; rintro e w1 ⟨rfl, rfl⟩) | (go_at_call 35; refine (unhide HT _).mono ?_; rintro e w1 ⟨rfl, rfl⟩) | (go_at_call 36; refine (unhide HS _).mono ?_; rintro e w1 ⟨rfl, rfl⟩) | (go_at_call 37; refine (unhide HB).mono ?_; rintro e w1 ⟨rfl, hb1⟩; have HB1 := hide hb1; clear hb1))
  go_ret2
  exact ⟨rfl, ((Below.refl _ w).alloc (Nat.le_refl _) _).trans ((unhide HB1).mono (by simp))⟩

set_option maxHeartbeats 1000000 in
theorem iPut_yes (b : Option Addr) (cap : Nat) (L : List Int) (x a l t : Int) (w : World) (hbs : Bs w b cap L) (hq : lenB L.length = true) (h1 : hndB x = true) (h2 : tagB t = true) (h3 : sizB l = true) (h4 : behB L.length a l = true) (ha : -9223372036854775808 ≤ a ∧ a ≤ 9223372036854775807) :
    Calls Tryd.prog 15 #[.slice b L.length cap, .agg #[.int .i64 x, .int .i64 a, .int .i64 l, .int .i64 t]] w (Ends w (splice L (plc x) (rowE (x, a, l, t))) .nilIface) := by
  have HL := hide (fun W => isLength_any L.length W)
  have HH := hide (fun W => isHandle_any x W)
  have HT := hide (fun W => isTag_any t W)
  have HS := hide (fun W => imSize_any l W)
  have hlen := lenB_iff.1 hq
  have hx := hndB_iff.1 h1
  have hp := plc_le hx.1 hx.2
  have htt : 0 ≤ t ∧ t ≤ 15 := by unfold tagB at h2; simpa using h2
  have hll : 1 ≤ l ∧ l ≤ 1000 := by unfold sizB at h3; simpa using h3
  have hbb : 288 ≤ a ∧ l ≤ L.length - a := by unfold behB at h4; simpa using h4
  have HB := hide (isBehind_any L.length a l (w.alloc (.cells #[.int .i64 x, .int .i64 a, .int .i64 l, .int .i64 t] 26)) (by omega) ha)
  have HE := hide (fun W => entryRow_any x a l t W htt (by omega) (by omega))
  have HP := hide (fun W => entryAt_any x W hx.1 hx.2)
  have hrl : (rowE (x, a, l, t)).length = 5 := rfl
  have HW := hide (fun (W : World) (g : Nat) (h5 : Bs W b cap L) (h6 : Bs W (some ⟨g, 0, none⟩) 5 (rowE (x, a, l, t))) => with_any b cap L (plc x) (some ⟨g, 0, none⟩) 5 (rowE (x, a, l, t)) W h5 h6 (by intro e; cases e) (by omega))
  rw [hrl] at HW
  have HN := hide (EnB.new w (x, a, l, t))
  have HLEN := hide (length_splice (z := L) (l := rowE (x, a, l, t)) (off := plc x) (by omega))
  have HBS := hide hbs
  have hb3 := hbs.2.2.1
  rw [hq] at HL
  rw [h1] at HH
  rw [h2] at HT
  rw [h3] at HS
  rw [h4] at HB
  clear hq h1 h2 h3 h4 ha hbs hrl
  generalize rowE (x, a, l, t) = R at *
  go_enter Tryd.func15, Tryd.ntmps15
  go_wp2_with (first | (go_at_call 23; refine (unhide HL _).mono ?_; rintro e w1 ⟨rfl, rfl⟩) | (go_at_call 34; refine (unhide HH _).mono ?_; rintro e w1 ⟨rfl, rfl⟩) | (go_at_call 35; refine (unhide HT _).mono ?_; rintro e w1 ⟨rfl, rfl⟩) | (go_at_call 36; refine (unhide HS _).mono ?_; rintro e w1 ⟨rfl, rfl⟩))
  refine (unhide HB).mono ?_
  rintro e w1 ⟨rfl, hb1⟩
  have hB1 : Below w.heap.size w w1 := ((Below.refl _ w).alloc (Nat.le_refl _) _).trans (hb1.mono (by simp))
  have hen1 := (unhide HN).below hb1 (by simp)
  obtain ⟨c0, c1, c2, c3⟩ := hen1.cells
  have HEN1 := hide hen1
  have HB1 := hide hB1
  clear hb1 hB1 hen1 HB HN
  go_wp2_with fail
  refine (unhide HE _).mono ?_
  rintro e w2 ⟨g, rfl, hbr, hb2⟩
  have hen2 := (unhide HEN1).below hb2 (unhide HEN1).lt
  obtain ⟨d0, d1, d2, d3⟩ := hen2.cells
  have HB2 := hide ((unhide HB1).trans (hb2.mono (unhide HB1).size))
  have HW2 := hide (unhide HW w2 g ((unhide HBS).below (unhide HB2)) hbr)
  clear hb2 hen2 hbr HEN1 HB1 HW HE c0 c1 c2 c3
  go_wp2_with fail
  refine (unhide HP _).mono ?_
  rintro e w3 ⟨rfl, hw3⟩
  subst hw3
  go_wp2_with fail
  refine (unhide HW2).mono ?_
  rintro e w4 ⟨a4, c4, rfl, hbs4, hb4⟩
  have HB4 := hide ((unhide HB2).trans (hb4.mono (unhide HB2).size))
  have HBS4 := hide hbs4
  clear hbs4 hb4 HB2 HW2 d0 d1 d2 d3
  go_wp2
  go_ret2
  exact ⟨a4, c4, by rw [unhide HLEN]; rfl, unhide HBS4, unhide HB4⟩

theorem iPut_any (b : Option Addr) (cap : Nat) (L : List Int) (e : (Int × Int × Int × Int)) (w : World) (hbs : Bs w b cap L) (ha : -9223372036854775808 ≤ e.2.1 ∧ e.2.1 ≤ 9223372036854775807) :
    Calls Tryd.prog 15 #[.slice b L.length cap, entV e] w (Ends w (putL L e) (errV (putE L e))) := by
  obtain ⟨x, a, l, t⟩ := e
  have hl := hbs.2.2.1
  dsimp only at ha
  unfold entV
  dsimp only
  by_cases h0 : putE L (x, a, l, t) = 0
  · have hL : putL L (x, a, l, t) = splice L (plc x) (rowE (x, a, l, t)) := by unfold putL; rw [if_pos h0]
    obtain ⟨h1, h2, h3⟩ := putE_zero.1 h0
    dsimp only at h2 h3
    rw [hL, h0, errV_zero]
    exact iPut_yes b cap L x a l t w hbs h1 h2 (by unfold tagB; rw [decide_eq_true h3.1, decide_eq_true h3.2.1]; rfl) (by unfold sizB; rw [decide_eq_true h3.2.2.1, decide_eq_true h3.2.2.2.1]; rfl) (by unfold behB; rw [decide_eq_true h3.2.2.2.2.1, decide_eq_true (by omega)]; rfl) ha
  · have hL : putL L (x, a, l, t) = [] := by unfold putL; rw [if_neg h0]
    rw [hL]
    have fin : ∀ c, putE L (x, a, l, t) = c → (Calls Tryd.prog 15 #[.slice b L.length cap, .agg #[.int .i64 x, .int .i64 a, .int .i64 l, .int .i64 t]] w fun e w' => e = .returned (.tuple #[.slice none 0 0, errV c]) ∧ Below w.heap.size w w') → Calls Tryd.prog 15 #[.slice b L.length cap, .agg #[.int .i64 x, .int .i64 a, .int .i64 l, .int .i64 t]] w (Ends w [] (errV (putE L (x, a, l, t)))) := fun c hc h => by
      rw [hc]
      exact h.mono fun e w' ⟨he, hb⟩ => ⟨none, 0, he, bs_nil _, hb⟩
    by_cases h1 : lenB L.length = false
    · refine fin 3 (by unfold putE; rw [if_pos h1]) (iPut_len b L.length cap x a l t w hl h1)
    have h1' : lenB L.length = true := by simpa using h1
    by_cases h2 : hndB x = false ∨ t < 0 ∨ 15 < t ∨ l < 1 ∨ 1000 < l
    · refine fin 1 (by unfold putE; rw [if_neg h1, if_pos h2]) (iPut_range b L.length cap x a l t w hl h1' ?_)
      cases e1 : hndB x with
      | false => exact .inl rfl
      | true =>
        cases e2 : tagB t with
        | false => exact .inr (.inl ⟨rfl, rfl⟩)
        | true =>
          refine .inr (.inr ⟨rfl, rfl, ?_⟩)
          have htt : 0 ≤ t ∧ t ≤ 15 := by unfold tagB at e2; simpa using e2
          have hll : ¬ (1 ≤ l ∧ l ≤ 1000) := by
            rcases h2 with h2 | h2
            · rw [e1] at h2; cases h2
            · omega
          unfold sizB
          rw [Bool.and_eq_false_iff, decide_eq_false_iff_not, decide_eq_false_iff_not]
          omega
    have h2' : hndB x = true := by
      cases e : hndB x with
      | true => rfl
      | false => exact absurd (.inl e) h2
    have h3' : ¬ (t < 0 ∨ 15 < t ∨ l < 1 ∨ 1000 < l) := fun h => h2 (.inr h)
    by_cases h4 : a < 288 ∨ L.length - a < l
    · refine fin 3 (by unfold putE; rw [if_neg h1, if_neg h2, if_pos h4]) (iPut_shape b L.length cap x a l t w hl h1' h2' (by unfold tagB; rw [decide_eq_true (show 0 ≤ t by omega), decide_eq_true (show t ≤ 15 by omega)]; rfl) (by unfold sizB; rw [decide_eq_true (show 1 ≤ l by omega), decide_eq_true (show l ≤ 1000 by omega)]; rfl) ?_ ha)
      unfold behB
      rw [Bool.and_eq_false_iff, decide_eq_false_iff_not, decide_eq_false_iff_not]
      omega
    · exact absurd (by unfold putE; rw [if_neg h1, if_neg h2, if_neg h4]) h0
end Go.Proofs.YtaiheakjhhdmbaaDoor
