/-
  Contracts of package image: PutRoot; Roots. (Part of the proofs over package image.)
-/
import Derived.Test.YtllpeknpplpgeaaGreatDoorImG
import Derived.Test.YtllpeknpplpgeaaGreatDoorImF
import Derived.Test.YtllpeknpplpgeaaGreatDoorImK
namespace Go.Proofs.YtllpeknpplpgeaaGreatDoor
open Go.RowKit
set_option linter.unusedVariables false

theorem pr_len (b : Option Addr) (len cap : Nat) (i : Int) (s : ByteArray) (h : Int) (w : World) (hb : len ≤ 140737488351232) (hq : lenB len = false) :
    Calls Tryz.prog 55 #[.slice b len cap, .int .i64 i, .agg #[.string s, .int .i64 h]] w (Ends w [] (errV 3)) := by
  rw [errV_pos 3 (by decide)]
  have HL := hide (fun W => isLength_any len W)
  rw [hq] at HL
  clear hq
  go_enter Tryz.func55, Tryz.ntmps55
  go_wp2_with (go_at_call 63; refine (unhide HL _).mono ?_; rintro e w1 ⟨rfl, rfl⟩)
  go_ret2
  exact ⟨none, 0, rfl, bs_nil _, (Below.refl _ _).alloc (Nat.le_refl _) _⟩
theorem pr_range (b : Option Addr) (len cap : Nat) (i : Int) (s : ByteArray) (h : Int) (w : World) (hb : len ≤ 140737488351232) (hq : lenB len = true) (hi : i < 0 ∨ 7 < i) :
    Calls Tryz.prog 55 #[.slice b len cap, .int .i64 i, .agg #[.string s, .int .i64 h]] w (Ends w [] (errV 1)) := by
  rw [errV_pos 1 (by decide)]
  have HL := hide (fun W => isLength_any len W)
  have HI := hide (fun W => isPlace_any i W)
  rw [hq] at HL
  have hp : plcB i = false := by unfold plcB; rw [Bool.and_eq_false_iff, decide_eq_false_iff_not, decide_eq_false_iff_not]; omega
  rw [hp] at HI
  clear hq hi hp
  go_enter Tryz.func55, Tryz.ntmps55
  go_wp2_with (first | (go_at_call 63; refine (unhide HL _).mono ?_; rintro e w1 ⟨rfl, rfl⟩) | (go_at_call 88; refine (unhide HI _).mono ?_; rintro e w1 ⟨rfl, rfl⟩))
  go_ret2
  exact ⟨none, 0, rfl, bs_nil _, (Below.refl _ _).alloc (Nat.le_refl _) _⟩
set_option maxHeartbeats 1000000 in
theorem pr_row (b : Option Addr) (cap : Nat) (L : List Int) (i : Nat) (r : (ByteArray × Int)) (w : World) (hbs : Bs w b cap L) (hq : lenB L.length = true) (hi : i ≤ 7) (hs : r.1.size ≤ 140737488351232) :
    Calls Tryz.prog 55 #[.slice b L.length cap, .int .i64 i, .agg #[.string r.1, .int .i64 r.2]] w (Ends w (if rowRE r = 0 then splice L (200 + 11 * i) (rowR r) else []) (errV (rowRE r))) := by
  have HL := hide (fun W => isLength_any L.length W)
  have hlen := lenB_iff.1 hq
  have HRO := hide (rootRow_any r (w.alloc (.cells #[.string r.1, .int .i64 r.2] 57)) hs)
  have HRL := hide (fun h => rowR_len (r := r) h)
  have HP := hide (fun W => rootAt_any i W (by omega))
  have hb3 := hbs.2.2.1
  have HBS := hide hbs
  have HB0 : Hid (Below w.heap.size w (w.alloc (.cells #[.string r.1, .int .i64 r.2] 57))) := hide ((Below.refl _ _).alloc (Nat.le_refl _) _)
  have HI := hide (fun W => isPlace_any i W)
  have hp : plcB i = true := by unfold plcB; rw [Bool.and_eq_true, decide_eq_true_iff, decide_eq_true_iff]; omega
  rw [hp] at HI
  rw [hq] at HL
  clear hp
  unfold rootV at HRO
  clear hq hbs
  generalize rowR r = R at *
  generalize rowRE r = c at *
  by_cases hc : c = 0
  · subst hc
    rw [if_pos rfl] at HRO ⊢
    rw [errV_zero] at HRO ⊢
    have hrl := unhide HRL rfl
    have HW := hide (fun (W : World) (ra : Option Addr) (rc : Nat) (h5 : Bs W b cap L) (h6 : Bs W ra rc R) => with_any b cap L (200 + 11 * i) ra rc R W h5 h6 (by intro e; rw [e] at hrl; simp at hrl) (by omega))
    have HLEN := hide (length_splice (z := L) (l := R) (off := 200 + 11 * i) (by omega))
    rw [hrl] at HW
    generalize 200 + 11 * i = p at *
    clear HRL
    go_enter Tryz.func55, Tryz.ntmps55
    go_wp2_with (first | (go_at_call 63; refine (unhide HL _).mono ?_; rintro e w1 ⟨rfl, rfl⟩) | (go_at_call 88; refine (unhide HI _).mono ?_; rintro e w1 ⟨rfl, rfl⟩))
    refine (unhide HRO).mono ?_
    rintro e w2 ⟨a2, c2, rfl, hbs2, hb2⟩
    have hB2 := (unhide HB0).trans (hb2.mono (unhide HB0).size)
    have HW2 := hide (unhide HW w2 a2 c2 ((unhide HBS).below hB2) hbs2)
    have HB2 := hide hB2
    rw [hrl]
    clear hbs2 hb2 hB2 HW HB0 HRO
    go_wp2_with (go_at_call 64; refine (unhide HP _).mono ?_; rintro e w3 ⟨rfl, hw3⟩; subst hw3)
    refine (unhide HW2).mono ?_
    rintro e w4 ⟨a4, c4, rfl, hbs4, hb4⟩
    have HB4 := hide ((unhide HB2).trans (hb4.mono (unhide HB2).size))
    have HBS4 := hide hbs4
    clear hbs4 hb4 HB2 HW2
    go_wp2
    go_ret2
    exact ⟨a4, c4, by rw [unhide HLEN]; rfl, unhide HBS4, unhide HB4⟩
  · rw [if_neg hc] at HRO ⊢
    rw [errV_pos _ hc] at HRO ⊢
    clear HRL HP HBS hc
    go_enter Tryz.func55, Tryz.ntmps55
    go_wp2_with (first | (go_at_call 63; refine (unhide HL _).mono ?_; rintro e w1 ⟨rfl, rfl⟩) | (go_at_call 88; refine (unhide HI _).mono ?_; rintro e w1 ⟨rfl, rfl⟩))
    refine (unhide HRO).mono ?_
    rintro e w2 ⟨a2, c2, rfl, hbs2, hb2⟩
    have HB2 := hide ((unhide HB0).trans (hb2.mono (unhide HB0).size))
    clear hbs2 hb2
    go_wp2
    go_ret2
    exact ⟨none, 0, rfl, bs_nil _, unhide HB2⟩
theorem iPutRoot_any (b : Option Addr) (cap : Nat) (L : List Int) (i : Int) (r : (ByteArray × Int)) (w : World) (hbs : Bs w b cap L) (hs : r.1.size ≤ 140737488351232) :
    Calls Tryz.prog 55 #[.slice b L.length cap, .int .i64 i, rootV r] w (Ends w (prL L i r) (errV (prE L i r))) := by
  have hl := hbs.2.2.1
  unfold rootV
  cases hq : lenB L.length with
  | false =>
    have e : prE L i r = 3 := by unfold prE; rw [if_pos hq]
    have e2 : prL L i r = [] := by unfold prL; rw [e, if_neg (by decide)]
    rw [e, e2]
    exact pr_len b L.length cap i r.1 r.2 w hl hq
  | true =>
    by_cases hi : i < 0 ∨ 7 < i
    · have e : prE L i r = 1 := by unfold prE; rw [if_neg (by rw [hq]; simp), if_pos hi]
      have e2 : prL L i r = [] := by unfold prL; rw [e, if_neg (by decide)]
      rw [e, e2]
      exact pr_range b L.length cap i r.1 r.2 w hl hq hi
    · have e : prE L i r = rowRE r := by unfold prE; rw [if_neg (by rw [hq]; simp), if_neg hi]
      obtain ⟨I, rfl⟩ := Int.eq_ofNat_of_zero_le (show 0 ≤ i by omega)
      unfold prL
      rw [e, Int.toNat_natCast]
      exact pr_row b cap L I r w hbs hq (by omega) hs

/-! ### Roots -/
theorem roots1_any (c : Int) (w : World) : Calls Tryz.prog 66 #[.int .u8 c] w fun e w' => e = .returned (.bool (c != 0)) ∧ w = w' := by
  go_enter Tryz.func66, Tryz.ntmps66
  go_wp2
  go_ret
  exact ⟨rfl, rfl⟩
set_option maxHeartbeats 400000 in
theorem indexFunc_any (a : Option Addr) (cap : Nat) (l : List Int) (w : World) (hbs : Bs w a cap l) :
    Calls Tryz.prog 100 #[.slice a l.length cap, .func (.func 66) #[] #[]] w fun e w' => e = .returned (.int .i64 (firstNz l)) ∧ w = w' := by
  have hl : l.length ≤ 140737488351232 := hbs.2.2.1
  have HN := hide (fun k => firstNz_nat (l := l) (k := k))
  have HM := hide (firstNz_neg (l := l))
  generalize firstNz l = F at *
  go_enter Tryz.func100, Tryz.ntmps100
  go_wp2
  go_loop [5, 8] (fun _ i => ∃ k : Nat, k ≤ l.length ∧ i = .int .i64 k ∧ ∀ j, j < k → (l.getD j 0 != 0) = false) (fun _ i => l.length - (intOf i).toNat)
  case atStart => exact ⟨0, by omega, rfl, fun j hj => absurd hj (Nat.not_lt_zero j)⟩
  case round =>
    obtain ⟨k, hk, rfl, hall⟩ := hrel
    have HA : Hid (∀ j, j < k → (l.getD j 0 != 0) = false) := hall
    clear hall
    by_cases hlt : k < l.length
    · obtain ⟨b, off, rfl, hcell⟩ := hbs.at k hlt
      have HC := hide (roots1_any (l.getD k 0) w)
      have HK := hide (unhide HN k hlt)
      clear hbs
      have HF := hide (fun h => First.step (f := fun j => (l.getD j 0 != 0)) (unhide HA) h)
      generalize l.getD k 0 = c at *
      cases hb : (c != 0)
      · rw [hb] at HC
        have HS := hide (unhide HF hb)
        clear hb
        go_wp2_with (go_at_call 66; refine (unhide HC).mono ?_; rintro e w' ⟨rfl, rfl⟩)
        go_round
        case rel => exact ⟨k + 1, by omega, by go_num, unhide HS⟩
        case measure => simp [intOf]; omega
      · rw [hb] at HC
        have HS := hide (unhide HK hb (unhide HA))
        clear hb
        go_wp2_with (go_at_call 66; refine (unhide HC).mono ?_; rintro e w' ⟨rfl, rfl⟩)
        go_ret
        exact ⟨by rw [unhide HS]; rfl, rfl⟩
    · obtain rfl : k = l.length := by omega
      go_wp2
      go_ret
      exact ⟨by rw [unhide HM (unhide HA)]; rfl, rfl⟩
theorem contains_any (a : Option Addr) (cap : Nat) (l : List Int) (w : World) (hbs : Bs w a cap l) :
    Calls Tryz.prog 65 #[.slice a l.length cap, .func (.func 66) #[] #[]] w fun e w' => e = .returned (.bool (isRoot l)) ∧ w = w' := by
  have HI := hide (indexFunc_any a cap l w hbs)
  have hv : firstNz l = -1 ∧ isRoot l = false ∨ 0 ≤ firstNz l ∧ isRoot l = true := by
    unfold firstNz
    cases isRoot l with
    | true => rw [if_pos rfl]; exact .inr ⟨by omega, rfl⟩
    | false => rw [if_neg (by simp)]; exact .inl ⟨rfl, rfl⟩
  generalize firstNz l = F at *
  generalize isRoot l = R at *
  generalize l.length = N at *
  rcases hv with ⟨rfl, rfl⟩ | ⟨h, rfl⟩
  all_goals
    go_enter Tryz.func65, Tryz.ntmps65
    go_wp2_with (go_at_call 100; refine (unhide HI).mono ?_; rintro e w1 ⟨rfl, rfl⟩)
    go_ret
    exact ⟨rfl, rfl⟩
end Go.Proofs.YtllpeknpplpgeaaGreatDoor
