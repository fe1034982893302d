/-
  Contracts of package check: isAny, part, where the bytes of a handle and of a root stand. (Part of the proofs over package check.)
-/
import Derived.Test.YtccailoccgbehaaGreatDoorImF
import Derived.Test.YtccailoccgbehaaGreatDoorImK
import Derived.Test.YtccailoccgbehaaGreatDoorImC
import Derived.Test.YtccailoccgbehaaGreatDoorChSame
namespace Go.Proofs.YtccailoccgbehaaGreatDoor
open Go.RowKit
set_option linter.unusedVariables false

theorem isAny1_any (c : Int) (w : World) : Calls Tryz.prog 63 #[.int .u8 c] w fun e w' => e = .returned (.bool (c != 0)) ∧ w = w' := by
  go_enter Tryz.func63, Tryz.ntmps63
  go_wp2
  go_ret
  exact ⟨rfl, rfl⟩
set_option maxHeartbeats 400000 in
theorem chIndex_any (a : Option Addr) (cap : Nat) (l : List Int) (w : World) (hbs : Bs w a cap l) :
    Calls Tryz.prog 80 #[.slice a l.length cap, .func (.func 63) #[] #[]] w fun e w' => e = .returned (.int .i64 (firstNz l)) ∧ w = w' := by
  have hl : l.length ≤ 140737488351232 := hbs.2.2.1
  have HN := hide (fun k => firstNz_nat (l := l) (k := k))
  have HM := hide (firstNz_neg (l := l))
  generalize firstNz l = F at *
  go_enter Tryz.func80, Tryz.ntmps80
  go_wp2
  go_loop [5, 8] (fun _ i => ∃ k : Nat, k ≤ l.length ∧ i = .int .i64 k ∧ ∀ j, j < k → (l.getD j 0 != 0) = false) (fun _ i => l.length - (intOf i).toNat)
  case atStart => exact ⟨0, by omega, rfl, fun j hj => absurd hj (Nat.not_lt_zero j)⟩
  case round =>
    obtain ⟨k, hk, rfl, hall⟩ := hrel
    have HA : Hid (∀ j, j < k → (l.getD j 0 != 0) = false) := hall
    clear hall
    by_cases hlt : k < l.length
    · obtain ⟨b, off, rfl, hcell⟩ := hbs.at k hlt
      have HC := hide (isAny1_any (l.getD k 0) w)
      have HK := hide (unhide HN k hlt)
      clear hbs
      have HF := hide (fun h => First.step (f := fun j => (l.getD j 0 != 0)) (unhide HA) h)
      generalize l.getD k 0 = c at *
      cases hb : (c != 0)
      · rw [hb] at HC
        have HS := hide (unhide HF hb)
        clear hb
        go_wp2_with (go_at_call 63; refine (unhide HC).mono ?_; rintro e w' ⟨rfl, rfl⟩)
        go_round
        case rel => exact ⟨k + 1, by omega, by go_num, unhide HS⟩
        case measure => simp [intOf]; omega
      · rw [hb] at HC
        have HS := hide (unhide HK hb (unhide HA))
        clear hb
        go_wp2_with (go_at_call 63; refine (unhide HC).mono ?_; rintro e w' ⟨rfl, rfl⟩)
        go_ret
        exact ⟨by rw [unhide HS]; rfl, rfl⟩
    · obtain rfl : k = l.length := by omega
      go_wp2
      go_ret
      exact ⟨by rw [unhide HM (unhide HA)]; rfl, rfl⟩
theorem chCont_any (a : Option Addr) (cap : Nat) (l : List Int) (w : World) (hbs : Bs w a cap l) :
    Calls Tryz.prog 62 #[.slice a l.length cap, .func (.func 63) #[] #[]] w fun e w' => e = .returned (.bool (isRoot l)) ∧ w = w' := by
  have HI := hide (chIndex_any a cap l w hbs)
  have hv : firstNz l = -1 ∧ isRoot l = false ∨ 0 ≤ firstNz l ∧ isRoot l = true := by
    unfold firstNz
    cases isRoot l with
    | true => rw [if_pos rfl]; exact .inr ⟨by omega, rfl⟩
    | false => rw [if_neg (by simp)]; exact .inl ⟨rfl, rfl⟩
  generalize firstNz l = F at *
  generalize isRoot l = R at *
  generalize l.length = N at *
  rcases hv with ⟨rfl, rfl⟩ | ⟨h, rfl⟩
  all_goals
    go_enter Tryz.func62, Tryz.ntmps62
    go_wp2_with (go_at_call 80; refine (unhide HI).mono ?_; rintro e w1 ⟨rfl, rfl⟩)
    go_ret
    exact ⟨rfl, rfl⟩
theorem isAny_any (a : Option Addr) (cap : Nat) (l : List Int) (w : World) (hbs : Bs w a cap l) :
    Calls Tryz.prog 42 #[.slice a l.length cap] w fun e w' => e = .returned (.bool (isRoot l)) ∧ w = w' := by
  have HI := hide (chCont_any a cap l w hbs)
  clear hbs
  generalize isRoot l = R at *
  generalize l.length = N at *
  go_enter Tryz.func42, Tryz.ntmps42
  go_wp2_with fail
  refine (unhide HI).mono ?_
  rintro e w1 ⟨rfl, hw⟩
  subst hw
  go_wp2
  go_ret
  exact ⟨rfl, rfl⟩

theorem size_ext : (Tryz.prog.info? 41).map (·.size) = some 2 := by kernel_rfl
theorem part_any (a : Option Addr) (cap : Nat) (l : List Int) (x n : Nat) (w : World) (hbs : Bs w a cap l) (hx : x + n ≤ l.length) :
    Calls Tryz.prog 43 #[.slice a l.length cap, .agg #[.int .i64 x, .int .i64 n]] w fun e w' => ∃ a' c', e = .returned (.slice a' n c') ∧ Bs w' a' c' ((l.drop x).take n) ∧ Below w.heap.size w w' := by
  have hb0 : Below w.heap.size w (w.alloc (.cells #[.int .i64 x, .int .i64 n] 41)) := (Below.refl _ _).alloc (Nat.le_refl _) _
  obtain ⟨a1, hs1, hb1⟩ := slice_lohi (P := Tryz.prog) (t := 22) Tryz.underlying22 size_u8 (hbs.below hb0) x (x + n) (by omega) hx
  have e1 : x + n - x = n := by omega
  rw [e1] at hs1 hb1
  have e2 : ((x + n : Nat) : Int) = (x : Int) + n := by omega
  rw [e2] at hs1
  have HB0 := hide hb0
  have HB1 := hide hb1
  have h3 := hbs.2.2.1
  clear hbs hb0 hb1 e1 e2
  generalize l.length = N at *
  go_enter Tryz.func43, Tryz.ntmps43
  go_wp2
  go_ret
  exact ⟨_, _, rfl, unhide HB1, unhide HB0⟩
/-- 'b[x : x+n]' of a row. -/
theorem cut2_row {P : Program} {t : TypeId} (hu : P.underlying t = some (.slice 5)) (hsz : (P.info? 5).map (·.size) = some 1) (g c N x n : Nat) (hp : x + n ≤ N) (hn : N ≤ c) (hlt : x < c) (w' : World) :
    (Instr.slice t (.slice (some ⟨g, 0, none⟩) N c) (some (.int .i64 x)) (some (.int .i64 ((x : Int) + n))) none).run P w' = .ok (.slice (some ⟨g, x, none⟩) n (c - x)) w' := by
  have he := elem_u8 hu
  rw [run_slice_lh (P := P) (w := w') t (some ⟨g, 0, none⟩) N c (by rw [he]; exact hu) .i64 .i64 x (x + n) (by omega) (by omega) (by omega), he, run_size_u8 w' hsz]
  have t1 : (x : Int).toNat = x := Int.toNat_natCast x
  have t2 : ((x : Int) + n).toNat = x + n := by omega
  simp only [Result.andThen, sliced, t1, t2]
  rw [if_neg (by omega)]
  simp [Addr.add]
  exact fun h => h.symm
theorem part_row (g c N x n : Nat) (w : World) (hN : N ≤ 140737488351232) (hp : x + n ≤ N) (hn : N ≤ c) (hlt : x < c) :
    Calls Tryz.prog 43 #[.slice (some ⟨g, 0, none⟩) N c, .agg #[.int .i64 x, .int .i64 n]] w fun e w' => e = .returned (.slice (some ⟨g, x, none⟩) n (c - x)) ∧ Below w.heap.size w w' := by
  have hs1 := fun w' => cut2_row (P := Tryz.prog) (t := 22) Tryz.underlying22 size_u8 g c N x n hp hn hlt w'
  go_enter Tryz.func43, Tryz.ntmps43
  go_wp2
  go_ret
  exact ⟨rfl, (Below.refl _ _).alloc (Nat.le_refl _) _⟩

/-! ### where bytes stand -/
theorem ofHandle_any (h : Int) (w : World) (h1 : 1 ≤ h) (h2 : h ≤ 40) :
    Calls Tryz.prog 44 #[.int .i64 h] w fun e w' => e = .returned (.agg #[.int .i64 (plc h : Nat), .int .i64 5]) ∧ Below w.heap.size w w' := by
  have HH := hide (fun W => isHandle_any h W)
  rw [hndB_iff.2 ⟨h1, h2⟩] at HH
  have HP := hide (fun W => entryAt_any h W h1 h2)
  generalize plc h = p at *
  clear h1 h2
  go_enter Tryz.func44, Tryz.ntmps44
  go_wp2_with (first | (go_at_call 64; refine (unhide HH _).mono ?_; rintro e w1 ⟨rfl, hw⟩; subst hw) | (go_at_call 55; refine (unhide HP _).mono ?_; rintro e w1 ⟨rfl, hw⟩; subst hw))
  refine bodyPost_ret (results_cell_row rfl _ _ w.heap.size 41 _ (0, 0) _ rfl (heap_alloc_new w _) Tryz.underlying41 rfl (by rw [size_ext]; rfl)) rfl ?_
  exact ⟨rfl, (Below.refl _ w).alloc (Nat.le_refl _) _⟩
theorem ofRoot_any (i : Nat) (w : World) (hi : i < 8) :
    Calls Tryz.prog 45 #[.int .i64 i] w fun e w' => e = .returned (.agg #[.int .i64 (200 + 11 * i : Nat), .int .i64 11]) ∧ Below w.heap.size w w' := by
  have HH := hide (fun W => isPlace_any i W)
  have hp : plcB i = true := by unfold plcB; rw [Bool.and_eq_true, decide_eq_true_iff, decide_eq_true_iff]; omega
  rw [hp] at HH
  have HP := hide (fun W => rootAt_any i W (by omega))
  generalize 200 + 11 * i = p at *
  clear hp
  go_enter Tryz.func45, Tryz.ntmps45
  go_wp2_with (first | (go_at_call 65; refine (unhide HH _).mono ?_; rintro e w1 ⟨rfl, hw⟩; subst hw) | (go_at_call 66; refine (unhide HP _).mono ?_; rintro e w1 ⟨rfl, hw⟩; subst hw))
  refine bodyPost_ret (results_cell_row rfl _ _ w.heap.size 41 _ (0, 0) _ rfl (heap_alloc_new w _) Tryz.underlying41 rfl (by rw [size_ext]; rfl)) rfl ?_
  exact ⟨rfl, (Below.refl _ w).alloc (Nat.le_refl _) _⟩
end Go.Proofs.YtccailoccgbehaaGreatDoor
