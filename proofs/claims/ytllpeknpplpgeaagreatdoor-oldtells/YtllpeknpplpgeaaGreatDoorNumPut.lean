/-
  The contract of num.Put. (Part of the proofs of NumBack, NumLow, NumTells.)
-/
import Derived.Test.YtllpeknpplpgeaaGreatDoorNumA
import Derived.Test.YtllpeknpplpgeaaGreatDoorLaws
namespace Go.Proofs.YtllpeknpplpgeaaGreatDoor
open Go.RowKit
set_option linter.unusedVariables false

theorem info_u8 : (Tryz.prog.info? 5).map (fun i => (i.zero, i.size, i.bytes)) = some (some (.int .u8 0), 1, 1) := by kernel_rfl
theorem size_u8 : (Tryz.prog.info? 5).map (·.size) = some 1 := by kernel_rfl

theorem put_size (a : Option Addr) (len cap : Nat) (p n s : Int) (w : World) (h : ¬ (1 ≤ s ∧ s ≤ 4)) :
    Calls Tryz.prog 68 #[.slice a len cap, .int .i64 p, .int .i64 n, .int .i64 s] w fun e w' => e = .returned (.tuple #[.slice none 0 0, .iface 63 (.int .i64 1)]) ∧ w = w' := by
  go_enter Tryz.func68, Tryz.ntmps68
  go_wp2_with (go_at_call 102; refine (isSize_no _ _ h).mono ?_; rintro e w' ⟨rfl, rfl⟩)
  go_ret2
  exact ⟨rfl, rfl⟩

theorem put_neg (a : Option Addr) (len cap : Nat) (p n s : Int) (w : World) (h1 : 1 ≤ s) (h2 : s ≤ 4) (h : n < 0) :
    Calls Tryz.prog 68 #[.slice a len cap, .int .i64 p, .int .i64 n, .int .i64 s] w fun e w' => e = .returned (.tuple #[.slice none 0 0, .iface 63 (.int .i64 1)]) ∧ w = w' := by
  go_enter Tryz.func68, Tryz.ntmps68
  go_wp2_with (go_at_call 102; refine (isSize_yes _ _ h1 h2).mono ?_; rintro e w' ⟨rfl, rfl⟩)
  go_ret2
  exact ⟨rfl, rfl⟩

theorem put_most (a : Option Addr) (len cap : Nat) (p n s : Int) (w : World) (h1 : 1 ≤ s) (h2 : s ≤ 4) (h3 : ¬ n < 0) (h : most s < n) :
    Calls Tryz.prog 68 #[.slice a len cap, .int .i64 p, .int .i64 n, .int .i64 s] w fun e w' => e = .returned (.tuple #[.slice none 0 0, .iface 63 (.int .i64 1)]) ∧ w = w' := by
  go_enter Tryz.func68, Tryz.ntmps68
  go_wp2_with (first | (go_at_call 102; refine (isSize_yes _ _ h1 h2).mono ?_; rintro e w' ⟨rfl, rfl⟩) | (go_at_call 103; refine (greatest_any _ _ h1 h2).mono ?_; rintro e w' ⟨rfl, rfl⟩))
  go_ret2
  exact ⟨rfl, rfl⟩

theorem put_shape (a : Option Addr) (len cap : Nat) (p n s : Int) (w : World) (hl : len ≤ 140737488355328) (h1 : 1 ≤ s) (h2 : s ≤ 4) (h3 : ¬ n < 0) (h4 : ¬ most s < n) (h : ¬ (0 ≤ p ∧ p ≤ len - s)) :
    Calls Tryz.prog 68 #[.slice a len cap, .int .i64 p, .int .i64 n, .int .i64 s] w fun e w' => e = .returned (.tuple #[.slice none 0 0, .iface 63 (.int .i64 3)]) ∧ w = w' := by
  go_enter Tryz.func68, Tryz.ntmps68
  go_wp2_with (first | (go_at_call 102; refine (isSize_yes _ _ h1 h2).mono ?_; rintro e w' ⟨rfl, rfl⟩) | (go_at_call 103; refine (greatest_any _ _ h1 h2).mono ?_; rintro e w' ⟨rfl, rfl⟩) | (go_at_call 104; refine (reaches_no _ _ _ _ _ _ hl h1 h2 h).mono ?_; rintro e w' ⟨rfl, rfl⟩))
  go_ret2
  exact ⟨rfl, rfl⟩

set_option maxRecDepth 100000 in
set_option maxHeartbeats 800000 in
theorem put_nat (a : Option Addr) (cap : Nat) (l : List Int) (p s : Nat) (n : Int) (w : World) (hbs : Bs w a cap l) (h1 : 1 ≤ s) (h2 : s ≤ 4) (h3 : 0 ≤ n) (h4 : ¬ most s < n) (h : p + s ≤ l.length) :
    Calls Tryz.prog 68 #[.slice a l.length cap, .int .i64 p, .int .i64 n, .int .i64 s] w fun e w' => ∃ g, e = .returned (.tuple #[.slice (some ⟨g, 0, none⟩) l.length l.length, .nilIface]) ∧ w.heap.size ≤ g ∧ Blk w' g (putK l p n s) ∧ Below w.heap.size w w' := by
  have hl : l.length ≤ 140737488351232 := hbs.2.2.1
  obtain ⟨i0, hi, hz0, hz1, hz2⟩ := info_parts info_u8
  have hcopy : ∀ w1, Blk w1 w.heap.size (zerosB l.length) → Bs w1 a cap l → Sem.run Tryz.prog (Builtin.copy_ #[22, 22] 3 #[.slice (some ⟨w.heap.size, 0, none⟩) l.length l.length, .slice a l.length cap]) w1 = .ok (.int .i64 l.length) (rowW w1 w.heap.size l) :=
    fun w1 h5 h6 => run_copy_u8 w1 _ _ _ Tryz.underlying22 size_u8 _ _ _ _ _ l (length_zerosB _) h5 h6
  go_enter Tryz.func68, Tryz.ntmps68
  go_wp2_with (first
    | (go_at_call 102; refine (isSize_yes _ _ (by omega) (by omega)).mono ?_; rintro e w' ⟨rfl, rfl⟩)
    | (go_at_call 103; refine (greatest_any _ _ (by omega) (by omega)).mono ?_; rintro e w' ⟨rfl, rfl⟩)
    | (go_at_call 104; refine (reaches_yes _ _ _ _ _ _ (by omega) (by omega) (by omega) (by omega) (by omega)).mono ?_; rintro e w' ⟨rfl, rfl⟩)
    | (at_make; refine wpList_make_u8 rfl _ _ 22 rfl i0 Tryz.underlying22 hi hz0 hz1 hz2 _ _ _ _ l.length rfl rfl rfl rfl (by omega) ?_; intro w1 hk1 hs1 hb1; have hbs1 := hbs.below hb1))
  go_loopw [39] (fun i wr => ∃ k : Nat, k ≤ s ∧ i = .int .i64 k ∧ Blk wr w.heap.size (putK l p n k) ∧ Below w.heap.size w wr) (fun i _ => s - (intOf i).toNat)
  case atStart => exact ⟨0, by omega, rfl, rowW_blk hk1 l, rowW_below l hb1 (Nat.le_refl _)⟩
  case round =>
    obtain ⟨k, hk, rfl, hblk, hbel⟩ := hrel
    by_cases hlt : k < s
    · have hfz := hblk.frozen (p + k)
      have hcl := hblk.cell (p + k) (by rw [length_putK]; omega)
      have HB : Hid (Blk wr w.heap.size (putK l p n k)) := hblk
      clear hblk
      go_wp2
      go_roundw
      case rel => exact ⟨k + 1, by omega, by go_num, by show Blk _ _ _; exact HB.out.set (p + k) _, hbel.setCell (Nat.le_refl _) _⟩
      case measure => simp [intOf]; omega
    · obtain rfl : k = s := by omega
      go_wp2
      go_ret2
      exact ⟨_, rfl, Nat.le_refl _, hblk, hbel⟩
end Go.Proofs.YtllpeknpplpgeaaGreatDoor
