/-
  The contracts of num.PutName, num.GetName, num.Same. (Part of the proofs of NumBack, NumLow, NumTells.)
-/
import Derived.Test.YtbohnnflddfidaaNumAhead
import Derived.Test.YtbohnnflddfidaaNumPut
import Derived.Deep.QuietTactic
namespace Go.Proofs.Ytbohnnflddfidaa
open Go.RowKit
set_option linter.unusedVariables false

theorem putName_len (s : ByteArray) (w : World) (hs : s.size ≤ 140737488351232) (h : ¬ (1 ≤ s.size ∧ s.size ≤ 8)) :
    Calls Try.prog 39 #[.string s] w fun e w' => e = .returned (.tuple #[.slice none 0 0, .iface 48 (.int .i64 2)]) ∧ Below w.heap.size w w' := by
  by_cases h1 : 1 ≤ s.size
  · have h2 : ¬ s.size ≤ 8 := by omega
    clear h
    go_enter Try.func39, Try.ntmps39
    go_wp2
    go_ret2
    exact ⟨rfl, (Below.refl _ _).alloc (Nat.le_refl _) _⟩
  · clear h
    go_enter Try.func39, Try.ntmps39
    go_wp2
    go_ret2
    exact ⟨rfl, (Below.refl _ _).alloc (Nat.le_refl _) _⟩

theorem ahead_putName_fn (q : Nat) (s : ByteArray) (w : World) (hs : s.size ≤ 140737488351232) (hq : w.cell? ⟨q, 0, none⟩ = some (.string s)) (i : Nat) (hi : First (fun j => (!ltr ((strL s).getD j 0))) s.size i) :
    Calls Try.prog 29 #[.int .i64 s.size, .func (.func 47) #[] #[.pointer (some ⟨q, 0, none⟩)]] w fun e w' => e = .returned (.int .i64 i) ∧ w' = w :=
  (ahead_putName q s w hs hq).mono fun e w' ⟨k, he, hk, hw⟩ => ⟨by rw [he, hk.unique hi], hw.symm⟩

set_option maxRecDepth 100000 in
set_option maxHeartbeats 400000 in
theorem putName_no (s : ByteArray) (w : World) (h1 : 1 ≤ s.size) (h2 : s.size ≤ 8) (i : Nat) (hi : First (fun j => (!ltr ((strL s).getD j 0))) s.size i) (hlt : i < s.size) :
    Calls Try.prog 39 #[.string s] w fun e w' => e = .returned (.tuple #[.slice none 0 0, .iface 48 (.int .i64 2)]) ∧ Below w.heap.size w w' := by
  have HI := hide hi
  clear hi
  go_enter Try.func39, Try.ntmps39
  go_wp2
  go_quiet ((go_at_call 29; exact Calls.quiet_of_same (ahead_putName_fn _ s _ (by omega) (by simp) i (unhide HI))))
  go_wp2
  go_ret2
  exact ⟨rfl, below_drewN ((Below.refl _ _).alloc (Nat.le_refl _) _) _⟩

/-- The bytes of a name, and zeros up to eight. -/
def nameL (s : ByteArray) : List Int := strL s ++ (zerosB 8).drop s.size

set_option maxRecDepth 100000 in
set_option maxHeartbeats 400000 in
theorem putName_yes (s : ByteArray) (w : World) (h1 : 1 ≤ s.size) (h2 : s.size ≤ 8) (hi : First (fun j => (!ltr ((strL s).getD j 0))) s.size s.size) :
    Calls Try.prog 39 #[.string s] w fun e w' => ∃ g, e = .returned (.tuple #[.slice (some ⟨g, 0, none⟩) 8 8, .nilIface]) ∧ w.heap.size ≤ g ∧ Blk w' g (nameL s) ∧ Below w.heap.size w w' := by
  have HI := hide hi
  clear hi
  obtain ⟨i0, hi, hz0, hz1, hz2⟩ := info_parts info_u8
  have hcopy : ∀ w1 g, Blk w1 g (zerosB 8) → Sem.run Try.prog (Builtin.copy_ #[22, 9] 3 #[.slice (some ⟨g, 0, none⟩) 8 8, .string s]) w1 = .ok (.int .i64 s.size) (rowW w1 g (nameL s)) :=
    fun w1 g h5 => run_copy_str w1 _ _ _ Try.underlying22 size_u8 g 8 8 s _ (length_zerosB _) h5 h2
  go_enter Try.func39, Try.ntmps39
  go_wp2
  go_quiet ((go_at_call 29; exact Calls.quiet_of_same (ahead_putName_fn _ s _ (by omega) (by simp) s.size (unhide HI))))
  go_wp2_with (at_make; refine wpList_make_u8 rfl _ _ 22 rfl i0 Try.underlying22 hi hz0 hz1 hz2 _ _ _ _ 8 rfl rfl rfl rfl (by omega) ?_; intro w1 hk1 hs1 hb1; have hq1 : w1.cell? ⟨w.heap.size, 0, none⟩ = some (.string s) := (by rw [hb1.cell (by simp)]; simp); have hk2 : Blk w1 (w.heap.size + 1) (zerosB 8) := (by simpa using hk1))
  go_ret2
  have hb2 : Below w.heap.size w w1 := (below_drewN ((Below.refl _ _).alloc (Nat.le_refl _) _) _).trans (hb1.mono (by simp))
  exact ⟨_, rfl, by omega, rowW_blk hk2 _, rowW_below _ hb2 (by omega)⟩

theorem length_nameL (s : ByteArray) (h : s.size ≤ 8) : (nameL s).length = 8 := by simp [nameL, length_strL, length_zerosB]; omega
theorem byt_nameL (s : ByteArray) : Byt (nameL s) := by
  intro z hz
  rcases List.mem_append.1 hz with h | h
  · exact byt_strL s z h
  · exact byt_zerosB 8 z (List.mem_of_mem_drop h)

end Go.Proofs.Ytbohnnflddfidaa
