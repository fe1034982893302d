/-
  The contracts of num.PutName, num.GetName, num.Same. (Part of the proofs of NumBack, NumLow, NumTells.)
-/
import Derived.Test.YtllpeknpplpgeaaGreatDoorNumAhead
import Derived.Test.YtllpeknpplpgeaaGreatDoorNumPut
import Derived.Deep.QuietTactic
namespace Go.Proofs.YtllpeknpplpgeaaGreatDoor
open Go.RowKit
set_option linter.unusedVariables false

theorem putName_len (s : ByteArray) (w : World) (hs : s.size ≤ 140737488351232) (h : ¬ (1 ≤ s.size ∧ s.size ≤ 8)) :
    Calls Tryz.prog 44 #[.string s] w fun e w' => e = .returned (.tuple #[.slice none 0 0, .iface 63 (.int .i64 2)]) ∧ Below w.heap.size w w' := by
  by_cases h1 : 1 ≤ s.size
  · have h2 : ¬ s.size ≤ 8 := by omega
    clear h
    go_enter Tryz.func44, Tryz.ntmps44
    go_wp2
    go_ret2
    exact ⟨rfl, (Below.refl _ _).alloc (Nat.le_refl _) _⟩
  · clear h
    go_enter Tryz.func44, Tryz.ntmps44
    go_wp2
    go_ret2
    exact ⟨rfl, (Below.refl _ _).alloc (Nat.le_refl _) _⟩

theorem ahead_putName_fn (q : Nat) (s : ByteArray) (w : World) (hs : s.size ≤ 140737488351232) (hq : w.cell? ⟨q, 0, none⟩ = some (.string s)) (i : Nat) (hi : First (fun j => (!ltr ((strL s).getD j 0))) s.size i) :
    Calls Tryz.prog 77 #[.int .i64 s.size, .func (.func 78) #[] #[.pointer (some ⟨q, 0, none⟩)]] w fun e w' => e = .returned (.int .i64 i) ∧ w' = w :=
  (ahead_putName q s w hs hq).mono fun e w' ⟨k, he, hk, hw⟩ => ⟨by rw [he, hk.unique hi], hw.symm⟩

set_option maxRecDepth 100000 in
set_option maxHeartbeats 400000 in
theorem putName_no (s : ByteArray) (w : World) (h1 : 1 ≤ s.size) (h2 : s.size ≤ 8) (i : Nat) (hi : First (fun j => (!ltr ((strL s).getD j 0))) s.size i) (hlt : i < s.size) :
    Calls Tryz.prog 44 #[.string s] w fun e w' => e = .returned (.tuple #[.slice none 0 0, .iface 63 (.int .i64 2)]) ∧ Below w.heap.size w w' := by
  have HI := hide hi
  clear hi
  go_enter Tryz.func44, Tryz.ntmps44
  go_wp2
  go_quiet ((go_at_call 77; exact Calls.quiet_of_same (ahead_putName_fn _ s _ (by omega) (by simp) i (unhide HI))))
  go_wp2
  go_ret2
  exact ⟨rfl, below_drewN ((Below.refl _ _).alloc (Nat.le_refl _) _) _⟩

/-- The bytes of a name, and zeros up to eight. -/
def nameL (s : ByteArray) : List Int := strL s ++ (zerosB 8).drop s.size

set_option maxRecDepth 100000 in
set_option maxHeartbeats 400000 in
theorem putName_yes (s : ByteArray) (w : World) (h1 : 1 ≤ s.size) (h2 : s.size ≤ 8) (hi : First (fun j => (!ltr ((strL s).getD j 0))) s.size s.size) :
    Calls Tryz.prog 44 #[.string s] w fun e w' => ∃ g, e = .returned (.tuple #[.slice (some ⟨g, 0, none⟩) 8 8, .nilIface]) ∧ w.heap.size ≤ g ∧ Blk w' g (nameL s) ∧ Below w.heap.size w w' := by
  have HI := hide hi
  clear hi
  obtain ⟨i0, hi, hz0, hz1, hz2⟩ := info_parts info_u8
  have hcopy : ∀ w1 g, Blk w1 g (zerosB 8) → Sem.run Tryz.prog (Builtin.copy_ #[22, 9] 3 #[.slice (some ⟨g, 0, none⟩) 8 8, .string s]) w1 = .ok (.int .i64 s.size) (rowW w1 g (nameL s)) :=
    fun w1 g h5 => run_copy_str w1 _ _ _ Tryz.underlying22 size_u8 g 8 8 s _ (length_zerosB _) h5 h2
  go_enter Tryz.func44, Tryz.ntmps44
  go_wp2
  go_quiet ((go_at_call 77; exact Calls.quiet_of_same (ahead_putName_fn _ s _ (by omega) (by simp) s.size (unhide HI))))
  go_wp2_with (at_make; refine wpList_make_u8 rfl _ _ 22 rfl i0 Tryz.underlying22 hi hz0 hz1 hz2 _ _ _ _ 8 rfl rfl rfl rfl (by omega) ?_; intro w1 hk1 hs1 hb1; have hq1 : w1.cell? ⟨w.heap.size, 0, none⟩ = some (.string s) := (by rw [hb1.cell (by simp)]; simp); have hk2 : Blk w1 (w.heap.size + 1) (zerosB 8) := (by simpa using hk1))
  go_ret2
  have hb2 : Below w.heap.size w w1 := (below_drewN ((Below.refl _ _).alloc (Nat.le_refl _) _) _).trans (hb1.mono (by simp))
  exact ⟨_, rfl, by omega, rowW_blk hk2 _, rowW_below _ hb2 (by omega)⟩

theorem length_nameL (s : ByteArray) (h : s.size ≤ 8) : (nameL s).length = 8 := by simp [nameL, length_strL, length_zerosB]; omega
theorem byt_nameL (s : ByteArray) : Byt (nameL s) := by
  intro z hz
  rcases List.mem_append.1 hz with h | h
  · exact byt_strL s z h
  · exact byt_zerosB 8 z (List.mem_of_mem_drop h)

/-! ### GetName -/
theorem getName_len (a : Option Addr) (len cap : Nat) (w : World) (hl : len ≤ 140737488351232) (h : ¬ len = 8) :
    Calls Tryz.prog 101 #[.slice a len cap] w fun e w' => e = .returned (.tuple #[.string ByteArray.empty, .iface 63 (.int .i64 3)]) ∧ Below w.heap.size w w' := by
  have hne : ((len : Int) != 8) = true := by simp; omega
  go_enter Tryz.func101, Tryz.ntmps101
  go_wp2
  go_ret2
  exact ⟨rfl, (Below.refl _ _).alloc (Nat.le_refl _) _⟩

theorem ahead_getName1_fn (q : Nat) (a : Option Addr) (cap n : Nat) (l : List Int) (w : World) (hn : l.length = n) (hbs : Bs w a cap l) (hq : w.cell? ⟨q, 0, none⟩ = some (.slice a n cap)) (i : Nat) (hi : First (fun j => (!ltr (l.getD j 0))) l.length i) :
    Calls Tryz.prog 77 #[.int .i64 n, .func (.func 125) #[] #[.pointer (some ⟨q, 0, none⟩)]] w fun e w' => e = .returned (.int .i64 i) ∧ w = w' := by
  subst hn
  exact (ahead_getName1 q a cap l w hbs hq).mono fun e w' ⟨k, he, hk, hw⟩ => ⟨by rw [he, hk.unique hi], hw⟩

theorem ahead_getName2_fn (q : Nat) (a : Option Addr) (cap n : Nat) (l : List Int) (w : World) (hn : l.length = n) (hbs : Bs w a cap l) (hq : w.cell? ⟨q, 0, none⟩ = some (.slice a n cap)) (i : Nat) (hi : First (fun j => (l.getD j 0 != 0)) l.length i) :
    Calls Tryz.prog 77 #[.int .i64 n, .func (.func 126) #[] #[.pointer (some ⟨q, 0, none⟩)]] w fun e w' => e = .returned (.int .i64 i) ∧ w = w' := by
  subst hn
  exact (ahead_getName2 q a cap l w hbs hq).mono fun e w' ⟨k, he, hk, hw⟩ => ⟨by rw [he, hk.unique hi], hw⟩

set_option maxRecDepth 100000 in
set_option maxHeartbeats 400000 in
/-- GetName of eight bytes, of which the first is no letter. -/
theorem getName_none (a : Option Addr) (cap : Nat) (l : List Int) (w : World) (hbs : Bs w a cap l) (h8 : l.length = 8) (i z : Nat) (hi : First (fun j => (!ltr (l.getD j 0))) l.length i) (hz : First (fun j => ((l.drop i).getD j 0 != 0)) (l.drop i).length z) (h0 : i = 0) :
    Calls Tryz.prog 101 #[.slice a l.length cap] w fun e w' => e = .returned (.tuple #[.string ByteArray.empty, .iface 63 (.int .i64 2)]) ∧ Below w.heap.size w w' := by
  have hi8 : i ≤ l.length := hi.1
  have hl : l.length ≤ 140737488351232 := by omega
  have ht1 : ((l.length : Int) != 8) = false := by simp; omega
  obtain ⟨a2, hsl, hbs2⟩ := slice_lo Tryz.underlying22 size_u8 hbs i (by omega)
  have ht2 : ((i : Int) == 0) = true := by simp [h0]
  have H0 := hide h0
  clear h0
  have HI := hide hi
  have HZ := hide hz
  have HL : Hid ((l.drop i).length = l.length - i) := hide (by simp)
  clear hi hz h8
  go_enter Tryz.func101, Tryz.ntmps101
  go_wp2_with fail
  refine (ahead_getName1_fn _ a cap l.length l _ rfl (hbs.below ((Below.refl _ _).alloc (Nat.le_refl _) _)) (by simp) i (unhide HI)).mono ?_
  rintro e w1 ⟨rfl, rfl⟩
  go_wp2_with fail
  refine (ahead_getName2_fn _ a2 (cap - i) (l.length - i) (l.drop i) _ (unhide HL) (hbs2.below (((Below.refl _ _).alloc (Nat.le_refl _) _).alloc (by simp) _)) (by simp) z (unhide HZ)).mono ?_
  rintro e w1 ⟨rfl, rfl⟩
  go_wp2
  go_ret2
  exact ⟨rfl, (((Below.refl _ _).alloc (Nat.le_refl _) _).alloc (by simp) _)⟩

set_option maxRecDepth 100000 in
set_option maxHeartbeats 400000 in
/-- GetName of eight bytes: i letters stand ahead, and behind them there are others than zeros. -/
theorem getName_more (a : Option Addr) (cap : Nat) (l : List Int) (w : World) (hbs : Bs w a cap l) (h8 : l.length = 8) (i z : Nat) (hi : First (fun j => (!ltr (l.getD j 0))) l.length i) (hz : First (fun j => ((l.drop i).getD j 0 != 0)) (l.drop i).length z) (h0 : ¬ i = 0) (hlt : z < l.length - i) :
    Calls Tryz.prog 101 #[.slice a l.length cap] w fun e w' => e = .returned (.tuple #[.string ByteArray.empty, .iface 63 (.int .i64 2)]) ∧ Below w.heap.size w w' := by
  have hi8 : i ≤ l.length := hi.1
  have hl : l.length ≤ 140737488351232 := by omega
  have ht1 : ((l.length : Int) != 8) = false := by simp; omega
  obtain ⟨a2, hsl, hbs2⟩ := slice_lo Tryz.underlying22 size_u8 hbs i (by omega)
  have ht2 : ((i : Int) == 0) = false := by simp [h0]
  have H0 := hide h0
  clear h0
  have HI := hide hi
  have HZ := hide hz
  have HL : Hid ((l.drop i).length = l.length - i) := hide (by simp)
  clear hi hz h8
  go_enter Tryz.func101, Tryz.ntmps101
  go_wp2_with fail
  refine (ahead_getName1_fn _ a cap l.length l _ rfl (hbs.below ((Below.refl _ _).alloc (Nat.le_refl _) _)) (by simp) i (unhide HI)).mono ?_
  rintro e w1 ⟨rfl, rfl⟩
  go_wp2_with fail
  refine (ahead_getName2_fn _ a2 (cap - i) (l.length - i) (l.drop i) _ (unhide HL) (hbs2.below (((Below.refl _ _).alloc (Nat.le_refl _) _).alloc (by simp) _)) (by simp) z (unhide HZ)).mono ?_
  rintro e w1 ⟨rfl, rfl⟩
  go_wp2
  go_ret2
  exact ⟨rfl, (((Below.refl _ _).alloc (Nat.le_refl _) _).alloc (by simp) _)⟩

set_option maxRecDepth 100000 in
set_option maxHeartbeats 400000 in
/-- GetName of eight bytes: i letters stand ahead, and behind them only zeros. -/
theorem getName_yes (a : Option Addr) (cap : Nat) (l : List Int) (w : World) (hbs : Bs w a cap l) (h8 : l.length = 8) (i z : Nat) (hi : First (fun j => (!ltr (l.getD j 0))) l.length i) (hz : First (fun j => ((l.drop i).getD j 0 != 0)) (l.drop i).length z) (h0 : ¬ i = 0) (hge : l.length - i ≤ z) :
    Calls Tryz.prog 101 #[.slice a l.length cap] w fun e w' => e = .returned (.tuple #[.string (strOf (l.take i)), .nilIface]) ∧ Below w.heap.size w w' := by
  have hi8 : i ≤ l.length := hi.1
  have hl : l.length ≤ 140737488351232 := by omega
  have ht1 : ((l.length : Int) != 8) = false := by simp; omega
  obtain ⟨a2, hsl, hbs2⟩ := slice_lo Tryz.underlying22 size_u8 hbs i (by omega)
  have ht2 : ((i : Int) == 0) = false := by simp [h0]
  obtain ⟨a3, hsh, hbs3⟩ := slice_hi Tryz.underlying22 size_u8 hbs i (by omega)
  have hcv := fun o1 o2 => conv_str (P := Tryz.prog) (t := 22) (e := 9) Tryz.underlying22 Tryz.underlying5 Tryz.underlying9 (hbs3.below (w' := (w.alloc o1).alloc o2) (((Below.refl _ _).alloc (Nat.le_refl _) _).alloc (by simp) _))
  rw [show (l.take i).length = i from by simp; omega] at hcv
  have H0 := hide h0
  clear h0
  have HI := hide hi
  have HZ := hide hz
  have HL : Hid ((l.drop i).length = l.length - i) := hide (by simp)
  clear hi hz h8
  go_enter Tryz.func101, Tryz.ntmps101
  go_wp2_with fail
  refine (ahead_getName1_fn _ a cap l.length l _ rfl (hbs.below ((Below.refl _ _).alloc (Nat.le_refl _) _)) (by simp) i (unhide HI)).mono ?_
  rintro e w1 ⟨rfl, rfl⟩
  go_wp2_with fail
  refine (ahead_getName2_fn _ a2 (cap - i) (l.length - i) (l.drop i) _ (unhide HL) (hbs2.below (((Below.refl _ _).alloc (Nat.le_refl _) _).alloc (by simp) _)) (by simp) z (unhide HZ)).mono ?_
  rintro e w1 ⟨rfl, rfl⟩
  go_wp2
  go_ret2
  exact ⟨rfl, (((Below.refl _ _).alloc (Nat.le_refl _) _).alloc (by simp) _)⟩
end Go.Proofs.YtllpeknpplpgeaaGreatDoor
