/-
  The contracts of num.PutName, num.GetName, num.Same. (Part of the proofs of NumBack, NumLow, NumTells.)
-/
import Derived.Test.YtmkkiedohphpcaaGreatDoorNumAhead
import Derived.Test.YtmkkiedohphpcaaGreatDoorNumPut
import Derived.Deep.QuietTactic
namespace Go.Proofs.YtmkkiedohphpcaaGreatDoor
open Go.RowKit
set_option linter.unusedVariables false

/-- The bytes of a name, and zeros up to eight. -/
def nameL (s : ByteArray) : List Int := strL s ++ (zerosB 8).drop s.size

theorem length_nameL (s : ByteArray) (h : s.size ≤ 8) : (nameL s).length = 8 := by simp [nameL, length_strL, length_zerosB]; omega
theorem byt_nameL (s : ByteArray) : Byt (nameL s) := by
  intro z hz
  rcases List.mem_append.1 hz with h | h
  · exact byt_strL s z h
  · exact byt_zerosB 8 z (List.mem_of_mem_drop h)

/-! ### GetName -/
theorem getName_len (a : Option Addr) (len cap : Nat) (w : World) (hl : len ≤ 140737488351232) (h : ¬ len = 8) :
    Calls Tryz.prog 110 #[.slice a len cap] w fun e w' => e = .returned (.tuple #[.string ByteArray.empty, .iface 61 (.int .i64 3)]) ∧ Below w.heap.size w w' := by
  have hne : ((len : Int) != 8) = true := by simp; omega
  go_enter Tryz.func110, Tryz.ntmps110
  go_wp2
  go_ret2
  exact ⟨rfl, (Below.refl _ _).alloc (Nat.le_refl _) _⟩

theorem ahead_getName1_fn (q : Nat) (a : Option Addr) (cap n : Nat) (l : List Int) (w : World) (hn : l.length = n) (hbs : Bs w a cap l) (hq : w.cell? ⟨q, 0, none⟩ = some (.slice a n cap)) (i : Nat) (hi : First (fun j => (!ltr (l.getD j 0))) l.length i) :
    Calls Tryz.prog 125 #[.int .i64 n, .func (.func 126) #[] #[.pointer (some ⟨q, 0, none⟩)]] w fun e w' => e = .returned (.int .i64 i) ∧ w = w' := by
  subst hn
  exact (ahead_getName1 q a cap l w hbs hq).mono fun e w' ⟨k, he, hk, hw⟩ => ⟨by rw [he, hk.unique hi], hw⟩

theorem ahead_getName2_fn (q : Nat) (a : Option Addr) (cap n : Nat) (l : List Int) (w : World) (hn : l.length = n) (hbs : Bs w a cap l) (hq : w.cell? ⟨q, 0, none⟩ = some (.slice a n cap)) (i : Nat) (hi : First (fun j => (l.getD j 0 != 0)) l.length i) :
    Calls Tryz.prog 125 #[.int .i64 n, .func (.func 128) #[] #[.pointer (some ⟨q, 0, none⟩)]] w fun e w' => e = .returned (.int .i64 i) ∧ w = w' := by
  subst hn
  exact (ahead_getName2 q a cap l w hbs hq).mono fun e w' ⟨k, he, hk, hw⟩ => ⟨by rw [he, hk.unique hi], hw⟩

set_option maxRecDepth 100000 in
set_option maxHeartbeats 400000 in
/-- GetName of eight bytes, of which the first is no letter. -/
theorem getName_none (a : Option Addr) (cap : Nat) (l : List Int) (w : World) (hbs : Bs w a cap l) (h8 : l.length = 8) (i z : Nat) (hi : First (fun j => (!ltr (l.getD j 0))) l.length i) (hz : First (fun j => ((l.drop i).getD j 0 != 0)) (l.drop i).length z) (h0 : i = 0) :
    Calls Tryz.prog 110 #[.slice a l.length cap] w fun e w' => e = .returned (.tuple #[.string ByteArray.empty, .iface 61 (.int .i64 2)]) ∧ Below w.heap.size w w' := by
  have hi8 : i ≤ l.length := hi.1
  have hl : l.length ≤ 140737488351232 := by omega
  have ht1 : ((l.length : Int) != 8) = false := by simp; omega
  obtain ⟨a2, hsl, hbs2⟩ := slice_lo Tryz.underlying22 size_u8 hbs i (by omega)
  have ht2 : ((i : Int) == 0) = true := by simp [h0]
  have H0 := hide h0
  clear h0
  have HI := hide hi
  have HZ := hide hz
  have HL : Hid ((l.drop i).length = l.length - i) := hide (by simp)
  clear hi hz h8
  go_enter Tryz.func110, Tryz.ntmps110
  go_wp2_with fail
  refine (ahead_getName1_fn _ a cap l.length l _ rfl (hbs.below ((Below.refl _ _).alloc (Nat.le_refl _) _)) (by simp) i (unhide HI)).mono ?_
  rintro e w1 ⟨rfl, rfl⟩
  go_wp2_with fail
  refine (ahead_getName2_fn _ a2 (cap - i) (l.length - i) (l.drop i) _ (unhide HL) (hbs2.below (((Below.refl _ _).alloc (Nat.le_refl _) _).alloc (by simp) _)) (by simp) z (unhide HZ)).mono ?_
  rintro e w1 ⟨rfl, rfl⟩
  go_wp2
  go_ret2
  exact ⟨rfl, (((Below.refl _ _).alloc (Nat.le_refl _) _).alloc (by simp) _)⟩

set_option maxRecDepth 100000 in
set_option maxHeartbeats 400000 in
/-- GetName of eight bytes: i letters stand ahead, and behind them there are others than zeros. -/
theorem getName_more (a : Option Addr) (cap : Nat) (l : List Int) (w : World) (hbs : Bs w a cap l) (h8 : l.length = 8) (i z : Nat) (hi : First (fun j => (!ltr (l.getD j 0))) l.length i) (hz : First (fun j => ((l.drop i).getD j 0 != 0)) (l.drop i).length z) (h0 : ¬ i = 0) (hlt : z < l.length - i) :
    Calls Tryz.prog 110 #[.slice a l.length cap] w fun e w' => e = .returned (.tuple #[.string ByteArray.empty, .iface 61 (.int .i64 2)]) ∧ Below w.heap.size w w' := by
  have hi8 : i ≤ l.length := hi.1
  have hl : l.length ≤ 140737488351232 := by omega
  have ht1 : ((l.length : Int) != 8) = false := by simp; omega
  obtain ⟨a2, hsl, hbs2⟩ := slice_lo Tryz.underlying22 size_u8 hbs i (by omega)
  have ht2 : ((i : Int) == 0) = false := by simp [h0]
  have H0 := hide h0
  clear h0
  have HI := hide hi
  have HZ := hide hz
  have HL : Hid ((l.drop i).length = l.length - i) := hide (by simp)
  clear hi hz h8
  go_enter Tryz.func110, Tryz.ntmps110
  go_wp2_with fail
  refine (ahead_getName1_fn _ a cap l.length l _ rfl (hbs.below ((Below.refl _ _).alloc (Nat.le_refl _) _)) (by simp) i (unhide HI)).mono ?_
  rintro e w1 ⟨rfl, rfl⟩
  go_wp2_with fail
  refine (ahead_getName2_fn _ a2 (cap - i) (l.length - i) (l.drop i) _ (unhide HL) (hbs2.below (((Below.refl _ _).alloc (Nat.le_refl _) _).alloc (by simp) _)) (by simp) z (unhide HZ)).mono ?_
  rintro e w1 ⟨rfl, rfl⟩
  go_wp2
  go_ret2
  exact ⟨rfl, (((Below.refl _ _).alloc (Nat.le_refl _) _).alloc (by simp) _)⟩

set_option maxRecDepth 100000 in
set_option maxHeartbeats 400000 in
/-- GetName of eight bytes: i letters stand ahead, and behind them only zeros. -/
theorem getName_yes (a : Option Addr) (cap : Nat) (l : List Int) (w : World) (hbs : Bs w a cap l) (h8 : l.length = 8) (i z : Nat) (hi : First (fun j => (!ltr (l.getD j 0))) l.length i) (hz : First (fun j => ((l.drop i).getD j 0 != 0)) (l.drop i).length z) (h0 : ¬ i = 0) (hge : l.length - i ≤ z) :
    Calls Tryz.prog 110 #[.slice a l.length cap] w fun e w' => e = .returned (.tuple #[.string (strOf (l.take i)), .nilIface]) ∧ Below w.heap.size w w' := by
  have hi8 : i ≤ l.length := hi.1
  have hl : l.length ≤ 140737488351232 := by omega
  have ht1 : ((l.length : Int) != 8) = false := by simp; omega
  obtain ⟨a2, hsl, hbs2⟩ := slice_lo Tryz.underlying22 size_u8 hbs i (by omega)
  have ht2 : ((i : Int) == 0) = false := by simp [h0]
  obtain ⟨a3, hsh, hbs3⟩ := slice_hi Tryz.underlying22 size_u8 hbs i (by omega)
  have hcv := fun o1 o2 => conv_str (P := Tryz.prog) (t := 22) (e := 9) Tryz.underlying22 Tryz.underlying5 Tryz.underlying9 (hbs3.below (w' := (w.alloc o1).alloc o2) (((Below.refl _ _).alloc (Nat.le_refl _) _).alloc (by simp) _))
  rw [show (l.take i).length = i from by simp; omega] at hcv
  have H0 := hide h0
  clear h0
  have HI := hide hi
  have HZ := hide hz
  have HL : Hid ((l.drop i).length = l.length - i) := hide (by simp)
  clear hi hz h8
  go_enter Tryz.func110, Tryz.ntmps110
  go_wp2_with fail
  refine (ahead_getName1_fn _ a cap l.length l _ rfl (hbs.below ((Below.refl _ _).alloc (Nat.le_refl _) _)) (by simp) i (unhide HI)).mono ?_
  rintro e w1 ⟨rfl, rfl⟩
  go_wp2_with fail
  refine (ahead_getName2_fn _ a2 (cap - i) (l.length - i) (l.drop i) _ (unhide HL) (hbs2.below (((Below.refl _ _).alloc (Nat.le_refl _) _).alloc (by simp) _)) (by simp) z (unhide HZ)).mono ?_
  rintro e w1 ⟨rfl, rfl⟩
  go_wp2
  go_ret2
  exact ⟨rfl, (((Below.refl _ _).alloc (Nat.le_refl _) _).alloc (by simp) _)⟩
end Go.Proofs.YtmkkiedohphpcaaGreatDoor
