/-
  Contracts of package diff: whether bytes open with others; one change, made in a row of one's own. (Part of the proofs over package diff.)
-/
import Derived.Test.YtbohnnflddfidaaDfB
import Derived.Test.YtbohnnflddfidaaImC
import Derived.Test.YtbohnnflddfidaaStrEq
namespace Go.Proofs.Ytbohnnflddfidaa
open Go.RowKit
set_option linter.unusedVariables false

set_option maxHeartbeats 1000000 in
theorem hasPrefix_le (a a' : Option Addr) (cap cap' : Nat) (l m : List Int) (w : World) (hb : Bs w a cap l) (hb' : Bs w a' cap' m) (hle : m.length ≤ l.length) :
    Calls Try.prog 31 #[.slice a l.length cap, .slice a' m.length cap'] w fun e w' => e = .returned (.bool (decide (l.take m.length = m))) ∧ w = w' := by
  have h1 := hb.2.2.1
  obtain ⟨a1, hs, hx⟩ := slice_hi (P := Try.prog) Try.underlying22 size_u8 hb m.length hle
  have HE := hide (bytesEq_any a1 a' cap cap' (l.take m.length) m w hx hb')
  have hl : (l.take m.length).length = m.length := by rw [List.length_take]; omega
  rw [hl] at HE
  generalize decide (l.take m.length = m) = r at *
  generalize l.length = n at *
  generalize m.length = k at *
  have hd : decide ((k : Int) ≤ (n : Int)) = true := decide_eq_true (by omega)
  clear hb hb' hx hl
  go_enter Try.func31, Try.ntmps31
  go_wp2_with (go_at_call 43; refine (unhide HE).mono ?_; rintro e w2 ⟨rfl, rfl⟩)
  go_ret
  exact ⟨rfl, rfl⟩

/-- A change as a value. -/
def chV (x : Int) (a1 : Option Addr) (n1 c1 : Nat) (a2 : Option Addr) (n2 c2 : Nat) : Value := .agg #[.int .i64 x, .slice a1 n1 c1, .slice a2 n2 c2]
theorem OwnV.row {w : World} {B : Nat} {a : Option Addr} {cap : Nat} {L : List Int} (h : OwnV w B (.slice a L.length cap) L) (hne : L ≠ []) : ∃ g cur, a = some ⟨g, 0, none⟩ ∧ Row w B g cap cur L ∧ cap ≤ maxLen := by
  rcases h.2 with ⟨_, h0⟩ | ⟨g, c, cur, hv, hb, h2, h3, h4, h5, h6⟩
  · exact absurd (List.eq_nil_of_length_eq_zero h0) hne
  · simp only [Value.slice.injEq, true_and] at hv
    obtain ⟨rfl, rfl⟩ := hv
    exact ⟨g, cur, rfl, ⟨hb, h2, h3, by omega, by rw [Nat.mul_one] at h6; exact h6⟩, h4⟩
theorem drop_min (L : List Int) (x : Nat) : L.drop (min x L.length) = L.drop x := by
  rcases Nat.le_total x L.length with h | h
  · rw [Nat.min_eq_left h]
  · rw [Nat.min_eq_right h, List.drop_length, List.drop_eq_nil_of_le h]
theorem splice_none (L : List Int) (x : Nat) : splice L x [] = L := by
  unfold splice
  simp

set_option maxRecDepth 100000 in
theorem change_neg (a a1 a2 : Option Addr) (cap n c1 n1 c2 n2 : Nat) (x : Int) (w : World) (hx : x < 0) :
    Calls Try.prog 16 #[.slice a n cap, chV x a1 n1 c1 a2 n2 c2] w fun e w' => e = .returned (errV 1) ∧ Below w.heap.size w w' := by
  have HB := hide ((Below.refl _ w).alloc (Nat.le_refl _) (.cells #[.int .i64 x, .slice a1 n1 c1, .slice a2 n2 c2] 29))
  unfold chV
  go_enter Try.func16, Try.ntmps16
  go_wp2
  go_ret
  exact ⟨rfl, unhide HB⟩
set_option maxRecDepth 100000 in
set_option maxHeartbeats 1000000 in
theorem change_short_lo (a a1 a2 : Option Addr) (cap c1 c2 : Nat) (L O N : List Int) (X : Nat) (w : World) (hb : Bs w a cap L) (h1 : Bs w a1 c1 O) (h2 : Bs w a2 c2 N) (hX : X ≤ L.length) (hO : L.length - X < O.length) :
    Calls Try.prog 16 #[.slice a L.length cap, chV X a1 O.length c1 a2 N.length c2] w fun e w' => e = .returned (errV 1) ∧ Below w.heap.size w w' := by
  have hLl := hb.2.2.1
  have hOl := h1.2.2.1
  have hNl := h2.2.2.1
  have HB := hide ((Below.refl _ w).alloc (Nat.le_refl _) (.cells #[.int .i64 X, .slice a1 O.length c1, .slice a2 N.length c2] 29))
  obtain ⟨a3, hs3, hx3⟩ := slice_lo (P := Try.prog) Try.underlying22 size_u8 hb (X) (by omega)
  have hdr : L.drop (X) = L.drop X := by rfl
  rw [hdr] at hx3
  unfold chV
  have hO2 : L.length - X < O.length := by omega
  generalize L.length = n at *
  generalize O.length = o at *
  generalize N.length = k at *
  have hXi : (X : Int) ≤ (n : Int) := by omega
  clear hb h1 h2 hx3 hdr
  have t1 : decide (((n - X : Nat) : Int) < (o : Int)) = true := decide_eq_true (by omega)
  go_enter Try.func16, Try.ntmps16
  go_wp2
  go_ret
  exact ⟨rfl, unhide HB⟩
set_option maxRecDepth 100000 in
set_option maxHeartbeats 1000000 in
theorem change_short_hi (a a1 a2 : Option Addr) (cap c1 c2 : Nat) (L O N : List Int) (X : Nat) (w : World) (hb : Bs w a cap L) (h1 : Bs w a1 c1 O) (h2 : Bs w a2 c2 N) (hX : L.length < X) (hO : L.length - X < O.length) :
    Calls Try.prog 16 #[.slice a L.length cap, chV X a1 O.length c1 a2 N.length c2] w fun e w' => e = .returned (errV 1) ∧ Below w.heap.size w w' := by
  have hLl := hb.2.2.1
  have hOl := h1.2.2.1
  have hNl := h2.2.2.1
  have HB := hide ((Below.refl _ w).alloc (Nat.le_refl _) (.cells #[.int .i64 X, .slice a1 O.length c1, .slice a2 N.length c2] 29))
  obtain ⟨a3, hs3, hx3⟩ := slice_lo (P := Try.prog) Try.underlying22 size_u8 hb (L.length) (by omega)
  have hdr : L.drop (L.length) = L.drop X := by rw [List.drop_length, List.drop_eq_nil_of_le (by omega)]
  rw [hdr] at hx3
  unfold chV
  have hO2 : L.length - L.length < O.length := by omega
  generalize L.length = n at *
  generalize O.length = o at *
  generalize N.length = k at *
  have hXi : (n : Int) < (X : Int) := by omega
  clear hb h1 h2 hx3 hdr
  have t1 : decide (((n - n : Nat) : Int) < (o : Int)) = true := decide_eq_true (by omega)
  go_enter Try.func16, Try.ntmps16
  go_wp2
  go_ret
  exact ⟨rfl, unhide HB⟩
set_option maxRecDepth 100000 in
set_option maxHeartbeats 1000000 in
theorem change_unlike_lo (a a1 a2 : Option Addr) (cap c1 c2 : Nat) (L O N : List Int) (X : Nat) (w : World) (hb : Bs w a cap L) (h1 : Bs w a1 c1 O) (h2 : Bs w a2 c2 N) (hX : X ≤ L.length) (hO : ¬ L.length - X < O.length) (hN : O.length ≠ N.length) :
    Calls Try.prog 16 #[.slice a L.length cap, chV X a1 O.length c1 a2 N.length c2] w fun e w' => e = .returned (errV 3) ∧ Below w.heap.size w w' := by
  have hLl := hb.2.2.1
  have hOl := h1.2.2.1
  have hNl := h2.2.2.1
  have HB := hide ((Below.refl _ w).alloc (Nat.le_refl _) (.cells #[.int .i64 X, .slice a1 O.length c1, .slice a2 N.length c2] 29))
  obtain ⟨a3, hs3, hx3⟩ := slice_lo (P := Try.prog) Try.underlying22 size_u8 hb (X) (by omega)
  have hdr : L.drop (X) = L.drop X := by rfl
  rw [hdr] at hx3
  unfold chV
  have hO2 : ¬ L.length - X < O.length := by omega
  generalize L.length = n at *
  generalize O.length = o at *
  generalize N.length = k at *
  have hXi : (X : Int) ≤ (n : Int) := by omega
  clear hb h1 h2 hx3 hdr
  have t1 : ¬ (((n - X : Nat) : Int) < (o : Int)) := by omega
  have t2 : ¬ ((o : Int) = (k : Int)) := by omega
  go_enter Try.func16, Try.ntmps16
  go_wp2
  go_ret
  exact ⟨rfl, unhide HB⟩
set_option maxRecDepth 100000 in
set_option maxHeartbeats 1000000 in
theorem change_unlike_hi (a a1 a2 : Option Addr) (cap c1 c2 : Nat) (L O N : List Int) (X : Nat) (w : World) (hb : Bs w a cap L) (h1 : Bs w a1 c1 O) (h2 : Bs w a2 c2 N) (hX : L.length < X) (hO : ¬ L.length - X < O.length) (hN : O.length ≠ N.length) :
    Calls Try.prog 16 #[.slice a L.length cap, chV X a1 O.length c1 a2 N.length c2] w fun e w' => e = .returned (errV 3) ∧ Below w.heap.size w w' := by
  have hLl := hb.2.2.1
  have hOl := h1.2.2.1
  have hNl := h2.2.2.1
  have HB := hide ((Below.refl _ w).alloc (Nat.le_refl _) (.cells #[.int .i64 X, .slice a1 O.length c1, .slice a2 N.length c2] 29))
  obtain ⟨a3, hs3, hx3⟩ := slice_lo (P := Try.prog) Try.underlying22 size_u8 hb (L.length) (by omega)
  have hdr : L.drop (L.length) = L.drop X := by rw [List.drop_length, List.drop_eq_nil_of_le (by omega)]
  rw [hdr] at hx3
  unfold chV
  have hO2 : ¬ L.length - L.length < O.length := by omega
  generalize L.length = n at *
  generalize O.length = o at *
  generalize N.length = k at *
  have hXi : (n : Int) < (X : Int) := by omega
  clear hb h1 h2 hx3 hdr
  have t1 : ¬ (((n - n : Nat) : Int) < (o : Int)) := by omega
  have t2 : ¬ ((o : Int) = (k : Int)) := by omega
  go_enter Try.func16, Try.ntmps16
  go_wp2
  go_ret
  exact ⟨rfl, unhide HB⟩
set_option maxRecDepth 100000 in
set_option maxHeartbeats 1000000 in
theorem change_state_lo (a a1 a2 : Option Addr) (cap c1 c2 : Nat) (L O N : List Int) (X : Nat) (w : World) (hb : Bs w a cap L) (h1 : Bs w a1 c1 O) (h2 : Bs w a2 c2 N) (hX : X ≤ L.length) (hO : ¬ L.length - X < O.length) (hN : O.length = N.length) (hS : ¬ (L.drop X).take O.length = O) :
    Calls Try.prog 16 #[.slice a L.length cap, chV X a1 O.length c1 a2 N.length c2] w fun e w' => e = .returned (errV 6) ∧ Below w.heap.size w w' := by
  have hLl := hb.2.2.1
  have hOl := h1.2.2.1
  have hNl := h2.2.2.1
  have HB := hide ((Below.refl _ w).alloc (Nat.le_refl _) (.cells #[.int .i64 X, .slice a1 O.length c1, .slice a2 N.length c2] 29))
  obtain ⟨a3, hs3, hx3⟩ := slice_lo (P := Try.prog) Try.underlying22 size_u8 hb (X) (by omega)
  have hdr : L.drop (X) = L.drop X := by rfl
  rw [hdr] at hx3
  have hln : (L.drop X).length = L.length - X := by rw [← hdr, List.length_drop]
  have HP := hide (hasPrefix_le a3 a1 (cap - X) c1 (L.drop X) O _ (hx3.below (unhide HB)) (h1.below (unhide HB)) (by rw [List.length_drop]; omega))
  rw [decide_eq_false hS, hln] at HP
  unfold chV
  have hO2 : ¬ L.length - X < O.length := by omega
  rw [← hN] at hNl HB HP ⊢
  generalize L.length = n at *
  generalize O.length = o at *
  have hXi : (X : Int) ≤ (n : Int) := by omega
  clear hb h1 h2 hx3 hdr hS hln hN
  have t1 : ¬ (((n - X : Nat) : Int) < (o : Int)) := by omega
  go_enter Try.func16, Try.ntmps16
  go_wp2_with (go_at_call 31; refine (unhide HP).mono ?_; rintro e w2 ⟨rfl, rfl⟩)
  go_ret
  exact ⟨rfl, unhide HB⟩
set_option maxRecDepth 100000 in
set_option maxHeartbeats 1000000 in
theorem change_none_lo (a a1 a2 : Option Addr) (cap c1 c2 : Nat) (L O N : List Int) (X : Nat) (w : World) (hb : Bs w a cap L) (h1 : Bs w a1 c1 O) (h2 : Bs w a2 c2 N) (hX : X ≤ L.length) (hO : ¬ L.length - X < O.length) (hN : N = []) (hON : O.length = N.length) (hS : (L.drop X).take O.length = O) :
    Calls Try.prog 16 #[.slice a L.length cap, chV X a1 O.length c1 a2 N.length c2] w fun e w' => e = .returned .nilIface ∧ Below w.heap.size w w' := by
  have hLl := hb.2.2.1
  have hOl := h1.2.2.1
  have hNl := h2.2.2.1
  have HB := hide ((Below.refl _ w).alloc (Nat.le_refl _) (.cells #[.int .i64 X, .slice a1 O.length c1, .slice a2 N.length c2] 29))
  obtain ⟨a3, hs3, hx3⟩ := slice_lo (P := Try.prog) Try.underlying22 size_u8 hb (X) (by omega)
  have hdr : L.drop (X) = L.drop X := by rfl
  rw [hdr] at hx3
  have hln : (L.drop X).length = L.length - X := by rw [← hdr, List.length_drop]
  have HP := hide (hasPrefix_le a3 a1 (cap - X) c1 (L.drop X) O _ (hx3.below (unhide HB)) (h1.below (unhide HB)) (by rw [List.length_drop]; omega))
  rw [decide_eq_true hS, hln] at HP
  unfold chV
  have hO2 : ¬ L.length - X < O.length := by omega
  subst hN
  obtain rfl : O = [] := List.eq_nil_of_length_eq_zero (by rw [hON]; rfl)
  have hcp : ∀ w', Sem.run Try.prog (Builtin.copy_ #[22, 22] 3 #[.slice a3 (L.length - X) (cap - X), .slice a2 0 c2]) w' = .ok (.int .i64 0) w' := fun w' => by
    have hrun := run_copy_none (P := Try.prog) w' 22 22 3 5 a3 a2 (L.length - X) (cap - X) 0 c2 Try.underlying22 size_u8 (by simp)
    simpa [goInt] using hrun
  simp only [List.length_nil] at *
  generalize L.length = n at *
  have hXi : (X : Int) ≤ (n : Int) := by omega
  clear hb h1 h2 hx3 hdr hS hln hON
  go_enter Try.func16, Try.ntmps16
  go_wp2_with (go_at_call 31; refine (unhide HP).mono ?_; rintro e w2 ⟨rfl, rfl⟩)
  go_ret
  exact ⟨rfl, unhide HB⟩
set_option maxRecDepth 100000 in
set_option maxHeartbeats 1000000 in
theorem change_none_hi (a a1 a2 : Option Addr) (cap c1 c2 : Nat) (L O N : List Int) (X : Nat) (w : World) (hb : Bs w a cap L) (h1 : Bs w a1 c1 O) (h2 : Bs w a2 c2 N) (hX : L.length < X) (hO : ¬ L.length - X < O.length) (hN : N = []) (hON : O.length = N.length) (hS : (L.drop X).take O.length = O) :
    Calls Try.prog 16 #[.slice a L.length cap, chV X a1 O.length c1 a2 N.length c2] w fun e w' => e = .returned .nilIface ∧ Below w.heap.size w w' := by
  have hLl := hb.2.2.1
  have hOl := h1.2.2.1
  have hNl := h2.2.2.1
  have HB := hide ((Below.refl _ w).alloc (Nat.le_refl _) (.cells #[.int .i64 X, .slice a1 O.length c1, .slice a2 N.length c2] 29))
  obtain ⟨a3, hs3, hx3⟩ := slice_lo (P := Try.prog) Try.underlying22 size_u8 hb (L.length) (by omega)
  have hdr : L.drop (L.length) = L.drop X := by rw [List.drop_length, List.drop_eq_nil_of_le (by omega)]
  rw [hdr] at hx3
  have hln : (L.drop X).length = L.length - L.length := by rw [← hdr, List.length_drop]
  have HP := hide (hasPrefix_le a3 a1 (cap - L.length) c1 (L.drop X) O _ (hx3.below (unhide HB)) (h1.below (unhide HB)) (by rw [List.length_drop]; omega))
  rw [decide_eq_true hS, hln] at HP
  unfold chV
  have hO2 : ¬ L.length - L.length < O.length := by omega
  subst hN
  obtain rfl : O = [] := List.eq_nil_of_length_eq_zero (by rw [hON]; rfl)
  have hcp : ∀ w', Sem.run Try.prog (Builtin.copy_ #[22, 22] 3 #[.slice a3 (L.length - L.length) (cap - L.length), .slice a2 0 c2]) w' = .ok (.int .i64 0) w' := fun w' => by
    have hrun := run_copy_none (P := Try.prog) w' 22 22 3 5 a3 a2 (L.length - L.length) (cap - L.length) 0 c2 Try.underlying22 size_u8 (by simp)
    simpa [goInt] using hrun
  simp only [List.length_nil] at *
  rw [Nat.sub_self] at HP
  simp only [Nat.sub_self] at hs3 hcp
  generalize L.length = n at *
  have hXi : (n : Int) < (X : Int) := by omega
  clear hb h1 h2 hx3 hdr hS hln hON
  go_enter Try.func16, Try.ntmps16
  go_wp2_with (go_at_call 31; refine (unhide HP).mono ?_; rintro e w2 ⟨rfl, rfl⟩)
  go_ret
  exact ⟨rfl, unhide HB⟩
set_option maxRecDepth 100000 in
set_option maxHeartbeats 1000000 in
theorem change_some (a a1 a2 : Option Addr) (cap c1 c2 : Nat) (L O N : List Int) (X B : Nat) (w : World) (ho : OwnV w B (.slice a L.length cap) L) (hby : Byt L) (hLl : L.length ≤ 140737488351232) (h1 : Bs w a1 c1 O) (h2 : Bs w a2 c2 N) (hB : B ≤ w.heap.size) (hO : ¬ L.length - X < O.length) (hN : N ≠ []) (hON : O.length = N.length) (hS : (L.drop X).take O.length = O) :
    Calls Try.prog 16 #[.slice a L.length cap, chV X a1 O.length c1 a2 N.length c2] w fun e w' => e = .returned .nilIface ∧ OwnV w' B (.slice a L.length cap) (splice L X N) ∧ Below B w w' := by
  have hpos : 0 < N.length := by
    cases N with
    | nil => exact absurd rfl hN
    | cons _ _ => simp
  have hXL : X < L.length := by omega
  obtain ⟨g, cur, rfl, hrow, hmax⟩ := ho.row (by intro e; rw [e] at hXL; simp at hXL)
  have hOl := h1.2.2.1
  have hNl := h2.2.2.1
  have hcap := hrow.2.2.1
  have hglt : g < w.heap.size := (Array.getElem?_eq_some_iff.1 hrow.2.1).1
  have HB := hide ((Below.refl _ w).alloc (Nat.le_refl _) (.cells #[.int .i64 X, .slice a1 O.length c1, .slice a2 N.length c2] 29))
  have hs3 := cut_row (P := Try.prog) Try.underlying22 size_u8 g cap L.length X (by omega) hcap (by omega)
  have hx3 : Bs w (some ⟨g, X, none⟩) (cap - X) (L.drop X) := by
    have hb := hrow.bs hby hLl
    obtain ⟨b, off, e, hc⟩ := hb.2.2.2.2 (by intro e; rw [e] at hXL; simp at hXL)
    simp only [Option.some.injEq, Addr.mk.injEq, and_true] at e
    obtain ⟨rfl, rfl⟩ := e
    refine ⟨fun z hz => hby z (List.mem_of_mem_drop hz), by rw [List.length_drop]; omega, by rw [List.length_drop]; omega, fun e => (by cases e), fun _ => ⟨g, X, rfl, fun i hi => ?_⟩⟩
    rw [List.length_drop] at hi
    have := hc (X + i) (by omega)
    rw [Nat.zero_add] at this
    rw [this]
    simp [List.getD]
  have hrowA : Row (w.alloc (.cells #[.int .i64 X, .slice a1 O.length c1, .slice a2 N.length c2] 29)) B g cap cur L := ⟨hrow.1, (heap_alloc_old _ _ hglt).trans hrow.2.1, hrow.2.2.1, hrow.2.2.2.1, hrow.2.2.2.2⟩
  have hln : (L.drop X).length = L.length - X := by rw [List.length_drop]
  have HP := hide (hasPrefix_le (some ⟨g, X, none⟩) a1 (cap - X) c1 (L.drop X) O _ (hx3.below (unhide HB)) (h1.below (unhide HB)) (by rw [List.length_drop]; omega))
  rw [decide_eq_true hS, hln] at HP
  have hcp : Sem.run Try.prog (Builtin.copy_ #[22, 22] 3 #[.slice (some ⟨g, X, none⟩) (L.length - X) (cap - X), .slice a2 N.length c2]) (w.alloc (.cells #[.int .i64 X, .slice a1 O.length c1, .slice a2 N.length c2] 29)) = .ok (.int .i64 N.length) (laidW (w.alloc (.cells #[.int .i64 X, .slice a1 O.length c1, .slice a2 N.length c2] 29)) g cur X N) :=
    run_copy_laid _ _ _ _ Try.underlying22 size_u8 _ g X _ _ cap cur a2 c2 L N (by omega) hN (by omega) hrowA (h2.below (unhide HB))
  have HFIN := hide (show OwnV (laidW (w.alloc (.cells #[.int .i64 X, .slice a1 O.length c1, .slice a2 N.length c2] 29)) g cur X N) B (.slice (some ⟨g, 0, none⟩) L.length cap) (splice L X N) from by
    have := (laidW_row (r := N) (off := X) hrowA (by omega)).own hmax
    unfold Own at this
    unfold OwnV
    rw [length_splice (by omega)] at this ⊢
    exact this)
  have HFB := hide (laidW_below (cur := cur) (l := N) (off := X) ((unhide HB).mono hB) hrow.1)
  unfold chV
  rw [hON] at hOl HB HP hcp HFIN HFB ⊢
  have hO2 : ¬ (((L.length - X : Nat) : Int) < (N.length : Int)) := by omega
  have hXi : (X : Int) ≤ (L.length : Int) := by omega
  generalize hLn : L.length = n at *
  generalize hNn : N.length = k at *
  clear hx3 hrowA hrow ho h1 h2 hS hln hON HB hNn hLn
  go_enter Try.func16, Try.ntmps16
  go_wp2_with (go_at_call 31; refine (unhide HP).mono ?_; rintro e w2 ⟨rfl, rfl⟩)
  go_ret
  exact ⟨rfl, unhide HFIN, unhide HFB⟩
end Go.Proofs.Ytbohnnflddfidaa
