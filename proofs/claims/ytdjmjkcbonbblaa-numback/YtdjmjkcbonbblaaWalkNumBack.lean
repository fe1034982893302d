/-
  The walk of the law NumBack. (Part of the proof of NumBack.)
-/
import Derived.Test.YtdjmjkcbonbblaaNumPlain
namespace Go.Proofs.Ytdjmjkcbonbblaa
open Go.RowKit
set_option linter.unusedVariables false

theorem blk_new (w : World) (l : List Int) : Blk (w.alloc (.cells (l.map (Value.int .u8)).toArray 5)) w.heap.size l := heap_alloc_new _ _

theorem get_513 (w : World) : Calls Try.prog 7 #[.slice (some ⟨w.heap.size, 0, none⟩) 2 2, .int .i64 0, .int .i64 2] (w.alloc (.cells #[.int .u8 1, .int .u8 2] 5)) fun e w' => e = .returned (.tuple #[.int .i64 513, .nilIface]) ∧ w.alloc (.cells #[.int .u8 1, .int .u8 2] 5) = w' := by
  have hb : Byt [1, 2] := by intro z hz; simp at hz; omega
  exact get_yes (some ⟨w.heap.size, 0, none⟩) 2 [1, 2] 0 2 _ ((blk_new w [1, 2]).bs hb (by decide)) (by decide) (by decide) (by decide) (by decide)

theorem nb_no_no (a0 : Option Addr) (cap0 : Nat) (l0 : List Int) (a1 a2 a3 : Int) (a4 : ByteArray) (w : World) (hl : l0.length ≤ 140737488351232) (b4 : a4.size ≤ 140737488351232) (hp : ¬ PutOk l0.length a1 a2 a3) (hn : ¬ NameOk a4) :
    Calls Try.prog 4 #[.slice a0 l0.length cap0, .int .i64 a1, .int .i64 a2, .int .i64 a3, .string a4] w fun e w' => e = .returned (.bool true) ∧ Below w.heap.size w w' := by
  have HP := hide hp
  have HN := hide hn
  clear hp hn
  go_enter Try.func4, Try.ntmps4
  go_wp2_with fail
  refine (get_513 w).mono ?_
  rintro e w1 ⟨rfl, rfl⟩
  go_wp2_with fail
  refine (put_fail _ _ _ _ _ _ _ (by omega) (unhide HP)).mono ?_
  rintro e w1 ⟨k, rfl, rfl⟩
  go_wp2_with fail
  refine (putName_fail _ _ b4 (unhide HN)).mono ?_
  rintro e w1 ⟨rfl, hb1⟩
  go_wp2
  go_ret
  exact ⟨rfl, ((Below.refl _ _).alloc (Nat.le_refl _) _).trans (hb1.mono (by simp))⟩

theorem nb_no_yes (a0 : Option Addr) (cap0 : Nat) (l0 : List Int) (a1 a2 a3 : Int) (a4 : ByteArray) (w : World) (hl : l0.length ≤ 140737488351232) (b4 : a4.size ≤ 140737488351232) (hp : ¬ PutOk l0.length a1 a2 a3) (hn : NameOk a4) :
    Calls Try.prog 4 #[.slice a0 l0.length cap0, .int .i64 a1, .int .i64 a2, .int .i64 a3, .string a4] w fun e w' => e = .returned (.bool true) ∧ Below w.heap.size w w' := by
  have HP := hide hp
  have HN := hide hn
  clear hp hn
  go_enter Try.func4, Try.ntmps4
  go_wp2_with fail
  refine (get_513 w).mono ?_
  rintro e w1 ⟨rfl, rfl⟩
  go_wp2_with fail
  refine (put_fail _ _ _ _ _ _ _ (by omega) (unhide HP)).mono ?_
  rintro e w1 ⟨k, rfl, rfl⟩
  go_wp2_with fail
  refine (putName_yes _ _ (unhide HN).1 (unhide HN).2.1 (unhide HN).2.2).mono ?_
  rintro e w1 ⟨g, rfl, hg, hk, hb1⟩
  go_wp2_with fail
  refine (getName_back _ _ _ (unhide HN) hk).mono ?_
  rintro e w2 ⟨rfl, hb2⟩
  go_wp2
  go_ret
  exact ⟨rfl, ((Below.refl _ _).alloc (Nat.le_refl _) _).trans ((hb1.mono (by simp)).trans (hb2.mono (by have := hb1.size; simp at this; omega)))⟩

set_option maxHeartbeats 1000000 in
theorem nb_yes_no (a0 : Option Addr) (cap0 : Nat) (l0 : List Int) (P S : Nat) (a2 : Int) (a4 : ByteArray) (w : World) (w0 : Bs w a0 cap0 l0) (b4 : a4.size ≤ 140737488351232) (hp : PutOk l0.length P a2 S) (hn : ¬ NameOk a4) :
    Calls Try.prog 4 #[.slice a0 l0.length cap0, .int .i64 P, .int .i64 a2, .int .i64 S, .string a4] w fun e w' => e = .returned (.bool true) ∧ Below w.heap.size w w' := by
  have hl : l0.length ≤ 140737488351232 := Nat.le_trans w0.2.1 w0.2.2.1
  have hPS : P + S ≤ l0.length := by obtain ⟨h1, h2, h3, h4, h5, h6⟩ := hp; omega
  have HP := hide hp
  have HN := hide hn
  clear hp hn
  go_enter Try.func4, Try.ntmps4
  go_wp2_with fail
  refine (get_513 w).mono ?_
  rintro e w1 ⟨rfl, rfl⟩
  go_wp2_with fail
  have hb0 : Below w.heap.size w (w.alloc (.cells #[.int .u8 1, .int .u8 2] 5)) := (Below.refl _ _).alloc (Nat.le_refl _) _
  refine (put_ok a0 cap0 l0 P S a2 _ (w0.below hb0) (unhide HP)).mono ?_
  rintro e w1 ⟨g, rfl, hg, hk, hb1⟩
  go_wp2_with fail
  refine (get_back l0 P S a2 g w1 hl w0.1 (unhide HP) hk).mono ?_
  rintro e w2 ⟨rfl, rfl⟩
  have hx := hk.bs (byt_putK w0.1 P a2 S) (by rw [length_putK]; exact hl)
  have hy := (w0.below hb0).below hb1
  obtain ⟨x1, hs1, bs1⟩ := slice_hi (P := Try.prog) Try.underlying26 size_u8 hx P (by rw [length_putK]; omega)
  obtain ⟨x2, hs2, bs2⟩ := slice_hi (P := Try.prog) Try.underlying26 size_u8 hy P (by omega)
  obtain ⟨x3, hs3, bs3⟩ := slice_lo (P := Try.prog) Try.underlying26 size_u8 hx (P + S) (by rw [length_putK]; omega)
  obtain ⟨x4, hs4, bs4⟩ := slice_lo (P := Try.prog) Try.underlying26 size_u8 hy (P + S) (by omega)
  rw [length_putK] at hs1 hs3
  rw [length_putK, putK_drop] at bs3
  rw [length_putK, putK_take] at bs1
  rw [Int.natCast_add] at hs3 hs4
  have cv1 := fun n => conv_str (P := Try.prog) (t := 26) (e := 9) Try.underlying26 Try.underlying5 Try.underlying9 (bs1.drewN n)
  have cv2 := fun n => conv_str (P := Try.prog) (t := 26) (e := 9) Try.underlying26 Try.underlying5 Try.underlying9 (bs2.drewN n)
  have cv3 := fun n => conv_str (P := Try.prog) (t := 26) (e := 9) Try.underlying26 Try.underlying5 Try.underlying9 (bs3.drewN n)
  have cv4 := fun n => conv_str (P := Try.prog) (t := 26) (e := 9) Try.underlying26 Try.underlying5 Try.underlying9 (bs4.drewN n)
  rw [show (l0.take P).length = P from by simp; omega] at cv1 cv2
  rw [show (l0.drop (P + S)).length = l0.length - (P + S) from by simp] at cv3 cv4
  generalize strOf (l0.take P) = s1 at *
  generalize strOf (l0.drop (P + S)) = s2 at *
  clear hx hy bs1 bs2 bs3 bs4
  go_wp2
  go_quiet (fail)
  go_wp2_with fail
  refine (putName_fail _ _ b4 (unhide HN)).mono ?_
  rintro e w2 ⟨rfl, hb2⟩
  go_wp2
  go_ret
  have hb3 : Below w.heap.size w w1 := hb0.trans (hb1.mono (by simp))
  have hz := hb3.size
  exact ⟨rfl, (below_drewN hb3 _).trans (hb2.mono (by exact hz))⟩

set_option maxHeartbeats 1000000 in
theorem nb_yes_yes (a0 : Option Addr) (cap0 : Nat) (l0 : List Int) (P S : Nat) (a2 : Int) (a4 : ByteArray) (w : World) (w0 : Bs w a0 cap0 l0) (b4 : a4.size ≤ 140737488351232) (hp : PutOk l0.length P a2 S) (hn : NameOk a4) :
    Calls Try.prog 4 #[.slice a0 l0.length cap0, .int .i64 P, .int .i64 a2, .int .i64 S, .string a4] w fun e w' => e = .returned (.bool true) ∧ Below w.heap.size w w' := by
  have hl : l0.length ≤ 140737488351232 := Nat.le_trans w0.2.1 w0.2.2.1
  have hPS : P + S ≤ l0.length := by obtain ⟨h1, h2, h3, h4, h5, h6⟩ := hp; omega
  have HP := hide hp
  have HN := hide hn
  clear hp hn
  go_enter Try.func4, Try.ntmps4
  go_wp2_with fail
  refine (get_513 w).mono ?_
  rintro e w1 ⟨rfl, rfl⟩
  go_wp2_with fail
  have hb0 : Below w.heap.size w (w.alloc (.cells #[.int .u8 1, .int .u8 2] 5)) := (Below.refl _ _).alloc (Nat.le_refl _) _
  refine (put_ok a0 cap0 l0 P S a2 _ (w0.below hb0) (unhide HP)).mono ?_
  rintro e w1 ⟨g, rfl, hg, hk, hb1⟩
  go_wp2_with fail
  refine (get_back l0 P S a2 g w1 hl w0.1 (unhide HP) hk).mono ?_
  rintro e w2 ⟨rfl, rfl⟩
  have hx := hk.bs (byt_putK w0.1 P a2 S) (by rw [length_putK]; exact hl)
  have hy := (w0.below hb0).below hb1
  obtain ⟨x1, hs1, bs1⟩ := slice_hi (P := Try.prog) Try.underlying26 size_u8 hx P (by rw [length_putK]; omega)
  obtain ⟨x2, hs2, bs2⟩ := slice_hi (P := Try.prog) Try.underlying26 size_u8 hy P (by omega)
  obtain ⟨x3, hs3, bs3⟩ := slice_lo (P := Try.prog) Try.underlying26 size_u8 hx (P + S) (by rw [length_putK]; omega)
  obtain ⟨x4, hs4, bs4⟩ := slice_lo (P := Try.prog) Try.underlying26 size_u8 hy (P + S) (by omega)
  rw [length_putK] at hs1 hs3
  rw [length_putK, putK_drop] at bs3
  rw [length_putK, putK_take] at bs1
  rw [Int.natCast_add] at hs3 hs4
  have cv1 := fun n => conv_str (P := Try.prog) (t := 26) (e := 9) Try.underlying26 Try.underlying5 Try.underlying9 (bs1.drewN n)
  have cv2 := fun n => conv_str (P := Try.prog) (t := 26) (e := 9) Try.underlying26 Try.underlying5 Try.underlying9 (bs2.drewN n)
  have cv3 := fun n => conv_str (P := Try.prog) (t := 26) (e := 9) Try.underlying26 Try.underlying5 Try.underlying9 (bs3.drewN n)
  have cv4 := fun n => conv_str (P := Try.prog) (t := 26) (e := 9) Try.underlying26 Try.underlying5 Try.underlying9 (bs4.drewN n)
  rw [show (l0.take P).length = P from by simp; omega] at cv1 cv2
  rw [show (l0.drop (P + S)).length = l0.length - (P + S) from by simp] at cv3 cv4
  generalize strOf (l0.take P) = s1 at *
  generalize strOf (l0.drop (P + S)) = s2 at *
  clear hx hy bs1 bs2 bs3 bs4
  go_wp2
  go_quiet (fail)
  go_wp2_with fail
  refine (putName_yes _ _ (unhide HN).1 (unhide HN).2.1 (unhide HN).2.2).mono ?_
  rintro e w2 ⟨g2, rfl, hg2, hk2, hb2⟩
  go_wp2_with fail
  refine (getName_back _ _ _ (unhide HN) hk2).mono ?_
  rintro e w3 ⟨rfl, hb3⟩
  go_wp2
  go_ret
  have hb4 : Below w.heap.size w w1 := hb0.trans (hb1.mono (by simp))
  have hz := hb4.size
  have hz2 : w1.heap.size ≤ w2.heap.size := hb2.size
  exact ⟨rfl, (below_drewN hb4 _).trans ((hb2.mono (by exact hz)).trans (hb3.mono (by omega)))⟩

theorem walkNumBack (a0 : Option Addr) (cap0 : Nat) (l0 : List Int) (a1 a2 a3 : Int) (a4 : ByteArray) (w : World) (w0 : Bs w a0 cap0 l0) (b1 : -9223372036854775808 ≤ a1 ∧ a1 ≤ 9223372036854775807) (b2 : -9223372036854775808 ≤ a2 ∧ a2 ≤ 9223372036854775807) (b3 : -9223372036854775808 ≤ a3 ∧ a3 ≤ 9223372036854775807) (b4 : a4.size ≤ 140737488351232) :
    Calls Try.prog 4 #[.slice a0 l0.length cap0, .int .i64 a1, .int .i64 a2, .int .i64 a3, .string a4] w fun e w' => e = .returned (.bool true) ∧ Below w.heap.size w w' := by
  have hl : l0.length ≤ 140737488351232 := Nat.le_trans w0.2.1 w0.2.2.1
  by_cases hp : PutOk l0.length a1 a2 a3
  · obtain ⟨P, rfl⟩ := Int.eq_ofNat_of_zero_le hp.2.2.2.2.1
    obtain ⟨S, rfl⟩ := Int.eq_ofNat_of_zero_le (show 0 ≤ a3 from by have := hp.1; omega)
    by_cases hn : NameOk a4
    · exact nb_yes_yes a0 cap0 l0 P S a2 a4 w w0 b4 hp hn
    · exact nb_yes_no a0 cap0 l0 P S a2 a4 w w0 b4 hp hn
  · by_cases hn : NameOk a4
    · exact nb_no_yes a0 cap0 l0 a1 a2 a3 a4 w hl b4 hp hn
    · exact nb_no_no a0 cap0 l0 a1 a2 a3 a4 w hl b4 hp hn
end Go.Proofs.Ytdjmjkcbonbblaa
