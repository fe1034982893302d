/-
  Plain facts on numbers and names as bytes, and what num.Put, num.PutName answer where they refuse. (Part of the proofs of NumBack, NumLow, NumTells.)
-/
import Derived.Test.YtllpeknpplpgeaaGreatDoorNumName
import Derived.Test.YtllpeknpplpgeaaGreatDoorNumGet
import Derived.Test.YtllpeknpplpgeaaGreatDoorNumList
namespace Go.Proofs.YtllpeknpplpgeaaGreatDoor
open Go.RowKit
set_option linter.unusedVariables false

/-! ### Where Put, PutName refuse -/
def PutOk (len : Nat) (p n s : Int) : Prop := 1 ≤ s ∧ s ≤ 4 ∧ 0 ≤ n ∧ n ≤ most s ∧ 0 ≤ p ∧ p ≤ len - s

theorem put_fail (a : Option Addr) (len cap : Nat) (p n s : Int) (w : World) (hl : len ≤ 140737488355328) (h : ¬ PutOk len p n s) :
    Calls Tryz.prog 68 #[.slice a len cap, .int .i64 p, .int .i64 n, .int .i64 s] w fun e w' => ∃ k, e = .returned (.tuple #[.slice none 0 0, .iface 63 (.int .i64 k)]) ∧ w = w' := by
  by_cases h1 : 1 ≤ s ∧ s ≤ 4
  · by_cases h2 : n < 0
    · exact (put_neg a len cap p n s w h1.1 h1.2 h2).mono fun e w' ⟨he, hw⟩ => ⟨_, he, hw⟩
    · by_cases h3 : most s < n
      · exact (put_most a len cap p n s w h1.1 h1.2 h2 h3).mono fun e w' ⟨he, hw⟩ => ⟨_, he, hw⟩
      · by_cases h4 : 0 ≤ p ∧ p ≤ len - s
        · exact absurd ⟨h1.1, h1.2, by omega, by omega, h4.1, h4.2⟩ h
        · exact (put_shape a len cap p n s w hl h1.1 h1.2 h2 h3 h4).mono fun e w' ⟨he, hw⟩ => ⟨_, he, hw⟩
  · exact (put_size a len cap p n s w h1).mono fun e w' ⟨he, hw⟩ => ⟨_, he, hw⟩

def NameOk (s : ByteArray) : Prop := 1 ≤ s.size ∧ s.size ≤ 8 ∧ First (fun j => (!ltr ((strL s).getD j 0))) s.size s.size

theorem putName_fail (s : ByteArray) (w : World) (hs : s.size ≤ 140737488351232) (h : ¬ NameOk s) :
    Calls Tryz.prog 44 #[.string s] w fun e w' => e = .returned (.tuple #[.slice none 0 0, .iface 63 (.int .i64 2)]) ∧ Below w.heap.size w w' := by
  by_cases h1 : 1 ≤ s.size ∧ s.size ≤ 8
  · have hf := first_fstN (fun j => (!ltr ((strL s).getD j 0))) s.size
    by_cases h2 : fstN (fun j => (!ltr ((strL s).getD j 0))) s.size < s.size
    · exact putName_no s w h1.1 h1.2 _ hf h2
    · have h3 : fstN (fun j => (!ltr ((strL s).getD j 0))) s.size = s.size := by have := hf.1; omega
      rw [h3] at hf
      exact absurd ⟨h1.1, h1.2, hf⟩ h
  · exact putName_len s w hs h1

theorem nameL_lo (s : ByteArray) (j : Nat) (h : j < s.size) : (nameL s).getD j 0 = (strL s).getD j 0 := by
  have h' : j < (strL s).length := by rw [length_strL]; exact h
  simp [nameL, List.getD, List.getElem?_append_left h']

theorem nameL_drop (s : ByteArray) : (nameL s).drop s.size = (zerosB 8).drop s.size := by
  unfold nameL
  rw [List.drop_append_of_le_length (by rw [length_strL]; exact Nat.le_refl _)]
  rw [List.drop_eq_nil_of_le (by rw [length_strL]; exact Nat.le_refl _)]
  simp

theorem zeros_getD (n k j : Nat) : ((zerosB n).drop k).getD j 0 = 0 := by
  by_cases h : j < n - k
  · simp [zerosB, List.getD, h]
  · simp [zerosB, List.getD]
    rw [List.getElem?_eq_none (by simp; omega)]
    rfl

theorem nameL_hi (s : ByteArray) (j : Nat) (h : s.size ≤ j) : (nameL s).getD j 0 = 0 := by
  have h1 : (nameL s).getD j 0 = ((nameL s).drop s.size).getD (j - s.size) 0 := by
    simp [List.getD]
    rw [show s.size + (j - s.size) = j from by omega]
  rw [h1, nameL_drop, zeros_getD]

theorem nameL_first (s : ByteArray) (h : NameOk s) : First (fun j => (!ltr ((nameL s).getD j 0))) (nameL s).length s.size := by
  rw [length_nameL s h.2.1]
  refine ⟨h.2.1, fun j hj => ?_, fun _ => ?_⟩
  · have := h.2.2.2.1 j hj
    show (!ltr ((nameL s).getD j 0)) = false
    rw [nameL_lo s j hj]; exact this
  · show (!ltr ((nameL s).getD s.size 0)) = true
    rw [nameL_hi s s.size (Nat.le_refl _)]; rfl

theorem nameL_zeros (s : ByteArray) (h : s.size ≤ 8) : First (fun j => (((nameL s).drop s.size).getD j 0 != 0)) ((nameL s).drop s.size).length (8 - s.size) := by
  have hlen : ((nameL s).drop s.size).length = 8 - s.size := by simp [length_nameL s h]
  rw [hlen]
  refine ⟨Nat.le_refl _, fun j hj => ?_, fun hh => absurd hh (Nat.lt_irrefl _)⟩
  show (((nameL s).drop s.size).getD j 0 != 0) = false
  rw [nameL_drop, zeros_getD]; rfl

theorem nameL_take (s : ByteArray) : strOf ((nameL s).take s.size) = s := by
  unfold nameL
  rw [List.take_append_of_le_length (by rw [length_strL]; exact Nat.le_refl _)]
  rw [List.take_of_length_le (by rw [length_strL]; exact Nat.le_refl _)]
  exact strOf_strL s

/-- What PutName puts GetName gets. -/
theorem getName_back (s : ByteArray) (g : Nat) (w : World) (hn : NameOk s) (hk : Blk w g (nameL s)) :
    Calls Tryz.prog 101 #[.slice (some ⟨g, 0, none⟩) 8 8] w fun e w' => e = .returned (.tuple #[.string s, .nilIface]) ∧ Below w.heap.size w w' := by
  have h8 := length_nameL s hn.2.1
  have hb := hk.bs (byt_nameL s) (by rw [h8]; decide)
  have h := getName_yes (some ⟨g, 0, none⟩) (nameL s).length (nameL s) w hb h8 s.size (8 - s.size) (nameL_first s hn) (nameL_zeros s hn.2.1) (by have := hn.1; omega) (by rw [h8]; exact Nat.le_refl _)
  rw [h8, nameL_take] at h
  exact h

theorem put_ok (a : Option Addr) (cap : Nat) (l : List Int) (p s : Nat) (n : Int) (w : World) (hbs : Bs w a cap l) (h : PutOk l.length p n s) :
    Calls Tryz.prog 68 #[.slice a l.length cap, .int .i64 p, .int .i64 n, .int .i64 s] w fun e w' => ∃ g, e = .returned (.tuple #[.slice (some ⟨g, 0, none⟩) l.length l.length, .nilIface]) ∧ w.heap.size ≤ g ∧ Blk w' g (putK l p n s) ∧ Below w.heap.size w w' := by
  obtain ⟨h1, h2, h3, h4, h5, h6⟩ := h
  exact put_nat a cap l p s n w hbs (by omega) (by omega) h3 (by omega) (by omega)

/-- What Put puts Get gets. -/
theorem get_back (l : List Int) (p s : Nat) (n : Int) (g : Nat) (w : World) (hl : l.length ≤ 140737488351232) (hb : Byt l) (h : PutOk l.length p n s) (hk : Blk w g (putK l p n s)) :
    Calls Tryz.prog 106 #[.slice (some ⟨g, 0, none⟩) l.length l.length, .int .i64 p, .int .i64 s] w fun e w' => e = .returned (.tuple #[.int .i64 n, .nilIface]) ∧ w = w' := by
  obtain ⟨h1, h2, h3, h4, h5, h6⟩ := h
  have hlen := length_putK l p n s
  have hbs := hk.bs (byt_putK hb p n s) (by rw [hlen]; exact hl)
  have hg := get_yes (some ⟨g, 0, none⟩) (putK l p n s).length (putK l p n s) p s w hbs h1 h2 h5 (by rw [hlen]; exact h6)
  rw [Int.toNat_natCast, Int.toNat_natCast, getV_putK_self l p n s (by omega) (by omega) h3 h4 (by omega), hlen] at hg
  exact hg
end Go.Proofs.YtllpeknpplpgeaaGreatDoor
