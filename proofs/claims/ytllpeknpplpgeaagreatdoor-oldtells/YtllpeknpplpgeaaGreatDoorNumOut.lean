/-
  What package num's functions and the document's own answers come to, each as one plain function: Put, Get, PutName, GetName. (Part of the proof of NumTells.)
-/
import Derived.Test.YtllpeknpplpgeaaGreatDoorErrSame
import Derived.Test.YtllpeknpplpgeaaGreatDoorEnds
import Derived.Test.YtllpeknpplpgeaaGreatDoorRefNum
import Derived.Test.YtllpeknpplpgeaaGreatDoorRefPut
import Derived.Test.YtllpeknpplpgeaaGreatDoorRefName
import Derived.Test.YtllpeknpplpgeaaGreatDoorTold
namespace Go.Proofs.YtllpeknpplpgeaaGreatDoor
open Go.RowKit
set_option linter.unusedVariables false

theorem get_any (a : Option Addr) (cap : Nat) (l : List Int) (p s : Int) (w : World) (hbs : Bs w a cap l) :
    Calls Tryz.prog 106 #[.slice a l.length cap, .int .i64 p, .int .i64 s] w fun e w' => e = .returned (.tuple #[.int .i64 (getOut l p s).1, errV (getOut l p s).2]) ∧ w = w' := by
  have hl := hbs.2.2.1
  by_cases h1 : 1 ≤ s ∧ s ≤ 4
  · by_cases h2 : 0 ≤ p ∧ p ≤ l.length - s
    · have e : getOut l p s = (getV l p.toNat s.toNat, 0) := by
        unfold getOut
        rw [if_neg (fun h => h h1), if_neg (fun h => h h2)]
      rw [e]
      exact get_yes a cap l p s w hbs h1.1 h1.2 h2.1 h2.2
    · have e : getOut l p s = (0, 3) := by
        unfold getOut
        rw [if_neg (fun h => h h1), if_pos h2]
      rw [e]
      exact get_shape a l.length cap p s w (by omega) h1.1 h1.2 h2
  · have e : getOut l p s = (0, 1) := by
      unfold getOut
      rw [if_pos h1]
    rw [e]
    exact get_size a l.length cap p s w h1

/-- What Put answers: the bytes, and the error's number. -/
def putOut (l : List Int) (p n s : Int) : List Int × Int :=
  if ¬ (1 ≤ s ∧ s ≤ 4) ∨ n < 0 ∨ most s < n then ([], 1) else if ¬ (0 ≤ p ∧ p ≤ l.length - s) then ([], 3) else (putK l p.toNat n s.toNat, 0)

theorem put_any (a : Option Addr) (cap : Nat) (l : List Int) (p n s : Int) (w : World) (hbs : Bs w a cap l) :
    Calls Tryz.prog 68 #[.slice a l.length cap, .int .i64 p, .int .i64 n, .int .i64 s] w (Ends w (putOut l p n s).1 (errV (putOut l p n s).2)) := by
  have hl := hbs.2.2.1
  by_cases h1 : 1 ≤ s ∧ s ≤ 4
  · by_cases h2 : n < 0
    · have e : putOut l p n s = ([], 1) := by unfold putOut; rw [if_pos (Or.inr (Or.inl h2))]
      rw [e]
      exact (put_neg a l.length cap p n s w h1.1 h1.2 h2).mono fun e w' ⟨he, hw⟩ => ends_nil he hw
    · by_cases h3 : most s < n
      · have e : putOut l p n s = ([], 1) := by unfold putOut; rw [if_pos (Or.inr (Or.inr h3))]
        rw [e]
        exact (put_most a l.length cap p n s w h1.1 h1.2 h2 h3).mono fun e w' ⟨he, hw⟩ => ends_nil he hw
      · have hno : ¬ (¬ (1 ≤ s ∧ s ≤ 4) ∨ n < 0 ∨ most s < n) := fun h => h.elim (fun h => h h1) (fun h => h.elim h2 h3)
        by_cases h4 : 0 ≤ p ∧ p ≤ l.length - s
        · have e : putOut l p n s = (putK l p.toNat n s.toNat, 0) := by unfold putOut; rw [if_neg hno, if_neg (fun h => h h4)]
          rw [e]
          obtain ⟨P, rfl⟩ := Int.eq_ofNat_of_zero_le h4.1
          obtain ⟨S, rfl⟩ := Int.eq_ofNat_of_zero_le (show 0 ≤ s from by omega)
          rw [Int.toNat_natCast, Int.toNat_natCast]
          refine (put_ok a cap l P S n w hbs ⟨h1.1, h1.2, by omega, by omega, h4.1, h4.2⟩).mono fun e w' ⟨g, he, hg, hk, hb⟩ => ?_
          have hlen := length_putK l P n S
          exact ⟨some ⟨g, 0, none⟩, (putK l P n S).length, by rw [hlen]; exact he, hk.bs (byt_putK hbs.1 P n S) (by rw [hlen]; exact hl), hb⟩
        · have e : putOut l p n s = ([], 3) := by unfold putOut; rw [if_neg hno, if_pos h4]
          rw [e]
          exact (put_shape a l.length cap p n s w (by omega) h1.1 h1.2 h2 h3 h4).mono fun e w' ⟨he, hw⟩ => ends_nil he hw
  · have e : putOut l p n s = ([], 1) := by unfold putOut; rw [if_pos (Or.inl h1)]
    rw [e]
    exact (put_size a l.length cap p n s w h1).mono fun e w' ⟨he, hw⟩ => ends_nil he hw

theorem rPut_any (a : Option Addr) (cap : Nat) (l : List Int) (p n s : Int) (w : World) (hbs : Bs w a cap l) (hp : -9223372036854775808 ≤ p ∧ p ≤ 9223372036854775807) :
    Calls Tryz.prog 50 #[.slice a l.length cap, .int .i64 p, .int .i64 n, .int .i64 s] w (Ends w (putOut l p n s).1 (.int .i64 (putOut l p n s).2)) := by
  have hl := hbs.2.2.1
  by_cases h1 : 1 ≤ s ∧ s ≤ 4
  · obtain ⟨S, rfl⟩ := Int.eq_ofNat_of_zero_le (show 0 ≤ s from by omega)
    have hS1 : 1 ≤ S := by omega
    have hS4 : S ≤ 4 := by omega
    have hmp := most_pow S hS1 hS4
    by_cases h2 : n < 0
    · have e : putOut l p n S = ([], 1) := by unfold putOut; rw [if_pos (Or.inr (Or.inl h2))]
      rw [e]
      exact (rPut_neg a cap l p n S w hbs hS1 hS4 hp h2).mono fun e w' ⟨he, hw⟩ => ends_nil he hw
    · by_cases h3 : most S < n
      · have e : putOut l p n S = ([], 1) := by unfold putOut; rw [if_pos (Or.inr (Or.inr h3))]
        rw [e]
        exact (rPut_most a cap l p n S w hbs hS1 hS4 hp h2 (by omega)).mono fun e w' ⟨he, hw⟩ => ends_nil he hw
      · have hno : ¬ (¬ (1 ≤ (S : Int) ∧ (S : Int) ≤ 4) ∨ n < 0 ∨ most S < n) := fun h => h.elim (fun h => h h1) (fun h => h.elim h2 h3)
        by_cases h4 : 0 ≤ p ∧ p ≤ l.length - S
        · have e : putOut l p n S = (putK l p.toNat n S, 0) := by unfold putOut; rw [if_neg hno, if_neg (fun h => h h4), Int.toNat_natCast]
          rw [e]
          obtain ⟨P, rfl⟩ := Int.eq_ofNat_of_zero_le h4.1
          rw [Int.toNat_natCast]
          refine (rPut_nat a cap l P n S w hbs hS1 hS4 hp P rfl h2 (by omega) (by omega)).mono fun e w' ⟨g, c, he, hown, hb⟩ => ?_
          have hlen := length_putK l P n S
          exact ⟨some ⟨g, 0, none⟩, c, by rw [hlen]; exact he, hown.bs (byt_putK hbs.1 P n S) (by rw [hlen]; exact hl), hb⟩
        · have e : putOut l p n S = ([], 3) := by unfold putOut; rw [if_neg hno, if_pos h4]
          rw [e]
          by_cases h5 : 0 ≤ p
          · by_cases h6 : (l.length : Int) < p
            · exact (rPut_hi a cap l p n S w hbs hS1 hS4 hp h2 (by omega) h5 h6).mono fun e w' ⟨he, hw⟩ => ends_nil he hw
            · exact (rPut_end a cap l p n S w hbs hS1 hS4 hp h2 (by omega) h5 (by omega) (by omega)).mono fun e w' ⟨he, hw⟩ => ends_nil he hw
          · exact (rPut_lo a cap l p n S w hbs hS1 hS4 hp h2 (by omega) (by omega)).mono fun e w' ⟨he, hw⟩ => ends_nil he hw
  · have e : putOut l p n s = ([], 1) := by unfold putOut; rw [if_pos (Or.inl h1)]
    rw [e]
    exact (rPut_size a l.length cap p n s w h1).mono fun e w' ⟨he, hw⟩ => ends_nil he hw

theorem putName_any (s : ByteArray) (w : World) (hs : s.size ≤ 140737488351232) (L : List Int) (x : Int) (h : (NameOk s ∧ L = nameL s ∧ x = 0) ∨ (¬ NameOk s ∧ L = [] ∧ x = 2)) :
    Calls Tryz.prog 44 #[.string s] w (Ends w L (errV x)) := by
  rcases h with ⟨hn, rfl, rfl⟩ | ⟨hn, rfl, rfl⟩
  · refine (putName_yes s w hn.1 hn.2.1 hn.2.2).mono fun e w' ⟨g, he, hg, hk, hb⟩ => ?_
    have hlen := length_nameL s hn.2.1
    exact ⟨some ⟨g, 0, none⟩, (nameL s).length, by rw [hlen]; exact he, hk.bs (byt_nameL s) (by rw [hlen]; decide), hb⟩
  · exact (putName_fail s w hs hn).mono fun e w' ⟨he, hb⟩ => ⟨none, 0, he, bs_nil _, hb⟩

theorem rNameBytes_any (s : ByteArray) (w : World) (hn : NameOk s) :
    Calls Tryz.prog 32 #[.string s] w fun e w' => ∃ a cap, e = .returned (.slice a (nameL s).length cap) ∧ Bs w' a cap (nameL s) ∧ Below w.heap.size w w' := by
  refine (rNameBytes s w hn.2.1).mono fun e w' ⟨g, he, hg, hk, hb⟩ => ?_
  have hlen := length_nameL s hn.2.1
  exact ⟨some ⟨g, 0, none⟩, (nameL s).length, by rw [hlen]; exact he, hk.bs (byt_nameL s) (by rw [hlen]; decide), hb⟩

/-- How many letters stand ahead; how many zeros behind them. -/
def lettersN (l : List Int) : Nat := fstN (fun j => (!ltr (l.getD j 0))) l.length
def zerosN (l : List Int) (i : Nat) : Nat := fstN (fun j => ((l.drop i).getD j 0 != 0)) (l.drop i).length
/-- What GetName answers: the name, and the error's number. -/
def readOut (l : List Int) : ByteArray × Int :=
  if ¬ l.length = 8 then (ByteArray.empty, 3) else if lettersN l = 0 ∨ zerosN l (lettersN l) < l.length - lettersN l then (ByteArray.empty, 2) else (strOf (l.take (lettersN l)), 0)

theorem getName_any (a : Option Addr) (cap : Nat) (l : List Int) (w : World) (hbs : Bs w a cap l) :
    Calls Tryz.prog 101 #[.slice a l.length cap] w fun e w' => e = .returned (.tuple #[.string (readOut l).1, errV (readOut l).2]) ∧ Below w.heap.size w w' := by
  have hl := hbs.2.2.1
  by_cases h8 : l.length = 8
  · have hi := first_fstN (fun j => (!ltr (l.getD j 0))) l.length
    have hz := first_fstN (fun j => ((l.drop (lettersN l)).getD j 0 != 0)) (l.drop (lettersN l)).length
    by_cases h0 : lettersN l = 0
    · have e : readOut l = (ByteArray.empty, 2) := by unfold readOut; rw [if_neg (fun h => h h8), if_pos (Or.inl h0)]
      rw [e]
      exact getName_none a cap l w hbs h8 (lettersN l) (zerosN l (lettersN l)) hi hz h0
    · by_cases h1 : zerosN l (lettersN l) < l.length - lettersN l
      · have e : readOut l = (ByteArray.empty, 2) := by unfold readOut; rw [if_neg (fun h => h h8), if_pos (Or.inr h1)]
        rw [e]
        exact getName_more a cap l w hbs h8 (lettersN l) (zerosN l (lettersN l)) hi hz h0 h1
      · have e : readOut l = (strOf (l.take (lettersN l)), 0) := by unfold readOut; rw [if_neg (fun h => h h8), if_neg (fun h => h.elim h0 h1)]
        rw [e]
        exact getName_yes a cap l w hbs h8 (lettersN l) (zerosN l (lettersN l)) hi hz h0 (by omega)
  · have e : readOut l = (ByteArray.empty, 3) := by unfold readOut; rw [if_pos h8]
    rw [e]
    exact getName_len a l.length cap w hl h8

theorem size_strOf (l : List Int) : (strOf l).size = l.length := by
  have h := congrArg List.length (strOf_data l)
  simpa using h

/-- A name stands ahead, and zeros behind it: that is how many letters stand ahead. -/
theorem name_at (l : List Int) (hb : Byt l) (h8 : l.length = 8) (n : Nat) (hn : n ≤ 8) (hz : ∀ j, j < 8 - n → (l.drop n).getD j 0 = 0) : NameOk (strOf (l.take n)) ↔ (lettersN l = n ∧ ¬ n = 0) := by
  have hsz : (strOf (l.take n)).size = n := by rw [size_strOf]; simp; omega
  have hsl : strL (strOf (l.take n)) = l.take n := strL_strOf _ (fun z hz => hb z (List.mem_of_mem_take hz))
  have hget : ∀ j, j < n → (l.take n).getD j 0 = l.getD j 0 := fun j hj => by simp [List.getD, hj]
  have hnz : n < 8 → ltr (l.getD n 0) = false := fun h => by
    have := hz 0 (by omega)
    rw [drop_getD, Nat.add_zero] at this
    rw [this]; rfl
  have hfirst := first_fstN (fun j => (!ltr (l.getD j 0))) l.length
  constructor
  · intro ⟨h1, h2, h3⟩
    rw [hsz] at h1 h2 h3
    rw [hsl] at h3
    refine ⟨hfirst.unique ⟨by omega, fun j hj => ?_, fun h => ?_⟩, by omega⟩
    · have := h3.2.1 j hj
      show (!ltr (l.getD j 0)) = false
      rw [← hget j hj]; exact this
    · show (!ltr (l.getD n 0)) = true
      rw [hnz (by omega)]; rfl
  · intro ⟨h1, h2⟩
    unfold NameOk
    rw [hsz, hsl]
    refine ⟨by omega, hn, Nat.le_refl _, fun j hj => ?_, fun h => absurd h (Nat.lt_irrefl _)⟩
    show (!ltr ((l.take n).getD j 0)) = false
    rw [hget j hj]
    have h3 : fstN (fun j => (!ltr (l.getD j 0))) l.length = n := h1
    rw [h3] at hfirst
    exact hfirst.2.1 j hj

theorem rRead_any (a : Option Addr) (cap : Nat) (l : List Int) (w : World) (hbs : Bs w a cap l) :
    Calls Tryz.prog 21 #[.slice a l.length cap] w fun e w' => e = .returned (.tuple #[.string (readOut l).1, .int .i64 (readOut l).2]) ∧ w = w' := by
  have hl := hbs.2.2.1
  by_cases h8 : l.length = 8
  · obtain ⟨b, off, rfl, hc⟩ := hbs.2.2.2.2 (by intro h; rw [h] at h8; simp at h8)
    have hn := first_fstN (fun j => (l.getD j 0 == 0)) 8
    generalize hN : fstN (fun j => (l.getD j 0 == 0)) 8 = n at hn
    have hn8 := hn.1
    have hm := first_fstN (fun j => ((l.drop n).getD j 0 != 0)) (8 - n)
    generalize hM : fstN (fun j => ((l.drop n).getD j 0 != 0)) (8 - n) = m at hm
    have hm8 := hm.1
    have hi := first_fstN (fun j => (!ltr (l.getD j 0))) l.length
    have hdl : ∀ i, (l.drop i).length = 8 - i := fun i => by simp [h8]
    by_cases hlt : m < 8 - n
    · have e : readOut l = (ByteArray.empty, 2) := by
        unfold readOut
        rw [if_neg (fun h => h h8)]
        by_cases hq : lettersN l = 0 ∨ zerosN l (lettersN l) < l.length - lettersN l
        · rw [if_pos hq]
        · exfalso
          have h0 : ¬ lettersN l = 0 := fun h => hq (Or.inl h)
          have h1 : ¬ zerosN l (lettersN l) < l.length - lettersN l := fun h => hq (Or.inr h)
          have hzf : First (fun j => ((l.drop (lettersN l)).getD j 0 != 0)) (l.drop (lettersN l)).length (zerosN l (lettersN l)) := first_fstN _ _
          have hle : lettersN l ≤ l.length := hi.1
          -- the first zero is where the letters end
          have hnl : lettersN l = n := by
            refine First.unique (f := fun j => (l.getD j 0 == 0)) (n := 8) ⟨by omega, fun j hj => ?_, fun h => ?_⟩ hn
            · have h2 : (!ltr (l.getD j 0)) = false := hi.2.1 j hj
              have h3 := ltr_bd (l.getD j 0) (by simpa using h2)
              show (l.getD j 0 == 0) = false
              exact beq_eq_false_iff_ne.2 (by omega)
            · have h2 : ((l.drop (lettersN l)).getD 0 0 != 0) = false := hzf.2.1 0 (by omega)
              rw [drop_getD, Nat.add_zero] at h2
              show (l.getD (lettersN l) 0 == 0) = true
              simpa [bne] using h2
          rw [hnl] at h1 hzf
          have h4 : ((l.drop n).getD m 0 != 0) = true := hm.2.2 hlt
          have h5 : ((l.drop n).getD m 0 != 0) = false := hzf.2.1 m (by omega)
          rw [h4] at h5; cases h5
      rw [e]
      exact rRead_more b off cap l w h8 hc n m hn hm hlt
    · have hzero : ∀ j, j < 8 - n → (l.drop n).getD j 0 = 0 := fun j hj => by
        have h2 : ((l.drop n).getD j 0 != 0) = false := hm.2.1 j (by omega)
        simpa using h2
      have hiff := name_at l hbs.1 h8 n hn8 hzero
      have hsz : (strOf (l.take n)).size = n := by rw [size_strOf]; simp; omega
      have hzn : zerosN l n = 8 - n := by
        have hzf : First (fun j => ((l.drop n).getD j 0 != 0)) (l.drop n).length (zerosN l n) := first_fstN _ _
        rw [hdl] at hzf
        refine hzf.unique ⟨Nat.le_refl _, fun j hj => ?_, fun h => absurd h (Nat.lt_irrefl _)⟩
        show ((l.drop n).getD j 0 != 0) = false
        rw [hzero j hj]; rfl
      by_cases hok : NameOk (strOf (l.take n))
      · obtain ⟨h1, h2⟩ := hiff.1 hok
        have e : readOut l = (strOf (l.take n), 0) := by
          unfold readOut
          rw [if_neg (fun h => h h8), h1, if_neg (fun h => h.elim h2 (fun h => by rw [hzn] at h; omega))]
        rw [e]
        exact rRead_zero b off cap l w hbs h8 hc n m hn hm (by omega) true (fun w' => rName_yes _ w' hok)
      · have e : readOut l = (ByteArray.empty, 2) := by
          unfold readOut
          rw [if_neg (fun h => h h8)]
          by_cases hq : lettersN l = 0 ∨ zerosN l (lettersN l) < l.length - lettersN l
          · rw [if_pos hq]
          · exfalso
            have h0 : ¬ lettersN l = 0 := fun h => hq (Or.inl h)
            have h1 : ¬ zerosN l (lettersN l) < l.length - lettersN l := fun h => hq (Or.inr h)
            have hzf : First (fun j => ((l.drop (lettersN l)).getD j 0 != 0)) (l.drop (lettersN l)).length (zerosN l (lettersN l)) := first_fstN _ _
            have hle : lettersN l ≤ l.length := hi.1
            have hnl : lettersN l = n := by
              refine First.unique (f := fun j => (l.getD j 0 == 0)) (n := 8) ⟨by omega, fun j hj => ?_, fun h => ?_⟩ hn
              · have h2 : (!ltr (l.getD j 0)) = false := hi.2.1 j hj
                have h3 := ltr_bd (l.getD j 0) (by simpa using h2)
                show (l.getD j 0 == 0) = false
                exact beq_eq_false_iff_ne.2 (by omega)
              · have h2 : ((l.drop (lettersN l)).getD 0 0 != 0) = false := hzf.2.1 0 (by omega)
                rw [drop_getD, Nat.add_zero] at h2
                show (l.getD (lettersN l) 0 == 0) = true
                simpa [bne] using h2
            exact hok (hiff.2 ⟨hnl, by omega⟩)
        rw [e]
        exact rRead_zero b off cap l w hbs h8 hc n m hn hm (by omega) false (fun w' => rName_fail _ w' (by rw [hsz]; omega) hok)
  · have e : readOut l = (ByteArray.empty, 3) := by unfold readOut; rw [if_pos h8]
    rw [e]
    exact rRead_len a l.length cap w hl h8
end Go.Proofs.YtllpeknpplpgeaaGreatDoor
