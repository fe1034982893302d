/-
  What package num's functions and the document's own answers come to, each as one plain function: Put, Get, PutName, GetName. (Part of the proof of NumTells.)
-/
import Derived.Test.YtcppejlcjooliaaErrSame
import Derived.Test.YtcppejlcjooliaaEnds
import Derived.Test.YtcppejlcjooliaaRefNum
import Derived.Test.YtcppejlcjooliaaRefPut
import Derived.Test.YtcppejlcjooliaaRefName
import Derived.Test.YtcppejlcjooliaaTold
namespace Go.Proofs.Ytcppejlcjooliaa
open Go.RowKit
set_option linter.unusedVariables false

theorem get_any (a : Option Addr) (cap : Nat) (l : List Int) (p s : Int) (w : World) (hbs : Bs w a cap l) :
    Calls Try.prog 32 #[.slice a l.length cap, .int .i64 p, .int .i64 s] w fun e w' => e = .returned (.tuple #[.int .i64 (getOut l p s).1, errV (getOut l p s).2]) ∧ w = w' := by
  have hl := hbs.2.2.1
  by_cases h1 : 1 ≤ s ∧ s ≤ 4
  · by_cases h2 : 0 ≤ p ∧ p ≤ l.length - s
    · have e : getOut l p s = (getV l p.toNat s.toNat, 0) := by
        unfold getOut
        rw [if_neg (fun h => h h1), if_neg (fun h => h h2)]
      rw [e]
      exact get_yes a cap l p s w hbs h1.1 h1.2 h2.1 h2.2
    · have e : getOut l p s = (0, 3) := by
        unfold getOut
        rw [if_neg (fun h => h h1), if_pos h2]
      rw [e]
      exact get_shape a l.length cap p s w (by omega) h1.1 h1.2 h2
  · have e : getOut l p s = (0, 1) := by
      unfold getOut
      rw [if_pos h1]
    rw [e]
    exact get_size a l.length cap p s w h1

/-- What Put answers: the bytes, and the error's number. -/
def putOut (l : List Int) (p n s : Int) : List Int × Int :=
  if ¬ (1 ≤ s ∧ s ≤ 4) ∨ n < 0 ∨ most s < n then ([], 1) else if ¬ (0 ≤ p ∧ p ≤ l.length - s) then ([], 3) else (putK l p.toNat n s.toNat, 0)

/-- How many letters stand ahead; how many zeros behind them. -/
def lettersN (l : List Int) : Nat := fstN (fun j => (!ltr (l.getD j 0))) l.length
def zerosN (l : List Int) (i : Nat) : Nat := fstN (fun j => ((l.drop i).getD j 0 != 0)) (l.drop i).length
/-- What GetName answers: the name, and the error's number. -/
def readOut (l : List Int) : ByteArray × Int :=
  if ¬ l.length = 8 then (ByteArray.empty, 3) else if lettersN l = 0 ∨ zerosN l (lettersN l) < l.length - lettersN l then (ByteArray.empty, 2) else (strOf (l.take (lettersN l)), 0)

theorem getName_any (a : Option Addr) (cap : Nat) (l : List Int) (w : World) (hbs : Bs w a cap l) :
    Calls Try.prog 51 #[.slice a l.length cap] w fun e w' => e = .returned (.tuple #[.string (readOut l).1, errV (readOut l).2]) ∧ Below w.heap.size w w' := by
  have hl := hbs.2.2.1
  by_cases h8 : l.length = 8
  · have hi := first_fstN (fun j => (!ltr (l.getD j 0))) l.length
    have hz := first_fstN (fun j => ((l.drop (lettersN l)).getD j 0 != 0)) (l.drop (lettersN l)).length
    by_cases h0 : lettersN l = 0
    · have e : readOut l = (ByteArray.empty, 2) := by unfold readOut; rw [if_neg (fun h => h h8), if_pos (Or.inl h0)]
      rw [e]
      exact getName_none a cap l w hbs h8 (lettersN l) (zerosN l (lettersN l)) hi hz h0
    · by_cases h1 : zerosN l (lettersN l) < l.length - lettersN l
      · have e : readOut l = (ByteArray.empty, 2) := by unfold readOut; rw [if_neg (fun h => h h8), if_pos (Or.inr h1)]
        rw [e]
        exact getName_more a cap l w hbs h8 (lettersN l) (zerosN l (lettersN l)) hi hz h0 h1
      · have e : readOut l = (strOf (l.take (lettersN l)), 0) := by unfold readOut; rw [if_neg (fun h => h h8), if_neg (fun h => h.elim h0 h1)]
        rw [e]
        exact getName_yes a cap l w hbs h8 (lettersN l) (zerosN l (lettersN l)) hi hz h0 (by omega)
  · have e : readOut l = (ByteArray.empty, 3) := by unfold readOut; rw [if_pos h8]
    rw [e]
    exact getName_len a l.length cap w hl h8

theorem size_strOf (l : List Int) : (strOf l).size = l.length := by
  have h := congrArg List.length (strOf_data l)
  simpa using h

/-- A name stands ahead, and zeros behind it: that is how many letters stand ahead. -/
theorem name_at (l : List Int) (hb : Byt l) (h8 : l.length = 8) (n : Nat) (hn : n ≤ 8) (hz : ∀ j, j < 8 - n → (l.drop n).getD j 0 = 0) : NameOk (strOf (l.take n)) ↔ (lettersN l = n ∧ ¬ n = 0) := by
  have hsz : (strOf (l.take n)).size = n := by rw [size_strOf]; simp; omega
  have hsl : strL (strOf (l.take n)) = l.take n := strL_strOf _ (fun z hz => hb z (List.mem_of_mem_take hz))
  have hget : ∀ j, j < n → (l.take n).getD j 0 = l.getD j 0 := fun j hj => by simp [List.getD, hj]
  have hnz : n < 8 → ltr (l.getD n 0) = false := fun h => by
    have := hz 0 (by omega)
    rw [drop_getD, Nat.add_zero] at this
    rw [this]; rfl
  have hfirst := first_fstN (fun j => (!ltr (l.getD j 0))) l.length
  constructor
  · intro ⟨h1, h2, h3⟩
    rw [hsz] at h1 h2 h3
    rw [hsl] at h3
    refine ⟨hfirst.unique ⟨by omega, fun j hj => ?_, fun h => ?_⟩, by omega⟩
    · have := h3.2.1 j hj
      show (!ltr (l.getD j 0)) = false
      rw [← hget j hj]; exact this
    · show (!ltr (l.getD n 0)) = true
      rw [hnz (by omega)]; rfl
  · intro ⟨h1, h2⟩
    unfold NameOk
    rw [hsz, hsl]
    refine ⟨by omega, hn, Nat.le_refl _, fun j hj => ?_, fun h => absurd h (Nat.lt_irrefl _)⟩
    show (!ltr ((l.take n).getD j 0)) = false
    rw [hget j hj]
    have h3 : fstN (fun j => (!ltr (l.getD j 0))) l.length = n := h1
    rw [h3] at hfirst
    exact hfirst.2.1 j hj

end Go.Proofs.Ytcppejlcjooliaa
