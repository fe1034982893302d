/-
  Joined by program: TellAs; Told; ErrSame; RefNumA; RefNum; RefPut; RefName; NumOut. (Parts of the proofs over the packages of the program.)
-/
import Derived.Test.YtmmgadnicodakabGreatProg
import Derived.Test.YtmmgadnicodakabGreatJNum
import Derived.WalkKit
import Derived.LaidEql
import Derived.Stop.Asserts
import Derived.RowKitTokens
namespace Go.Proofs.YtmmgadnicodakabGreat
open Go.RowKit Go.Extern.Stop Go.Stop Go.Extern
set_option linter.unusedVariables false
end Go.Proofs.YtmmgadnicodakabGreat
namespace Go.Proofs.YtmmgadnicodakabGreat
open Go.RowKit
set_option linter.unusedVariables false
end Go.Proofs.YtmmgadnicodakabGreat
namespace Go.Proofs.YtmmgadnicodakabGreat
open Go.RowKit
set_option linter.unusedVariables false
end Go.Proofs.YtmmgadnicodakabGreat
namespace Go.Proofs.YtmmgadnicodakabGreat
open Go.RowKit
set_option linter.unusedVariables false
end Go.Proofs.YtmmgadnicodakabGreat
namespace Go.Proofs.YtmmgadnicodakabGreat
open Go.RowKit
set_option linter.unusedVariables false
end Go.Proofs.YtmmgadnicodakabGreat
namespace Go.Proofs.YtmmgadnicodakabGreat
open Go.RowKit
set_option linter.unusedVariables false
end Go.Proofs.YtmmgadnicodakabGreat
namespace Go.Proofs.YtmmgadnicodakabGreat
open Go.RowKit
set_option linter.unusedVariables false
theorem empty_yes (s : ByteArray) (h : s.size = 0) : s.toList.isEmpty = true := by
 have he : s = ByteArray.empty := by simpa using h
 have := Classical.propDecidable (s = ByteArray.empty)
 rw [← decide_eq_emptyBytes]
 exact decide_eq_true he
theorem empty_no (s : ByteArray) (h : 1 ≤ s.size) : s.toList.isEmpty = false := by
 have := Classical.propDecidable (s = ByteArray.empty)
 rw [← decide_eq_emptyBytes]
 refine decide_eq_false ?_
 intro he
 rw [he] at h
 simp at h
theorem drop_getD (l : List Int) (n j : Nat) : (l.drop n).getD j 0 = l.getD (n + j) 0 := by simp [List.getD]
end Go.Proofs.YtmmgadnicodakabGreat
namespace Go.Proofs.YtmmgadnicodakabGreat
open Go.RowKit
set_option linter.unusedVariables false
theorem putName_any (s : ByteArray) (w : World) (hs : s.size ≤ 140737488351232) (L : List Int) (x : Int) (h : (NameOk s ∧ L = nameL s ∧ x = 0) ∨ (¬ NameOk s ∧ L = [] ∧ x = 2)) :
  Calls Tryz.prog 69 #[.string s] w (Ends w L (errV x)) := by
 rcases h with ⟨hn, rfl, rfl⟩ | ⟨hn, rfl, rfl⟩
 ·refine (putName_yes s w hn.1 hn.2.1 hn.2.2).mono fun e w' ⟨g, he, hg, hk, hb⟩ => ?_
  have hlen := length_nameL s hn.2.1
  exact ⟨some ⟨g, 0, none⟩, (nameL s).length, by rw [hlen]; exact he, hk.bs (byt_nameL s) (by rw [hlen]; decide), hb⟩
 ·exact (putName_fail s w hs hn).mono fun e w' ⟨he, hb⟩ => ⟨none, 0, he, bs_nil _, hb⟩
def lettersN (l : List Int) : Nat := fstN (fun j => (!ltr (l.getD j 0))) l.length
def zerosN (l : List Int) (i : Nat) : Nat := fstN (fun j => ((l.drop i).getD j 0 != 0)) (l.drop i).length
def readOut (l : List Int) : ByteArray × Int :=
 if ¬ l.length = 8 then (ByteArray.empty, 3) else if lettersN l = 0 ∨ zerosN l (lettersN l) < l.length - lettersN l then (ByteArray.empty, 2) else (strOf (l.take (lettersN l)), 0)
theorem getName_any (a : Option Addr) (cap : Nat) (l : List Int) (w : World) (hbs : Bs w a cap l) :
  Calls Tryz.prog 81 #[.slice a l.length cap] w fun e w' => e = .returned (.tuple #[.string (readOut l).1, errV (readOut l).2]) ∧ Below w.heap.size w w' := by
 have hl := hbs.2.2.1
 by_cases h8 : l.length = 8
 ·have hi := first_fstN (fun j => (!ltr (l.getD j 0))) l.length
  have hz := first_fstN (fun j => ((l.drop (lettersN l)).getD j 0 != 0)) (l.drop (lettersN l)).length
  by_cases h0 : lettersN l = 0
  ·have e : readOut l = (ByteArray.empty, 2) := by unfold readOut; rw [if_neg (fun h => h h8), if_pos (Or.inl h0)]
   rw [e]
   exact getName_none a cap l w hbs h8 (lettersN l) (zerosN l (lettersN l)) hi hz h0
  ·by_cases h1 : zerosN l (lettersN l) < l.length - lettersN l
   ·have e : readOut l = (ByteArray.empty, 2) := by unfold readOut; rw [if_neg (fun h => h h8), if_pos (Or.inr h1)]
    rw [e]
    exact getName_more a cap l w hbs h8 (lettersN l) (zerosN l (lettersN l)) hi hz h0 h1
   ·have e : readOut l = (strOf (l.take (lettersN l)), 0) := by unfold readOut; rw [if_neg (fun h => h h8), if_neg (fun h => h.elim h0 h1)]
    rw [e]
    exact getName_yes a cap l w hbs h8 (lettersN l) (zerosN l (lettersN l)) hi hz h0 (by omega)
 ·have e : readOut l = (ByteArray.empty, 3) := by unfold readOut; rw [if_pos h8]
  rw [e]
  exact getName_len a l.length cap w hl h8
end Go.Proofs.YtmmgadnicodakabGreat
