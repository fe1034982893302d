/-
  Joined by program: TellAs; Told; ErrSame; RefNumA; RefNum; RefPut; RefName; NumOut. (Parts of the proofs over the packages of the program.)
-/
import Derived.Test.YtfbloliakmehbaaGreatProg
import Derived.Test.YtfbloliakmehbaaGreatJNum
import Derived.WalkKit
import Derived.LaidEql
import Derived.Stop.Asserts
import Derived.RowKitTokens
/-! The contract of errors.As at an api.Errno. (Part of the proofs of laws that ask which error was told.) -/
namespace Go.Proofs.YtfbloliakmehbaaGreat
open Go.RowKit Go.Extern.Stop Go.Stop Go.Extern
set_option linter.unusedVariables false

theorem rl_kindE (w : World) : ((ReflectliteType.abiMethod fun t => Functor.map (fun a : Nat => Value.int IntKind.u8 (a : Int)) (Rtype.kind t)) #[.pointer (some ⟨0, 64, none⟩)]).run Tryz.prog w = .ok (.int .u8 2) w := by kernel_rfl
theorem rl_one (motive : Array Value → Sort 1) (v : Value) (h1 : (v : Value) → motive #[v]) (h2 : (x : Array Value) → motive x) : ReflectliteValue.method.match_2 motive #[v] h1 h2 = h1 v := rfl
theorem rl_two (motive : Array Value → Sort 1) (v x : Value) (h1 : (v x : Value) → motive #[v, x]) (h2 : (x : Array Value) → motive x) : ReflectliteValue.set.match_3 motive #[v, x] h1 h2 = h1 v x := rfl
theorem rl_valueOfE (k : Int) (w : World) : (ReflectliteValue.unpack (.iface 64 (.int .i64 k))).run Tryz.prog w
    = .ok (.agg #[.pointer (some ⟨0, 64, none⟩), .pointer (some ⟨w.heap.size, 0, none⟩), .int .u64 130]) (w.alloc (.cells #[.int .i64 k] 64)) := by kernel_rfl
theorem rl_mkE (p : Addr) (w : World) : (ReflectliteValue.mk 64 p ReflectliteValue.flagAddr).run Tryz.prog w = .ok (.agg #[.pointer (some ⟨0, 64, none⟩), .pointer (some p), .int .u64 386]) w := by kernel_rfl
theorem rl_partsEa (a : Addr) (w : World) : (ReflectliteValue.parts (.agg #[.pointer (some ⟨0, 64, none⟩), .pointer (some a), .int .u64 386])).run Tryz.prog w = .ok (some (64, a, 386)) w := by kernel_rfl
theorem rl_partsE (a : Addr) (w : World) : (ReflectliteValue.parts (.agg #[.pointer (some ⟨0, 64, none⟩), .pointer (some a), .int .u64 130])).run Tryz.prog w = .ok (some (64, a, 130)) w := by kernel_rfl
theorem rl_directE (w : World) : (Rtype.directlyAssignable 64 64).run Tryz.prog w = .ok true w := by kernel_rfl
theorem rl_setE (ta b : Addr) (k : Int) (old : Value) (W : World) (hb : W.cell? b = some (.int .i64 k)) (ht : W.cell? ta = some old) (hf : W.frozen? ta = false) :
    (ReflectliteValue.set #[.agg #[.pointer (some ⟨0, 64, none⟩), .pointer (some ta), .int .u64 386], .agg #[.pointer (some ⟨0, 64, none⟩), .pointer (some b), .int .u64 130]]).run Tryz.prog W
      = .ok (.tuple #[]) (W.setCell ta (.int .i64 k)) := by
  delta ReflectliteValue.set
  rw [rl_two]
  simp only [Sem.run_bind, rl_partsEa, rl_partsE, Result.andThen]
  simp [ReflectliteValue.flagAddr, loadVar, isAgg, underlying, Tryz.underlying64, hb, Result.andThen, rl_directE, storeVar, Value.cells, storeCells, Addr.add]
  rw [run_store Tryz.prog W ta _ _ (by rfl)]
  simp [ht, hf]

end Go.Proofs.YtfbloliakmehbaaGreat
/-! The contracts of plain.Told and of vaultsame.Error. (Part of the proofs of laws that ask which error was told.) -/
namespace Go.Proofs.YtfbloliakmehbaaGreat
open Go.RowKit
set_option linter.unusedVariables false

end Go.Proofs.YtfbloliakmehbaaGreat
/-! Which error was told: an error by its number is told as that number. (Part of the proofs.) -/
namespace Go.Proofs.YtfbloliakmehbaaGreat
open Go.RowKit
set_option linter.unusedVariables false

end Go.Proofs.YtfbloliakmehbaaGreat
/-! The contract of the document's own answer for a number (vaultref1.Number). (Part of the proofs of NumTells, StampTells.) -/
namespace Go.Proofs.YtfbloliakmehbaaGreat
open Go.RowKit
set_option linter.unusedVariables false

theorem numOf_drop (l : List Int) (j : Nat) (h : j < l.length) : numOf (l.drop j) = l.getD j 0 + 256 * numOf (l.drop (j + 1)) := by
  rw [List.drop_eq_getElem_cons h]
  simp [numOf, List.getD, h]

theorem numOf_drop_bd (l : List Int) (hb : Byt l) (h4 : l.length ≤ 4) (j : Nat) : 0 ≤ numOf (l.drop j) ∧ numOf (l.drop j) ≤ 4294967295 := by
  have h := numOf_bd (l.drop j) (fun z hz => hb z (List.mem_of_mem_drop hz))
  have h2 : (256 : Int) ^ (l.drop j).length ≤ 4294967296 := by
    have h3 : (l.drop j).length ≤ 4 := by simp; omega
    rcases (show (l.drop j).length = 0 ∨ (l.drop j).length = 1 ∨ (l.drop j).length = 2 ∨ (l.drop j).length = 3 ∨ (l.drop j).length = 4 from by omega) with e | e | e | e | e <;> rw [e] <;> decide
  omega

end Go.Proofs.YtfbloliakmehbaaGreat
/-! The contracts of the document's own answers for numbers (vaultref1.Number, Get, Put). (Part of the proof of NumTells.) -/
namespace Go.Proofs.YtfbloliakmehbaaGreat
open Go.RowKit
set_option linter.unusedVariables false

/-- What Get answers: the number, and the error's number. -/
def getOut (l : List Int) (p s : Int) : Int × Int :=
  if ¬ (1 ≤ s ∧ s ≤ 4) then (0, 1) else if ¬ (0 ≤ p ∧ p ≤ l.length - s) then (0, 3) else (getV l p.toNat s.toNat, 0)

end Go.Proofs.YtfbloliakmehbaaGreat
/-! The contract of the document's own answer for Put (vaultref1.Put). (Part of the proof of NumTells.) -/
namespace Go.Proofs.YtfbloliakmehbaaGreat
open Go.RowKit
set_option linter.unusedVariables false

theorem pow256_bd (k : Nat) (h : k ≤ 4) : (1 : Int) ≤ 256 ^ k ∧ (256 : Int) ^ k ≤ 4294967296 := by
  rcases (show k = 0 ∨ k = 1 ∨ k = 2 ∨ k = 3 ∨ k = 4 from by omega) with rfl | rfl | rfl | rfl | rfl <;> decide

theorem most_pow (s : Nat) (h1 : 1 ≤ s) (h2 : s ≤ 4) : most s + 1 = (256 : Int) ^ s := by
  rcases (show s = 1 ∨ s = 2 ∨ s = 3 ∨ s = 4 from by omega) with rfl | rfl | rfl | rfl <;> decide

end Go.Proofs.YtfbloliakmehbaaGreat
/-! The contracts of the document's own answers for names (vaultref1.Name, NameBytes, ReadName). (Part of the proof of NumTells.) -/
namespace Go.Proofs.YtfbloliakmehbaaGreat
open Go.RowKit
set_option linter.unusedVariables false

theorem empty_yes (s : ByteArray) (h : s.size = 0) : s.toList.isEmpty = true := by
  have he : s = ByteArray.empty := by simpa using h
  have := Classical.propDecidable (s = ByteArray.empty)
  rw [← decide_eq_emptyBytes]
  exact decide_eq_true he

theorem empty_no (s : ByteArray) (h : 1 ≤ s.size) : s.toList.isEmpty = false := by
  have := Classical.propDecidable (s = ByteArray.empty)
  rw [← decide_eq_emptyBytes]
  refine decide_eq_false ?_
  intro he
  rw [he] at h
  simp at h

theorem ltr_bd (c : Int) (h : ltr c = true) : 97 ≤ c ∧ c ≤ 122 := by simpa [ltr] using h
theorem ltr_no (c : Int) (h : ltr c = false) : c < 97 ∨ 122 < c := by
  by_cases h1 : 97 ≤ c
  · by_cases h2 : c ≤ 122
    · simp [ltr, h1, h2] at h
    · omega
  · omega

/-- Zeros, of which the first k are those of s. -/
def nameK (s : ByteArray) : Nat → List Int
  | 0 => zerosB 8
  | k + 1 => (nameK s k).set k ((strL s).getD k 0)
theorem length_nameK (s : ByteArray) (k : Nat) : (nameK s k).length = 8 := by
  induction k with
  | zero => exact length_zerosB 8
  | succ k ih => simp [nameK, ih]
theorem nameK_getD (s : ByteArray) (k : Nat) (hk : k ≤ 8) : ∀ j, j < 8 → (nameK s k).getD j 0 = if j < k then (strL s).getD j 0 else 0 := by
  induction k with
  | zero =>
    intro j hj
    have := zeros_getD 8 0 j
    simpa [nameK] using this
  | succ k ih =>
    intro j hj
    have hlen := length_nameK s k
    by_cases h : j = k
    · subst h
      rw [if_pos (by omega)]
      simp only [nameK, List.getD]
      rw [List.getElem?_set_self (by omega)]
      rfl
    · have h1 := ih (by omega) j hj
      simp only [nameK, List.getD] at h1 ⊢
      rw [List.getElem?_set_ne (by omega), h1]
      by_cases h2 : j < k
      · rw [if_pos h2, if_pos (by omega)]
      · rw [if_neg h2, if_neg (by omega)]
theorem nameK_size (s : ByteArray) (h : s.size ≤ 8) : nameK s s.size = nameL s := by
  apply ext_getD (by rw [length_nameK, length_nameL s h])
  intro j hj
  rw [length_nameK] at hj
  rw [nameK_getD s s.size h j hj]
  by_cases h1 : j < s.size
  · rw [if_pos h1, nameL_lo s j h1]
  · rw [if_neg h1, nameL_hi s j (by omega)]

theorem drop_getD (l : List Int) (n j : Nat) : (l.drop n).getD j 0 = l.getD (n + j) 0 := by simp [List.getD]

end Go.Proofs.YtfbloliakmehbaaGreat
/-! What package num's functions and the document's own answers come to, each as one plain function: Put, Get, PutName, GetName. (Part of the proof of NumTells.) -/
namespace Go.Proofs.YtfbloliakmehbaaGreat
open Go.RowKit
set_option linter.unusedVariables false

theorem get_any (a : Option Addr) (cap : Nat) (l : List Int) (p s : Int) (w : World) (hbs : Bs w a cap l) :
    Calls Tryz.prog 142 #[.slice a l.length cap, .int .i64 p, .int .i64 s] w fun e w' => e = .returned (.tuple #[.int .i64 (getOut l p s).1, errV (getOut l p s).2]) ∧ w = w' := by
  have hl := hbs.2.2.1
  by_cases h1 : 1 ≤ s ∧ s ≤ 4
  · by_cases h2 : 0 ≤ p ∧ p ≤ l.length - s
    · have e : getOut l p s = (getV l p.toNat s.toNat, 0) := by
        unfold getOut
        rw [if_neg (fun h => h h1), if_neg (fun h => h h2)]
      rw [e]
      exact get_yes a cap l p s w hbs h1.1 h1.2 h2.1 h2.2
    · have e : getOut l p s = (0, 3) := by
        unfold getOut
        rw [if_neg (fun h => h h1), if_pos h2]
      rw [e]
      exact get_shape a l.length cap p s w (by omega) h1.1 h1.2 h2
  · have e : getOut l p s = (0, 1) := by
      unfold getOut
      rw [if_pos h1]
    rw [e]
    exact get_size a l.length cap p s w h1

/-- What Put answers: the bytes, and the error's number. -/
def putOut (l : List Int) (p n s : Int) : List Int × Int :=
  if ¬ (1 ≤ s ∧ s ≤ 4) ∨ n < 0 ∨ most s < n then ([], 1) else if ¬ (0 ≤ p ∧ p ≤ l.length - s) then ([], 3) else (putK l p.toNat n s.toNat, 0)

theorem put_any (a : Option Addr) (cap : Nat) (l : List Int) (p n s : Int) (w : World) (hbs : Bs w a cap l) :
    Calls Tryz.prog 137 #[.slice a l.length cap, .int .i64 p, .int .i64 n, .int .i64 s] w (Ends w (putOut l p n s).1 (errV (putOut l p n s).2)) := by
  have hl := hbs.2.2.1
  by_cases h1 : 1 ≤ s ∧ s ≤ 4
  · by_cases h2 : n < 0
    · have e : putOut l p n s = ([], 1) := by unfold putOut; rw [if_pos (Or.inr (Or.inl h2))]
      rw [e]
      exact (put_neg a l.length cap p n s w h1.1 h1.2 h2).mono fun e w' ⟨he, hw⟩ => ends_nil he hw
    · by_cases h3 : most s < n
      · have e : putOut l p n s = ([], 1) := by unfold putOut; rw [if_pos (Or.inr (Or.inr h3))]
        rw [e]
        exact (put_most a l.length cap p n s w h1.1 h1.2 h2 h3).mono fun e w' ⟨he, hw⟩ => ends_nil he hw
      · have hno : ¬ (¬ (1 ≤ s ∧ s ≤ 4) ∨ n < 0 ∨ most s < n) := fun h => h.elim (fun h => h h1) (fun h => h.elim h2 h3)
        by_cases h4 : 0 ≤ p ∧ p ≤ l.length - s
        · have e : putOut l p n s = (putK l p.toNat n s.toNat, 0) := by unfold putOut; rw [if_neg hno, if_neg (fun h => h h4)]
          rw [e]
          obtain ⟨P, rfl⟩ := Int.eq_ofNat_of_zero_le h4.1
          obtain ⟨S, rfl⟩ := Int.eq_ofNat_of_zero_le (show 0 ≤ s from by omega)
          rw [Int.toNat_natCast, Int.toNat_natCast]
          refine (put_ok a cap l P S n w hbs ⟨h1.1, h1.2, by omega, by omega, h4.1, h4.2⟩).mono fun e w' ⟨g, he, hg, hk, hb⟩ => ?_
          have hlen := length_putK l P n S
          exact ⟨some ⟨g, 0, none⟩, (putK l P n S).length, by rw [hlen]; exact he, hk.bs (byt_putK hbs.1 P n S) (by rw [hlen]; exact hl), hb⟩
        · have e : putOut l p n s = ([], 3) := by unfold putOut; rw [if_neg hno, if_pos h4]
          rw [e]
          exact (put_shape a l.length cap p n s w (by omega) h1.1 h1.2 h2 h3 h4).mono fun e w' ⟨he, hw⟩ => ends_nil he hw
  · have e : putOut l p n s = ([], 1) := by unfold putOut; rw [if_pos (Or.inl h1)]
    rw [e]
    exact (put_size a l.length cap p n s w h1).mono fun e w' ⟨he, hw⟩ => ends_nil he hw

theorem putName_any (s : ByteArray) (w : World) (hs : s.size ≤ 140737488351232) (L : List Int) (x : Int) (h : (NameOk s ∧ L = nameL s ∧ x = 0) ∨ (¬ NameOk s ∧ L = [] ∧ x = 2)) :
    Calls Tryz.prog 124 #[.string s] w (Ends w L (errV x)) := by
  rcases h with ⟨hn, rfl, rfl⟩ | ⟨hn, rfl, rfl⟩
  · refine (putName_yes s w hn.1 hn.2.1 hn.2.2).mono fun e w' ⟨g, he, hg, hk, hb⟩ => ?_
    have hlen := length_nameL s hn.2.1
    exact ⟨some ⟨g, 0, none⟩, (nameL s).length, by rw [hlen]; exact he, hk.bs (byt_nameL s) (by rw [hlen]; decide), hb⟩
  · exact (putName_fail s w hs hn).mono fun e w' ⟨he, hb⟩ => ⟨none, 0, he, bs_nil _, hb⟩

/-- How many letters stand ahead; how many zeros behind them. -/
def lettersN (l : List Int) : Nat := fstN (fun j => (!ltr (l.getD j 0))) l.length
def zerosN (l : List Int) (i : Nat) : Nat := fstN (fun j => ((l.drop i).getD j 0 != 0)) (l.drop i).length
/-- What GetName answers: the name, and the error's number. -/
def readOut (l : List Int) : ByteArray × Int :=
  if ¬ l.length = 8 then (ByteArray.empty, 3) else if lettersN l = 0 ∨ zerosN l (lettersN l) < l.length - lettersN l then (ByteArray.empty, 2) else (strOf (l.take (lettersN l)), 0)

theorem getName_any (a : Option Addr) (cap : Nat) (l : List Int) (w : World) (hbs : Bs w a cap l) :
    Calls Tryz.prog 186 #[.slice a l.length cap] w fun e w' => e = .returned (.tuple #[.string (readOut l).1, errV (readOut l).2]) ∧ Below w.heap.size w w' := by
  have hl := hbs.2.2.1
  by_cases h8 : l.length = 8
  · have hi := first_fstN (fun j => (!ltr (l.getD j 0))) l.length
    have hz := first_fstN (fun j => ((l.drop (lettersN l)).getD j 0 != 0)) (l.drop (lettersN l)).length
    by_cases h0 : lettersN l = 0
    · have e : readOut l = (ByteArray.empty, 2) := by unfold readOut; rw [if_neg (fun h => h h8), if_pos (Or.inl h0)]
      rw [e]
      exact getName_none a cap l w hbs h8 (lettersN l) (zerosN l (lettersN l)) hi hz h0
    · by_cases h1 : zerosN l (lettersN l) < l.length - lettersN l
      · have e : readOut l = (ByteArray.empty, 2) := by unfold readOut; rw [if_neg (fun h => h h8), if_pos (Or.inr h1)]
        rw [e]
        exact getName_more a cap l w hbs h8 (lettersN l) (zerosN l (lettersN l)) hi hz h0 h1
      · have e : readOut l = (strOf (l.take (lettersN l)), 0) := by unfold readOut; rw [if_neg (fun h => h h8), if_neg (fun h => h.elim h0 h1)]
        rw [e]
        exact getName_yes a cap l w hbs h8 (lettersN l) (zerosN l (lettersN l)) hi hz h0 (by omega)
  · have e : readOut l = (ByteArray.empty, 3) := by unfold readOut; rw [if_pos h8]
    rw [e]
    exact getName_len a l.length cap w hl h8

theorem size_strOf (l : List Int) : (strOf l).size = l.length := by
  have h := congrArg List.length (strOf_data l)
  simpa using h

/-- A name stands ahead, and zeros behind it: that is how many letters stand ahead. -/
theorem name_at (l : List Int) (hb : Byt l) (h8 : l.length = 8) (n : Nat) (hn : n ≤ 8) (hz : ∀ j, j < 8 - n → (l.drop n).getD j 0 = 0) : NameOk (strOf (l.take n)) ↔ (lettersN l = n ∧ ¬ n = 0) := by
  have hsz : (strOf (l.take n)).size = n := by rw [size_strOf]; simp; omega
  have hsl : strL (strOf (l.take n)) = l.take n := strL_strOf _ (fun z hz => hb z (List.mem_of_mem_take hz))
  have hget : ∀ j, j < n → (l.take n).getD j 0 = l.getD j 0 := fun j hj => by simp [List.getD, hj]
  have hnz : n < 8 → ltr (l.getD n 0) = false := fun h => by
    have := hz 0 (by omega)
    rw [drop_getD, Nat.add_zero] at this
    rw [this]; rfl
  have hfirst := first_fstN (fun j => (!ltr (l.getD j 0))) l.length
  constructor
  · intro ⟨h1, h2, h3⟩
    rw [hsz] at h1 h2 h3
    rw [hsl] at h3
    refine ⟨hfirst.unique ⟨by omega, fun j hj => ?_, fun h => ?_⟩, by omega⟩
    · have := h3.2.1 j hj
      show (!ltr (l.getD j 0)) = false
      rw [← hget j hj]; exact this
    · show (!ltr (l.getD n 0)) = true
      rw [hnz (by omega)]; rfl
  · intro ⟨h1, h2⟩
    unfold NameOk
    rw [hsz, hsl]
    refine ⟨by omega, hn, Nat.le_refl _, fun j hj => ?_, fun h => absurd h (Nat.lt_irrefl _)⟩
    show (!ltr ((l.take n).getD j 0)) = false
    rw [hget j hj]
    have h3 : fstN (fun j => (!ltr (l.getD j 0))) l.length = n := h1
    rw [h3] at hfirst
    exact hfirst.2.1 j hj

end Go.Proofs.YtfbloliakmehbaaGreat
