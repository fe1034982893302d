/-
  Plain notions for byte slices in memory: what a slice value reads as, a block of bytes that a call made, numbers of bytes. (Part of the proofs over package num.)
-/
import Derived.WalkKit
import Derived.Laws.CopyOwn
import Derived.OpenShut
namespace Go.Proofs.YtllpeknpplpgeaaGreatDoor
open Go.RowKit
set_option linter.unusedVariables false

theorem hide {p : Prop} (h : p) : Hid p := h
theorem unhide {p : Prop} (h : Hid p) : p := h

/-- Each number is a byte. -/
def Byt (l : List Int) : Prop := ∀ z ∈ l, 0 ≤ z ∧ z ≤ 255

/-- The slice value '.slice a l.length cap' reads in w as the bytes l. -/
def Bs (w : World) (a : Option Addr) (cap : Nat) (l : List Int) : Prop :=
  Byt l ∧ l.length ≤ cap ∧ l.length ≤ 140737488351232 ∧ (a = none → cap = 0) ∧
  (l ≠ [] → ∃ b off, a = some ⟨b, off, none⟩ ∧ ∀ i, i < l.length → w.cell? ⟨b, off + i, none⟩ = some (.int .u8 (l.getD i 0)))

/-- Block g is a row of the bytes l, of its own. -/
def Blk (w : World) (g : Nat) (l : List Int) : Prop := w.heap[g]? = some (.cells (l.map (Value.int .u8)).toArray 5 (0, 0))

theorem addr_add (b off j : Nat) : Addr.add ⟨b, off, none⟩ j = ⟨b, off + j, none⟩ := by
  unfold Addr.add; split <;> simp_all

theorem Byt.getD {l : List Int} (h : Byt l) (i : Nat) : 0 ≤ l.getD i 0 ∧ l.getD i 0 ≤ 255 := by
  by_cases hi : i < l.length
  · have : l.getD i 0 = l[i] := by simp [List.getD, hi]
    rw [this]; exact h _ (List.getElem_mem hi)
  · have : l.getD i 0 = 0 := by simp [List.getD, List.getElem?_eq_none (by omega : l.length ≤ i)]
    rw [this]; omega

theorem Blk.cell {w : World} {g : Nat} {l : List Int} (h : Blk w g l) (i : Nat) (hi : i < l.length) : w.cell? ⟨g, i, none⟩ = some (.int .u8 (l.getD i 0)) := by
  rw [cell_of_row w g i _ 5 (0, 0) h]; simp [hi, List.getD]

theorem Blk.frozen {w : World} {g : Nat} {l : List Int} (h : Blk w g l) (i : Nat) : w.frozen? ⟨g, i, none⟩ = false := frozen_of_row w g i _ 5 h

theorem Blk.lt {w : World} {g : Nat} {l : List Int} (h : Blk w g l) : g < w.heap.size := by
  unfold Blk at h
  rcases Nat.lt_or_ge g w.heap.size with h' | h'
  · exact h'
  · rw [Array.getElem?_eq_none h'] at h; cases h

theorem Blk.bs {w : World} {g : Nat} {l : List Int} (h : Blk w g l) (hb : Byt l) (hl : l.length ≤ 140737488351232) : Bs w (some ⟨g, 0, none⟩) l.length l :=
  ⟨hb, Nat.le_refl _, hl, fun e => (by cases e), fun _ => ⟨g, 0, rfl, fun i hi => by rw [Nat.zero_add]; exact h.cell i hi⟩⟩

theorem Blk.below {w w' : World} {g : Nat} {l : List Int} (h : Blk w g l) (hb : Below w.heap.size w w') : Blk w' g l := by
  unfold Blk; rw [hb.block g h.lt]; exact h

theorem Bs.below {w w' : World} {a : Option Addr} {cap : Nat} {l : List Int} (h : Bs w a cap l) (hb : Below w.heap.size w w') : Bs w' a cap l := by
  obtain ⟨h1, h2, h3, h4, h5⟩ := h
  refine ⟨h1, h2, h3, h4, fun hne => ?_⟩
  obtain ⟨b, off, rfl, hc⟩ := h5 hne
  refine ⟨b, off, rfl, fun i hi => ?_⟩
  have h6 := hc i hi
  rw [← h6]; exact hb.cell (block_lt_of_cell h6)

/-- What a slice of bytes that came in reads as. -/
theorem bs_of_row {w : World} {x : Addr} {len cap : Nat} {zs : List Int} (hl : len ≤ cap) (hm : cap ≤ 140737488351232) (hz : zs.length = cap) (hcell : ∀ i, i < zs.length → w.cell? (x.add i) = some (.int .u8 (zs.getD i 0))) (hwz : ∀ n ∈ zs, (Lit.int .u8 n).wf = true) :
    Bs w (some x) cap (zs.take len) ∧ (zs.take len).length = len := by
  have hlen : (zs.take len).length = len := by simp; omega
  refine ⟨⟨fun z h => bounds_u8 (hwz z (List.mem_of_mem_take h)), by omega, by omega, fun h => (by cases h), ?_⟩, hlen⟩
  intro hne
  have hpos : 0 < zs.length := by
    cases zs with
    | nil => simp at hne
    | cons _ _ => simp
  obtain ⟨b, off, spot⟩ := x
  have hspot : spot = none := by simpa [Addr.add] using World.cell?_spot (hcell 0 hpos)
  subst hspot
  refine ⟨b, off, rfl, fun i hi => ?_⟩
  have h1 := hcell i (by rw [hlen] at hi; omega)
  rw [addr_add] at h1
  rw [h1]
  rw [hlen] at hi
  simp [List.getD, hi]

/-- The number of bytes, the low one first. -/
def numOf : List Int → Int
  | [] => 0
  | c :: r => c + 256 * numOf r

theorem numOf_snoc (l : List Int) (c : Int) : numOf (l ++ [c]) = numOf l + c * 256 ^ l.length := by
  induction l with
  | nil => simp [numOf]
  | cons d r ih =>
    have e : (256 : Int) ^ (r.length + 1) = 256 * 256 ^ r.length := by rw [Int.pow_succ, Int.mul_comm]
    simp only [List.cons_append, numOf, ih, List.length_cons, e, Int.mul_add]
    rw [show 256 * (c * 256 ^ r.length) = c * (256 * 256 ^ r.length) from by rw [← Int.mul_assoc, Int.mul_comm 256 c, Int.mul_assoc]]
    omega

theorem numOf_bd (l : List Int) (h : Byt l) : 0 ≤ numOf l ∧ numOf l < 256 ^ l.length := by
  induction l with
  | nil => simp [numOf]
  | cons d r ih =>
    have e : (256 : Int) ^ (r.length + 1) = 256 * 256 ^ r.length := by rw [Int.pow_succ, Int.mul_comm]
    have h1 := h d (by simp)
    have h2 := ih (fun z hz => h z (by simp [hz]))
    simp only [numOf, List.length_cons, e]
    omega

/-- What stands in size bytes of l from at on. -/
def getV (l : List Int) (p s : Nat) : Int := numOf ((l.drop p).take s)

theorem getV_succ (l : List Int) (p k : Nat) (h : p + k < l.length) : getV l p (k + 1) = getV l p k + l.getD (p + k) 0 * 256 ^ k := by
  unfold getV
  have h1 : k < (l.drop p).length := by simp; omega
  rw [List.take_succ_eq_append_getElem h1, numOf_snoc]
  have h2 : ((l.drop p).take k).length = k := by simp; omega
  rw [h2]
  have h3 : l.getD (p + k) 0 = l[p + k] := by simp [List.getD, h]
  rw [h3]; simp

theorem Byt.sub {l : List Int} (h : Byt l) (p s : Nat) : Byt ((l.drop p).take s) :=
  fun z hz => h z (List.mem_of_mem_drop (List.mem_of_mem_take hz))

theorem getV_bd (l : List Int) (h : Byt l) (p k : Nat) (hk : p + k ≤ l.length) : 0 ≤ getV l p k ∧ getV l p k < 256 ^ k := by
  have := numOf_bd _ (h.sub p k)
  have h2 : ((l.drop p).take k).length = k := by simp; omega
  rw [h2] at this; exact this

/-- l, in which the lowest k bytes of n stand from p on. -/
def putK (l : List Int) (p : Nat) (n : Int) : Nat → List Int
  | 0 => l
  | k + 1 => (putK l p n k).set (p + k) (n / 2 ^ (8 * k) % 256)

theorem length_putK (l : List Int) (p : Nat) (n : Int) (k : Nat) : (putK l p n k).length = l.length := by
  induction k with
  | zero => rfl
  | succ k ih => simp [putK, ih]

theorem byt_set {l : List Int} (h : Byt l) (i : Nat) (c : Int) (hc : 0 ≤ c ∧ c ≤ 255) : Byt (l.set i c) := by
  intro z hz
  rcases List.mem_or_eq_of_mem_set hz with h1 | h1
  · exact h z h1
  · rw [h1]; exact hc

theorem byt_putK {l : List Int} (h : Byt l) (p : Nat) (n : Int) (k : Nat) : Byt (putK l p n k) := by
  induction k with
  | zero => exact h
  | succ k ih => exact byt_set ih _ _ (by omega)

theorem Blk.set {w : World} {g : Nat} {l : List Int} (h : Blk w g l) (i : Nat) (c : Int) : Blk (w.setCell ⟨g, i, none⟩ (.int .u8 c)) g (l.set i c) := by
  unfold Blk
  have := heap_setCell_same w g i (l.map (Value.int .u8)).toArray 5 (.int .u8 c) h
  rw [this]
  simp [List.map_set]

/-- 'or' of two numbers whose bits are apart is their sum. -/
theorem or_add (n c k : Nat) (h : n < 2 ^ k) : n ||| c * 2 ^ k = n + c * 2 ^ k := by
  have := Nat.two_pow_add_eq_or_of_lt h c
  rw [Nat.mul_comm, Nat.or_comm]
  omega

theorem i64_or_nat (a b : Nat) (ha : a < 4611686018427387904) (hb : b < 4611686018427387904) : bits .or .i64 (a : Int) (b : Int) = ((a ||| b : Nat) : Int) := by
  have hx : a ||| b < 2 ^ 62 := Nat.or_lt_two_pow (by omega) (by omega)
  show IntKind.i64.wrap ((BitVec.ofInt 64 (a : Int) ||| BitVec.ofInt 64 (b : Int)).toNat : Int) = _
  rw [BitVec.toNat_or, ofInt_u64 a (by omega), ofInt_u64 b (by omega), IntKind.wrap_i64]
  generalize a ||| b = c at *
  omega

theorem or_step (n c : Int) (k : Nat) (hk : k ≤ 3) (hn : 0 ≤ n ∧ n < 256 ^ k) (hc : 0 ≤ c ∧ c ≤ 255) : bits .or .i64 n (wrap64 (c * 2 ^ (8 * k))) = n + c * 256 ^ k := by
  obtain ⟨N, rfl⟩ := Int.eq_ofNat_of_zero_le hn.1
  obtain ⟨C, rfl⟩ := Int.eq_ofNat_of_zero_le hc.1
  have h256 : (256 : Int) ^ k = 2 ^ (8 * k) := by rw [Int.pow_mul]; rfl
  have hN : N < 2 ^ (8 * k) := by
    have h := hn.2; rw [h256] at h; exact_mod_cast h
  have hC : (C : Int) * 2 ^ (8 * k) = ((C * 2 ^ (8 * k) : Nat) : Int) := by push_cast; rfl
  have hle : C * 2 ^ (8 * k) < 4611686018427387904 := by
    have h1 : 2 ^ (8 * k) ≤ 2 ^ 24 := Nat.pow_le_pow_right (by omega) (by omega)
    have h2 : C ≤ 255 := by omega
    exact Nat.lt_of_le_of_lt (Nat.mul_le_mul h2 h1) (by decide)
  have hNle : N < 4611686018427387904 := by
    have h1 : 2 ^ (8 * k) ≤ 2 ^ 24 := Nat.pow_le_pow_right (by omega) (by omega)
    omega
  rw [h256, hC]
  have hw : wrap64 ((C * 2 ^ (8 * k) : Nat) : Int) = ((C * 2 ^ (8 * k) : Nat) : Int) := by
    generalize C * 2 ^ (8 * k) = m at *
    unfold wrap64; omega
  rw [hw, i64_or_nat _ _ hNle hle, or_add N C (8 * k) hN]
  push_cast; rfl
end Go.Proofs.YtllpeknpplpgeaaGreatDoor
