/-
  Laws of the walk for byte slices that a call makes: make([]byte, n), copy(out, b), copy(out, s). (Part of the proofs over package num.)
-/
import Derived.Test.YtllpeknpplpgeaaGreatDoorBase
import Derived.Lib.BufferWrite
import Derived.Laws.BytesString
namespace Go.Proofs.YtllpeknpplpgeaaGreatDoor
open Go.RowKit
set_option linter.unusedVariables false

/-- So many zeros. -/
def zerosB (n : Nat) : List Int := List.replicate n 0
theorem length_zerosB (n : Nat) : (zerosB n).length = n := by simp [zerosB]
theorem byt_zerosB (n : Nat) : Byt (zerosB n) := fun z hz => by
  have := (List.mem_replicate.1 hz).2; omega

theorem made_zeros (n : Nat) : (madeCells (Value.int .u8 0).cells n).toList = (zerosB n).map (Value.int .u8) := by
  apply List.ext_getElem
  · simp [madeCells, zerosB]
  · intro i h1 h2
    simp [madeCells, zerosB, Value.cells, Nat.mod_one]

theorem wpList_make_u8 {P : Program} {w : World} {ops : Array Oper} {rest : List Oper} {o : Oper} {a : Act} {Q : Exit → Act → World → Prop}
    (hg : o.guard = none) (l c : Operand) (t : TypeId) (hop : o.op = Op.makeSlice t l c)
    (i : TypeInfo) (h1 : P.underlying t = some (.slice 5)) (h2 : P.info? 5 = some i) (h3 : i.zero = some (.int .u8 0)) (h4 : i.size = 1) (h5 : i.bytes = 1)
    (kl kc : IntKind) (L C : Int) (n : Nat) (hl : a.eval l = .int kl L) (hc : a.eval c = .int kc C) (hL : L = (n : Int)) (hC : C = (n : Int)) (b2 : n ≤ 281474976710656)
    (hK : ∀ w', Blk w' w.heap.size (zerosB n) → w'.heap.size = w.heap.size + 1 → Below w.heap.size w w' → wpList P ops Q rest (a.put o.dst (.slice (some ⟨w.heap.size, 0, none⟩) n n)) w') :
    wpList P ops Q (o :: rest) a w := by
  refine wpList_plain hg fun K hK' => ?_
  have hrun := run_make (P := P) w t 5 i _ h1 h2 h3 kl kc n n (by omega) (by omega) (by rw [h5]; omega) (by omega)
  subst hL
  subst hC
  unfold Oper.wp
  simp [execOp, hop, hl, hc, hrun, Result.andThen]
  refine hK' _ _ (hK _ ?_ (by simp) ((Below.refl _ _).alloc (Nat.le_refl _) _))
  unfold Blk
  rw [heap_alloc_new, h4, Nat.mul_one]
  rw [← made_zeros, Array.toArray_toList]

theorem oneCell_u8 (l : List Int) : ∀ v ∈ l.map (Value.int .u8), v.oneCell' = true := by
  intro v hv
  obtain ⟨z, _, rfl⟩ := List.mem_map.1 hv
  rfl

theorem splice_zero {α : Type} (L cs : List α) (h : cs.length = L.length) : splice L 0 cs = cs := by
  simp [splice, h]

/-- The world in which row g has become the bytes l. (A name of its own, so that the walk leaves it standing.) -/
def rowW (w : World) (g : Nat) (l : List Int) : World := w.setRow g (l.map (Value.int .u8)).toArray

theorem rowW_blk {w : World} {g : Nat} {z : List Int} (hg : Blk w g z) (l : List Int) : Blk (rowW w g l) g l :=
  setRow_heap w g _ _ 5 _ hg
theorem rowW_below {w w0 : World} {B g : Nat} (l : List Int) (hb : Below B w0 w) (hBg : B ≤ g) : Below B w0 (rowW w g l) := below_setRow hb hBg _
theorem rowW_size (w : World) (g : Nat) (l : List Int) : (rowW w g l).heap.size = w.heap.size := by simp [rowW]

/-- 'copy(out, b)': out a row of its own as long as b. -/
theorem run_copy_u8 {P : Program} (w : World) (dT sT ty : TypeId) (hu : P.underlying dT = some (.slice 5)) (hsz : (P.info? 5).map (·.size) = some 1)
    (g dCap : Nat) (sp : Option Addr) (sCap : Nat) (z l : List Int) (hz : z.length = l.length) (hg : Blk w g z) (hb : Bs w sp sCap l) :
    (Builtin.copy_ #[dT, sT] ty #[.slice (some ⟨g, 0, none⟩) l.length dCap, .slice sp l.length sCap]).run P w = .ok (.int .i64 l.length) (rowW w g l) := by
  have hg' : w.heap[g]? = some (.cells (z.map (Value.int .u8)).toArray 5 (0, 0)) := hg
  by_cases h0 : l = []
  · subst h0
    have hz0 : z = [] := List.eq_nil_of_length_eq_zero hz
    have hrun := run_copy_none (P := P) w dT sT ty 5 (some ⟨g, 0, none⟩) sp 0 dCap 0 sCap hu hsz (by simp)
    have hself : rowW w g [] = w := by
      subst hz0
      exact setRow_self w g _ 5 (0, 0) hg'
    rw [hself]
    simpa [goInt] using hrun
  · obtain ⟨b, off, rfl, hc⟩ := hb.2.2.2.2 h0
    have hrun := run_copy_row (P := P) w dT sT ty 5 g 0 l.length dCap ⟨b, off, none⟩ l.length sCap _ 5 (l.map (Value.int .u8)) hu hsz hg' (by simp) ?_ (by simp [hz]) (oneCell_u8 l)
    · have hdz : List.drop l.length (z.map (Value.int .u8)) = [] := List.drop_eq_nil_of_le (by simp [hz])
      simpa [hdz, goInt, rowW] using hrun
    · intro j v hj
      have hjl : j < l.length := by
        rcases Nat.lt_or_ge j l.length with h1 | h1
        · exact h1
        · rw [List.getElem?_eq_none (by simpa using h1)] at hj; cases hj
      have := hc j hjl
      simp [hjl] at hj
      subst hj
      rw [addr_add]
      simpa [List.getD, hjl] using this

/-- The bytes of a text, as numbers. -/
def strL (s : ByteArray) : List Int := s.data.toList.map fun c => (c.toNat : Int)
theorem length_strL (s : ByteArray) : (strL s).length = s.size := by simp [strL]
theorem strL_getD (s : ByteArray) (i : Nat) (h : i < s.size) : (strL s).getD i 0 = (s[i].toNat : Int) := by
  have h2 : i < s.data.toList.length := by simpa using h
  simp [strL, List.getD]
  rw [Array.getElem?_eq_getElem (by simpa using h)]
  rfl
theorem byt_strL (s : ByteArray) : Byt (strL s) := by
  intro z hz
  obtain ⟨c, _, rfl⟩ := List.mem_map.1 hz
  have := c.toNat_lt
  omega

/-- 'copy(out, s)': out a row of its own in which s has room. -/
theorem run_copy_str {P : Program} (w : World) (dT sT ty : TypeId) (hu : P.underlying dT = some (.slice 5)) (hsz : (P.info? 5).map (·.size) = some 1)
    (g dLen dCap : Nat) (s : ByteArray) (z : List Int) (hz : z.length = dLen) (hg : Blk w g z) (hs : s.size ≤ dLen) :
    (Builtin.copy_ #[dT, sT] ty #[.slice (some ⟨g, 0, none⟩) dLen dCap, .string s]).run P w = .ok (.int .i64 s.size) (rowW w g (strL s ++ z.drop s.size)) := by
  have hg' : w.heap[g]? = some (.cells (z.map (Value.int .u8)).toArray 5 (0, 0)) := hg
  have hrun := Lib.run_copy_row_string (P := P) w dT sT ty 5 g 0 dLen dCap s _ 5 hu hsz hg' hs (by simp [hz]; exact hs)
  rw [hrun]
  unfold rowW
  simp [goInt, strL, Lib.byteCells, List.map_drop, Function.comp_def]

/-! ### Cuts of a byte slice, and its text -/
theorem Bs.drop {w : World} {a : Option Addr} {cap : Nat} {l : List Int} (hb : Bs w a cap l) (i : Nat) (hi : i ≤ l.length) : Bs w (if cap = i then a else a.map (·.add i)) (cap - i) (l.drop i) := by
  obtain ⟨b1, b2, b3, b4, b5⟩ := hb
  refine ⟨fun z hz => b1 z (List.mem_of_mem_drop hz), by simp; omega, by simp; omega, ?_, ?_⟩
  · intro h
    split at h
    · omega
    · have : a = none := by cases a <;> simp_all
      have := b4 this; omega
  · intro hne
    have hlt : i < l.length := by
      rcases Nat.lt_or_ge i l.length with h | h
      · exact h
      · exact absurd (List.drop_eq_nil_of_le h) hne
    have hnil : l ≠ [] := by intro h; subst h; simp at hlt
    obtain ⟨b, off, rfl, hc⟩ := b5 hnil
    refine ⟨b, off + i, ?_, ?_⟩
    · rw [if_neg (by omega)]
      simp [addr_add]
    · intro j hj
      have := hc (i + j) (by simp at hj; omega)
      rw [← Nat.add_assoc] at this
      rw [this]
      simp [List.getD]

theorem Bs.take {w : World} {a : Option Addr} {cap : Nat} {l : List Int} (hb : Bs w a cap l) (i : Nat) : Bs w a cap (l.take i) := by
  obtain ⟨b1, b2, b3, b4, b5⟩ := hb
  refine ⟨fun z hz => b1 z (List.mem_of_mem_take hz), by simp; omega, by simp; omega, b4, ?_⟩
  intro hne
  have hnil : l ≠ [] := by intro h; subst h; simp at hne
  obtain ⟨b, off, rfl, hc⟩ := b5 hnil
  refine ⟨b, off, rfl, fun j hj => ?_⟩
  have h1 : j < i ∧ j < l.length := by simp at hj; omega
  rw [hc j h1.2]
  simp [List.getD, h1.1]

theorem run_size_u8 {P : Program} (w : World) (hsz : (P.info? 5).map (·.size) = some 1) : (sizeOf 5).run P w = .ok 1 w := by
  cases hq : P.info? 5 with
  | none => simp [hq] at hsz
  | some i =>
    have : i.size = 1 := by simpa [hq] using hsz
    simp [sizeOf, typeInfo, hq, this]

theorem elem_u8 {P : Program} {t : TypeId} (hu : P.underlying t = some (.slice 5)) : P.elem t = 5 := by simp [Program.elem, hu]

/-- 'b[i:]' -/
theorem slice_lo {P : Program} {t : TypeId} (hu : P.underlying t = some (.slice 5)) (hsz : (P.info? 5).map (·.size) = some 1) {w : World} {a : Option Addr} {cap : Nat} {l : List Int} (hb : Bs w a cap l) (i : Nat) (hi : i ≤ l.length) :
    ∃ a', (∀ w', (Instr.slice t (.slice a l.length cap) (some (.int .i64 i)) none none).run P w' = .ok (.slice a' (l.length - i) (cap - i)) w') ∧ Bs w a' (cap - i) (l.drop i) := by
  have he := elem_u8 hu
  refine ⟨_, fun w' => ?_, hb.drop i hi⟩
  rw [run_slice_l (P := P) (w := w') t a l.length cap (by rw [he]; exact hu) .i64 i (by omega) (by omega), he, run_size_u8 w' hsz]
  simp [Result.andThen, sliced]

/-- 'b[:i]' -/
theorem slice_hi {P : Program} {t : TypeId} (hu : P.underlying t = some (.slice 5)) (hsz : (P.info? 5).map (·.size) = some 1) {w : World} {a : Option Addr} {cap : Nat} {l : List Int} (hb : Bs w a cap l) (i : Nat) (hi : i ≤ l.length) :
    ∃ a', (∀ w', (Instr.slice t (.slice a l.length cap) none (some (.int .i64 i)) none).run P w' = .ok (.slice a' i cap) w') ∧ Bs w a' cap (l.take i) := by
  have he := elem_u8 hu
  have hcap := hb.2.1
  refine ⟨a, fun w' => ?_, hb.take i⟩
  rw [run_slice_h (P := P) (w := w') t a l.length cap (by rw [he]; exact hu) .i64 i (by omega) (by omega), he, run_size_u8 w' hsz]
  simp only [Result.andThen, sliced]
  by_cases h0 : cap = 0
  · simp [h0]
  · rw [if_neg h0]
    cases a with
    | none => exact absurd (hb.2.2.2.1 rfl) h0
    | some x => simp [Addr.add]

/-- 'b[i:j]' -/
theorem slice_lohi {P : Program} {t : TypeId} (hu : P.underlying t = some (.slice 5)) (hsz : (P.info? 5).map (·.size) = some 1) {w : World} {a : Option Addr} {cap : Nat} {l : List Int} (hb : Bs w a cap l) (i j : Nat) (hij : i ≤ j) (hj : j ≤ l.length) :
    ∃ a', (∀ w', (Instr.slice t (.slice a l.length cap) (some (.int .i64 i)) (some (.int .i64 j)) none).run P w' = .ok (.slice a' (j - i) (cap - i)) w') ∧ Bs w a' (cap - i) ((l.drop i).take (j - i)) := by
  have he := elem_u8 hu
  have hcap := hb.2.1
  refine ⟨_, fun w' => ?_, (hb.drop i (by omega)).take (j - i)⟩
  rw [run_slice_lh (P := P) (w := w') t a l.length cap (by rw [he]; exact hu) .i64 .i64 i j (by omega) (by omega) (by omega), he, run_size_u8 w' hsz]
  simp [Result.andThen, sliced]

/-- The text of bytes. -/
def strOf (l : List Int) : ByteArray := l.foldl (fun r n => r.push (UInt8.ofNat n.toNat)) ByteArray.empty

theorem conv_str {P : Program} {t e : TypeId} (hu : P.underlying t = some (.slice 5)) (hu8 : P.underlying 5 = some (.int .u8)) (hs : P.underlying e = some .string) {w : World} {a : Option Addr} {cap : Nat} {l : List Int} (hb : Bs w a cap l) :
    (convert t e (.slice a l.length cap)).run P w = .ok (.string (strOf l)) w := by
  rw [run_convert_bytes_string w t e 5 a l.length cap hu hu8 hs]
  by_cases h0 : l = []
  · subst h0
    cases a with
    | none => simp [Conv.bytesToString, strOf]
    | some x =>
      have := run_bytesToString (P := P) w x 0 cap [] (by simpa using run_loadCells_list (P := P) (w := w) x [] (by simp))
      simpa [strOf] using this
  · obtain ⟨b, off, rfl, hc⟩ := hb.2.2.2.2 h0
    refine run_bytesToString (P := P) w ⟨b, off, none⟩ l.length cap l ?_
    have := run_loadCells_list (P := P) (w := w) ⟨b, off, none⟩ (l.map (Value.int .u8)) ?_
    · simpa using this
    · intro j v hj
      have hjl : j < l.length := by
        rcases Nat.lt_or_ge j l.length with h1 | h1
        · exact h1
        · rw [List.getElem?_eq_none (by simpa using h1)] at hj; cases hj
      have h2 := hc j hjl
      simp [hjl] at hj
      subst hj
      rw [addr_add]
      simpa [List.getD, hjl] using h2

theorem strOf_fold (l : List Int) : ∀ r : ByteArray, (l.foldl (fun r n => r.push (UInt8.ofNat n.toNat)) r).data.toList = r.data.toList ++ l.map (fun n => UInt8.ofNat n.toNat) := by
  induction l with
  | nil => intro r; simp
  | cons c l ih => intro r; simp only [List.foldl_cons, List.map_cons]; rw [ih]; simp [ByteArray.push]

theorem strOf_data (l : List Int) : (strOf l).data.toList = l.map (fun n => UInt8.ofNat n.toNat) := by
  unfold strOf; rw [strOf_fold]; simp

theorem strOf_strL (s : ByteArray) : strOf (strL s) = s := by
  have h : (strOf (strL s)).data.toList = s.data.toList := by
    rw [strOf_data]; simp [strL, Function.comp_def]
  cases s with
  | mk d => cases hq : strOf (strL ⟨d⟩) with
    | mk d' => rw [hq] at h; simp at h; rw [h]

theorem strL_strOf (l : List Int) (h : Byt l) : strL (strOf l) = l := by
  unfold strL
  rw [strOf_data, List.map_map]
  apply List.ext_getElem
  · simp
  · intro i h1 h2
    have := h l[i] (List.getElem_mem h2)
    simp
    omega
end Go.Proofs.YtllpeknpplpgeaaGreatDoor
