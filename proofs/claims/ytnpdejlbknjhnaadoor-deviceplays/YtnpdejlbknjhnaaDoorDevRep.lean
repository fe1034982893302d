/-
  How a device stands in memory, which blocks are its own, and what a call on it leaves alone. (Part of the proofs over package device.)
-/
import Derived.Test.YtnpdejlbknjhnaaDoorDevMem
import Derived.Test.YtnpdejlbknjhnaaDoorProg
namespace Go.Proofs.YtnpdejlbknjhnaaDoor
open Go.RowKit Go.MapKept
set_option linter.unusedVariables false

/-- Of w only the blocks in S have turned; of S' what is old is in S. -/
structure Turn (S S' : Nat → Prop) (w w' : World) : Prop where
  os : w'.os = w.os
  tape : w'.tape = w.tape
  output : w'.output = w.output
  size : w.heap.size ≤ w'.heap.size
  block : ∀ k, k < w.heap.size → ¬ S k → w'.heap[k]? = w.heap[k]?
  foot : ∀ k, k < w.heap.size → S' k → S k

theorem Turn.refl (S : Nat → Prop) (w : World) : Turn S S w w := ⟨rfl, rfl, rfl, Nat.le_refl _, fun _ _ _ => rfl, fun _ _ h => h⟩
theorem Turn.trans {S S' S'' : Nat → Prop} {a b c : World} (h : Turn S S' a b) (k : Turn S' S'' b c) : Turn S S'' a c :=
  ⟨k.os.trans h.os, k.tape.trans h.tape, k.output.trans h.output, Nat.le_trans h.size k.size,
    fun i hi hn => (k.block i (Nat.lt_of_lt_of_le hi h.size) (fun hs => hn (h.foot i hi hs))).trans (h.block i hi hn),
    fun i hi hs => h.foot i hi (k.foot i (Nat.lt_of_lt_of_le hi h.size) hs)⟩
theorem Turn.below {S S' : Nat → Prop} {w w' : World} {B : Nat} (h : Turn S S' w w') (hS : ∀ k, S k → B ≤ k) (hB : B ≤ w.heap.size) : Below B w w' :=
  ⟨h.os, h.tape, h.output, h.size, fun k hk => h.block k (Nat.lt_of_lt_of_le hk hB) (fun hs => by have := hS k hs; omega)⟩
theorem Turn.of_below {S : Nat → Prop} {w w' : World} (h : Below w.heap.size w w') : Turn S S w w' :=
  ⟨h.os, h.tape, h.output, h.size, fun k hk _ => h.block k hk, fun _ _ hs => hs⟩
theorem Turn.setCell {S : Nat → Prop} (w : World) {a : Addr} (v : Value) (h : S a.block) : Turn S S w (w.setCell a v) :=
  ⟨rfl, rfl, rfl, by simp, fun k _ hn => heap_setCell_other w a k v (fun e => hn (e ▸ h)), fun _ _ hs => hs⟩
theorem Turn.row {S : Nat → Prop} (w : World) {g : Nat} (l : List Int) (h : S g) : Turn S S w (rowW w g l) :=
  ⟨rfl, rfl, rfl, by simp [rowW], fun k _ hn => setRow_other w g k _ (fun e => hn (e ▸ h)), fun _ _ hs => hs⟩
theorem Turn.drew (S : Nat → Prop) (w : World) : Turn S S w w.drew := ⟨rfl, rfl, rfl, Nat.le_refl _, fun _ _ _ => rfl, fun _ _ h => h⟩
theorem Turn.alloc (S : Nat → Prop) (w : World) (o : Obj) : Turn S S w (w.alloc o) := Turn.of_below ((Below.refl _ _).alloc (Nat.le_refl _) o)
theorem Turn.grown {S : Nat → Prop} {w w' : World} {row : Option Nat} (g : w.grownBy w' row) (h : ∀ k, row = some k → S k) : Turn S S w w' :=
  ⟨g.os, g.tape, g.output, g.size, fun k hk hn => g.block k hk (fun e => hn (h k e.symm)), fun _ _ hs => hs⟩
theorem Turn.map {S : Nat → Prop} {w w' : World} {b : Nat} (ht : w.mapTurned w' b) (h : S b) : Turn S S w w' :=
  let g := ht.grown
  ⟨g.os, g.tape, g.output, g.size, fun k hk hn => g.block k hk (fun e => hn (Option.some.inj e ▸ h)), fun _ _ hs => hs⟩
theorem Turn.keep {S S' S2 : Nat → Prop} {w w' : World} (h : Turn S S' w w') (k : Nat) (hk : k < w.heap.size) (hn : ¬ S k) : w'.heap[k]? = w.heap[k]? := h.block k hk hn

/-- Block g is a row of the bytes l, of an element type t. -/
def RowT (w : World) (g : Nat) (t : TypeId) (l : List Int) : Prop := w.heap[g]? = some (.cells (cellsB l) t (0, 0))

theorem RowT.cell {w : World} {g : Nat} {t : TypeId} {l : List Int} (h : RowT w g t l) (i : Nat) (hi : i < l.length) : w.cell? ⟨g, i, none⟩ = some (.int .u8 (l.getD i 0)) := by
  rw [cell_of_row w g i _ t (0, 0) h]; exact getD_cellsB l i hi
theorem RowT.lt {w : World} {g : Nat} {t : TypeId} {l : List Int} (h : RowT w g t l) : g < w.heap.size := (Array.getElem?_eq_some_iff.1 h).1
theorem RowT.set {w : World} {g : Nat} {t : TypeId} {z : List Int} (h : RowT w g t z) (l : List Int) : RowT (rowW w g l) g t l := setRow_heap w g _ _ t _ h
theorem RowT.same {w w' : World} {g : Nat} {t : TypeId} {l : List Int} (h : RowT w g t l) (e : w'.heap[g]? = w.heap[g]?) : RowT w' g t l := e.trans h
/-- A part of a row as a slice. -/
theorem RowT.bs {w : World} {g : Nat} {t : TypeId} {l : List Int} (h : RowT w g t l) (hb : Byt l) (hl : l.length ≤ 140737488351232) (off n cap : Nat) (hn : off + n ≤ l.length) (hc : n ≤ cap) : Bs w (some ⟨g, off, none⟩) cap ((l.drop off).take n) := by
  have hlen : ((l.drop off).take n).length = n := by simp; omega
  refine ⟨hb.sub off n, by omega, by omega, fun e => (by cases e), fun _ => ⟨g, off, rfl, fun i hi => ?_⟩⟩
  rw [hlen] at hi
  rw [h.cell (off + i) (by omega)]
  simp [List.getD, hi]

/-- What a slice reads as while other blocks turn. -/
theorem Bs.turn {w w' : World} {S S' : Nat → Prop} {a : Option Addr} {cap : Nat} {l : List Int} (h : Bs w a cap l) (ht : Turn S S' w w') (hn : ∀ x, a = some x → ¬ S x.block) : Bs w' a cap l := by
  obtain ⟨h1, h2, h3, h4, h5⟩ := h
  refine ⟨h1, h2, h3, h4, fun hne => ?_⟩
  obtain ⟨b, off, rfl, hc⟩ := h5 hne
  refine ⟨b, off, rfl, fun i hi => ?_⟩
  have h6 := hc i hi
  have hlt := block_lt_of_cell h6
  rw [← h6]
  exact World.cell?_of_block (a := ⟨b, off + i, none⟩) (ht.block b hlt (hn _ rfl))

/-- 'copy(dst, src)': dst anywhere in a row of bytes. -/
theorem run_copy_at {P : Program} (w : World) (dT sT ty : TypeId) (hu : P.underlying dT = some (.slice 5)) (hsz : (P.info? 5).map (·.size) = some 1)
    {g t off dCap : Nat} {sp : Option Addr} {sCap : Nat} {z l : List Int} (hz : off + l.length ≤ z.length) (hg : RowT w g t z) (hb : Bs w sp sCap l) :
    (Builtin.copy_ #[dT, sT] ty #[.slice (some ⟨g, off, none⟩) l.length dCap, .slice sp l.length sCap]).run P w = .ok (.int .i64 l.length) (rowW w g (splice z off l)) := by
  by_cases h0 : l = []
  · subst h0
    have hrun := run_copy_none (P := P) w dT sT ty 5 (some ⟨g, off, none⟩) sp 0 dCap 0 sCap hu hsz (by simp)
    have hself : rowW w g (splice z off []) = w := by
      have : splice z off [] = z := by simp [splice]
      rw [this]
      exact setRow_self w g _ t (0, 0) hg
    rw [hself]
    simpa [goInt] using hrun
  · obtain ⟨b, o2, rfl, hc⟩ := hb.2.2.2.2 h0
    have hrun := run_copy_row (P := P) w dT sT ty 5 g off l.length dCap ⟨b, o2, none⟩ l.length sCap _ t (l.map (Value.int .u8)) hu hsz hg (by simp) ?_ (by simpa [cellsB] using hz) (oneCell_u8 l)
    · rw [hrun]
      simp [goInt, rowW, splice, cellsB]
    · intro j v hj
      have hjl : j < l.length := by
        rcases Nat.lt_or_ge j l.length with h1 | h1
        · exact h1
        · rw [List.getElem?_eq_none (by simpa using h1)] at hj; cases hj
      have := hc j hjl
      simp [hjl] at hj
      subst hj
      rw [addr_add]
      simpa [List.getD, hjl] using this

/-! ### sectors behind one another -/
theorem flat_len : ∀ (secs : List (List Int)), (∀ s ∈ secs, s.length = 32) → secs.flatten.length = secs.length * 32
  | [], _ => rfl
  | s :: r, h => by
    have := flat_len r (fun x hx => h x (by simp [hx]))
    have := h s (by simp)
    simp only [List.flatten_cons, List.length_append, List.length_cons]
    omega

theorem flat_byt {secs : List (List Int)} (h : ∀ s ∈ secs, Sec s) : Byt secs.flatten := by
  intro z hz
  obtain ⟨s, hs, hz⟩ := List.mem_flatten.1 hz
  exact (h s hs).2 z hz

theorem flat_part : ∀ (secs : List (List Int)) (i : Nat), (∀ s ∈ secs, s.length = 32) → i < secs.length → (secs.flatten.drop (i * 32)).take 32 = secs.getD i []
  | [], i, _, h => by simp at h
  | s :: r, 0, h, _ => by
    have := h s (by simp)
    simp [List.getD, this]
  | s :: r, i + 1, h, hi => by
    have h1 := h s (by simp)
    have h2 := flat_part r i (fun x hx => h x (by simp [hx])) (by simpa using hi)
    have e : (i + 1) * 32 = s.length + i * 32 := by omega
    rw [e, List.flatten_cons, List.drop_append]
    rw [List.drop_eq_nil_of_le (by omega), List.nil_append]
    rw [show s.length + i * 32 - s.length = i * 32 from by omega, h2]
    simp [List.getD]

theorem flat_splice : ∀ (secs : List (List Int)) (i : Nat) (cs : List Int), (∀ s ∈ secs, s.length = 32) → i < secs.length → cs.length ≤ 32 →
    splice secs.flatten (i * 32) cs = (secs.set i (cs ++ (secs.getD i []).drop cs.length)).flatten
  | [], i, _, _, h, _ => by simp at h
  | s :: r, 0, cs, h, _, hc => by
    have := h s (by simp)
    simp [splice, List.getD]
    rw [List.drop_append_of_le_length (by omega)]
  | s :: r, i + 1, cs, h, hi, hc => by
    have h1 := h s (by simp)
    have h2 := flat_splice r i cs (fun x hx => h x (by simp [hx])) (by simpa using hi) hc
    have e : (i + 1) * 32 = s.length + i * 32 := by omega
    have e3 : (s :: r).getD (i + 1) [] = r.getD i [] := by simp [List.getD]
    rw [e, e3, List.set_cons_succ, List.flatten_cons, List.flatten_cons, ← h2]
    unfold splice
    rw [List.take_append, List.take_of_length_le (by omega), List.drop_append, List.drop_eq_nil_of_le (by omega)]
    rw [show s.length + i * 32 - s.length = i * 32 from by omega, show s.length + i * 32 + cs.length - s.length = i * 32 + cs.length from by omega]
    simp

/-! ### the device -/
/-- Its struct's five cells. -/
def devCells (sb n bm : Nat) (pv : Value) (left : Int) (down : Bool) : Array Value := #[.slice (some ⟨sb, 0, none⟩) n n, .map (some bm), pv, .int .i64 left, .bool down]
def pendCells (mem : List (Nat × List Int)) : List Value := mem.map fun q => .int .i64 (q.1 : Int)

structure DevAt (w : World) (p sb bm : Nat) (pv : Value) (S : Nat → Prop) (D : DS) : Prop where
  ok : D.Ok
  str : w.heap[p]? = some (.cells (devCells sb D.secs.length bm pv D.left D.down) 67 (0, 0))
  sec : RowT w sb 74 D.secs.flatten
  mem : MemAt Tryd.prog 3 w bm D.mem
  pen : w.ownsRow 0 3 1 pv D.mem.length (pendCells D.mem)
  inp : S p
  ins : S sb
  inm : S bm
  inv : ∀ g, pv.ownBlock = some g → S g
  lt : ∀ k, S k → k < w.heap.size
  nps : p ≠ sb
  nvp : pv.ownBlock ≠ some p
  nvs : pv.ownBlock ≠ some sb

/-- The pointer ⟨p, 0⟩ leads to a device that stands as D says; S: its blocks. -/
def Dev (w : World) (p : Nat) (S : Nat → Prop) (D : DS) : Prop := ∃ sb bm pv, DevAt w p sb bm pv S D

section
variable {w w' : World} {p sb bm : Nat} {pv : Value} {S : Nat → Prop} {D : DS}

theorem DevAt.npm (h : DevAt w p sb bm pv S D) : bm ≠ p := by
  intro e; subst e
  obtain ⟨es, c, hb⟩ := h.mem.isMap
  rw [h.str] at hb; cases hb
theorem DevAt.nsm (h : DevAt w p sb bm pv S D) : bm ≠ sb := by
  intro e; subst e
  obtain ⟨es, c, hb⟩ := h.mem.isMap
  have := h.sec; unfold RowT at this
  rw [this] at hb; cases hb
theorem ownsRow_block {base : Nat} {e size : Nat} {v : Value} {n : Nat} {xs : List Value} (h : w.ownsRow base e size v n xs) {g : Nat} (hg : v.ownBlock = some g) : ∃ cur, w.heap[g]? = some (.cells cur e (0, 0)) := by
  rcases h.2 with ⟨rfl, _⟩ | ⟨g', cap, cur, rfl, _, hb, _⟩
  · simp [Value.ownBlock] at hg
  · simp [Value.ownBlock] at hg; subst hg; exact ⟨cur, hb⟩
theorem DevAt.nvm (h : DevAt w p sb bm pv S D) : pv.ownBlock ≠ some bm := by
  intro e
  obtain ⟨cur, hc⟩ := ownsRow_block h.pen e
  obtain ⟨es, c, hb⟩ := h.mem.isMap
  rw [hc] at hb; cases hb

theorem ownsRow_same {base : Nat} {e size : Nat} {v : Value} {n : Nat} {xs : List Value} (h : w.ownsRow base e size v n xs) (hs : ∀ g, v.ownBlock = some g → w'.heap[g]? = w.heap[g]?) : w'.ownsRow base e size v n xs := by
  refine ⟨h.1, ?_⟩
  rcases h.2 with h2 | ⟨g, cap, cur, rfl, h3, hb, r⟩
  · exact .inl h2
  · exact .inr ⟨g, cap, cur, rfl, h3, (hs g rfl).trans hb, r⟩

theorem DevAt.same (h : DevAt w p sb bm pv S D) (hz : w.heap.size ≤ w'.heap.size) (hs : ∀ k, S k → w'.heap[k]? = w.heap[k]?) : DevAt w' p sb bm pv S D :=
  ⟨h.ok, (hs _ h.inp).trans h.str, h.sec.same (hs _ h.ins), h.mem.same (hs _ h.inm), ownsRow_same h.pen (fun g hg => hs g (h.inv g hg)), h.inp, h.ins, h.inm, h.inv, fun k hk => Nat.lt_of_lt_of_le (h.lt k hk) hz, h.nps, h.nvp, h.nvs⟩
theorem DevAt.alloc (h : DevAt w p sb bm pv S D) (o : Obj) : DevAt (w.alloc o) p sb bm pv S D := h.same (by simp) (fun k hk => heap_alloc_old w o (h.lt k hk))
theorem Dev.same (h : Dev w p S D) (hz : w.heap.size ≤ w'.heap.size) (hs : ∀ k, S k → w'.heap[k]? = w.heap[k]?) : Dev w' p S D := by
  obtain ⟨sb, bm, pv, h⟩ := h
  exact ⟨sb, bm, pv, h.same hz hs⟩
theorem Dev.lt (h : Dev w p S D) : ∀ k, S k → k < w.heap.size := by
  obtain ⟨sb, bm, pv, h⟩ := h
  exact h.lt
theorem Dev.ok (h : Dev w p S D) : D.Ok := by
  obtain ⟨sb, bm, pv, h⟩ := h
  exact h.ok
theorem Dev.below (h : Dev w p S D) (hb : Below w.heap.size w w') : Dev w' p S D := h.same hb.size (fun k hk => hb.block k (h.lt k hk))
theorem Dev.turn {T T' : Nat → Prop} (h : Dev w p S D) (ht : Turn T T' w w') (hd : ∀ k, S k → ¬ T k) : Dev w' p S D := h.same ht.size (fun k hk => ht.block k (h.lt k hk) (hd k hk))

/-- A field of the struct is written. -/
theorem DevAt.setLeft (h : DevAt w p sb bm pv S D) (n : Int) (hn : -9223372036854775808 ≤ n ∧ n ≤ 9223372036854775807) : DevAt (w.setCell ⟨p, 3, none⟩ (.int .i64 n)) p sb bm pv S { D with left := n } :=
  ⟨h.ok.fail hn, by rw [heap_setCell_same _ _ _ _ _ _ h.str]; simp [devCells], h.sec.same (heap_setCell_other _ _ _ _ h.nps.symm), h.mem.same (heap_setCell_other _ _ _ _ h.npm),
    ownsRow_same h.pen (fun g hg => heap_setCell_other _ _ _ _ (fun e => h.nvp (by rw [hg, e]))), h.inp, h.ins, h.inm, h.inv, fun k hk => by simpa using h.lt k hk, h.nps, h.nvp, h.nvs⟩
theorem DevAt.setDown (h : DevAt w p sb bm pv S D) (x : Bool) : DevAt (w.setCell ⟨p, 4, none⟩ (.bool x)) p sb bm pv S { D with down := x } :=
  ⟨⟨h.ok.len, h.ok.sec, h.ok.mem, h.ok.apart, h.ok.left⟩, by rw [heap_setCell_same _ _ _ _ _ _ h.str]; simp [devCells], h.sec.same (heap_setCell_other _ _ _ _ h.nps.symm), h.mem.same (heap_setCell_other _ _ _ _ h.npm),
    ownsRow_same h.pen (fun g hg => heap_setCell_other _ _ _ _ (fun e => h.nvp (by rw [hg, e]))), h.inp, h.ins, h.inm, h.inv, fun k hk => by simpa using h.lt k hk, h.nps, h.nvp, h.nvs⟩

theorem DevAt.drew (h : DevAt w p sb bm pv S D) : DevAt w.drew p sb bm pv S D := h.same (Nat.le_refl _) (fun _ _ => rfl)
/-- The sectors are written. -/
theorem DevAt.setSecs (h : DevAt w p sb bm pv S D) (secs : List (List Int)) (hl : secs.length = D.secs.length) (hs : ∀ s ∈ secs, Sec s) : DevAt (rowW w sb secs.flatten) p sb bm pv S { D with secs := secs } :=
  ⟨⟨by show secs.length ≤ 300; rw [hl]; exact h.ok.len, hs, fun q hq => by show q.1 < secs.length ∧ _; rw [hl]; exact h.ok.mem q hq, h.ok.apart, h.ok.left⟩,
    by show (rowW w sb secs.flatten).heap[p]? = some (.cells (devCells sb secs.length bm pv D.left D.down) _ _); rw [hl]; exact (setRow_other w sb p _ h.nps).trans h.str, h.sec.set _, h.mem.same (setRow_other w sb bm _ h.nsm),
    ownsRow_same h.pen (fun g hg => setRow_other w sb g _ (fun e => h.nvs (by rw [hg, e]))), h.inp, h.ins, h.inm, h.inv, fun k hk => by simpa [rowW] using h.lt k hk, h.nps, h.nvp, h.nvs⟩
/-- All that is in memory is gone. -/
theorem DevAt.forget {w1 : World} (h : DevAt w p sb bm pv S D) (hm : MemAt Tryd.prog 3 w1 bm []) (ht : w.mapTurned w1 bm) : DevAt (w1.setCell ⟨p, 2, none⟩ (.slice none 0 0)) p sb bm (.slice none 0 0) S { D with mem := [] } := by
  have hg := ht.grown
  have e : ∀ k, S k → k ≠ bm → w1.heap[k]? = w.heap[k]? := fun k hk hne => hg.block k (h.lt k hk) (fun e => hne (Option.some.inj e))
  have hp : w1.heap[p]? = _ := (e p h.inp h.npm.symm).trans h.str
  refine ⟨⟨h.ok.len, h.ok.sec, fun q hq => (by cases hq), List.nodup_nil, h.ok.left⟩, by rw [heap_setCell_same _ _ _ _ _ _ hp]; simp [devCells], (h.sec.same (e sb h.ins h.nsm.symm)).same (heap_setCell_other _ _ _ _ h.nps.symm), hm.same (heap_setCell_other _ _ _ _ h.npm),
    World.ownsRow_nil _ _ _ _, h.inp, h.ins, h.inm, fun g hg => (by cases hg), fun k hk => (by have := h.lt k hk; have := hg.size; simp; omega), h.nps, fun e => (by cases e), fun e => (by cases e)⟩

theorem pendCells_keys (m : List (Nat × List Int)) : pendCells m = (m.map (fun q => q.1)).map (fun i : Nat => Value.int .i64 (i : Int)) := by simp [pendCells]
theorem mem_of_isSome {m : List (Nat × List Int)} {i : Nat} (h : (m.lookup i).isSome = true) : i ∈ m.map (·.1) := by
  refine Classical.byContradiction fun hc => ?_
  rw [lookup_none.2 hc] at h; cases h
theorem length_keys (m : List (Nat × List Int)) : (m.map (·.1)).length = m.length := by simp
/-- A sector is put into memory that is there already. -/
theorem DevAt.put_old {w1 : World} {i : Nat} {l : List Int} (h : DevAt w p sb bm pv S D) (hi : (D.mem.lookup i).isSome = true) (hl : i < D.secs.length) (hs : Sec l) (hm : MemAt Tryd.prog 3 w1 bm (memPut D.mem i l)) (ht : w.mapTurned w1 bm) : DevAt w1 p sb bm pv S (D.put i l) := by
  have hg := ht.grown
  have e : ∀ k, S k → k ≠ bm → w1.heap[k]? = w.heap[k]? := fun k hk hne => hg.block k (h.lt k hk) (fun e => hne (Option.some.inj e))
  have hk : (memPut D.mem i l).map (·.1) = D.mem.map (·.1) := by rw [keys_put, if_pos (mem_of_isSome hi)]
  refine ⟨h.ok.put hl hs, (e p h.inp h.npm.symm).trans h.str, h.sec.same (e sb h.ins h.nsm.symm), hm, ?_, h.inp, h.ins, h.inm, h.inv, fun k hk => Nat.lt_of_lt_of_le (h.lt k hk) hg.size, h.nps, h.nvp, h.nvs⟩
  show w1.ownsRow 0 3 1 pv (memPut D.mem i l).length (pendCells (memPut D.mem i l))
  have e1 : pendCells (memPut D.mem i l) = pendCells D.mem := by rw [pendCells_keys, pendCells_keys D.mem, hk]
  have e2 : (memPut D.mem i l).length = D.mem.length := by rw [← length_keys, hk, length_keys]
  rw [e1, e2]
  exact ownsRow_same h.pen (fun g hg => e g (h.inv g hg) (fun e => h.nvm (by rw [hg, e])))

/-- A sector is put into memory that was not there. -/
theorem DevAt.put_new {w5 : World} {i : Nat} {l : List Int} {v : Value} (h : DevAt w p sb bm pv S D) (hi : D.mem.lookup i = none) (hl : i < D.secs.length) (hs : Sec l)
    (hstr : w5.heap[p]? = some (.cells (devCells sb D.secs.length bm v D.left D.down) 67 (0, 0))) (hsec : w5.heap[sb]? = w.heap[sb]?) (hm : MemAt Tryd.prog 3 w5 bm (memPut D.mem i l))
    (hown : w5.ownsRow 0 3 1 v (D.mem.length + 1) (pendCells D.mem ++ [.int .i64 (i : Int)])) (hz : w.heap.size ≤ w5.heap.size) (hloc : v.ownBlock = pv.ownBlock ∨ ∃ g, v.ownBlock = some g ∧ w.heap.size ≤ g) :
    DevAt w5 p sb bm v (fun k => S k ∨ v.ownBlock = some k) (D.put i l) ∧ (∀ k, k < w.heap.size → (S k ∨ v.ownBlock = some k) → S k) := by
  have hk : (memPut D.mem i l).map (·.1) = D.mem.map (·.1) ++ [i] := by rw [keys_put, if_neg (lookup_none.1 hi)]
  have e1 : pendCells (memPut D.mem i l) = pendCells D.mem ++ [.int .i64 (i : Int)] := by rw [pendCells_keys, pendCells_keys D.mem, hk]; simp
  have e2 : (memPut D.mem i l).length = D.mem.length + 1 := by rw [← length_keys, hk]; simp
  have hold : ∀ k, v.ownBlock = some k → S k ∨ w.heap.size ≤ k := by
    intro k hv
    rcases hloc with hl | ⟨g, hg, hle⟩
    · exact .inl (h.inv k (by rw [← hl]; exact hv))
    · rw [hg] at hv; cases hv; exact .inr hle
  refine ⟨⟨h.ok.put hl hs, hstr, h.sec.same hsec, hm, ?_, .inl h.inp, .inl h.ins, .inl h.inm, fun g hg => .inr hg, ?_, h.nps, ?_, ?_⟩, ?_⟩
  · show w5.ownsRow 0 3 1 v (memPut D.mem i l).length (pendCells (memPut D.mem i l))
    rw [e1, e2]; exact hown
  · intro k hk
    rcases hk with hk | hk
    · exact Nat.lt_of_lt_of_le (h.lt k hk) hz
    · exact (hown.lt k hk).2
  · intro e
    rcases hloc with hl | ⟨g, hg, hle⟩
    · exact h.nvp (by rw [← hl]; exact e)
    · rw [hg] at e; cases e; have := h.lt p h.inp; omega
  · intro e
    rcases hloc with hl | ⟨g, hg, hle⟩
    · exact h.nvs (by rw [← hl]; exact e)
    · rw [hg] at e; cases e; have := h.lt sb h.ins; omega
  · intro k hk hS
    rcases hS with hS | hS
    · exact hS
    · rcases hold k hS with h1 | h1
      · exact h1
      · omega

/-- What the walk reads of it. -/
theorem DevAt.c0 (h : DevAt w p sb bm pv S D) : w.cell? ⟨p, 0, none⟩ = some (.slice (some ⟨sb, 0, none⟩) D.secs.length D.secs.length) := by rw [cell_of_row _ _ _ _ _ _ h.str]; simp [devCells]
theorem DevAt.c1 (h : DevAt w p sb bm pv S D) : w.cell? ⟨p, 1, none⟩ = some (.map (some bm)) := by rw [cell_of_row _ _ _ _ _ _ h.str]; simp [devCells]
theorem DevAt.c2 (h : DevAt w p sb bm pv S D) : w.cell? ⟨p, 2, none⟩ = some pv := by rw [cell_of_row _ _ _ _ _ _ h.str]; simp [devCells]
theorem DevAt.c3 (h : DevAt w p sb bm pv S D) : w.cell? ⟨p, 3, none⟩ = some (.int .i64 D.left) := by rw [cell_of_row _ _ _ _ _ _ h.str]; simp [devCells]
theorem DevAt.c4 (h : DevAt w p sb bm pv S D) : w.cell? ⟨p, 4, none⟩ = some (.bool D.down) := by rw [cell_of_row _ _ _ _ _ _ h.str]; simp [devCells]
theorem DevAt.fr (h : DevAt w p sb bm pv S D) (i : Nat) : w.frozen? ⟨p, i, none⟩ = false := frozen_of_row _ _ _ _ _ h.str
/-- The list of what is pending, as a value. -/
theorem DevAt.pv_cases (h : DevAt w p sb bm pv S D) : (pv = .slice none 0 0 ∧ D.mem = []) ∨ ∃ g cap, pv = .slice (some ⟨g, 0, none⟩) D.mem.length cap ∧ D.mem.length ≤ cap ∧ cap ≤ maxLen ∧ (∀ i, i < D.mem.length → w.cell? ⟨g, i, none⟩ = some (.int .i64 ((D.mem.getD i (0, [])).1 : Int))) := by
  rcases h.pen.2 with ⟨h1, h2⟩ | ⟨g, cap, cur, h1, _, hb, h3, h4, h5, h6⟩
  · exact .inl ⟨h1, List.eq_nil_of_length_eq_zero h2⟩
  · refine .inr ⟨g, cap, h1, h3, h4, fun i hi => ?_⟩
    rw [cell_of_row _ _ _ _ _ _ hb]
    have e : (cur.toList.take (D.mem.length * 1))[i]? = (pendCells D.mem)[i]? := by rw [h6]
    rw [List.getElem?_take, if_pos (by omega)] at e
    simp only [Array.getElem?_toList] at e
    rw [e]
    simp [pendCells, hi, List.getD]
theorem DevAt.pend_cell {g n cap : Nat} (h : DevAt w p sb bm (.slice (some ⟨g, 0, none⟩) n cap) S D) (i : Nat) (hi : i < D.mem.length) : w.cell? ⟨g, i, none⟩ = some (.int .i64 ((D.mem.getD i (0, [])).1 : Int)) := by
  rcases h.pv_cases with ⟨e, _⟩ | ⟨g', cap', e, _, _, hc⟩
  · cases e
  · simp only [Value.slice.injEq, Option.some.injEq, Addr.mk.injEq, and_true] at e
    rw [e.1]; exact hc i hi
end
end Go.Proofs.YtnpdejlbknjhnaaDoor
