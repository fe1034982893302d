/-
  Joined by program: OuA; Turn; OuB. (Parts of the proofs over the packages of the program.)
-/
import Derived.Test.YtllpeknpplpgeaaGreatDoorJHp
import Derived.Test.YtllpeknpplpgeaaGreatDoorJIr
import Derived.Test.YtllpeknpplpgeaaGreatDoorJRc
import Derived.Test.YtllpeknpplpgeaaGreatDoorImD
import Derived.Test.YtllpeknpplpgeaaGreatDoorLaws
/-! The contract of the document's own Up. (Part of the proof of OldTells.) -/
namespace Go.Proofs.YtllpeknpplpgeaaGreatDoor
open Go.RowKit
set_option linter.unusedVariables false

/-- The bytes of a slice, one by one. -/
theorem Bs.cells {w : World} {a : Option Addr} {cap : Nat} {l : List Int} (h : Bs w a cap l) (hne : l ≠ []) : ∃ b off, a = some ⟨b, off, none⟩ ∧ ∀ i, i < l.length → w.cell? ⟨b, off + i, none⟩ = some (.int .u8 (l.getD i 0)) := h.2.2.2.2 hne
theorem getD_drop (b : List Int) (k i : Nat) : (b.drop k).getD i 0 = b.getD (k + i) 0 := by simp [List.getD]
theorem getV_num (r : List Int) : getV r 2 2 = numOf ((r.drop 2).take 2) := rfl
set_option maxRecDepth 100000 in
set_option maxHeartbeats 16000000 in
theorem sUp_no (a : Option Addr) (cap : Nat) (b : List Int) (w : World) (hb : Bs w a cap b) (hno : ¬ (hdB b = true ∧ 5 ≤ b.length ∧ b.getD 4 0 ≤ 40)) :
    Calls Tryz.prog 5 #[.slice a b.length cap] w (Ends w (upS b).2 (.int .i64 (upS b).1)) := by
  have hbl := hb.2.2.1
  by_cases h4 : 4 ≤ b.length
  case neg =>
    have hx := upS_hd (b := b) (by unfold hdB; rw [decide_eq_false h4]; rfl)
    rw [hx]
    clear hb hx hno
    generalize b.length = N at *
    go_enter Tryz.func5, Tryz.ntmps5
    go_wp2
    go_ret2
    exact ⟨none, 0, rfl, bs_nil _, Below.refl _ _⟩
  obtain ⟨b0, o0, rfl, hc⟩ := hb.cells (by intro e; rw [e] at h4; simp at h4)
  have HNO := hide hno
  clear hno
  have hbd0 := hb.1.getD 0
  have hbd1 := hb.1.getD 1
  have hbd2 := hb.1.getD 2
  have hbd3 := hb.1.getD 3
  have hc0 := hc 0 (by omega)
  have hc1 := hc 1 (by omega)
  have hc2 := hc 2 (by omega)
  have hc3 := hc 3 (by omega)
  rw [Nat.add_zero] at hc0
  by_cases hh : hdB b = true
  case neg =>
    have hx := upS_hd (b := b) (by cases hq : hdB b with | false => rfl | true => exact absurd hq hh)
    rw [hx]
    unfold hdB at hh
    rw [decide_eq_true h4, Bool.true_and] at hh
    clear hb hx hc
    generalize b.getD 0 0 = B0 at *
    generalize b.getD 1 0 = B1 at *
    generalize b.getD 2 0 = B2 at *
    generalize b.getD 3 0 = B3 at *
    generalize b.length = N at *
    have hf : ¬ B0 = 79 ∨ (B0 = 79 ∧ ¬ B1 = 76) ∨ (B0 = 79 ∧ B1 = 76 ∧ ¬ B2 = 68) ∨ (B0 = 79 ∧ B1 = 76 ∧ B2 = 68 ∧ ¬ B3 = 49) := by
      by_cases e0 : B0 = 79
      · by_cases e1 : B1 = 76
        · by_cases e2 : B2 = 68
          · by_cases e3 : B3 = 49
            · exact absurd (by simp [e0, e1, e2, e3]) hh
            · exact .inr (.inr (.inr ⟨e0, e1, e2, e3⟩))
          · exact .inr (.inr (.inl ⟨e0, e1, e2⟩))
        · exact .inr (.inl ⟨e0, e1⟩)
      · exact .inl e0
    clear hh
    have hn4 : decide ((N : Int) < 4) = false := decide_eq_false (by omega)
    rcases hf with e0 | ⟨rfl, e1⟩ | ⟨rfl, rfl, e2⟩ | ⟨rfl, rfl, rfl, e3⟩
    · have ex : (B0 != 79) = true := by simpa using e0
      go_enter Tryz.func5, Tryz.ntmps5
      go_wp2
      go_ret2
      exact ⟨none, 0, rfl, bs_nil _, Below.refl _ _⟩
    · have ex : (B1 != 76) = true := by simpa using e1
      go_enter Tryz.func5, Tryz.ntmps5
      go_wp2
      go_ret2
      exact ⟨none, 0, rfl, bs_nil _, Below.refl _ _⟩
    · have ex : (B2 != 68) = true := by simpa using e2
      go_enter Tryz.func5, Tryz.ntmps5
      go_wp2
      go_ret2
      exact ⟨none, 0, rfl, bs_nil _, Below.refl _ _⟩
    · have ex : (B3 != 49) = true := by simpa using e3
      go_enter Tryz.func5, Tryz.ntmps5
      go_wp2
      go_ret2
      exact ⟨none, 0, rfl, bs_nil _, Below.refl _ _⟩
  have hn4 : decide ((b.length : Int) < 4) = false := decide_eq_false (by omega)
  have hq0 : b.getD 0 0 = 79 ∧ b.getD 1 0 = 76 ∧ b.getD 2 0 = 68 ∧ b.getD 3 0 = 49 := by
    unfold hdB at hh
    simp only [Bool.and_eq_true, decide_eq_true_eq] at hh
    exact hh.2
  rw [hq0.1] at hc0
  rw [hq0.2.1] at hc1
  rw [hq0.2.2.1] at hc2
  rw [hq0.2.2.2] at hc3
  have hmk : ∀ w', Sem.run Tryz.prog (Instr.makeSlice 22 (.int .i64 6400) (.int .i64 6400)) w' = .ok (.slice (some ⟨w'.heap.size, 0, none⟩) 6400 6400) (mkW w' 6400) := fun w' => run_make_u8 w' 6400 (by decide)
  have hBm := mkW_below w 6400
  by_cases h5 : 5 ≤ b.length
  case neg =>
    rw [upS_n hh (.inl (by omega))]
    have HBm := hide hBm
    clear hb hc hh hq0 hBm
    generalize b.length = N at *
    go_enter Tryz.func5, Tryz.ntmps5
    go_wp2
    go_ret2
    exact ⟨none, 0, rfl, bs_nil _, unhide HBm⟩
  have hbd4 := hb.1.getD 4
  have hc4 := hc 4 (by omega)
  have hc4m := (hBm.cell (p := ⟨b0, o0 + 4, none⟩) (block_lt_of_cell hc4)).trans hc4
  by_cases h40 : 40 < b.getD 4 0
  case pos =>
    rw [upS_n hh (.inr h40)]
    have HBm := hide hBm
    have hn5 : decide ((b.length : Int) < 5) = false := decide_eq_false (by omega)
    clear hb hc hh hq0 hBm
    generalize b.getD 4 0 = B4 at *
    have hd40 : decide (40 < B4) = true := decide_eq_true h40
    generalize b.length = N at *
    go_enter Tryz.func5, Tryz.ntmps5
    go_wp2
    go_ret2
    exact ⟨none, 0, rfl, bs_nil _, unhide HBm⟩
  exact absurd ⟨hh, h5, by omega⟩ (unhide HNO)
end Go.Proofs.YtllpeknpplpgeaaGreatDoor
/-! What a call leaves alone: of the old blocks only those in a set have turned. (Part of the proofs over packages device and heap.) -/
namespace Go.Proofs.YtllpeknpplpgeaaGreatDoor
open Go.RowKit
set_option linter.unusedVariables false

/-- Of w only the blocks in S have turned; of S' what is old is in S. -/
structure Turn (S S' : Nat → Prop) (w w' : World) : Prop where
  os : w'.os = w.os
  tape : w'.tape = w.tape
  output : w'.output = w.output
  size : w.heap.size ≤ w'.heap.size
  block : ∀ k, k < w.heap.size → ¬ S k → w'.heap[k]? = w.heap[k]?
  foot : ∀ k, k < w.heap.size → S' k → S k

theorem Turn.refl (S : Nat → Prop) (w : World) : Turn S S w w := ⟨rfl, rfl, rfl, Nat.le_refl _, fun _ _ _ => rfl, fun _ _ h => h⟩
theorem Turn.trans {S S' S'' : Nat → Prop} {a b c : World} (h : Turn S S' a b) (k : Turn S' S'' b c) : Turn S S'' a c :=
  ⟨k.os.trans h.os, k.tape.trans h.tape, k.output.trans h.output, Nat.le_trans h.size k.size,
    fun i hi hn => (k.block i (Nat.lt_of_lt_of_le hi h.size) (fun hs => hn (h.foot i hi hs))).trans (h.block i hi hn),
    fun i hi hs => h.foot i hi (k.foot i (Nat.lt_of_lt_of_le hi h.size) hs)⟩
theorem Turn.below {S S' : Nat → Prop} {w w' : World} {B : Nat} (h : Turn S S' w w') (hS : ∀ k, S k → B ≤ k) (hB : B ≤ w.heap.size) : Below B w w' :=
  ⟨h.os, h.tape, h.output, h.size, fun k hk => h.block k (Nat.lt_of_lt_of_le hk hB) (fun hs => by have := hS k hs; omega)⟩
theorem Turn.of_below {S : Nat → Prop} {w w' : World} (h : Below w.heap.size w w') : Turn S S w w' :=
  ⟨h.os, h.tape, h.output, h.size, fun k hk _ => h.block k hk, fun _ _ hs => hs⟩
theorem Turn.setCell {S : Nat → Prop} (w : World) {a : Addr} (v : Value) (h : S a.block) : Turn S S w (w.setCell a v) :=
  ⟨rfl, rfl, rfl, by simp, fun k _ hn => heap_setCell_other w a k v (fun e => hn (e ▸ h)), fun _ _ hs => hs⟩
theorem Turn.row {S : Nat → Prop} (w : World) {g : Nat} (l : List Int) (h : S g) : Turn S S w (rowW w g l) :=
  ⟨rfl, rfl, rfl, by simp [rowW], fun k _ hn => setRow_other w g k _ (fun e => hn (e ▸ h)), fun _ _ hs => hs⟩
theorem Turn.drew (S : Nat → Prop) (w : World) : Turn S S w w.drew := ⟨rfl, rfl, rfl, Nat.le_refl _, fun _ _ _ => rfl, fun _ _ h => h⟩
theorem Turn.alloc (S : Nat → Prop) (w : World) (o : Obj) : Turn S S w (w.alloc o) := Turn.of_below ((Below.refl _ _).alloc (Nat.le_refl _) o)
theorem Turn.grown {S : Nat → Prop} {w w' : World} {row : Option Nat} (g : w.grownBy w' row) (h : ∀ k, row = some k → S k) : Turn S S w w' :=
  ⟨g.os, g.tape, g.output, g.size, fun k hk hn => g.block k hk (fun e => hn (h k e.symm)), fun _ _ hs => hs⟩
theorem Turn.keep {S S' S2 : Nat → Prop} {w w' : World} (h : Turn S S' w w') (k : Nat) (hk : k < w.heap.size) (hn : ¬ S k) : w'.heap[k]? = w.heap[k]? := h.block k hk hn

theorem below_drew {B : Nat} {w W : World} (h : Below B w W) : Below B w W.drew := ⟨h.os, h.tape, h.output, h.size, h.block⟩
/-- What a slice reads as while other blocks turn. -/
theorem Bs.turn {w w' : World} {S S' : Nat → Prop} {a : Option Addr} {cap : Nat} {l : List Int} (h : Bs w a cap l) (ht : Turn S S' w w') (hn : ∀ x, a = some x → ¬ S x.block) : Bs w' a cap l := by
  obtain ⟨h1, h2, h3, h4, h5⟩ := h
  refine ⟨h1, h2, h3, h4, fun hne => ?_⟩
  obtain ⟨b, off, rfl, hc⟩ := h5 hne
  refine ⟨b, off, rfl, fun i hi => ?_⟩
  have h6 := hc i hi
  have hlt := block_lt_of_cell h6
  rw [← h6]
  exact World.cell?_of_block (a := ⟨b, off + i, none⟩) (ht.block b hlt (hn _ rfl))
end Go.Proofs.YtllpeknpplpgeaaGreatDoor
/-! The contract of the document's own Up: its loops. (Part of the proof of OldTells.) -/
namespace Go.Proofs.YtllpeknpplpgeaaGreatDoor
open Go.RowKit
set_option linter.unusedVariables false

/-- What is left to read, where the next object stands, the image so far, and what it all comes to. -/
structure UpIs (n i : Nat) (r : List Int) (A : Nat) (out : List Int) (Z : Int × List Int × Nat × List Int) : Prop where
  eq : obR (n - i) r A out = Z
structure UrIs (m j : Nat) (r : List Int) (out : List Int) (V : Int × List Int × List Int) : Prop where
  eq : roR (m - j) j r out = V
structure UsIs (Z : Int × List Int × Nat × List Int) (US : Int × List Int) : Prop where
  xo : Z.1 ≠ 0 → US = (Z.1, [])
  xm : Z.1 = 0 → Z.2.1.length = 0 ∨ 8 < Z.2.1.getD 0 0 → US = (2, [])
  xr : Z.1 = 0 → ¬ (Z.2.1.length = 0 ∨ 8 < Z.2.1.getD 0 0) → (upV Z).1 ≠ 0 → US = ((upV Z).1, [])
  xe : Z.1 = 0 → ¬ (Z.2.1.length = 0 ∨ 8 < Z.2.1.getD 0 0) → (upV Z).1 = 0 → (upV Z).2.1 ≠ [] → US = (2, [])
  xk : Z.1 = 0 → ¬ (Z.2.1.length = 0 ∨ 8 < Z.2.1.getD 0 0) → (upV Z).1 = 0 → (upV Z).2.1 = [] → US = (0, (upV Z).2.2)
theorem UsIs.obj {n i : Nat} {r : List Int} {A : Nat} {out : List Int} {Z : Int × List Int × Nat × List Int} {US : Int × List Int} (h : UsIs Z US) (hz : UpIs n i r A out Z) (hi : i < n) {x : Int} (hx : obE r A out = x) (h0 : x ≠ 0) : US = (x, []) := by
  have := hz.eq
  rw [show n - i = (n - (i + 1)) + 1 by omega, obR_stop _ (by rw [hx]; exact h0), hx] at this
  have h1 := h.xo (by rw [← this]; exact h0)
  rw [← this] at h1
  exact h1
theorem UpIs.next {n i : Nat} {r : List Int} {A : Nat} {out : List Int} {Z : Int × List Int × Nat × List Int} (hz : UpIs n i r A out Z) (hi : i < n) (hx : obE r A out = 0) : UpIs n (i + 1) (r.drop (4 + obN r)) (A + obN r) (obO r A out) Z := by
  have := hz.eq
  rw [show n - i = (n - (i + 1)) + 1 by omega, obR_go _ hx] at this
  exact ⟨this⟩
theorem UrIs.stop {m j : Nat} {r out : List Int} {V : Int × List Int × List Int} {US : Int × List Int} (h : UrIs m j r out V) (hj : j < m) (hr : V.1 ≠ 0 → US = (V.1, [])) {x : Int} (hx : roE r out = x) (h0 : x ≠ 0) : US = (x, []) := by
  have := h.eq
  rw [show m - j = (m - (j + 1)) + 1 by omega, roR_stop _ _ (by rw [hx]; exact h0), hx] at this
  have h1 := hr (by rw [← this]; exact h0)
  rw [← this] at h1
  exact h1
theorem UrIs.next {m j : Nat} {r out : List Int} {V : Int × List Int × List Int} (h : UrIs m j r out V) (hj : j < m) (hx : roE r out = 0) : UrIs m (j + 1) (r.drop 9) (roO r j out) V := by
  have := h.eq
  rw [show m - j = (m - (j + 1)) + 1 by omega, roR_go _ _ hx] at this
  exact ⟨this⟩
set_option maxRecDepth 100000 in
set_option maxHeartbeats 16000000 in
theorem sUp_go (b0 o0 : Nat) (cap : Nat) (b : List Int) (w : World) (hb : Bs w (some ⟨b0, o0, none⟩) cap b) (hh : hdB b = true) (h5 : 5 ≤ b.length) (h40 : b.getD 4 0 ≤ 40) :
    Calls Tryz.prog 5 #[.slice (some ⟨b0, o0, none⟩) b.length cap] w (Ends w (upS b).2 (.int .i64 (upS b).1)) := by
  have hbl := hb.2.2.1
  obtain ⟨b1, o1, e1, hc⟩ := hb.cells (by intro e; rw [e] at h5; simp at h5)
  simp only [Option.some.injEq, Addr.mk.injEq, and_true] at e1
  obtain ⟨rfl, rfl⟩ := e1
  have hc0 := hc 0 (by omega)
  have hc1 := hc 1 (by omega)
  have hc2 := hc 2 (by omega)
  have hc3 := hc 3 (by omega)
  rw [Nat.add_zero] at hc0
  have hn4 : decide ((b.length : Int) < 4) = false := decide_eq_false (by omega)
  have hq0 : b.getD 0 0 = 79 ∧ b.getD 1 0 = 76 ∧ b.getD 2 0 = 68 ∧ b.getD 3 0 = 49 := by
    unfold hdB at hh
    simp only [Bool.and_eq_true, decide_eq_true_eq] at hh
    exact hh.2
  rw [hq0.1] at hc0
  rw [hq0.2.1] at hc1
  rw [hq0.2.2.1] at hc2
  rw [hq0.2.2.2] at hc3
  have hmk : ∀ w', Sem.run Tryz.prog (Instr.makeSlice 22 (.int .i64 6400) (.int .i64 6400)) w' = .ok (.slice (some ⟨w'.heap.size, 0, none⟩) 6400 6400) (mkW w' 6400) := fun w' => run_make_u8 w' 6400 (by decide)
  have hBm := mkW_below w 6400
  have hbd4 := hb.1.getD 4
  have hc4 := hc 4 (by omega)
  have hc4m := (hBm.cell (p := ⟨b0, o0 + 4, none⟩) (block_lt_of_cell hc4)).trans hc4
  have hn5 : ¬ (b.length < 5 ∨ 40 < b.getD 4 0) := by omega
  have HUS : UsIs (upZ b) (upS b) := ⟨fun h3 => upS_o (b := b) hh hn5 h3, fun h3 h4 => upS_m (b := b) hh hn5 h3 h4, fun h3 h4 h5 => upS_r (b := b) hh hn5 h3 h4 h5, fun h3 h4 h5 h6 => upS_e (b := b) hh hn5 h3 h4 h5 h6, fun h3 h4 h5 h6 => upS_ok (b := b) hh hn5 h3 h4 h5 h6⟩
  obtain ⟨n, hn⟩ := Int.eq_ofNat_of_zero_le hbd4.1
  have HZ : UpIs n 0 (b.drop 5) 288 (zerosB 6400) (upZ b) := ⟨by rw [Nat.sub_zero]; unfold upZ; rw [hn, Int.toNat_natCast]⟩
  rw [hn] at hc4 hc4m h40
  have hn40 : n ≤ 40 := by omega
  have hd5 : decide ((b.length : Int) < 5) = false := decide_eq_false (by omega)
  have hd40 : decide (40 < (n : Int)) = false := decide_eq_false (by omega)
  have HBS := hide hb
  have HC := hide hc
  have HC4 := hide hc4
  have HBY := hide hb.1
  have HBM := hide hBm
  have HM := hide ((mkW_blk w 6400).bs (byt_zerosB 6400) (by rw [length_zerosB]; decide))
  have HOI := hide Ois.start
  rw [length_zerosB] at HM
  clear hb hc hh hq0 hn5 hBm hbd4 h40 hn
  generalize upS b = US at *
  generalize upZ b = Z at *
  generalize zerosB 6400 = Z0 at *
  go_enter Tryz.func5, Tryz.ntmps5
  go_wp2_with fail
  generalize mkW w 6400 = w1 at *
  go_loopw [4, 5, 6, 7] (fun ov kv av iv wr => ∃ (i K A : Nat) (a' : Option Addr) (c' : Nat) (out : List Int), i ≤ n ∧ 5 ≤ K ∧ K ≤ b.length ∧ ov = .slice a' 6400 c' ∧ kv = .int .i64 K ∧ av = .int .i64 A ∧ iv = .int .i64 i ∧ Bs wr a' c' out ∧ UpIs n i (b.drop K) A out Z ∧ Ois out A ∧ Below w.heap.size w wr) (fun _ _ _ iv _ => n - (intOf iv).toNat)
  case atStart => exact ⟨0, 5, 288, _, _, Z0, Nat.zero_le _, Nat.le_refl _, h5, rfl, rfl, rfl, rfl, unhide HM, HZ, unhide HOI, unhide HBM⟩
  case round =>
    obtain ⟨i, K, A, a', c', out, hi, hK5, hK, rfl, rfl, rfl, rfl, hbo, HZi, hoi, hbel⟩ := hrel
    clear HM HZ HOI HBM hc4m
    have hc4r := (hbel.cell (p := ⟨b0, o0 + 4, none⟩) (block_lt_of_cell (unhide HC4))).trans (unhide HC4)
    by_cases hlt : i < n
    · have HX := hide (fun (x : Int) (hx : obE (b.drop K) A out = x) (h0 : x ≠ 0) => HUS.obj HZi hlt hx h0)
      have HBL := hide hbel
      have HBO := hide hbo
      have HOI := hide hoi
      have hrl : (b.drop K).length = b.length - K := List.length_drop
      have hol := hoi.len
      have hlo := hoi.lo
      clear hbel hbo hoi HC4
      by_cases hK1 : K < b.length
      case neg =>
        have hx := unhide HX 2 (obE_0 (by omega)) (by decide)
        subst hx
        clear HX HZi hrl
        generalize b.length = N at *
        go_wp2
        go_ret2
        exact ⟨none, 0, rfl, bs_nil _, unhide HBL⟩
      have hcK0 := unhide HC K hK1
      have hcK := ((unhide HBL).cell (p := ⟨b0, o0 + K, none⟩) (block_lt_of_cell hcK0)).trans hcK0
      have hv0 := (unhide HBY).getD K
      have hg0 : (b.drop K).getD 0 0 = b.getD K 0 := getD_drop b K 0
      have hg1 : (b.drop K).getD 1 0 = b.getD (K + 1) 0 := getD_drop b K 1
      have HHD := hide (fun W => rHandle_any (b.getD K 0) W)
      have HE1 := hide (fun (h2 : hndB (b.getD K 0) = false) => unhide HX 1 (obE_1 (by omega) (by rw [hg0]; exact h2)) (by decide))
      have HE2 := hide (fun (h2 : hndB (b.getD K 0) = true) (h3 : tagAt out (b.getD K 0) ≠ 0) => unhide HX 7 (obE_2 (by omega) (by rw [hg0]; exact h2) (by rw [hg0]; exact h3)) (by decide))
      have HE3 := hide (fun (h2 : hndB (b.getD K 0) = true) (h3 : tagAt out (b.getD K 0) = 0) (h4 : b.length ≤ K + 1) => unhide HX 2 (obE_3 (by omega) (by rw [hg0]; exact h2) (by rw [hg0]; exact h3) (by omega)) (by decide))
      have HE4 := hide (fun (h2 : hndB (b.getD K 0) = true) (h3 : tagAt out (b.getD K 0) = 0) (h4 : K + 1 < b.length) (h5 : 15 < b.getD (K + 1) 0) => unhide HX 1 (obE_4 (by rw [hg0]; exact h2) (by rw [hg0]; exact h3) (by omega) (by rw [hg1]; exact h5)) (by decide))
      have HE5 := hide (fun (h2 : hndB (b.getD K 0) = true) (h3 : tagAt out (b.getD K 0) = 0) (h4 : K + 1 < b.length) (h5 : ¬ 15 < b.getD (K + 1) 0) (h6 : b.length < K + 4) => unhide HX 2 (obE_5 (by rw [hg0]; exact h2) (by rw [hg0]; exact h3) (by omega) (by rw [hg1]; exact h5) (by omega)) (by decide))
      have HE6 := hide (fun (h2 : hndB (b.getD K 0) = true) (h3 : tagAt out (b.getD K 0) = 0) (h5 : ¬ 15 < b.getD (K + 1) 0) (h6 : K + 4 ≤ b.length) (h7 : getV (b.drop K) 2 2 < 1 ∨ 1000 < getV (b.drop K) 2 2) => unhide HX 1 (obE_6 (by rw [hg0]; exact h2) (by rw [hg0]; exact h3) (by rw [hg1]; exact h5) (by omega) h7) (by decide))
      have HE7 := hide (fun (h2 : hndB (b.getD K 0) = true) (h3 : tagAt out (b.getD K 0) = 0) (h5 : ¬ 15 < b.getD (K + 1) 0) (h6 : K + 4 ≤ b.length) (h7 : ¬ (getV (b.drop K) 2 2 < 1 ∨ 1000 < getV (b.drop K) 2 2)) (h8 : b.length < K + 4 + obN (b.drop K)) => unhide HX 2 (obE_7 (by rw [hg0]; exact h2) (by rw [hg0]; exact h3) (by rw [hg1]; exact h5) (by omega) h7 (by omega)) (by decide))
      have HE8 := hide (fun (h2 : hndB (b.getD K 0) = true) (h3 : tagAt out (b.getD K 0) = 0) (h5 : ¬ 15 < b.getD (K + 1) 0) (h6 : K + 4 ≤ b.length) (h7 : ¬ (getV (b.drop K) 2 2 < 1 ∨ 1000 < getV (b.drop K) 2 2)) (h8 : K + 4 + obN (b.drop K) ≤ b.length) => obE_8 (r := b.drop K) (a := A) (out := out) (by rw [hg0]; exact h2) (by rw [hg0]; exact h3) (by rw [hg1]; exact h5) (by omega) h7 (by omega))
      have HEN := hide (fun (W : World) (hx : Bs W a' c' out) (k1 : 1 ≤ b.getD K 0) (k2 : b.getD K 0 ≤ 40) => rEntry_any a' c' out (b.getD K 0) W hx (by omega) k1 k2)
      rw [hol] at HEN
      have HOX : Hid (obO (b.drop K) A out = splice (putL out (b.getD K 0, (A : Int), getV (b.drop K) 2 2, b.getD (K + 1) 0)) A (((b.drop K).drop 4).take (obN (b.drop K)))) := hide (by unfold obO; rw [hg0, hg1])
      have HV1 := hide ((unhide HBY).getD (K + 1))
      clear hg0 hg1 hcK0 hrl
      generalize hV0 : b.getD K 0 = V0 at *
      cases hq : hndB V0
      case false =>
        have hx := unhide HE1 hq
        subst hx
        rw [hq] at HHD
        clear HX HZi HE1 HE2 HE3 HE4 HE5 HE6 HE7 HE8 HOX HEN hq hV0
        generalize b.length = N at *
        go_wp2_with fail
        refine (unhide HHD _).mono ?_
        rintro e w2 ⟨rfl, rfl⟩
        go_wp2
        go_ret2
        exact ⟨none, 0, rfl, bs_nil _, unhide HBL⟩
      have hvh := hndB_iff.1 hq
      have HQ := hide hq
      have HEN1 := hide (unhide HEN wr (unhide HBO) hvh.1 hvh.2)
      unfold entV at HEN1
      rw [hq] at HHD
      clear HEN HE1 hq hV0
      generalize (entOf out V0).1 = F1 at *
      generalize (entOf out V0).2.1 = F2 at *
      generalize (entOf out V0).2.2.1 = F3 at *
      generalize (entOf out V0).2.2.2 = F4 at *
      by_cases ht : tagAt out V0 = 0
      case neg =>
        have hx := unhide HE2 (unhide HQ) ht
        subst hx
        have htb : (tagAt out V0 != 0) = true := by simpa using ht
        rw [htb] at HEN1
        clear HX HZi HE2 HE3 HE4 HE5 HE6 HE7 HE8 HOX ht htb
        generalize b.length = N at *
        go_wp2_with fail
        refine (unhide HHD _).mono ?_
        rintro e w2 ⟨rfl, rfl⟩
        go_wp2_with fail
        refine (unhide HEN1).mono ?_
        rintro e w3 ⟨rfl, hB3⟩
        have HB3 := hide (((unhide HBL).trans (hB3.mono (unhide HBL).size)).trans (((Below.refl w3.heap.size w3).alloc (Nat.le_refl _) (.cells #[.int .i64 F1, .int .i64 F2, .int .i64 F3, .int .i64 F4] 47)).mono ((unhide HBL).trans (hB3.mono (unhide HBL).size)).size))
        clear hB3 HEN1 HBL
        go_wp2
        go_ret2
        exact ⟨none, 0, rfl, bs_nil _, unhide HB3⟩
      have htb : (tagAt out V0 != 0) = false := by simpa using ht
      rw [htb] at HEN1
      have HT := hide ht
      clear ht htb HE2
      go_wp2_with fail
      refine (unhide HHD _).mono ?_
      rintro e w2 ⟨rfl, rfl⟩
      go_wp2_with fail
      refine (unhide HEN1).mono ?_
      rintro e w3 ⟨rfl, hB3⟩
      have hBA : Below w3.heap.size w3 (w3.alloc (.cells #[.int .i64 F1, .int .i64 F2, .int .i64 F3, .int .i64 F4] 47)) := (Below.refl _ _).alloc (Nat.le_refl _) _
      have hB3a := hB3.trans (hBA.mono hB3.size)
      have hB3' := (unhide HBL).trans (hB3a.mono (unhide HBL).size)
      have HBO3 := hide ((unhide HBO).below hB3a)
      have HB3 := hide hB3'
      clear hB3 hBA hB3a HEN1 HHD HBL HBO hcK hc4r hc4
      by_cases hK2 : K + 1 < b.length
      case neg =>
        have hx := unhide HE3 (unhide HQ) (unhide HT) (by omega)
        subst hx
        clear HX HZi HE3 HE4 HE5 HE6 HE7 HE8 HOX hB3'
        generalize b.length = N at *
        go_wp2
        go_ret2
        exact ⟨none, 0, rfl, bs_nil _, unhide HB3⟩
      have hcK1 := (hB3'.cell (p := ⟨b0, o0 + (K + 1), none⟩) (block_lt_of_cell (unhide HC (K + 1) hK2))).trans (unhide HC (K + 1) hK2)
      have hv1 := unhide HV1
      clear HE3 HV1
      generalize hV1 : b.getD (K + 1) 0 = V1 at *
      clear hV1
      by_cases h15 : 15 < V1
      case pos =>
        have hx := unhide HE4 (unhide HQ) (unhide HT) (by omega) (by omega)
        subst hx
        clear HX HZi HE4 HE5 HE6 HE7 HE8 HOX hB3'
        generalize b.length = N at *
        go_wp2
        go_ret2
        exact ⟨none, 0, rfl, bs_nil _, unhide HB3⟩
      by_cases hK4 : K + 4 ≤ b.length
      case neg =>
        have hx := unhide HE5 (unhide HQ) (unhide HT) (by omega) (by omega) (by omega)
        subst hx
        clear HX HZi HE4 HE5 HE6 HE7 HE8 HOX hB3'
        generalize b.length = N at *
        go_wp2
        go_ret2
        exact ⟨none, 0, rfl, bs_nil _, unhide HB3⟩
      obtain ⟨a5, hs5, hb5⟩ := slice_lohi (P := Tryz.prog) (t := 22) Tryz.underlying22 size_u8 (unhide HBS) (K + 2) (K + 4) (by omega) hK4
      rw [show K + 4 - (K + 2) = 2 by omega] at hs5 hb5
      replace hs5 : ∀ w', (Instr.slice 22 (.slice (some ⟨b0, o0, none⟩) b.length cap) (some (.int .i64 ((K : Int) + 2))) (some (.int .i64 ((K : Int) + 4))) none).run Tryz.prog w' = .ok (.slice a5 2 (cap - (K + 2))) w' := hs5
      have hl2 : ((b.drop (K + 2)).take 2).length = 2 := by rw [List.length_take, List.length_drop]; omega
      have hNum := rNumber a5 (cap - (K + 2)) ((b.drop (K + 2)).take 2) _ (hb5.below hB3') (by omega)
      have hnv : numOf ((b.drop (K + 2)).take 2) = getV (b.drop K) 2 2 := by unfold getV; rw [List.drop_drop]
      rw [hl2, hnv] at hNum
      have HNUM := hide hNum
      have HON : Hid (obN (b.drop K) = (getV (b.drop K) 2 2).toNat) := hide rfl
      have h15' : V1 ≤ 15 := by omega
      clear hNum hnv hl2 hb5 HE4 HE5
      generalize hV2 : getV (b.drop K) 2 2 = V2 at *
      generalize hM : obN (b.drop K) = M at *
      have HV2 := hide hV2
      have HMM := hide hM
      clear hV2 hM
      by_cases hv21 : V2 < 1
      case pos =>
        have hx := unhide HE6 (unhide HQ) (unhide HT) (by omega) (by omega) (.inl hv21)
        subst hx
        clear HX HZi HE6 HE7 HE8 HOX hB3'
        generalize b.length = N at *
        go_wp2_with fail
        refine (unhide HNUM).mono ?_
        rintro e w4 ⟨rfl, rfl⟩
        go_wp2
        go_ret2
        exact ⟨none, 0, rfl, bs_nil _, unhide HB3⟩
      by_cases hv22 : 1000 < V2
      case pos =>
        have hx := unhide HE6 (unhide HQ) (unhide HT) (by omega) (by omega) (.inr hv22)
        subst hx
        clear HX HZi HE6 HE7 HE8 HOX hB3'
        generalize b.length = N at *
        go_wp2_with fail
        refine (unhide HNUM).mono ?_
        rintro e w4 ⟨rfl, rfl⟩
        go_wp2
        go_ret2
        exact ⟨none, 0, rfl, bs_nil _, unhide HB3⟩
      have hVM : V2 = (M : Int) := by have := unhide HON; omega
      subst hVM
      have hnb : ¬ ((M : Int) < 1 ∨ 1000 < (M : Int)) := by omega
      have HNB := hide hnb
      clear hnb HE6
      by_cases hKM : K + 4 + M ≤ b.length
      case neg =>
        have hx := unhide HE7 (unhide HQ) (unhide HT) (by omega) (by omega) (unhide HNB) (by omega)
        subst hx
        clear HX HZi HE7 HE8 HOX hB3'
        generalize b.length = N at *
        go_wp2_with fail
        refine (unhide HNUM).mono ?_
        rintro e w4 ⟨rfl, rfl⟩
        go_wp2
        go_ret2
        exact ⟨none, 0, rfl, bs_nil _, unhide HB3⟩
      have hE := unhide HE8 (unhide HQ) (unhide HT) (by omega) (by omega) (unhide HNB) (by omega)
      by_cases hAM : A + M ≤ 6400
      case neg =>
        rw [if_pos (by omega)] at hE
        have hx := unhide HX 4 hE (by decide)
        subst hx
        clear HX HZi HE7 HE8 HOX hB3' hE
        generalize b.length = N at *
        go_wp2_with fail
        refine (unhide HNUM).mono ?_
        rintro e w4 ⟨rfl, rfl⟩
        go_wp2
        go_ret2
        exact ⟨none, 0, rfl, bs_nil _, unhide HB3⟩
      rw [if_neg (by omega)] at hE
      have HZn := HZi.next hlt hE
      have hbyr : Byt (b.drop K) := fun z hz => unhide HBY z (List.mem_of_mem_drop hz)
      obtain ⟨hon, _, _, _⟩ := (unhide HOI).next hbyr hE
      have hpe : putE out (V0, (A : Int), (M : Int), V1) = 0 := putE_zero.2 ⟨(unhide HOI).fine.len0, unhide HQ, by dsimp only; omega, by dsimp only; omega, by dsimp only; omega, by dsimp only; omega, by dsimp only; omega, by dsimp only; omega⟩
      have HPE := hide (rPE_own a' c' out V0 A M V1 _ (unhide HBO3) hpe)
      rw [hol] at HPE
      have hPl : (putL out (V0, (A : Int), (M : Int), V1)).length = 6400 := by
        unfold putL
        rw [if_pos hpe, length_splice (by have := plc_le hvh.1 hvh.2; show plc V0 + 5 ≤ out.length; omega)]
        exact hol
      have HON2 := hide hon
      rw [unhide HMM, List.drop_drop, show K + (4 + M) = K + 4 + M by omega] at HZn
      rw [unhide HMM] at HON2
      rw [List.drop_drop] at HOX
      have hBDl : ((b.drop (K + 4)).take M).length = M := by rw [List.length_take, List.length_drop]; omega
      have HBG : Hid (∀ j, j < M → ((b.drop (K + 4)).take M).getD j 0 = b.getD (K + 4 + j) 0) := hide (fun j hj => by simp [List.getD, hj])
      clear HX HZi HE7 HE8 hE hbyr hon hpe HOI HNB HON HBO3 HT HV2 HMM
      generalize putL out (V0, (A : Int), (M : Int), V1) = P at *
      generalize obO (b.drop K) A out = OO at *
      generalize (b.drop (K + 4)).take M = BD at *
      go_wp2_with fail
      refine (unhide HNUM).mono ?_
      rintro e w4 ⟨rfl, rfl⟩
      go_wp2_with fail
      refine (unhide HPE).mono ?_
      rintro e w5 ⟨g5, c5, rfl, hown5, hB5⟩
      have hgb := hown5.base
      have hB5' := hB3'.trans (hB5.mono hB3'.size)
      have HB5 := hide hB5'
      have hwg : w.heap.size ≤ g5 := Nat.le_trans hB3'.size hgb
      have HWS := hide hB3'.size
      have hb0w : b0 < w.heap.size := block_lt_of_cell hc0
      have HO5 := hide hown5
      clear hown5 hB5 hB5' HPE HNUM hB3' HB3
      rw [show (K : Int) + 4 = ((K + 4 : Nat) : Int) from rfl]
      generalize hQK : K + 4 = Q at *
      have HQK := hide hQK
      clear hQK hcK1 hs5
      go_wp2_with fail
      go_loopw [14] (fun jv wq => ∃ j : Nat, j ≤ M ∧ jv = .int .i64 j ∧ Own wq w.heap.size g5 c5 (splice P A (BD.take j)) ∧ Below w.heap.size w wq) (fun jv _ => M - (intOf jv).toNat)
      case atStart => exact ⟨0, Nat.zero_le _, rfl, by
        rw [List.take_zero, show splice P A [] = P by unfold splice; simp]
        exact (unhide HO5).low (unhide HWS), unhide HB5⟩
      case round =>
        obtain ⟨j, hj, rfl, hown, hbel⟩ := hrel
        clear HO5 HB5
        by_cases hjm : j < M
        · have hsl : (splice P A (BD.take j)).length = 6400 := by rw [length_splice (by rw [List.length_take]; omega)]; exact hPl
          have hcl := hown.cell (A + j) (by omega)
          have hfz := hown.frozen (A + j)
          have hcb0 := unhide HC (Q + j) (by omega)
          have hcb := (hbel.cell (p := ⟨b0, o0 + (Q + j), none⟩) (block_lt_of_cell hcb0)).trans hcb0
          rw [← unhide HBG j hjm] at hcb
          have hset := hown.set (A + j) (BD.getD j 0)
          rw [splice_more (by omega) (by omega)] at hset
          have HO2 := hide hset
          have HB2 := hide (hbel.setCell (p := ⟨g5, A + j, none⟩) hwg (.int .u8 (BD.getD j 0)))
          clear hown hbel hset hcb0
          generalize (splice P A (BD.take j)).getD (A + j) 0 = y at *
          generalize BD.getD j 0 = x at *
          go_wp2
          go_roundw
          case rel => exact ⟨j + 1, by omega, by go_num, unhide HO2, unhide HB2⟩
          case measure => simp [intOf]; omega
        · obtain rfl : j = M := by omega
          rw [List.take_of_length_le (by omega), ← unhide HOX] at hown
          have hOl := (unhide HON2).len
          have hbs6 := hown.bs (unhide HON2).byt (by omega)
          have HBS6 := hide hbs6
          have HBW6 := hide hbel
          clear hown hbel hbs6 hjm HOX HBG
          go_wp2
          go_roundw
          case rel => exact ⟨i + 1, Q + j, A + j, _, _, OO, by omega, by have := unhide HQK; omega, by omega, rfl, by go_num, by go_num, by go_num, unhide HBS6, HZn, unhide HON2, unhide HBW6⟩
          case measure => simp [intOf]; omega
    · obtain rfl : i = n := by omega
      have hZ := HZi.eq
      rw [Nat.sub_self] at hZ
      have hZ2 : Z = (0, b.drop K, A, out) := hZ.symm
      subst hZ2
      have hrl : (b.drop K).length = b.length - K := List.length_drop
      have hg0 : (b.drop K).getD 0 0 = b.getD K 0 := getD_drop b K 0
      have HXM := hide (fun (hx : b.length ≤ K ∨ 8 < b.getD K 0) => HUS.xm rfl (by show (b.drop K).length = 0 ∨ 8 < (b.drop K).getD 0 0; rw [hg0, hrl]; omega))
      have hvm : ¬ (b.length ≤ K ∨ 8 < b.getD K 0) → ¬ ((b.drop K).length = 0 ∨ 8 < (b.drop K).getD 0 0) := fun h => by rw [hg0, hrl]; omega
      have HXR := hide (fun (hx : ¬ (b.length ≤ K ∨ 8 < b.getD K 0)) h5 => HUS.xr rfl (hvm hx) h5)
      have HXE := hide (fun (hx : ¬ (b.length ≤ K ∨ 8 < b.getD K 0)) h5 h6 => HUS.xe rfl (hvm hx) h5 h6)
      have HXK := hide (fun (hx : ¬ (b.length ≤ K ∨ 8 < b.getD K 0)) h5 h6 => HUS.xk rfl (hvm hx) h5 h6)
      have HUV : Hid (roR (b.getD K 0).toNat 0 ((b.drop K).drop 1) out = upV (0, b.drop K, A, out)) := hide (by unfold upV; dsimp only; rw [hg0])
      rw [List.drop_drop] at HUV
      have HBL := hide hbel
      have HBO := hide hbo
      have HOI := hide hoi
      have hol := hoi.len
      clear hZ hrl hg0 hvm HUS HZi hlt hbel hbo hoi
      generalize upV (0, b.drop K, A, out) = V at *
      by_cases hK1 : K < b.length
      case neg =>
        have hx := unhide HXM (.inl (by omega))
        subst hx
        clear HXM HXR HXE HXK HUV
        have hge : decide ((b.length : Int) ≤ (K : Int)) = true := decide_eq_true (by omega)
        generalize b.length = N at *
        go_wp2
        go_ret2
        exact ⟨none, 0, rfl, bs_nil _, unhide HBL⟩
      have hcK0 := unhide HC K hK1
      have hcK := ((unhide HBL).cell (p := ⟨b0, o0 + K, none⟩) (block_lt_of_cell hcK0)).trans hcK0
      have hv0 := (unhide HBY).getD K
      have hge : decide ((b.length : Int) ≤ (K : Int)) = false := decide_eq_false (by omega)
      clear hcK0
      by_cases h8 : 8 < b.getD K 0
      case pos =>
        have hx := unhide HXM (.inr h8)
        subst hx
        clear HXM HXR HXE HXK HUV
        generalize b.getD K 0 = V0 at *
        have hg8 : decide (8 < V0) = true := decide_eq_true h8
        generalize b.length = N at *
        go_wp2
        go_ret2
        exact ⟨none, 0, rfl, bs_nil _, unhide HBL⟩
      have hno : ¬ (b.length ≤ K ∨ 8 < b.getD K 0) := by omega
      have HXR' := hide (unhide HXR hno)
      have HXE' := hide (unhide HXE hno)
      have HXK' := hide (unhide HXK hno)
      obtain ⟨m, hm⟩ := Int.eq_ofNat_of_zero_le hv0.1
      rw [hm] at hcK h8 hv0
      have HV0 : UrIs m 0 (b.drop (K + 1)) out V := ⟨by rw [Nat.sub_zero]; have := unhide HUV; rw [hm, Int.toNat_natCast] at this; exact this⟩
      have hg8 : decide (8 < (m : Int)) = false := decide_eq_false (by omega)
      have hRo : Ros out 0 := ⟨(unhide HOI).fine, (unhide HOI).len, (unhide HOI).byt, fun j _ hj => (unhide HOI).none_ j hj⟩
      have HRO := hide hRo
      clear HXM HXR HXE HXK HUV hno hm hRo HOI
      go_wp2_with fail
      go_loopw [4, 5, 16] (fun ov kv jv wq => ∃ (j Q : Nat) (a' : Option Addr) (c' : Nat) (ot : List Int), j ≤ m ∧ 5 ≤ Q ∧ Q ≤ b.length ∧ ov = .slice a' 6400 c' ∧ kv = .int .i64 Q ∧ jv = .int .i64 j ∧ Bs wq a' c' ot ∧ UrIs m j (b.drop Q) ot V ∧ Ros ot j ∧ Below w.heap.size w wq) (fun _ _ jv _ => m - (intOf jv).toNat)
      case atStart => exact ⟨0, K + 1, a', c', out, Nat.zero_le _, by omega, by omega, rfl, by go_num, rfl, unhide HBO, HV0, unhide HRO, unhide HBL⟩
      case round =>
        obtain ⟨j, Q, a2, c2, ot, hj, hQ5, hQ, rfl, rfl, rfl, hbo, HVj, hro, hbel⟩ := hrel
        clear HBO HV0 HRO HBL hcK hc4r
        by_cases hlt : j < m
        · have HX := hide (fun (x : Int) (hx : roE (b.drop Q) ot = x) (h0 : x ≠ 0) => HVj.stop hlt (unhide HXR') hx h0)
          have HBL := hide hbel
          have HBO := hide hbo
          have HRO := hide hro
          have hrl : (b.drop Q).length = b.length - Q := List.length_drop
          have hol2 := hro.len
          clear hbel hbo hro
          by_cases hQ8 : Q + 8 ≤ b.length
          case neg =>
            have hx := unhide HX 2 (roE_0 (by omega)) (by decide)
            subst hx
            clear HX HVj hrl HXR' HXE' HXK'
            generalize b.length = N at *
            go_wp2
            go_ret2
            exact ⟨none, 0, rfl, bs_nil _, unhide HBL⟩
          obtain ⟨a5, hs5, hb5⟩ := slice_lohi (P := Tryz.prog) (t := 22) Tryz.underlying22 size_u8 (unhide HBS) Q (Q + 8) (by omega) hQ8
          rw [show Q + 8 - Q = 8 by omega] at hs5 hb5
          replace hs5 : ∀ w', (Instr.slice 22 (.slice (some ⟨b0, o0, none⟩) b.length cap) (some (.int .i64 (Q : Int))) (some (.int .i64 ((Q : Int) + 8))) none).run Tryz.prog w' = .ok (.slice a5 8 (cap - Q)) w' := hs5
          have hl8 : ((b.drop Q).take 8).length = 8 := by rw [List.length_take, List.length_drop]; omega
          have hRN := rRead_any a5 (cap - Q) ((b.drop Q).take 8) wr (hb5.below (unhide HBL))
          rw [hl8] at hRN
          have HRN := hide hRN
          have hg8' : (b.drop Q).getD 8 0 = b.getD (Q + 8) 0 := getD_drop b Q 8
          have HE1 := hide (fun (h2 : (readOut ((b.drop Q).take 8)).2 ≠ 0) => unhide HX 2 (roE_1 (by omega) h2) (by decide))
          have HE2 := hide (fun (h2 : (readOut ((b.drop Q).take 8)).2 = 0) (h3 : leadOf (rootsK ot 8) (readOut ((b.drop Q).take 8)).1 ≠ 0) => unhide HX 7 (roE_2 (by omega) h2 h3) (by decide))
          have HE3 := hide (fun (h2 : (readOut ((b.drop Q).take 8)).2 = 0) (h3 : leadOf (rootsK ot 8) (readOut ((b.drop Q).take 8)).1 = 0) (h4 : b.length < Q + 9) => unhide HX 2 (roE_3 (by omega) h2 h3 (by omega)) (by decide))
          have HE4 := hide (fun (h2 : (readOut ((b.drop Q).take 8)).2 = 0) (h3 : leadOf (rootsK ot 8) (readOut ((b.drop Q).take 8)).1 = 0) (h4 : Q + 9 ≤ b.length) => (roE_4 (r := b.drop Q) (out := ot) h2 h3 (by omega)).trans (by rw [hg8']))
          have HRX : Hid (roO (b.drop Q) j ot = prL ot j ((readOut ((b.drop Q).take 8)).1, b.getD (Q + 8) 0)) := hide (by unfold roO; rw [hg8'])
          have HNS := hide (fun (h2 : (readOut ((b.drop Q).take 8)).2 = 0) => (readOut_ok (l := (b.drop Q).take 8) (fun z hz => unhide HBY z (List.mem_of_mem_drop (List.mem_of_mem_take hz))) h2).2.1)
          have HLD := hide (fun (W : World) (s : ByteArray) (hx : Bs W a2 c2 ot) => rLead_any a2 c2 ot s W hx (by omega) (by omega))
          rw [hol2] at HLD
          clear hRN hl8 hb5 hg8' hrl
          generalize hS : (readOut ((b.drop Q).take 8)).1 = S at *
          generalize (readOut ((b.drop Q).take 8)).2 = E at *
          clear hS
          by_cases hE0 : E = 0
          case neg =>
            have hx := unhide HE1 hE0
            subst hx
            clear HX HVj HXR' HXE' HXK' HE1 HE2 HE3 HE4 HRX HNS HLD
            have hEb : (E != 0) = true := by simpa using hE0
            generalize b.length = N at *
            go_wp2_with fail
            refine (unhide HRN).mono ?_
            rintro e w2 ⟨rfl, rfl⟩
            go_wp2
            go_ret2
            exact ⟨none, 0, rfl, bs_nil _, unhide HBL⟩
          subst hE0
          have HC7 := hide (unhide HLD wr S (unhide HBO))
          have HNS' := hide (unhide HNS (by first | rfl | trivial))
          have HE2' := hide (unhide HE2 (by first | rfl | trivial))
          have HE3' := hide (unhide HE3 (by first | rfl | trivial))
          have HE4' := hide (unhide HE4 (by first | rfl | trivial))
          clear HE1 HE2 HE3 HE4 HNS HLD
          generalize leadOf (rootsK ot 8) S = LD at *
          by_cases hL0 : LD = 0
          case neg =>
            have hx := unhide HE2' hL0
            subst hx
            clear HX HVj HXR' HXE' HXK' HE2' HE3' HE4' HRX HNS'
            have hLb : (LD != 0) = true := by simpa using hL0
            generalize b.length = N at *
            go_wp2_with fail
            refine (unhide HRN).mono ?_
            rintro e w2 ⟨rfl, rfl⟩
            go_wp2_with fail
            refine (unhide HC7).mono ?_
            rintro e w3 ⟨rfl, hB3⟩
            have HB3 := hide ((unhide HBL).trans (hB3.mono (unhide HBL).size))
            clear hB3
            go_wp2
            go_ret2
            exact ⟨none, 0, rfl, bs_nil _, unhide HB3⟩
          subst hL0
          by_cases hQ9 : Q + 9 ≤ b.length
          case neg =>
            have hx := unhide HE3' (by first | rfl | trivial) (by omega)
            subst hx
            clear HX HVj HXR' HXE' HXK' HE2' HE3' HE4' HRX HNS'
            generalize b.length = N at *
            go_wp2_with fail
            refine (unhide HRN).mono ?_
            rintro e w2 ⟨rfl, rfl⟩
            go_wp2_with fail
            refine (unhide HC7).mono ?_
            rintro e w3 ⟨rfl, hB3⟩
            have HB3 := hide ((unhide HBL).trans (hB3.mono (unhide HBL).size))
            clear hB3
            go_wp2
            go_ret2
            exact ⟨none, 0, rfl, bs_nil _, unhide HB3⟩
          have hcQ0 := unhide HC (Q + 8) (by omega)
          have hv8 := (unhide HBY).getD (Q + 8)
          have hE4 := unhide HE4' (by first | rfl | trivial) (by omega)
          have HCQ := hide hcQ0
          have HHN := hide (fun (W : World) (hx : Bs W a2 c2 ot) => sHandle_any a2 c2 ot (b.getD (Q + 8) 0) W hx (unhide HRO).fine.len0)
          rw [hol2] at HHN
          have hnsz : S.size ≤ 140737488351232 := by have := (unhide HNS').2.1; omega
          have HPR := hide (fun (W : World) (hx : Bs W a2 c2 ot) => rPutRoot_any a2 c2 ot j (S, b.getD (Q + 8) 0) W hx (unhide HRO).fine.len0 hnsz)
          rw [hol2] at HPR
          unfold rootV at HPR
          clear hcQ0 HE2' HE3' HE4' hnsz
          generalize b.getD (Q + 8) 0 = V8 at *
          by_cases hck : chkE ot V8 = 0
          case neg =>
            have hx := unhide HX _ hE4 hck
            subst hx
            clear HX HVj HXR' HXE' HXK' HRX HNS' hE4 HPR
            generalize chkE ot V8 = X8 at *
            have hXb : (X8 != 0) = true := by simpa using hck
            go_wp2_with fail
            refine (unhide HRN).mono ?_
            rintro e w2 ⟨rfl, rfl⟩
            go_wp2_with fail
            refine (unhide HC7).mono ?_
            rintro e w3 ⟨rfl, hB3⟩
            have hB3' := (unhide HBL).trans (hB3.mono (unhide HBL).size)
            have hcQ := (hB3'.cell (p := ⟨b0, o0 + (Q + 8), none⟩) (block_lt_of_cell (unhide HCQ))).trans (unhide HCQ)
            have HC8 := hide (unhide HHN w3 ((unhide HBO).below hB3))
            have HB3 := hide hB3'
            clear hB3 hB3' HHN HBO HBL HC7 HRN
            go_wp2_with fail
            refine (unhide HC8).mono ?_
            rintro e w4 ⟨rfl, hB4⟩
            have HB4 := hide ((unhide HB3).trans (hB4.mono (unhide HB3).size))
            clear hB4
            go_wp2
            go_ret2
            exact ⟨none, 0, rfl, bs_nil _, unhide HB4⟩
          rw [hck] at hE4 HHN
          have hVn := HVj.next hlt hE4
          obtain ⟨hRn, _, _⟩ := (unhide HRO).next (by omega) (fun z hz => unhide HBY z (List.mem_of_mem_drop hz)) hE4
          rw [List.drop_drop] at hVn
          have hprl : prL ot j (S, V8) = roO (b.drop Q) j ot := (unhide HRX).symm
          have hRnl := hRn.len
          rw [hprl] at HPR
          dsimp only at HPR
          have HVN := hide hVn
          have HRN2 := hide hRn
          have HRL := hide hRnl
          clear hVn hRn hprl HVj hE4 HRX HX HRO hRnl
          generalize roO (b.drop Q) j ot = OR at *
          generalize prE ot j (S, V8) = PE at *
          go_wp2_with fail
          refine (unhide HRN).mono ?_
          rintro e w2 ⟨rfl, rfl⟩
          go_wp2_with fail
          refine (unhide HC7).mono ?_
          rintro e w3 ⟨rfl, hB3⟩
          have hB3' := (unhide HBL).trans (hB3.mono (unhide HBL).size)
          have hcQ := (hB3'.cell (p := ⟨b0, o0 + (Q + 8), none⟩) (block_lt_of_cell (unhide HCQ))).trans (unhide HCQ)
          have HC8 := hide (unhide HHN w3 ((unhide HBO).below hB3))
          have HP8 := hide (fun (W : World) (hx : Below w3.heap.size w3 W) => unhide HPR W (((unhide HBO).below hB3).below hx))
          have HB3 := hide hB3'
          clear hB3 hB3' HHN HBO HBL HC7 HRN HPR
          go_wp2_with fail
          refine (unhide HC8).mono ?_
          rintro e w4 ⟨rfl, hB4⟩
          have HP9 := hide (unhide HP8 w4 hB4)
          have HB4 := hide ((unhide HB3).trans (hB4.mono (unhide HB3).size))
          clear hB4 HC8 HP8 HB3 hcQ
          go_wp2_with fail
          refine (unhide HP9).mono ?_
          rintro e w5 ⟨a9, c9, rfl, hb9, hB9⟩
          try rw [unhide HRL]
          have HB9 := hide hb9
          have HBW9 := hide ((unhide HB4).trans (hB9.mono (unhide HB4).size))
          clear hb9 hB9 HP9 HB4
          go_wp2
          go_roundw
          case rel => exact ⟨j + 1, Q + 9, _, _, OR, by omega, by omega, by omega, rfl, by go_num, by go_num, unhide HB9, unhide HVN, unhide HRN2, unhide HBW9⟩
          case measure => simp [intOf]; omega
        · obtain rfl : j = m := by omega
          have hV := HVj.eq
          rw [Nat.sub_self] at hV
          have hV2 : V = (0, b.drop Q, ot) := hV.symm
          subst hV2
          have HB := hide hbo
          have HBW := hide hbel
          have hol2 := hro.len
          have hrl : (b.drop Q).length = b.length - Q := List.length_drop
          clear hV hbo hbel hro HVj HXR' hlt
          by_cases hQe : Q = b.length
          · have hx := unhide HXK' rfl (List.eq_nil_of_length_eq_zero (by show (b.drop Q).length = 0; omega))
            subst hx
            have hQb : decide ((Q : Int) = (b.length : Int)) = true := decide_eq_true (by omega)
            clear HXE' HXK' hrl
            subst hQe
            go_wp2
            go_ret2
            exact ⟨_, _, by rw [hol2]; rfl, unhide HB, unhide HBW⟩
          · have hx := unhide HXE' rfl (fun h => hQe (by have := congrArg List.length h; rw [hrl] at this; simp at this; omega))
            subst hx
            have hne : ¬ ((Q : Int) = (b.length : Int)) := by omega
            have hneb : ((Q : Int) != (b.length : Int)) = true := by simpa using hne
            clear HXE' HXK' hrl hQe
            generalize b.length = N at *
            go_wp2
            go_ret2
            exact ⟨none, 0, rfl, bs_nil _, unhide HBW⟩
theorem sUp_any (a : Option Addr) (cap : Nat) (b : List Int) (w : World) (hb : Bs w a cap b) :
    Calls Tryz.prog 5 #[.slice a b.length cap] w (Ends w (upS b).2 (.int .i64 (upS b).1)) := by
  by_cases h : hdB b = true ∧ 5 ≤ b.length ∧ b.getD 4 0 ≤ 40
  · obtain ⟨b0, o0, rfl, _⟩ := hb.cells (by intro e; rw [e] at h; simp at h)
    exact sUp_go b0 o0 cap b w hb h.1 h.2.1 h.2.2
  · exact sUp_no a cap b w hb h
end Go.Proofs.YtllpeknpplpgeaaGreatDoor
