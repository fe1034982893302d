/-
  Parts of the proofs, joined by program.
-/
import Derived.Test.YtfbloliakmehbaaGreatDoorJIn
import Derived.Test.YtfbloliakmehbaaGreatDoorJIm
import Derived.OpenShut
import Derived.ChangeSlices
import Derived.SizedLaws
import Derived.Deep.Slices
import Derived.Deep.Strs
namespace Go.Proofs.YtfbloliakmehbaaGreatDoor
open Go.RowKit Go.ChangeShapes Go.WideShapes Go.Deep
set_option linter.unusedVariables false
theorem list2 {α : Type} {l : List α} (h : l.length = 2) : ∃ a b, l = [a, b] := by
 match l, h with
 | [a, b], _ => exact ⟨a, b, rfl⟩
theorem list4 {α : Type} {l : List α} (h : l.length = 4) : ∃ a b c d, l = [a, b, c, d] := by
 match l, h with
 | [a, b, c, d], _ => exact ⟨a, b, c, d, rfl⟩
def InE (e : (Int × Int × Int × Int)) : Prop := (-9223372036854775808 <= e.1 /\ e.1 <= 9223372036854775807) /\ (-9223372036854775808 <= e.2.1 /\ e.2.1 <= 9223372036854775807) /\ (-9223372036854775808 <= e.2.2.1 /\ e.2.2.1 <= 9223372036854775807) /\ (-9223372036854775808 <= e.2.2.2 /\ e.2.2.2 <= 9223372036854775807)
section
variable {H : Type} {enc : TypeId × Value -> H} {W : World} {sp : Nat -> Bool} {hd : Bool}
theorem int_cell {fuel : Nat} {c : Value} {x : DataW H × List MemPlace} (h : DataW.trod enc Tryz.prog W 0 sp hd fuel 3 [c] = some x) : ∃ z, c = .int .i64 z /\ (-9223372036854775808 <= z /\ z <= 9223372036854775807) := by
 obtain ⟨z, h4, _, h5⟩ := DataW.trod_int Tryz.underlying3 h
 exact ⟨z, by simpa using h4, bounds_i64 h5⟩
set_option maxRecDepth 100000 in
theorem ext_cells {fuel : Nat} {c0 c1 : Value} {x : DataW H × List MemPlace} (h : DataW.trod enc Tryz.prog W 0 sp hd fuel 69 [c0, c1] = some x) : ∃ y z, c0 = .int .i64 y /\ c1 = .int .i64 z /\ (-9223372036854775808 <= y /\ y <= 9223372036854775807) /\ (-9223372036854775808 <= z /\ z <= 9223372036854775807) := by
 obtain ⟨y0, y1, n, _, _, h0, h1⟩ := trod_struct2 Tryz.underlying69 h
 have hc : Tryz.prog.cellsOf 3 = 1 := by kernel_rfl
 simp only [hc] at h0 h1
 obtain ⟨y, rfl, hy⟩ := int_cell h0
 obtain ⟨z, rfl, hz⟩ := int_cell h1
 exact ⟨y, z, rfl, rfl, hy, hz⟩
set_option maxRecDepth 100000 in
theorem ent_cells {fuel : Nat} {cs : List Value} {x : DataW H × List MemPlace} (h : DataW.trod enc Tryz.prog W 0 sp hd fuel 71 cs = some x) : ∃ e : (Int × Int × Int × Int), cs = enC e /\ InE e := by
 obtain ⟨y0, y1, y2, n, _, hl, h0, h1, h2⟩ := trod_struct3 Tryz.underlying71 h
 have hc : Tryz.prog.cellsOf 3 = 1 := by kernel_rfl
 have hc2 : Tryz.prog.cellsOf 69 = 2 := by kernel_rfl
 have hc4 : Tryz.prog.cellsOf 71 = 4 := by kernel_rfl
 rw [hc4] at hl
 obtain ⟨c0, c1, c2, c3, rfl⟩ := list4 hl
 simp only [hc, hc2] at h0 h1 h2
 obtain ⟨x, rfl, hx⟩ := int_cell h0
 obtain ⟨y, z, rfl, rfl, hy, hz⟩ := ext_cells h1
 obtain ⟨t, rfl, ht⟩ := int_cell h2
 exact ⟨(x, y, z, t), rfl, hx, hy, hz, ht⟩
set_option maxRecDepth 100000 in
theorem root_cells {fuel : Nat} {cs : List Value} {d : DataW H} {p : List MemPlace} (h : DataW.trod enc Tryz.prog W 0 sp hd fuel 76 cs = some (d, p)) (hw : ∀ n ∈ d.weights Tryz.prog 76, n <= reachBytes) : ∃ r : (ByteArray × Int), cs = roC r /\ r.1.size <= 140737488351232 := by
 obtain ⟨y0, y1, n, hx, hl, h0, h1⟩ := trod_struct2 Tryz.underlying76 h
 have hc : Tryz.prog.cellsOf 3 = 1 := by kernel_rfl
 have hc1 : Tryz.prog.cellsOf 9 = 1 := by kernel_rfl
 have hc2 : Tryz.prog.cellsOf 76 = 2 := by kernel_rfl
 rw [hc2] at hl
 obtain ⟨c0, c1, rfl⟩ := list2 hl
 simp only [hc, hc1] at h0 h1
 obtain ⟨s, h4, h5, _⟩ := DataW.trod_string Tryz.underlying9 h0
 obtain ⟨z, rfl, hz⟩ := int_cell h1
 obtain rfl : c0 = .string s := by simpa using h4
 simp only [Prod.mk.injEq] at hx
 have hs := hw s.data.toList.length (by
  rw [hx.1, h5]
  simp [DataW.weights, DataW.weightsEach, Tryz.underlying76])
 exact ⟨(s, z), rfl, by simpa [reachBytes] using hs⟩
set_option maxRecDepth 100000 in
theorem ent_of {r : Reach} {b0 : Nat} {v : Value} {d : DataW H} {p : List MemPlace} (hv : Value.okWide Tryz.prog W r b0 71 v) (h : DataW.Trod enc Tryz.prog W 0 sp hd 71 v d p) : ∃ e, v = entV e /\ InE e := by
 obtain ⟨cs, rfl, _⟩ := okWide_struct Tryz.underlying71 hv
 obtain ⟨fuel, hf⟩ := h
 obtain ⟨e, he, hin⟩ := ent_cells hf
 refine ⟨e, ?_, hin⟩
 have hcs : cs.toList = enC e := by simpa [Value.cells] using he
 have : cs = (enC e).toArray := by rw [<- hcs]
 rw [this]
 rfl
set_option maxRecDepth 100000 in
theorem root_of {r : Reach} {b0 : Nat} {v : Value} {d : DataW H} {p : List MemPlace} (hv : Value.okWide Tryz.prog W r b0 76 v) (h : DataW.Trod enc Tryz.prog W 0 sp hd 76 v d p) (hw : ∀ n ∈ d.weights Tryz.prog 76, n <= reachBytes) : ∃ q, v = rootV q /\ q.1.size <= 140737488351232 := by
 obtain ⟨cs, rfl, _⟩ := okWide_struct Tryz.underlying76 hv
 obtain ⟨fuel, hf⟩ := h
 obtain ⟨e, he, hin⟩ := root_cells hf hw
 refine ⟨e, ?_, hin⟩
 have hcs : cs.toList = roC e := by simpa [Value.cells] using he
 have : cs = (roC e).toArray := by rw [<- hcs]
 rw [this]
 rfl
theorem weightsAll_mem {P : Program} {t : TypeId} : ∀ {l : List (DataW H)} {d : DataW H}, d ∈ l -> ∀ n ∈ d.weights P t, n ∈ DataW.weightsAll P t l
 | [], d, h, n, _ => by cases h
 | e :: l, d, h, n, hn => by
  unfold DataW.weightsAll
  rcases List.mem_cons.1 h with rfl | h
  ·exact List.mem_append.2 (.inl hn)
  ·exact List.mem_append.2 (.inr (weightsAll_mem h n hn))
end
theorem sls_of {α : Type} {ec : α -> List Value} {k bytes : Nat} {t e : TypeId} {good : α -> Prop} {H : Type} {enc : TypeId × Value -> H} {W : World} {fuel : Nat} {a : Option Addr} {len cap : Nat} {d : DataW H} {p : List MemPlace} (y0 : α)
  (hu : Tryz.prog.underlying t = some (.slice e)) (hk : Tryz.prog.cellsOf e = k) (hb : Tryz.prog.bytesOf e = bytes) (hb16 : 16 <= bytes) (hlen : ∀ x, (ec x).length = k)
  (hone : ∀ (n : Nat) (cs : List Value) (d : DataW H) (q : List MemPlace), DataW.trod enc Tryz.prog W 0 (fun _ => true) true n e cs = some (d, q) -> (∀ n ∈ d.weights Tryz.prog e, n <= reachBytes) -> ∃ x, cs = ec x /\ good x)
  (hf : DataW.trod enc Tryz.prog W 0 (fun _ => true) true fuel t [.slice a len cap] = some (d, p)) (hw : ∀ n ∈ d.weights Tryz.prog t, n <= reachBytes) (h0 : 0 < k) : ∃ l, (Sls ec k W a cap l /\ ∀ x ∈ l, good x) /\ l.length = len := by
 rcases open_slice hu hf with ⟨hcs, _⟩ | ⟨x, l, c, m, n, D, Pl, hcs, _, hl, hm, hmm, hx, hcell⟩
 ·simp at hcs
  obtain ⟨rfl, rfl, rfl⟩ := hcs
  exact ⟨[], ⟨⟨Nat.le_refl _, fun _ => rfl, by simp, fun h => absurd rfl h⟩, fun x hx => by cases hx⟩, rfl⟩
 ·simp at hcs
  obtain ⟨rfl, rfl, rfl⟩ := hcs
  simp only [if_true] at hmm
  subst hmm
  simp only [Prod.mk.injEq] at hx
  have hd : d.weights Tryz.prog t = (len + (m - len)) * bytes :: (DataW.weightsAll Tryz.prog e ((List.range len).map D) ++ DataW.weightsAll Tryz.prog e ((List.range (m - len)).map fun j => D (len + j))) := by
   rw [hx.1]
   simp [DataW.weights, hu, hb]
  rw [hd] at hw
  have hs := hw _ (List.mem_cons_self ..)
  simp only [reachBytes] at hs
  have hs2 : (len + (m - len)) * 16 <= (len + (m - len)) * bytes := Nat.mul_le_mul (Nat.le_refl _) hb16
  have hall : ∀ i, ∃ q : α, i < len -> good q /\ ∀ j u, (ec q)[j]? = some u -> W.cell? ((x.add (i * k)).add j) = some u := by
   intro i
   by_cases hi : i < len
   ·obtain ⟨cs', h1, h2⟩ := hcell i (by omega)
    obtain ⟨q, rfl, hgq⟩ := hone _ _ _ _ h2 (fun n hn => hw n (List.mem_cons.2 (.inr (List.mem_append.2 (.inl (weightsAll_mem (List.mem_map.2 ⟨i, List.mem_range.2 hi, rfl⟩) n hn))))))
    rw [hk] at h1
    obtain ⟨_, hlen', hc'⟩ := World.cells?_some h1
    refine ⟨q, fun _ => ⟨hgq, fun j u hj => ?_⟩⟩
    have hjl := (List.getElem?_eq_some_iff.1 hj).1
    have := hc' j (by omega)
    rw [this]
    first | exact hj | (simp [hj])
   ·exact ⟨y0, fun h => absurd h hi⟩
  have hget : ∀ i y, ((List.range len).map fun i => Classical.choose (hall i))[i]? = some y -> i < len /\ y = Classical.choose (hall i) := fun i y hy => by
   have hi : i < len := by
    have := (List.getElem?_eq_some_iff.1 hy).1
    simpa using this
   exact ⟨hi, by simpa [hi] using hy.symm⟩
  refine ⟨(List.range len).map fun i => Classical.choose (hall i), ⟨⟨by simp; omega, fun h => (by cases h), by simp; omega, fun hne => ?_⟩, fun y hy => ?_⟩, by simp⟩
  ·have hpos : 0 < len := by
    rcases Nat.eq_zero_or_pos len with h | h
    ·have h0 : List.range len = [] := by rw [h]; rfl
     exact absurd (by rw [h0]; rfl) hne
    ·exact h
   obtain ⟨b, off, spot⟩ := x
   have hspot : spot = none := by
    have h9 := (Classical.choose_spec (hall 0) hpos).2 0 ((ec (Classical.choose (hall 0)))[0]'(by rw [hlen]; exact h0)) (List.getElem?_eq_getElem _)
    simpa [Addr.add] using World.cell?_spot h9
   subst hspot
   refine ⟨b, off, rfl, fun i y hy j u hj => ?_⟩
   obtain ⟨hi, rfl⟩ := hget i y hy
   have := (Classical.choose_spec (hall i) hi).2 j u hj
   simpa only [addr_add, <- Nat.add_assoc] using this
  ·obtain ⟨i, hi, rfl⟩ := List.mem_map.1 hy
   exact (Classical.choose_spec (hall i) (List.mem_range.1 hi)).1
def EnsIn (W : World) (a : Option Addr) (cap : Nat) (l : List (Int × Int × Int × Int)) : Prop := Sls enC 4 W a cap l /\ ∀ e ∈ l, InE e
def RosIn (W : World) (a : Option Addr) (cap : Nat) (l : List (ByteArray × Int)) : Prop := Sls roC 2 W a cap l /\ ∀ r ∈ l, r.1.size <= 140737488351232
theorem ents_of {H : Type} {enc : TypeId × Value -> H} {W : World} {fuel : Nat} {a : Option Addr} {len cap : Nat} {d : DataW H} {p : List MemPlace}
  (hf : DataW.trod enc Tryz.prog W 0 (fun _ => true) true fuel 119 [.slice a len cap] = some (d, p)) (hw : ∀ n ∈ d.weights Tryz.prog 119, n <= reachBytes) : ∃ l, EnsIn W a cap l /\ l.length = len :=
 sls_of (0, 0, 0, 0) Tryz.underlying119 (by kernel_rfl) (bytes := 32) (by kernel_rfl) (by decide) enC_len (fun n cs d q h _ => ent_cells h) hf hw (by decide)
theorem roots_of {H : Type} {enc : TypeId × Value -> H} {W : World} {fuel : Nat} {a : Option Addr} {len cap : Nat} {d : DataW H} {p : List MemPlace}
  (hf : DataW.trod enc Tryz.prog W 0 (fun _ => true) true fuel 73 [.slice a len cap] = some (d, p)) (hw : ∀ n ∈ d.weights Tryz.prog 73, n <= reachBytes) : ∃ l, RosIn W a cap l /\ l.length = len :=
 sls_of (ByteArray.empty, 0) Tryz.underlying73 (by kernel_rfl) (bytes := 24) (by kernel_rfl) (by decide) roC_len (fun n cs d q h hw => root_cells h hw) hf hw (by decide)
abbrev OpR := Int × Int × Int × Int × ByteArray × (Option Addr × Nat × List Int)
def opC (r : OpR) : List Value := [.int .i64 r.1, .int .i64 r.2.1, .int .i64 r.2.2.1, .int .i64 r.2.2.2.1, .string r.2.2.2.2.1, .slice r.2.2.2.2.2.1 r.2.2.2.2.2.2.2.length r.2.2.2.2.2.2.1]
theorem opC_len (r : OpR) : (opC r).length = 6 := rfl
def InZ (z : Int) : Prop := -9223372036854775808 <= z /\ z <= 9223372036854775807
def OpIn (W : World) (r : OpR) : Prop := InZ r.1 /\ InZ r.2.1 /\ InZ r.2.2.1 /\ InZ r.2.2.2.1 /\ r.2.2.2.2.1.size <= 140737488351232 /\ Bs W r.2.2.2.2.2.1 r.2.2.2.2.2.2.1 r.2.2.2.2.2.2.2
theorem list6 {α : Type} {l : List α} (h : l.length = 6) : ∃ a b c d e f, l = [a, b, c, d, e, f] := by
 match l, h with
 | [a, b, c, d, e, f], _ => exact ⟨a, b, c, d, e, f, rfl⟩
theorem trod_struct6 {H : Type} {enc : TypeId × Value -> H} {P : Program} {w : World} {base : Nat} {spare : Nat -> Bool} {held : Bool} {t : TypeId} {f0 f1 f2 f3 f4 f5 : Field} {fuel : Nat} {cs : List Value} {x : DataW H × List MemPlace} (ht : P.underlying t = some (.struct #[f0, f1, f2, f3, f4, f5])) (h : DataW.trod enc P w base spare held fuel t cs = some x) :
  ∃ y0 y1 y2 y3 y4 y5 n, x.1 = .agg [y0.1, y1.1, y2.1, y3.1, y4.1, y5.1] /\ cs.length = P.cellsOf t /\ DataW.trod enc P w base spare held n f0.type ((cs.drop f0.offset).take (P.cellsOf f0.type)) = some y0 /\
   DataW.trod enc P w base spare held n f1.type ((cs.drop f1.offset).take (P.cellsOf f1.type)) = some y1 /\ DataW.trod enc P w base spare held n f2.type ((cs.drop f2.offset).take (P.cellsOf f2.type)) = some y2 /\
   DataW.trod enc P w base spare held n f3.type ((cs.drop f3.offset).take (P.cellsOf f3.type)) = some y3 /\ DataW.trod enc P w base spare held n f4.type ((cs.drop f4.offset).take (P.cellsOf f4.type)) = some y4 /\
   DataW.trod enc P w base spare held n f5.type ((cs.drop f5.offset).take (P.cellsOf f5.type)) = some y5 := by
 obtain ⟨xs, n, _, rfl, hl, hlen, hf⟩ := DataW.trod_struct ht h
 match xs, hlen with
 | [y0, y1, y2, y3, y4, y5], _ => exact ⟨y0, y1, y2, y3, y4, y5, n, by simp, hl, by simpa using hf 0 f0 rfl, by simpa using hf 1 f1 rfl, by simpa using hf 2 f2 rfl, by simpa using hf 3 f3 rfl, by simpa using hf 4 f4 rfl, by simpa using hf 5 f5 rfl⟩
theorem body_of {H : Type} {enc : TypeId × Value -> H} {W : World} {fuel : Nat} {v : Value} {d : DataW H} {p : List MemPlace}
  (hf : DataW.trod enc Tryz.prog W 0 (fun _ => true) true fuel 22 [v] = some (d, p)) (hw : ∀ n ∈ d.weights Tryz.prog 22, n <= reachBytes) : ∃ a cap l, v = .slice a l.length cap /\ Bs W a cap l := by
 rcases open_ints Tryz.underlying22 Tryz.underlying5 (by kernel_rfl) hf with ⟨hcs, _⟩ | ⟨x, l, c, zs, hcs, _, hl, hm, hz, hx, hcell, hwz⟩
 ·simp at hcs
  subst hcs
  exact ⟨none, 0, [], rfl, fun z hz => (by cases hz), Nat.le_refl _, by decide, fun _ => rfl, fun h => absurd rfl h⟩
 ·simp at hcs
  subst hcs
  simp only [Prod.mk.injEq] at hx
  simp only [if_true] at hz
  have hb : Tryz.prog.bytesOf 5 = 1 := by kernel_rfl
  have hs := hw ((lits (H := H) .u8 (zs.take l)).length + (lits (H := H) .u8 (zs.drop l)).length) (by
   rw [hx.1]
   simp [DataW.weights, Tryz.underlying22, hb])
  simp only [lits, List.length_map, List.length_take, List.length_drop, reachBytes] at hs
  obtain ⟨h1, h2⟩ := bs_of_row hl (by omega) hz hcell hwz
  exact ⟨_, _, _, by rw [h2], h1⟩
set_option maxRecDepth 100000 in
theorem op_cells {H : Type} {enc : TypeId × Value -> H} {W : World} {t : TypeId} {f0 f1 f2 f3 f4 f5 : Field} (hu : Tryz.prog.underlying t = some (.struct #[f0, f1, f2, f3, f4, f5])) (hk : Tryz.prog.cellsOf t = 6)
  (e0 : f0.type = 3 /\ f0.offset = 0) (e1 : f1.type = 3 /\ f1.offset = 1) (e2 : f2.type = 3 /\ f2.offset = 2) (e3 : f3.type = 3 /\ f3.offset = 3) (e4 : f4.type = 9 /\ f4.offset = 4) (e5 : f5.type = 22 /\ f5.offset = 5)
  {fuel : Nat} {cs : List Value} {d : DataW H} {p : List MemPlace} (h : DataW.trod enc Tryz.prog W 0 (fun _ => true) true fuel t cs = some (d, p)) (hw : ∀ n ∈ d.weights Tryz.prog t, n <= reachBytes) : ∃ r : OpR, cs = opC r /\ OpIn W r := by
 obtain ⟨y0, y1, y2, y3, y4, y5, n, hx, hl, h0, h1, h2, h3, h4, h5⟩ := trod_struct6 hu h
 have hc : Tryz.prog.cellsOf 3 = 1 := by kernel_rfl
 have hc1 : Tryz.prog.cellsOf 9 = 1 := by kernel_rfl
 have hc2 : Tryz.prog.cellsOf 22 = 1 := by kernel_rfl
 rw [hk] at hl
 obtain ⟨c0, c1, c2, c3, c4, c5, rfl⟩ := list6 hl
 rw [e0.1, e0.2] at h0
 rw [e1.1, e1.2] at h1
 rw [e2.1, e2.2] at h2
 rw [e3.1, e3.2] at h3
 rw [e4.1, e4.2] at h4
 rw [e5.1, e5.2] at h5
 simp only [hc, hc1, hc2] at h0 h1 h2 h3 h4 h5
 obtain ⟨z0, rfl, hz0⟩ := int_cell h0
 obtain ⟨z1, rfl, hz1⟩ := int_cell h1
 obtain ⟨z2, rfl, hz2⟩ := int_cell h2
 obtain ⟨z3, rfl, hz3⟩ := int_cell h3
 obtain ⟨s, g4, g5, _⟩ := DataW.trod_string Tryz.underlying9 h4
 obtain rfl : c4 = .string s := by simpa using g4
 have hxx : d = .agg [y0.1, y1.1, y2.1, y3.1, y4.1, y5.1] := hx
 have hwt : d.weights Tryz.prog t = DataW.weightsEach Tryz.prog [f0.type, f1.type, f2.type, f3.type, f4.type, f5.type] [y0.1, y1.1, y2.1, y3.1, y4.1, y5.1] := by
  rw [hxx]
  simp [DataW.weights, hu]
 rw [e0.1, e1.1, e2.1, e3.1, e4.1, e5.1] at hwt
 have hs := hw s.data.toList.length (by
  rw [hwt, g5]
  simp [DataW.weights, DataW.weightsEach])
 have hb : ∀ k ∈ y5.1.weights Tryz.prog 22, k <= reachBytes := fun k hk => hw k (by
  rw [hwt]
  simp [DataW.weightsEach, hk])
 obtain ⟨y5a, y5b⟩ := y5
 obtain ⟨ab, cb, l, hv, hbs⟩ := body_of h5 hb
 obtain rfl : c5 = .slice ab l.length cb := hv
 exact ⟨(z0, z1, z2, z3, s, ab, cb, l), rfl, hz0, hz1, hz2, hz3, by simpa [reachBytes] using hs, hbs⟩
def Ops (W : World) (a : Option Addr) (cap : Nat) (l : List OpR) : Prop := Sls opC 6 W a cap l /\ ∀ r ∈ l, OpIn W r
theorem Ops.below {w w' : World} {a : Option Addr} {cap : Nat} {l : List OpR} (h : Ops w a cap l) (hb : Below w.heap.size w w') : Ops w' a cap l :=
 ⟨h.1.below hb, fun r hr => by
  obtain ⟨a1, a2, a3, a4, a5, a6⟩ := h.2 r hr
  exact ⟨a1, a2, a3, a4, a5, a6.below hb⟩⟩
theorem Sls.op {w : World} {b off : Nat} {l : List OpR} (hc : ∀ i x, l[i]? = some x -> ∀ j u, (opC x)[j]? = some u -> w.cell? ⟨b, off + i * 6 + j, none⟩ = some u) {i : Nat} {r : OpR} (h : l[i]? = some r) :
  w.cell? ⟨b, off + i * 6, none⟩ = some (.int .i64 r.1) /\ w.cell? ⟨b, off + i * 6 + 1, none⟩ = some (.int .i64 r.2.1) /\ w.cell? ⟨b, off + i * 6 + 2, none⟩ = some (.int .i64 r.2.2.1) /\ w.cell? ⟨b, off + i * 6 + 3, none⟩ = some (.int .i64 r.2.2.2.1) /\
  w.cell? ⟨b, off + i * 6 + 4, none⟩ = some (.string r.2.2.2.2.1) /\ w.cell? ⟨b, off + i * 6 + 5, none⟩ = some (.slice r.2.2.2.2.2.1 r.2.2.2.2.2.2.2.length r.2.2.2.2.2.2.1) :=
 ⟨hc i r h 0 _ rfl, hc i r h 1 _ rfl, hc i r h 2 _ rfl, hc i r h 3 _ rfl, hc i r h 4 _ rfl, hc i r h 5 _ rfl⟩
theorem ops_gen {H : Type} {enc : TypeId × Value -> H} {W : World} {t e : TypeId} {f0 f1 f2 f3 f4 f5 : Field} (hs : Tryz.prog.underlying t = some (.slice e)) (hu : Tryz.prog.underlying e = some (.struct #[f0, f1, f2, f3, f4, f5])) (hk : Tryz.prog.cellsOf e = 6) (hby : Tryz.prog.bytesOf e = 72)
  (e0 : f0.type = 3 /\ f0.offset = 0) (e1 : f1.type = 3 /\ f1.offset = 1) (e2 : f2.type = 3 /\ f2.offset = 2) (e3 : f3.type = 3 /\ f3.offset = 3) (e4 : f4.type = 9 /\ f4.offset = 4) (e5 : f5.type = 22 /\ f5.offset = 5)
  {fuel : Nat} {a : Option Addr} {len cap : Nat} {d : DataW H} {p : List MemPlace} (hf : DataW.trod enc Tryz.prog W 0 (fun _ => true) true fuel t [.slice a len cap] = some (d, p)) (hw : ∀ n ∈ d.weights Tryz.prog t, n <= reachBytes) : ∃ l, Ops W a cap l /\ l.length = len :=
 sls_of (0, 0, 0, 0, ByteArray.empty, none, 0, []) hs hk (bytes := 72) hby (by decide) opC_len (fun n cs d q h hw => op_cells hu hk e0 e1 e2 e3 e4 e5 h hw) hf hw (by decide)
theorem ops_of {H : Type} {enc : TypeId × Value -> H} {W : World} {fuel : Nat} {a : Option Addr} {len cap : Nat} {d : DataW H} {p : List MemPlace}
  (hf : DataW.trod enc Tryz.prog W 0 (fun _ => true) true fuel 38 [.slice a len cap] = some (d, p)) (hw : ∀ n ∈ d.weights Tryz.prog 38, n <= reachBytes) : ∃ l, Ops W a cap l /\ l.length = len :=
 ops_gen Tryz.underlying38 Tryz.underlying44 (by kernel_rfl) (by kernel_rfl) ⟨rfl, rfl⟩ ⟨rfl, rfl⟩ ⟨rfl, rfl⟩ ⟨rfl, rfl⟩ ⟨rfl, rfl⟩ ⟨rfl, rfl⟩ hf hw
end Go.Proofs.YtfbloliakmehbaaGreatDoor
