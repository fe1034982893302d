/-
  Arguments as they came in: entries, roots, lists of them. (Part of the proofs over laws.)
-/
import Derived.Test.YtopblhmbjdfebaaGreatImG
import Derived.Test.YtopblhmbjdfebaaGreatImRow
import Derived.OpenShut
import Derived.ChangeSlices
import Derived.SizedLaws
import Derived.Deep.Slices
import Derived.Deep.Strs
namespace Go.Proofs.YtopblhmbjdfebaaGreat
open Go.RowKit Go.ChangeShapes Go.WideShapes Go.Deep
set_option linter.unusedVariables false

theorem list2 {α : Type} {l : List α} (h : l.length = 2) : ∃ a b, l = [a, b] := by
  match l, h with
  | [a, b], _ => exact ⟨a, b, rfl⟩
theorem list4 {α : Type} {l : List α} (h : l.length = 4) : ∃ a b c d, l = [a, b, c, d] := by
  match l, h with
  | [a, b, c, d], _ => exact ⟨a, b, c, d, rfl⟩
/-- Each of the four is a number of the machine's. -/
def InE (e : (Int × Int × Int × Int)) : Prop := (-9223372036854775808 ≤ e.1 ∧ e.1 ≤ 9223372036854775807) ∧ (-9223372036854775808 ≤ e.2.1 ∧ e.2.1 ≤ 9223372036854775807) ∧ (-9223372036854775808 ≤ e.2.2.1 ∧ e.2.2.1 ≤ 9223372036854775807) ∧ (-9223372036854775808 ≤ e.2.2.2 ∧ e.2.2.2 ≤ 9223372036854775807)
section
variable {H : Type} {enc : TypeId × Value → H} {W : World} {sp : Nat → Bool} {hd : Bool}
theorem int_cell {fuel : Nat} {c : Value} {x : DataW H × List MemPlace} (h : DataW.trod enc Tryz.prog W 0 sp hd fuel 3 [c] = some x) : ∃ z, c = .int .i64 z ∧ (-9223372036854775808 ≤ z ∧ z ≤ 9223372036854775807) := by
  obtain ⟨z, h4, _, h5⟩ := DataW.trod_int Tryz.underlying3 h
  exact ⟨z, by simpa using h4, bounds_i64 h5⟩
set_option maxRecDepth 100000 in
theorem ext_cells {fuel : Nat} {c0 c1 : Value} {x : DataW H × List MemPlace} (h : DataW.trod enc Tryz.prog W 0 sp hd fuel 84 [c0, c1] = some x) : ∃ y z, c0 = .int .i64 y ∧ c1 = .int .i64 z ∧ (-9223372036854775808 ≤ y ∧ y ≤ 9223372036854775807) ∧ (-9223372036854775808 ≤ z ∧ z ≤ 9223372036854775807) := by
  obtain ⟨y0, y1, n, _, _, h0, h1⟩ := trod_struct2 Tryz.underlying84 h
  have hc : Tryz.prog.cellsOf 3 = 1 := by kernel_rfl
  simp only [hc] at h0 h1
  obtain ⟨y, rfl, hy⟩ := int_cell h0
  obtain ⟨z, rfl, hz⟩ := int_cell h1
  exact ⟨y, z, rfl, rfl, hy, hz⟩
set_option maxRecDepth 100000 in
theorem ent_cells {fuel : Nat} {cs : List Value} {x : DataW H × List MemPlace} (h : DataW.trod enc Tryz.prog W 0 sp hd fuel 87 cs = some x) : ∃ e : (Int × Int × Int × Int), cs = enC e ∧ InE e := by
  obtain ⟨y0, y1, y2, n, _, hl, h0, h1, h2⟩ := trod_struct3 Tryz.underlying87 h
  have hc : Tryz.prog.cellsOf 3 = 1 := by kernel_rfl
  have hc2 : Tryz.prog.cellsOf 84 = 2 := by kernel_rfl
  have hc4 : Tryz.prog.cellsOf 87 = 4 := by kernel_rfl
  rw [hc4] at hl
  obtain ⟨c0, c1, c2, c3, rfl⟩ := list4 hl
  simp only [hc, hc2] at h0 h1 h2
  obtain ⟨x, rfl, hx⟩ := int_cell h0
  obtain ⟨y, z, rfl, rfl, hy, hz⟩ := ext_cells h1
  obtain ⟨t, rfl, ht⟩ := int_cell h2
  exact ⟨(x, y, z, t), rfl, hx, hy, hz, ht⟩
set_option maxRecDepth 100000 in
theorem root_cells {fuel : Nat} {cs : List Value} {d : DataW H} {p : List MemPlace} (h : DataW.trod enc Tryz.prog W 0 sp hd fuel 95 cs = some (d, p)) (hw : ∀ n ∈ d.weights Tryz.prog 95, n ≤ reachBytes) : ∃ r : (ByteArray × Int), cs = roC r ∧ r.1.size ≤ 140737488351232 := by
  obtain ⟨y0, y1, n, hx, hl, h0, h1⟩ := trod_struct2 Tryz.underlying95 h
  have hc : Tryz.prog.cellsOf 3 = 1 := by kernel_rfl
  have hc1 : Tryz.prog.cellsOf 9 = 1 := by kernel_rfl
  have hc2 : Tryz.prog.cellsOf 95 = 2 := by kernel_rfl
  rw [hc2] at hl
  obtain ⟨c0, c1, rfl⟩ := list2 hl
  simp only [hc, hc1] at h0 h1
  obtain ⟨s, h4, h5, _⟩ := DataW.trod_string Tryz.underlying9 h0
  obtain ⟨z, rfl, hz⟩ := int_cell h1
  obtain rfl : c0 = .string s := by simpa using h4
  simp only [Prod.mk.injEq] at hx
  have hs := hw s.data.toList.length (by
    rw [hx.1, h5]
    simp [DataW.weights, DataW.weightsEach, Tryz.underlying95])
  exact ⟨(s, z), rfl, by simpa [reachBytes] using hs⟩
set_option maxRecDepth 100000 in
theorem ent_of {r : Reach} {b0 : Nat} {v : Value} {d : DataW H} {p : List MemPlace} (hv : Value.okWide Tryz.prog W r b0 87 v) (h : DataW.Trod enc Tryz.prog W 0 sp hd 87 v d p) : ∃ e, v = entV e ∧ InE e := by
  obtain ⟨cs, rfl, _⟩ := okWide_struct Tryz.underlying87 hv
  obtain ⟨fuel, hf⟩ := h
  obtain ⟨e, he, hin⟩ := ent_cells hf
  refine ⟨e, ?_, hin⟩
  have hcs : cs.toList = enC e := by simpa [Value.cells] using he
  have : cs = (enC e).toArray := by rw [← hcs]
  rw [this]
  rfl
set_option maxRecDepth 100000 in
theorem root_of {r : Reach} {b0 : Nat} {v : Value} {d : DataW H} {p : List MemPlace} (hv : Value.okWide Tryz.prog W r b0 95 v) (h : DataW.Trod enc Tryz.prog W 0 sp hd 95 v d p) (hw : ∀ n ∈ d.weights Tryz.prog 95, n ≤ reachBytes) : ∃ q, v = rootV q ∧ q.1.size ≤ 140737488351232 := by
  obtain ⟨cs, rfl, _⟩ := okWide_struct Tryz.underlying95 hv
  obtain ⟨fuel, hf⟩ := h
  obtain ⟨e, he, hin⟩ := root_cells hf hw
  refine ⟨e, ?_, hin⟩
  have hcs : cs.toList = roC e := by simpa [Value.cells] using he
  have : cs = (roC e).toArray := by rw [← hcs]
  rw [this]
  rfl
theorem weightsAll_mem {P : Program} {t : TypeId} : ∀ {l : List (DataW H)} {d : DataW H}, d ∈ l → ∀ n ∈ d.weights P t, n ∈ DataW.weightsAll P t l
  | [], d, h, n, _ => by cases h
  | e :: l, d, h, n, hn => by
    unfold DataW.weightsAll
    rcases List.mem_cons.1 h with rfl | h
    · exact List.mem_append.2 (.inl hn)
    · exact List.mem_append.2 (.inr (weightsAll_mem h n hn))
end

/-- A slice that came in, its elements of k cells each. -/
theorem sls_of {α : Type} {ec : α → List Value} {k bytes : Nat} {t e : TypeId} {good : α → Prop} {H : Type} {enc : TypeId × Value → H} {W : World} {fuel : Nat} {a : Option Addr} {len cap : Nat} {d : DataW H} {p : List MemPlace} (y0 : α)
    (hu : Tryz.prog.underlying t = some (.slice e)) (hk : Tryz.prog.cellsOf e = k) (hb : Tryz.prog.bytesOf e = bytes) (hb16 : 16 ≤ bytes) (hlen : ∀ x, (ec x).length = k)
    (hone : ∀ (n : Nat) (cs : List Value) (d : DataW H) (q : List MemPlace), DataW.trod enc Tryz.prog W 0 (fun _ => true) true n e cs = some (d, q) → (∀ n ∈ d.weights Tryz.prog e, n ≤ reachBytes) → ∃ x, cs = ec x ∧ good x)
    (hf : DataW.trod enc Tryz.prog W 0 (fun _ => true) true fuel t [.slice a len cap] = some (d, p)) (hw : ∀ n ∈ d.weights Tryz.prog t, n ≤ reachBytes) (h0 : 0 < k) : ∃ l, (Sls ec k W a cap l ∧ ∀ x ∈ l, good x) ∧ l.length = len := by
  rcases open_slice hu hf with ⟨hcs, _⟩ | ⟨x, l, c, m, n, D, Pl, hcs, _, hl, hm, hmm, hx, hcell⟩
  · simp at hcs
    obtain ⟨rfl, rfl, rfl⟩ := hcs
    exact ⟨[], ⟨⟨Nat.le_refl _, fun _ => rfl, by simp, fun h => absurd rfl h⟩, fun x hx => by cases hx⟩, rfl⟩
  · simp at hcs
    obtain ⟨rfl, rfl, rfl⟩ := hcs
    simp only [if_true] at hmm
    subst hmm
    simp only [Prod.mk.injEq] at hx
    have hd : d.weights Tryz.prog t = (len + (m - len)) * bytes :: (DataW.weightsAll Tryz.prog e ((List.range len).map D) ++ DataW.weightsAll Tryz.prog e ((List.range (m - len)).map fun j => D (len + j))) := by
      rw [hx.1]
      simp [DataW.weights, hu, hb]
    rw [hd] at hw
    have hs := hw _ (List.mem_cons_self ..)
    simp only [reachBytes] at hs
    have hs2 : (len + (m - len)) * 16 ≤ (len + (m - len)) * bytes := Nat.mul_le_mul (Nat.le_refl _) hb16
    have hall : ∀ i, ∃ q : α, i < len → good q ∧ ∀ j u, (ec q)[j]? = some u → W.cell? ((x.add (i * k)).add j) = some u := by
      intro i
      by_cases hi : i < len
      · obtain ⟨cs', h1, h2⟩ := hcell i (by omega)
        obtain ⟨q, rfl, hgq⟩ := hone _ _ _ _ h2 (fun n hn => hw n (List.mem_cons.2 (.inr (List.mem_append.2 (.inl (weightsAll_mem (List.mem_map.2 ⟨i, List.mem_range.2 hi, rfl⟩) n hn))))))
        rw [hk] at h1
        obtain ⟨_, hlen', hc'⟩ := World.cells?_some h1
        refine ⟨q, fun _ => ⟨hgq, fun j u hj => ?_⟩⟩
        have hjl := (List.getElem?_eq_some_iff.1 hj).1
        have := hc' j (by omega)
        rw [this]
        first | exact hj | (simp [hj])
      · exact ⟨y0, fun h => absurd h hi⟩
    have hget : ∀ i y, ((List.range len).map fun i => Classical.choose (hall i))[i]? = some y → i < len ∧ y = Classical.choose (hall i) := fun i y hy => by
      have hi : i < len := by
        have := (List.getElem?_eq_some_iff.1 hy).1
        simpa using this
      exact ⟨hi, by simpa [hi] using hy.symm⟩
    refine ⟨(List.range len).map fun i => Classical.choose (hall i), ⟨⟨by simp; omega, fun h => (by cases h), by simp; omega, fun hne => ?_⟩, fun y hy => ?_⟩, by simp⟩
    · have hpos : 0 < len := by
        rcases Nat.eq_zero_or_pos len with h | h
        · have h0 : List.range len = [] := by rw [h]; rfl
          exact absurd (by rw [h0]; rfl) hne
        · exact h
      obtain ⟨b, off, spot⟩ := x
      have hspot : spot = none := by
        have h9 := (Classical.choose_spec (hall 0) hpos).2 0 ((ec (Classical.choose (hall 0)))[0]'(by rw [hlen]; exact h0)) (List.getElem?_eq_getElem _)
        simpa [Addr.add] using World.cell?_spot h9
      subst hspot
      refine ⟨b, off, rfl, fun i y hy j u hj => ?_⟩
      obtain ⟨hi, rfl⟩ := hget i y hy
      have := (Classical.choose_spec (hall i) hi).2 j u hj
      simpa only [addr_add, ← Nat.add_assoc] using this
    · obtain ⟨i, hi, rfl⟩ := List.mem_map.1 hy
      exact (Classical.choose_spec (hall i) (List.mem_range.1 hi)).1
/-- A list of entries that came in. -/
def EnsIn (W : World) (a : Option Addr) (cap : Nat) (l : List (Int × Int × Int × Int)) : Prop := Sls enC 4 W a cap l ∧ ∀ e ∈ l, InE e
/-- A list of roots that came in. -/
def RosIn (W : World) (a : Option Addr) (cap : Nat) (l : List (ByteArray × Int)) : Prop := Sls roC 2 W a cap l ∧ ∀ r ∈ l, r.1.size ≤ 140737488351232
theorem ents_of {H : Type} {enc : TypeId × Value → H} {W : World} {fuel : Nat} {a : Option Addr} {len cap : Nat} {d : DataW H} {p : List MemPlace}
    (hf : DataW.trod enc Tryz.prog W 0 (fun _ => true) true fuel 78 [.slice a len cap] = some (d, p)) (hw : ∀ n ∈ d.weights Tryz.prog 78, n ≤ reachBytes) : ∃ l, EnsIn W a cap l ∧ l.length = len :=
  sls_of (0, 0, 0, 0) Tryz.underlying78 (by kernel_rfl) (bytes := 32) (by kernel_rfl) (by decide) enC_len (fun n cs d q h _ => ent_cells h) hf hw (by decide)
theorem roots_of {H : Type} {enc : TypeId × Value → H} {W : World} {fuel : Nat} {a : Option Addr} {len cap : Nat} {d : DataW H} {p : List MemPlace}
    (hf : DataW.trod enc Tryz.prog W 0 (fun _ => true) true fuel 90 [.slice a len cap] = some (d, p)) (hw : ∀ n ∈ d.weights Tryz.prog 90, n ≤ reachBytes) : ∃ l, RosIn W a cap l ∧ l.length = len :=
  sls_of (ByteArray.empty, 0) Tryz.underlying90 (by kernel_rfl) (bytes := 24) (by kernel_rfl) (by decide) roC_len (fun n cs d q h hw => root_cells h hw) hf hw (by decide)
end Go.Proofs.YtopblhmbjdfebaaGreat
