/-
  Rows of things of several cells: what a call made by append, and what a slice reads as. (Part of the proofs over package image.)
-/
import Derived.Test.YtllpeknpplpgeaaGreatDoorImB
import Derived.Maps.AppendAt
namespace Go.Proofs.YtllpeknpplpgeaaGreatDoor
open Go.RowKit
set_option linter.unusedVariables false

section
variable {α : Type} {enc : α → List Value} {k T : Nat}
/-- A value that owns a row of things (or is nil, of none). -/
def Lst (enc : α → List Value) (k T : Nat) (w : World) (B : Nat) (v : Value) (l : List α) : Prop := w.ownsRow B T k v l.length (l.flatMap enc)
/-- The slice '.slice a l.length cap' reads in w as the things l. -/
def Sls (enc : α → List Value) (k : Nat) (w : World) (a : Option Addr) (cap : Nat) (l : List α) : Prop :=
  l.length ≤ cap ∧ (a = none → cap = 0) ∧ l.length ≤ 8796093021952 ∧ (l ≠ [] → ∃ b off, a = some ⟨b, off, none⟩ ∧ ∀ i x, l[i]? = some x → ∀ j u, (enc x)[j]? = some u → w.cell? ⟨b, off + i * k + j, none⟩ = some u)
theorem flat_len (hk : ∀ x, (enc x).length = k) (l : List α) : (l.flatMap enc).length = l.length * k := by
  induction l with
  | nil => simp
  | cons e r ih => rw [List.flatMap_cons, List.length_append, ih, List.length_cons, hk, Nat.succ_mul]; omega
theorem flat_at (hk : ∀ x, (enc x).length = k) : ∀ (l : List α) (i : Nat) (x : α), l[i]? = some x → ∀ j u, (enc x)[j]? = some u → (l.flatMap enc)[i * k + j]? = some u
  | [], i, x, h => by simp at h
  | e :: r, 0, x, h => by
    obtain rfl : e = x := by simpa using h
    intro j u hj
    have hlt : j < (enc e).length := (List.getElem?_eq_some_iff.1 hj).1
    rw [List.flatMap_cons, Nat.zero_mul, Nat.zero_add, List.getElem?_append_left hlt]
    exact hj
  | e :: r, i + 1, x, h => by
    intro j u hj
    have := flat_at hk r i x (by simpa using h) j u hj
    rw [List.flatMap_cons, List.getElem?_append_right (by rw [hk, Nat.succ_mul]; omega), hk, Nat.succ_mul, show i * k + k + j - k = i * k + j by omega]
    exact this
theorem Lst.nil (w : World) (B : Nat) : Lst enc k T w B (.slice none 0 0) [] := ⟨by simp, .inl ⟨rfl, rfl⟩⟩
theorem Lst.sls (hk : ∀ x, (enc x).length = k) {w : World} {B : Nat} {v : Value} {l : List α} (h : Lst enc k T w B v l) (hl : l.length ≤ 8796093021952) : ∃ a c, v = .slice a l.length c ∧ Sls enc k w a c l := by
  rcases h.2 with ⟨rfl, h0⟩ | ⟨g, cap, cur, rfl, hB, hc, h3, h4, h5, h6⟩
  · have : l = [] := List.eq_nil_of_length_eq_zero h0
    subst this
    exact ⟨none, 0, rfl, Nat.le_refl _, fun _ => rfl, by simp, fun h => absurd rfl h⟩
  · refine ⟨some ⟨g, 0, none⟩, cap, rfl, h3, fun e => (by cases e), hl, fun _ => ⟨g, 0, rfl, fun i x hx j u hj => ?_⟩⟩
    have q := flat_at hk l i x hx j u hj
    have hlt := (List.getElem?_eq_some_iff.1 q).1
    rw [flat_len hk] at hlt
    rw [← h6, List.getElem?_take, if_pos hlt] at q
    rw [cell_of_row _ _ _ _ _ _ hc, Nat.zero_add]
    simpa using q
theorem Lst.below {w w' : World} {B : Nat} {v : Value} {l : List α} (h : Lst enc k T w B v l) (hb : Below w.heap.size w w') : Lst enc k T w' B v l := by
  refine ⟨h.1, ?_⟩
  rcases h.2 with h0 | ⟨g, cap, cur, rfl, hB, hc, h3⟩
  · exact .inl h0
  · exact .inr ⟨g, cap, cur, rfl, hB, (hb.block g (Array.getElem?_eq_some_iff.1 hc).1).trans hc, h3⟩
theorem Lst.shape {w : World} {B : Nat} {v : Value} {l : List α} (h : Lst enc k T w B v l) : ∃ a m c, v = .slice a m c := by
  rcases h.2 with ⟨rfl, _⟩ | ⟨g, cap, cur, rfl, _⟩
  · exact ⟨_, _, _, rfl⟩
  · exact ⟨_, _, _, rfl⟩
theorem Lst.block {w : World} {B : Nat} {v : Value} {l : List α} (h : Lst enc k T w B v l) : ∀ g, v.ownBlock = some g → B ≤ g := by
  intro g hg
  rcases h.2 with ⟨rfl, _⟩ | ⟨g', cap, cur, rfl, hB, _⟩
  · cases hg
  · simp [Value.ownBlock] at hg
    omega
theorem Sls.below {w w' : World} {a : Option Addr} {cap : Nat} {l : List α} (h : Sls enc k w a cap l) (hb : Below w.heap.size w w') : Sls enc k w' a cap l := by
  obtain ⟨h1, h2, h3, h4⟩ := h
  refine ⟨h1, h2, h3, fun hne => ?_⟩
  obtain ⟨b, off, rfl, hc⟩ := h4 hne
  refine ⟨b, off, rfl, fun i x hx j u hj => ?_⟩
  have q := hc i x hx j u hj
  exact (hb.cell (block_lt_of_cell q)).trans q
/-- 'append(v, y)', y one thing. -/
theorem wpList_append_lst {P : Program} {w : World} {ops : Array Oper} {rest : List Oper} {o : Oper} {a : Act} {Q : Exit → Act → World → Prop} (hgd : o.guard = none) (s x : Operand) (t : TypeId)
    (ho : o.op = .call { callee := .builtin .append, args := #[s, x], argTypes := #[t, t] }) (B : Nat) (i0 : TypeInfo) (z : Value) (bytes : Nat)
    (ht : P.underlying t = some (.slice T)) (hi : P.info? T = some i0) (hz : i0.zero = some z) (hsize : i0.size = k) (hby : i0.bytes = bytes) (hzs : z.cells.size = k) (hsz : 0 < k) (hbb : bytes ≤ 100)
    (v : Value) (l : List α) (hs : a.eval s = v) (hown : Lst enc k T w B v l) (g : Nat) (y : α) (hx : a.eval x = .slice (some ⟨g, 0, none⟩) 1 1)
    (hy : w.heap[g]? = some (.cells (enc y).toArray T (0, 0))) (hk : (enc y).length = k) (h1 : ∀ u ∈ enc y, u.oneCell' = true) (hn : l.length ≤ 1000) (hB : B ≤ w.heap.size)
    (h : ∀ v' w', Lst enc k T w' B v' (l ++ [y]) → Below B w w' → wpList P ops Q rest (a.put o.dst v') w') :
    wpList P ops Q (o :: rest) a w := by
  refine wpList_append_own w hgd s x t ho B T i0 z k bytes ht hi hz hsize hby hzs hsz v l.length (l.flatMap enc) hs hown ⟨g, 0, none⟩ 1 1 (enc y) hx (by rw [hk, Nat.one_mul]) (fun j u hj => ?_) h1 (by unfold maxLen; omega) (Nat.le_trans (Nat.mul_le_mul (show l.length + 1 ≤ 1001 by omega) hbb) (by decide)) hB ?_
  · rw [addr_add, Nat.zero_add, cell_of_row _ _ _ _ _ _ hy]
    simpa using hj
  · intro v' w' ho' hg' _
    refine h v' w' ?_ ((Below.refl _ _).grown hg' hB (fun k hk => hown.block k hk))
    unfold Lst
    rw [List.length_append, List.flatMap_append]
    simpa using ho'
end

/-! ### entries -/
def enC (e : (Int × Int × Int × Int)) : List Value := [.int .i64 e.1, .int .i64 e.2.1, .int .i64 e.2.2.1, .int .i64 e.2.2.2]
theorem enC_len (e : (Int × Int × Int × Int)) : (enC e).length = 4 := rfl
theorem enC_one (e : (Int × Int × Int × Int)) : ∀ u ∈ enC e, u.oneCell' = true := by
  intro u hu
  unfold enC at hu
  rcases List.mem_cons.1 hu with rfl | hu
  · rfl
  rcases List.mem_cons.1 hu with rfl | hu
  · rfl
  rcases List.mem_cons.1 hu with rfl | hu
  · rfl
  rw [List.mem_singleton.1 hu]
  rfl
theorem info_ent : (Tryz.prog.info? 47).map (fun i => (i.zero, i.size, i.bytes)) = some (some (.agg #[.int .i64 0, .int .i64 0, .int .i64 0, .int .i64 0]), 4, 32) := by kernel_rfl
theorem Sls.ent {w : World} {b off cap : Nat} {l : List (Int × Int × Int × Int)} (hc : ∀ i x, l[i]? = some x → ∀ j u, (enC x)[j]? = some u → w.cell? ⟨b, off + i * 4 + j, none⟩ = some u) {i : Nat} {e : (Int × Int × Int × Int)} (h : l[i]? = some e) :
    w.cell? ⟨b, off + i * 4, none⟩ = some (.int .i64 e.1) ∧ w.cell? ⟨b, off + i * 4 + 1, none⟩ = some (.int .i64 e.2.1) ∧ w.cell? ⟨b, off + i * 4 + 2, none⟩ = some (.int .i64 e.2.2.1) ∧ w.cell? ⟨b, off + i * 4 + 3, none⟩ = some (.int .i64 e.2.2.2) :=
  ⟨hc i e h 0 _ rfl, hc i e h 1 _ rfl, hc i e h 2 _ rfl, hc i e h 3 _ rfl⟩

/-! ### roots -/
def roC (r : (ByteArray × Int)) : List Value := [.string r.1, .int .i64 r.2]
theorem roC_len (r : (ByteArray × Int)) : (roC r).length = 2 := rfl
theorem roC_one (r : (ByteArray × Int)) : ∀ u ∈ roC r, u.oneCell' = true := by
  intro u hu
  unfold roC at hu
  rcases List.mem_cons.1 hu with rfl | hu
  · rfl
  rw [List.mem_singleton.1 hu]
  rfl
theorem info_root : (Tryz.prog.info? 57).map (fun i => (i.zero, i.size, i.bytes)) = some (some (.agg #[.string ByteArray.empty, .int .i64 0]), 2, 24) := by kernel_rfl
theorem Sls.root {w : World} {b off cap : Nat} {l : List (ByteArray × Int)} (hc : ∀ i x, l[i]? = some x → ∀ j u, (roC x)[j]? = some u → w.cell? ⟨b, off + i * 2 + j, none⟩ = some u) {i : Nat} {e : (ByteArray × Int)} (h : l[i]? = some e) :
    w.cell? ⟨b, off + i * 2, none⟩ = some (.string e.1) ∧ w.cell? ⟨b, off + i * 2 + 1, none⟩ = some (.int .i64 e.2) :=
  ⟨hc i e h 0 _ rfl, hc i e h 1 _ rfl⟩

end Go.Proofs.YtllpeknpplpgeaaGreatDoor
