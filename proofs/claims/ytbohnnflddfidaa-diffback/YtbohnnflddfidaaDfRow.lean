/-
  Rows of changes in memory: each an int and two slices of bytes. (Part of the proofs over package diff.)
-/
import Derived.Test.YtbohnnflddfidaaDfRun
import Derived.Test.YtbohnnflddfidaaImRow
import Derived.Deep.AppendLies
namespace Go.Proofs.Ytbohnnflddfidaa
open Go.RowKit
set_option linter.unusedVariables false

/-! A change as it stands in memory: where; what was there, and what comes there, each with the address and the capacity of its slice. -/
def slV (s : Option Addr × Nat × List Int) : Value := .slice s.1 s.2.2.length s.2.1
def rwC (r : (Int × (Option Addr × Nat × List Int) × (Option Addr × Nat × List Int))) : List Value := [.int .i64 r.1, slV r.2.1, slV r.2.2]
def rwP (r : (Int × (Option Addr × Nat × List Int) × (Option Addr × Nat × List Int))) : (Int × List Int × List Int) := (r.1, r.2.1.2.2, r.2.2.2.2)
theorem rwC_len (r : (Int × (Option Addr × Nat × List Int) × (Option Addr × Nat × List Int))) : (rwC r).length = 3 := rfl
theorem rwC_one (r : (Int × (Option Addr × Nat × List Int) × (Option Addr × Nat × List Int))) : ∀ u ∈ rwC r, u.oneCell' = true := by
  intro u hu
  unfold rwC slV at hu
  rcases List.mem_cons.1 hu with rfl | hu
  · rfl
  rcases List.mem_cons.1 hu with rfl | hu
  · rfl
  rw [List.mem_singleton.1 hu]
  rfl
theorem info_chg : (Try.prog.info? 29).map (fun i => (i.zero, i.size, i.bytes)) = some (some (.agg #[.int .i64 0, .slice none 0 0, .slice none 0 0]), 3, 56) := by kernel_rfl
/-- Its two slices read as it says. -/
def RdC (w : World) (r : (Int × (Option Addr × Nat × List Int) × (Option Addr × Nat × List Int))) : Prop := Bs w r.2.1.1 r.2.1.2.1 r.2.1.2.2 ∧ Bs w r.2.2.1 r.2.2.2.1 r.2.2.2.2
theorem RdC.below {w w' : World} {r : (Int × (Option Addr × Nat × List Int) × (Option Addr × Nat × List Int))} (h : RdC w r) (hb : Below w.heap.size w w') : RdC w' r := ⟨h.1.below hb, h.2.below hb⟩
/-- The slice '.slice a l.length cap' reads in w as the changes l. -/
def Chs (w : World) (a : Option Addr) (cap : Nat) (l : List (Int × List Int × List Int)) : Prop := ∃ rs : List (Int × (Option Addr × Nat × List Int) × (Option Addr × Nat × List Int)), rs.map rwP = l ∧ Sls rwC 3 w a cap rs ∧ ∀ r ∈ rs, RdC w r
theorem Chs.below {w w' : World} {a : Option Addr} {cap : Nat} {l : List (Int × List Int × List Int)} (h : Chs w a cap l) (hb : Below w.heap.size w w') : Chs w' a cap l := by
  obtain ⟨rs, h1, h2, h3⟩ := h
  exact ⟨rs, h1, h2.below hb, fun r hr => (h3 r hr).below hb⟩
theorem Chs.len {w : World} {a : Option Addr} {cap : Nat} {l : List (Int × List Int × List Int)} (h : Chs w a cap l) : l.length ≤ 8796093021952 ∧ l.length ≤ cap := by
  obtain ⟨rs, rfl, h2, h3⟩ := h
  rw [List.length_map]
  exact ⟨h2.2.2.1, h2.1⟩
/-- One change of it: its three cells, and what its slices read as. -/
theorem Chs.at {w : World} {a : Option Addr} {cap : Nat} {l : List (Int × List Int × List Int)} (h : Chs w a cap l) {i : Nat} (hi : i < l.length) :
    ∃ b off a1 c1 a2 c2, a = some ⟨b, off, none⟩ ∧ w.cell? ⟨b, off + i * 3, none⟩ = some (.int .i64 (l.getD i (0, [], [])).1) ∧ w.cell? ⟨b, off + i * 3 + 1, none⟩ = some (.slice a1 (l.getD i (0, [], [])).2.1.length c1) ∧ w.cell? ⟨b, off + i * 3 + 2, none⟩ = some (.slice a2 (l.getD i (0, [], [])).2.2.length c2) ∧ Bs w a1 c1 (l.getD i (0, [], [])).2.1 ∧ Bs w a2 c2 (l.getD i (0, [], [])).2.2 := by
  obtain ⟨rs, rfl, h2, h3⟩ := h
  rw [List.length_map] at hi
  have hne : rs ≠ [] := by intro e; rw [e] at hi; simp at hi
  obtain ⟨b, off, rfl, hc⟩ := h2.2.2.2 hne
  have hx : rs[i]? = some rs[i] := List.getElem?_eq_getElem hi
  have hg : (rs.map rwP).getD i (0, [], []) = rwP rs[i] := by simp [List.getD, hi]
  rw [hg]
  obtain ⟨hr1, hr2⟩ := h3 rs[i] (List.getElem_mem hi)
  exact ⟨b, off, rs[i].2.1.1, rs[i].2.1.2.1, rs[i].2.2.1, rs[i].2.2.2.1, rfl, hc i _ hx 0 _ rfl, hc i _ hx 1 _ rfl, hc i _ hx 2 _ rfl, hr1, hr2⟩

/-! ### rows that a call makes -/
/-- Its two slices are rows of their own. -/
def RdO (w : World) (B : Nat) (r : (Int × (Option Addr × Nat × List Int) × (Option Addr × Nat × List Int))) : Prop := (Byt r.2.1.2.2 ∧ r.2.1.2.2.length ≤ 140737488351232 ∧ OwnV w B (slV r.2.1) r.2.1.2.2) ∧ Byt r.2.2.2.2 ∧ r.2.2.2.2.length ≤ 140737488351232 ∧ OwnV w B (slV r.2.2) r.2.2.2.2
theorem OwnV.bs' {w : World} {B : Nat} {s : Option Addr × Nat × List Int} (h : OwnV w B (slV s) s.2.2) (hb : Byt s.2.2) (hl : s.2.2.length ≤ 140737488351232) : Bs w s.1 s.2.1 s.2.2 := by
  obtain ⟨a, c, e, hbs⟩ := h.bs hb hl
  unfold slV at e
  simp only [Value.slice.injEq, true_and] at e
  rw [e.1, e.2]
  exact hbs
theorem RdO.rd {w : World} {B : Nat} {r : (Int × (Option Addr × Nat × List Int) × (Option Addr × Nat × List Int))} (h : RdO w B r) : RdC w r := ⟨h.1.2.2.bs' h.1.1 h.1.2.1, h.2.2.2.bs' h.2.1 h.2.2.1⟩
theorem RdO.below {w w' : World} {B : Nat} {r : (Int × (Option Addr × Nat × List Int) × (Option Addr × Nat × List Int))} (h : RdO w B r) (hb : Below w.heap.size w w') : RdO w' B r := ⟨⟨h.1.1, h.1.2.1, h.1.2.2.below hb⟩, h.2.1, h.2.2.1, h.2.2.2.below hb⟩
/-- A row of bytes stands while a row of another element type turns. -/
theorem OwnV.keep {α : Type} {enc : α → List Value} {k T : Nat} {w w' : World} {B B' : Nat} {v v' : Value} {l : List α} {L : List Int} (h : Lst enc k T w B v l) (h' : OwnV w B' v' L) (hne : T ≠ 5)
    (hk : ∀ j, j < w.heap.size → v.ownBlock ≠ some j → w'.heap[j]? = w.heap[j]?) : OwnV w' B' v' L := by
  refine ⟨h'.1, ?_⟩
  rcases h'.2 with h0 | ⟨g, cap, cur, rfl, hB, hc, h3⟩
  · exact .inl h0
  · refine .inr ⟨g, cap, cur, rfl, hB, (hk g (Array.getElem?_eq_some_iff.1 hc).1 (fun e => ?_)).trans hc, h3⟩
    rcases h.2 with ⟨rfl, _⟩ | ⟨g1, cap1, cur1, rfl, hB1, hc1, _⟩
    · cases e
    · simp [Value.ownBlock] at e
      subst e
      rw [hc1] at hc
      simp at hc
      exact hne hc.2
theorem RdO.keep {α : Type} {enc : α → List Value} {k T : Nat} {w w' : World} {B B' : Nat} {v : Value} {l : List α} {r : (Int × (Option Addr × Nat × List Int) × (Option Addr × Nat × List Int))} (h : Lst enc k T w B v l) (h' : RdO w B' r) (hne : T ≠ 5)
    (hk : ∀ j, j < w.heap.size → v.ownBlock ≠ some j → w'.heap[j]? = w.heap[j]?) : RdO w' B' r := ⟨⟨h'.1.1, h'.1.2.1, h'.1.2.2.keep h hne hk⟩, h'.2.1, h'.2.2.1, h'.2.2.2.keep h hne hk⟩
/-- A value that owns a row of changes, each with two rows of bytes of its own. -/
def ChO (w : World) (B : Nat) (v : Value) (l : List (Int × List Int × List Int)) : Prop := ∃ rs : List (Int × (Option Addr × Nat × List Int) × (Option Addr × Nat × List Int)), rs.map rwP = l ∧ Lst rwC 3 29 w B v rs ∧ ∀ r ∈ rs, RdO w B r
theorem ChO.nil (w : World) (B : Nat) : ChO w B (.slice none 0 0) [] := ⟨[], rfl, Lst.nil w B, fun r hr => by cases hr⟩
theorem ChO.below {w w' : World} {B : Nat} {v : Value} {l : List (Int × List Int × List Int)} (h : ChO w B v l) (hb : Below w.heap.size w w') : ChO w' B v l := by
  obtain ⟨rs, h1, h2, h3⟩ := h
  exact ⟨rs, h1, h2.below hb, fun r hr => (h3 r hr).below hb⟩
theorem ChO.chs {w : World} {B : Nat} {v : Value} {l : List (Int × List Int × List Int)} (h : ChO w B v l) (hl : l.length ≤ 8796093021952) : ∃ a c, v = .slice a l.length c ∧ Chs w a c l := by
  obtain ⟨rs, rfl, h2, h3⟩ := h
  rw [List.length_map] at hl ⊢
  obtain ⟨a, c, e, hs⟩ := h2.sls rwC_len hl
  exact ⟨a, c, e, rs, rfl, hs, fun r hr => (h3 r hr).rd⟩
theorem ChO.shape {w : World} {B : Nat} {v : Value} {l : List (Int × List Int × List Int)} (h : ChO w B v l) : ∃ a m c, v = .slice a m c := by
  obtain ⟨rs, _, h2, _⟩ := h
  exact h2.shape
/-- One change more at the end of such a row. -/
theorem ChO.grow {w w' : World} {B g cap n : Nat} {v : Value} {rs : List (Int × (Option Addr × Nat × List Int) × (Option Addr × Nat × List Int))} {r : (Int × (Option Addr × Nat × List Int) × (Option Addr × Nat × List Int))} (hL : Lst rwC 3 29 w B v rs) (h3 : ∀ x ∈ rs, RdO w B x) (hr : RdO w B r) (hB : B ≤ w.heap.size)
    (hown : w'.ownsRow B 29 3 (.slice (some ⟨g, 0, none⟩) n cap) (rs.length + 1) (rs.flatMap rwC ++ rwC r)) (hg : w.grownBy w' v.ownBlock) :
    ChO w' B (.slice (some ⟨g, 0, none⟩) n cap) (rs.map rwP ++ [rwP r]) ∧ Below B w w' := by
  refine ⟨⟨rs ++ [r], by simp, ?_, ?_⟩, (Below.refl _ _).grown hg hB (fun k hk => hL.block k hk)⟩
  · unfold Lst
    rw [List.length_append, List.flatMap_append]
    simpa using hown
  · have hk : ∀ j, j < w.heap.size → v.ownBlock ≠ some j → w'.heap[j]? = w.heap[j]? := fun j hj hne => hg.block j hj (fun e => hne e.symm)
    intro x hx
    rcases List.mem_append.1 hx with hx | hx
    · exact (h3 x hx).keep hL (by decide) hk
    · rw [List.mem_singleton.1 hx]
      exact hr.keep hL (by decide) hk
theorem step_append_chg {w : World} {ops : Array Oper} {o : Oper} {a : Act} {K : Act → World → Prop} {Q : Exit → Act → World → Prop} {E : Prop} (hgd : o.guard = none) (s x : Operand)
    (ho : o.op = .call { callee := .builtin .append, args := #[s, x], argTypes := #[23, 23] }) (B : Nat) (v : Value) (l : List (Int × List Int × List Int)) (hs : a.eval s = v) (hown : ChO w B v l) (g : Nat) (r : (Int × (Option Addr × Nat × List Int) × (Option Addr × Nat × List Int)))
    (hx : a.eval x = .slice (some ⟨g, 0, none⟩) 1 1) (hy : w.heap[g]? = some (.cells (rwC r).toArray 29 (0, 0))) (hr : RdO w B r) (hn : l.length ≤ 100000) (hB : B ≤ w.heap.size)
    (h : ∀ g' cap w', ChO w' B (.slice (some ⟨g', 0, none⟩) (l.length + 1) cap) (l ++ [rwP r]) → Below B w w' → (∀ j, j < w.heap.size → v.ownBlock ≠ some j → w'.heap[j]? = w.heap[j]?) → K (a.put o.dst (.slice (some ⟨g', 0, none⟩) (l.length + 1) cap)) w') :
    if Region.wanted o (yielded ops a.tmps) = true then Oper.wp Try.prog o a w K Q else E := by
  obtain ⟨i0, hi0, hz0, hz1, hz2⟩ := info_parts info_chg
  obtain ⟨rs, rfl, hL, h3⟩ := hown
  rw [List.length_map] at hn h
  refine step_append_lies w hgd s x 23 ho B 29 i0 _ 3 56 Try.underlying23 hi0 hz0 hz1 hz2 rfl (by decide) v rs.length (rs.flatMap rwC) hs hL ⟨g, 0, none⟩ 1 1 (rwC r) hx rfl (World.news_of_block hy) (rwC_one r) (by decide) (by unfold maxLen; omega) (by omega) hB w.heap.size rfl ?_
  intro g' cap w' ho' hg' _ _
  obtain ⟨h5, h6⟩ := ChO.grow hL h3 hr hB ho' hg'
  exact h g' cap w' h5 h6 (fun j hj hne => hg'.block j hj (fun e => hne e.symm))
theorem wp_append_chg {w : World} {o : Oper} {a : Act} {K : Act → World → Prop} {Q : Exit → Act → World → Prop} (s x : Operand)
    (ho : o.op = .call { callee := .builtin .append, args := #[s, x], argTypes := #[23, 23] }) (B : Nat) (v : Value) (l : List (Int × List Int × List Int)) (hs : a.eval s = v) (hown : ChO w B v l) (g : Nat) (r : (Int × (Option Addr × Nat × List Int) × (Option Addr × Nat × List Int)))
    (hx : a.eval x = .slice (some ⟨g, 0, none⟩) 1 1) (hy : w.heap[g]? = some (.cells (rwC r).toArray 29 (0, 0))) (hr : RdO w B r) (hn : l.length ≤ 100000) (hB : B ≤ w.heap.size)
    (h : ∀ g' cap w', ChO w' B (.slice (some ⟨g', 0, none⟩) (l.length + 1) cap) (l ++ [rwP r]) → Below B w w' → (∀ j, j < w.heap.size → v.ownBlock ≠ some j → w'.heap[j]? = w.heap[j]?) → K (a.put o.dst (.slice (some ⟨g', 0, none⟩) (l.length + 1) cap)) w') :
    Oper.wp Try.prog o a w K Q := by
  obtain ⟨i0, hi0, hz0, hz1, hz2⟩ := info_parts info_chg
  obtain ⟨rs, rfl, hL, h3⟩ := hown
  rw [List.length_map] at hn h
  refine wp_append_lies w s x 23 ho B 29 i0 _ 3 56 Try.underlying23 hi0 hz0 hz1 hz2 rfl (by decide) v rs.length (rs.flatMap rwC) hs hL ⟨g, 0, none⟩ 1 1 (rwC r) hx rfl (World.news_of_block hy) (rwC_one r) (by decide) (by unfold maxLen; omega) (by omega) hB w.heap.size rfl ?_
  intro g' cap w' ho' hg' _ _
  obtain ⟨h5, h6⟩ := ChO.grow hL h3 hr hB ho' hg'
  exact h g' cap w' h5 h6 (fun j hj hne => hg'.block j hj (fun e => hne e.symm))
end Go.Proofs.Ytbohnnflddfidaa
