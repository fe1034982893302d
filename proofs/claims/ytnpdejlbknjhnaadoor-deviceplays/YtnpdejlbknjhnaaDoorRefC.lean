/-
  Contracts of the reference's device: Write. (Part of the proof of DevicePlays.)
-/
import Derived.Test.YtnpdejlbknjhnaaDoorRefB
import Derived.Deep.AppendLies
namespace Go.Proofs.YtnpdejlbknjhnaaDoor
open Go.RowKit
set_option linter.unusedVariables false

theorem memPut_set {m : List (Nat × List Int)} (hn : (m.map (·.1)).Nodup) {q : Nat} (hq : q < m.length) (l : List Int) : memPut m (m.getD q (0, [])).1 l = m.set q ((m.getD q (0, [])).1, l) := by
  induction m generalizing q with
  | nil => simp at hq
  | cons x r ih =>
    obtain ⟨j, c⟩ := x
    simp only [List.map_cons, List.nodup_cons] at hn
    cases q with
    | zero => simp [memPut]
    | succ q =>
      have hq' : q < r.length := by simpa using hq
      have e2 : ((j, c) :: r).getD (q + 1) (0, []) = r.getD q (0, []) := by simp [List.getD]
      have hm := key_mem hq'
      have hne : ¬ j = (r.getD q (0, [])).1 := fun e => hn.1 (e ▸ hm)
      rw [e2]
      unfold memPut
      rw [if_neg hne, ih hn.2 hq', List.set_cons_succ]

theorem Turn.grow {S : Nat → Prop} {w w1 : World} (hb : Below w.heap.size w w1) {g : Nat} (hg : w.heap.size ≤ g) : Turn S (fun k => S k ∨ k = g) w w1 :=
  ⟨hb.os, hb.tape, hb.output, hb.size, fun k hk _ => hb.block k hk, fun k hk hs => by
    rcases hs with h | h
    · exact h
    · omega⟩

theorem below_of_drew {w w1 : World} (h : Below w.drew.heap.size w.drew w1) : Below w.heap.size w w1 := ⟨h.os, h.tape, h.output, h.size, h.block⟩
theorem bcell {W w1 : World} (hb : Below W.heap.size W w1) : (∀ b o, b < W.heap.size → w1.cell? ⟨b, o, none⟩ = W.cell? ⟨b, o, none⟩) ∧ (∀ b o, b < W.heap.size → w1.frozen? ⟨b, o, none⟩ = W.frozen? ⟨b, o, none⟩) :=
  ⟨fun b o h => hb.cell (p := ⟨b, o, none⟩) h, fun b o h => hb.frozen (p := ⟨b, o, none⟩) h⟩

section
variable {w w' : World} {p : Nat} {S S' : Nat → Prop} {D : DS}

theorem SecV.wide {v : Value} {l : List Int} (h : SecV w S v l) (hi : ∀ k, S k → S' k) : SecV w S' v l := h.same (fun _ _ => rfl) hi

/-- What 'copied' made. -/
theorem secV_own {base g c : Nat} {l : List Int} (h : Own w base g c l) (hs : Sec l) (hg : S g) : SecV w S (.slice (some ⟨g, 0, none⟩) 32 c) l := by
  refine ⟨g, c, rfl, hg, ?_, h.bs hs.2 (by rw [hs.1]; decide)⟩
  exact ownsRow_block h (g := g) rfl

theorem RefAt.wide {sv lv : Value} {left : Int} (h : RefAt w p sv lv left S D) (hi : ∀ k, S k → S' k) (hlt : ∀ k, S' k → k < w.heap.size) : RefAt w p sv lv left S' D := by
  refine ⟨h.ok, h.str, ?_, ?_, hi _ h.inp, fun g hg => hi g (h.ins g hg), fun g hg => hi g (h.inl g hg), hlt, h.lf, h.lb⟩
  · obtain ⟨cs, h1, h2⟩ := h.sec
    refine ⟨cs, h1, fun i hi2 => ?_⟩
    obtain ⟨u, h3, h4⟩ := h2 i hi2
    exact ⟨u, h3, h4.wide hi⟩
  · obtain ⟨cs, h1, h2⟩ := h.lin
    refine ⟨cs, h1, fun i hi2 => ?_⟩
    obtain ⟨h5, u, h3, h4⟩ := h2 i hi2
    exact ⟨h5, u, h3, h4.wide hi⟩

/-- A line's body is laid anew. -/
theorem RefAt.setLine {sv : Value} {left : Int} {g n cap : Nat} (h : RefAt w p sv (.slice (some ⟨g, 0, none⟩) n cap) left S D) (q : Nat) (hq : q < D.mem.length) {v : Value} {l : List Int} (hv : SecV w S v l) (hl : Sec l) :
    RefAt (w.setCell ⟨g, q * 2 + 1, none⟩ v) p sv (.slice (some ⟨g, 0, none⟩) n cap) left S (D.put (D.mem.getD q (0, [])).1 l) ∧ Turn S S w (w.setCell ⟨g, q * 2 + 1, none⟩ v) := by
  obtain ⟨cs, h1, h2⟩ := h.lin
  obtain rfl : n = D.mem.length := by
    rcases h1.2 with ⟨e, _⟩ | ⟨g', c', cur', e, _⟩
    · cases e
    · simp only [Value.slice.injEq] at e; exact e.2.1
  have hgS : S g := h.inl g rfl
  obtain ⟨cur, hcur⟩ := ownsRow_block h1 (g := g) rfl
  have hgp : g ≠ p := fun e => h.nlv (by rw [← e]; rfl)
  have hset : ∀ k, k ≠ g → (w.setCell ⟨g, q * 2 + 1, none⟩ v).heap[k]? = w.heap[k]? := fun k hk => heap_setCell_other _ _ _ _ hk
  have hsg : sv.ownBlock ≠ some g := by
    intro e
    obtain ⟨cs2, h3, _⟩ := h.sec
    obtain ⟨cur2, h4⟩ := ownsRow_block h3 e
    rw [hcur] at h4
    simp at h4
  have hput : (D.put (D.mem.getD q (0, [])).1 l).mem = D.mem.set q ((D.mem.getD q (0, [])).1, l) := memPut_set h.ok.apart hq l
  refine ⟨⟨h.ok.put (h.ok.mem _ (pair_mem hq)).1 hl, (hset p hgp.symm).trans h.str, ?_, ?_, h.inp, h.ins, h.inl, fun k hk => by simpa using h.lt k hk, h.lf, h.lb⟩, Turn.setCell _ _ hgS⟩
  · obtain ⟨cs2, h3, h4⟩ := h.sec
    refine ⟨cs2, ownsRow_same h3 (fun k hk => hset k (fun e => hsg (by rw [hk, e]))), fun j hj => ?_⟩
    obtain ⟨u, h6, h7⟩ := h4 j hj
    exact ⟨u, h6, h7.ne hcur (by decide) hset⟩
  · rw [hput, List.length_set]
    refine ⟨cs.set (q * 2 + 1) v, (World.ownsRow.stored h1 (q * 2 + 1) v).1, fun j hj => ?_⟩
    rw [List.length_set] at hj
    have hcl : cs.length = D.mem.length * 2 := h1.1
    obtain ⟨h5, u, h6, h7⟩ := h2 j hj
    by_cases e : j = q
    · subst e
      have e1 : (D.mem.set j ((D.mem.getD j (0, [])).1, l)).getD j (0, []) = ((D.mem.getD j (0, [])).1, l) := by simp [List.getD, hq]
      rw [e1]
      exact ⟨by rw [List.getElem?_set_ne (by omega)]; exact h5, v, by rw [Nat.mul_comm, List.getElem?_set_self (by omega)], hv.ne hcur (by decide) hset⟩
    · have e1 : (D.mem.set q ((D.mem.getD q (0, [])).1, l)).getD j (0, []) = D.mem.getD j (0, []) := by simp [List.getD, List.getElem?_set_ne (fun e2 => e e2.symm)]
      rw [e1]
      exact ⟨by rw [List.getElem?_set_ne (by omega)]; exact h5, u, by rw [List.getElem?_set_ne (by omega)]; exact h6, h7.ne hcur (by decide) hset⟩
end
end Go.Proofs.YtnpdejlbknjhnaaDoor
