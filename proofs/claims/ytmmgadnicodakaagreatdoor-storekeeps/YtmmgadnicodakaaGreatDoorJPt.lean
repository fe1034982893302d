/-
  The state of PlayTells: a store in the midst of a script, and what was kept, laid aside. (Part of the proof of PlayTells.)
-/
import Derived.Test.YtmmgadnicodakaaGreatDoorJPo
namespace Go.Proofs.YtmmgadnicodakaaGreatDoor
open Go.RowKit
set_option linter.unusedVariables false
def PtAt (w0 w : World) (t p x m : Nat) (Q : Ps) (kv : Value) : Prop := ∃ F a c, Tf w0 w t p x m Q F ∧ kv = .slice a (32 * m) c ∧ BsO w F a c Q.K
def PtMd (w0 w : World) (t p x m : Nat) (Q : Ps) (kv : Value) (K : List Int) : Prop := ∃ F a c, Tf w0 w t p x m Q F ∧ kv = .slice a (32 * m) c ∧ BsO w F a c K
section
variable {w0 w w' : World} {t p x m n : Nat} {P Q : Ps} {l : List OpR} {k : Nat} {kv : Value}
theorem PtAt.base (h : PtAt w0 w t p x m Q kv) : Below w0.heap.size w0 w := by obtain ⟨F, a, c, h, _⟩ := h; exact h.base
theorem PtMd.base {K : List Int} (h : PtMd w0 w t p x m Q kv K) : Below w0.heap.size w0 w := by obtain ⟨F, a, c, h, _⟩ := h; exact h.base
theorem PtAt.do {r : OpR} (h : PtAt w0 w t p x m Q kv) (hin : OpIn w0 r) (hz : Pz m n Q) (h0 : 0 ≤ Q.s) (hs : Q.s ≤ 999) :
  Calls Tryz.prog 13 #[.pointer (some ⟨t, 0, none⟩), opV r] w fun e w' => e = .returned (errV (psDo m Q (opP r)).2) ∧ PtMd w0 w' t p x m (psDo m Q (opP r)).1 kv Q.K := by
 obtain ⟨F, a, c, h1, h2, h3⟩ := h
 obtain ⟨a1, a2, a3, a4, a5, a6⟩ := hin
 refine (h1.do r ⟨a1, a2, a3, a4, a5, a6.below h1.base⟩ hz h0 hs).mono ?_
 rintro e w' ⟨he, F', k1, k2⟩
 exact ⟨he, F', a, c, k1, h2, h3.turn k2⟩
theorem PtMd.skip {r : OpR} (h : PtMd w0 w t p x m (psDo m Q (opP r)).1 kv Q.K) (hn : ¬ (r.1 = 6 ∧ (psDo m Q (opP r)).2 = 0)) : PtAt w0 w t p x m (psDo m Q (opP r)).1 kv := by
 obtain ⟨F, a, c, h1, h2, h3⟩ := h
 have hK : (psDo m Q (opP r)).1.K = Q.K := by
  by_cases h6 : (opP r).1 = 6
  ·exact (co_same h6).2.2 (fun h => hn ⟨h6, h⟩)
  ·exact do_kept h6
 exact ⟨F, a, c, h1, h2, by rw [hK]; exact h3⟩
theorem PtMd.heap {K : List Int} (h : PtMd w0 w t p x m Q kv K) : Calls Tryz.prog 11 #[.pointer (some ⟨t, 0, none⟩)] w fun e w' => e = .returned (.pointer (some ⟨x, 0, none⟩)) ∧ w = w' := by
 obtain ⟨F, a, c, h1, h2, h3⟩ := h
 exact h1.heap
theorem Tf.pt {F : Nat → Prop} (h : Tf w0 w t p x m Q F) (hLK : Q.L = Q.K) :
  Calls Tryz.prog 12 #[.pointer (some ⟨x, 0, none⟩)] w fun e w' => ∃ v, e = .returned v ∧ PtAt w0 w' t p x m Q v := by
 have hf := h.fine
 have hm := hf.1.len
 refine h.bytes.mono ?_
 rintro e w' ⟨⟨g, c, cur, rfl, hr⟩, k1, hb⟩
 refine ⟨_, rfl, F, _, c, k1, by rw [hf.2.2.1], ?_⟩
 rw [← hLK]
 refine ⟨hr.bs hf.2.1 (by omega), fun _ y hy hfy => ?_⟩
 obtain rfl := Option.some.inj hy
 have h9 := h.lt _ hfy
 have h8 := hr.1
 simp at h9
 omega
theorem PtMd.more {r : OpR} {K : List Int} (h : PtMd w0 w t p x m (psDo m Q (opP r)).1 kv K) (hy : r.1 = 6 ∧ (psDo m Q (opP r)).2 = 0) :
  Calls Tryz.prog 12 #[.pointer (some ⟨x, 0, none⟩)] w fun e w' => ∃ v, e = .returned v ∧ PtAt w0 w' t p x m (psDo m Q (opP r)).1 v := by
 obtain ⟨F, a, c, h1, h2, h3⟩ := h
 obtain ⟨c1, c2, c3⟩ := co_same (m := m) (p := Q) (o := opP r) hy.1
 exact h1.pt (by rw [c1, c2 hy.2])
end
end Go.Proofs.YtmmgadnicodakaaGreatDoor
