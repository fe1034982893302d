/-
  A value that owns a row of bytes, made by append. (Part of the proofs.)
-/
import Derived.Test.YtllpeknpplpgeaaGreatDoorEnds
import Derived.Maps.AppendAt
namespace Go.Proofs.YtllpeknpplpgeaaGreatDoor
open Go.RowKit
set_option linter.unusedVariables false

/-- A value that owns a row of bytes (or is nil, of none). -/
def OwnV (w : World) (B : Nat) (v : Value) (L : List Int) : Prop := w.ownsRow B 5 1 v L.length (L.map (Value.int .u8))
theorem OwnV.nil (w : World) (B : Nat) : OwnV w B (.slice none 0 0) [] := ⟨by simp, .inl ⟨rfl, rfl⟩⟩
theorem OwnV.block {w : World} {B : Nat} {v : Value} {L : List Int} (h : OwnV w B v L) : ∀ k, v.ownBlock = some k → B ≤ k := by
  intro k hk
  rcases h.2 with ⟨rfl, _⟩ | ⟨g, cap, cur, rfl, hB, _⟩
  · cases hk
  · simp [Value.ownBlock] at hk
    omega
theorem OwnV.bs {w : World} {B : Nat} {v : Value} {L : List Int} (h : OwnV w B v L) (hb : Byt L) (hl : L.length ≤ 140737488351232) : ∃ a c, v = .slice a L.length c ∧ Bs w a c L := by
  rcases h.2 with ⟨rfl, h0⟩ | ⟨g, cap, cur, rfl, hB, hc, h3, h4, h5, h6⟩
  · have : L = [] := List.eq_nil_of_length_eq_zero h0
    subst this
    exact ⟨none, 0, rfl, bs_nil _⟩
  · refine ⟨some ⟨g, 0, none⟩, cap, rfl, hb, h3, hl, fun e => (by cases e), fun _ => ⟨g, 0, rfl, fun i hi => ?_⟩⟩
    rw [cell_of_row _ _ _ _ _ _ hc]
    have e : (cur.toList.take (L.length * 1))[i]? = some (.int .u8 (L.getD i 0)) := by
      rw [h6]
      simp [List.getD, hi]
    rw [List.getElem?_take, if_pos (by omega)] at e
    simpa using e
theorem news_bs {w : World} {ad : Addr} {c : Nat} {l : List Int} (hb : Bs w (some ad) c l) : ∀ j u, (l.map (Value.int .u8))[j]? = some u → w.cell? (ad.add j) = some u := by
  intro j u hj
  have hjl : j < l.length := by
    rcases Nat.lt_or_ge j l.length with h1 | h1
    · exact h1
    · rw [List.getElem?_eq_none (by simpa using h1)] at hj; cases hj
  obtain ⟨b, off, e, hc⟩ := hb.2.2.2.2 (by intro e; rw [e] at hjl; simp at hjl)
  obtain rfl := Option.some.inj e
  have h2 := hc j hjl
  simp [hjl] at hj
  subst hj
  rw [addr_add]
  simpa [List.getD, hjl] using h2
theorem OwnV.below {w w' : World} {B : Nat} {v : Value} {L : List Int} (h : OwnV w B v L) (hb : Below w.heap.size w w') : OwnV w' B v L := by
  refine ⟨h.1, ?_⟩
  rcases h.2 with h0 | ⟨g, cap, cur, rfl, hB, hc, h3⟩
  · exact .inl h0
  · exact .inr ⟨g, cap, cur, rfl, hB, (hb.block g (Array.getElem?_eq_some_iff.1 hc).1).trans hc, h3⟩

end Go.Proofs.YtllpeknpplpgeaaGreatDoor
