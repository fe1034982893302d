/-
  Byte slices that a call has made by append: what they own, read, stored. (Part of the proofs over package num.)
-/
import Derived.Test.YtllpeknpplpgeaaGreatDoorLaws
namespace Go.Proofs.YtllpeknpplpgeaaGreatDoor
open Go.RowKit
set_option linter.unusedVariables false

/-- The slice '.slice (some ⟨g, 0, none⟩) l.length cap' owns the bytes l, in a block from base on. -/
def Own (w : World) (base g cap : Nat) (l : List Int) : Prop := w.ownsRow base 5 1 (.slice (some ⟨g, 0, none⟩) l.length cap) l.length (l.map (Value.int .u8))

theorem Own.base {w : World} {base g cap : Nat} {l : List Int} (h : Own w base g cap l) : base ≤ g := by
  rcases h.2 with ⟨h', _⟩ | ⟨g', cap', cur, h', hb, _⟩
  · simp at h'
  · simp only [Value.slice.injEq, Option.some.injEq, Addr.mk.injEq, and_true, true_and] at h'
    obtain ⟨rfl, rfl⟩ := h'
    exact hb

theorem Own.cap {w : World} {base g cap : Nat} {l : List Int} (h : Own w base g cap l) : l.length ≤ cap := by
  rcases h.2 with ⟨h', _⟩ | ⟨g', cap', cur, h', hb, _, hn, _⟩
  · simp at h'
  · simp only [Value.slice.injEq, Option.some.injEq, Addr.mk.injEq, and_true, true_and] at h'
    obtain ⟨rfl, rfl⟩ := h'
    exact hn

theorem Own.cell {w : World} {base g cap : Nat} {l : List Int} (h : Own w base g cap l) (i : Nat) (hi : i < l.length) : w.cell? ⟨g, i, none⟩ = some (.int .u8 (l.getD i 0)) := by
  rw [World.ownsRow.cellAt h i (by omega)]
  simp [hi, List.getD]

theorem Own.frozen {w : World} {base g cap : Nat} {l : List Int} (h : Own w base g cap l) (i : Nat) : w.frozen? ⟨g, i, none⟩ = false := World.ownsRow.frozenAt h i

theorem Own.set {w : World} {base g cap : Nat} {l : List Int} (h : Own w base g cap l) (i : Nat) (c : Int) : Own (w.setCell ⟨g, i, none⟩ (.int .u8 c)) base g cap (l.set i c) := by
  have := (World.ownsRow.stored h i (.int .u8 c)).1
  unfold Own
  rw [List.length_set, List.map_set]
  exact this

theorem Own.bs {w : World} {base g cap : Nat} {l : List Int} (h : Own w base g cap l) (hb : Byt l) (hl : l.length ≤ 140737488351232) : Bs w (some ⟨g, 0, none⟩) cap l :=
  ⟨hb, h.cap, hl, fun e => (by cases e), fun _ => ⟨g, 0, rfl, fun i hi => by rw [Nat.zero_add]; exact h.cell i hi⟩⟩

/-- 'append(nil, b...)', b not empty. -/
theorem wpList_append_new {P : Program} {w : World} {ops : Array Oper} {rest : List Oper} {o : Oper} {a : Act} {Q : Exit → Act → World → Prop} (hgd : o.guard = none) (s x : Operand) (t : TypeId)
    (ho : o.op = .call { callee := .builtin .append, args := #[s, x], argTypes := #[t, t] }) (i : TypeInfo) (ht : P.underlying t = some (.slice 5)) (hi : P.info? 5 = some i) (hz : i.zero = some (.int .u8 0)) (h4 : i.size = 1) (h5 : i.bytes = 1)
    (sp : Option Addr) (sCap : Nat) (l : List Int) (hs : a.eval s = .slice none 0 0) (hx : a.eval x = .slice sp l.length sCap) (hb : Bs w sp sCap l) (hne : l ≠ [])
    (h : ∀ g cap w', Own w' w.heap.size g cap l → Below w.heap.size w w' → wpList P ops Q rest (a.put o.dst (.slice (some ⟨g, 0, none⟩) l.length cap)) w') :
    wpList P ops Q (o :: rest) a w := by
  obtain ⟨b, off, rfl, hc⟩ := hb.2.2.2.2 hne
  have hl := hb.2.2.1
  refine wpList_append_own (P := P) w hgd s x t ho w.heap.size 5 i (.int .u8 0) 1 1 ht hi hz h4 h5 rfl (by decide) (.slice none 0 0) 0 [] hs (World.ownsRow_nil _ _ _ _) ⟨b, off, none⟩ l.length sCap (l.map (Value.int .u8)) hx (by simp) ?_ (oneCell_u8 l) (by unfold maxLen; omega) (by omega) (Nat.le_refl _) ?_
  · intro j v hj
    have hjl : j < l.length := by
      rcases Nat.lt_or_ge j l.length with h1 | h1
      · exact h1
      · rw [List.getElem?_eq_none (by simpa using h1)] at hj; cases hj
    have h2 := hc j hjl
    simp [hjl] at hj
    subst hj
    rw [addr_add]
    simpa [List.getD, hjl] using h2
  · intro v' w' hown hgrow hiff
    rw [Nat.zero_add, List.nil_append] at hown
    have hpos : 0 < l.length := by
      cases l with
      | nil => exact absurd rfl hne
      | cons _ _ => simp
    rcases hown.2 with ⟨_, h0⟩ | ⟨g, cap, cur, rfl, hrest⟩
    · omega
    · exact h g cap w' hown ((Below.refl _ _).grown hgrow (Nat.le_refl _) (fun k hk => by cases hk))
end Go.Proofs.YtllpeknpplpgeaaGreatDoor
