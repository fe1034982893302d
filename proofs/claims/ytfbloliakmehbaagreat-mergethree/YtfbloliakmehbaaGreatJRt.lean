/-
  Contracts of package root: All, Get. (Part of the proofs over package root.)
-/
import Derived.Test.YtfbloliakmehbaaGreatJRtp
import Derived.Test.YtfbloliakmehbaaGreatJSe
import Derived.Test.YtfbloliakmehbaaGreatJHp
import Derived.Test.YtfbloliakmehbaaGreatJIn
namespace Go.Proofs.YtfbloliakmehbaaGreat
open Go.RowKit
set_option linter.unusedVariables false

theorem Lst.lowA {α : Type} {enc : α → List Value} {k T : Nat} {w : World} {B B' : Nat} {v : Value} {l : List α} (h : Lst enc k T w B' v l) (hB : B ≤ B') : Lst enc k T w B v l := by
  refine ⟨h.1, ?_⟩
  rcases h.2 with h0 | ⟨g, cap, cur, e, h1, h2⟩
  · exact .inl h0
  · exact .inr ⟨g, cap, cur, e, Nat.le_trans hB h1, h2⟩
theorem roAll_any (p g c B : Nat) (L : List Int) (w : World) (h : Hp w B p g c L) :
    Calls Tryz.prog 267 #[.pointer (some ⟨p, 0, none⟩)] w fun e w' => ∃ v, e = .returned v ∧ Lst roC 2 163 w' w.heap.size v (rootsK L 8) ∧ Below w.heap.size w w' := by
  have HB := hide (hBytes_any p g c B L w h)
  have hbyt := h.byt
  have hlen := h.len
  have hq := h.fine.len0
  have HR : Hid (∀ W a' c', Below w.heap.size w W → OwnV W w.heap.size (.slice a' L.length c') L → Calls Tryz.prog 67 #[.slice a' L.length c'] W fun e w' => ∃ v, e = .returned (.tuple #[v, .nilIface]) ∧ Lst roC 2 163 w' w.heap.size v (rootsK L 8) ∧ Below w.heap.size w w') := hide (fun W a' c' hW hO => by
    obtain ⟨a2, c2, e2, hb2⟩ := hO.bs hbyt (by omega)
    simp only [Value.slice.injEq, true_and] at e2
    obtain ⟨rfl, rfl⟩ := e2
    refine (iRoots_yes a' c' L W hb2 hq).mono ?_
    rintro e w' ⟨v, rfl, hl, hb⟩
    exact ⟨v, rfl, hl.lowA hW.size, hW.trans (hb.mono hW.size)⟩)
  clear h hbyt hq
  generalize rootsK L 8 = RS at *
  generalize hN : L.length = N at *
  clear hN
  go_enter Tryz.func267, Tryz.ntmps267
  go_wp2_with fail
  refine (unhide HB).mono ?_
  rintro e w1 ⟨a1, c1, rfl, ho1, hb1⟩
  have HR1 := hide (unhide HR w1 a1 c1 hb1 ho1)
  clear ho1 hb1 HB HR
  go_wp2_with fail
  refine (unhide HR1).mono ?_
  rintro e w2 ⟨v2, rfl, hl2, hb2⟩
  obtain ⟨va, vm, vc, rfl⟩ := hl2.shape
  have HL := hide hl2
  have HB2 := hide hb2
  clear hl2 hb2 HR1
  go_wp2
  go_ret
  exact ⟨_, rfl, unhide HL, unhide HB2⟩

theorem root_pos {L : List Int} (hf : Fine L) {s : ByteArray} {x : Int} (hm : (s, x) ∈ rootsK L 8) : 1 ≤ x := by
  obtain ⟨i, hi, hr, e⟩ := mem_rootsK_iff.1 hm
  have h2 : (rowAt L i).getD 10 0 = x := congrArg Prod.snd e
  rw [← h2]
  exact (lead_obj hf hi hr).1
section
variable {w : World} {B p g c : Nat} {L : List Int}
end
end Go.Proofs.YtfbloliakmehbaaGreat
