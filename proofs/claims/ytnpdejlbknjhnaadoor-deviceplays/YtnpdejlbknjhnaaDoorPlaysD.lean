/-
  The numbers of what is pending, in a row that append made; what both devices say at the end of a step. (Part of the proof of DevicePlays.)
-/
import Derived.Test.YtnpdejlbknjhnaaDoorPlaysC
import Derived.Deep.QuietTactic
namespace Go.Proofs.YtnpdejlbknjhnaaDoor
open Go.RowKit
set_option linter.unusedVariables false

/-- The first j numbers of what is pending, in a row of its own. -/
def Ord (w : World) (B : Nat) (v : Value) (M : List (Nat × List Int)) (j : Nat) : Prop := w.ownsRow B 3 1 v j (((keysI M).take j).map (Value.int .i64))

theorem Ord.nil (w : World) (B : Nat) (M : List (Nat × List Int)) : Ord w B (.slice none 0 0) M 0 := ⟨by simp, .inl ⟨rfl, rfl⟩⟩
theorem Ord.more {w : World} {B : Nat} {v : Value} {M : List (Nat × List Int)} {j : Nat} (hj : j < M.length) (h : w.ownsRow B 3 1 v (j + 1) (((keysI M).take j).map (Value.int .i64) ++ [.int .i64 ((M.getD j (0, [])).1 : Int)])) : Ord w B v M (j + 1) := by
  unfold Ord
  have hk : j < (keysI M).length := by rw [length_keysI]; exact hj
  have e : (keysI M).take (j + 1) = (keysI M).take j ++ [((M.getD j (0, [])).1 : Int)] := by
    rw [← keysI_getD M j hj, List.take_add_one, List.getElem?_eq_getElem hk, List.getD_eq_getElem?_getD, List.getElem?_eq_getElem hk]
    rfl
  rw [e, List.map_append]
  exact h
theorem Ord.block {w : World} {B : Nat} {v : Value} {M : List (Nat × List Int)} {j : Nat} (h : Ord w B v M j) : ∀ k, v.ownBlock = some k → B ≤ k := by
  intro k hk
  rcases h.2 with ⟨rfl, _⟩ | ⟨g, cap, cur, rfl, hB, _⟩
  · cases hk
  · simp [Value.ownBlock] at hk
    omega
theorem Ord.below {w w' : World} {B : Nat} {v : Value} {M : List (Nat × List Int)} {j : Nat} (h : Ord w B v M j) (hb : Below w.heap.size w w') : Ord w' B v M j := by
  refine ownsRow_same h (fun g hg => hb.block g ?_)
  rcases h.2 with ⟨rfl, _⟩ | ⟨g', cap, cur, rfl, _, hc, _⟩
  · cases hg
  · simp [Value.ownBlock] at hg
    subst hg
    exact (Array.getElem?_eq_some_iff.1 hc).1
theorem below_grown {w0 w w' : World} {B : Nat} {row : Option Nat} (hb : Below B w0 w) (hB : B ≤ w.heap.size) (hg : w.grownBy w' row) (h : ∀ k, row = some k → B ≤ k) : Below B w0 w' :=
  hb.trans ((Turn.grown (S := fun k => B ≤ k) hg h).below (fun _ h => h) hB)

theorem ints_order {w : World} {gp B : Nat} {v : Value} {M : List (Nat × List Int)} (hI : IBlk w gp (keysI M)) (hO : Ord w B v M M.length) (hn : M.length ≤ 300) :
    ∃ a c, v = .slice a M.length c ∧ Calls Tryd.prog 18 #[.slice (some ⟨gp, 0, none⟩) M.length M.length, .slice a M.length c] w fun e w' => e = .returned (.bool true) ∧ (∃ m, w' = w.drewN m) := by
  rcases hO.2 with ⟨hv, h0⟩ | ⟨g, cap, cur, hv, _, hb, h3, h4, h5, h6⟩
  · refine ⟨none, 0, by rw [hv, h0], ?_⟩
    rw [h0]
    exact (ints_nil _ _ _ _ w).mono fun e w' ⟨he, hw⟩ => ⟨he, 0, by rw [← hw]; rfl⟩
  · refine ⟨some ⟨g, 0, none⟩, cap, hv, ints_same gp g M.length M.length cap (fun i => ((M.getD i (0, [])).1 : Int)) w hn (fun i hi => ?_) (fun i hi => ?_)⟩
    · have := hI.cell i (by rw [length_keysI]; exact hi)
      rwa [keysI_getD M i hi] at this
    · rw [cell_of_row _ _ _ _ _ _ hb]
      have e : (cur.toList.take (M.length * 1))[i]? = some (.int .i64 ((M.getD i (0, [])).1 : Int)) := by
        rw [h6]
        simp [keysI, List.getD, hi]
      rw [List.getElem?_take, if_pos (by omega)] at e
      simpa using e

section
variable {w0 w w' : World} {p m : Nat} {S S' T T' : Nat → Prop} {D D' E E' : DS} {n g : Nat} {l : List Int}

theorem Play.down1 (h : Play w0 w p m S T D E n g l) (k : Nat) :
    Calls Tryd.prog 20 #[.pointer (some ⟨p, 0, none⟩)] (w.drewN k) fun e w' => e = .returned (.bool D.down) ∧ w' = w.drewN k :=
  ((h.drewN k).live.down).mono fun e w' ⟨he, hw⟩ => ⟨he, hw.symm⟩
theorem Play.len1 (h : Play w0 w p m S T D E n g l) (k : Nat) :
    Calls Tryd.prog 21 #[.pointer (some ⟨p, 0, none⟩)] (w.drewN k) fun e w' => e = .returned (.int .i64 n) ∧ w' = w.drewN k :=
  (len_any (h.drewN k).live.dev).mono fun e w' ⟨he, hw⟩ => ⟨by rw [he, h.dn], hw.symm⟩
theorem Play.cell3 (h : Play w0 w p m S T D E n g l) : w.cell? ⟨m, 3, none⟩ = some (.bool E.down) := by
  obtain ⟨sv, lv, left, hr⟩ := h.ref
  exact hr.c3
theorem Play.lines (h : Play w0 w p m S T D E n g l) : ∃ a c, w.cell? ⟨m, 1, none⟩ = some (.slice a E.mem.length c) ∧ E.mem.length ≤ 300 ∧ ∀ j, j < E.mem.length → ∃ gl, a = some ⟨gl, 0, none⟩ ∧ w.cell? ⟨gl, j * 2, none⟩ = some (.int .i64 ((E.mem.getD j (0, [])).1 : Int)) := by
  obtain ⟨sv, lv, left, hr⟩ := h.ref
  rcases hr.lv_form with ⟨rfl, h0⟩ | ⟨gl, cap, rfl, _, _, _, hc⟩
  · exact ⟨none, 0, by rw [hr.c1, h0]; rfl, hr.ok.mem_len, fun j hj => by rw [h0] at hj; cases hj⟩
  · exact ⟨some ⟨gl, 0, none⟩, cap, hr.c1, hr.ok.mem_len, fun j hj => ⟨gl, rfl, (hc j hj).1⟩⟩
theorem bytes_str {w : World} {a : Option Addr} {cap : Nat} {l : List Int} (hb : Bs w a cap l) (k : Nat) : (convert 35 9 (.slice a l.length cap)).run Tryd.prog (w.drewN k) = .ok (.string (strOf l)) (w.drewN k) :=
  conv_str (P := Tryd.prog) (t := 35) (e := 9) Tryd.underlying35 Tryd.underlying5 Tryd.underlying9 (bs_drewN hb k)
end
end Go.Proofs.YtnpdejlbknjhnaaDoor
