/-
  Contracts of package check: the name of a root. (Part of the proofs over package check.)
-/
import Derived.Test.YtccailoccgbehaaChE
namespace Go.Proofs.Ytccailoccgbehaa
open Go.RowKit Go.MapKept Go.ChangeMaps
set_option linter.unusedVariables false

/-- Is a root Bad, as nameOf tells it? -/
def nbad (c : Int) (R I : Bool) (v : Int) : Bool := (c != 0) || (R || (!I || (v != 0)))
set_option maxRecDepth 100000 in
set_option maxHeartbeats 2000000 in
theorem nameOf_raw (a : Option Addr) (cap : Nat) (r : List Int) (m : Nat) (w : World) (s : ByteArray) (c : Int) (R I : Bool) (v : Int) (hbs : Bs w a cap r) (h11 : r.length = 11) (hs : (readOut (r.take 8)).1 = s) (hc : (readOut (r.take 8)).2 = c) (hR : isRoot ((r.drop 8).take 2) = R)
    (hlook : ∀ W, Below w.heap.size w W → (Instr.lookup 45 (.map (some m)) (.int .i64 (r.getD 10 0)) true).run Try.prog W = .ok (.tuple #[.int .i64 v, .bool I]) W) :
    Calls Try.prog 25 #[.slice a 11 cap, .map (some m)] w fun e w' => e = .returned (.tuple #[.string (if nbad c R I v = true then { data := #[] } else s), .bool (!nbad c R I v)]) ∧ Below w.heap.size w w' := by
  obtain ⟨a1, hs1, hb1⟩ := slice_hi (P := Try.prog) (t := 22) Try.underlying22 size_u8 hbs 8 (by omega)
  rw [h11, show ((8 : Nat) : Int) = 8 from rfl] at hs1
  have h8 : (r.take 8).length = 8 := by rw [List.length_take]; omega
  have HG := hide (getName_any a1 cap (r.take 8) w hb1)
  rw [h8, hs, hc] at HG
  obtain ⟨a2, hs2, hb2⟩ := slice_lohi (P := Try.prog) (t := 22) Try.underlying22 size_u8 hbs 8 10 (by omega) (by omega)
  rw [h11, show ((8 : Nat) : Int) = 8 from rfl, show ((10 : Nat) : Int) = 10 from rfl, show 10 - 8 = 2 from rfl] at hs2
  have h2 : ((r.drop 8).take 2).length = 2 := by simp; omega
  have HA := hide (fun (W : World) (hW : Below w.heap.size w W) => isAny_any a2 _ _ W (hb2.below hW))
  rw [hR, h2] at HA
  obtain ⟨b, off, rfl, hcell⟩ := hbs.at 10 (by omega)
  have hbd := hbs.1.getD 10
  have hlt := block_lt_of_cell hcell
  dsimp only at hlt
  have HL := hide hlook
  generalize r.getD 10 0 = x at *
  clear hlook hb1 hb2 hs hc hR h8 h2 hbs
  unfold nbad
  by_cases h0 : c = 0
  · subst h0
    rw [errV_zero] at HG
    have hz : ((0 : Int) != 0) = false := rfl
    rw [hz, Bool.false_or]
    cases R with
    | true =>
      rw [Bool.true_or, if_pos rfl, Bool.not_true]
      go_enter Try.func25, Try.ntmps25
      go_wp2_with fail
      refine (unhide HG).mono ?_
      rintro e w1 ⟨rfl, hw1⟩
      have hc1 := (hw1.cell (block_lt_of_cell hcell)).trans hcell
      have hk1 := unhide HL w1 hw1
      have HA1 := hide (unhide HA w1 hw1)
      have HB1 := hide hw1
      have hl1 : b < w1.heap.size := Nat.lt_of_lt_of_le hlt hw1.size
      clear hw1 HG HL HA hcell hlt
      go_wp2_with (go_at_call 21; refine (unhide HA1).mono ?_; rintro e w2 ⟨rfl, hw2⟩; subst hw2)
      go_ret2
      exact ⟨rfl, unhide HB1⟩
    | false =>
      rw [Bool.false_or]
      cases I with
      | false =>
        rw [Bool.not_false, Bool.true_or, if_pos rfl, Bool.not_true]
        go_enter Try.func25, Try.ntmps25
        go_wp2_with fail
        refine (unhide HG).mono ?_
        rintro e w1 ⟨rfl, hw1⟩
        have hc1 := (hw1.cell (block_lt_of_cell hcell)).trans hcell
        have hk1 := unhide HL w1 hw1
        have HA1 := hide (unhide HA w1 hw1)
        have HB1 := hide hw1
        have hl1 : b < w1.heap.size := Nat.lt_of_lt_of_le hlt hw1.size
        clear hw1 HG HL HA hcell hlt
        go_wp2_with (go_at_call 21; refine (unhide HA1).mono ?_; rintro e w2 ⟨rfl, hw2⟩; subst hw2)
        go_ret2
        exact ⟨rfl, unhide HB1⟩
      | true =>
        rw [Bool.not_true, Bool.false_or]
        by_cases hv : v = 0
        · subst hv
          rw [hz, if_neg (by simp), Bool.not_false]
          go_enter Try.func25, Try.ntmps25
          go_wp2_with fail
          refine (unhide HG).mono ?_
          rintro e w1 ⟨rfl, hw1⟩
          have hc1 := (hw1.cell (block_lt_of_cell hcell)).trans hcell
          have hk1 := unhide HL w1 hw1
          have HA1 := hide (unhide HA w1 hw1)
          have HB1 := hide hw1
          have hl1 : b < w1.heap.size := Nat.lt_of_lt_of_le hlt hw1.size
          clear hw1 HG HL HA hcell hlt
          go_wp2_with (go_at_call 21; refine (unhide HA1).mono ?_; rintro e w2 ⟨rfl, hw2⟩; subst hw2)
          go_ret2
          exact ⟨rfl, unhide HB1⟩
        · have hv' : (v != 0) = true := bne_iff_ne.2 hv
          rw [hv', if_pos rfl, Bool.not_true]
          go_enter Try.func25, Try.ntmps25
          go_wp2_with fail
          refine (unhide HG).mono ?_
          rintro e w1 ⟨rfl, hw1⟩
          have hc1 := (hw1.cell (block_lt_of_cell hcell)).trans hcell
          have hk1 := unhide HL w1 hw1
          have HA1 := hide (unhide HA w1 hw1)
          have HB1 := hide hw1
          have hl1 : b < w1.heap.size := Nat.lt_of_lt_of_le hlt hw1.size
          clear hw1 HG HL HA hcell hlt
          go_wp2_with (go_at_call 21; refine (unhide HA1).mono ?_; rintro e w2 ⟨rfl, hw2⟩; subst hw2)
          go_ret2
          exact ⟨rfl, unhide HB1⟩
  · rw [errV_pos _ h0] at HG
    have hz : (c != 0) = true := bne_iff_ne.2 h0
    rw [hz, Bool.true_or, if_pos rfl, Bool.not_true]
    clear hz h0
    go_enter Try.func25, Try.ntmps25
    go_wp2_with fail
    refine (unhide HG).mono ?_
    rintro e w1 ⟨rfl, hw1⟩
    have hc1 := (hw1.cell (block_lt_of_cell hcell)).trans hcell
    have hk1 := unhide HL w1 hw1
    have HB1 := hide hw1
    have hl1 : b < w1.heap.size := Nat.lt_of_lt_of_le hlt hw1.size
    clear hw1 HG HL HA hcell hlt
    go_wp2_with fail
    go_ret2
    exact ⟨rfl, unhide HB1⟩
theorem readOut_size (l : List Int) : (readOut l).1.size ≤ l.length := by
  unfold readOut
  split
  · simp
  · split
    · simp
    · have : (strOf (l.take (lettersN l))).size = (l.take (lettersN l)).length := by
        have h := strOf_data (l.take (lettersN l))
        have h2 := congrArg List.length h
        simpa using h2
      rw [this, List.length_take]
      omega
end Go.Proofs.Ytccailoccgbehaa
