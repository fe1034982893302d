/-
  Contracts of package extent: Check. (Part of the proofs over package extent.)
-/
import Derived.Test.YtfbloliakmehbaaGreatJExa
import Derived.Test.YtfbloliakmehbaaGreatJExl
namespace Go.Proofs.YtfbloliakmehbaaGreat
open Go.RowKit Go.Sort Go.Shelf
set_option linter.unusedVariables false

/-- The cells of an extent. -/
def exC (e : (Int × Int)) : List Value := [.int .i64 e.1, .int .i64 e.2]
/-- The slice '.slice a l.length cap' of extents reads in w as l. -/
def Exs (w : World) (a : Option Addr) (cap : Nat) (l : List (Int × Int)) : Prop :=
  (∀ e ∈ l, InI e) ∧ (l.length ≤ cap ∧ (a = none → cap = 0)) ∧ l.length ≤ 8796093021952 ∧ (l ≠ [] → ∃ b off, a = some ⟨b, off, none⟩ ∧ ∀ i, i < l.length → w.cell? ⟨b, off + i * 2, none⟩ = some (.int .i64 (l.getD i (0, 0)).1) ∧ w.cell? ⟨b, off + i * 2 + 1, none⟩ = some (.int .i64 (l.getD i (0, 0)).2))
theorem Exs.below {w w' : World} {a : Option Addr} {cap : Nat} {l : List (Int × Int)} (h : Exs w a cap l) (hb : Below w.heap.size w w') : Exs w' a cap l := by
  obtain ⟨h1, h2, h3, h4⟩ := h
  refine ⟨h1, h2, h3, fun hne => ?_⟩
  obtain ⟨b, off, rfl, hc⟩ := h4 hne
  refine ⟨b, off, rfl, fun i hi => ?_⟩
  obtain ⟨c0, c1⟩ := hc i hi
  exact ⟨(hb.cell (block_lt_of_cell c0)).trans c0, (hb.cell (block_lt_of_cell c1)).trans c1⟩
theorem Exs.inI {w : World} {a : Option Addr} {cap : Nat} {l : List (Int × Int)} (h : Exs w a cap l) (i : Nat) : InI (l.getD i (0, 0)) := by
  by_cases hi : i < l.length
  · have : l.getD i (0, 0) = l[i] := by simp [List.getD, hi]
    rw [this]; exact h.1 _ (List.getElem_mem hi)
  · have : l.getD i (0, 0) = (0, 0) := by simp [List.getD, List.getElem?_eq_none (by omega : l.length ≤ i)]
    rw [this]; unfold InI; decide
theorem sm_there {n : Int} {e : (Int × Int)} (hn : n ≤ 6400) (h : there n e = true) : Sm e := by
  have := there_iff.1 h
  unfold Sm
  omega

theorem check1_any (e x : (Int × Int)) (g : Nat) (W : World) (c0 : W.cell? ⟨g, 0, none⟩ = some (.int .i64 e.1)) (c1 : W.cell? ⟨g, 1, none⟩ = some (.int .i64 e.2)) :
    Calls Tryz.prog 244 #[.agg #[.int .i64 x.1, .int .i64 x.2], .pointer (some ⟨g, 0, none⟩)] W fun r w' => r = .returned (.bool (overW e x)) ∧ Below W.heap.size W w' := by
  have hg := block_lt_of_cell c0
  dsimp only at hg
  have d0 : (W.alloc (.cells #[.int .i64 x.1, .int .i64 x.2] 68)).cell? ⟨g, 0, none⟩ = some (.int .i64 e.1) := by rw [World.cell?_alloc_lt _ _ ⟨g, 0, none⟩ hg]; exact c0
  have d1 : (W.alloc (.cells #[.int .i64 x.1, .int .i64 x.2] 68)).cell? ⟨g, 1, none⟩ = some (.int .i64 e.2) := by rw [World.cell?_alloc_lt _ _ ⟨g, 1, none⟩ hg]; exact c1
  have HO := hide (isOver_w e x (W.alloc (.cells #[.int .i64 x.1, .int .i64 x.2] 68)))
  generalize overW e x = r at *
  clear c0 c1
  go_enter Tryz.func244, Tryz.ntmps244
  go_wp2_with fail
  refine (unhide HO).mono ?_
  rintro e' w1 ⟨rfl, q, os, rfl⟩
  go_wp2
  go_ret
  exact ⟨rfl, ((Below.refl _ W).alloc (Nat.le_refl _) _).trans (grow_below.mono (by simp))⟩

theorem exs_slice_hi {w : World} {b off cap : Nat} {l : List (Int × Int)} (i : Nat) (hi : i ≤ l.length) (hl : l.length ≤ cap) (h0 : 0 < cap) (w' : World) :
    (Instr.slice 140 (.slice (some ⟨b, off, none⟩) l.length cap) none (some (.int .i64 i)) none).run Tryz.prog w' = .ok (.slice (some ⟨b, off, none⟩) i cap) w' := by
  have he : Tryz.prog.elem 140 = 68 := by simp [Program.elem, Tryz.underlying140]
  rw [run_slice_h (P := Tryz.prog) (w := w') 140 _ l.length cap (by rw [he]; exact Tryz.underlying140) .i64 i (by omega) (by omega), he, Tryz.sizeOf68 w']
  simp only [Result.andThen, sliced]
  rw [if_neg (by omega)]
  simp [Addr.add]

theorem chkL_step {n : Int} {l : List (Int × Int)} {k : Nat} (hk : k < l.length) : chkL n (l.take k) (l.drop k) = if there n (l.getD k (0, 0)) = false then 1 else if (l.take k).any (over (l.getD k (0, 0))) = true then 7 else chkL n (l.take (k + 1)) (l.drop (k + 1)) := by
  rw [List.drop_eq_getElem_cons hk]
  have e : l.getD k (0, 0) = l[k] := by simp [List.getD, hk]
  rw [e, List.take_succ_eq_append_getElem hk]
  rfl
theorem any_over {n : Int} {e : (Int × Int)} {l : List (Int × Int)} (hn : n ≤ 6400) (he : there n e = true) (hl : ∀ x ∈ l, there n x = true) : l.any (overW e) = l.any (over e) := by
  induction l with
  | nil => rfl
  | cons x r ih =>
    rw [List.any_cons, List.any_cons, ih (fun y hy => hl y (by simp [hy])), overW_sm (sm_there hn he) (sm_there hn (hl x (by simp)))]

theorem check_big (n : Int) (a : Option Addr) (len cap : Nat) (w : World) (hn : n < 0 ∨ 6400 < n) :
    Calls Tryz.prog 202 #[.int .i64 n, .slice a len cap] w fun e w' => e = .returned (errV 1) ∧ w = w' := by
  rw [errV_pos 1 (by decide)]
  by_cases h : n < 0
  · go_enter Tryz.func202, Tryz.ntmps202
    go_wp2
    go_ret
    exact ⟨rfl, rfl⟩
  · have h2 : 6400 < n := by omega
    go_enter Tryz.func202, Tryz.ntmps202
    go_wp2
    go_ret
    exact ⟨rfl, rfl⟩
theorem check_many (n : Int) (a : Option Addr) (len cap : Nat) (w : World) (h0 : 0 ≤ n) (hn : n ≤ 6400) (hl : 200 < len) (hb : len ≤ 8796093021952) :
    Calls Tryz.prog 202 #[.int .i64 n, .slice a len cap] w fun e w' => e = .returned (errV 4) ∧ w = w' := by
  rw [errV_pos 4 (by decide)]
  have g1 : ¬ n < 0 := by omega
  have g2 : ¬ 6400 < n := by omega
  go_enter Tryz.func202, Tryz.ntmps202
  go_wp2
  go_ret
  exact ⟨rfl, rfl⟩

set_option maxHeartbeats 1000000 in
theorem check_few (n : Int) (a : Option Addr) (cap : Nat) (l : List (Int × Int)) (w : World) (hl : Exs w a cap l) (h0 : 0 ≤ n) (hn : n ≤ 6400) (hN : l.length ≤ 200) :
    Calls Tryz.prog 202 #[.int .i64 n, .slice a l.length cap] w fun e w' => e = .returned (errV (chkL n [] l)) ∧ Below w.heap.size w w' := by
  have g1 : ¬ n < 0 := by omega
  have g2 : ¬ 6400 < n := by omega
  have g3 : ¬ (200 : Int) < l.length := by omega
  have HL := hide hl
  clear hl
  go_enter Tryz.func202, Tryz.ntmps202
  go_wp2_with fail
  go_loopw [20] (fun v wr => ∃ k : Nat, k ≤ l.length ∧ v = .int .i64 k ∧ Below w.heap.size w wr ∧ chkL n [] l = chkL n (l.take k) (l.drop k) ∧ ∀ e ∈ l.take k, there n e = true) (fun v _ => l.length - (intOf v).toNat)
  case atStart => exact ⟨0, Nat.zero_le _, rfl, Below.refl _ _, by rw [List.take_zero, List.drop_zero], fun e he => by rw [List.take_zero] at he; cases he⟩
  case round =>
    obtain ⟨k, hk, rfl, hbel, hz, hgd⟩ := hrel
    by_cases hlt : k < l.length
    · have hne : l ≠ [] := by intro e; rw [e] at hlt; simp at hlt
      obtain ⟨b, off, rfl, hcell⟩ := (unhide HL).2.2.2 hne
      obtain ⟨c0, c1⟩ := hcell k hlt
      have hbw := block_lt_of_cell c0
      dsimp only at hbw
      rw [← hbel.cell (block_lt_of_cell c0)] at c0
      rw [← hbel.cell (block_lt_of_cell c1)] at c1
      have hin := (unhide HL).inI k
      have hcap := (unhide HL).2.1.1
      have hsl := fun w' => exs_slice_hi (w := w) (b := b) (off := off) k hk hcap (by omega) w'
      rw [chkL_step hlt] at hz
      have hmem : l.getD k (0, 0) = l[k] := by simp [List.getD, hlt]
      have htk : ∀ e ∈ l.take (k + 1), there n (l.getD k (0, 0)) = true → there n e = true := fun e he hth => by
        rw [List.take_succ_eq_append_getElem hlt] at he
        rcases List.mem_append.1 he with he | he
        · exact hgd e he
        · rw [List.mem_singleton.1 he, ← hmem]; exact hth
      have hany : there n (l.getD k (0, 0)) = true → (l.take k).any (overW (l.getD k (0, 0))) = (l.take k).any (over (l.getD k (0, 0))) := fun hth => any_over hn hth hgd
      have hbA : Below w.heap.size w (wr.alloc (.cells #[.int .i64 (l.getD k (0, 0)).1, .int .i64 (l.getD k (0, 0)).2] 68)) := hbel.alloc hbel.size _
      have HT := hide (isThere_any n (l.getD k (0, 0)) (wr.alloc (.cells #[.int .i64 (l.getD k (0, 0)).1, .int .i64 (l.getD k (0, 0)).2] 68)) h0 hn hin)
      have HC0 : Hid ((wr.alloc (.cells #[.int .i64 (l.getD k (0, 0)).1, .int .i64 (l.getD k (0, 0)).2] 68)).cell? ⟨wr.heap.size, 0, none⟩ = some (.int .i64 (l.getD k (0, 0)).1)) := hide (by rw [cell_of_row _ _ _ _ _ (0, 0) (heap_alloc_new wr _)]; rfl)
      have HC1 : Hid ((wr.alloc (.cells #[.int .i64 (l.getD k (0, 0)).1, .int .i64 (l.getD k (0, 0)).2] 68)).cell? ⟨wr.heap.size, 1, none⟩ = some (.int .i64 (l.getD k (0, 0)).2)) := hide (by rw [cell_of_row _ _ _ _ _ (0, 0) (heap_alloc_new wr _)]; rfl)
      have HCELL := hide hcell
      have HZ := hide hz
      have HTK := hide htk
      have HANY := hide hany
      have HBA := hide hbA
      clear hz htk hany hcell hgd hin hmem hbA hbel hne
      generalize l.getD k (0, 0) = e at *
      cases hth : there n e with
      | false =>
        rw [hth] at HT
        have HE : Hid (chkL n [] l = 1) := hide (by rw [unhide HZ, if_pos hth])
        clear HZ HTK HANY hth
        go_wp2_with fail
        refine (unhide HT).mono ?_
        rintro e' w1 ⟨rfl, hb1⟩
        have HB1 := hide ((unhide HBA).trans (hb1.mono (unhide HBA).size))
        clear hb1
        go_wp2
        go_ret
        exact ⟨by rw [unhide HE]; rfl, unhide HB1⟩
      | true =>
        rw [hth] at HT
        have HTH := hide hth
        clear hth
        go_wp2_with fail
        refine (unhide HT).mono ?_
        rintro e' w1 ⟨rfl, hb1⟩
        have HB1 := hide ((unhide HBA).trans (hb1.mono (unhide HBA).size))
        have hd0 := (hb1.cell (block_lt_of_cell (unhide HC0))).trans (unhide HC0)
        have hd1 := (hb1.cell (block_lt_of_cell (unhide HC1))).trans (unhide HC1)
        have hcon := AnyQ.slices_ContainsFunc exCont 2 Tryz.isAgg68 Tryz.sizeOf68 exC (fun _ => rfl) (overW e) 244 #[.pointer (some ⟨wr.heap.size, 0, none⟩)] (enters_of Tryz.func244 (by kernel_rfl) rfl) b off k cap l w1
          (fun W x hW => (check1_any e x wr.heap.size W ((hW.cell (block_lt_of_cell hd0)).trans hd0) ((hW.cell (block_lt_of_cell hd1)).trans hd1)).mono fun r w' ⟨hr, hbb⟩ => ⟨hr, hW.trans (hbb.mono hW.size)⟩)
          hk (by omega) (by have := (unhide HB1).size; omega)
          (fun j hj i v hv => by
            obtain ⟨q0, q1⟩ := unhide HCELL j hj
            have ej : l[j]! = l.getD j (0, 0) := by simp [List.getD, hj]
            rw [ej] at hv
            match i, hv with
            | 0, hv => obtain rfl := Option.some.inj hv; exact ((unhide HB1).cell (block_lt_of_cell q0)).trans q0
            | 1, hv => obtain rfl := Option.some.inj hv; exact ((unhide HB1).cell (block_lt_of_cell q1)).trans q1
            | i + 2, hv => simp [exC] at hv)
        change Calls Tryz.prog 208 _ _ _ at hcon
        rw [unhide HANY (unhide HTH)] at hcon
        have HCON := hide hcon
        clear hcon hb1 hd0 hd1 HC0 HC1 HT
        have HZ2 : Hid (chkL n [] l = if (l.take k).any (over e) = true then 7 else chkL n (l.take (k + 1)) (l.drop (k + 1))) := hide (by rw [unhide HZ, if_neg (by rw [unhide HTH]; simp)])
        clear HZ HANY
        generalize (l.take k).any (over e) = r at *
        cases r with
        | true =>
          have HE : Hid (chkL n [] l = 7) := hide (by rw [unhide HZ2, if_pos rfl])
          clear HZ2
          go_wp2_with fail
          refine (unhide HCON).mono ?_
          rintro e' w2 ⟨rfl, hb2⟩
          have HB2 := hide ((unhide HB1).trans (hb2.mono (unhide HB1).size))
          clear hb2
          go_wp2
          go_ret
          exact ⟨by rw [unhide HE]; rfl, unhide HB2⟩
        | false =>
          go_wp2_with fail
          refine (unhide HCON).mono ?_
          rintro e' w2 ⟨rfl, hb2⟩
          have HB2 := hide ((unhide HB1).trans (hb2.mono (unhide HB1).size))
          clear hb2
          go_wp2
          go_roundw
          case rel => exact ⟨k + 1, by omega, by go_num, unhide HB2, by rw [unhide HZ2]; simp, fun x hx => unhide HTK x hx (unhide HTH)⟩
          case measure => simp [intOf]; omega
    · obtain rfl : k = l.length := by omega
      have HE : Hid (chkL n [] l = 0) := hide (by rw [hz, List.drop_eq_nil_of_le (Nat.le_refl _)]; rfl)
      clear hz hgd
      go_wp2
      go_ret
      exact ⟨by rw [unhide HE]; rfl, hbel⟩

theorem check_all (n : Int) (a : Option Addr) (cap : Nat) (l : List (Int × Int)) (w : World) (hl : Exs w a cap l) :
    Calls Tryz.prog 202 #[.int .i64 n, .slice a l.length cap] w fun e w' => e = .returned (errV (chk n l)) ∧ Below w.heap.size w w' := by
  unfold chk
  by_cases h1 : n < 0 ∨ 6400 < n
  · rw [if_pos h1]
    exact (check_big n a l.length cap w h1).mono fun e w' ⟨he, hw⟩ => ⟨he, by rw [← hw]; exact Below.refl _ _⟩
  · rw [if_neg h1]
    by_cases h2 : 200 < l.length
    · rw [if_pos h2]
      exact (check_many n a l.length cap w (by omega) (by omega) h2 hl.2.2.1).mono fun e w' ⟨he, hw⟩ => ⟨he, by rw [← hw]; exact Below.refl _ _⟩
    · rw [if_neg h2]
      exact check_few n a cap l w hl (by omega) (by omega) (by omega)
end Go.Proofs.YtfbloliakmehbaaGreat
