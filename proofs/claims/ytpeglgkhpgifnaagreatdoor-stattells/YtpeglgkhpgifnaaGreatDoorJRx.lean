/-
  Joined by program: RxB; RxC; RxD; RxE. (Parts of the proofs over the packages of the program.)
-/
import Derived.Test.YtpeglgkhpgifnaaGreatDoorJEg
import Derived.Deep.QuietTactic
import Derived.Deep.RegionHeld3
import Derived.RegionTactic
import Derived.ChangeAlike
import Derived.BigRegion
/-! Contracts of the reference: which bytes are taken; the runs between them. (Part of the proofs over package extent.) -/
namespace Go.Proofs.YtpeglgkhpgifnaaGreatDoor
open Go.RowKit Go.Sort Go.Shelf
set_option linter.unusedVariables false

theorem zero_taken : Tryz.zeroCells79 = Array.replicate 6401 (.bool false) := by kernel_rfl
/-- Block g says of each byte whether it is taken. -/
def TkB (w : World) (g : Nat) (tk : Nat → Bool) : Prop := ∃ cs : Array Value, w.heap[g]? = some (.cells cs 79 (0, 0)) ∧ ∀ i, i < 6401 → cs[i]? = some (.bool (tk i))
section
variable {w w' : World} {g : Nat} {tk tk' : Nat → Bool}
theorem TkB.lt (h : TkB w g tk) : g < w.heap.size := by obtain ⟨cs, h1, _⟩ := h; exact (Array.getElem?_eq_some_iff.1 h1).1
theorem TkB.cell (h : TkB w g tk) {i : Nat} (hi : i < 6401) : w.cell? ⟨g, i, none⟩ = some (.bool (tk i)) := by
  obtain ⟨cs, h1, h2⟩ := h
  rw [cell_of_row _ _ _ _ _ _ h1]; exact h2 i hi
theorem TkB.fr (h : TkB w g tk) (i : Nat) : w.frozen? ⟨g, i, none⟩ = false := by obtain ⟨cs, h1, _⟩ := h; exact frozen_of_row w g i _ _ h1
theorem TkB.congr (h : TkB w g tk) (he : ∀ i, i < 6401 → tk i = tk' i) : TkB w g tk' := by
  obtain ⟨cs, h1, h2⟩ := h
  exact ⟨cs, h1, fun i hi => by rw [h2 i hi, he i hi]⟩
theorem TkB.same (h : TkB w g tk) (hb : w'.heap[g]? = w.heap[g]?) : TkB w' g tk := by
  obtain ⟨cs, h1, h2⟩ := h
  exact ⟨cs, hb.trans h1, h2⟩
theorem TkB.set (h : TkB w g tk) (i : Nat) : TkB (w.setCell ⟨g, i, none⟩ (.bool true)) g (fun j => tk j || decide (j = i)) := by
  obtain ⟨cs, h1, h2⟩ := h
  refine ⟨_, heap_setCell_same w g i _ _ (.bool true) h1, fun j hj => ?_⟩
  have hsz : j < cs.size := (Array.getElem?_eq_some_iff.1 (h2 j hj)).1
  by_cases e : i = j
  · subst e
    simp [hsz]
  · rw [Array.getElem?_setIfInBounds_ne e, h2 j hj]
    have : decide (j = i) = false := decide_eq_false (fun h => e h.symm)
    show _ = some (Value.bool (tk j || decide (j = i)))
    rw [this, Bool.or_false]
end
theorem TkB.new (w : World) : TkB (w.alloc (.cells Tryz.zeroCells79 79)) w.heap.size (fun _ => false) :=
  ⟨_, heap_alloc_new w _, fun i hi => by rw [zero_taken]; simp [hi]⟩
/-- Which bytes extents take. -/
def tkL (l : List (Int × Int)) (j : Nat) : Bool := l.any (fun e => decide (e.1 ≤ (j : Int)) && decide ((j : Int) < e.1 + e.2))
theorem tkL_iff {l : List (Int × Int)} {j : Nat} : tkL l j = true ↔ ∃ e ∈ l, e.1 ≤ (j : Int) ∧ (j : Int) < e.1 + e.2 := by
  unfold tkL
  rw [List.any_eq_true]
  simp only [Bool.and_eq_true, decide_eq_true_eq]
theorem tkL_take {l : List (Int × Int)} {k : Nat} (hk : k < l.length) (j : Nat) : tkL (l.take (k + 1)) j = (tkL (l.take k) j || (decide ((l.getD k (0, 0)).1 ≤ (j : Int)) && decide ((j : Int) < (l.getD k (0, 0)).1 + (l.getD k (0, 0)).2))) := by
  have e : l.getD k (0, 0) = l[k] := by simp [List.getD, hk]
  unfold tkL
  rw [List.take_succ_eq_append_getElem hk, List.any_append, e]
  simp
theorem tk_more (t : Bool) (x m j : Nat) : ((t || (decide ((x : Int) ≤ (j : Int)) && decide ((j : Int) < (x : Int) + (m : Int)))) || decide (j = x + m)) = (t || (decide ((x : Int) ≤ (j : Int)) && decide ((j : Int) < (x : Int) + ((m + 1 : Nat) : Int)))) := by
  by_cases h1 : (x : Int) ≤ j
  · by_cases h2 : (j : Int) < x + m
    · rw [decide_eq_true h1, decide_eq_true h2, decide_eq_true (show (j : Int) < x + ((m + 1 : Nat) : Int) by omega)]; simp
    · by_cases h3 : j = x + m
      · rw [decide_eq_true h1, decide_eq_false h2, decide_eq_true h3, decide_eq_true (show (j : Int) < x + ((m + 1 : Nat) : Int) by omega)]; simp
      · rw [decide_eq_true h1, decide_eq_false h2, decide_eq_false h3, decide_eq_false (show ¬ (j : Int) < x + ((m + 1 : Nat) : Int) by omega)]; simp
  · rw [decide_eq_false h1, decide_eq_false (show ¬ j = x + m by omega)]; simp

/-- Runs byte by byte are there. -/
theorem holes_bd {tk : Nat → Bool} : ∀ i, (∀ x ∈ holesTo tk i, 0 ≤ x.1 ∧ 1 ≤ x.2 ∧ x.1 + x.2 ≤ (i : Int)) ∧ (holesTo tk i).length ≤ i
  | 0 => ⟨fun x hx => (by cases hx), Nat.le_refl _⟩
  | i + 1 => by
    obtain ⟨h1, h2⟩ := holes_bd (tk := tk) i
    show (∀ x ∈ (if tk i = true then holesTo tk i else extH (holesTo tk i) i), _) ∧ (if tk i = true then holesTo tk i else extH (holesTo tk i) i).length ≤ i + 1
    by_cases ht : tk i = true
    · rw [if_pos ht]
      exact ⟨fun x hx => by have := h1 x hx; omega, by omega⟩
    · rw [if_neg ht]
      unfold extH
      cases hl : (holesTo tk i).getLast? with
      | none =>
        refine ⟨fun x hx => ?_, by simp⟩
        rw [List.mem_singleton.1 hx]
        dsimp only; omega
      | some y =>
        have hy := h1 y (List.mem_of_getLast? hl)
        dsimp only
        by_cases he : y.1 + y.2 = i
        · rw [if_pos he]
          refine ⟨fun x hx => ?_, by simp; omega⟩
          rcases List.mem_append.1 hx with hx | hx
          · have := h1 x ((List.dropLast_sublist _).subset hx)
            omega
          · rw [List.mem_singleton.1 hx]
            dsimp only; omega
        · rw [if_neg he]
          refine ⟨fun x hx => ?_, by simp; omega⟩
          rcases List.mem_append.1 hx with hx | hx
          · have := h1 x hx
            omega
          · rw [List.mem_singleton.1 hx]
            dsimp only; omega
theorem extH_nil (i : Nat) : extH [] i = [((i : Int), 1)] := rfl
theorem extH_snoc (o : List (Int × Int)) (x : Int × Int) (i : Nat) : extH (o ++ [x]) i = if x.1 + x.2 = (i : Int) then o ++ [(x.1, x.2 + 1)] else (o ++ [x]) ++ [((i : Int), 1)] := by
  unfold extH
  rw [List.getLast?_concat]
  dsimp only
  rw [List.dropLast_concat]
/-- The last one's length turned. -/
theorem ExO.setLast {w : World} {B g cap : Nat} {o : List (Int × Int)} {x : Int × Int} (h : ExO w B (.slice (some ⟨g, 0, none⟩) (o ++ [x]).length cap) (o ++ [x])) (z : Int) :
    ExO (w.setCell ⟨g, o.length * 2 + 1, none⟩ (.int .i64 z)) B (.slice (some ⟨g, 0, none⟩) (o ++ [x]).length cap) (o ++ [(x.1, z)]) := by
  have h1 := (World.ownsRow.stored h (o.length * 2 + 1) (.int .i64 z)).1
  unfold ExO
  have e1 : (o ++ [(x.1, z)]).length = (o ++ [x]).length := by simp
  rw [e1]
  have e2 : ((o ++ [x]).flatMap exC).set (o.length * 2 + 1) (.int .i64 z) = (o ++ [(x.1, z)]).flatMap exC := by
    rw [List.flatMap_append, List.flatMap_append]
    rw [List.set_append_right _ _ (by rw [flat_length]; omega), flat_length]
    rw [show o.length * 2 + 1 - o.length * 2 = 1 by omega]
    rfl
  rw [e2] at h1
  exact h1
end Go.Proofs.YtpeglgkhpgifnaaGreatDoor
/-! Contracts of the reference: the runs between extents, byte by byte. (Part of the proofs over package extent.) -/
namespace Go.Proofs.YtpeglgkhpgifnaaGreatDoor
open Go.RowKit Go.Sort Go.Shelf
set_option linter.unusedVariables false

set_option maxRecDepth 100000 in
set_option maxHeartbeats 4000000 in
theorem holes_go (n : Nat) (a : Option Addr) (cap : Nat) (l : List (Int × Int)) (w : World) (hl : Exs w a cap l) (hc : chk n l = 0) :
    Calls Tryz.prog 19 #[.int .i64 n, .slice a l.length cap] w fun e w' => ∃ v, e = .returned v ∧ ExO w' w.heap.size v (freeL n l) ∧ Below w.heap.size w w' := by
  obtain ⟨i0, hi0, hz0, hz1, hz2⟩ := info_parts info_ex
  obtain ⟨h0, h1, h2, hg⟩ := chk_zero.1 hc
  have hfree : ∀ tk : Nat → Bool, (∀ i : Nat, i < n → (tk i = true ↔ ∃ e ∈ l, e.1 ≤ i ∧ (i : Int) < e.1 + e.2)) → holesTo tk n = freeL n l := fun tk ht => by rw [freeL_eq hc hg.srtL]; exact hg.srtL.holes hg ht
  have hfr := hfree (tkL l) (fun i hi => tkL_iff)
  have HFR := hide hfr
  have HL := hide hl
  have HG := hide hg
  clear hl hc hg hfree hfr
  go_enter Tryz.func19, Tryz.ntmps19
  go_wp2_with fail
  go_loopw [6] (fun iv wr => ∃ k : Nat, k ≤ l.length ∧ iv = .int .i64 k ∧ TkB wr w.heap.size (tkL (l.take k)) ∧ Below w.heap.size w wr) (fun iv _ => l.length - (intOf iv).toNat)
  case atStart => exact ⟨0, Nat.zero_le _, rfl, TkB.new w, (Below.refl _ _).alloc (Nat.le_refl _) _⟩
  case round =>
    obtain ⟨k, hk, rfl, htk, hbel⟩ := hrel
    by_cases hlt : k < l.length
    · have hne : l ≠ [] := by intro e; rw [e] at hlt; simp at hlt
      obtain ⟨b, off, rfl, hcell⟩ := (unhide HL).2.2.2 hne
      obtain ⟨c00, c10⟩ := hcell k hlt
      have hblt := block_lt_of_cell c00
      dsimp only at hblt
      have hin : l.getD k (0, 0) ∈ l := by
        have : l.getD k (0, 0) = l[k] := by simp [List.getD, hlt]
        rw [this]; exact List.getElem_mem hlt
      obtain ⟨g1, g2, g3⟩ := (unhide HG).all _ hin
      have hst := tkL_take hlt
      generalize l.getD k (0, 0) = e at *
      obtain ⟨x0, y0⟩ := e
      dsimp only at *
      obtain ⟨x, rfl⟩ : ∃ x : Nat, x0 = x := ⟨x0.toNat, by omega⟩
      obtain ⟨y, rfl⟩ : ∃ y : Nat, y0 = y := ⟨y0.toNat, by omega⟩
      have HST := hide hst
      have HC0 := hide c00
      have HC1 := hide c10
      have HTK := hide htk
      have HBEL := hide hbel
      clear hst hcell hne hin htk hbel c00 c10
      go_wp2_with fail
      go_loopw [7] (fun mv ws => ∃ m : Nat, m ≤ y ∧ mv = .int .i64 m ∧ TkB ws w.heap.size (fun j => tkL (l.take k) j || (decide ((x : Int) ≤ (j : Int)) && decide ((j : Int) < (x : Int) + (m : Int)))) ∧ Below w.heap.size w ws) (fun mv _ => y - (intOf mv).toNat)
      case atStart => exact ⟨0, Nat.zero_le _, rfl, (unhide HTK).congr (fun i hi => by by_cases q : (x : Int) ≤ i <;> simp [q] <;> omega), unhide HBEL⟩
      case round =>
        obtain ⟨m, hm, rfl, htm, hbm⟩ := hrel
        have c0 := (hbm.cell (p := ⟨b, off + k * 2, none⟩) hblt).trans (unhide HC0)
        have c1 := (hbm.cell (p := ⟨b, off + k * 2 + 1, none⟩) hblt).trans (unhide HC1)
        by_cases hmy : m < y
        · have d0 := htm.cell (i := x + m) (by omega)
          have f0 := htm.fr (x + m)
          have hset := (htm.set (x + m)).congr (fun i hi => tk_more _ x m i)
          have HSET := hide hset
          have HBM := hide hbm
          clear hset hbm htm
          generalize (tkL (l.take k) (x + m) || (decide ((x : Int) ≤ ((x + m : Nat) : Int)) && decide (((x + m : Nat) : Int) < (x : Int) + (m : Int)))) = old at *
          go_wp2
          go_roundw
          case rel => exact ⟨m + 1, by omega, by go_num, unhide HSET, (unhide HBM).setCell (Nat.le_refl _) _⟩
          case measure => simp [intOf]; omega
        · obtain rfl : m = y := by omega
          have hfin := htm.congr (tk' := tkL (l.take (k + 1))) (fun i hi => (unhide HST i).symm)
          have HFIN := hide hfin
          have HBM := hide hbm
          clear hfin hbm htm
          go_wp2
          go_roundw
          case rel => exact ⟨k + 1, by omega, by go_num, unhide HFIN, unhide HBM⟩
          case measure => simp [intOf]; omega
    · obtain rfl : k = l.length := by omega
      rw [List.take_length] at htk
      have HTK := hide htk
      have HBEL := hide hbel
      clear htk hbel
      have hgt := (unhide HTK).lt
      generalize hwr : wr = w3 at *
      clear hwr
      go_wp2_with fail
      go_loopw [8, 9] (fun ov0 iv ws => ∃ (i : Nat) (ov : Value), ov = ov0 ∧ i ≤ n ∧ iv = .int .i64 i ∧ ExO ws w3.heap.size ov (holesTo (tkL l) i) ∧ Below w3.heap.size w3 ws) (fun _ iv _ => n - (intOf iv).toNat)
      case atStart => exact ⟨0, _, rfl, Nat.zero_le _, rfl, ExO.nil _ _, Below.refl _ _⟩
      case round =>
        obtain ⟨i, ov, hov, hi, rfl, hown, hbi⟩ := hrel
        subst hov
        by_cases hin : i < n
        · have ct := (hbi.cell (p := ⟨w.heap.size, i, none⟩) hgt).trans ((unhide HTK).cell (i := i) (by omega))
          have hstep : holesTo (tkL l) (i + 1) = if tkL l i = true then holesTo (tkL l) i else extH (holesTo (tkL l) i) i := rfl
          obtain ⟨hbd, hbl⟩ := holes_bd (tk := tkL l) i
          cases htk : tkL l i with
          | true =>
            rw [htk] at ct hstep
            have HSTEP : Hid (holesTo (tkL l) (i + 1) = holesTo (tkL l) i) := hide (by rw [hstep, if_pos rfl])
            have HO := hide hown
            have HBI := hide hbi
            clear hown hbi hstep hbd hbl htk
            go_wp2
            go_roundw
            case rel => exact ⟨i + 1, _, rfl, by omega, by go_num, by rw [unhide HSTEP]; exact unhide HO, unhide HBI⟩
            case measure => simp [intOf]; omega
          | false =>
            rw [htk] at ct hstep
            rw [if_neg (by simp)] at hstep
            clear htk
            have hws := hbi.size
            generalize holesTo (tkL l) i = o at *
            rcases List.eq_nil_or_concat o with rfl | ⟨o', x, rfl⟩
            · rw [extH_nil] at hstep
              have hov : ∃ a1 c1, ov = .slice a1 0 c1 := by
                rcases hown.2 with ⟨rfl, _⟩ | ⟨g, cp, cur, rfl, _⟩
                · exact ⟨_, _, rfl⟩
                · exact ⟨_, _, rfl⟩
              obtain ⟨a1, cc1, rfl⟩ := hov
              have HSTEP := hide hstep
              have HO := hide hown
              have HBI := hide hbi
              clear hown hbi hstep hbd hbl
              go_wp2_with fail
              go_quiet (fail)
              have HOq := hide (World.ownsRow.alloc ((unhide HO).below (below_draws (Below.refl _ _) nq)) (.cells #[.int .i64 i, .int .i64 1] 45))
              have HEq := hide (exs_one (ExB.new (wr.drewN nq) i 1) (by unfold InI; dsimp only; omega))
              have HBq := hide (below_draws (unhide HBI) nq)
              go_wp2_with (at_builtin; refine wpList_append_exs rfl _ _ rfl w3.heap.size _ [] rfl (unhide HOq) (some ⟨wr.heap.size, 0, none⟩) 1 [((i : Int), 1)] rfl (unhide HEq) (by simp) (by simp; omega) ?_)
              intro v' w' ho' hb' _
              have HO' : Hid (ExO w' w3.heap.size v' [((i : Int), 1)]) := hide ho'
              have HB' := hide (((unhide HBq).alloc (unhide HBq).size _).trans hb')
              clear ho' hb' HO HOq HEq HBq HBI
              go_wp2
              go_roundw
              case rel => exact ⟨i + 1, _, rfl, by omega, by go_num, by rw [unhide HSTEP]; exact unhide HO', unhide HB'⟩
              case measure => simp [intOf]; omega
            · rw [List.concat_eq_append] at *
              rw [extH_snoc] at hstep
              have hx := hbd x (by simp)
              have hlo : (o' ++ [x]).length = o'.length + 1 := by simp
              have hbl2 : o'.length ≤ 6400 := by rw [hlo] at hbl; omega
              obtain ⟨g, cp, rfl⟩ : ∃ g cp, ov = .slice (some ⟨g, 0, none⟩) (o' ++ [x]).length cp := by
                rcases hown.2 with ⟨_, hh⟩ | ⟨g, cp, cur, rfl, _⟩
                · rw [hlo] at hh; omega
                · exact ⟨_, _, rfl⟩
              obtain ⟨a9, c9, e9, hx9⟩ := hown.exs (fun e he => by have := hbd e he; unfold InI; omega) (by omega)
              simp only [Value.slice.injEq, true_and] at e9
              obtain ⟨rfl, rfl⟩ := e9
              obtain ⟨b9, f9, e9, hc9⟩ := hx9.2.2.2 (by simp)
              simp only [Option.some.injEq, Addr.mk.injEq, and_true] at e9
              obtain ⟨rfl, rfl⟩ := e9
              obtain ⟨q0, q1⟩ := hc9 o'.length (by rw [hlo]; omega)
              have hgx : (o' ++ [x]).getD o'.length (0, 0) = x := by simp [List.getD]
              rw [hgx, Nat.zero_add] at q0 q1
              have hfz : wr.frozen? ⟨g, o'.length * 2 + 1, none⟩ = false := by
                rcases hown.2 with ⟨e, _⟩ | ⟨g', cp', cur, e, _, hcur, _⟩
                · cases e
                · simp only [Value.slice.injEq, Option.some.injEq, Addr.mk.injEq, and_true, true_and] at e
                  obtain ⟨rfl, rfl⟩ := e
                  exact frozen_of_row wr g _ _ _ hcur
              have hgb : w3.heap.size ≤ g := (hown.block g rfl).1
              have HO := hide hown
              have HBI := hide hbi
              have HLO := hide hlo
              clear hbl
              rw [hlo]
              rw [hlo] at HO
              clear hlo
              have hM : ((o'.length + 1 : Nat) : Int) - 1 = (o'.length : Int) := by omega
              obtain ⟨x1, x2⟩ := x
              dsimp only at *
              clear hown hbi hbd hx9 hc9 hgx
              by_cases he : x1 + x2 = (i : Int)
              · rw [if_pos he] at hstep
                have HSTEP := hide hstep
                clear hstep
                generalize hq : o'.length = M at *
                have HQ := hide hq
                clear hq
                go_wp2_with fail
                go_quiet (fail)
                have HBq := hide (below_draws (unhide HBI) nq)
                have HOq : Hid (ExO (wr.drewN nq) w3.heap.size (.slice (some ⟨g, 0, none⟩) (o' ++ [(x1, x2)]).length cp) (o' ++ [(x1, x2)])) := hide (by rw [unhide HLO]; exact (unhide HO).below (below_draws (Below.refl _ _) nq))
                have hset := (unhide HOq).setLast (x2 + 1)
                rw [unhide HLO, unhide HQ] at hset
                have HSET := hide hset
                clear hset HO HOq HBI
                go_wp2
                go_roundw
                case rel => exact ⟨i + 1, _, rfl, by omega, by go_num, by rw [unhide HSTEP]; exact unhide HSET, (unhide HBq).setCell hgb _⟩
                case measure => simp [intOf]; omega
              · rw [if_neg he] at hstep
                have HSTEP := hide hstep
                have de : (x1 + x2 == (i : Int)) = false := by simp [he]
                clear hstep
                generalize hq : o'.length = M at *
                have HQ := hide hq
                clear hq
                go_wp2_with fail
                go_quiet (fail)
                have HOq : Hid (ExO ((wr.drewN nq).alloc (.cells #[.int .i64 i, .int .i64 1] 45)) w3.heap.size (.slice (some ⟨g, 0, none⟩) (M + 1) cp) (o' ++ [(x1, x2)])) := hide (World.ownsRow.alloc ((unhide HO).below (below_draws (Below.refl _ _) nq)) _)
                have HEq := hide (exs_one (ExB.new (wr.drewN nq) i 1) (by unfold InI; dsimp only; omega))
                have HBq := hide (below_draws (unhide HBI) nq)
                go_wp2_with (at_builtin; refine wpList_append_exs rfl _ _ rfl w3.heap.size _ (o' ++ [(x1, x2)]) rfl (unhide HOq) (some ⟨wr.heap.size, 0, none⟩) 1 [((i : Int), 1)] rfl (unhide HEq) (by rw [unhide HLO]; simp; omega) (by simp; omega) ?_)
                intro v' w' ho' hb' _
                have HO' := hide ho'
                have HB' := hide (((unhide HBq).alloc (unhide HBq).size _).trans hb')
                clear ho' hb' HO HOq HEq HBq HBI
                go_wp2
                go_roundw
                case rel => exact ⟨i + 1, _, rfl, by omega, by go_num, by rw [unhide HSTEP, List.append_assoc]; exact unhide HO', unhide HB'⟩
                case measure => simp [intOf]; omega
        · obtain rfl : i = n := by omega
          rw [unhide HFR] at hown
          have HO := hide (hown.base (unhide HBEL).size)
          have HBF := hide ((unhide HBEL).trans (hbi.mono (unhide HBEL).size))
          clear hown hbi
          go_wp2
          go_ret
          exact ⟨_, rfl, unhide HO, unhide HBF⟩
theorem holes_any (n : Int) (a : Option Addr) (cap : Nat) (l : List (Int × Int)) (w : World) (hl : Exs w a cap l) (hc : chk n l = 0) :
    Calls Tryz.prog 19 #[.int .i64 n, .slice a l.length cap] w fun e w' => ∃ v, e = .returned v ∧ ExO w' w.heap.size v (freeL n l) ∧ Below w.heap.size w w' := by
  obtain ⟨N, rfl⟩ : ∃ N : Nat, n = N := ⟨n.toNat, by have := (chk_zero.1 hc).1; omega⟩
  exact holes_go N a cap l w hl hc
end Go.Proofs.YtpeglgkhpgifnaaGreatDoor
/-! Contracts of the reference: where so much has room; how full it is; whether two lists of extents are the same. (Part of the proofs over package extent.) -/
namespace Go.Proofs.YtpeglgkhpgifnaaGreatDoor
open Go.RowKit Go.Sort Go.Shelf
set_option linter.unusedVariables false

theorem fitR_take {size : Int} {h : List (Int × Int)} {k : Nat} (hk : k < h.length) : (h.take (k + 1)).foldl (fitR size) (-1, 0) = fitR size ((h.take k).foldl (fitR size) (-1, 0)) (h.getD k (0, 0)) := by
  have e : h.getD k (0, 0) = h[k] := by simp [List.getD, hk]
  rw [List.take_succ_eq_append_getElem hk, List.foldl_append, e]
  rfl
set_option maxHeartbeats 2000000 in
theorem rfit_any (n : Int) (a : Option Addr) (cap : Nat) (l : List (Int × Int)) (size : Int) (w : World) (hl : Exs w a cap l) (hc : chk n l = 0) :
    Calls Tryz.prog 24 #[.int .i64 n, .slice a l.length cap, .int .i64 size] w fun e w' => e = .returned (.int .i64 ((freeL n l).foldl (fitR size) (-1, 0)).1) ∧ Below w.heap.size w w' := by
  obtain ⟨hsm, hlen⟩ := freeL_small hc
  have h0 := (chk_zero.1 hc).2.1
  have HC := hide (holes_any n a cap l w hl hc)
  generalize freeL n l = fr at *
  generalize hR : (fr.foldl (fitR size) (-1, 0)).1 = RR at *
  have HR := hide hR
  clear hl hc hR
  generalize l.length = N at *
  go_enter Tryz.func24, Tryz.ntmps24
  go_wp2_with fail
  refine (unhide HC).mono ?_
  rintro e w1 ⟨v, rfl, ho, hb1⟩
  obtain ⟨ah, ch, rfl, hx⟩ := ho.exs (fun e he => by have := hsm e he; unfold InI; omega) (by omega)
  have HX := hide hx
  have HB1 := hide hb1
  clear hx ho hb1 hsm HC
  go_wp2_with fail
  go_loop [8, 9, 10] (fun av bv iv => ∃ k : Nat, k ≤ fr.length ∧ iv = .int .i64 k ∧ av = .int .i64 ((fr.take k).foldl (fitR size) (-1, 0)).1 ∧ bv = .int .i64 ((fr.take k).foldl (fitR size) (-1, 0)).2) (fun _ _ iv => fr.length - (intOf iv).toNat)
  case atStart => exact ⟨0, Nat.zero_le _, rfl, rfl, rfl⟩
  case round =>
    obtain ⟨k, hk, rfl, rfl, rfl⟩ := hrel
    by_cases hlt : k < fr.length
    · have hne : fr ≠ [] := by intro e; rw [e] at hlt; simp at hlt
      obtain ⟨b, off, rfl, hcell⟩ := (unhide HX).2.2.2 hne
      obtain ⟨c0, c1⟩ := hcell k hlt
      have hst := fitR_take (size := size) hlt
      generalize fr.getD k (0, 0) = r at *
      generalize (fr.take k).foldl (fitR size) (-1, 0) = best at *
      obtain ⟨x, y⟩ := r
      obtain ⟨b1, b2⟩ := best
      dsimp only at *
      have HST := hide hst
      clear hst hcell hne
      by_cases q1 : size ≤ y
      · by_cases q2 : b1 < 0
        · have HS2 : Hid ((fr.take (k + 1)).foldl (fitR size) (-1, 0) = (x, y)) := hide (by rw [unhide HST]; exact if_pos ⟨q1, .inl q2⟩)
          clear HST
          go_wp2
          go_round
          case rel => exact ⟨k + 1, by omega, by go_num, by rw [unhide HS2], by rw [unhide HS2]⟩
          case measure => simp [intOf]; omega
        · by_cases q3 : y < b2
          · have HS2 : Hid ((fr.take (k + 1)).foldl (fitR size) (-1, 0) = (x, y)) := hide (by rw [unhide HST]; exact if_pos ⟨q1, .inr q3⟩)
            clear HST
            go_wp2
            go_round
            case rel => exact ⟨k + 1, by omega, by go_num, by rw [unhide HS2], by rw [unhide HS2]⟩
            case measure => simp [intOf]; omega
          · have HS2 : Hid ((fr.take (k + 1)).foldl (fitR size) (-1, 0) = (b1, b2)) := hide (by rw [unhide HST]; exact if_neg (fun hh => hh.2.elim q2 q3))
            have d2 : decide (b1 < 0) = false := decide_eq_false q2
            have d3 : decide (y < b2) = false := decide_eq_false q3
            clear HST
            go_wp2
            go_round
            case rel => exact ⟨k + 1, by omega, by go_num, by rw [unhide HS2], by rw [unhide HS2]⟩
            case measure => simp [intOf]; omega
      · have HS2 : Hid ((fr.take (k + 1)).foldl (fitR size) (-1, 0) = (b1, b2)) := hide (by rw [unhide HST]; exact if_neg (fun hh => q1 hh.1))
        have d1 : decide (size ≤ y) = false := decide_eq_false q1
        clear HST
        go_wp2
        go_round
        case rel => exact ⟨k + 1, by omega, by go_num, by rw [unhide HS2], by rw [unhide HS2]⟩
        case measure => simp [intOf]; omega
    · obtain rfl : k = fr.length := by omega
      rw [List.take_length, unhide HR]
      go_wp2
      go_ret
      exact ⟨rfl, unhide HB1⟩

end Go.Proofs.YtpeglgkhpgifnaaGreatDoor
/-! Contracts of the reference: how full it is. (Part of the proofs over package extent.) -/
namespace Go.Proofs.YtpeglgkhpgifnaaGreatDoor
open Go.RowKit Go.Sort Go.Shelf
set_option linter.unusedVariables false

theorem StB.drewN {w : World} {g : Nat} {o u f m r : Int} (h : StB w g o u f m r) (k : Nat) : StB (w.drewN k) g o u f m r := h

set_option maxRecDepth 100000 in
set_option maxHeartbeats 4000000 in
theorem rstat_go (n : Int) (a : Option Addr) (cap : Nat) (l : List (Int × Int)) (w : World) (hl : Exs w a cap l) (hc : chk n l = 0) (F M : Int) (hF : F = lenSum (freeL n l)) (hM : M = mostOf 0 (freeL n l)) :
    Calls Tryz.prog 5 #[.int .i64 n, .slice a l.length cap] w fun e w' => e = .returned (.agg #[.int .i64 l.length, .int .i64 (n - F), .int .i64 F, .int .i64 M, .int .i64 (freeL n l).length]) ∧ Below w.heap.size w w' := by
  obtain ⟨hsm, hlen⟩ := freeL_small hc
  obtain ⟨k0, k1, k2, hg⟩ := chk_zero.1 hc
  have hb0 : Below w.heap.size w (w.alloc (.cells #[.int .i64 0, .int .i64 0, .int .i64 0, .int .i64 0, .int .i64 0] 28)) := (Below.refl _ _).alloc (Nat.le_refl _) _
  have HC := hide (holes_any n a cap l _ (hl.below hb0) hc)
  have hFb := lenSum_bd (l := freeL n l) (fun e he => by have := hsm e he; omega)
  have HS := hide (StB.new w 0 0 0 0 0)
  have HB0 := hide hb0
  have HF := hide hF
  have HM := hide hM
  rw [← hF] at hFb
  have hl3 := hl.2.2.1
  generalize freeL n l = fr at *
  have HSM := hide hsm
  clear hl hc hb0 hF hM hsm hg
  go_enter Tryz.func5, Tryz.ntmps5
  go_wp2_with fail
  refine (unhide HC).mono ?_
  rintro e w1 ⟨v, rfl, ho, hb⟩
  obtain ⟨ah, ch, rfl, hx⟩ := ho.exs (fun e he => by have := unhide HSM e he; unfold InI; omega) (by omega)
  have HX := hide hx
  have hs0 := (unhide HS).below hb (by simp)
  have hlt0 := hs0.lt
  have HS1 := hide hs0
  have HB1 := hide ((unhide HB0).trans (hb.mono (by simp)))
  clear hs0 hb HC HS hx ho HB0
  go_wp2_with fail
  go_loopw [7] (fun cv wr => ∃ k : Nat, k ≤ fr.length ∧ cv = .int .i64 k ∧ StB wr w1.heap.size l.length 0 (lenSum (fr.take k)) (mostOf 0 (fr.take k)) fr.length ∧ Below w1.heap.size w1 wr) (fun cv _ => fr.length - (intOf cv).toNat)
  case atStart => exact ⟨0, Nat.zero_le _, rfl, StB.new _ _ _ _ _ _, (Below.refl _ _).alloc (Nat.le_refl _) _⟩
  case round =>
    obtain ⟨k, hk, rfl, hB, hbel⟩ := hrel
    by_cases hlt : k < fr.length
    · have hne : fr ≠ [] := by intro e; rw [e] at hlt; simp at hlt
      obtain ⟨b, off, rfl, hcell⟩ := (unhide HX).2.2.2 hne
      obtain ⟨c0, c1⟩ := hcell k hlt
      have hbg : b < w1.heap.size := block_lt_of_cell c0
      have hbne : b ≠ w1.heap.size := by omega
      rw [← hbel.cell (block_lt_of_cell c0)] at c0
      rw [← hbel.cell (block_lt_of_cell c1)] at c1
      have hst := lenSum_take hlt
      have hmt := most_take hlt
      have hbd := lenSum_bd (l := fr.take k) (fun e he => by have := unhide HSM e (List.mem_of_mem_take he); omega)
      have hbl : (fr.take k).length ≤ 201 := by simp; omega
      have hin : fr.getD k (0, 0) ∈ fr := by
        have : fr.getD k (0, 0) = fr[k] := by simp [List.getD, hlt]
        rw [this]; exact List.getElem_mem hlt
      have hgk := unhide HSM _ hin
      generalize fr.getD k (0, 0) = r at *
      obtain ⟨d0, d1, d2, d3, d4⟩ := hB.cells
      have f2 := hB.fr 2
      have f3 := hB.fr 3
      have hblt := hB.lt
      have HBW := hide hB
      have HBE := hide hbel
      have HST := hide hst
      generalize hq : lenSum (fr.take k) = q at *
      generalize hq2 : mostOf 0 (fr.take k) = q2 at *
      obtain ⟨x, y⟩ := r
      dsimp only at *
      have HMT := hide hmt
      clear hB hbel hst hcell hne hin hq hq2 hmt
      have hy63 : ¬ (9223372036854775807 : Int) < q + y := by omega
      have hkl : (k : Int) < (fr.length : Int) := by omega
      go_wp2_with fail
      go_region
      have hs2 : StB ((wr.setCell ⟨w1.heap.size, 2, none⟩ (.int .i64 (q + y))).drew) w1.heap.size l.length 0 (q + y) q2 fr.length := (unhide HBW).setF _
      have hb2 : Below w1.heap.size w1 ((wr.setCell ⟨w1.heap.size, 2, none⟩ (.int .i64 (q + y))).drew) := ((unhide HBE).setCell (Nat.le_refl _) _).drew
      have c1' : ((wr.setCell ⟨w1.heap.size, 2, none⟩ (.int .i64 (q + y))).drew).cell? ⟨b, off + k * 2 + 1, none⟩ = some (.int .i64 y) := by
        rw [← c1]
        exact World.cell?_of_block (a := ⟨b, off + k * 2 + 1, none⟩) (heap_setCell_other _ _ _ _ hbne)
      clear d0 d1 d2 d3 d4 f2 f3 c0 c1 HBW HBE hblt
      generalize (wr.setCell ⟨w1.heap.size, 2, none⟩ (.int .i64 (q + y))).drew = ws at *
      obtain ⟨d0, d1, d2, d3, d4⟩ := hs2.cells
      have f3 := hs2.fr 3
      have hblt := hs2.lt
      have HBW := hide hs2
      have HBE := hide hb2
      clear hs2 hb2
      by_cases hxy : q2 < y
      · have HM2 : Hid (max q2 y = y) := hide (by omega)
        go_wp2_with fail
        go_quiet (fail)
        go_wp2
        go_roundw
        case rel => exact ⟨k + 1, by omega, by go_num, by rw [unhide HST, unhide HMT, unhide HM2]; exact ((unhide HBW).drewN nq).setM _, (below_draws (unhide HBE) nq).setCell (Nat.le_refl _) _⟩
        case measure => simp [intOf]; omega
      · have HM2 : Hid (max q2 y = q2) := hide (by omega)
        have dxy : decide (q2 < y) = false := decide_eq_false hxy
        go_wp2_with fail
        go_quiet (fail)
        go_wp2
        go_roundw
        case rel => exact ⟨k + 1, by omega, by go_num, by rw [unhide HST, unhide HMT, unhide HM2]; exact (unhide HBW).drewN nq, below_draws (unhide HBE) nq⟩
        case measure => simp [intOf]; omega
    · obtain rfl : k = fr.length := by omega
      rw [List.take_length, ← unhide HF, ← unhide HM] at hB
      obtain ⟨d0, d1, d2, d3, d4⟩ := hB.cells
      have g1 := hB.fr 1
      have hs := (unhide HS1).below hbel hlt0
      obtain ⟨e0, e1, e2, e3, e4⟩ := hs.cells
      have f0 := hs.fr 0
      have f1 := hs.fr 1
      have f2 := hs.fr 2
      have f3 := hs.fr 3
      have f4 := hs.fr 4
      have hne : w.heap.size ≠ w1.heap.size := by omega
      have HSF : Hid (StB (wr.setCell ⟨w1.heap.size, 1, none⟩ (.int .i64 (n - F))) w.heap.size 0 0 0 0 0) := hide ((heap_setCell_other _ _ _ _ hne).trans hs)
      have HBF := hide (((unhide HB1).trans (hbel.mono (unhide HB1).size)).setCell (p := ⟨w1.heap.size, 1, none⟩) (unhide HB1).size (.int .i64 (n - F)))
      clear hB hbel hs
      go_wp2
      refine bodyPost_ret (results_cell_row rfl _ _ w.heap.size 28 _ (0, 0) _ rfl ((unhide HSF).setAll l.length (n - F) F M fr.length) Tryz.underlying28 rfl (by rw [size_stat]; rfl)) rfl ?_
      exact ⟨rfl, (((((unhide HBF).setCell (Nat.le_refl _) _).setCell (Nat.le_refl _) _).setCell (Nat.le_refl _) _).setCell (Nat.le_refl _) _).setCell (Nat.le_refl _) _⟩

theorem rstat_any (n : Int) (a : Option Addr) (cap : Nat) (l : List (Int × Int)) (w : World) (hl : Exs w a cap l) (hc : chk n l = 0) (O U F M R : Int) (h : stT n l = (O, U, F, M, R)) :
    Calls Tryz.prog 5 #[.int .i64 n, .slice a l.length cap] w fun e w' => e = .returned (.agg #[.int .i64 O, .int .i64 U, .int .i64 F, .int .i64 M, .int .i64 R]) ∧ Below w.heap.size w w' := by
  obtain ⟨rfl, _, h3, _, _, _, _, h8, rfl⟩ := stat_spec hc h
  have hF : F = lenSum (freeL n l) := by
    unfold stT at h
    rw [if_pos hc] at h
    simp only [Prod.mk.injEq] at h
    exact h.2.2.1.symm
  have hU : U = n - F := by omega
  rw [hU]
  exact rstat_go n a cap l w hl hc F M hF h8
end Go.Proofs.YtpeglgkhpgifnaaGreatDoor
