/-
  Contracts of the reference: the runs between extents, byte by byte. (Part of the proofs over package extent.)
-/
import Derived.Test.YtjipnjmnkfjmhaaDoorRxB
namespace Go.Proofs.YtjipnjmnkfjmhaaDoor
open Go.RowKit Go.Sort Go.Shelf
set_option linter.unusedVariables false

set_option maxRecDepth 100000 in
set_option maxHeartbeats 4000000 in
theorem holes_go (n : Nat) (a : Option Addr) (cap : Nat) (l : List (Int × Int)) (w : World) (hl : Exs w a cap l) (hc : chk n l = 0) :
    Calls Tryd.prog 7 #[.int .i64 n, .slice a l.length cap] w fun e w' => ∃ v, e = .returned v ∧ ExO w' w.heap.size v (freeL n l) ∧ Below w.heap.size w w' := by
  obtain ⟨i0, hi0, hz0, hz1, hz2⟩ := info_parts info_ex
  obtain ⟨h0, h1, h2, hg⟩ := chk_zero.1 hc
  have hfree : ∀ tk : Nat → Bool, (∀ i : Nat, i < n → (tk i = true ↔ ∃ e ∈ l, e.1 ≤ i ∧ (i : Int) < e.1 + e.2)) → holesTo tk n = freeL n l := fun tk ht => by rw [freeL_eq hc hg.srtL]; exact hg.srtL.holes hg ht
  have hfr := hfree (tkL l) (fun i hi => tkL_iff)
  have HFR := hide hfr
  have HL := hide hl
  have HG := hide hg
  clear hl hc hg hfree hfr
  go_enter Tryd.func7, Tryd.ntmps7
  go_wp2_with fail
  go_loopw [6] (fun iv wr => ∃ k : Nat, k ≤ l.length ∧ iv = .int .i64 k ∧ TkB wr w.heap.size (tkL (l.take k)) ∧ Below w.heap.size w wr) (fun iv _ => l.length - (intOf iv).toNat)
  case atStart => exact ⟨0, Nat.zero_le _, rfl, TkB.new w, (Below.refl _ _).alloc (Nat.le_refl _) _⟩
  case round =>
    obtain ⟨k, hk, rfl, htk, hbel⟩ := hrel
    by_cases hlt : k < l.length
    · have hne : l ≠ [] := by intro e; rw [e] at hlt; simp at hlt
      obtain ⟨b, off, rfl, hcell⟩ := (unhide HL).2.2.2 hne
      obtain ⟨c00, c10⟩ := hcell k hlt
      have hblt := block_lt_of_cell c00
      dsimp only at hblt
      have hin : l.getD k (0, 0) ∈ l := by
        have : l.getD k (0, 0) = l[k] := by simp [List.getD, hlt]
        rw [this]; exact List.getElem_mem hlt
      obtain ⟨g1, g2, g3⟩ := (unhide HG).all _ hin
      have hst := tkL_take hlt
      generalize l.getD k (0, 0) = e at *
      obtain ⟨x0, y0⟩ := e
      dsimp only at *
      obtain ⟨x, rfl⟩ : ∃ x : Nat, x0 = x := ⟨x0.toNat, by omega⟩
      obtain ⟨y, rfl⟩ : ∃ y : Nat, y0 = y := ⟨y0.toNat, by omega⟩
      have HST := hide hst
      have HC0 := hide c00
      have HC1 := hide c10
      have HTK := hide htk
      have HBEL := hide hbel
      clear hst hcell hne hin htk hbel c00 c10
      go_wp2_with fail
      go_loopw [7] (fun mv ws => ∃ m : Nat, m ≤ y ∧ mv = .int .i64 m ∧ TkB ws w.heap.size (fun j => tkL (l.take k) j || (decide ((x : Int) ≤ (j : Int)) && decide ((j : Int) < (x : Int) + (m : Int)))) ∧ Below w.heap.size w ws) (fun mv _ => y - (intOf mv).toNat)
      case atStart => exact ⟨0, Nat.zero_le _, rfl, (unhide HTK).congr (fun i hi => by by_cases q : (x : Int) ≤ i <;> simp [q] <;> omega), unhide HBEL⟩
      case round =>
        obtain ⟨m, hm, rfl, htm, hbm⟩ := hrel
        have c0 := (hbm.cell (p := ⟨b, off + k * 2, none⟩) hblt).trans (unhide HC0)
        have c1 := (hbm.cell (p := ⟨b, off + k * 2 + 1, none⟩) hblt).trans (unhide HC1)
        by_cases hmy : m < y
        · have d0 := htm.cell (i := x + m) (by omega)
          have f0 := htm.fr (x + m)
          have hset := (htm.set (x + m)).congr (fun i hi => tk_more _ x m i)
          have HSET := hide hset
          have HBM := hide hbm
          clear hset hbm htm
          generalize (tkL (l.take k) (x + m) || (decide ((x : Int) ≤ ((x + m : Nat) : Int)) && decide (((x + m : Nat) : Int) < (x : Int) + (m : Int)))) = old at *
          go_wp2
          go_roundw
          case rel => exact ⟨m + 1, by omega, by go_num, unhide HSET, (unhide HBM).setCell (Nat.le_refl _) _⟩
          case measure => simp [intOf]; omega
        · obtain rfl : m = y := by omega
          have hfin := htm.congr (tk' := tkL (l.take (k + 1))) (fun i hi => (unhide HST i).symm)
          have HFIN := hide hfin
          have HBM := hide hbm
          clear hfin hbm htm
          go_wp2
          go_roundw
          case rel => exact ⟨k + 1, by omega, by go_num, unhide HFIN, unhide HBM⟩
          case measure => simp [intOf]; omega
    · obtain rfl : k = l.length := by omega
      rw [List.take_length] at htk
      have HTK := hide htk
      have HBEL := hide hbel
      clear htk hbel
      have hgt := (unhide HTK).lt
      generalize hwr : wr = w3 at *
      clear hwr
      go_wp2_with fail
      go_loopw [8, 9] (fun ov0 iv ws => ∃ (i : Nat) (ov : Value), ov = ov0 ∧ i ≤ n ∧ iv = .int .i64 i ∧ ExO ws w3.heap.size ov (holesTo (tkL l) i) ∧ Below w3.heap.size w3 ws) (fun _ iv _ => n - (intOf iv).toNat)
      case atStart => exact ⟨0, _, rfl, Nat.zero_le _, rfl, ExO.nil _ _, Below.refl _ _⟩
      case round =>
        obtain ⟨i, ov, hov, hi, rfl, hown, hbi⟩ := hrel
        subst hov
        by_cases hin : i < n
        · have ct := (hbi.cell (p := ⟨w.heap.size, i, none⟩) hgt).trans ((unhide HTK).cell (i := i) (by omega))
          have hstep : holesTo (tkL l) (i + 1) = if tkL l i = true then holesTo (tkL l) i else extH (holesTo (tkL l) i) i := rfl
          obtain ⟨hbd, hbl⟩ := holes_bd (tk := tkL l) i
          cases htk : tkL l i with
          | true =>
            rw [htk] at ct hstep
            have HSTEP : Hid (holesTo (tkL l) (i + 1) = holesTo (tkL l) i) := hide (by rw [hstep, if_pos rfl])
            have HO := hide hown
            have HBI := hide hbi
            clear hown hbi hstep hbd hbl htk
            go_wp2
            go_roundw
            case rel => exact ⟨i + 1, _, rfl, by omega, by go_num, by rw [unhide HSTEP]; exact unhide HO, unhide HBI⟩
            case measure => simp [intOf]; omega
          | false =>
            rw [htk] at ct hstep
            rw [if_neg (by simp)] at hstep
            clear htk
            have hws := hbi.size
            generalize holesTo (tkL l) i = o at *
            rcases List.eq_nil_or_concat o with rfl | ⟨o', x, rfl⟩
            · rw [extH_nil] at hstep
              have hov : ∃ a1 c1, ov = .slice a1 0 c1 := by
                rcases hown.2 with ⟨rfl, _⟩ | ⟨g, cp, cur, rfl, _⟩
                · exact ⟨_, _, rfl⟩
                · exact ⟨_, _, rfl⟩
              obtain ⟨a1, cc1, rfl⟩ := hov
              have HSTEP := hide hstep
              have HO := hide hown
              have HBI := hide hbi
              clear hown hbi hstep hbd hbl
              go_wp2_with fail
              go_quiet (fail)
              have HOq := hide (World.ownsRow.alloc ((unhide HO).below (below_draws (Below.refl _ _) nq)) (.cells #[.int .i64 i, .int .i64 1] 42))
              have HEq := hide (exs_one (ExB.new (wr.drewN nq) i 1) (by unfold InI; dsimp only; omega))
              have HBq := hide (below_draws (unhide HBI) nq)
              go_wp2_with (at_builtin; refine wpList_append_exs rfl _ _ rfl w3.heap.size _ [] rfl (unhide HOq) (some ⟨wr.heap.size, 0, none⟩) 1 [((i : Int), 1)] rfl (unhide HEq) (by simp) (by simp; omega) ?_)
              intro v' w' ho' hb' _
              have HO' : Hid (ExO w' w3.heap.size v' [((i : Int), 1)]) := hide ho'
              have HB' := hide (((unhide HBq).alloc (unhide HBq).size _).trans hb')
              clear ho' hb' HO HOq HEq HBq HBI
              go_wp2
              go_roundw
              case rel => exact ⟨i + 1, _, rfl, by omega, by go_num, by rw [unhide HSTEP]; exact unhide HO', unhide HB'⟩
              case measure => simp [intOf]; omega
            · rw [List.concat_eq_append] at *
              rw [extH_snoc] at hstep
              have hx := hbd x (by simp)
              have hlo : (o' ++ [x]).length = o'.length + 1 := by simp
              have hbl2 : o'.length ≤ 6400 := by rw [hlo] at hbl; omega
              obtain ⟨g, cp, rfl⟩ : ∃ g cp, ov = .slice (some ⟨g, 0, none⟩) (o' ++ [x]).length cp := by
                rcases hown.2 with ⟨_, hh⟩ | ⟨g, cp, cur, rfl, _⟩
                · rw [hlo] at hh; omega
                · exact ⟨_, _, rfl⟩
              obtain ⟨a9, c9, e9, hx9⟩ := hown.exs (fun e he => by have := hbd e he; unfold InI; omega) (by omega)
              simp only [Value.slice.injEq, true_and] at e9
              obtain ⟨rfl, rfl⟩ := e9
              obtain ⟨b9, f9, e9, hc9⟩ := hx9.2.2.2 (by simp)
              simp only [Option.some.injEq, Addr.mk.injEq, and_true] at e9
              obtain ⟨rfl, rfl⟩ := e9
              obtain ⟨q0, q1⟩ := hc9 o'.length (by rw [hlo]; omega)
              have hgx : (o' ++ [x]).getD o'.length (0, 0) = x := by simp [List.getD]
              rw [hgx, Nat.zero_add] at q0 q1
              have hfz : wr.frozen? ⟨g, o'.length * 2 + 1, none⟩ = false := by
                rcases hown.2 with ⟨e, _⟩ | ⟨g', cp', cur, e, _, hcur, _⟩
                · cases e
                · simp only [Value.slice.injEq, Option.some.injEq, Addr.mk.injEq, and_true, true_and] at e
                  obtain ⟨rfl, rfl⟩ := e
                  exact frozen_of_row wr g _ _ _ hcur
              have hgb : w3.heap.size ≤ g := (hown.block g rfl).1
              have HO := hide hown
              have HBI := hide hbi
              have HLO := hide hlo
              clear hbl
              rw [hlo]
              rw [hlo] at HO
              clear hlo
              have hM : ((o'.length + 1 : Nat) : Int) - 1 = (o'.length : Int) := by omega
              obtain ⟨x1, x2⟩ := x
              dsimp only at *
              clear hown hbi hbd hx9 hc9 hgx
              by_cases he : x1 + x2 = (i : Int)
              · rw [if_pos he] at hstep
                have HSTEP := hide hstep
                clear hstep
                generalize hq : o'.length = M at *
                have HQ := hide hq
                clear hq
                go_wp2_with fail
                go_quiet (fail)
                have HBq := hide (below_draws (unhide HBI) nq)
                have HOq : Hid (ExO (wr.drewN nq) w3.heap.size (.slice (some ⟨g, 0, none⟩) (o' ++ [(x1, x2)]).length cp) (o' ++ [(x1, x2)])) := hide (by rw [unhide HLO]; exact (unhide HO).below (below_draws (Below.refl _ _) nq))
                have hset := (unhide HOq).setLast (x2 + 1)
                rw [unhide HLO, unhide HQ] at hset
                have HSET := hide hset
                clear hset HO HOq HBI
                go_wp2
                go_roundw
                case rel => exact ⟨i + 1, _, rfl, by omega, by go_num, by rw [unhide HSTEP]; exact unhide HSET, (unhide HBq).setCell hgb _⟩
                case measure => simp [intOf]; omega
              · rw [if_neg he] at hstep
                have HSTEP := hide hstep
                have de : (x1 + x2 == (i : Int)) = false := by simp [he]
                clear hstep
                generalize hq : o'.length = M at *
                have HQ := hide hq
                clear hq
                go_wp2_with fail
                go_quiet (fail)
                have HOq : Hid (ExO ((wr.drewN nq).alloc (.cells #[.int .i64 i, .int .i64 1] 42)) w3.heap.size (.slice (some ⟨g, 0, none⟩) (M + 1) cp) (o' ++ [(x1, x2)])) := hide (World.ownsRow.alloc ((unhide HO).below (below_draws (Below.refl _ _) nq)) _)
                have HEq := hide (exs_one (ExB.new (wr.drewN nq) i 1) (by unfold InI; dsimp only; omega))
                have HBq := hide (below_draws (unhide HBI) nq)
                go_wp2_with (at_builtin; refine wpList_append_exs rfl _ _ rfl w3.heap.size _ (o' ++ [(x1, x2)]) rfl (unhide HOq) (some ⟨wr.heap.size, 0, none⟩) 1 [((i : Int), 1)] rfl (unhide HEq) (by rw [unhide HLO]; simp; omega) (by simp; omega) ?_)
                intro v' w' ho' hb' _
                have HO' := hide ho'
                have HB' := hide (((unhide HBq).alloc (unhide HBq).size _).trans hb')
                clear ho' hb' HO HOq HEq HBq HBI
                go_wp2
                go_roundw
                case rel => exact ⟨i + 1, _, rfl, by omega, by go_num, by rw [unhide HSTEP, List.append_assoc]; exact unhide HO', unhide HB'⟩
                case measure => simp [intOf]; omega
        · obtain rfl : i = n := by omega
          rw [unhide HFR] at hown
          have HO := hide (hown.base (unhide HBEL).size)
          have HBF := hide ((unhide HBEL).trans (hbi.mono (unhide HBEL).size))
          clear hown hbi
          go_wp2
          go_ret
          exact ⟨_, rfl, unhide HO, unhide HBF⟩
theorem holes_any (n : Int) (a : Option Addr) (cap : Nat) (l : List (Int × Int)) (w : World) (hl : Exs w a cap l) (hc : chk n l = 0) :
    Calls Tryd.prog 7 #[.int .i64 n, .slice a l.length cap] w fun e w' => ∃ v, e = .returned v ∧ ExO w' w.heap.size v (freeL n l) ∧ Below w.heap.size w w' := by
  obtain ⟨N, rfl⟩ : ∃ N : Nat, n = N := ⟨n.toNat, by have := (chk_zero.1 hc).1; omega⟩
  exact holes_go N a cap l w hl hc
end Go.Proofs.YtjipnjmnkfjmhaaDoor
