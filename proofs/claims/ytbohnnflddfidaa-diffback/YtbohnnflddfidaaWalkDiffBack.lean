/-
  The walk of the law DiffBack. (Part of the proof of DiffBack.)
-/
import Derived.Test.YtbohnnflddfidaaDbPlain
import Derived.Test.YtbohnnflddfidaaStrEq
namespace Go.Proofs.Ytbohnnflddfidaa
open Go.RowKit
set_option linter.unusedVariables false

/-- A slice of three bytes that stands in the text. -/
theorem three_bs (w : World) (x y z : Int) (h : Byt [x, y, z]) : Bs (w.alloc (.cells #[.int .u8 x, .int .u8 y, .int .u8 z] 5)) (some ⟨w.heap.size, 0, none⟩) 3 [x, y, z] :=
  (show Blk (w.alloc (.cells #[.int .u8 x, .int .u8 y, .int .u8 z] 5)) w.heap.size [x, y, z] from heap_alloc_new w _).bs h (by show (3 : Nat) ≤ _; decide)

set_option maxRecDepth 100000 in
set_option maxHeartbeats 4000000 in
theorem walkDiffBack (a : Option Addr) (ca : Nat) (A : List Int) (b : Option Addr) (cb : Nat) (B : List Int) (w : World) (hA : Bs w a ca A) (hB : Bs w b cb B) :
    Calls Try.prog 3 #[.slice a A.length ca, .slice b B.length cb] w fun e w' => e = .returned (.bool true) ∧ Below w.heap.size w w' := by
  have hAl := hA.2.2.1
  have hBl := hB.2.2.1
  obtain ⟨w0, hw0⟩ : ∃ w0, w0 = (w.alloc (.cells #[.int .u8 1, .int .u8 2, .int .u8 3] 5)).alloc (.cells #[.int .u8 1, .int .u8 5, .int .u8 6] 5) := ⟨_, rfl⟩
  have hB0 : Below w.heap.size w w0 := by rw [hw0]; exact ((Below.refl _ _).alloc (Nat.le_refl _) _).alloc (by simp) _
  have hx1 : Bs w0 (some ⟨w.heap.size, 0, none⟩) 3 [1, 2, 3] := by
    rw [hw0]
    exact (three_bs w 1 2 3 (by intro z hz; simp at hz; omega)).below ((Below.refl _ _).alloc (Nat.le_refl _) _)
  have hx2 : Bs w0 (some ⟨w.heap.size + 1, 0, none⟩) 3 [1, 5, 6] := by
    rw [hw0]
    have := three_bs (w.alloc (.cells #[.int .u8 1, .int .u8 2, .int .u8 3] 5)) 1 5 6 (by intro z hz; simp at hz; omega)
    rw [sz_alloc] at this
    exact this
  have HD0 : Hid (Calls Try.prog 6 #[.slice (some ⟨w.heap.size, 0, none⟩) 3 3, .slice (some ⟨w.heap.size + 1, 0, none⟩) 3 3] w0 fun e w' => ∃ va vc, e = .returned (.tuple #[.slice va 1 vc, .nilIface]) ∧ Chs w' va vc [(1, [2, 3], [5, 6])] ∧ Below w0.heap.size w0 w') := hide (by
    have := diff_chs (some ⟨w.heap.size, 0, none⟩) (some ⟨w.heap.size + 1, 0, none⟩) 3 3 [1, 2, 3] [1, 5, 6] w0 hx1 hx2
    rw [db_fact.1, db_fact.2, errV_zero] at this
    exact this)
  have HD := hide (fun (w' : World) (h : Below w.heap.size w w') => diff_chs a b ca cb A B w' (hA.below h) (hB.below h))
  have HZ := hide (fun (h : dfE A B = 0) => dfE_zero h)
  have HE := hide (fun (h : dfE A B ≠ 0) => dfE_bad h)
  have f1 := dfO_few A B
  have HA := hide hA
  have HB := hide hB
  have HB0 := hide hB0
  clear hA hB hx1 hx2 hB0
  generalize dfE A B = E1 at *
  generalize hL1 : dfO A B = L1 at *
  clear hL1
  generalize hNA : A.length = NA at *
  generalize hNB : B.length = NB at *
  have HNA := hide hNA
  have HNB := hide hNB
  clear hNA hNB
  go_enter Try.func3, Try.ntmps3
  go_wp2_with fail
  rw [← hw0]
  clear hw0
  refine (unhide HD0).mono ?_
  rintro e w1 ⟨v1, k1, rfl, hc1, hb1⟩
  obtain ⟨g, off, s1, d1, s2, d2, rfl, q0, q1, q2, _, _⟩ := hc1.at (i := 0) (by simp)
  simp only [List.getD, List.getElem?_cons_zero, Option.getD_some, List.length_cons, List.length_nil, Nat.zero_mul, Nat.add_zero] at q0 q1 q2
  have hbw1 := (unhide HB0).trans (hb1.mono (unhide HB0).size)
  have HDW := hide (unhide HD w1 hbw1)
  have HB1 := hide hbw1
  clear hc1 hb1 hbw1 HD0 HD HB0
  go_wp2_with fail
  refine (unhide HDW).mono ?_
  rintro e w2 ⟨v2, k2, rfl, hc2, hb2⟩
  have HC2 := hide hc2
  have HB2 := hide ((unhide HB1).trans (hb2.mono (unhide HB1).size))
  clear hc2 hb2 HB1 HDW q0 q1 q2
  by_cases h1 : E1 = 0
  · rw [h1, errV_zero]
    obtain ⟨hab, h64, rfl⟩ := unhide HZ h1
    subst hab
    clear HZ HE h1
    have hNA := unhide HNA
    have hNB := unhide HNB
    have HAT := hide (fun (i : Nat) (hi : i < (dfK A B NA).length) => (by have := db_at (A := A) (B := B) (by rw [hNA, hNB]) (by rw [hNA]; exact h64) (i := i) (by rw [hNA]; exact hi); rw [hNA] at this; exact this : _))
    have HGP := hide (fun (i : Nat) (hi : i + 1 < (dfK A B NA).length) => (by have := db_gap (A := A) (B := B) (by rw [hNA, hNB]) (i := i) (by rw [hNA]; exact hi); rw [hNA] at this; exact this : _))
    have HJ1 := hide (fun (hn : (dfK A B NA).length ≤ 200) => (by have := dj_one (A := A) (C := B) (by rw [hNA, hNB]) (by rw [hNA]; exact hn); rw [hNA] at this; exact this : apF A (dfK A B NA) = 0 ∧ apR A (dfK A B NA) = B))
    have HJ2 := hide (fun (hn : (dfK A B NA).length ≤ 200) => (by have := db_turn (A := A) (B := B) (by rw [hNA, hNB]) (by rw [hNA]; exact hn); rw [hNA] at this; exact this : apF B (turnL (dfK A B NA)) = 0 ∧ apR B (turnL (dfK A B NA)) = A))
    generalize dfK A B NA = D at *
    have hDl : D.length ≤ 6400 := f1
    go_wp2_with fail
    go_loopw [9] (fun iv wr => ∃ i q : Nat, i ≤ D.length ∧ iv = .int .i64 i ∧ wr = w2.drewN q) (fun iv _ => D.length - (intOf iv).toNat)
    case atStart => exact ⟨0, 0, Nat.zero_le _, rfl, rfl⟩
    case round =>
      obtain ⟨i, q, hi, rfl, rfl⟩ := hrel
      by_cases hlt : i < D.length
      · obtain ⟨e1, e2, e3, e4, e5⟩ := unhide HAT i hlt
        obtain ⟨bb, off2, p1, y1, p2, y2, rfl, q0, q1, q2, hO, hN⟩ := (unhide HC2).at hlt
        have HNE := hide e5
        have HLN := hide e2
        have HO := hide hO
        have HN := hide hN
        rw [e2] at q2
        clear e2 e5 hO hN
        cases i with
        | zero =>
          clear HGP
          rw [Nat.zero_mul] at q0 q1 q2
          generalize hOO : (D.getD 0 (0, [], [])).2.1 = O at *
          generalize hNN : (D.getD 0 (0, [], [])).2.2 = N at *
          generalize (D.getD 0 (0, [], [])).1 = X at *
          have hOl := (unhide HO).2.2.1
          have u1 : decide ((O.length : Int) < 1) = false := decide_eq_false (by omega)
          go_wp2_with fail
          go_quiet (fail)
          go_wp2_with fail
          go_loopw [10] (fun kv wr => ∃ k q' : Nat, k ≤ O.length ∧ kv = .int .i64 k ∧ wr = w2.drewN q') (fun kv _ => O.length - (intOf kv).toNat)
          case atStart => exact ⟨0, q + nq, Nat.zero_le _, rfl, by first | rfl | rw [World.drewN_drewN]⟩
          case round =>
            obtain ⟨k, q', hk, rfl, rfl⟩ := hrel
            by_cases hkl : k < O.length
            · obtain ⟨o1, o2, rfl, z1⟩ := (unhide HO).at k hkl
              obtain ⟨m1, m2, rfl, z2⟩ := (unhide HN).at k (by rw [unhide HLN]; exact hkl)
              have hne := unhide HNE k hkl
              generalize O.getD k 0 = ox at z1 hne
              generalize N.getD k 0 = ny at z2 hne
              go_wp2_with fail
              go_quiet (fail)
              go_wp2
              go_roundw
              case rel => exact ⟨k + 1, q' + nq, by omega, by go_num, by first | rfl | rw [World.drewN_drewN]⟩
              case measure => simp [intOf]; omega
            · obtain rfl : k = O.length := by omega
              go_wp2
              go_roundw
              case rel => exact ⟨0 + 1, q', by omega, by go_num, rfl⟩
              case measure => simp [intOf]; omega
        | succ j =>
          have hgap := unhide HGP j hlt
          obtain ⟨bb', off2', p1', y1', p2', y2', eab, r0, r1, r2, _, _⟩ := (unhide HC2).at (show j < D.length by omega)
          simp only [Option.some.injEq, Addr.mk.injEq, and_true] at eab
          obtain ⟨rfl, rfl⟩ := eab
          have g3 := (unhide HAT j (by omega)).2.2.1
          have g4 := (unhide HAT j (by omega)).2.2.2.1
          generalize hOO : (D.getD (j + 1) (0, [], [])).2.1 = O at *
          generalize hNN : (D.getD (j + 1) (0, [], [])).2.2 = N at *
          generalize (D.getD (j + 1) (0, [], [])).1 = X at *
          generalize (D.getD j (0, [], [])).2.1.length = n' at *
          generalize (D.getD j (0, [], [])).1 = X' at *
          clear r2
          have hOl := (unhide HO).2.2.1
          have u1 : decide ((O.length : Int) < 1) = false := decide_eq_false (by omega)
          have u2 : decide ((0 : Int) < (j : Int) + 1) = true := decide_eq_true (by omega)
          have u3 : decide (X ≤ X' + (n' : Int)) = false := decide_eq_false (by omega)
          go_wp2_with fail
          go_quiet (fail)
          go_wp2_with fail
          go_loopw [10] (fun kv wr => ∃ k q' : Nat, k ≤ O.length ∧ kv = .int .i64 k ∧ wr = w2.drewN q') (fun kv _ => O.length - (intOf kv).toNat)
          case atStart => exact ⟨0, q + nq, Nat.zero_le _, rfl, by first | rfl | rw [World.drewN_drewN]⟩
          case round =>
            obtain ⟨k, q', hk, rfl, rfl⟩ := hrel
            by_cases hkl : k < O.length
            · obtain ⟨o1, o2, rfl, z1⟩ := (unhide HO).at k hkl
              obtain ⟨m1, m2, rfl, z2⟩ := (unhide HN).at k (by rw [unhide HLN]; exact hkl)
              have hne := unhide HNE k hkl
              generalize O.getD k 0 = ox at z1 hne
              generalize N.getD k 0 = ny at z2 hne
              go_wp2_with fail
              go_quiet (fail)
              go_wp2
              go_roundw
              case rel => exact ⟨k + 1, q' + nq, by omega, by go_num, by first | rfl | rw [World.drewN_drewN]⟩
              case measure => simp [intOf]; omega
            · obtain rfl : k = O.length := by omega
              go_wp2
              go_roundw
              case rel => exact ⟨j + 1 + 1, q', by omega, by go_num, rfl⟩
              case measure => simp [intOf]; omega
      · obtain rfl : i = D.length := by omega
        have HC3 := hide ((unhide HC2).below (below_drewN (Below.refl _ w2) q))
        have HB3 := hide (below_drewN (unhide HB2) q)
        generalize w2.drewN q = w3 at *
        by_cases h200 : D.length ≤ 200
        · obtain ⟨j1, j2⟩ := unhide HJ1 h200
          obtain ⟨j3, j4⟩ := unhide HJ2 h200
          have HAP : Hid (Calls Try.prog 7 #[.slice a NA ca, .slice v2 D.length k2] w3 fun e w' => ∃ a' c', e = .returned (.tuple #[.slice a' NA c', .nilIface]) ∧ Bs w' a' c' B ∧ Below w3.heap.size w3 w') := hide (by
            have := apply_any a v2 ca k2 A D w3 ((unhide HA).below (unhide HB3)) (unhide HC3)
            rw [j1, j2, hNA, errV_zero] at this
            unfold Ends at this
            rw [hNB] at this
            exact this)
          have HTU := hide (fun (w' : World) (h : Chs w' v2 k2 D) => turn_any v2 k2 D w' h (by omega))
          have HAP2 : Hid (∀ w' va vc, Below w.heap.size w w' → Chs w' va vc (turnL D) → Calls Try.prog 7 #[.slice b NA cb, .slice va (turnL D).length vc] w' fun e w'' => ∃ a' c', e = .returned (.tuple #[.slice a' NA c', .nilIface]) ∧ Bs w'' a' c' A ∧ Below w'.heap.size w' w'') := hide (fun w' va vc hb hc => by
            have := apply_any b va cb vc B (turnL D) w' ((unhide HB).below hb) hc
            rw [j3, j4, hNB, errV_zero] at this
            unfold Ends at this
            rw [hNA] at this
            exact this)
          have htl : (turnL D).length ≤ 200 := by unfold turnL; rw [List.length_map, List.length_reverse]; exact h200
          have t1 : ¬ (200 < (D.length : Int)) := by omega
          clear HAT HGP HJ1 HJ2 j1 j2 j3 j4 HC2 HB2
          go_wp2_with fail
          refine (unhide HAP).mono ?_
          rintro e w4 ⟨a4, c4, rfl, hx4, hb4⟩
          have hB4 := (unhide HB3).trans (hb4.mono (unhide HB3).size)
          have HT4 := hide (unhide HTU w4 ((unhide HC3).below hb4))
          have HX4 := hide hx4
          have HB4 := hide hB4
          clear hx4 hb4 hB4 HAP HTU HC3 HB3
          go_wp2_with fail
          refine (unhide HT4).mono ?_
          rintro e w5 ⟨a5, c5, rfl, hc5, hb5⟩
          have hB5 := (unhide HB4).trans (hb5.mono (unhide HB4).size)
          have HA5 := hide (unhide HAP2 w5 a5 c5 hB5 hc5)
          have HX5 := hide ((unhide HX4).below hb5)
          have HB5 := hide hB5
          generalize (turnL D).length = tl at *
          clear hc5 hb5 hB5 HT4 HX4 HB4 HAP2
          go_wp2_with fail
          refine (unhide HA5).mono ?_
          rintro e w6 ⟨a6, c6, rfl, hx6, hb6⟩
          have hB6 := (unhide HB5).trans (hb6.mono (unhide HB5).size)
          have x1 := conv_str (P := Try.prog) (t := 22) (e := 9) Try.underlying22 Try.underlying5 Try.underlying9 ((unhide HX5).below hb6)
          have x2 := conv_str (P := Try.prog) (t := 22) (e := 9) Try.underlying22 Try.underlying5 Try.underlying9 hx6
          have x3 := conv_str (P := Try.prog) (t := 22) (e := 9) Try.underlying22 Try.underlying5 Try.underlying9 ((unhide HA).below hB6)
          have x4 := conv_str (P := Try.prog) (t := 22) (e := 9) Try.underlying22 Try.underlying5 Try.underlying9 ((unhide HB).below hB6)
          rw [hNB] at x1 x4
          rw [hNA] at x2 x3
          have HB6 := hide hB6
          clear hx6 hb6 hB6 HA5 HX5 HB5 HA HB
          generalize strOf A = SA at x2 x3
          generalize strOf B = SB at x1 x4
          have y1 : (SA.toList == SA.toList) = true := beq_self_eq_true _
          have y2 : (SB.toList == SB.toList) = true := beq_self_eq_true _
          go_wp2
          go_ret
          exact ⟨rfl, unhide HB6⟩
        · have t1 : 200 < (D.length : Int) := by omega
          go_wp2
          go_ret
          exact ⟨rfl, unhide HB3⟩
  · rw [errV_pos _ h1]
    rcases unhide HE h1 with h2 | h2
    · have t1 : ¬ ((NA : Int) = (NB : Int)) := by omega
      go_wp2
      go_ret
      exact ⟨rfl, unhide HB2⟩
    · by_cases h3 : NA = NB
      · subst h3
        have t2 : 6400 < (NA : Int) := by omega
        go_wp2
        go_ret
        exact ⟨rfl, unhide HB2⟩
      · have t1 : ¬ ((NA : Int) = (NB : Int)) := by omega
        go_wp2
        go_ret
        exact ⟨rfl, unhide HB2⟩
end Go.Proofs.Ytbohnnflddfidaa
