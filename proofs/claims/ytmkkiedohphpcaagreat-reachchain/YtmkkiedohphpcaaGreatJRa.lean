/-
  Joined by program: HpD; RhA. (Parts of the proofs over the packages of the program.)
-/
import Derived.Test.YtmkkiedohphpcaaGreatJEx
import Derived.Test.YtmkkiedohphpcaaGreatJRe
import Derived.Deep.RegionHeld3
import Derived.Test.YtmkkiedohphpcaaGreatJRt
import Derived.Deep.QuietTactic
/-! Contracts of package heap: n bytes of an object; Read, Write. (Part of the proofs over package heap.) -/
namespace Go.Proofs.YtmkkiedohphpcaaGreat
open Go.RowKit Go.Sort
set_option linter.unusedVariables false

theorem Hp.ent {w : World} {B p g c : Nat} {L : List Int} (hh : Hp w B p g c L) {h : Int} (hc : chkE L h = 0) : 288 ≤ (entOf L h).2.1 ∧ 1 ≤ (entOf L h).2.2.1 ∧ (entOf L h).2.2.1 ≤ 1000 ∧ (entOf L h).2.1 + (entOf L h).2.2.1 ≤ L.length := by
  obtain ⟨h1, h2, h3⟩ := chkE_zero.1 hc
  have h4 := hndB_iff.1 h2
  have := hh.fine.ent h4.1 h4.2 h3
  omega
theorem hPiece_no (p g c B : Nat) (L : List Int) (h x n : Int) (w : World) (hh : Hp w B p g c L) (hc : chkE L h ≠ 0) :
    Calls Tryz.prog 25 #[.pointer (some ⟨p, 0, none⟩), .int .i64 h, .int .i64 x, .int .i64 n] w fun e w' => e = .returned (.tuple #[.slice none 0 0, errV (chkE L h)]) ∧ Below w.heap.size w w' := by
  have HG := hide (iGet_no (some ⟨g, 0, none⟩) c L h w hh.bs hc)
  rw [errV_pos _ hc] at HG ⊢
  have hcl := hh.cell
  have hl := hh.len
  clear hh hc
  unfold entV ent0 at HG
  dsimp only at HG
  generalize chkE L h = X at *
  generalize L.length = N at *
  go_enter Tryz.func25, Tryz.ntmps25
  go_wp2_with fail
  refine (unhide HG).mono ?_
  rintro e w1 ⟨rfl, hb1⟩
  have HB := hide hb1
  clear hb1 HG hcl
  go_wp2
  go_ret2
  exact ⟨rfl, (unhide HB).alloc (unhide HB).size _⟩
theorem hPiece_shape (p g c B : Nat) (L : List Int) (h x n : Int) (w : World) (hh : Hp w B p g c L) (hc : chkE L h = 0) (hx : x ≤ 9223372036854775807) (hn : n ≤ 9223372036854775807) (hbad : x < 0 ∨ n < 0 ∨ (entOf L h).2.2.1 < x + n) :
    Calls Tryz.prog 25 #[.pointer (some ⟨p, 0, none⟩), .int .i64 h, .int .i64 x, .int .i64 n] w fun e w' => e = .returned (.tuple #[.slice none 0 0, errV 3]) ∧ Below w.heap.size w w' := by
  have HG := hide (iGet_yes (some ⟨g, 0, none⟩) c L h w hh.bs hc)
  rw [errV_pos _ (by decide)]
  have hcl := hh.cell
  have hl := hh.len
  have hen := hh.ent hc
  clear hh hc
  generalize entOf L h = E at *
  obtain ⟨e1, e2, e3, e4⟩ := E
  unfold entV at HG
  dsimp only at HG hen hbad
  generalize L.length = N at *
  by_cases c1 : x < 0
  · clear hbad hx hn
    go_enter Tryz.func25, Tryz.ntmps25
    go_wp2_with fail
    refine (unhide HG).mono ?_
    rintro e w1 ⟨rfl, hb1⟩
    have HB := hide hb1
    clear hb1 HG hcl
    go_wp2
    go_ret2
    exact ⟨rfl, (unhide HB).alloc (unhide HB).size _⟩
  · by_cases c2 : n < 0
    · clear hbad hx hn
      go_enter Tryz.func25, Tryz.ntmps25
      go_wp2_with fail
      refine (unhide HG).mono ?_
      rintro e w1 ⟨rfl, hb1⟩
      have HB := hide hb1
      clear hb1 HG hcl
      go_wp2
      go_ret2
      exact ⟨rfl, (unhide HB).alloc (unhide HB).size _⟩
    · have c3 : e3 - x < n := by omega
      have c4 : wrap64 (e3 - x) = e3 - x := by unfold wrap64; omega
      clear hbad
      go_enter Tryz.func25, Tryz.ntmps25
      go_wp2_with fail
      refine (unhide HG).mono ?_
      rintro e w1 ⟨rfl, hb1⟩
      have HB := hide hb1
      clear hb1 HG hcl
      go_wp2
      go_ret2
      exact ⟨rfl, (unhide HB).alloc (unhide HB).size _⟩
set_option maxRecDepth 100000 in
set_option maxHeartbeats 1000000 in
theorem hPiece_yes (p g c B : Nat) (L : List Int) (h : Int) (x n : Nat) (w : World) (hh : Hp w B p g c L) (hc : chkE L h = 0) (hn : (x : Int) + n ≤ (entOf L h).2.2.1) :
    Calls Tryz.prog 25 #[.pointer (some ⟨p, 0, none⟩), .int .i64 h, .int .i64 x, .int .i64 n] w fun e w' => ∃ q c', e = .returned (.tuple #[.slice q n c', .nilIface]) ∧ Bs w' q c' ((L.drop ((entOf L h).2.1.toNat + x)).take n) ∧ (0 < n → q = some ⟨g, (entOf L h).2.1.toNat + x, none⟩) ∧ Below w.heap.size w w' := by
  have mixed : Tryz.prog.follows .mixedOrders = true := by kernel_rfl
  have HG := hide (iGet_yes (some ⟨g, 0, none⟩) c L h w hh.bs hc)
  have hcl := hh.cell
  have hl := hh.len
  have hen := hh.ent hc
  obtain ⟨q, hs, hbq, hq⟩ := hPart_run g c L ((entOf L h).2.1.toNat + x) n w hh.bs (by omega)
  clear hc
  generalize entOf L h = E at *
  obtain ⟨e1, e2, e3, e4⟩ := E
  unfold entV at HG
  dsimp only at HG hen hn hs hbq hq ⊢
  obtain ⟨X, rfl⟩ := Int.eq_ofNat_of_zero_le (show 0 ≤ e2 by omega)
  obtain ⟨Y, rfl⟩ := Int.eq_ofNat_of_zero_le (show 0 ≤ e3 by omega)
  rw [Int.toNat_natCast] at *
  have HP := hide (fun W => hPart_w (some ⟨g, 0, none⟩) c L.length (X + x) n q (by omega) (by omega) hs W)
  rw [show ((X + x : Nat) : Int) = IntKind.i64.wrap ((X : Int) + x) by rw [IntKind.wrap_i64]; omega] at HP
  have HH := hide hh
  have HQ := hide hq
  have HBQ := hide hbq
  clear hh hs hq hbq
  generalize hR : (L.drop (X + x)).take n = R at *
  clear hR
  generalize hN : L.length = N at *
  generalize c - (X + x) = c' at *
  obtain ⟨n1, n2, n3, n4⟩ := hen
  obtain ⟨m1, m2, m3⟩ := hl
  have s1 : (X : Int) + x ≤ 6400 := by omega
  have s2 : 0 ≤ (X : Int) + x := by omega
  go_enter Tryz.func25, Tryz.ntmps25
  go_wp2_with fail
  refine (unhide HG).mono ?_
  rintro e w1 ⟨rfl, hb1⟩
  have hB1 : Below w.heap.size w (w1.alloc (.cells #[.int .i64 e1, .int .i64 X, .int .i64 Y, .int .i64 e4] 64)) := hb1.alloc hb1.size _
  have hcl1 := ((unhide HH).below hB1).cell
  rw [hN] at hcl1
  have hen1 := EnB.new w1 (e1, (X : Int), (Y : Int), e4)
  have k0 := fun n os => cell_grown ((unhide HH).below hB1).plt hcl1 n os
  have k1 := fun n os => cell_grown hen1.lt hen1.cells.2.1 n os
  have hce2 := hen1.cells.2.2.1
  have HB1 := hide hB1
  clear hb1 hB1 HG hcl HH hcl1 hen1
  dsimp only at k1 hce2
  go_wp2_with fail
  generalize w1.alloc (.cells #[.int .i64 e1, .int .i64 X, .int .i64 Y, .int .i64 e4] 64) = W at *
  go_quiet_grown ((go_at_call 24; with_reducible exact Calls.grown_of (unhide HP _)))
  go_wp2
  go_ret2
  have hb : Below w.heap.size w (grow (W.drewN nq) osq) := (unhide HB1).trans (grow_below.mono (unhide HB1).size)
  exact ⟨q, c', rfl, (unhide HBQ).below hb, unhide HQ, hb⟩
/-! ### Read -/
theorem hRead_no (p g c B : Nat) (L : List Int) (h x n E : Int) (w : World) (hE : E ≠ 0) (hpc : Calls Tryz.prog 25 #[.pointer (some ⟨p, 0, none⟩), .int .i64 h, .int .i64 x, .int .i64 n] w fun e w' => e = .returned (.tuple #[.slice none 0 0, errV E]) ∧ Below w.heap.size w w') :
    Calls Tryz.prog 73 #[.pointer (some ⟨p, 0, none⟩), .int .i64 h, .int .i64 x, .int .i64 n] w fun e w' => e = .returned (.tuple #[.slice none 0 0, errV E]) ∧ Below w.heap.size w w' := by
  have HP := hide hpc
  rw [errV_pos _ hE] at HP ⊢
  clear hpc hE
  go_enter Tryz.func73, Tryz.ntmps73
  go_wp2_with fail
  refine (unhide HP).mono ?_
  rintro e w1 ⟨rfl, hb1⟩
  have HB := hide hb1
  clear hb1 HP
  go_wp2
  go_ret2
  exact ⟨rfl, unhide HB⟩
theorem hRead_yes (p g c B : Nat) (L : List Int) (h : Int) (x n : Nat) (w : World) (hh : Hp w B p g c L) (hc : chkE L h = 0) (hn : (x : Int) + n ≤ (entOf L h).2.2.1) :
    Calls Tryz.prog 73 #[.pointer (some ⟨p, 0, none⟩), .int .i64 h, .int .i64 x, .int .i64 n] w fun e w' => ∃ a' c', e = .returned (.tuple #[.slice a' n c', .nilIface]) ∧ OwnV w' w.heap.size (.slice a' n c') ((L.drop ((entOf L h).2.1.toNat + x)).take n) ∧ Below w.heap.size w w' := by
  have HP := hide (hPiece_yes p g c B L h x n w hh hc hn)
  have hen := hh.ent hc
  have hl := hh.len
  have hRl : ((L.drop ((entOf L h).2.1.toNat + x)).take n).length = n := by simp; omega
  generalize (L.drop ((entOf L h).2.1.toNat + x)).take n = R at *
  have HC := hide (fun (q : Option Addr) (c' : Nat) (W : World) (hb : Bs W q c' R) => bclone_any q c' R W hb)
  rw [hRl] at HC
  have hnl : n ≤ 1000 := by omega
  clear hh hc hen
  go_enter Tryz.func73, Tryz.ntmps73
  go_wp2_with fail
  refine (unhide HP).mono ?_
  rintro e w1 ⟨q, c', rfl, hbs, hq, hb1⟩
  have HC1 := hide (unhide HC q c' w1 hbs)
  have HB := hide hb1
  clear hb1 HP HC hbs hq
  go_wp2_with fail
  refine (unhide HC1).mono ?_
  rintro e w2 ⟨a', c2, rfl, hown, hb2⟩
  have HO := hide hown
  have HB2 := hide ((unhide HB).trans (hb2.mono (unhide HB).size))
  have HSZ := hide (unhide HB).size
  clear hown hb2 HC1 HB
  go_wp2
  go_ret2
  exact ⟨a', c2, rfl, (unhide HO).lower (unhide HSZ), unhide HB2⟩
theorem hRead_any (p g c B : Nat) (L : List Int) (h x n : Int) (w : World) (hh : Hp w B p g c L) (hx : x ≤ 9223372036854775807) (hn : n ≤ 9223372036854775807) :
    Calls Tryz.prog 73 #[.pointer (some ⟨p, 0, none⟩), .int .i64 h, .int .i64 x, .int .i64 n] w fun e w' => ∃ a' c', e = .returned (.tuple #[.slice a' (rdL L h x n).length c', errV (pcE L h x n)]) ∧ OwnV w' w.heap.size (.slice a' (rdL L h x n).length c') (rdL L h x n) ∧ Below w.heap.size w w' := by
  by_cases h0 : pcE L h x n = 0
  · obtain ⟨h1, h2, h3, h4⟩ := pcE_zero.1 h0
    obtain ⟨X, rfl⟩ := Int.eq_ofNat_of_zero_le h2
    obtain ⟨N, rfl⟩ := Int.eq_ofNat_of_zero_le h3
    have hen := hh.ent h1
    have hl := hh.len
    have hR : rdL L h X N = (L.drop ((entOf L h).2.1.toNat + X)).take N := by unfold rdL; rw [if_pos h0, Int.toNat_natCast, Int.toNat_natCast]
    have hRl : (rdL L h X N).length = N := by rw [hR]; simp; omega
    rw [hRl, h0, errV_zero]
    refine (hRead_yes p g c B L h X N w hh h1 h4).mono fun e w' ⟨a', c', he, ho, hb⟩ => ⟨a', c', he, ?_, hb⟩
    rw [← hR] at ho
    exact ho
  · have hR : rdL L h x n = [] := by unfold rdL; rw [if_neg h0]
    rw [hR]
    by_cases h1 : chkE L h = 0
    · have hbad : x < 0 ∨ n < 0 ∨ (entOf L h).2.2.1 < x + n := Classical.byContradiction fun hc => h0 (pcE_zero.2 ⟨h1, by omega, by omega, by omega⟩)
      have e3 : pcE L h x n = 3 := by unfold pcE; rw [if_neg (fun h => h h1), if_pos hbad]
      rw [e3]
      exact (hRead_no p g c B L h x n 3 w (by decide) (hPiece_shape p g c B L h x n w hh h1 hx hn hbad)).mono fun e w' ⟨he, hb⟩ => ⟨none, 0, he, OwnV.nil _ _, hb⟩
    · have e3 : pcE L h x n = chkE L h := by unfold pcE; rw [if_pos h1]
      rw [e3]
      exact (hRead_no p g c B L h x n (chkE L h) w h1 (hPiece_no p g c B L h x n w hh h1)).mono fun e w' ⟨he, hb⟩ => ⟨none, 0, he, OwnV.nil _ _, hb⟩
/-! ### Write -/
theorem hWrite_no (p g c B : Nat) (L : List Int) (h x E : Int) (a : Option Addr) (n cap : Nat) (w : World) (hE : E ≠ 0) (hn : n ≤ 140737488351232) (hpc : Calls Tryz.prog 25 #[.pointer (some ⟨p, 0, none⟩), .int .i64 h, .int .i64 x, .int .i64 n] w fun e w' => e = .returned (.tuple #[.slice none 0 0, errV E]) ∧ Below w.heap.size w w') :
    Calls Tryz.prog 7 #[.pointer (some ⟨p, 0, none⟩), .int .i64 h, .int .i64 x, .slice a n cap] w fun e w' => e = .returned (errV E) ∧ Below w.heap.size w w' := by
  have HP := hide hpc
  rw [errV_pos _ hE] at HP ⊢
  clear hpc hE
  go_enter Tryz.func7, Tryz.ntmps7
  go_wp2_with fail
  refine (unhide HP).mono ?_
  rintro e w1 ⟨rfl, hb1⟩
  have HB := hide hb1
  clear hb1 HP
  go_wp2
  go_ret
  exact ⟨rfl, unhide HB⟩
set_option maxHeartbeats 1000000 in
theorem hWrite_yes (p g c B : Nat) (L : List Int) (h : Int) (x : Nat) (a : Option Addr) (cap : Nat) (l : List Int) (w : World) (hh : Hp w B p g c L) (hb : Bs w a cap l) (hc : chkE L h = 0) (hn : (x : Int) + l.length ≤ (entOf L h).2.2.1) :
    Calls Tryz.prog 7 #[.pointer (some ⟨p, 0, none⟩), .int .i64 h, .int .i64 x, .slice a l.length cap] w fun e w' => e = .returned .nilIface ∧ Hp w' B p g c (splice L ((entOf L h).2.1.toNat + x) l) ∧ Turn (foot p g) (foot p g) w w' := by
  have HP := hide (hPiece_yes p g c B L h x l.length w hh hc hn)
  obtain ⟨g1, g2, g3⟩ := chkE_zero.1 hc
  have g4 := hndB_iff.1 g2
  have hkeep := write_keep hh.fine g4.1 g4.2 g3 (p := x) (r := l) hn
  have hen := hh.ent hc
  have hl := hh.len
  have hbl := hb.2.2.1
  have HKE := hide hkeep.1
  have HH := hide hh
  have HBS := hide hb
  clear hh hc hkeep g1 g2 g3 g4 hb
  by_cases h0 : l = []
  · subst h0
    have hself : splice L ((entOf L h).2.1.toNat + x) [] = L := by simp [splice]
    rw [hself]
    simp only [List.length_nil] at HP hn hbl ⊢
    clear HKE
    generalize (entOf L h).2.1.toNat + x = off at *
    go_enter Tryz.func7, Tryz.ntmps7
    go_wp2_with fail
    refine (unhide HP).mono ?_
    rintro e w1 ⟨q, c', rfl, hbs, hq, hb1⟩
    have HB := hide hb1
    have hcp : Sem.run Tryz.prog (Builtin.copy_ #[22, 22] 3 #[.slice q 0 c', .slice a 0 cap]) w1 = .ok (.int .i64 0) w1 := by
      have := run_copy_none (P := Tryz.prog) w1 22 22 3 5 q a 0 c' 0 cap Tryz.underlying22 size_u8 (by simp)
      simpa [goInt] using this
    clear hb1 HP hbs hq
    go_wp2
    go_ret
    exact ⟨rfl, (unhide HH).below (unhide HB), Turn.of_below (unhide HB)⟩
  · have hpos : 0 < l.length := List.length_pos_iff.2 h0
    have hfit : (entOf L h).2.1.toNat + x + l.length ≤ L.length := by omega
    clear hen
    generalize (entOf L h).2.1.toNat + x = off at *
    go_enter Tryz.func7, Tryz.ntmps7
    go_wp2_with fail
    refine (unhide HP).mono ?_
    rintro e w1 ⟨q, c', rfl, hbs, hq, hb1⟩
    obtain rfl := hq hpos
    have hh1 := (unhide HH).below hb1
    obtain ⟨cur, hrow⟩ := hh1.row
    have hcp : Sem.run Tryz.prog (Builtin.copy_ #[22, 22] 3 #[.slice (some ⟨g, off, none⟩) l.length c', .slice a l.length cap]) w1 = .ok (.int .i64 l.length) (laidW w1 g cur off l) :=
      run_copy_laid w1 _ _ _ Tryz.underlying22 size_u8 _ g off _ _ c cur a cap L l (Nat.le_refl _) h0 hfit hrow ((unhide HBS).below hb1)
    have HLAY := hide (hh1.lay hrow hfit (unhide HBS).1 (unhide HKE))
    have HT := hide (Turn.of_below (S := foot p g) hb1)
    clear hb1 HP hbs hq hh1 hrow
    generalize laidW w1 g cur off l = w2 at *
    go_wp2
    go_ret
    exact ⟨rfl, (unhide HLAY).1, (unhide HT).trans (unhide HLAY).2⟩
theorem hWrite_any (p g c B : Nat) (L : List Int) (h x : Int) (a : Option Addr) (cap : Nat) (l : List Int) (w : World) (hh : Hp w B p g c L) (hb : Bs w a cap l) (hx : x ≤ 9223372036854775807) :
    Calls Tryz.prog 7 #[.pointer (some ⟨p, 0, none⟩), .int .i64 h, .int .i64 x, .slice a l.length cap] w fun e w' => e = .returned (errV (pcE L h x l.length)) ∧ Hp w' B p g c (wrB L h x l) ∧ Turn (foot p g) (foot p g) w w' := by
  have hbl := hb.2.2.1
  by_cases h0 : pcE L h x l.length = 0
  · obtain ⟨h1, h2, h3, h4⟩ := pcE_zero.1 h0
    obtain ⟨X, rfl⟩ := Int.eq_ofNat_of_zero_le h2
    have hR : wrB L h X l = splice L ((entOf L h).2.1.toNat + X) l := by unfold wrB; rw [if_pos h0, Int.toNat_natCast]
    rw [hR, h0, errV_zero]
    exact hWrite_yes p g c B L h X a cap l w hh hb h1 h4
  · have hR : wrB L h x l = L := by unfold wrB; rw [if_neg h0]
    rw [hR]
    by_cases h1 : chkE L h = 0
    · have hbad : x < 0 ∨ (l.length : Int) < 0 ∨ (entOf L h).2.2.1 < x + l.length := Classical.byContradiction fun hc => h0 (pcE_zero.2 ⟨h1, by omega, by omega, by omega⟩)
      have e3 : pcE L h x l.length = 3 := by unfold pcE; rw [if_neg (fun h => h h1), if_pos hbad]
      rw [e3]
      exact (hWrite_no p g c B L h x 3 a l.length cap w (by decide) hbl (hPiece_shape p g c B L h x l.length w hh h1 hx (by omega) hbad)).mono fun e w' ⟨he, hb⟩ => ⟨he, hh.below hb, Turn.of_below hb⟩
    · have e3 : pcE L h x l.length = chkE L h := by unfold pcE; rw [if_pos h1]
      rw [e3]
      exact (hWrite_no p g c B L h x (chkE L h) a l.length cap w h1 hbl (hPiece_no p g c B L h x l.length w hh h1)).mono fun e w' ⟨he, hb⟩ => ⟨he, hh.below hb, Turn.of_below hb⟩
end Go.Proofs.YtmkkiedohphpcaaGreat
/-! Contracts of package reach: isObject, namesOf, Refs. (Part of the proofs over package reach.) -/
namespace Go.Proofs.YtmkkiedohphpcaaGreat
open Go.RowKit
set_option linter.unusedVariables false

set_option maxRecDepth 100000 in
theorem hSize_any (p g c B : Nat) (L : List Int) (h : Int) (w : World) (hh : Hp w B p g c L) :
    Calls Tryz.prog 72 #[.pointer (some ⟨p, 0, none⟩), .int .i64 h] w fun e w' => e = .returned (.tuple #[.int .i64 (getE L h).2.2.1, errV (chkE L h)]) ∧ Below w.heap.size w w' := by
  have HG := hide (fun W (hW : Below w.heap.size w W) => iGet_any (some ⟨g, 0, none⟩) c L h W (hh.bs.below hW))
  have hc := hh.cell
  have hl := hh.len
  clear hh
  generalize getE L h = E at *
  generalize chkE L h = X at *
  generalize L.length = N at *
  obtain ⟨e1, e2, e3, e4⟩ := E
  unfold entV at HG
  dsimp only at HG ⊢
  go_enter Tryz.func72, Tryz.ntmps72
  go_wp2_with fail
  refine (unhide HG w (Below.refl _ _)).mono ?_
  rintro e w1 ⟨rfl, hb1⟩
  have HB := hide hb1
  clear hb1 HG hc
  go_wp2
  go_ret2
  exact ⟨rfl, (unhide HB).alloc (unhide HB).size _⟩
set_option maxRecDepth 100000 in
theorem isObject_any (p g c B : Nat) (L : List Int) (h : Int) (w : World) (hh : Hp w B p g c L) :
    Calls Tryz.prog 37 #[.pointer (some ⟨p, 0, none⟩), .int .i64 h] w fun e w' => e = .returned (.bool (decide (chkE L h = 0))) ∧ Below w.heap.size w w' := by
  have HT := hide (hTag_any p g c B L h w hh)
  clear hh
  generalize (getE L h).2.2.2 = t at *
  by_cases hc : chkE L h = 0
  · rw [decide_eq_true hc]
    rw [hc, errV_zero] at HT
    clear hc
    go_enter Tryz.func37, Tryz.ntmps37
    go_wp2_with fail
    refine (unhide HT).mono ?_
    rintro e w1 ⟨rfl, hb1⟩
    have HB := hide hb1
    clear hb1 HT
    go_wp2
    go_ret
    exact ⟨rfl, unhide HB⟩
  · rw [decide_eq_false hc]
    rw [errV_pos _ hc] at HT
    clear hc
    generalize chkE L h = X at *
    go_enter Tryz.func37, Tryz.ntmps37
    go_wp2_with fail
    refine (unhide HT).mono ?_
    rintro e w1 ⟨rfl, hb1⟩
    have HB := hide hb1
    clear hb1 HT
    go_wp2
    go_ret
    exact ⟨rfl, unhide HB⟩
theorem OwnV.bsAt {w : World} {B : Nat} {a : Option Addr} {c : Nat} {l : List Int} (h : OwnV w B (.slice a l.length c) l) (hb : Byt l) (hl : l.length ≤ 140737488351232) : Bs w a c l := by
  obtain ⟨a2, c2, e2, hb2⟩ := h.bs hb hl
  simp only [Value.slice.injEq, true_and] at e2
  obtain ⟨rfl, rfl⟩ := e2
  exact hb2
/-- The bytes in which an object names others. -/
def nmL (L : List Int) (h : Int) : List Int := if chkE L h = 0 then (objOf L h).2.take (objOf L h).1.toNat else []
theorem nmL_len (L : List Int) (h : Int) (hf : Fine L) : (nmL L h).length ≤ 15 := by
  unfold nmL
  by_cases hc : chkE L h = 0
  · rw [if_pos hc, List.length_take]
    obtain ⟨q1, q2, q3⟩ := chkE_zero.1 hc
    have q4 := hndB_iff.1 q2
    have := hf.ent q4.1 q4.2 q3
    unfold objOf objE
    rw [if_neg q3]
    dsimp only
    omega
  · rw [if_neg hc]; simp
set_option maxRecDepth 100000 in
set_option maxHeartbeats 1000000 in
set_option maxRecDepth 100000 in
theorem namesOf_any (p g c B : Nat) (L : List Int) (h : Int) (w : World) (hh : Hp w B p g c L) :
    Calls Tryz.prog 39 #[.pointer (some ⟨p, 0, none⟩), .int .i64 h] w fun e w' => ∃ a' c', e = .returned (.tuple #[.slice a' (nmL L h).length c', errV (chkE L h)]) ∧ Bs w' a' c' (nmL L h) ∧ Below w.heap.size w w' := by
  have HT := hide (hTag_any p g c B L h w hh)
  by_cases hc : chkE L h = 0
  · obtain ⟨q1, q2, q3⟩ := chkE_zero.1 hc
    have q4 := hndB_iff.1 q2
    have hen := hh.fine.ent q4.1 q4.2 q3
    have hge : getE L h = entOf L h := by unfold getE; rw [if_pos hc]
    have HS := hide (fun (W : World) (hW : Below w.heap.size w W) => hSize_any p g c B L h W (hh.below hW))
    rw [hge, hc, errV_zero] at HT HS
    have ho : objOf L h = ((entOf L h).2.2.2, (L.drop (entOf L h).2.1.toNat).take (entOf L h).2.2.1.toNat) := by
      unfold objOf objE partL
      rw [if_neg q3]
    have hn : nmL L h = (L.drop ((entOf L h).2.1.toNat + 0)).take (min (entOf L h).2.2.2 (entOf L h).2.2.1).toNat := by
      unfold nmL
      rw [if_pos hc, ho]
      dsimp only
      rw [List.take_take, Nat.add_zero]
      congr 1
      omega
    have hmin : ((min (entOf L h).2.2.2 (entOf L h).2.2.1).toNat : Int) = min (entOf L h).2.2.2 (entOf L h).2.2.1 := by omega
    have HR := hide (fun (W : World) (hW : Below w.heap.size w W) => hRead_yes p g c B L h 0 (min (entOf L h).2.2.2 (entOf L h).2.2.1).toNat W (hh.below hW) hc (by omega))
    rw [← hn, hmin] at HR
    have hnl : (nmL L h).length = (min (entOf L h).2.2.2 (entOf L h).2.2.1).toNat := by
      rw [hn, List.length_take, List.length_drop]
      omega
    rw [← hnl] at HR
    have HBY : Hid (Byt (nmL L h)) := hide (by rw [hn]; exact hh.byt.sub _ _)
    have hl15 := nmL_len L h hh.fine
    rw [hc, errV_zero]
    clear hh hc q1 q2 q3 q4 hge ho hn hmin hnl
    generalize nmL L h = NM at *
    generalize entOf L h = E at *
    obtain ⟨e1, e2, e3, e4⟩ := E
    dsimp only at HT HS HR hen ⊢
    obtain ⟨n1, n2, n3, n4, n5, n6⟩ := hen
    by_cases hm : e4 ≤ e3
    · rw [show min e4 e3 = e4 by omega] at HR
      go_enter Tryz.func39, Tryz.ntmps39
      go_wp2_with fail
      refine (unhide HT).mono ?_
      rintro e w1 ⟨rfl, hb1⟩
      have HS1 := hide (unhide HS w1 hb1)
      have HB1 := hide hb1
      clear hb1 HT HS
      go_wp2_with fail
      refine (unhide HS1).mono ?_
      rintro e w2 ⟨rfl, hb2⟩
      have hB2 := (unhide HB1).trans (hb2.mono (unhide HB1).size)
      have HR2 := hide (unhide HR w2 hB2)
      have HB2 := hide hB2
      clear hb2 hB2 HS1 HB1 HR
      go_wp2_with fail
      try rw [show min e4 e3 = e4 by omega]
      refine (unhide HR2).mono ?_
      rintro e w3 ⟨a', c', rfl, ho, hb3⟩
      have HB3 := hide ((unhide HB2).trans (hb3.mono (unhide HB2).size))
      have HO := hide (ho.bsAt (unhide HBY) (by omega))
      clear ho hb3 HR2 HB2
      go_wp2
      go_ret2
      exact ⟨a', c', rfl, unhide HO, unhide HB3⟩
    · rw [show min e4 e3 = e3 by omega] at HR
      go_enter Tryz.func39, Tryz.ntmps39
      go_wp2_with fail
      refine (unhide HT).mono ?_
      rintro e w1 ⟨rfl, hb1⟩
      have HS1 := hide (unhide HS w1 hb1)
      have HB1 := hide hb1
      clear hb1 HT HS
      go_wp2_with fail
      refine (unhide HS1).mono ?_
      rintro e w2 ⟨rfl, hb2⟩
      have hB2 := (unhide HB1).trans (hb2.mono (unhide HB1).size)
      have HR2 := hide (unhide HR w2 hB2)
      have HB2 := hide hB2
      clear hb2 hB2 HS1 HB1 HR
      go_wp2_with fail
      try rw [show min e4 e3 = e3 by omega]
      refine (unhide HR2).mono ?_
      rintro e w3 ⟨a', c', rfl, ho, hb3⟩
      have HB3 := hide ((unhide HB2).trans (hb3.mono (unhide HB2).size))
      have HO := hide (ho.bsAt (unhide HBY) (by omega))
      clear ho hb3 HR2 HB2
      go_wp2
      go_ret2
      exact ⟨a', c', rfl, unhide HO, unhide HB3⟩
  · have hn : nmL L h = [] := by unfold nmL; rw [if_neg hc]
    rw [hn]
    rw [errV_pos _ hc] at HT ⊢
    clear hh hc hn
    generalize (getE L h).2.2.2 = t at *
    generalize chkE L h = X at *
    go_enter Tryz.func39, Tryz.ntmps39
    go_wp2_with fail
    refine (unhide HT).mono ?_
    rintro e w1 ⟨rfl, hb1⟩
    have HB := hide hb1
    clear hb1 HT
    go_wp2
    go_ret2
    exact ⟨none, 0, rfl, bs_nil _, unhide HB⟩
/-! ### is a number in a row? -/
set_option maxRecDepth 100000 in
theorem inIndex_any (a : Option Addr) (cap : Nat) (l : List Int) (x : Int) (w : World) (hs : Sls inC 1 w a cap l) :
    Calls Tryz.prog 74 #[.slice a l.length cap, .int .i64 x] w fun e w' => ∃ i : Int, e = .returned (.int .i64 i) ∧ (decide (0 ≤ i) = l.any (fun y => y == x)) ∧ w = w' := by
  have hl := hs.2.2.1
  have HS := hide hs
  clear hs
  go_enter Tryz.func74, Tryz.ntmps74
  go_wp2_with fail
  go_loop [8] (fun iv => ∃ k : Nat, k ≤ l.length ∧ iv = .int .i64 k ∧ (l.take k).any (fun y => y == x) = false) (fun iv => l.length - (intOf iv).toNat)
  case atStart => exact ⟨0, Nat.zero_le _, rfl, rfl⟩
  case round =>
    obtain ⟨k, hk, rfl, hall⟩ := hrel
    by_cases hlt : k < l.length
    · have hne : l ≠ [] := by intro e; rw [e] at hlt; simp at hlt
      obtain ⟨b1, o1, rfl, hc1⟩ := (unhide HS).2.2.2 hne
      obtain ⟨y, hy⟩ : ∃ y, l[k]? = some y := ⟨l[k], List.getElem?_eq_getElem hlt⟩
      have q0 := Sls.num (cap := 0) hc1 hy
      have htk : l.take (k + 1) = l.take k ++ [y] := by rw [List.take_add_one, hy]; rfl
      have hmem := List.mem_of_getElem? hy
      clear hc1 hy hne
      by_cases e : x = y
      · subst e
        have hnew : l.any (fun y => y == x) = true := List.any_eq_true.2 ⟨_, hmem, by simp⟩
        have HN := hide hnew
        clear hnew htk hall hmem
        go_wp2
        go_ret
        exact ⟨k, rfl, by rw [unhide HN]; exact decide_eq_true (by omega), rfl⟩
      · have hnew : (l.take (k + 1)).any (fun y => y == x) = false := by
          rw [htk, List.any_append, hall]
          simp
          exact fun h => e h.symm
        have HN := hide hnew
        have eb : (x == y) = false := beq_eq_false_iff_ne.2 e
        clear hnew htk hall hmem e
        go_wp2
        go_round
        case rel => exact ⟨k + 1, by omega, by go_num, unhide HN⟩
        case measure => simp [intOf]; omega
    · obtain rfl : k = l.length := by omega
      rw [List.take_length] at hall
      have HN := hide hall
      clear hall HS
      go_wp2
      go_ret
      exact ⟨-1, rfl, by rw [unhide HN]; rfl, rfl⟩
set_option maxRecDepth 100000 in
theorem inHas_any (a : Option Addr) (cap : Nat) (l : List Int) (x : Int) (w : World) (hs : Sls inC 1 w a cap l) :
    Calls Tryz.prog 40 #[.slice a l.length cap, .int .i64 x] w fun e w' => e = .returned (.bool (l.any (fun y => y == x))) ∧ w = w' := by
  have HI := hide (inIndex_any a cap l x w hs)
  have hl := hs.2.2.1
  clear hs
  generalize l.any (fun y => y == x) = r at *
  generalize l.length = N at *
  go_enter Tryz.func40, Tryz.ntmps40
  go_wp2_with fail
  refine (unhide HI).mono ?_
  rintro e w1 ⟨i, rfl, hi, hw⟩
  subst hw
  have HH := hide hi
  clear hi HI
  go_wp2
  go_ret
  exact ⟨by rw [← unhide HH]; rfl, rfl⟩
/-! ### Refs -/
/-- What Refs gives. -/
def rfL (L : List Int) (h : Int) : List Int := if chkE L h = 0 then refsL L h else []
theorem refK_one (L l : List Int) : refK L l l.length = l.foldl (refStep L) [] := by unfold refK; rw [List.take_length]
theorem rfL_fold (L : List Int) (h : Int) : rfL L h = (nmL L h).foldl (refStep L) [] := by
  unfold rfL nmL
  by_cases hc : chkE L h = 0
  · rw [if_pos hc, if_pos hc]; rfl
  · rw [if_neg hc, if_neg hc]; rfl
set_option maxRecDepth 100000 in
set_option maxHeartbeats 4000000 in
set_option maxRecDepth 100000 in
theorem rhRefs_any (p g c B : Nat) (L : List Int) (h : Int) (w : World) (hh : Hp w B p g c L) :
    Calls Tryz.prog 14 #[.pointer (some ⟨p, 0, none⟩), .int .i64 h] w fun e w' => ∃ v, e = .returned (.tuple #[v, errV (chkE L h)]) ∧ Lst inC 1 3 w' w.heap.size v (rfL L h) ∧ Below w.heap.size w w' := by
  obtain ⟨i0, hi0, hz0, hz1, hz2⟩ := info_parts info_inS
  have HN := hide (namesOf_any p g c B L h w hh)
  by_cases hc : chkE L h = 0
  · have HIS := hide (fun (x : Int) (W : World) (hW : Below w.heap.size w W) => isObject_any p g c B L x W (hh.below hW))
    have HCO := hide (fun (a : Option Addr) (cap : Nat) (l : List Int) (x : Int) (W : World) (hs : Sls inC 1 W a cap l) => inHas_any a cap l x W hs)
    have hnl := nmL_len L h hh.fine
    have HRF := hide (rfL_fold L h)
    rw [hc, errV_zero] at HN ⊢
    clear hh hc
    generalize rfL L h = RF at *
    generalize nmL L h = l at *
    have HRK := hide (refK_one L l)
    have HRL := hide (fun k => refK_len L l k)
    have HRS := hide (fun (k : Nat) (hk : k < l.length) => refK_succ (L := L) hk)
    go_enter Tryz.func14, Tryz.ntmps14
    go_wp2_with fail
    refine (unhide HN).mono ?_
    rintro e w1 ⟨a1, c1, rfl, hbs1, hb1⟩
    have hbl := hbs1.2.2.1
    have HBS := hide hbs1
    have HB1 := hide hb1
    clear hbs1 hb1 HN
    go_wp2_with fail
    go_loopw [8, 10, 11, 23] (fun v _ _ iv wr => ∃ k : Nat, k ≤ l.length ∧ iv = .int .i64 k ∧ Lst inC 1 3 wr w1.heap.size v (refK L l k) ∧ Below w1.heap.size w1 wr) (fun _ _ _ iv _ => l.length - (intOf iv).toNat)
    case atStart => exact ⟨0, Nat.zero_le _, rfl, Lst.nil _ _, Below.refl _ _⟩
    case round =>
      obtain ⟨k, hk, rfl, hown, hbel⟩ := hrel
      obtain ⟨va, vm, vc, rfl⟩ := hown.shape
      by_cases hlt : k < l.length
      · have hne : l ≠ [] := by intro e; rw [e] at hlt; simp at hlt
        obtain ⟨b3, o3, rfl, hc3⟩ := ((unhide HBS).below hbel).2.2.2.2 hne
        have q0 := hc3 k hlt
        have hXb := (unhide HBS).1.getD k
        have HT := hide (unhide HRS k hlt)
        generalize l.getD k 0 = X at *
        have HIX := hide (unhide HIS X wr ((unhide HB1).trans (hbel.mono (unhide HB1).size)))
        have hrl := unhide HRL k
        have HOWN := hide hown
        have HBEL := hide hbel
        clear hown hbel hc3 hne
        by_cases hc : chkE L X = 0
        · rw [decide_eq_true hc] at HIX
          have HT2 : Hid (refK L l (k + 1) = if (refK L l k).any (fun y => y == X) = true then refK L l k else refK L l k ++ [X]) := hide (by rw [unhide HT]; unfold refStep; rw [if_neg (fun h => h hc)])
          clear hc HT
          generalize hacc : refK L l k = acc at *
          have HACC := hide hacc
          clear hacc
          go_wp2_with fail
          refine (unhide HIX).mono ?_
          rintro e w2 ⟨rfl, hb2⟩
          have hown2 := (unhide HOWN).below hb2
          obtain ⟨va2, vc2, ev, hsl2⟩ := hown2.sls inC_len (by omega)
          simp only [Value.slice.injEq] at ev
          obtain ⟨rfl, rfl, rfl⟩ := ev
          have HC2 := hide (unhide HCO va vc acc X w2 hsl2)
          have HO2 := hide hown2
          have HB2 := hide ((unhide HBEL).trans (hb2.mono (unhide HBEL).size))
          have hcap2 := hsl2.2.2.1
          clear hown2 hsl2 hb2 HIX HOWN HBEL
          cases hd : acc.any (fun y => y == X) with
          | true =>
            rw [hd] at HT2 HC2
            rw [if_pos rfl] at HT2
            clear hd
            go_wp2_with fail
            refine (unhide HC2).mono ?_
            rintro e w3 ⟨rfl, hw3⟩
            subst hw3
            go_wp2
            go_roundw
            case rel => exact ⟨k + 1, by omega, by go_num, by rw [unhide HT2]; exact unhide HO2, unhide HB2⟩
            case measure => simp [intOf]; omega
          | false =>
            rw [hd] at HT2 HC2
            rw [if_neg (by simp)] at HT2
            clear hd
            have HO3 := hide ((unhide HO2).below ((Below.refl _ w2).alloc (Nat.le_refl _) (.cells #[.int .i64 X] 3)))
            have HB3 := hide ((unhide HB2).alloc (unhide HB2).size (.cells #[.int .i64 X] 3))
            have HGN : Hid ((w2.alloc (.cells #[.int .i64 X] 3)).heap[w2.heap.size]? = some (.cells (inC X).toArray 3 (0, 0))) := hide (heap_alloc_new w2 _)
            have hsz2 := (unhide HB2).size
            clear HO2 HB2
            go_wp2_with fail
            refine (unhide HC2).mono ?_
            rintro e w3 ⟨rfl, hw3⟩
            subst hw3
            clear HC2
            go_wp2_with (at_builtin; refine wpList_append_lst rfl _ _ 33 rfl w1.heap.size i0 (.int .i64 0) 8 Tryz.underlying33 hi0 hz0 hz1 hz2 rfl (by decide) (by decide) _ _ rfl (unhide HO3) w2.heap.size X rfl (unhide HGN) rfl (inC_one _) (by omega) (by simp; omega) ?_)
            intro v9 w9 hown9 hb9
            rw [← unhide HT2] at hown9
            have HO9 := hide hown9
            have HB9 := hide ((unhide HB3).trans hb9)
            obtain ⟨a9, m9, c9, rfl⟩ := hown9.shape
            clear hown9 hb9 HO3 HB3 HGN
            go_wp2
            go_roundw
            case rel => exact ⟨k + 1, by omega, by go_num, unhide HO9, unhide HB9⟩
            case measure => simp [intOf]; omega
        · rw [decide_eq_false hc] at HIX
          have HT2 : Hid (refK L l (k + 1) = refK L l k) := hide (by rw [unhide HT]; unfold refStep; rw [if_pos hc])
          clear hc HT
          go_wp2_with fail
          refine (unhide HIX).mono ?_
          rintro e w2 ⟨rfl, hb2⟩
          have HO2 := hide ((unhide HOWN).below hb2)
          have HB2 := hide ((unhide HBEL).trans (hb2.mono (unhide HBEL).size))
          clear hb2 HIX HOWN HBEL
          go_wp2
          go_roundw
          case rel => exact ⟨k + 1, by omega, by go_num, by rw [unhide HT2]; exact unhide HO2, unhide HB2⟩
          case measure => simp [intOf]; omega
      · obtain rfl : k = l.length := by omega
        have HOWN := hide hown
        have HBEL := hide ((unhide HB1).trans (hbel.mono (unhide HB1).size))
        have HSZ := hide (unhide HB1).size
        clear hown hbel
        go_wp2
        go_ret2
        exact ⟨_, rfl, by rw [unhide HRF, ← unhide HRK]; exact (unhide HOWN).lowA (unhide HSZ), unhide HBEL⟩
  · have hr : rfL L h = [] := by unfold rfL; rw [if_neg hc]
    have hn : nmL L h = [] := by unfold nmL; rw [if_neg hc]
    rw [hr]
    rw [hn] at HN
    rw [errV_pos _ hc] at HN ⊢
    clear hh hc hr hn
    generalize chkE L h = X at *
    go_enter Tryz.func14, Tryz.ntmps14
    go_wp2_with fail
    refine (unhide HN).mono ?_
    rintro e w1 ⟨a1, c1, rfl, hbs1, hb1⟩
    have HB := hide hb1
    clear hbs1 hb1 HN
    go_wp2
    go_ret2
    exact ⟨_, rfl, Lst.nil _ _, unhide HB⟩
end Go.Proofs.YtmkkiedohphpcaaGreat
