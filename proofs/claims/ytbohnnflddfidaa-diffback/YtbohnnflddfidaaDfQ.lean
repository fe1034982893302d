/-
  The contract of diff.Pages. (Part of the proofs over package diff.)
-/
import Derived.Test.YtbohnnflddfidaaDfP
import Derived.Test.YtbohnnflddfidaaApPlain
namespace Go.Proofs.Ytbohnnflddfidaa
open Go.RowKit Go.MapKept Go.ChangeMaps Go.Sort Go.Shelf
set_option linter.unusedVariables false

theorem PgM.ext {w : World} {gm q : Nat} {t s : Nat → Bool} (h : PgM w gm q t) (e : ∀ j, t j = s j) : PgM w gm q s := by
  have : t = s := funext e
  rw [← this]
  exact h
theorem touch_next {l : List (Int × List Int × List Int)} {k X n p : Nat} (hk : k < l.length) (hx : (l.getD k (0, [], [])).1 = (X : Int)) (hn : (l.getD k (0, [], [])).2.2.length = n) (h1 : X ≤ p) (h2 : p = X ∨ (p % 32 = 0 ∧ p < X + n + 32 ∧ X < X + n)) (h3 : X + n ≤ p) (j : Nat) :
    (touch (l.take k) j || inP X p j) = touch (l.take (k + 1)) j := by
  rw [take_snoc hk, touch_snoc, hx, hn, Int.toNat_natCast]
  congr 1
  rw [Bool.eq_iff_iff, inP_all h1 h2 h3 j, List.any_eq_true]
  constructor
  · rintro ⟨i, hi, e⟩
    exact ⟨i, List.mem_range.2 hi, by simpa using e⟩
  · rintro ⟨i, hi, e⟩
    exact ⟨i, List.mem_range.1 hi, by simpa using e⟩
set_option maxRecDepth 100000 in
set_option maxHeartbeats 1000000 in
theorem pages_yes (al : Option Addr) (cl : Nat) (l : List (Int × List Int × List Int)) (w : World) (hl : Chs w al cl l) (h0 : pgE l = 0) (hn : l.length ≤ 100000) :
    Calls Try.prog 12 #[.slice al l.length cl] w fun e w' => ∃ v, ∃ P : List Int, e = .returned (.tuple #[v, .nilIface]) ∧ w'.ownsRow w.heap.size 3 1 v P.length (P.map encZ) ∧ P.length ≤ 200 ∧ (∀ z, z ∈ P ↔ ∃ j : Nat, z = j ∧ touch l j = true) ∧ Below w.heap.size w w' := by
  have hmm := @run_makeMap Try.prog
  have HL := hide hl
  have HP := hide (fun (k : Nat) (hk : k < l.length) => pgE_at h0 _ (getD_mem hk))
  have HT := hide (fun (j : Nat) (hj : touch l j = true) => touch_lt h0 hj)
  have HNX := hide (fun (k X n p : Nat) (hk : k < l.length) hx hn h1 h2 h3 => touch_next (l := l) (k := k) (X := X) (n := n) (p := p) hk hx hn h1 h2 h3)
  clear hl h0
  generalize hm : l.length = m at *
  have HM := hide hm
  clear hm
  go_enter Try.func12, Try.ntmps12
  go_wp2_with fail
  go_loopw [12] (fun kv wr => ∃ k q : Nat, k ≤ m ∧ kv = .int .i64 k ∧ q ≤ 201 * k ∧ PgM wr w.heap.size q (touch (l.take k)) ∧ Below w.heap.size w wr) (fun kv _ => m - (intOf kv).toNat)
  case atStart => exact ⟨0, 0, Nat.zero_le _, rfl, Nat.le_refl _, PgM.made w, (Below.refl _ w).alloc (Nat.le_refl _) _⟩
  case round =>
    obtain ⟨k, q, hk, rfl, hq, hpm, hbel⟩ := hrel
    by_cases hlt : k < m
    · have hkl : k < l.length := by rw [unhide HM]; exact hlt
      obtain ⟨b, off, s1, d1, s2, d2, rfl, q0, q1, q2, h1, h2⟩ := ((unhide HL).below hbel).at hkl
      obtain ⟨g0, g1, g2⟩ := unhide HP k hlt
      have hnx := fun X n p => unhide HNX k X n p hlt
      generalize l.getD k (0, [], []) = c at *
      obtain ⟨x, O, N⟩ := c
      dsimp only at *
      obtain ⟨X, rfl⟩ := Int.eq_ofNat_of_zero_le g0
      have hOl := h1.2.2.1
      have hbA : Below wr.heap.size wr (wr.alloc (.cells #[.int .i64 X, .slice s1 O.length d1, .slice s2 N.length d2] 29)) := (Below.refl _ wr).alloc (Nat.le_refl _) _
      have hBA : Hid ((wr.alloc (.cells #[.int .i64 X, .slice s1 O.length d1, .slice s2 N.length d2] 29)).heap[wr.heap.size]? = some (.cells #[.int .i64 X, .slice s1 O.length d1, .slice s2 N.length d2] 29 (0, 0))) := hide (heap_alloc_new wr _)
      have HW := hide (within_yes X s1 s2 O.length d1 N.length d2 (wr.alloc (.cells #[.int .i64 X, .slice s1 O.length d1, .slice s2 N.length d2] 29)) g0 g1 g2)
      unfold chV at HW
      have HNX2 := hide (fun p h1 h2 h3 => hnx X N.length p rfl rfl h1 h2 h3)
      have HPM := hide (hpm.same (hbA.block _ hpm.lt))
      have HBT := hide (hbel.trans (hbA.mono hbel.size))
      have hszA : w.heap.size < wr.heap.size := hpm.lt
      generalize O.length = o at *
      generalize hNn : N.length = n at *
      clear h1 h2 hnx hpm hbel hNn hbA
      go_wp2_with fail
      refine (unhide HW).mono ?_
      rintro e w2 ⟨rfl, hb2⟩
      have hblk : w2.heap[wr.heap.size]? = some (.cells #[.int .i64 X, .slice s1 o d1, .slice s2 n d2] 29 (0, 0)) := (hb2.block _ (by simp)).trans (unhide hBA)
      have HPM2 := hide ((unhide HPM).same (hb2.block _ (by simp; omega)))
      have HB2 := hide ((unhide HBT).trans (hb2.mono (unhide HBT).size))
      have e0 : w2.cell? ⟨wr.heap.size, 0, none⟩ = some (.int .i64 X) := by rw [cell_of_row _ _ _ _ _ _ hblk]; rfl
      have e2 : w2.cell? ⟨wr.heap.size, 2, none⟩ = some (.slice s2 n d2) := by rw [cell_of_row _ _ _ _ _ _ hblk]; rfl
      clear hb2 hblk HPM HBT HW hBA
      have hX1 : (X : Int) + n ≤ 6400 := by omega
      go_wp2_with fail
      go_loopw [8] (fun av wq => ∃ p q' : Nat, av = .int .i64 p ∧ X ≤ p ∧ (p = X ∨ (p % 32 = 0 ∧ p < X + n + 32 ∧ X < X + n)) ∧ q' ≤ 201 * k + (p / 32 - X / 32) ∧ PgM wq w.heap.size q' (fun j => touch (l.take k) j || inP X p j) ∧ Below w.heap.size w wq) (fun av _ => X + n + 64 - (intOf av).toNat)
      case atStart => exact ⟨X, q, rfl, Nat.le_refl _, .inl rfl, by omega, (unhide HPM2).ext (fun j => by rw [inP_zero, Bool.or_false]), unhide HB2⟩
      case round =>
        obtain ⟨p, q', rfl, hXp, hpd, hq', hpm, hbel⟩ := hrel
        by_cases hpl : p < X + n
        · obtain ⟨c, hlook⟩ := hpm.look (p / 32) (by omega)
          obtain ⟨w4, hst, hpm4, htn⟩ := hpm.store (by omega) (p / 32) (by omega) (wrap64 (c + 1)) (wrap64_wf _)
          have e1 : ((p / 32 : Nat) : Int) = (p : Int) / 32 := by omega
          rw [e1] at hlook hst
          have HPM4 := hide hpm4
          have HB4 := hide (hbel.grown htn.grown hbel.size (fun j hj => by cases hj; exact Nat.le_refl _))
          have t1 : (p : Int) < (X : Int) + n := by omega
          clear hpm hbel hpm4 htn
          go_wp2
          go_roundw
          case rel =>
            refine ⟨p + (32 - p % 32), q' + 1, ?_, by omega, .inr (by omega), by omega, (unhide HPM4).ext (fun j => by rw [inP_step hXp, Bool.or_assoc]), unhide HB4⟩
            congr 1
            omega
          case measure => simp [intOf]; omega
        · have HPM3 := hide (hpm.ext (unhide HNX2 p hXp hpd (by omega)))
          have HB3 := hide hbel
          have t1 : ¬ ((p : Int) < (X : Int) + n) := by omega
          clear hpm hbel
          go_wp2
          go_roundw
          case rel => exact ⟨k + 1, q', by omega, by go_num, by omega, unhide HPM3, unhide HB3⟩
          case measure => simp [intOf]; omega
    · obtain rfl : k = m := by omega
      have hfl : l.take k = l := by rw [← unhide HM, List.take_length]
      rw [hfl] at hpm
      have HK := hide (keysP_any w.heap.size wr)
      have HS := hide (sortedP_any w.heap.size q (touch l) wr hpm (unhide HT))
      have HB := hide hbel
      clear hpm hbel
      go_wp2_with fail
      refine (unhide HK).mono ?_
      rintro e w2 ⟨rfl, rfl⟩
      go_wp2_with fail
      refine (unhide HS).mono ?_
      rintro e w3 ⟨v, P, rfl, hrow, hP, hmem, hb3⟩
      have HR := hide (ownsRow_base_a (base' := w.heap.size) hrow (unhide HB).size)
      have HB3 := hide ((unhide HB).trans (hb3.mono (unhide HB).size))
      have HMEM := hide hmem
      clear hrow hb3 hmem HS HK
      go_wp2
      go_ret2
      exact ⟨v, P, rfl, unhide HR, hP, unhide HMEM, unhide HB3⟩
end Go.Proofs.Ytbohnnflddfidaa
