/-
  The walk of the law ImageApart. (Part of the proof of ImageApart.)
-/
import Derived.Test.YtbohnnflddfidaaApPlain
import Derived.Test.YtbohnnflddfidaaDfB
import Derived.Test.YtbohnnflddfidaaImE
import Derived.Test.YtbohnnflddfidaaImH
namespace Go.Proofs.Ytbohnnflddfidaa
open Go.RowKit
set_option linter.unusedVariables false

/-- What the walk knows of the world in which both boxes stand. -/
structure ApW (w : World) (Z : List Int) (a0 : Option Addr) (c0 : Nat) (e : (Int × Int × Int × Int)) (r : (ByteArray × Int)) (w' : World) : Prop where
  bel : Below w.heap.size w w'
  ent : EnB w' w.heap.size e
  ro : RoB w' (w.heap.size + 1) r
  bs : Bs w' a0 c0 Z
theorem ApW.below {w : World} {Z : List Int} {a0 : Option Addr} {c0 : Nat} {e : (Int × Int × Int × Int)} {r : (ByteArray × Int)} {w' w'' : World} (h : ApW w Z a0 c0 e r w') (hb : Below w'.heap.size w' w'') : ApW w Z a0 c0 e r w'' :=
  ⟨h.bel.trans (hb.mono h.bel.size), h.ent.below hb h.ent.lt, h.ro.below hb h.ro.lt, h.bs.below hb⟩

/-- Diff of an image that is all 0 and another one as long. -/
theorem ap_diff {w : World} {N : Nat} {a0 a5 : Option Addr} {c0 c5 : Nat} {C : List Int} (hz : Bs w a0 c0 (zerosB N)) (hc : Bs w a5 c5 C) (hl : C.length = N) (hN : N ≤ 6400) :
    Calls Try.prog 6 #[.slice a0 N c0, .slice a5 N c5] w fun e w' => ∃ va vc, e = .returned (.tuple #[.slice va (dfK (zerosB N) C N).length vc, .nilIface]) ∧ Chs w' va vc (dfK (zerosB N) C N) ∧ Below w.heap.size w w' := by
  have h0 := length_zerosB N
  have := diff_yes a0 a5 c0 c5 (zerosB N) C w hz hc (by rw [hl, h0]) (by rw [h0]; exact hN)
  rw [h0] at this
  refine this.mono ?_
  rintro e w' ⟨v, rfl, hch, hb⟩
  have hf := df_few (a := zerosB N) (b := C) (by rw [hl, h0]) N (by rw [h0]; exact Nat.le_refl _)
  obtain ⟨va, vc, rfl, hcs⟩ := hch.chs (by omega)
  exact ⟨va, vc, by rw [errV_zero], hcs, hb⟩

set_option maxRecDepth 100000 in
set_option maxHeartbeats 4000000 in
theorem walkImageApart (n : Int) (e : (Int × Int × Int × Int)) (i : Int) (r : (ByteArray × Int)) (w : World) (he : -9223372036854775808 ≤ e.2.1 ∧ e.2.1 ≤ 9223372036854775807) (hr : r.1.size ≤ 140737488351232) :
    Calls Try.prog 4 #[.int .i64 n, entV e, .int .i64 i, rootV r] w fun e w' => e = .returned (.bool true) ∧ Below w.heap.size w w' := by
  obtain ⟨w0, hw0⟩ : ∃ w0, w0 = (w.alloc (.cells #[.int .i64 e.1, .int .i64 e.2.1, .int .i64 e.2.2.1, .int .i64 e.2.2.2] 37)).alloc (.cells #[.string r.1, .int .i64 r.2] 39) := ⟨_, rfl⟩
  have hB0 : Below w.heap.size w w0 := by rw [hw0]; exact ((Below.refl _ _).alloc (Nat.le_refl _) _).alloc (by simp) _
  have hEN : EnB w0 w.heap.size e := by
    rw [hw0]
    exact (EnB.new w e).below ((Below.refl _ _).alloc (Nat.le_refl _) _) (by simp)
  have hRO : RoB w0 (w.heap.size + 1) r := by
    rw [hw0]
    have := RoB.new (w.alloc (.cells #[.int .i64 e.1, .int .i64 e.2.1, .int .i64 e.2.2.1, .int .i64 e.2.2.2] 37)) r
    rw [sz_alloc] at this
    exact this
  have HNEW := hide (new_any n w0)
  have HEN := hide hEN
  have HRO := hide hRO
  have HB0 := hide hB0
  clear hB0 hEN hRO
  cases hq : lenB n with
  | false =>
    have e1 : newL n = [] := by unfold newL; rw [if_neg (by rw [hq]; simp)]
    have e2 : newE n = 1 := by unfold newE; rw [if_neg (by rw [hq]; simp)]
    rw [e1, e2, errV_pos _ (by decide)] at HNEW
    have hn : ¬ (288 ≤ n ∧ n ≤ 6400) := fun h => by rw [lenB_iff.2 h] at hq; cases hq
    clear hq e1 e2
    unfold entV rootV
    go_enter Try.func4, Try.ntmps4
    go_wp2_with fail
    rw [← hw0]
    refine (unhide HNEW).mono ?_
    rintro e1 w1 ⟨a0, c0, rfl, hbs, hb1⟩
    have hbF := (unhide HB0).trans (hb1.mono (unhide HB0).size)
    clear hbs hb1
    by_cases h1 : n < 288
    · go_wp2
      go_ret
      exact ⟨rfl, hbF⟩
    · have h2 : 6400 < n := by omega
      go_wp2
      go_ret
      exact ⟨rfl, hbF⟩
  | true =>
    have hn := lenB_iff.1 hq
    obtain ⟨N, rfl⟩ : ∃ N : Nat, n = N := ⟨n.toNat, by omega⟩
    have e1 : newL (N : Int) = zerosB N := by unfold newL; rw [if_pos hq, Int.toNat_natCast]
    have e2 : newE (N : Int) = 0 := by unfold newE; rw [if_pos hq]
    rw [e1, e2, errV_zero] at HNEW
    have hz := length_zerosB N
    unfold Ends at HNEW
    rw [hz] at HNEW
    have hN : N ≤ 6400 := by omega
    have HPUT := hide (fun (a0 : Option Addr) (c0 : Nat) (w' : World) (hb : Bs w' a0 c0 (zerosB N)) => iPut_any a0 c0 (zerosB N) e w' hb he)
    have HPR := hide (fun (a0 : Option Addr) (c0 : Nat) (w' : World) (hb : Bs w' a0 c0 (zerosB N)) => iPutRoot_any a0 c0 (zerosB N) i r w' hb hr)
    unfold Ends at HPUT HPR
    rw [hz] at HPUT HPR
    have HP := hide (fun (h : putE (zerosB N) e = 0) => ap_put h)
    have HQ := hide (fun (h : prE (zerosB N) i r = 0) => (⟨ap_root h, prE_zero.1 h⟩ : _ ∧ _))
    have HPZ := hide (fun (h : putE (zerosB N) e = 0) => hndB_iff.1 (putE_zero.1 h).2.1)
    have HDF := hide (fun (a0 a5 : Option Addr) (c0 c5 : Nat) (C : List Int) (w' : World) (h1 : Bs w' a0 c0 (zerosB N)) (h2 : Bs w' a5 c5 C) (h3 : C.length = N) => ap_diff h1 h2 h3 hN)
    generalize putE (zerosB N) e = pE at *
    generalize putL (zerosB N) e = pL at *
    generalize prE (zerosB N) i r = qE at *
    generalize prL (zerosB N) i r = qL at *
    generalize zerosB N = Z at *
    clear hq e1 e2 hz
    unfold entV at HPUT ⊢
    unfold rootV at HPR ⊢
    obtain ⟨x1, x2, x3, x4⟩ := e
    obtain ⟨r1, r2⟩ := r
    dsimp only at *
    go_enter Try.func4, Try.ntmps4
    go_wp2_with fail
    rw [← hw0]
    clear hw0
    refine (unhide HNEW).mono ?_
    rintro e1 w1 ⟨a0, c0, rfl, hbs1, hb1⟩
    have hap1 : ApW w Z a0 c0 (x1, x2, x3, x4) (r1, r2) w1 := ⟨(unhide HB0).trans (hb1.mono (unhide HB0).size), (unhide HEN).below hb1 (unhide HEN).lt, (unhide HRO).below hb1 (unhide HRO).lt, hbs1⟩
    clear hbs1 hb1 HNEW HEN HRO HB0
    obtain ⟨p0, p1, p2, p3⟩ := hap1.ent.cells
    have HAP1 := hide hap1
    dsimp only at p0 p1 p2 p3
    clear hap1
    go_wp2_with fail
    refine (unhide HPUT a0 c0 w1 (unhide HAP1).bs).mono ?_
    rintro e2 w2 ⟨a2, c2, rfl, hbs2, hb2⟩
    have hap2 := (unhide HAP1).below hb2
    clear hb2 HPUT HAP1 p0 p1 p2 p3
    by_cases hpz : pE = 0
    · obtain ⟨hpl, hpn, hpr⟩ := unhide HP hpz
      obtain ⟨hx1, hx40⟩ := unhide HPZ hpz
      rw [hpz, errV_zero, hpl]
      have HD2 := hide (unhide HDF a0 a2 c0 c2 pL w2 hap2.bs hbs2 hpl)
      have HAP2 := hide hap2
      have HPR2 := hide hpr
      clear hap2 hbs2 hpr
      go_wp2_with fail
      refine (unhide HD2).mono ?_
      rintro e3 w3 ⟨va3, vc3, rfl, hcs3, hb3⟩
      have hap3 := (unhide HAP2).below hb3
      have hlen3 := hcs3.len
      have HCS3 := hide hcs3
      obtain ⟨s0, s1⟩ := hap3.ro.cells
      obtain ⟨p0, p1, p2, p3⟩ := hap3.ent.cells
      dsimp only at s0 s1 p0 p1 p2 p3
      have HAP3 := hide hap3
      generalize dfK Z pL N = D3 at *
      have hDl0 := hlen3.1
      clear hcs3 hap3 hb3 HD2 HAP2
      have t1 : ¬ ((D3.length : Int) < 1) := by omega
      go_wp2_with fail
      go_loopw [15] (fun kv wr => ∃ k m : Nat, k ≤ D3.length ∧ kv = .int .i64 k ∧ wr = w3.drewN m) (fun kv _ => D3.length - (intOf kv).toNat)
      case atStart => exact ⟨0, 0, Nat.zero_le _, rfl, rfl⟩
      case round =>
        obtain ⟨k, m, hk, rfl, rfl⟩ := hrel
        by_cases hlt : k < D3.length
        · obtain ⟨b, off, y1, d1, y2, d2, rfl, q0, q1, q2, _, qb⟩ := (unhide HCS3).at hlt
          obtain ⟨g1, g2, g3⟩ := unhide HPR2 _ (getD_mem hlt)
          have qbl := qb.2.2.1
          clear qb
          generalize (D3.getD k (0, [], [])).1 = X at *
          generalize (D3.getD k (0, [], [])).2.1 = O at *
          generalize (D3.getD k (0, [], [])).2.2.length = nl at *
          have u1 : decide (X < 5 * (x1 - 1)) = false := decide_eq_false (by omega)
          have u2 : decide (5 * x1 < X + nl) = false := decide_eq_false (by omega)
          go_wp2_with fail
          go_quiet (fail)
          go_wp2
          go_roundw
          case rel => exact ⟨k + 1, m + nq, by omega, by go_num, rfl⟩
          case measure => simp [intOf]; omega
        · obtain rfl : k = D3.length := by omega
          go_wp2_with fail
          have hap4 : ApW w Z a0 c0 (x1, x2, x3, x4) (r1, r2) (w3.drewN m) := (unhide HAP3).below (below_drewN (Below.refl _ _) m)
          generalize w3.drewN m = w4 at hap4 ⊢
          refine (unhide HPR a0 c0 _ hap4.bs).mono ?_
          rintro e5 w5 ⟨a5, c5, rfl, hbs5, hb5⟩
          have hap5 := hap4.below hb5
          by_cases hqz : qE = 0
          · obtain ⟨⟨hql, hqn, hqr⟩, _, hi0, hi7, _⟩ := unhide HQ hqz
            rw [hqz, errV_zero, hql]
            have HD5 := hide (unhide HDF a0 a5 c0 c5 qL w5 hap5.bs hbs5 hql)
            have HAP5 := hide hap5
            have HQR := hide hqr
            clear hap5 hbs5 hb5 hqr HDF HPR
            go_wp2_with fail
            refine (unhide HD5).mono ?_
            rintro e6 w6 ⟨va6, vc6, rfl, hcs6, hb6⟩
            have hap6 := (unhide HAP5).below hb6
            obtain ⟨s0, s1⟩ := hap6.ro.cells
            have hlen6 := hcs6.len
            have HCS6 := hide hcs6
            have HAP6 := hide hap6
            generalize dfK Z qL N = D6 at *
            have hDl6 := hlen6.1
            clear hcs6 hap6 hb6 HD5 HAP5 HQ
            dsimp only at s0 s1
            by_cases hnm : r1.size = 0
            · have hr1 : r1 = { data := #[] } := by
                obtain ⟨⟨l⟩⟩ := r1
                have : l = [] := List.eq_nil_of_length_eq_zero hnm
                rw [this]
              have hd0 : D6.length = 0 := by
                rcases Nat.eq_zero_or_pos D6.length with h | h
                · exact h
                · exact absurd hnm (hqn.1 h)
              obtain rfl : D6 = [] := List.eq_nil_of_length_eq_zero hd0
              subst hr1
              clear hqn hnm hd0
              go_wp2_with fail
              go_loop [18] (fun kv => kv = .int .i64 0) (fun _ => 0)
              case atStart => rfl
              case round =>
                obtain rfl := hrel
                go_wp2
                go_ret
                exact ⟨rfl, (unhide HAP6).bel⟩
            · have hd1 := hqn.2 hnm
              have hr1 : ¬ r1 = { data := #[] } := fun h => hnm (by rw [h]; rfl)
              have hemp : r1.toList.isEmpty = false := by
                rw [Bool.eq_false_iff]
                intro h
                rw [List.isEmpty_iff, ByteArray.toList_eq] at h
                exact hnm (by show r1.data.toList.length = 0; rw [h]; rfl)
              have HEM := hide hemp
              clear hqn hemp
              go_wp2_with fail
              · exact absurd (show (!decide (0 < D6.length) == !r1.toList.isEmpty) = true by assumption) (by rw [decide_eq_true (show 0 < D6.length by omega), unhide HEM]; decide)
              go_loopw [18] (fun kv wr => ∃ k m : Nat, k ≤ D6.length ∧ kv = .int .i64 k ∧ wr = w6.drewN m) (fun kv _ => D6.length - (intOf kv).toNat)
              case atStart => exact ⟨0, 0, Nat.zero_le _, rfl, rfl⟩
              case round =>
                obtain ⟨k, m, hk, rfl, rfl⟩ := hrel
                by_cases hlt : k < D6.length
                · obtain ⟨b, off, y1, d1, y2, d2, rfl, q0, q1, q2, _, qb⟩ := (unhide HCS6).at hlt
                  obtain ⟨g1, g2, g3⟩ := unhide HQR _ (getD_mem hlt)
                  have qbl := qb.2.2.1
                  clear qb
                  generalize (D6.getD k (0, [], [])).1 = X at *
                  generalize (D6.getD k (0, [], [])).2.1 = O at *
                  generalize (D6.getD k (0, [], [])).2.2.length = nl at *
                  have u1 : decide (X < 200 + 11 * i) = false := decide_eq_false (by omega)
                  have u2 : decide (211 + 11 * i < X + nl) = false := decide_eq_false (by omega)
                  go_wp2_with fail
                  go_quiet (fail)
                  go_wp2
                  go_roundw
                  case rel => exact ⟨k + 1, m + nq, by omega, by go_num, rfl⟩
                  case measure => simp [intOf]; omega
                · obtain rfl : k = D6.length := by omega
                  go_wp2
                  go_ret
                  exact ⟨rfl, below_drewN (unhide HAP6).bel m⟩
          · rw [errV_pos _ hqz]
            clear hbs5
            go_wp2
            go_ret
            exact ⟨rfl, hap5.bel⟩
    · rw [errV_pos _ hpz]
      obtain ⟨s0, s1⟩ := hap2.ro.cells
      dsimp only at s0 s1
      clear hbs2
      go_wp2_with fail
      refine (unhide HPR a0 c0 _ hap2.bs).mono ?_
      rintro e5 w5 ⟨a5, c5, rfl, hbs5, hb5⟩
      have hap5 := hap2.below hb5
      by_cases hqz : qE = 0
      · obtain ⟨⟨hql, hqn, hqr⟩, _, hi0, hi7, _⟩ := unhide HQ hqz
        rw [hqz, errV_zero, hql]
        have HD5 := hide (unhide HDF a0 a5 c0 c5 qL w5 hap5.bs hbs5 hql)
        have HAP5 := hide hap5
        have HQR := hide hqr
        clear hap5 hbs5 hb5 hqr HDF HPR
        go_wp2_with fail
        refine (unhide HD5).mono ?_
        rintro e6 w6 ⟨va6, vc6, rfl, hcs6, hb6⟩
        have hap6 := (unhide HAP5).below hb6
        obtain ⟨s0, s1⟩ := hap6.ro.cells
        have hlen6 := hcs6.len
        have HCS6 := hide hcs6
        have HAP6 := hide hap6
        generalize dfK Z qL N = D6 at *
        have hDl6 := hlen6.1
        clear hcs6 hap6 hb6 HD5 HAP5 HQ
        dsimp only at s0 s1
        by_cases hnm : r1.size = 0
        · have hr1 : r1 = { data := #[] } := by
            obtain ⟨⟨l⟩⟩ := r1
            have : l = [] := List.eq_nil_of_length_eq_zero hnm
            rw [this]
          have hd0 : D6.length = 0 := by
            rcases Nat.eq_zero_or_pos D6.length with h | h
            · exact h
            · exact absurd hnm (hqn.1 h)
          obtain rfl : D6 = [] := List.eq_nil_of_length_eq_zero hd0
          subst hr1
          clear hqn hnm hd0
          go_wp2_with fail
          go_loop [18] (fun kv => kv = .int .i64 0) (fun _ => 0)
          case atStart => rfl
          case round =>
            obtain rfl := hrel
            go_wp2
            go_ret
            exact ⟨rfl, (unhide HAP6).bel⟩
        · have hd1 := hqn.2 hnm
          have hr1 : ¬ r1 = { data := #[] } := fun h => hnm (by rw [h]; rfl)
          have hemp : r1.toList.isEmpty = false := by
            rw [Bool.eq_false_iff]
            intro h
            rw [List.isEmpty_iff, ByteArray.toList_eq] at h
            exact hnm (by show r1.data.toList.length = 0; rw [h]; rfl)
          have HEM := hide hemp
          clear hqn hemp
          go_wp2_with fail
          · exact absurd (show (!decide (0 < D6.length) == !r1.toList.isEmpty) = true by assumption) (by rw [decide_eq_true (show 0 < D6.length by omega), unhide HEM]; decide)
          go_loopw [18] (fun kv wr => ∃ k m : Nat, k ≤ D6.length ∧ kv = .int .i64 k ∧ wr = w6.drewN m) (fun kv _ => D6.length - (intOf kv).toNat)
          case atStart => exact ⟨0, 0, Nat.zero_le _, rfl, rfl⟩
          case round =>
            obtain ⟨k, m, hk, rfl, rfl⟩ := hrel
            by_cases hlt : k < D6.length
            · obtain ⟨b, off, y1, d1, y2, d2, rfl, q0, q1, q2, _, qb⟩ := (unhide HCS6).at hlt
              obtain ⟨g1, g2, g3⟩ := unhide HQR _ (getD_mem hlt)
              have qbl := qb.2.2.1
              clear qb
              generalize (D6.getD k (0, [], [])).1 = X at *
              generalize (D6.getD k (0, [], [])).2.1 = O at *
              generalize (D6.getD k (0, [], [])).2.2.length = nl at *
              have u1 : decide (X < 200 + 11 * i) = false := decide_eq_false (by omega)
              have u2 : decide (211 + 11 * i < X + nl) = false := decide_eq_false (by omega)
              go_wp2_with fail
              go_quiet (fail)
              go_wp2
              go_roundw
              case rel => exact ⟨k + 1, m + nq, by omega, by go_num, rfl⟩
              case measure => simp [intOf]; omega
            · obtain rfl : k = D6.length := by omega
              go_wp2
              go_ret
              exact ⟨rfl, below_drewN (unhide HAP6).bel m⟩
      · rw [errV_pos _ hqz]
        clear hbs5
        go_wp2
        go_ret
        exact ⟨rfl, hap5.bel⟩
end Go.Proofs.Ytbohnnflddfidaa
