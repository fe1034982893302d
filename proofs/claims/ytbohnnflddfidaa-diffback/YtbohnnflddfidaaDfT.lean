/-
  The contract of slices.Backward over a row of changes. (Part of the proofs over package diff.)
-/
import Derived.Test.YtbohnnflddfidaaRfIn
namespace Go.Proofs.Ytbohnnflddfidaa
open Go.RowKit Go.Shelf
set_option linter.unusedVariables false

/-- The places of a row, the last first, as far as k of them. -/
def dn (m : Nat) : Nat → List { i : Nat // i < m }
  | 0 => []
  | k + 1 => if h : k < m then dn m k ++ [⟨m - 1 - k, by omega⟩] else dn m k
theorem dn_succ {m k : Nat} (h : k < m) : dn m (k + 1) = dn m k ++ [⟨m - 1 - k, by omega⟩] := by
  rw [dn, dif_pos h]
theorem dn_len {m : Nat} : ∀ {k : Nat}, k ≤ m → (dn m k).length = k
  | 0, _ => rfl
  | k + 1, h => by rw [dn_succ (by omega), List.length_append, dn_len (by omega)]; rfl
/-- What a round that goes on keeps: what lay below n0, and the box of the slice. -/
def KpT (n0 g : Nat) (W W' : World) : Prop := Below n0 W W' ∧ W'.heap[g]? = W.heap[g]?
theorem KpT.t {n0 g : Nat} {A B C : World} (h : KpT n0 g A B) (k : KpT n0 g B C) : KpT n0 g A C := ⟨h.1.trans k.1, k.2.trans h.2⟩
/-- What yield is handed for a place. -/
def encT (rs : List (Int × (Option Addr × Nat × List Int) × (Option Addr × Nat × List Int))) (x : { i : Nat // i < rs.length }) : Array Value := #[.int .i64 (x.1 : Int), .agg (rwC (rs.getD x.1 (0, (none, 0, []), (none, 0, [])))).toArray]

set_option maxRecDepth 100000 in
set_option maxHeartbeats 1000000 in
theorem backward1_in (n : Nat) (hn : 1 ≤ n) (l g n0 b off cap : Nat) (rs : List (Int × (Option Addr × Nat × List Int) × (Option Addr × Nat × List Int))) (hm : rs.length ≤ 100000) (hb : b < n0) (J Jx : List { i : Nat // i < rs.length } → World → Prop)
    (hY : ∀ pre x W, J pre W → pre.length < rs.length → YieldAt Fence.wide (n - 1) Try.prog l (encT rs x) W fun e W' =>
      (e = .returned (.bool true) ∧ J (pre ++ [x]) W' ∧ KpT n0 g W W') ∨ (e = .returned (.bool false) ∧ Jx (pre ++ [x]) W'))
    (W : World) (hg : W.cell? ⟨g, 0, none⟩ = some (.slice (some ⟨b, off, none⟩) rs.length cap)) (hc : ∀ i x, rs[i]? = some x → ∀ j u, (rwC x)[j]? = some u → W.cell? ⟨b, off + i * 3 + j, none⟩ = some u) (h0 : J [] W) :
    CallsIn Fence.wide n Try.prog 32 #[.func (.yield l) #[] #[], .pointer (some ⟨g, 0, none⟩)] W fun e W' => (∃ v, e = .returned v) ∧
      ((∃ ys, ys = dn rs.length rs.length ∧ J ys W') ∨ (∃ pre, True ∧ Jx pre W')) := by
  have HY := hide hY
  have HC := hide hc
  have HG := hide hg
  clear hY hc
  refine callsIn_of_wp Try.func32 rfl trivial ?_ rfl
  simp only [Try.ntmps32, List.size_toArray, List.length_cons, List.length_nil, Nat.reduceAdd, Nat.reduceSub, Array.replicate_succ, Array.replicate_zero, List.push_toArray, List.append_toArray, List.nil_append, List.cons_append]
  gi_wp2
  gi_loopw [3] (fun iv wr => ∃ k : Nat, k ≤ rs.length ∧ iv = .int .i64 ((rs.length : Int) - 1 - k) ∧ J (dn rs.length k) wr ∧ KpT n0 g W wr) (fun iv _ => (intOf iv + 1).toNat)
  case atStart => exact ⟨0, Nat.zero_le _, by simp, h0, Below.refl _ _, rfl⟩
  case round =>
    obtain ⟨k, hk, rfl, hJ, hkp⟩ := hrel
    by_cases hlt : k < rs.length
    · obtain ⟨q, hqe, hql⟩ : ∃ q : Nat, q = rs.length - 1 - k ∧ q < rs.length := ⟨_, rfl, by omega⟩
      have hq : (rs.length : Int) - 1 - (k : Int) = (q : Int) := by omega
      rw [hq]
      have HSN := hide (show dn rs.length (k + 1) = dn rs.length k ++ [⟨q, hql⟩] by subst hqe; exact dn_succ hlt)
      obtain ⟨fn, tmps, assign, body, hy, hR⟩ := unhide HY (dn rs.length k) ⟨q, hql⟩ wr hJ (by rw [dn_len (by omega)]; exact hlt)
      have hgd : rs.getD q (0, (none, 0, []), (none, 0, [])) = rs[q] := by simp [List.getD, hql]
      have hat : rs[q]? = some rs[q] := List.getElem?_eq_getElem hql
      unfold encT at hy
      rw [hgd] at hy
      have c0 := (hkp.1.cell (p := ⟨b, off + q * 3 + 0, none⟩) hb).trans (unhide HC _ _ hat 0 _ rfl)
      have c1 := (hkp.1.cell (p := ⟨b, off + q * 3 + 1, none⟩) hb).trans (unhide HC _ _ hat 1 _ rfl)
      have c2 := (hkp.1.cell (p := ⟨b, off + q * 3 + 2, none⟩) hb).trans (unhide HC _ _ hat 2 _ rfl)
      have hgw : wr.cell? ⟨g, 0, none⟩ = some (.slice (some ⟨b, off, none⟩) rs.length cap) := (World.cell?_of_block (a := ⟨g, 0, none⟩) hkp.2).trans hg
      rw [Nat.add_zero] at c0
      have HR := hide hR
      have HKP := hide hkp
      have HQ := hide hq
      have hpos : (rs.length : Int) - 1 - (k + 1 : Nat) = (q : Int) - 1 := by omega
      have HPOS := hide hpos
      clear hR hkp hgd hat hJ hq hqe hpos
      unfold rwC slV at hy
      unfold slV at c1 c2
      generalize rs[q] = r at c0 c1 c2 hy
      obtain ⟨x, ⟨a1, k1, O⟩, ⟨a2, k2, N⟩⟩ := r
      dsimp only at hy c0 c1 c2
      have f0 : (0 : Int) ≤ (q : Int) := by omega
      have f1 : (q : Int) < (rs.length : Int) := by omega
      gi_wp2
      refine (unhide HR).mono ?_
      rintro e W3 (⟨rfl, hJ3, hk3⟩ | ⟨rfl, hJx3⟩)
      · have HJ3 := hide hJ3
        have HK3 := hide ((unhide HKP).t hk3)
        clear hJ3 hk3
        gi_wp2
        go_roundw
        case rel => exact ⟨k + 1, by omega, by rw [unhide HPOS], by rw [unhide HSN]; exact unhide HJ3, unhide HK3⟩
        case measure => simp [intOf]
      · have HJ3 := hide hJx3
        clear hJx3
        gi_wp2
        refine bodyPost_ret (results_none rfl _ _ _) rfl ?_
        exact ⟨⟨_, rfl⟩, .inr ⟨_, trivial, unhide HJ3⟩⟩
    · obtain rfl : k = rs.length := by omega
      have t1 : ¬ (0 ≤ (rs.length : Int) - 1 - (rs.length : Int)) := by omega
      gi_wp2
      go_end0
      exact ⟨⟨_, rfl⟩, .inl hJ⟩
set_option maxRecDepth 100000 in
set_option maxHeartbeats 1000000 in
/-- .. of none: no round. -/
theorem backward1_none (n : Nat) (l g cap : Nat) (al : Option Addr) (Jy : World → Prop) (W : World) (hg : W.cell? ⟨g, 0, none⟩ = some (.slice al 0 cap)) (h0 : Jy W) :
    CallsIn Fence.wide n Try.prog 32 #[.func (.yield l) #[] #[], .pointer (some ⟨g, 0, none⟩)] W fun e W' => (∃ v, e = .returned v) ∧ Jy W' := by
  refine callsIn_of_wp Try.func32 rfl trivial ?_ rfl
  simp only [Try.ntmps32, List.size_toArray, List.length_cons, List.length_nil, Nat.reduceAdd, Nat.reduceSub, Array.replicate_succ, Array.replicate_zero, List.push_toArray, List.append_toArray, List.nil_append, List.cons_append]
  gi_wp2
  gi_loopw [3] (fun iv wr => iv = .int .i64 (-1) ∧ Jy wr) (fun _ _ => 0)
  case atStart => exact ⟨by simp, h0⟩
  case round =>
    obtain ⟨rfl, hJ⟩ := hrel
    gi_wp2
    go_end0
    exact ⟨⟨_, rfl⟩, hJ⟩
/-- slices.Backward(l): the slice is boxed; the function value captures the box. -/
theorem backward_in (n : Nat) (a : Option Addr) (m cap : Nat) (w : World) :
    CallsIn Fence.wide n Try.prog 17 #[.slice a m cap] w fun e w' => e = .returned (.func (.func 32) #[] #[.pointer (some ⟨w.heap.size, 0, none⟩)]) ∧ w' = w.alloc (.cells #[.slice a m cap] 23) := by
  refine callsIn_of_wp Try.func17 rfl trivial ?_ rfl
  simp only [Try.ntmps17, List.size_toArray, List.length_cons, List.length_nil, Nat.reduceAdd, Nat.reduceSub, Array.replicate_succ, Array.replicate_zero, List.push_toArray, List.append_toArray, List.nil_append, List.cons_append]
  gi_wp2
  go_ret
  exact ⟨rfl, rfl⟩
/-- It gives the places of a row, the last first. -/
theorem backward_stops (n : Nat) (hn : 1 ≤ n) (g n0 cap : Nat) (al : Option Addr) (rs : List (Int × (Option Addr × Nat × List Int) × (Option Addr × Nat × List Int))) (hm : rs.length ≤ 100000) (w0 w : World) (hs : Sls rwC 3 w0 al cap rs) (hn0 : w0.heap.size = n0) (hw : Below n0 w0 w) (hg : w.cell? ⟨g, 0, none⟩ = some (.slice al rs.length cap)) :
    SeqStopsK Fence.wide n Try.prog 32 #[.pointer (some ⟨g, 0, none⟩)] (encT rs) (KpT n0 g) (fun ys => ys = dn rs.length rs.length) (fun _ => True) rs.length w := fun l J Jx W hW _ _ hY h0 => by
  have hgW : W.cell? ⟨g, 0, none⟩ = some (.slice al rs.length cap) := (hW.cell (p := ⟨g, 0, none⟩) (block_lt_of_cell hg)).trans hg
  by_cases hne : rs = []
  · have hz : rs.length = 0 := by rw [hne]; rfl
    rw [hz] at hgW
    refine (backward1_none n l g cap al (J []) W hgW h0).mono ?_
    rintro e W' ⟨he, hj⟩
    refine ⟨he, .inl ⟨_, rfl, ?_⟩⟩
    have : dn rs.length rs.length = [] := List.eq_nil_of_length_eq_zero (by rw [dn_len (Nat.le_refl _), hz])
    rw [this]
    exact hj
  · obtain ⟨b, off, rfl, hc⟩ := hs.2.2.2 hne
    have hpos : 0 < rs.length := by
      cases hr : rs with
      | nil => exact absurd hr hne
      | cons _ _ => simp
    have hb : b < n0 := by
      have := hc 0 rs[0] (List.getElem?_eq_getElem hpos) 0 _ rfl
      rw [← hn0]
      exact block_lt_of_cell this
    exact backward1_in n hn l g n0 b off cap rs hm hb J Jx hY W hgW (fun i x hx j u hj => ((hw.trans (hW.mono (by rw [← hn0]; exact (hn0 ▸ hw).size))).cell (p := ⟨b, off + i * 3 + j, none⟩) hb).trans (hc i x hx j u hj)) h0
end Go.Proofs.Ytbohnnflddfidaa
