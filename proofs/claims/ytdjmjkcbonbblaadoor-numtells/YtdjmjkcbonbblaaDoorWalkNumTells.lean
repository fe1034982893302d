/-
  The walk of the law NumTells. (Part of the proof of NumTells.)
-/
import Derived.Test.YtdjmjkcbonbblaaDoorNumOut
import Derived.Test.YtdjmjkcbonbblaaDoorNumSame
namespace Go.Proofs.YtdjmjkcbonbblaaDoor
open Go.RowKit
set_option linter.unusedVariables false

/-- What stays while the law goes on. -/
def NtInv (w : World) (a0 : Option Addr) (cap0 : Nat) (l0 : List Int) (a5 : Option Addr) (cap5 : Nat) (l5 : List Int) (W : World) : Prop :=
  Below w.heap.size w W ∧ ErrT W ∧ Bs W a0 cap0 l0 ∧ Bs W a5 cap5 l5
theorem NtInv.step {w : World} {a0 : Option Addr} {cap0 : Nat} {l0 : List Int} {a5 : Option Addr} {cap5 : Nat} {l5 : List Int} {W W' : World} (h : NtInv w a0 cap0 l0 a5 cap5 l5 W) (hb : Below W.heap.size W W') : NtInv w a0 cap0 l0 a5 cap5 l5 W' :=
  ⟨h.1.trans (hb.mono h.1.size), h.2.1.below hb, h.2.2.1.below hb, h.2.2.2.below hb⟩

set_option maxRecDepth 100000 in
set_option maxHeartbeats 4000000 in
theorem nt_yes (a0 : Option Addr) (cap0 : Nat) (l0 : List Int) (a1 a2 a3 : Int) (a4 : ByteArray) (a5 : Option Addr) (cap5 : Nat) (l5 : List Int) (w : World) (hg : ErrT w) (w0 : Bs w a0 cap0 l0) (b1 : -9223372036854775808 ≤ a1 ∧ a1 ≤ 9223372036854775807) (b4 : a4.size ≤ 140737488351232) (w5 : Bs w a5 cap5 l5) (hname : NameOk a4) :
    Calls Tryd.prog 3 #[.slice a0 l0.length cap0, .int .i64 a1, .int .i64 a2, .int .i64 a3, .string a4, .slice a5 l5.length cap5] w fun e w' => e = .returned (.bool true) ∧ Below w.heap.size w w' := by
  have I0 : NtInv w a0 cap0 l0 a5 cap5 l5 w := ⟨Below.refl _ _, hg, w0, w5⟩
  have hrp := hide (fun W (h : Bs W a0 cap0 l0) => rPut_any a0 cap0 l0 a1 a2 a3 W h b1)
  have hpp := hide (fun W (h : Bs W a0 cap0 l0) => put_any a0 cap0 l0 a1 a2 a3 W h)
  generalize putOut l0 a1 a2 a3 = po at hrp hpp
  obtain ⟨L, X⟩ := po
  have hrg := hide (fun W (h : Bs W a0 cap0 l0) => rGet a0 cap0 l0 a1 a3 W h b1)
  have hpg := hide (fun W (h : Bs W a0 cap0 l0) => get_any a0 cap0 l0 a1 a3 W h)
  generalize getOut l0 a1 a3 = go at hrg hpg
  obtain ⟨V, Y⟩ := go
  have hrr := hide (fun W (h : Bs W a5 cap5 l5) => rRead_any a5 cap5 l5 W h)
  have hpr := hide (fun W (h : Bs W a5 cap5 l5) => getName_any a5 cap5 l5 W h)
  generalize readOut l5 = ro at hrr hpr
  obtain ⟨S, Z⟩ := ro
  have HN := hide hname
  have hl0 := w0.2.2.1
  have hl5 := w5.2.2.1
  clear hg w0 w5 b1 hname
  go_enter Tryd.func3, Tryd.ntmps3
  go_wp2_with fail
  refine (unhide hrp w I0.2.2.1).mono ?_
  rintro e w1 ⟨x1, c1, rfl, hx1, hb1⟩
  have I1 := I0.step hb1
  go_wp2_with fail
  refine (unhide hpp w1 I1.2.2.1).mono ?_
  rintro e w2 ⟨x2, c2, rfl, hx2, hb2⟩
  have I2 := I1.step hb2
  have hx1 := hx1.below hb2
  go_wp2_with fail
  refine (error_same X w2 I2.2.1).mono ?_
  rintro e w3 ⟨rfl, hb3⟩
  have I3 := I2.step hb3
  have hx1 := hx1.below hb3
  have hx2 := hx2.below hb3
  clear I0 I1 I2 hb1 hb2 hb3
  go_wp2_with fail
  refine (unhide hrg w3 I3.2.2.1).mono ?_
  rintro e w3a ⟨rfl, rfl⟩
  go_wp2_with fail
  refine (unhide hpg w3 I3.2.2.1).mono ?_
  rintro e w3a ⟨rfl, rfl⟩
  go_wp2_with fail
  refine (error_same Y w3 I3.2.1).mono ?_
  rintro e w3b ⟨rfl, hb3⟩
  have I3 := I3.step hb3
  have hx1 := hx1.below hb3
  have hx2 := hx2.below hb3
  clear hb3
  obtain ⟨w3, rfl⟩ : ∃ W : World, W = w3b := ⟨_, rfl⟩
  go_wp2_with fail
  refine (rName_yes a4 _ (unhide HN)).mono ?_
  rintro e w3a ⟨rfl, rfl⟩
  go_wp2_with fail
  refine (rNameBytes_any a4 _ (unhide HN)).mono ?_
  rintro e w4 ⟨x4, c4, rfl, hx4, hb4⟩
  have I4 := I3.step hb4
  have hx1 := hx1.below hb4
  have hx2 := hx2.below hb4
  have HL : Hid ((nameL a4).length = 8) := hide (length_nameL a4 (unhide HN).2.1)
  clear I3
  go_wp2_with fail
  refine (putName_any a4 _ b4 (nameL a4) 0 (Or.inl ⟨unhide HN, rfl, rfl⟩)).mono ?_
  rintro e w5 ⟨x5, c5, rfl, hx5, hb5⟩
  have I5 := I4.step hb5
  have hx1 := hx1.below hb5
  have hx2 := hx2.below hb5
  have hx4 := hx4.below hb5
  clear I4 hb5
  go_wp2_with fail
  refine (error_same 0 w5 I5.2.1).mono ?_
  rintro e w6 ⟨rfl, hb6⟩
  have I6 := I5.step hb6
  have hx1 := hx1.below hb6
  have hx2 := hx2.below hb6
  have hx4 := hx4.below hb6
  have hx5 := hx5.below hb6
  clear I5 hb6
  go_wp2_with fail
  refine (unhide hrr w6 I6.2.2.2).mono ?_
  rintro e w6a ⟨rfl, rfl⟩
  go_wp2_with fail
  refine (unhide hpr w6 I6.2.2.2).mono ?_
  rintro e w7 ⟨rfl, hb7⟩
  have I7 := I6.step hb7
  have hx1 := hx1.below hb7
  have hx2 := hx2.below hb7
  have hx4 := hx4.below hb7
  have hx5 := hx5.below hb7
  clear I6 hb7
  go_wp2_with fail
  refine (error_same Z w7 I7.2.1).mono ?_
  rintro e w8 ⟨rfl, hb8⟩
  have I8 := I7.step hb8
  have hx1 := hx1.below hb8
  have hx2 := hx2.below hb8
  have hx4 := hx4.below hb8
  have hx5 := hx5.below hb8
  clear I7 hb8 hrp hpp hrg hpg hrr hpr
  go_wp2_with fail
  go_loopw [28] (fun i wr => ∃ k n : Nat, k ≤ l0.length ∧ k ≤ l5.length ∧ i = .int .i64 k ∧ wr = w8.drewN n ∧ ∀ j, j < k → (l0.getD j 0 != l5.getD j 0) = false) (fun i _ => l0.length - (intOf i).toNat)
  case atStart => exact ⟨0, 0, by omega, by omega, rfl, rfl, fun j hj => absurd hj (Nat.not_lt_zero j)⟩
  case round =>
    obtain ⟨k, n, hk0, hk5, rfl, rfl, hall⟩ := hrel
    have HA := hide hall
    clear hall
    by_cases h0 : k < l0.length
    · by_cases h5 : k < l5.length
      · obtain ⟨ba, oa, rfl, hca⟩ := I8.2.2.1.at k h0
        obtain ⟨bc, oc, rfl, hcc⟩ := I8.2.2.2.at k h5
        cases hbb : (l0.getD k 0 != l5.getD k 0)
        · have HB := hide hbb
          have heq : (l0.getD k 0 == l5.getD k 0) = true := by simpa [bne] using hbb
          clear hbb
          generalize l0.getD k 0 = c at hca heq
          generalize l5.getD k 0 = d at hcc heq
          go_wp2
          go_quiet (fail)
          go_wp2
          go_roundw
          case rel => exact ⟨k + 1, _, by omega, by omega, by go_num, rfl, First.step (unhide HA) (unhide HB)⟩
          case measure => simp [intOf]; omega
        · have hne : (l0.getD k 0 == l5.getD k 0) = false := by simpa [bne] using hbb
          have hF : Hid (First (fun j => (l0.getD j 0 != l5.getD j 0)) (min l0.length l5.length) k) := hide ⟨by omega, unhide HA, fun _ => hbb⟩
          have hs1 := I8.2.2.1
          have hs5 := I8.2.2.2
          clear hbb
          generalize l0.getD k 0 = c at hca hne
          generalize l5.getD k 0 = d at hcc hne
          go_wp2
          go_quiet (fail)
          have cv1 := fun m => conv_str (P := Tryd.prog) (t := 22) (e := 9) Tryd.underlying22 Tryd.underlying5 Tryd.underlying9 (hx1.drewN m)
          have cv2 := fun m => conv_str (P := Tryd.prog) (t := 22) (e := 9) Tryd.underlying22 Tryd.underlying5 Tryd.underlying9 (hx2.drewN m)
          have cv4 := fun m => conv_str (P := Tryd.prog) (t := 22) (e := 9) Tryd.underlying22 Tryd.underlying5 Tryd.underlying9 (hx4.drewN m)
          have cv5 := fun m => conv_str (P := Tryd.prog) (t := 22) (e := 9) Tryd.underlying22 Tryd.underlying5 Tryd.underlying9 (hx5.drewN m)
          generalize strOf L = s1 at *
          generalize strOf (nameL a4) = s2 at *
          go_wp2_with fail
          refine (same_any _ _ _ _ l0 l5 _ (hs1.drewN _) (hs5.drewN _)).mono ?_
          rintro e w9 ⟨i, rfl, hi, hb9⟩
          obtain rfl : i = k := hi.unique (unhide hF)
          clear hi
          go_wp2
          go_ret
          exact ⟨rfl, (below_drewN I8.1 _).trans (hb9.mono (by exact I8.1.size))⟩
      · have hd0 : decide ((k : Int) < (l0.length : Int)) = true := by simp; omega
        have hd5 : decide ((k : Int) < (l5.length : Int)) = false := by simp; omega
        have hF : Hid (First (fun j => (l0.getD j 0 != l5.getD j 0)) (min l0.length l5.length) k) := hide ⟨by omega, unhide HA, fun h => by omega⟩
        have hs1 := I8.2.2.1
        have hs5 := I8.2.2.2
        go_wp2
        go_quiet (fail)
        have cv1 := fun m => conv_str (P := Tryd.prog) (t := 22) (e := 9) Tryd.underlying22 Tryd.underlying5 Tryd.underlying9 (hx1.drewN m)
        have cv2 := fun m => conv_str (P := Tryd.prog) (t := 22) (e := 9) Tryd.underlying22 Tryd.underlying5 Tryd.underlying9 (hx2.drewN m)
        have cv4 := fun m => conv_str (P := Tryd.prog) (t := 22) (e := 9) Tryd.underlying22 Tryd.underlying5 Tryd.underlying9 (hx4.drewN m)
        have cv5 := fun m => conv_str (P := Tryd.prog) (t := 22) (e := 9) Tryd.underlying22 Tryd.underlying5 Tryd.underlying9 (hx5.drewN m)
        generalize strOf L = s1 at *
        generalize strOf (nameL a4) = s2 at *
        go_wp2_with fail
        refine (same_any _ _ _ _ l0 l5 _ (hs1.drewN _) (hs5.drewN _)).mono ?_
        rintro e w9 ⟨i, rfl, hi, hb9⟩
        obtain rfl : i = k := hi.unique (unhide hF)
        clear hi
        go_wp2
        go_ret
        exact ⟨rfl, (below_drewN I8.1 _).trans (hb9.mono (by exact I8.1.size))⟩
    · have hd0 : decide ((k : Int) < (l0.length : Int)) = false := by simp; omega
      have hF : Hid (First (fun j => (l0.getD j 0 != l5.getD j 0)) (min l0.length l5.length) k) := hide ⟨by omega, unhide HA, fun h => by omega⟩
      have hs1 := I8.2.2.1
      have hs5 := I8.2.2.2
      go_wp2
      go_quiet (fail)
      have cv1 := fun m => conv_str (P := Tryd.prog) (t := 22) (e := 9) Tryd.underlying22 Tryd.underlying5 Tryd.underlying9 (hx1.drewN m)
      have cv2 := fun m => conv_str (P := Tryd.prog) (t := 22) (e := 9) Tryd.underlying22 Tryd.underlying5 Tryd.underlying9 (hx2.drewN m)
      have cv4 := fun m => conv_str (P := Tryd.prog) (t := 22) (e := 9) Tryd.underlying22 Tryd.underlying5 Tryd.underlying9 (hx4.drewN m)
      have cv5 := fun m => conv_str (P := Tryd.prog) (t := 22) (e := 9) Tryd.underlying22 Tryd.underlying5 Tryd.underlying9 (hx5.drewN m)
      generalize strOf L = s1 at *
      generalize strOf (nameL a4) = s2 at *
      go_wp2_with fail
      refine (same_any _ _ _ _ l0 l5 _ (hs1.drewN _) (hs5.drewN _)).mono ?_
      rintro e w9 ⟨i, rfl, hi, hb9⟩
      obtain rfl : i = k := hi.unique (unhide hF)
      clear hi
      go_wp2
      go_ret
      exact ⟨rfl, (below_drewN I8.1 _).trans (hb9.mono (by exact I8.1.size))⟩

set_option maxRecDepth 100000 in
set_option maxHeartbeats 4000000 in
theorem nt_no (a0 : Option Addr) (cap0 : Nat) (l0 : List Int) (a1 a2 a3 : Int) (a4 : ByteArray) (a5 : Option Addr) (cap5 : Nat) (l5 : List Int) (w : World) (hg : ErrT w) (w0 : Bs w a0 cap0 l0) (b1 : -9223372036854775808 ≤ a1 ∧ a1 ≤ 9223372036854775807) (b4 : a4.size ≤ 140737488351232) (w5 : Bs w a5 cap5 l5) (hname : ¬ NameOk a4) :
    Calls Tryd.prog 3 #[.slice a0 l0.length cap0, .int .i64 a1, .int .i64 a2, .int .i64 a3, .string a4, .slice a5 l5.length cap5] w fun e w' => e = .returned (.bool true) ∧ Below w.heap.size w w' := by
  have I0 : NtInv w a0 cap0 l0 a5 cap5 l5 w := ⟨Below.refl _ _, hg, w0, w5⟩
  have hrp := hide (fun W (h : Bs W a0 cap0 l0) => rPut_any a0 cap0 l0 a1 a2 a3 W h b1)
  have hpp := hide (fun W (h : Bs W a0 cap0 l0) => put_any a0 cap0 l0 a1 a2 a3 W h)
  generalize putOut l0 a1 a2 a3 = po at hrp hpp
  obtain ⟨L, X⟩ := po
  have hrg := hide (fun W (h : Bs W a0 cap0 l0) => rGet a0 cap0 l0 a1 a3 W h b1)
  have hpg := hide (fun W (h : Bs W a0 cap0 l0) => get_any a0 cap0 l0 a1 a3 W h)
  generalize getOut l0 a1 a3 = go at hrg hpg
  obtain ⟨V, Y⟩ := go
  have hrr := hide (fun W (h : Bs W a5 cap5 l5) => rRead_any a5 cap5 l5 W h)
  have hpr := hide (fun W (h : Bs W a5 cap5 l5) => getName_any a5 cap5 l5 W h)
  generalize readOut l5 = ro at hrr hpr
  obtain ⟨S, Z⟩ := ro
  have HN := hide hname
  have hl0 := w0.2.2.1
  have hl5 := w5.2.2.1
  clear hg w0 w5 b1 hname
  go_enter Tryd.func3, Tryd.ntmps3
  go_wp2_with fail
  refine (unhide hrp w I0.2.2.1).mono ?_
  rintro e w1 ⟨x1, c1, rfl, hx1, hb1⟩
  have I1 := I0.step hb1
  go_wp2_with fail
  refine (unhide hpp w1 I1.2.2.1).mono ?_
  rintro e w2 ⟨x2, c2, rfl, hx2, hb2⟩
  have I2 := I1.step hb2
  have hx1 := hx1.below hb2
  go_wp2_with fail
  refine (error_same X w2 I2.2.1).mono ?_
  rintro e w3 ⟨rfl, hb3⟩
  have I3 := I2.step hb3
  have hx1 := hx1.below hb3
  have hx2 := hx2.below hb3
  clear I0 I1 I2 hb1 hb2 hb3
  go_wp2_with fail
  refine (unhide hrg w3 I3.2.2.1).mono ?_
  rintro e w3a ⟨rfl, rfl⟩
  go_wp2_with fail
  refine (unhide hpg w3 I3.2.2.1).mono ?_
  rintro e w3a ⟨rfl, rfl⟩
  go_wp2_with fail
  refine (error_same Y w3 I3.2.1).mono ?_
  rintro e w3b ⟨rfl, hb3⟩
  have I3 := I3.step hb3
  have hx1 := hx1.below hb3
  have hx2 := hx2.below hb3
  clear hb3
  obtain ⟨w3, rfl⟩ : ∃ W : World, W = w3b := ⟨_, rfl⟩
  go_wp2_with fail
  refine (rName_fail a4 _ b4 (unhide HN)).mono ?_
  rintro e w3c ⟨rfl, rfl⟩
  have hx4 : Bs w3 none 0 [] := bs_nil _
  have I4 := I3
  clear I3
  go_wp2_with fail
  refine (putName_any a4 _ b4 [] 2 (Or.inr ⟨unhide HN, rfl, rfl⟩)).mono ?_
  rintro e w5 ⟨x5, c5, rfl, hx5, hb5⟩
  have I5 := I4.step hb5
  have hx1 := hx1.below hb5
  have hx2 := hx2.below hb5
  have hx4 := hx4.below hb5
  clear I4 hb5
  go_wp2_with fail
  refine (error_same 2 w5 I5.2.1).mono ?_
  rintro e w6 ⟨rfl, hb6⟩
  have I6 := I5.step hb6
  have hx1 := hx1.below hb6
  have hx2 := hx2.below hb6
  have hx4 := hx4.below hb6
  have hx5 := hx5.below hb6
  clear I5 hb6
  go_wp2_with fail
  refine (unhide hrr w6 I6.2.2.2).mono ?_
  rintro e w6a ⟨rfl, rfl⟩
  go_wp2_with fail
  refine (unhide hpr w6 I6.2.2.2).mono ?_
  rintro e w7 ⟨rfl, hb7⟩
  have I7 := I6.step hb7
  have hx1 := hx1.below hb7
  have hx2 := hx2.below hb7
  have hx4 := hx4.below hb7
  have hx5 := hx5.below hb7
  clear I6 hb7
  go_wp2_with fail
  refine (error_same Z w7 I7.2.1).mono ?_
  rintro e w8 ⟨rfl, hb8⟩
  have I8 := I7.step hb8
  have hx1 := hx1.below hb8
  have hx2 := hx2.below hb8
  have hx4 := hx4.below hb8
  have hx5 := hx5.below hb8
  clear I7 hb8 hrp hpp hrg hpg hrr hpr
  go_wp2_with fail
  go_loopw [28] (fun i wr => ∃ k n : Nat, k ≤ l0.length ∧ k ≤ l5.length ∧ i = .int .i64 k ∧ wr = w8.drewN n ∧ ∀ j, j < k → (l0.getD j 0 != l5.getD j 0) = false) (fun i _ => l0.length - (intOf i).toNat)
  case atStart => exact ⟨0, 0, by omega, by omega, rfl, rfl, fun j hj => absurd hj (Nat.not_lt_zero j)⟩
  case round =>
    obtain ⟨k, n, hk0, hk5, rfl, rfl, hall⟩ := hrel
    have HA := hide hall
    clear hall
    by_cases h0 : k < l0.length
    · by_cases h5 : k < l5.length
      · obtain ⟨ba, oa, rfl, hca⟩ := I8.2.2.1.at k h0
        obtain ⟨bc, oc, rfl, hcc⟩ := I8.2.2.2.at k h5
        cases hbb : (l0.getD k 0 != l5.getD k 0)
        · have HB := hide hbb
          have heq : (l0.getD k 0 == l5.getD k 0) = true := by simpa [bne] using hbb
          clear hbb
          generalize l0.getD k 0 = c at hca heq
          generalize l5.getD k 0 = d at hcc heq
          go_wp2
          go_quiet (fail)
          go_wp2
          go_roundw
          case rel => exact ⟨k + 1, _, by omega, by omega, by go_num, rfl, First.step (unhide HA) (unhide HB)⟩
          case measure => simp [intOf]; omega
        · have hne : (l0.getD k 0 == l5.getD k 0) = false := by simpa [bne] using hbb
          have hF : Hid (First (fun j => (l0.getD j 0 != l5.getD j 0)) (min l0.length l5.length) k) := hide ⟨by omega, unhide HA, fun _ => hbb⟩
          have hs1 := I8.2.2.1
          have hs5 := I8.2.2.2
          clear hbb
          generalize l0.getD k 0 = c at hca hne
          generalize l5.getD k 0 = d at hcc hne
          go_wp2
          go_quiet (fail)
          have cv1 := fun m => conv_str (P := Tryd.prog) (t := 22) (e := 9) Tryd.underlying22 Tryd.underlying5 Tryd.underlying9 (hx1.drewN m)
          have cv2 := fun m => conv_str (P := Tryd.prog) (t := 22) (e := 9) Tryd.underlying22 Tryd.underlying5 Tryd.underlying9 (hx2.drewN m)
          have cv4 := fun m => conv_str (P := Tryd.prog) (t := 22) (e := 9) Tryd.underlying22 Tryd.underlying5 Tryd.underlying9 (hx4.drewN m)
          have cv5 := fun m => conv_str (P := Tryd.prog) (t := 22) (e := 9) Tryd.underlying22 Tryd.underlying5 Tryd.underlying9 (hx5.drewN m)
          simp only [List.length_nil] at cv4 cv5
          generalize strOf L = s1 at *
          generalize strOf ([]) = s2 at *
          go_wp2_with fail
          refine (same_any _ _ _ _ l0 l5 _ (hs1.drewN _) (hs5.drewN _)).mono ?_
          rintro e w9 ⟨i, rfl, hi, hb9⟩
          obtain rfl : i = k := hi.unique (unhide hF)
          clear hi
          go_wp2
          go_ret
          exact ⟨rfl, (below_drewN I8.1 _).trans (hb9.mono (by exact I8.1.size))⟩
      · have hd0 : decide ((k : Int) < (l0.length : Int)) = true := by simp; omega
        have hd5 : decide ((k : Int) < (l5.length : Int)) = false := by simp; omega
        have hF : Hid (First (fun j => (l0.getD j 0 != l5.getD j 0)) (min l0.length l5.length) k) := hide ⟨by omega, unhide HA, fun h => by omega⟩
        have hs1 := I8.2.2.1
        have hs5 := I8.2.2.2
        go_wp2
        go_quiet (fail)
        have cv1 := fun m => conv_str (P := Tryd.prog) (t := 22) (e := 9) Tryd.underlying22 Tryd.underlying5 Tryd.underlying9 (hx1.drewN m)
        have cv2 := fun m => conv_str (P := Tryd.prog) (t := 22) (e := 9) Tryd.underlying22 Tryd.underlying5 Tryd.underlying9 (hx2.drewN m)
        have cv4 := fun m => conv_str (P := Tryd.prog) (t := 22) (e := 9) Tryd.underlying22 Tryd.underlying5 Tryd.underlying9 (hx4.drewN m)
        have cv5 := fun m => conv_str (P := Tryd.prog) (t := 22) (e := 9) Tryd.underlying22 Tryd.underlying5 Tryd.underlying9 (hx5.drewN m)
        simp only [List.length_nil] at cv4 cv5
        generalize strOf L = s1 at *
        generalize strOf ([]) = s2 at *
        go_wp2_with fail
        refine (same_any _ _ _ _ l0 l5 _ (hs1.drewN _) (hs5.drewN _)).mono ?_
        rintro e w9 ⟨i, rfl, hi, hb9⟩
        obtain rfl : i = k := hi.unique (unhide hF)
        clear hi
        go_wp2
        go_ret
        exact ⟨rfl, (below_drewN I8.1 _).trans (hb9.mono (by exact I8.1.size))⟩
    · have hd0 : decide ((k : Int) < (l0.length : Int)) = false := by simp; omega
      have hF : Hid (First (fun j => (l0.getD j 0 != l5.getD j 0)) (min l0.length l5.length) k) := hide ⟨by omega, unhide HA, fun h => by omega⟩
      have hs1 := I8.2.2.1
      have hs5 := I8.2.2.2
      go_wp2
      go_quiet (fail)
      have cv1 := fun m => conv_str (P := Tryd.prog) (t := 22) (e := 9) Tryd.underlying22 Tryd.underlying5 Tryd.underlying9 (hx1.drewN m)
      have cv2 := fun m => conv_str (P := Tryd.prog) (t := 22) (e := 9) Tryd.underlying22 Tryd.underlying5 Tryd.underlying9 (hx2.drewN m)
      have cv4 := fun m => conv_str (P := Tryd.prog) (t := 22) (e := 9) Tryd.underlying22 Tryd.underlying5 Tryd.underlying9 (hx4.drewN m)
      have cv5 := fun m => conv_str (P := Tryd.prog) (t := 22) (e := 9) Tryd.underlying22 Tryd.underlying5 Tryd.underlying9 (hx5.drewN m)
      simp only [List.length_nil] at cv4 cv5
      generalize strOf L = s1 at *
      generalize strOf ([]) = s2 at *
      go_wp2_with fail
      refine (same_any _ _ _ _ l0 l5 _ (hs1.drewN _) (hs5.drewN _)).mono ?_
      rintro e w9 ⟨i, rfl, hi, hb9⟩
      obtain rfl : i = k := hi.unique (unhide hF)
      clear hi
      go_wp2
      go_ret
      exact ⟨rfl, (below_drewN I8.1 _).trans (hb9.mono (by exact I8.1.size))⟩

theorem walkNumTells (a0 : Option Addr) (cap0 : Nat) (l0 : List Int) (a1 a2 a3 : Int) (a4 : ByteArray) (a5 : Option Addr) (cap5 : Nat) (l5 : List Int) (w : World) (hg : ErrT w) (w0 : Bs w a0 cap0 l0) (b1 : -9223372036854775808 ≤ a1 ∧ a1 ≤ 9223372036854775807) (b2 : -9223372036854775808 ≤ a2 ∧ a2 ≤ 9223372036854775807) (b3 : -9223372036854775808 ≤ a3 ∧ a3 ≤ 9223372036854775807) (b4 : a4.size ≤ 140737488351232) (w5 : Bs w a5 cap5 l5) :
    Calls Tryd.prog 3 #[.slice a0 l0.length cap0, .int .i64 a1, .int .i64 a2, .int .i64 a3, .string a4, .slice a5 l5.length cap5] w fun e w' => e = .returned (.bool true) ∧ Below w.heap.size w w' := by
  by_cases hn : NameOk a4
  · exact nt_yes a0 cap0 l0 a1 a2 a3 a4 a5 cap5 l5 w hg w0 b1 b4 w5 hn
  · exact nt_no a0 cap0 l0 a1 a2 a3 a4 a5 cap5 l5 w hg w0 b1 b4 w5 hn
end Go.Proofs.YtdjmjkcbonbblaaDoor
