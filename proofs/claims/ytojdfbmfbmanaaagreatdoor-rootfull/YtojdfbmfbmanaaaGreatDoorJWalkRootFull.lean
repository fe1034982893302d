/-
  The walk of RootFull. (Part of the proof of RootFull.)
-/
import Derived.Test.YtojdfbmfbmanaaaGreatDoorJRt
import Derived.Test.YtojdfbmfbmanaaaGreatDoorJRu
import Derived.Test.YtojdfbmfbmanaaaGreatDoorJEx
import Derived.Test.YtojdfbmfbmanaaaGreatDoorErrSame
namespace Go.Proofs.YtojdfbmfbmanaaaGreatDoor
open Go.RowKit
set_option linter.unusedVariables false

/-- The names of the law, one letter each. -/
def nmF (k : Nat) : ByteArray := { data := #[UInt8.ofNat (97 + k)] }
theorem nmF_size (k : Nat) : (nmF k).size ≤ 140737488351232 := (show 1 ≤ 140737488351232 by decide)
theorem nmF_name : ∀ k, k < 8 → nameB (nmF k) = true := by decide
theorem nmF_ne : ∀ j, j < 8 → ∀ k, k < 8 → j ≠ k → nmF j ≠ nmF k := by decide
theorem nmF_zz : ∀ j, j < 8 → nmF j ≠ ({ data := #[122, 122] } : ByteArray) := by decide
theorem nmF_cut (W : World) : ∀ k : Nat, k < 8 → Sem.run Tryz.prog (Instr.slice 9 (.string { data := #[97, 98, 99, 100, 101, 102, 103, 104] }) (some (.int .i64 k)) (some (.int .i64 ((k : Int) + 1))) none) W = .ok (.string (nmF k)) W
  | 0, _ => by kernel_rfl
  | 1, _ => by kernel_rfl
  | 2, _ => by kernel_rfl
  | 3, _ => by kernel_rfl
  | 4, _ => by kernel_rfl
  | 5, _ => by kernel_rfl
  | 6, _ => by kernel_rfl
  | 7, _ => by kernel_rfl
  | k + 8, h => by omega
set_option maxRecDepth 100000 in
set_option maxHeartbeats 4000000 in
theorem walkRootFull (x y : Int) (w : World) (hg : ErrT w) :
    Calls Tryz.prog 5 #[.int .i64 x, .int .i64 y] w fun e w' => e = .returned (.bool true) ∧ Below w.heap.size w w' := by
  have HN := hide (hNew_yes 400 w (by decide))
  have HG := hide hg
  obtain ⟨o1, o2, ox, o3⟩ := one_made (N := 400) (t := 0) (by decide) (by decide) (by decide) (by decide)
  obtain ⟨q1, q2, q3⟩ := two_made o3 (by decide)
  have HA1 : Hid (∀ (W : World) (p g c : Nat), Hp W w.heap.size p g c (zerosB 400) → Below w.heap.size w W → Calls Tryz.prog 16 #[.pointer (some ⟨p, 0, none⟩), .int .i64 1, .int .i64 0] W fun e w' => e = .returned (.tuple #[.int .i64 1, .nilIface]) ∧ ∃ g' c', Hp w' w.heap.size p g' c' (alB (zerosB 400) 1 0) ∧ Below w.heap.size w w') := hide (fun W p g c h hW => by
    have := hAlloc_any p g c w.heap.size (zerosB 400) 1 0 W h hW.size
    rw [o1, o2, errV_zero] at this
    refine this.mono ?_
    rintro e w' ⟨rfl, g', c', hh, ht⟩
    exact ⟨rfl, g', c', hh, hW.trans (ht.below h.foot_ge hW.size)⟩)
  have HA2 : Hid (∀ (W : World) (p g c : Nat), Hp W w.heap.size p g c (alB (zerosB 400) 1 0) → Below w.heap.size w W → Calls Tryz.prog 16 #[.pointer (some ⟨p, 0, none⟩), .int .i64 1, .int .i64 0] W fun e w' => e = .returned (.tuple #[.int .i64 2, .nilIface]) ∧ ∃ g' c', Hp w' w.heap.size p g' c' (alB (alB (zerosB 400) 1 0) 1 0) ∧ Below w.heap.size w w') := hide (fun W p g c h hW => by
    have := hAlloc_any p g c w.heap.size (alB (zerosB 400) 1 0) 1 0 W h hW.size
    rw [q1, q2, errV_zero] at this
    refine this.mono ?_
    rintro e w' ⟨rfl, g', c', hh, ht⟩
    exact ⟨rfl, g', c', hh, hW.trans (ht.below h.foot_ge hW.size)⟩)
  have HTW := hide q3
  have HCUT := hide (fun (W : World) (k : Nat) (h : k < 8) => nmF_cut W k h)
  clear hg o1 o2 o3 q1 q2 q3
  generalize alB (alB (zerosB 400) 1 0) 1 0 = L2 at *
  generalize alB (zerosB 400) 1 0 = L1 at *
  generalize zerosB 400 = Z at *
  go_enter Tryz.func5, Tryz.ntmps5
  go_wp2_with fail
  refine (unhide HN).mono ?_
  rintro e w1 ⟨p, g, c, rfl, hh1, hb1⟩
  have HA1' := hide (unhide HA1 w1 p g c hh1 hb1)
  clear hh1 hb1 HN HA1
  go_wp2_with fail
  refine (unhide HA1').mono ?_
  rintro e w2 ⟨rfl, g2, c2, hh2, hb2⟩
  have HA2' := hide (unhide HA2 w2 p g2 c2 hh2 hb2)
  clear hh2 hb2 HA1' HA2
  go_wp2_with fail
  refine (unhide HA2').mono ?_
  rintro e w3 ⟨rfl, g3, c3, hh3, hb3⟩
  have HH3 := hide hh3
  have HB3 := hide hb3
  clear hh3 hb3 HA2'
  go_wp2_with fail
  go_loopw [11] (fun iv wr => ∃ (k g c : Nat) (L : List Int), k ≤ 8 ∧ iv = .int .i64 k ∧ Hp wr w.heap.size p g c L ∧ RFs L nmF 1 k ∧ (chkE L 1 = 0 ∧ chkE L 2 = 0 ∧ (getE L 2).2.2.2 = 0) ∧ Below w.heap.size w wr) (fun iv _ => 8 - (intOf iv).toNat)
  case atStart =>
    exact ⟨0, g3, c3, L2, Nat.zero_le _, rfl, unhide HH3, ⟨(unhide HTW).fine, fun j hj => absurd hj (Nat.not_lt_zero j), fun j _ hj => (unhide HTW).rows j hj⟩, ⟨(unhide HTW).c1, (unhide HTW).c2, (unhide HTW).t2⟩, unhide HB3⟩
  case round =>
    obtain ⟨k, g4, c4, L, hk, rfl, hh, hr, hch, hbel⟩ := hrel
    clear HH3 HB3 HTW
    by_cases hlt : k < 8
    · obtain ⟨n1, n2, n3, n4⟩ := hr.next hlt (nmF_name k hlt) hch.1 (fun j hj => nmF_ne j (by omega) k hlt (by omega))
      have hsO : seO L (nmF k) 1 = true := by unfold seO; rw [n1, n2]; rfl
      have hsF : seF L (nmF k) 1 = seB L (nmF k) 1 := by unfold seF; rw [if_pos n1]
      have hset := roSet_any hh hbel.size (nmF k) 1 (nmF_size k)
      rw [hsO, hsF, n1, errV_zero] at hset
      have HS := hide hset
      have HR2 := hide n3
      have HC2 : Hid (chkE (seB L (nmF k) 1) 1 = 0 ∧ chkE (seB L (nmF k) 1) 2 = 0 ∧ (getE (seB L (nmF k) 1) 2).2.2.2 = 0) := hide (by
        rw [(n4 1 (by decide) (by decide)).1, (n4 2 (by decide) (by decide)).1, (n4 2 (by decide) (by decide)).2]
        exact hch)
      have HGE := hide hh.foot_ge
      have HBEL := hide hbel
      have hcut := unhide HCUT wr k hlt
      clear hh hr hch hbel n1 n2 n3 n4 hsO hsF hset HCUT
      generalize seB L (nmF k) 1 = L5 at *
      go_wp2_with fail
      refine (unhide HS).mono ?_
      rintro e w5 ⟨rfl, g5, c5, hh5, ht5⟩
      have HH5 := hide hh5
      have HB5 := hide ((unhide HBEL).trans (ht5.below (unhide HGE) (unhide HBEL).size))
      clear hh5 ht5 HS HBEL HGE hcut
      go_wp2
      go_roundw
      case rel => exact ⟨k + 1, g5, c5, L5, by omega, by go_num, unhide HH5, unhide HR2, unhide HC2, unhide HB5⟩
      case measure => simp [intOf]; omega
    · obtain rfl : k = 8 := by omega
      have hE4 := hr.full (s := ({ data := #[122, 122] } : ByteArray)) (h := 2) (by decide) hch.2.1 nmF_zz
      have hsO : seO L ({ data := #[122, 122] } : ByteArray) 2 = false := by unfold seO; rw [hE4]; rfl
      have hsF : seF L ({ data := #[122, 122] } : ByteArray) 2 = L := by unfold seF; rw [hE4, if_neg (by decide)]
      have hset := roSet_any hh hbel.size ({ data := #[122, 122] } : ByteArray) 2 (by decide)
      rw [hsO, hsF, hE4, errV_pos 4 (by decide)] at hset
      have HS : Hid (Calls Tryz.prog 17 #[.pointer (some ⟨p, 0, none⟩), .string { data := #[122, 122] }, .int .i64 2] wr fun e w' => e = .returned (.tuple #[.bool false, .iface 62 (.int .i64 4)]) ∧ ∃ g' c', Hp w' w.heap.size p g' c' L ∧ Below w.heap.size w w') := hide (hset.mono (by
        rintro e w' ⟨rfl, g', c', h1, h2⟩
        exact ⟨rfl, g', c', h1, hbel.trans (h2.below hh.foot_ge hbel.size)⟩))
      have HE := hide (fun (W : World) (hW : Below w.heap.size w W) => error_same 4 W ((unhide HG).below hW))
      rw [errV_pos 4 (by decide)] at HE
      have HAL : Hid (∀ (W : World) (g c : Nat), Hp W w.heap.size p g c L → Below w.heap.size w W → Calls Tryz.prog 13 #[.pointer (some ⟨p, 0, none⟩)] W fun e w' => ∃ a c1, e = .returned (.slice a 8 c1) ∧ Below w.heap.size w w' ∧ Below W.heap.size W w') := hide (fun W g c h hW => by
        refine (roAll_any p g c w.heap.size L W h).mono ?_
        rintro e w' ⟨v, rfl, hl, hb⟩
        obtain ⟨a, c1, rfl, _⟩ := hl.sls roC_len (by rw [hr.count]; decide)
        exact ⟨a, c1, by rw [hr.count], hW.trans (hb.mono hW.size), hb⟩)
      have HRF := hide hr
      have HCH := hide hch
      clear hh hr hch hbel hE4 hsO hsF hset HG
      go_wp2_with fail
      refine (unhide HS).mono ?_
      rintro e w5 ⟨rfl, g5, c5, hh5, hb5⟩
      have HE5 := hide (unhide HE w5 hb5)
      have HH5 := hide hh5
      have HB5 := hide hb5
      clear hh5 hb5 HS HE
      go_wp2_with fail
      refine (unhide HE5).mono ?_
      rintro e w6 ⟨rfl, hb6⟩
      have hh6 := (unhide HH5).below hb6
      have hB6 := (unhide HB5).trans (hb6.mono (unhide HB5).size)
      have HA6 := hide (unhide HAL w6 g5 c5 hh6 hB6)
      have HH6 := hide hh6
      clear hh6 hB6 hb6 HE5 HH5 HB5
      by_cases hy1 : y < 0
      · go_wp2_with fail
        refine (unhide HA6).mono ?_
        rintro e w7 ⟨a7, c7, rfl, hb7, hbb7⟩
        have HA7 := hide (unhide HAL w7 g5 c5 ((unhide HH6).below hbb7) hb7)
        clear hb7 hbb7 HA6 HH6 HAL
        go_wp2_with fail
        refine (unhide HA7).mono ?_
        rintro e w8 ⟨a8, c8, rfl, hb8, _⟩
        have HB8 := hide hb8
        clear hb8 HA7
        go_wp2
        go_ret
        exact ⟨rfl, unhide HB8⟩
      by_cases hy2 : 7 < y
      · go_wp2_with fail
        refine (unhide HA6).mono ?_
        rintro e w7 ⟨a7, c7, rfl, hb7, hbb7⟩
        have HA7 := hide (unhide HAL w7 g5 c5 ((unhide HH6).below hbb7) hb7)
        clear hb7 hbb7 HA6 HH6 HAL
        go_wp2_with fail
        refine (unhide HA7).mono ?_
        rintro e w8 ⟨a8, c8, rfl, hb8, _⟩
        have HB8 := hide hb8
        clear hb8 HA7
        go_wp2
        go_ret
        exact ⟨rfl, unhide HB8⟩
      obtain ⟨K, rfl⟩ := Int.eq_ofNat_of_zero_le (show 0 ≤ y by omega)
      have hK : K < 8 := by omega
      obtain ⟨r1, r2, r3, r4, r5⟩ := (unhide HRF).again hK (nmF_name K hK) (unhide HCH).2.1
      obtain ⟨m1, m2⟩ := se_got (unhide HRF).fine r1 (T := 0) (by decide) (by decide)
      rw [(unhide HCH).2.2, if_neg (fun h => h.2 rfl)] at m1 m2
      have hsO : seO L (nmF K) 2 = false := by unfold seO; rw [r1, r2]; rfl
      have hsF : seF L (nmF K) 2 = seB L (nmF K) 2 := by unfold seF; rw [if_pos r1]
      have HS : Hid (∀ (W : World) (g c : Nat), Hp W w.heap.size p g c L → Below w.heap.size w W → Calls Tryz.prog 17 #[.pointer (some ⟨p, 0, none⟩), .string (nmF K), .int .i64 2] W fun e w' => e = .returned (.tuple #[.bool false, .nilIface]) ∧ ∃ g' c', Hp w' w.heap.size p g' c' (seB L (nmF K) 2) ∧ Below w.heap.size w w') := hide (fun W g c h hW => by
        have := roSet_any h hW.size (nmF K) 2 (nmF_size K)
        rw [hsO, hsF, r1, errV_zero] at this
        refine this.mono ?_
        rintro e w' ⟨rfl, g', c', h1, h2⟩
        exact ⟨rfl, g', c', h1, hW.trans (h2.below h.foot_ge hW.size)⟩)
      have HGT : Hid (∀ (W : World) (g c : Nat), Hp W w.heap.size p g c (seB L (nmF K) 2) → Calls Tryz.prog 10 #[.pointer (some ⟨p, 0, none⟩), .string (nmF K), .int .i64 0] W fun e w' => e = .returned (.tuple #[.int .i64 2, .nilIface]) ∧ Below W.heap.size W w') := hide (fun W g c h => by
        have := roGet_any h (nmF K) 0 (nmF_size K)
        rw [m1, m2, errV_zero] at this
        exact this)
      have HAL2 : Hid (∀ (W : World) (g c : Nat), Hp W w.heap.size p g c (seB L (nmF K) 2) → Calls Tryz.prog 13 #[.pointer (some ⟨p, 0, none⟩)] W fun e w' => ∃ (b o c1 : Nat), e = .returned (.slice (some ⟨b, o, none⟩) 8 c1) ∧ w'.cell? ⟨b, o + K * 2, none⟩ = some (.string (nmF K)) ∧ w'.cell? ⟨b, o + K * 2 + 1, none⟩ = some (.int .i64 2) ∧ Below W.heap.size W w') := hide (fun W g c h => by
        refine (roAll_any p g c w.heap.size (seB L (nmF K) 2) W h).mono ?_
        rintro e w' ⟨v, rfl, hl, hb⟩
        obtain ⟨a, c1, rfl, hsl⟩ := hl.sls roC_len (by rw [r4]; decide)
        obtain ⟨b, o, rfl, hc⟩ := hsl.2.2.2 (by intro e; rw [e] at r4; simp at r4)
        obtain ⟨q0, q1⟩ := Sls.root (cap := 0) hc r5
        exact ⟨b, o, c1, by rw [r4], q0, q1, hb⟩)
      have HCK := hide (fun W => unhide HCUT W K hK)
      clear r1 r2 r3 r4 r5 m1 m2 hsO hsF HRF HCH HCUT
      generalize seB L (nmF K) 2 = L3 at *
      generalize nmF K = NM at *
      go_wp2_with fail
      refine (unhide HA6).mono ?_
      rintro e w7 ⟨a7, c7, rfl, hb7, hbb7⟩
      have HS7 := hide (unhide HS w7 g5 c5 ((unhide HH6).below hbb7) hb7)
      have hcut := unhide HCK w7
      clear hb7 hbb7 HA6 HH6 HAL HCK HS
      go_wp2_with fail
      refine (unhide HS7).mono ?_
      rintro e w8 ⟨rfl, g8, c8, hh8, hb8⟩
      have HG8 := hide (unhide HGT w8 g8 c8 hh8)
      have HH8 := hide hh8
      have HB8 := hide hb8
      clear hh8 hb8 HS7 HGT hcut
      go_wp2_with fail
      refine (unhide HG8).mono ?_
      rintro e w9 ⟨rfl, hb9⟩
      have HA9 := hide (unhide HAL2 w9 g8 c8 ((unhide HH8).below hb9))
      have HB9 := hide ((unhide HB8).trans (hb9.mono (unhide HB8).size))
      clear hb9 HG8 HH8 HB8 HAL2
      go_wp2_with fail
      refine (unhide HA9).mono ?_
      rintro e w10 ⟨b, o, c10, rfl, q0, q1, hb10⟩
      have HB10 := hide ((unhide HB9).trans (hb10.mono (unhide HB9).size))
      have hKi : (K : Int) < 8 := by omega
      clear hb10 HA9 HB9
      go_wp2
      go_ret
      exact ⟨by simp, unhide HB10⟩
end Go.Proofs.YtojdfbmfbmanaaaGreatDoor
