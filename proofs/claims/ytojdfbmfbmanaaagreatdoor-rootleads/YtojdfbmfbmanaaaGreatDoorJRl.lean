/-
  Joined by program: RtStp; RlNo; RlSame; RlIs; RlIsno. (Parts of the proofs over the packages of the program.)
-/
import Derived.Test.YtojdfbmfbmanaaaGreatDoorJRt
import Derived.Test.YtojdfbmfbmanaaaGreatDoorJRu
import Derived.Test.YtojdfbmfbmanaaaGreatDoorJEx
import Derived.Test.YtojdfbmfbmanaaaGreatDoorJRc
import Derived.Test.YtojdfbmfbmanaaaGreatDoorErrSame
import Derived.Deep.RegionHeld3
/-! What is known of each step of the law RootLeads. (Part of the proof of RootLeads.) -/
namespace Go.Proofs.YtojdfbmfbmanaaaGreatDoor
open Go.RowKit
set_option linter.unusedVariables false

/-- The one name of the law's own heap. -/
def nmA : ByteArray := { data := #[97] }
/-- What is known of the law's own heap of one object. -/
theorem one_root {L : List Int} {N x : Nat} (o : One L N 3 x) : seE L nmA 1 = 0 ∧ seO L nmA 1 = true ∧ seF L nmA 1 = seB L nmA 1 ∧ gtE (seB L nmA 1) nmA 3 = 0 ∧ gtH (seB L nmA 1) nmA 3 = 1 ∧ gtE (seB L nmA 1) nmA 4 = 8 ∧ gtH (seB L nmA 1) nmA 4 = 0 := by
  obtain ⟨hc, ht⟩ := o.chk
  obtain ⟨n1, n2, _, _⟩ := RFs.next (b := L) (f := fun _ => nmA) (a := 1) (i := 0) ⟨o.fine, fun j hj => absurd hj (Nat.not_lt_zero j), fun j _ hj => o.rows j hj⟩ (by decide) (by decide) hc (fun j hj => absurd hj (Nat.not_lt_zero j))
  obtain ⟨a1, a2⟩ := se_got o.fine n1 (T := 3) (by decide) (by decide)
  obtain ⟨b1, b2⟩ := se_got o.fine n1 (T := 4) (by decide) (by decide)
  rw [ht, if_neg (fun h => h.2 rfl)] at a1 a2
  rw [ht, if_pos ⟨by decide, by decide⟩] at b1 b2
  exact ⟨n1, by unfold seO; rw [n1, n2]; rfl, by unfold seF; rw [if_pos n1], a1, a2, b1, b2⟩
/-- What is known where a name was set. -/
structure Led (M : List Int) (s : ByteArray) (x : Int) : Prop where
  o : seO M s x = seN M s
  f : seF M s x = seB M s x
  ge : gtE (seB M s x) s (-1) = 0
  gh : gtH (seB M s x) s (-1) = x
  fr : frE (seB M s x) x = 7
  fb : frB (seB M s x) x = seB M s x
  ue : unE (seB M s x) s = 0
  uf : unF (seB M s x) s = unB (seB M s x) s
  g5 : gtE (unB (seB M s x) s) s (-1) = 5
  h5 : gtH (unB (seB M s x) s) s (-1) = 0
  u5 : unE (unB (seB M s x) s) s = 5
  uu : unF (unB (seB M s x) s) s = unB (seB M s x) s
theorem led_of {M : List Int} (hf : Fine M) {s : ByteArray} {x : Int} (h0 : seE M s x = 0) : Led M s x := by
  obtain ⟨g1, g2, g3, g4⟩ := se_fine hf h0
  obtain ⟨_, hlt, hn, hc⟩ := se_put hf h0
  have hx := hndB_iff.1 (chkE_zero.1 hc).2.1
  obtain ⟨a1, a2⟩ := se_got hf h0 (T := -1) (by decide) (by decide)
  rw [if_neg (fun h => h.1 rfl)] at a1 a2
  have hfr := se_held hf h0
  have hpl : plR (seB M s x) s = seI M s := pl_only g1 hlt g2 g3
  have hue : unE (seB M s x) s = 0 := by unfold unE; rw [if_neg (by rw [hn]; simp), if_neg (by omega)]
  obtain ⟨u1, u2, u3⟩ := un_gone g1 hue
  have g5 : gtE (unB (seB M s x) s) s (-1) = 5 := by unfold gtE; rw [if_neg (by rw [hn]; simp), if_neg (by omega), if_pos u2]
  exact ⟨by unfold seO; rw [h0]; simp, by unfold seF; rw [if_pos h0], a1, a2, hfr, by unfold frB; rw [hfr, if_neg (by decide)], hue, by unfold unF; rw [if_pos hue], g5, by unfold gtH; rw [g5, if_neg (by decide)], u3, by unfold unF; rw [u3, if_neg (by decide)]⟩
theorem Hp.lowB {w : World} {B B' p g c : Nat} {L : List Int} (h : Hp w B' p g c L) (hB : B ≤ B') : Hp w B p g c L :=
  ⟨Nat.le_trans hB h.bp, h.ne, h.blk, (by obtain ⟨cur, hr⟩ := h.row; exact ⟨cur, hr.low hB⟩), h.byt, h.fine⟩
/-- A call that leaves a heap with the image Y where it was X. -/
def RtS (w : World) (f : Nat) (ar : Nat → Array Value) (X Y : List Int) (V : Value) : Prop :=
  ∀ (W : World) (p g c : Nat), Hp W w.heap.size p g c X → Below w.heap.size w W → Calls Tryz.prog f (ar p) W fun e w' => e = .returned V ∧ ∃ g' c', Hp w' w.heap.size p g' c' Y ∧ Below w.heap.size w w'
section
variable {w : World}
theorem stp_alloc {L : List Int} {n t x : Int} (h0 : alE L n t = 0) (hx : alH L n t = x) : RtS w 16 (fun p => #[.pointer (some ⟨p, 0, none⟩), .int .i64 n, .int .i64 t]) L (alB L n t) (.tuple #[.int .i64 x, .nilIface]) := fun W p g c h hW => by
  have := hAlloc_any p g c w.heap.size L n t W h hW.size
  rw [h0, hx, errV_zero] at this
  refine this.mono ?_
  rintro e w' ⟨rfl, g', c', hh, ht⟩
  exact ⟨rfl, g', c', hh, hW.trans (ht.below h.foot_ge hW.size)⟩
theorem stp_set (L : List Int) (s : ByteArray) (x : Int) (hs : s.size ≤ 140737488351232) : RtS w 17 (fun p => #[.pointer (some ⟨p, 0, none⟩), .string s, .int .i64 x]) L (seF L s x) (.tuple #[.bool (seO L s x), errV (seE L s x)]) := fun W p g c h hW => by
  refine (roSet_any h hW.size s x hs).mono ?_
  rintro e w' ⟨rfl, g', c', hh, ht⟩
  exact ⟨rfl, g', c', hh, hW.trans (ht.below h.foot_ge hW.size)⟩
theorem stp_unset (L : List Int) (s : ByteArray) (hs : s.size ≤ 140737488351232) : RtS w 19 (fun p => #[.pointer (some ⟨p, 0, none⟩), .string s]) L (unF L s) (errV (unE L s)) := fun W p g c h hW => by
  refine (roUnset_any h hW.size s hs).mono ?_
  rintro e w' ⟨rfl, g', c', hh, ht⟩
  exact ⟨rfl, g', c', hh, hW.trans (ht.below h.foot_ge hW.size)⟩
theorem stp_get (L : List Int) (s : ByteArray) (t : Int) (hs : s.size ≤ 140737488351232) : RtS w 10 (fun p => #[.pointer (some ⟨p, 0, none⟩), .string s, .int .i64 t]) L L (.tuple #[.int .i64 (gtH L s t), errV (gtE L s t)]) := fun W p g c h hW => by
  refine (roGet_any h s t hs).mono ?_
  rintro e w' ⟨rfl, hb⟩
  exact ⟨rfl, g, c, h.below hb, hW.trans (hb.mono hW.size)⟩
theorem stp_free (L : List Int) (x : Int) : RtS w 18 (fun p => #[.pointer (some ⟨p, 0, none⟩), .int .i64 x]) L (frB L x) (errV (frE L x)) := fun W p g c h hW => by
  refine (hFree_any p g c w.heap.size L x W h hW.size).mono ?_
  rintro e w' ⟨rfl, g', c', hh, ht⟩
  exact ⟨rfl, g', c', hh, hW.trans (ht.below h.foot_ge hW.size)⟩
theorem stp_err (hg : ErrT w) (L : List Int) (k : Int) : RtS w 11 (fun _ => #[errV k, .int .i64 k]) L L (.bool true) := fun W p g c h hW => by
  refine (error_same k W (hg.below hW)).mono ?_
  rintro e w' ⟨rfl, hb⟩
  exact ⟨rfl, g, c, h.below hb, hW.trans (hb.mono hW.size)⟩
/-- How many roots All gives. -/
theorem all_len (L : List Int) (n : Nat) (hn : (rootsK L 8).length = n) (W : World) (p g c : Nat) (h : Hp W w.heap.size p g c L) (hW : Below w.heap.size w W) : Calls Tryz.prog 13 #[.pointer (some ⟨p, 0, none⟩)] W fun e w' => ∃ a c1, e = .returned (.slice a n c1) ∧ Hid (∃ g' c', Hp w' w.heap.size p g' c' L ∧ Below w.heap.size w w') := by
  subst hn
  refine (roAll_any p g c w.heap.size L W h).mono ?_
  rintro e w' ⟨v, rfl, hl, hb⟩
  obtain ⟨a, c1, rfl, _⟩ := hl.sls roC_len (by have := rootsK_len L 8; omega)
  exact ⟨a, c1, rfl, hide ⟨g, c, h.below hb, hW.trans (hb.mono hW.size)⟩⟩
end
end Go.Proofs.YtojdfbmfbmanaaaGreatDoor
/-! The walk of RootLeads where nothing is set. (Part of the proof of RootLeads.) -/
namespace Go.Proofs.YtojdfbmfbmanaaaGreatDoor
open Go.RowKit
set_option linter.unusedVariables false

set_option maxRecDepth 100000 in
set_option maxHeartbeats 8000000 in
theorem leads_no (a : Option Addr) (cap : Nat) (l : List Int) (s t : ByteArray) (x : Int) (w : World) (hg : ErrT w) (hb : Bs w a cap l) (hs : s.size ≤ 140737488351232) (hts : t.size ≤ 140737488351232) (h0 : seE (ldL l) s x ≠ 0) :
    Calls Tryz.prog 4 #[.slice a l.length cap, .string s, .string t, .int .i64 x] w fun e w' => e = .returned (.bool true) ∧ Below w.heap.size w w' := by
  have HN := hide (hNew_yes 320 w (by decide))
  obtain ⟨o1, o2, ox, o3⟩ := one_made (N := 320) (t := 3) (by decide) (by decide) (by decide) (by decide)
  have HA := hide (stp_alloc (w := w) o1 o2)
  obtain ⟨j1, j2, j3, j4, j5, j6, j7⟩ := one_root o3
  have hS1 := stp_set (w := w) (alB (zerosB 320) 1 3) nmA 1 (by decide)
  rw [j1, j2, j3, errV_zero] at hS1
  have hG3 := stp_get (w := w) (seB (alB (zerosB 320) 1 3) nmA 1) nmA 3 (by decide)
  rw [j4, j5, errV_zero] at hG3
  have hG4 := stp_get (w := w) (seB (alB (zerosB 320) 1 3) nmA 1) nmA 4 (by decide)
  rw [j6, j7, errV_pos 8 (by decide)] at hG4
  have hE8 := stp_err (w := w) hg (seB (alB (zerosB 320) 1 3) nmA 1) 8
  rw [errV_pos 8 (by decide)] at hE8
  have HS1 := hide hS1
  have HG3 := hide hG3
  have HG4 := hide hG4
  have HE8 := hide hE8
  have hf := ldL_fine l
  have HL : Hid (∀ W, Below w.heap.size w W → Calls Tryz.prog 6 #[.slice a l.length cap] W fun e w' => ∃ p g c am nm cm, e = .returned (.tuple #[.pointer (some ⟨p, 0, none⟩), .slice am nm cm]) ∧ Hp w' w.heap.size p g c (ldL l) ∧ Below w.heap.size w w') := hide (fun W hW => by
    refine (loaded_any a cap l W (hb.below hW)).mono ?_
    rintro e w' ⟨p, g, c, am, cm, rfl, hh, _, hb'⟩
    exact ⟨p, g, c, am, _, cm, rfl, hh.lowB hW.size, hW.trans (hb'.mono hW.size)⟩)
  have hGT := stp_get (w := w) (ldL l) t (-1) hts
  have HAL := hide (fun (W : World) (p g c : Nat) (h : Hp W w.heap.size p g c (ldL l)) (hW : Below w.heap.size w W) => all_len (ldL l) _ rfl W p g c h hW)
  have hmany := rootsK_len (ldL l) 8
  have hbl := hb.2.2.1
  have HGT := hide hGT
  have hSE := stp_set (w := w) (ldL l) s x hs
  have e1 : seO (ldL l) s x = false := by unfold seO; rw [decide_eq_false h0]; rfl
  have e2 : seF (ldL l) s x = ldL l := by unfold seF; rw [if_neg h0]
  rw [e1, e2, errV_pos _ h0] at hSE
  have HSE := hide hSE
  have HAL2 := hide (fun (W : World) (p g c : Nat) (h : Hp W w.heap.size p g c (ldL l)) (hW : Below w.heap.size w W) => all_len (ldL l) _ rfl W p g c h hW)
  clear hb hg hf o1 o2 o3 j1 j2 j3 j4 j5 j6 j7 hS1 hG3 hG4 hE8 hGT e1 e2 hSE h0
  unfold nmA at HS1 HG3 HG4 HE8
  generalize gtH (ldL l) t (-1) = TH at *
  generalize errV (gtE (ldL l) t (-1)) = TE at *
  generalize seE (ldL l) s x = SE at *
  generalize (rootsK (ldL l) 8).length = many at *
  generalize ldL l = M at *
  generalize seB (alB (zerosB 320) 1 3) { data := #[97] } 1 = S1 at *
  generalize alB (zerosB 320) 1 3 = L1 at *
  generalize zerosB 320 = Z at *
  generalize l.length = nl at *
  go_enter Tryz.func4, Tryz.ntmps4
  go_wp2_with fail
  refine (unhide HN).mono ?_
  rintro e w1 ⟨p, g, c, rfl, hh, hb⟩
  have HC := hide (unhide HA w1 p g c hh hb)
  clear hh hb HN HA
  go_wp2_with fail
  refine (unhide HC).mono ?_
  rintro e w2 ⟨rfl, g2, c2, hh, hb⟩
  replace HC := hide (unhide HS1 w2 p g2 c2 hh hb)
  clear hh hb HS1
  go_wp2_with fail
  refine (unhide HC).mono ?_
  rintro e w3 ⟨rfl, g3, c3, hh, hb⟩
  replace HC := hide (unhide HG3 w3 p g3 c3 hh hb)
  clear hh hb HG3
  go_wp2_with fail
  refine (unhide HC).mono ?_
  rintro e w4 ⟨rfl, g4, c4, hh, hb⟩
  replace HC := hide (unhide HG4 w4 p g4 c4 hh hb)
  clear hh hb HG4
  go_wp2_with fail
  refine (unhide HC).mono ?_
  rintro e w5 ⟨rfl, g5, c5, hh, hb⟩
  replace HC := hide (unhide HE8 w5 p g5 c5 hh hb)
  clear hh hb HE8
  go_wp2_with fail
  refine (unhide HC).mono ?_
  rintro e w6 ⟨rfl, g6, c6, hh, hb⟩
  replace HC := hide (unhide HL w6 hb)
  clear hh hb HL
  go_wp2_with fail
  refine (unhide HC).mono ?_
  rintro e w7 ⟨p7, g7, c7, am, nm, cm, rfl, hh, hb⟩
  replace HC := hide (unhide HGT w7 p7 g7 c7 hh hb)
  clear hh hb HGT
  go_wp2_with fail
  refine (unhide HC).mono ?_
  rintro e w8 ⟨rfl, g8, c8, hh, hb⟩
  replace HC := hide (unhide HAL w8 p7 g8 c8 hh hb)
  clear hh hb HAL
  go_wp2_with fail
  refine (unhide HC).mono ?_
  rintro e w9 ⟨a9, c9, rfl, HX9⟩
  obtain ⟨g9, d9, hh, hb⟩ := unhide HX9
  replace HC := hide (unhide HSE w9 p7 g9 d9 hh hb)
  clear hh hb HX9 HSE
  go_wp2_with fail
  refine (unhide HC).mono ?_
  rintro e w10 ⟨rfl, g10, c10, hh, hb⟩
  replace HC := hide (unhide HAL2 w10 p7 g10 c10 hh hb)
  clear hh hb HAL2
  go_wp2_with fail
  refine (unhide HC).mono ?_
  rintro e w11 ⟨a11, c11, rfl, HX⟩
  clear HC
  go_wp2
  go_ret
  obtain ⟨_, _, _, hb⟩ := unhide HX
  exact ⟨by simp, hb⟩
end Go.Proofs.YtojdfbmfbmanaaaGreatDoor
/-! The walk of RootLeads where both names are one. (Part of the proof of RootLeads.) -/
namespace Go.Proofs.YtojdfbmfbmanaaaGreatDoor
open Go.RowKit
set_option linter.unusedVariables false

set_option maxRecDepth 100000 in
set_option maxHeartbeats 8000000 in
theorem leads_same (a : Option Addr) (cap : Nat) (l : List Int) (s t : ByteArray) (x : Int) (w : World) (hg : ErrT w) (hb : Bs w a cap l) (hs : s.size ≤ 140737488351232) (hts : t.size ≤ 140737488351232) (h0 : seE (ldL l) s x = 0) (hst : s = t) :
    Calls Tryz.prog 4 #[.slice a l.length cap, .string s, .string t, .int .i64 x] w fun e w' => e = .returned (.bool true) ∧ Below w.heap.size w w' := by
  have HN := hide (hNew_yes 320 w (by decide))
  obtain ⟨o1, o2, ox, o3⟩ := one_made (N := 320) (t := 3) (by decide) (by decide) (by decide) (by decide)
  have HA := hide (stp_alloc (w := w) o1 o2)
  obtain ⟨j1, j2, j3, j4, j5, j6, j7⟩ := one_root o3
  have hS1 := stp_set (w := w) (alB (zerosB 320) 1 3) nmA 1 (by decide)
  rw [j1, j2, j3, errV_zero] at hS1
  have hG3 := stp_get (w := w) (seB (alB (zerosB 320) 1 3) nmA 1) nmA 3 (by decide)
  rw [j4, j5, errV_zero] at hG3
  have hG4 := stp_get (w := w) (seB (alB (zerosB 320) 1 3) nmA 1) nmA 4 (by decide)
  rw [j6, j7, errV_pos 8 (by decide)] at hG4
  have hE8 := stp_err (w := w) hg (seB (alB (zerosB 320) 1 3) nmA 1) 8
  rw [errV_pos 8 (by decide)] at hE8
  have HS1 := hide hS1
  have HG3 := hide hG3
  have HG4 := hide hG4
  have HE8 := hide hE8
  have hf := ldL_fine l
  have HL : Hid (∀ W, Below w.heap.size w W → Calls Tryz.prog 6 #[.slice a l.length cap] W fun e w' => ∃ p g c am nm cm, e = .returned (.tuple #[.pointer (some ⟨p, 0, none⟩), .slice am nm cm]) ∧ Hp w' w.heap.size p g c (ldL l) ∧ Below w.heap.size w w') := hide (fun W hW => by
    refine (loaded_any a cap l W (hb.below hW)).mono ?_
    rintro e w' ⟨p, g, c, am, cm, rfl, hh, _, hb'⟩
    exact ⟨p, g, c, am, _, cm, rfl, hh.lowB hW.size, hW.trans (hb'.mono hW.size)⟩)
  have hGT := stp_get (w := w) (ldL l) t (-1) hts
  have HAL := hide (fun (W : World) (p g c : Nat) (h : Hp W w.heap.size p g c (ldL l)) (hW : Below w.heap.size w W) => all_len (ldL l) _ rfl W p g c h hW)
  have hmany := rootsK_len (ldL l) 8
  have hbl := hb.2.2.1
  have HGT := hide hGT
  have hld := led_of hf h0
  have hcnt := se_count hf h0
  have hSE := stp_set (w := w) (ldL l) s x hs
  rw [hld.o, hld.f, h0, errV_zero] at hSE
  have hGS := stp_get (w := w) (seB (ldL l) s x) s (-1) hs
  rw [hld.ge, hld.gh, errV_zero] at hGS
  have hFR := stp_free (w := w) (seB (ldL l) s x) x
  rw [hld.fr, hld.fb, errV_pos 7 (by decide)] at hFR
  have hE7 := stp_err (w := w) hg (seB (ldL l) s x) 7
  rw [errV_pos 7 (by decide)] at hE7
  have hU1 := stp_unset (w := w) (seB (ldL l) s x) s hs
  rw [hld.uf, hld.ue, errV_zero] at hU1
  have hG5 := stp_get (w := w) (unB (seB (ldL l) s x) s) s (-1) hs
  rw [hld.g5, hld.h5, errV_pos 5 (by decide)] at hG5
  have hE5 := stp_err (w := w) hg (unB (seB (ldL l) s x) s) 5
  rw [errV_pos 5 (by decide)] at hE5
  have hU2 := stp_unset (w := w) (unB (seB (ldL l) s x) s) s hs
  rw [hld.uu, hld.u5, errV_pos 5 (by decide)] at hU2
  have hwr : IntKind.i64.wrap (((rootsK (ldL l) 8).length : Int) + 1) = ((rootsK (ldL l) 8).length : Int) + 1 := by rw [IntKind.wrap_i64]; omega
  have HAL2 := hide (fun (W : World) (p g c : Nat) (h : Hp W w.heap.size p g c (seB (ldL l) s x)) (hW : Below w.heap.size w W) => all_len (seB (ldL l) s x) _ rfl W p g c h hW)
  have hn2 := rootsK_len (seB (ldL l) s x) 8
  have hnb : (((rootsK (seB (ldL l) s x) 8).length : Int) == ((rootsK (ldL l) 8).length : Int) + 1) = seN (ldL l) s := by
    rw [hcnt]
    cases seN (ldL l) s with
    | true => rw [if_pos rfl]; simp
    | false => rw [if_neg (by simp)]; simp; omega
  have HSE := hide hSE
  have HGS := hide hGS
  have HFR := hide hFR
  have HE7 := hide hE7
  have HU1 := hide hU1
  have HG5 := hide hG5
  have HE5 := hide hE5
  have HU2 := hide hU2
  have hG2 := stp_get (w := w) (seB (ldL l) s x) s (-1) hs
  rw [hld.ge, hld.gh, errV_zero] at hG2
  have HG2 := hide hG2
  subst hst
  have hsl : (s.toList == s.toList) = true := toL_iff.2 rfl
  clear hb hg hf o1 o2 o3 j1 j2 j3 j4 j5 j6 j7 hS1 hG3 hG4 hE8 hGT hSE hGS hFR hE7 hU1 hG5 hE5 hU2 hld hcnt h0 hG2
  unfold nmA at HS1 HG3 HG4 HE8
  generalize gtH (ldL l) s (-1) = TH at *
  generalize errV (gtE (ldL l) s (-1)) = TE at *
  generalize seN (ldL l) s = B at *
  generalize (rootsK (seB (ldL l) s x) 8).length = n2 at *
  generalize unB (seB (ldL l) s x) s = U at *
  generalize seB (ldL l) s x = SB at *
  generalize (rootsK (ldL l) 8).length = many at *
  generalize ldL l = M at *
  generalize seB (alB (zerosB 320) 1 3) { data := #[97] } 1 = S1 at *
  generalize alB (zerosB 320) 1 3 = L1 at *
  generalize zerosB 320 = Z at *
  generalize l.length = nl at *
  go_enter Tryz.func4, Tryz.ntmps4
  go_wp2_with fail
  refine (unhide HN).mono ?_
  rintro e w1 ⟨p, g, c, rfl, hh, hb⟩
  have HC := hide (unhide HA w1 p g c hh hb)
  clear hh hb HN HA
  go_wp2_with fail
  refine (unhide HC).mono ?_
  rintro e w2 ⟨rfl, g2, c2, hh, hb⟩
  replace HC := hide (unhide HS1 w2 p g2 c2 hh hb)
  clear hh hb HS1
  go_wp2_with fail
  refine (unhide HC).mono ?_
  rintro e w3 ⟨rfl, g3, c3, hh, hb⟩
  replace HC := hide (unhide HG3 w3 p g3 c3 hh hb)
  clear hh hb HG3
  go_wp2_with fail
  refine (unhide HC).mono ?_
  rintro e w4 ⟨rfl, g4, c4, hh, hb⟩
  replace HC := hide (unhide HG4 w4 p g4 c4 hh hb)
  clear hh hb HG4
  go_wp2_with fail
  refine (unhide HC).mono ?_
  rintro e w5 ⟨rfl, g5, c5, hh, hb⟩
  replace HC := hide (unhide HE8 w5 p g5 c5 hh hb)
  clear hh hb HE8
  go_wp2_with fail
  refine (unhide HC).mono ?_
  rintro e w6 ⟨rfl, g6, c6, hh, hb⟩
  replace HC := hide (unhide HL w6 hb)
  clear hh hb HL
  go_wp2_with fail
  refine (unhide HC).mono ?_
  rintro e w7 ⟨p7, g7, c7, am, nm, cm, rfl, hh, hb⟩
  replace HC := hide (unhide HGT w7 p7 g7 c7 hh hb)
  clear hh hb HGT
  go_wp2_with fail
  refine (unhide HC).mono ?_
  rintro e w8 ⟨rfl, g8, c8, hh, hb⟩
  replace HC := hide (unhide HAL w8 p7 g8 c8 hh hb)
  clear hh hb HAL
  go_wp2_with fail
  refine (unhide HC).mono ?_
  rintro e w9 ⟨a9, c9, rfl, HX9⟩
  obtain ⟨g9, d9, hh, hb⟩ := unhide HX9
  replace HC := hide (unhide HSE w9 p7 g9 d9 hh hb)
  clear hh hb HX9 HSE
  go_wp2_with fail
  refine (unhide HC).mono ?_
  rintro e w10 ⟨rfl, g10, c10, hh, hb⟩
  replace HC := hide (unhide HGS w10 p7 g10 c10 hh hb)
  clear hh hb HGS
  go_wp2_with fail
  refine (unhide HC).mono ?_
  rintro e w11 ⟨rfl, g11, c11, hh, hb⟩
  replace HC := hide (unhide HG2 w11 p7 g11 c11 hh hb)
  clear hh hb HG2
  go_wp2_with fail
  refine (unhide HC).mono ?_
  rintro e w12 ⟨rfl, g12, c12, hh, hb⟩
  replace HC := hide (unhide HFR w12 p7 g12 c12 hh hb)
  clear hh hb HFR
  go_wp2_with fail
  refine (unhide HC).mono ?_
  rintro e w13 ⟨rfl, g13, c13, hh, hb⟩
  replace HC := hide (unhide HE7 w13 p7 g13 c13 hh hb)
  clear hh hb HE7
  go_wp2_with fail
  refine (unhide HC).mono ?_
  rintro e w14 ⟨rfl, g14, c14, hh, hb⟩
  have HALd := hide (unhide HAL2 w14.drew p7 g14 c14 (hh.below (below_drew (Below.refl _ _))) (below_drew hb))
  clear hh hb HC HAL2
  go_wp2_with fail
  refine wp_region_held_drew (S := fun _ => True) (by kernel_rfl) trivial (fun hHeld => ?_)
  refine wpAnyH_take (i := 0) (oi := { dst := some 138, op := Op.move (Operand.tmp 28), type := 31, pos := "law.go:344", after := #[], guard := none }) (v := .nilIface) rfl (by kernel_rfl) (by kernel_rfl) (by kernel_rfl) (fun _ _ _ h => h) (Or.inl ⟨by rfl, fun wq hSw => by go_simp⟩) trivial ?_
  try simp only [Act.put, List.setIfInBounds_toArray, List.set_cons_zero, List.set_cons_succ]
  refine wpAnyH_take (i := 1) (oi := { dst := some 139, op := Op.binOp BinOp.neq 31 (Operand.tmp 138) (Operand.const Value.nilIface) 31, type := 4, pos := "law.go:344", after := #[{ on := 0, ground := Ground.data }], guard := none }) (v := .bool false) rfl (by kernel_rfl) (by kernel_rfl) (by kernel_rfl) (fun _ _ _ h => h) (Or.inl ⟨by rfl, fun wq hSw => by go_simp⟩) trivial ?_
  try simp only [Act.put, List.setIfInBounds_toArray, List.set_cons_zero, List.set_cons_succ]
  refine wpAnyH_take (i := 2) (oi := { dst := some 140, op := Op.move (Operand.tmp 139), type := 4, pos := "law.go:344", after := #[{ on := 1, ground := Ground.data }], guard := none }) (v := .bool false) rfl (by kernel_rfl) (by kernel_rfl) (by kernel_rfl) (fun _ _ _ h => h) (Or.inl ⟨by rfl, fun wq hSw => by go_simp⟩) trivial ?_
  try simp only [Act.put, List.setIfInBounds_toArray, List.set_cons_zero, List.set_cons_succ]
  refine wpAnyH_take (i := 3) (oi := { dst := some 141, op := Op.move (Operand.tmp 27), type := 3, pos := "law.go:344", after := #[{ on := 2, ground := Ground.guard }], guard := some (2, false) }) (v := .int .i64 x) rfl (by kernel_rfl) (by kernel_rfl) (by kernel_rfl) (fun _ _ _ h => h) (Or.inl ⟨by rfl, fun wq hSw => by go_simp⟩) trivial ?_
  try simp only [Act.put, List.setIfInBounds_toArray, List.set_cons_zero, List.set_cons_succ]
  refine wpAnyH_take (i := 4) (oi := { dst := some 142, op := Op.move (Operand.tmp 3), type := 3, pos := "law.go:344", after := #[{ on := 2, ground := Ground.guard }], guard := some (2, false) }) (v := .int .i64 x) rfl (by kernel_rfl) (by kernel_rfl) (by kernel_rfl) (fun _ _ _ h => h) (Or.inl ⟨by rfl, fun wq hSw => by go_simp⟩) trivial ?_
  try simp only [Act.put, List.setIfInBounds_toArray, List.set_cons_zero, List.set_cons_succ]
  refine wpAnyH_take (i := 5) (oi := { dst := some 143, op := Op.binOp BinOp.neq 3 (Operand.tmp 141) (Operand.tmp 142) 3, type := 4, pos := "law.go:344", after := #[{ on := 3, ground := Ground.data }, { on := 4, ground := Ground.data }, { on := 2, ground := Ground.guard }], guard := some (2, false) }) (v := .bool false) rfl (by kernel_rfl) (by kernel_rfl) (by kernel_rfl) (fun _ _ _ h => h) (Or.inl ⟨by rfl, fun wq hSw => by go_simp⟩) trivial ?_
  try simp only [Act.put, List.setIfInBounds_toArray, List.set_cons_zero, List.set_cons_succ]
  refine wpAnyH_take (i := 6) (oi := { dst := some 144, op := Op.pick (Operand.tmp 140) (Operand.const (Value.bool true)) (Operand.tmp 143), type := 4, pos := "law.go:344", after := #[{ on := 2, ground := Ground.data }, { on := 5, ground := Ground.data }], guard := none }) (v := .bool false) rfl (by kernel_rfl) (by kernel_rfl) (by kernel_rfl) (fun _ _ _ h => h) (Or.inl ⟨by rfl, fun wq hSw => by go_simp⟩) trivial ?_
  try simp only [Act.put, List.setIfInBounds_toArray, List.set_cons_zero, List.set_cons_succ]
  refine wpAnyH_take (i := 7) (oi := { dst := some 145, op := Op.move (Operand.tmp 144), type := 4, pos := "law.go:344", after := #[{ on := 6, ground := Ground.data }, { on := 2, ground := Ground.chain }], guard := none }) (v := .bool false) rfl (by kernel_rfl) (by kernel_rfl) (by kernel_rfl) (fun _ _ _ h => h) (Or.inl ⟨by rfl, fun wq hSw => by go_simp⟩) trivial ?_
  try simp only [Act.put, List.setIfInBounds_toArray, List.set_cons_zero, List.set_cons_succ]
  refine wpAnyH_take (i := 8) (oi := { dst := some 146, op := Op.move (Operand.tmp 32), type := 4, pos := "law.go:344", after := #[{ on := 7, ground := Ground.guard }], guard := some (7, false) }) (v := .bool true) rfl (by kernel_rfl) (by kernel_rfl) (by kernel_rfl) (fun _ _ _ h => h) (Or.inl ⟨by rfl, fun wq hSw => by go_simp⟩) trivial ?_
  try simp only [Act.put, List.setIfInBounds_toArray, List.set_cons_zero, List.set_cons_succ]
  refine wpAnyH_take (i := 9) (oi := { dst := some 147, op := Op.unOp UnOp.not 4 (Operand.tmp 146), type := 4, pos := "law.go:344", after := #[{ on := 8, ground := Ground.data }, { on := 7, ground := Ground.guard }], guard := some (7, false) }) (v := .bool false) rfl (by kernel_rfl) (by kernel_rfl) (by kernel_rfl) (fun _ _ _ h => h) (Or.inl ⟨by rfl, fun wq hSw => by go_simp⟩) trivial ?_
  try simp only [Act.put, List.setIfInBounds_toArray, List.set_cons_zero, List.set_cons_succ]
  refine wpAnyH_take (i := 10) (oi := { dst := some 148, op := Op.pick (Operand.tmp 145) (Operand.const (Value.bool true)) (Operand.tmp 147), type := 4, pos := "law.go:344", after := #[{ on := 7, ground := Ground.data }, { on := 9, ground := Ground.data }], guard := none }) (v := .bool false) rfl (by kernel_rfl) (by kernel_rfl) (by kernel_rfl) (fun _ _ _ h => h) (Or.inl ⟨by rfl, fun wq hSw => by go_simp⟩) trivial ?_
  try simp only [Act.put, List.setIfInBounds_toArray, List.set_cons_zero, List.set_cons_succ]
  refine wpAnyH_take (i := 11) (oi := { dst := some 149, op := Op.move (Operand.tmp 148), type := 4, pos := "law.go:344", after := #[{ on := 10, ground := Ground.data }, { on := 7, ground := Ground.chain }], guard := none }) (v := .bool false) rfl (by kernel_rfl) (by kernel_rfl) (by kernel_rfl) (fun _ _ _ h => h) (Or.inl ⟨by rfl, fun wq hSw => by go_simp⟩) trivial ?_
  try simp only [Act.put, List.setIfInBounds_toArray, List.set_cons_zero, List.set_cons_succ]
  refine wpAnyH_take (i := 12) (oi := { dst := some 150, op := Op.move (Operand.tmp 1), type := 9, pos := "law.go:344", after := #[{ on := 11, ground := Ground.guard }], guard := some (11, false) }) (v := .string s) rfl (by kernel_rfl) (by kernel_rfl) (by kernel_rfl) (fun _ _ _ h => h) (Or.inl ⟨by rfl, fun wq hSw => by go_simp⟩) trivial ?_
  try simp only [Act.put, List.setIfInBounds_toArray, List.set_cons_zero, List.set_cons_succ]
  refine wpAnyH_take (i := 13) (oi := { dst := some 151, op := Op.move (Operand.tmp 2), type := 9, pos := "law.go:344", after := #[{ on := 11, ground := Ground.guard }], guard := some (11, false) }) (v := .string s) rfl (by kernel_rfl) (by kernel_rfl) (by kernel_rfl) (fun _ _ _ h => h) (Or.inl ⟨by rfl, fun wq hSw => by go_simp⟩) trivial ?_
  try simp only [Act.put, List.setIfInBounds_toArray, List.set_cons_zero, List.set_cons_succ]
  refine wpAnyH_take (i := 14) (oi := { dst := some 152, op := Op.binOp BinOp.neq 9 (Operand.tmp 150) (Operand.tmp 151) 9, type := 4, pos := "law.go:344", after := #[{ on := 12, ground := Ground.data }, { on := 13, ground := Ground.data }, { on := 11, ground := Ground.guard }], guard := some (11, false) }) (v := .bool false) rfl (by kernel_rfl) (by kernel_rfl) (by kernel_rfl) (fun _ _ _ h => h) (Or.inl ⟨by rfl, fun wq hSw => by go_simp⟩) trivial ?_
  try simp only [Act.put, List.setIfInBounds_toArray, List.set_cons_zero, List.set_cons_succ]
  refine wpAnyH_take (i := 15) (oi := { dst := some 153, op := Op.move (Operand.tmp 152), type := 4, pos := "law.go:344", after := #[{ on := 14, ground := Ground.data }, { on := 11, ground := Ground.chain }, { on := 11, ground := Ground.guard }], guard := some (11, false) }) (v := .bool false) rfl (by kernel_rfl) (by kernel_rfl) (by kernel_rfl) (fun _ _ _ h => h) (Or.inl ⟨by rfl, fun wq hSw => by go_simp⟩) trivial ?_
  try simp only [Act.put, List.setIfInBounds_toArray, List.set_cons_zero, List.set_cons_succ]
  refine wpAnyH_take (i := 16) (oi := { dst := some 154, op := Op.move (Operand.tmp 29), type := 3, pos := "law.go:344", after := #[{ on := 15, ground := Ground.guard }], guard := some (15, true) }) (v := undef) rfl (by kernel_rfl) (by kernel_rfl) (by kernel_rfl) (fun _ _ _ h => h) (Or.inr ⟨by rfl, rfl⟩) trivial ?_
  try simp only [Act.put, List.setIfInBounds_toArray, List.set_cons_zero, List.set_cons_succ]
  refine wpAnyH_take (i := 17) (oi := { dst := some 155, op := Op.move (Operand.tmp 22), type := 3, pos := "law.go:344", after := #[{ on := 15, ground := Ground.guard }], guard := some (15, true) }) (v := undef) rfl (by kernel_rfl) (by kernel_rfl) (by kernel_rfl) (fun _ _ _ h => h) (Or.inr ⟨by rfl, rfl⟩) trivial ?_
  try simp only [Act.put, List.setIfInBounds_toArray, List.set_cons_zero, List.set_cons_succ]
  refine wpAnyH_take (i := 18) (oi := { dst := some 156, op := Op.binOp BinOp.neq 3 (Operand.tmp 154) (Operand.tmp 155) 3, type := 4, pos := "law.go:344", after := #[{ on := 16, ground := Ground.data }, { on := 17, ground := Ground.data }, { on := 15, ground := Ground.guard }], guard := some (15, true) }) (v := undef) rfl (by kernel_rfl) (by kernel_rfl) (by kernel_rfl) (fun _ _ _ h => h) (Or.inr ⟨by rfl, rfl⟩) trivial ?_
  try simp only [Act.put, List.setIfInBounds_toArray, List.set_cons_zero, List.set_cons_succ]
  refine wpAnyH_take (i := 19) (oi := { dst := some 157, op := Op.move (Operand.tmp 156), type := 4, pos := "law.go:344", after := #[{ on := 18, ground := Ground.data }, { on := 15, ground := Ground.chain }, { on := 15, ground := Ground.guard }], guard := some (15, true) }) (v := undef) rfl (by kernel_rfl) (by kernel_rfl) (by kernel_rfl) (fun _ _ _ h => h) (Or.inr ⟨by rfl, rfl⟩) trivial ?_
  try simp only [Act.put, List.setIfInBounds_toArray, List.set_cons_zero, List.set_cons_succ]
  refine wpAnyH_take (i := 20) (oi := { dst := some 158, op := Op.move (Operand.tmp 23), type := 31, pos := "law.go:344", after := #[{ on := 19, ground := Ground.guard }], guard := some (19, false) }) (v := undef) rfl (by kernel_rfl) (by kernel_rfl) (by kernel_rfl) (fun _ _ _ h => h) (Or.inr ⟨by rfl, rfl⟩) trivial ?_
  try simp only [Act.put, List.setIfInBounds_toArray, List.set_cons_zero, List.set_cons_succ]
  refine wpAnyH_take (i := 21) (oi := { dst := some 159, op := Op.binOp BinOp.eql 31 (Operand.tmp 158) (Operand.const Value.nilIface) 31, type := 4, pos := "law.go:344", after := #[{ on := 20, ground := Ground.data }, { on := 19, ground := Ground.guard }], guard := some (19, false) }) (v := undef) rfl (by kernel_rfl) (by kernel_rfl) (by kernel_rfl) (fun _ _ _ h => h) (Or.inr ⟨by rfl, rfl⟩) trivial ?_
  try simp only [Act.put, List.setIfInBounds_toArray, List.set_cons_zero, List.set_cons_succ]
  refine wpAnyH_take (i := 22) (oi := { dst := some 160, op := Op.move (Operand.tmp 30), type := 31, pos := "law.go:344", after := #[{ on := 19, ground := Ground.guard }], guard := some (19, false) }) (v := undef) rfl (by kernel_rfl) (by kernel_rfl) (by kernel_rfl) (fun _ _ _ h => h) (Or.inr ⟨by rfl, rfl⟩) trivial ?_
  try simp only [Act.put, List.setIfInBounds_toArray, List.set_cons_zero, List.set_cons_succ]
  refine wpAnyH_take (i := 23) (oi := { dst := some 161, op := Op.binOp BinOp.eql 31 (Operand.tmp 160) (Operand.const Value.nilIface) 31, type := 4, pos := "law.go:344", after := #[{ on := 22, ground := Ground.data }, { on := 19, ground := Ground.guard }], guard := some (19, false) }) (v := undef) rfl (by kernel_rfl) (by kernel_rfl) (by kernel_rfl) (fun _ _ _ h => h) (Or.inr ⟨by rfl, rfl⟩) trivial ?_
  try simp only [Act.put, List.setIfInBounds_toArray, List.set_cons_zero, List.set_cons_succ]
  refine wpAnyH_take (i := 24) (oi := { dst := some 162, op := Op.binOp BinOp.neq 4 (Operand.tmp 159) (Operand.tmp 161) 4, type := 4, pos := "law.go:344", after := #[{ on := 21, ground := Ground.data }, { on := 23, ground := Ground.data }, { on := 19, ground := Ground.guard }], guard := some (19, false) }) (v := undef) rfl (by kernel_rfl) (by kernel_rfl) (by kernel_rfl) (fun _ _ _ h => h) (Or.inr ⟨by rfl, rfl⟩) trivial ?_
  try simp only [Act.put, List.setIfInBounds_toArray, List.set_cons_zero, List.set_cons_succ]
  refine wpAnyH_take (i := 25) (oi := { dst := some 163, op := Op.pick (Operand.tmp 157) (Operand.const (Value.bool true)) (Operand.tmp 162), type := 4, pos := "law.go:344", after := #[{ on := 19, ground := Ground.data }, { on := 24, ground := Ground.data }, { on := 15, ground := Ground.guard }], guard := some (15, true) }) (v := undef) rfl (by kernel_rfl) (by kernel_rfl) (by kernel_rfl) (fun _ _ _ h => h) (Or.inr ⟨by rfl, rfl⟩) trivial ?_
  try simp only [Act.put, List.setIfInBounds_toArray, List.set_cons_zero, List.set_cons_succ]
  refine wpAnyH_take (i := 26) (oi := { dst := some 164, op := Op.pick (Operand.tmp 153) (Operand.tmp 163) (Operand.const (Value.bool false)), type := 4, pos := "law.go:344", after := #[{ on := 15, ground := Ground.data }, { on := 25, ground := Ground.data }, { on := 11, ground := Ground.guard }], guard := some (11, false) }) (v := .bool false) rfl (by kernel_rfl) (by kernel_rfl) (by kernel_rfl) (fun _ _ _ h => h) (Or.inl ⟨by rfl, fun wq hSw => by go_simp⟩) trivial ?_
  try simp only [Act.put, List.setIfInBounds_toArray, List.set_cons_zero, List.set_cons_succ]
  refine wpAnyH_take (i := 27) (oi := { dst := some 165, op := Op.pick (Operand.tmp 149) (Operand.const (Value.bool true)) (Operand.tmp 164), type := 4, pos := "law.go:344", after := #[{ on := 11, ground := Ground.data }, { on := 26, ground := Ground.data }], guard := none }) (v := .bool false) rfl (by kernel_rfl) (by kernel_rfl) (by kernel_rfl) (fun _ _ _ h => h) (Or.inl ⟨by rfl, fun wq hSw => by go_simp⟩) trivial ?_
  try simp only [Act.put, List.setIfInBounds_toArray, List.set_cons_zero, List.set_cons_succ]
  refine wpAnyH_take (i := 28) (oi := { dst := some 166, op := Op.move (Operand.tmp 165), type := 4, pos := "law.go:344", after := #[{ on := 27, ground := Ground.data }, { on := 19, ground := Ground.chain }], guard := none }) (v := .bool false) rfl (by kernel_rfl) (by kernel_rfl) (by kernel_rfl) (fun _ _ _ h => h) (Or.inl ⟨by rfl, fun wq hSw => by go_simp⟩) trivial ?_
  try simp only [Act.put, List.setIfInBounds_toArray, List.set_cons_zero, List.set_cons_succ]
  refine wpAnyH_take (i := 29) (oi := { dst := some 167, op := Op.move (Operand.tmp 25), type := 4, pos := "law.go:344", after := #[{ on := 28, ground := Ground.guard }], guard := some (28, false) }) (v := .bool B) rfl (by kernel_rfl) (by kernel_rfl) (by kernel_rfl) (fun _ _ _ h => h) (Or.inl ⟨by rfl, fun wq hSw => by go_simp⟩) trivial ?_
  try simp only [Act.put, List.setIfInBounds_toArray, List.set_cons_zero, List.set_cons_succ]
  refine wpAnyH_take (i := 30) (oi := { dst := some 168, op := Op.move (Operand.tmp 20), type := 23, pos := "law.go:344", after := #[{ on := 28, ground := Ground.guard }], guard := some (28, false) }) (v := .pointer (some ⟨p7, 0, none⟩)) rfl (by kernel_rfl) (by kernel_rfl) (by kernel_rfl) (fun _ _ _ h => h) (Or.inl ⟨by rfl, fun wq hSw => by go_simp⟩) trivial ?_
  try simp only [Act.put, List.setIfInBounds_toArray, List.set_cons_zero, List.set_cons_succ]
  refine wpAnyH_take (i := 33) (oi := { dst := some 171, op := Op.move (Operand.tmp 24), type := 3, pos := "law.go:344", after := #[{ on := 28, ground := Ground.guard }], guard := some (28, false) }) (v := .int .i64 many) rfl (by kernel_rfl) (by kernel_rfl) (by kernel_rfl) (fun _ _ _ h => h) (Or.inl ⟨by rfl, fun wq hSw => by go_simp⟩) trivial ?_
  try simp only [Act.put, List.setIfInBounds_toArray, List.set_cons_zero, List.set_cons_succ]
  refine wpAnyH_take (i := 34) (oi := { dst := some 172, op := Op.binOp BinOp.add 3 (Operand.tmp 171) (Operand.const (Value.int IntKind.i64 1)) 3, type := 3, pos := "law.go:344", after := #[{ on := 33, ground := Ground.data }, { on := 28, ground := Ground.guard }], guard := some (28, false) }) (v := .int .i64 ((many : Int) + 1)) rfl (by kernel_rfl) (by kernel_rfl) (by kernel_rfl) (fun _ _ _ h => h) (Or.inl ⟨by rfl, fun wq hSw => by go_simp⟩) trivial ?_
  try simp only [Act.put, List.setIfInBounds_toArray, List.set_cons_zero, List.set_cons_succ]
  refine wpAnyH_ready (rs := [31]) (by kernel_rfl) (by simp) ?_
  refine AllReadyH.cons (o := { dst := some 169, op := Op.call { callee := Callee.value (Operand.func 13), args := #[Operand.tmp 168], argTypes := #[23] }, type := 36, pos := "law.go:344", after := #[{ on := 30, ground := Ground.data }, { on := 28, ground := Ground.chain }, { on := 28, ground := Ground.guard }], guard := some (28, false) }) rfl (fun K hK => ?_) AllReadyH.nil
  go_simp
  refine (unhide HALd).mono ?_
  rintro e w15 ⟨a15, c15, rfl, HX⟩
  refine hK.out _ _ trivial (fun hHeld2 => ?_)
  clear hK K hHeld
  try simp only [Act.put, List.setIfInBounds_toArray, List.set_cons_zero, List.set_cons_succ]
  refine wpAnyH_take (i := 32) (oi := { dst := some 170, op := Op.call { callee := Callee.builtin Builtin.len, args := #[Operand.tmp 169], argTypes := #[36] }, type := 3, pos := "law.go:344", after := #[{ on := 31, ground := Ground.data }, { on := 28, ground := Ground.guard }], guard := some (28, false) }) (v := .int .i64 n2) rfl (by kernel_rfl) (by kernel_rfl) (by kernel_rfl) (fun _ _ _ h => h) (Or.inl ⟨by rfl, fun wq hSw => by go_simp⟩) trivial ?_
  try simp only [Act.put, List.setIfInBounds_toArray, List.set_cons_zero, List.set_cons_succ]
  refine wpAnyH_take (i := 35) (oi := { dst := some 173, op := Op.binOp BinOp.eql 3 (Operand.tmp 170) (Operand.tmp 172) 3, type := 4, pos := "law.go:344", after := #[{ on := 32, ground := Ground.data }, { on := 34, ground := Ground.data }, { on := 28, ground := Ground.guard }], guard := some (28, false) }) (v := .bool B) rfl (by kernel_rfl) (by kernel_rfl) (by kernel_rfl) (fun _ _ _ h => h) (Or.inl ⟨by rfl, fun wq hSw => by go_simp⟩) trivial ?_
  try simp only [Act.put, List.setIfInBounds_toArray, List.set_cons_zero, List.set_cons_succ]
  refine wpAnyH_take (i := 36) (oi := { dst := some 174, op := Op.binOp BinOp.neq 4 (Operand.tmp 167) (Operand.tmp 173) 4, type := 4, pos := "law.go:344", after := #[{ on := 29, ground := Ground.data }, { on := 35, ground := Ground.data }, { on := 28, ground := Ground.guard }], guard := some (28, false) }) (v := .bool false) rfl (by kernel_rfl) (by kernel_rfl) (by kernel_rfl) (fun _ _ _ h => h) (Or.inl ⟨by rfl, fun wq hSw => by go_simp⟩) trivial ?_
  try simp only [Act.put, List.setIfInBounds_toArray, List.set_cons_zero, List.set_cons_succ]
  refine wpAnyH_take (i := 37) (oi := { dst := some 175, op := Op.pick (Operand.tmp 166) (Operand.const (Value.bool true)) (Operand.tmp 174), type := 4, pos := "law.go:344", after := #[{ on := 28, ground := Ground.data }, { on := 36, ground := Ground.data }], guard := none }) (v := .bool false) rfl (by kernel_rfl) (by kernel_rfl) (by kernel_rfl) (fun _ _ _ h => h) (Or.inl ⟨by rfl, fun wq hSw => by go_simp⟩) trivial ?_
  try simp only [Act.put, List.setIfInBounds_toArray, List.set_cons_zero, List.set_cons_succ]
  refine wpAnyH_done (by kernel_rfl) ?_ _
  obtain ⟨g15, d15, hh, hb⟩ := unhide HX
  have HC := hide (unhide HU1 w15 p7 g15 d15 hh hb)
  clear hh hb HX HALd HU1
  go_wp2_with fail
  refine (unhide HC).mono ?_
  rintro e w16 ⟨rfl, g16, c16, hh, hb⟩
  replace HC := hide (unhide HG5 w16 p7 g16 c16 hh hb)
  clear hh hb HG5
  go_wp2_with fail
  refine (unhide HC).mono ?_
  rintro e w17 ⟨rfl, g17, c17, hh, hb⟩
  replace HC := hide (unhide HE5 w17 p7 g17 c17 hh hb)
  clear hh hb
  go_wp2_with fail
  refine (unhide HC).mono ?_
  rintro e w18 ⟨rfl, g18, c18, hh, hb⟩
  replace HC := hide (unhide HU2 w18 p7 g18 c18 hh hb)
  clear hh hb HU2
  go_wp2_with fail
  refine (unhide HC).mono ?_
  rintro e w19 ⟨rfl, g19, c19, hh, hb⟩
  replace HC := hide (unhide HE5 w19 p7 g19 c19 hh hb)
  clear hh hb HE5
  go_wp2_with fail
  refine (unhide HC).mono ?_
  rintro e w20 ⟨rfl, g20, c20, hh, hb⟩
  have HB := hide hb
  clear hh hb HC
  go_wp2
  go_ret
  exact ⟨rfl, unhide HB⟩
end Go.Proofs.YtojdfbmfbmanaaaGreatDoor
/-! The walk of RootLeads where the other name leads. (Part of the proof of RootLeads.) -/
namespace Go.Proofs.YtojdfbmfbmanaaaGreatDoor
open Go.RowKit
set_option linter.unusedVariables false

set_option maxRecDepth 100000 in
set_option maxHeartbeats 8000000 in
theorem leads_is (a : Option Addr) (cap : Nat) (l : List Int) (s t : ByteArray) (x : Int) (w : World) (hg : ErrT w) (hb : Bs w a cap l) (hs : s.size ≤ 140737488351232) (hts : t.size ≤ 140737488351232) (h0 : seE (ldL l) s x = 0) (hst : s ≠ t) (hE : gtE (ldL l) t (-1) = 0) :
    Calls Tryz.prog 4 #[.slice a l.length cap, .string s, .string t, .int .i64 x] w fun e w' => e = .returned (.bool true) ∧ Below w.heap.size w w' := by
  have HN := hide (hNew_yes 320 w (by decide))
  obtain ⟨o1, o2, ox, o3⟩ := one_made (N := 320) (t := 3) (by decide) (by decide) (by decide) (by decide)
  have HA := hide (stp_alloc (w := w) o1 o2)
  obtain ⟨j1, j2, j3, j4, j5, j6, j7⟩ := one_root o3
  have hS1 := stp_set (w := w) (alB (zerosB 320) 1 3) nmA 1 (by decide)
  rw [j1, j2, j3, errV_zero] at hS1
  have hG3 := stp_get (w := w) (seB (alB (zerosB 320) 1 3) nmA 1) nmA 3 (by decide)
  rw [j4, j5, errV_zero] at hG3
  have hG4 := stp_get (w := w) (seB (alB (zerosB 320) 1 3) nmA 1) nmA 4 (by decide)
  rw [j6, j7, errV_pos 8 (by decide)] at hG4
  have hE8 := stp_err (w := w) hg (seB (alB (zerosB 320) 1 3) nmA 1) 8
  rw [errV_pos 8 (by decide)] at hE8
  have HS1 := hide hS1
  have HG3 := hide hG3
  have HG4 := hide hG4
  have HE8 := hide hE8
  have hf := ldL_fine l
  have HL : Hid (∀ W, Below w.heap.size w W → Calls Tryz.prog 6 #[.slice a l.length cap] W fun e w' => ∃ p g c am nm cm, e = .returned (.tuple #[.pointer (some ⟨p, 0, none⟩), .slice am nm cm]) ∧ Hp w' w.heap.size p g c (ldL l) ∧ Below w.heap.size w w') := hide (fun W hW => by
    refine (loaded_any a cap l W (hb.below hW)).mono ?_
    rintro e w' ⟨p, g, c, am, cm, rfl, hh, _, hb'⟩
    exact ⟨p, g, c, am, _, cm, rfl, hh.lowB hW.size, hW.trans (hb'.mono hW.size)⟩)
  have hGT := stp_get (w := w) (ldL l) t (-1) hts
  have HAL := hide (fun (W : World) (p g c : Nat) (h : Hp W w.heap.size p g c (ldL l)) (hW : Below w.heap.size w W) => all_len (ldL l) _ rfl W p g c h hW)
  have hmany := rootsK_len (ldL l) 8
  have hbl := hb.2.2.1
  have hoth := gt_same (se_other hf h0 (fun h => hst h.symm))
  have hG2 := stp_get (w := w) (seB (ldL l) s x) t (-1) hts
  rw [hoth.1, hoth.2] at hG2
  rw [hE, errV_zero] at hGT hG2
  have HGT := hide hGT
  have HG2 := hide hG2
  have hsl := toL_no hst
  have hld := led_of hf h0
  have hcnt := se_count hf h0
  have hSE := stp_set (w := w) (ldL l) s x hs
  rw [hld.o, hld.f, h0, errV_zero] at hSE
  have hGS := stp_get (w := w) (seB (ldL l) s x) s (-1) hs
  rw [hld.ge, hld.gh, errV_zero] at hGS
  have hFR := stp_free (w := w) (seB (ldL l) s x) x
  rw [hld.fr, hld.fb, errV_pos 7 (by decide)] at hFR
  have hE7 := stp_err (w := w) hg (seB (ldL l) s x) 7
  rw [errV_pos 7 (by decide)] at hE7
  have hU1 := stp_unset (w := w) (seB (ldL l) s x) s hs
  rw [hld.uf, hld.ue, errV_zero] at hU1
  have hG5 := stp_get (w := w) (unB (seB (ldL l) s x) s) s (-1) hs
  rw [hld.g5, hld.h5, errV_pos 5 (by decide)] at hG5
  have hE5 := stp_err (w := w) hg (unB (seB (ldL l) s x) s) 5
  rw [errV_pos 5 (by decide)] at hE5
  have hU2 := stp_unset (w := w) (unB (seB (ldL l) s x) s) s hs
  rw [hld.uu, hld.u5, errV_pos 5 (by decide)] at hU2
  have hwr : IntKind.i64.wrap (((rootsK (ldL l) 8).length : Int) + 1) = ((rootsK (ldL l) 8).length : Int) + 1 := by rw [IntKind.wrap_i64]; omega
  have HAL2 := hide (fun (W : World) (p g c : Nat) (h : Hp W w.heap.size p g c (seB (ldL l) s x)) (hW : Below w.heap.size w W) => all_len (seB (ldL l) s x) _ rfl W p g c h hW)
  have hn2 := rootsK_len (seB (ldL l) s x) 8
  have hnb : (((rootsK (seB (ldL l) s x) 8).length : Int) == ((rootsK (ldL l) 8).length : Int) + 1) = seN (ldL l) s := by
    rw [hcnt]
    cases seN (ldL l) s with
    | true => rw [if_pos rfl]; simp
    | false => rw [if_neg (by simp)]; simp; omega
  have HSE := hide hSE
  have HGS := hide hGS
  have HFR := hide hFR
  have HE7 := hide hE7
  have HU1 := hide hU1
  have HG5 := hide hG5
  have HE5 := hide hE5
  have HU2 := hide hU2
  clear hb hg hf o1 o2 o3 j1 j2 j3 j4 j5 j6 j7 hS1 hG3 hG4 hE8 hGT hSE hGS hFR hE7 hU1 hG5 hE5 hU2 hld hcnt h0 hG2 hE hoth hst
  unfold nmA at HS1 HG3 HG4 HE8
  generalize gtH (ldL l) t (-1) = TH at *
  generalize seN (ldL l) s = B at *
  generalize (rootsK (seB (ldL l) s x) 8).length = n2 at *
  generalize unB (seB (ldL l) s x) s = U at *
  generalize seB (ldL l) s x = SB at *
  generalize (rootsK (ldL l) 8).length = many at *
  generalize ldL l = M at *
  generalize seB (alB (zerosB 320) 1 3) { data := #[97] } 1 = S1 at *
  generalize alB (zerosB 320) 1 3 = L1 at *
  generalize zerosB 320 = Z at *
  generalize l.length = nl at *
  go_enter Tryz.func4, Tryz.ntmps4
  go_wp2_with fail
  refine (unhide HN).mono ?_
  rintro e w1 ⟨p, g, c, rfl, hh, hb⟩
  have HC := hide (unhide HA w1 p g c hh hb)
  clear hh hb HN HA
  go_wp2_with fail
  refine (unhide HC).mono ?_
  rintro e w2 ⟨rfl, g2, c2, hh, hb⟩
  replace HC := hide (unhide HS1 w2 p g2 c2 hh hb)
  clear hh hb HS1
  go_wp2_with fail
  refine (unhide HC).mono ?_
  rintro e w3 ⟨rfl, g3, c3, hh, hb⟩
  replace HC := hide (unhide HG3 w3 p g3 c3 hh hb)
  clear hh hb HG3
  go_wp2_with fail
  refine (unhide HC).mono ?_
  rintro e w4 ⟨rfl, g4, c4, hh, hb⟩
  replace HC := hide (unhide HG4 w4 p g4 c4 hh hb)
  clear hh hb HG4
  go_wp2_with fail
  refine (unhide HC).mono ?_
  rintro e w5 ⟨rfl, g5, c5, hh, hb⟩
  replace HC := hide (unhide HE8 w5 p g5 c5 hh hb)
  clear hh hb HE8
  go_wp2_with fail
  refine (unhide HC).mono ?_
  rintro e w6 ⟨rfl, g6, c6, hh, hb⟩
  replace HC := hide (unhide HL w6 hb)
  clear hh hb HL
  go_wp2_with fail
  refine (unhide HC).mono ?_
  rintro e w7 ⟨p7, g7, c7, am, nm, cm, rfl, hh, hb⟩
  replace HC := hide (unhide HGT w7 p7 g7 c7 hh hb)
  clear hh hb HGT
  go_wp2_with fail
  refine (unhide HC).mono ?_
  rintro e w8 ⟨rfl, g8, c8, hh, hb⟩
  replace HC := hide (unhide HAL w8 p7 g8 c8 hh hb)
  clear hh hb HAL
  go_wp2_with fail
  refine (unhide HC).mono ?_
  rintro e w9 ⟨a9, c9, rfl, HX9⟩
  obtain ⟨g9, d9, hh, hb⟩ := unhide HX9
  replace HC := hide (unhide HSE w9 p7 g9 d9 hh hb)
  clear hh hb HX9 HSE
  go_wp2_with fail
  refine (unhide HC).mono ?_
  rintro e w10 ⟨rfl, g10, c10, hh, hb⟩
  replace HC := hide (unhide HGS w10 p7 g10 c10 hh hb)
  clear hh hb HGS
  go_wp2_with fail
  refine (unhide HC).mono ?_
  rintro e w11 ⟨rfl, g11, c11, hh, hb⟩
  replace HC := hide (unhide HG2 w11 p7 g11 c11 hh hb)
  clear hh hb HG2
  go_wp2_with fail
  refine (unhide HC).mono ?_
  rintro e w12 ⟨rfl, g12, c12, hh, hb⟩
  replace HC := hide (unhide HFR w12 p7 g12 c12 hh hb)
  clear hh hb HFR
  go_wp2_with fail
  refine (unhide HC).mono ?_
  rintro e w13 ⟨rfl, g13, c13, hh, hb⟩
  replace HC := hide (unhide HE7 w13 p7 g13 c13 hh hb)
  clear hh hb HE7
  go_wp2_with fail
  refine (unhide HC).mono ?_
  rintro e w14 ⟨rfl, g14, c14, hh, hb⟩
  have HALd := hide (unhide HAL2 w14.drew p7 g14 c14 (hh.below (below_drew (Below.refl _ _))) (below_drew hb))
  clear hh hb HC HAL2
  go_wp2_with fail
  go_region_held3 (fun _ => True) (trivial) ((go_at_call 13; refine (unhide HALd).mono ?_; rintro e w15 ⟨a15, c15, rfl, HX⟩))
  obtain ⟨g15, d15, hh, hb⟩ := unhide HX
  have HC := hide (unhide HU1 w15 p7 g15 d15 hh hb)
  clear hh hb HX HALd HU1
  go_wp2_with fail
  refine (unhide HC).mono ?_
  rintro e w16 ⟨rfl, g16, c16, hh, hb⟩
  replace HC := hide (unhide HG5 w16 p7 g16 c16 hh hb)
  clear hh hb HG5
  go_wp2_with fail
  refine (unhide HC).mono ?_
  rintro e w17 ⟨rfl, g17, c17, hh, hb⟩
  replace HC := hide (unhide HE5 w17 p7 g17 c17 hh hb)
  clear hh hb
  go_wp2_with fail
  refine (unhide HC).mono ?_
  rintro e w18 ⟨rfl, g18, c18, hh, hb⟩
  replace HC := hide (unhide HU2 w18 p7 g18 c18 hh hb)
  clear hh hb HU2
  go_wp2_with fail
  refine (unhide HC).mono ?_
  rintro e w19 ⟨rfl, g19, c19, hh, hb⟩
  replace HC := hide (unhide HE5 w19 p7 g19 c19 hh hb)
  clear hh hb HE5
  go_wp2_with fail
  refine (unhide HC).mono ?_
  rintro e w20 ⟨rfl, g20, c20, hh, hb⟩
  have HB := hide hb
  clear hh hb HC
  go_wp2
  go_ret
  exact ⟨rfl, unhide HB⟩
end Go.Proofs.YtojdfbmfbmanaaaGreatDoor
/-! The walk of RootLeads where the other name does not lead. (Part of the proof of RootLeads.) -/
namespace Go.Proofs.YtojdfbmfbmanaaaGreatDoor
open Go.RowKit
set_option linter.unusedVariables false

set_option maxRecDepth 100000 in
set_option maxHeartbeats 8000000 in
theorem leads_isno (a : Option Addr) (cap : Nat) (l : List Int) (s t : ByteArray) (x : Int) (w : World) (hg : ErrT w) (hb : Bs w a cap l) (hs : s.size ≤ 140737488351232) (hts : t.size ≤ 140737488351232) (h0 : seE (ldL l) s x = 0) (hst : s ≠ t) (hE : gtE (ldL l) t (-1) ≠ 0) :
    Calls Tryz.prog 4 #[.slice a l.length cap, .string s, .string t, .int .i64 x] w fun e w' => e = .returned (.bool true) ∧ Below w.heap.size w w' := by
  have HN := hide (hNew_yes 320 w (by decide))
  obtain ⟨o1, o2, ox, o3⟩ := one_made (N := 320) (t := 3) (by decide) (by decide) (by decide) (by decide)
  have HA := hide (stp_alloc (w := w) o1 o2)
  obtain ⟨j1, j2, j3, j4, j5, j6, j7⟩ := one_root o3
  have hS1 := stp_set (w := w) (alB (zerosB 320) 1 3) nmA 1 (by decide)
  rw [j1, j2, j3, errV_zero] at hS1
  have hG3 := stp_get (w := w) (seB (alB (zerosB 320) 1 3) nmA 1) nmA 3 (by decide)
  rw [j4, j5, errV_zero] at hG3
  have hG4 := stp_get (w := w) (seB (alB (zerosB 320) 1 3) nmA 1) nmA 4 (by decide)
  rw [j6, j7, errV_pos 8 (by decide)] at hG4
  have hE8 := stp_err (w := w) hg (seB (alB (zerosB 320) 1 3) nmA 1) 8
  rw [errV_pos 8 (by decide)] at hE8
  have HS1 := hide hS1
  have HG3 := hide hG3
  have HG4 := hide hG4
  have HE8 := hide hE8
  have hf := ldL_fine l
  have HL : Hid (∀ W, Below w.heap.size w W → Calls Tryz.prog 6 #[.slice a l.length cap] W fun e w' => ∃ p g c am nm cm, e = .returned (.tuple #[.pointer (some ⟨p, 0, none⟩), .slice am nm cm]) ∧ Hp w' w.heap.size p g c (ldL l) ∧ Below w.heap.size w w') := hide (fun W hW => by
    refine (loaded_any a cap l W (hb.below hW)).mono ?_
    rintro e w' ⟨p, g, c, am, cm, rfl, hh, _, hb'⟩
    exact ⟨p, g, c, am, _, cm, rfl, hh.lowB hW.size, hW.trans (hb'.mono hW.size)⟩)
  have hGT := stp_get (w := w) (ldL l) t (-1) hts
  have HAL := hide (fun (W : World) (p g c : Nat) (h : Hp W w.heap.size p g c (ldL l)) (hW : Below w.heap.size w W) => all_len (ldL l) _ rfl W p g c h hW)
  have hmany := rootsK_len (ldL l) 8
  have hbl := hb.2.2.1
  have hoth := gt_same (se_other hf h0 (fun h => hst h.symm))
  have hG2 := stp_get (w := w) (seB (ldL l) s x) t (-1) hts
  rw [hoth.1, hoth.2] at hG2
  rw [errV_pos _ hE] at hGT hG2
  have HGT := hide hGT
  have HG2 := hide hG2
  have hsl := toL_no hst
  have hld := led_of hf h0
  have hcnt := se_count hf h0
  have hSE := stp_set (w := w) (ldL l) s x hs
  rw [hld.o, hld.f, h0, errV_zero] at hSE
  have hGS := stp_get (w := w) (seB (ldL l) s x) s (-1) hs
  rw [hld.ge, hld.gh, errV_zero] at hGS
  have hFR := stp_free (w := w) (seB (ldL l) s x) x
  rw [hld.fr, hld.fb, errV_pos 7 (by decide)] at hFR
  have hE7 := stp_err (w := w) hg (seB (ldL l) s x) 7
  rw [errV_pos 7 (by decide)] at hE7
  have hU1 := stp_unset (w := w) (seB (ldL l) s x) s hs
  rw [hld.uf, hld.ue, errV_zero] at hU1
  have hG5 := stp_get (w := w) (unB (seB (ldL l) s x) s) s (-1) hs
  rw [hld.g5, hld.h5, errV_pos 5 (by decide)] at hG5
  have hE5 := stp_err (w := w) hg (unB (seB (ldL l) s x) s) 5
  rw [errV_pos 5 (by decide)] at hE5
  have hU2 := stp_unset (w := w) (unB (seB (ldL l) s x) s) s hs
  rw [hld.uu, hld.u5, errV_pos 5 (by decide)] at hU2
  have hwr : IntKind.i64.wrap (((rootsK (ldL l) 8).length : Int) + 1) = ((rootsK (ldL l) 8).length : Int) + 1 := by rw [IntKind.wrap_i64]; omega
  have HAL2 := hide (fun (W : World) (p g c : Nat) (h : Hp W w.heap.size p g c (seB (ldL l) s x)) (hW : Below w.heap.size w W) => all_len (seB (ldL l) s x) _ rfl W p g c h hW)
  have hn2 := rootsK_len (seB (ldL l) s x) 8
  have hnb : (((rootsK (seB (ldL l) s x) 8).length : Int) == ((rootsK (ldL l) 8).length : Int) + 1) = seN (ldL l) s := by
    rw [hcnt]
    cases seN (ldL l) s with
    | true => rw [if_pos rfl]; simp
    | false => rw [if_neg (by simp)]; simp; omega
  have HSE := hide hSE
  have HGS := hide hGS
  have HFR := hide hFR
  have HE7 := hide hE7
  have HU1 := hide hU1
  have HG5 := hide hG5
  have HE5 := hide hE5
  have HU2 := hide hU2
  clear hb hg hf o1 o2 o3 j1 j2 j3 j4 j5 j6 j7 hS1 hG3 hG4 hE8 hGT hSE hGS hFR hE7 hU1 hG5 hE5 hU2 hld hcnt h0 hG2 hE hoth hst
  unfold nmA at HS1 HG3 HG4 HE8
  generalize gtH (ldL l) t (-1) = TH at *
  generalize gtE (ldL l) t (-1) = TE at *
  generalize seN (ldL l) s = B at *
  generalize (rootsK (seB (ldL l) s x) 8).length = n2 at *
  generalize unB (seB (ldL l) s x) s = U at *
  generalize seB (ldL l) s x = SB at *
  generalize (rootsK (ldL l) 8).length = many at *
  generalize ldL l = M at *
  generalize seB (alB (zerosB 320) 1 3) { data := #[97] } 1 = S1 at *
  generalize alB (zerosB 320) 1 3 = L1 at *
  generalize zerosB 320 = Z at *
  generalize l.length = nl at *
  go_enter Tryz.func4, Tryz.ntmps4
  go_wp2_with fail
  refine (unhide HN).mono ?_
  rintro e w1 ⟨p, g, c, rfl, hh, hb⟩
  have HC := hide (unhide HA w1 p g c hh hb)
  clear hh hb HN HA
  go_wp2_with fail
  refine (unhide HC).mono ?_
  rintro e w2 ⟨rfl, g2, c2, hh, hb⟩
  replace HC := hide (unhide HS1 w2 p g2 c2 hh hb)
  clear hh hb HS1
  go_wp2_with fail
  refine (unhide HC).mono ?_
  rintro e w3 ⟨rfl, g3, c3, hh, hb⟩
  replace HC := hide (unhide HG3 w3 p g3 c3 hh hb)
  clear hh hb HG3
  go_wp2_with fail
  refine (unhide HC).mono ?_
  rintro e w4 ⟨rfl, g4, c4, hh, hb⟩
  replace HC := hide (unhide HG4 w4 p g4 c4 hh hb)
  clear hh hb HG4
  go_wp2_with fail
  refine (unhide HC).mono ?_
  rintro e w5 ⟨rfl, g5, c5, hh, hb⟩
  replace HC := hide (unhide HE8 w5 p g5 c5 hh hb)
  clear hh hb HE8
  go_wp2_with fail
  refine (unhide HC).mono ?_
  rintro e w6 ⟨rfl, g6, c6, hh, hb⟩
  replace HC := hide (unhide HL w6 hb)
  clear hh hb HL
  go_wp2_with fail
  refine (unhide HC).mono ?_
  rintro e w7 ⟨p7, g7, c7, am, nm, cm, rfl, hh, hb⟩
  replace HC := hide (unhide HGT w7 p7 g7 c7 hh hb)
  clear hh hb HGT
  go_wp2_with fail
  refine (unhide HC).mono ?_
  rintro e w8 ⟨rfl, g8, c8, hh, hb⟩
  replace HC := hide (unhide HAL w8 p7 g8 c8 hh hb)
  clear hh hb HAL
  go_wp2_with fail
  refine (unhide HC).mono ?_
  rintro e w9 ⟨a9, c9, rfl, HX9⟩
  obtain ⟨g9, d9, hh, hb⟩ := unhide HX9
  replace HC := hide (unhide HSE w9 p7 g9 d9 hh hb)
  clear hh hb HX9 HSE
  go_wp2_with fail
  refine (unhide HC).mono ?_
  rintro e w10 ⟨rfl, g10, c10, hh, hb⟩
  replace HC := hide (unhide HGS w10 p7 g10 c10 hh hb)
  clear hh hb HGS
  go_wp2_with fail
  refine (unhide HC).mono ?_
  rintro e w11 ⟨rfl, g11, c11, hh, hb⟩
  replace HC := hide (unhide HG2 w11 p7 g11 c11 hh hb)
  clear hh hb HG2
  go_wp2_with fail
  refine (unhide HC).mono ?_
  rintro e w12 ⟨rfl, g12, c12, hh, hb⟩
  replace HC := hide (unhide HFR w12 p7 g12 c12 hh hb)
  clear hh hb HFR
  go_wp2_with fail
  refine (unhide HC).mono ?_
  rintro e w13 ⟨rfl, g13, c13, hh, hb⟩
  replace HC := hide (unhide HE7 w13 p7 g13 c13 hh hb)
  clear hh hb HE7
  go_wp2_with fail
  refine (unhide HC).mono ?_
  rintro e w14 ⟨rfl, g14, c14, hh, hb⟩
  have HALd := hide (unhide HAL2 w14.drew p7 g14 c14 (hh.below (below_drew (Below.refl _ _))) (below_drew hb))
  clear hh hb HC HAL2
  go_wp2_with fail
  go_region_held3 (fun _ => True) (trivial) ((go_at_call 13; refine (unhide HALd).mono ?_; rintro e w15 ⟨a15, c15, rfl, HX⟩))
  obtain ⟨g15, d15, hh, hb⟩ := unhide HX
  have HC := hide (unhide HU1 w15 p7 g15 d15 hh hb)
  clear hh hb HX HALd HU1
  go_wp2_with fail
  refine (unhide HC).mono ?_
  rintro e w16 ⟨rfl, g16, c16, hh, hb⟩
  replace HC := hide (unhide HG5 w16 p7 g16 c16 hh hb)
  clear hh hb HG5
  go_wp2_with fail
  refine (unhide HC).mono ?_
  rintro e w17 ⟨rfl, g17, c17, hh, hb⟩
  replace HC := hide (unhide HE5 w17 p7 g17 c17 hh hb)
  clear hh hb
  go_wp2_with fail
  refine (unhide HC).mono ?_
  rintro e w18 ⟨rfl, g18, c18, hh, hb⟩
  replace HC := hide (unhide HU2 w18 p7 g18 c18 hh hb)
  clear hh hb HU2
  go_wp2_with fail
  refine (unhide HC).mono ?_
  rintro e w19 ⟨rfl, g19, c19, hh, hb⟩
  replace HC := hide (unhide HE5 w19 p7 g19 c19 hh hb)
  clear hh hb HE5
  go_wp2_with fail
  refine (unhide HC).mono ?_
  rintro e w20 ⟨rfl, g20, c20, hh, hb⟩
  have HB := hide hb
  clear hh hb HC
  go_wp2
  go_ret
  exact ⟨rfl, unhide HB⟩
end Go.Proofs.YtojdfbmfbmanaaaGreatDoor
