/-
  The walk of TopEachStep. (Part of the proof of TopEachStep.)
-/
import Derived.Test.YtmmgadnicodakabGreatJTe
import Derived.Test.YtmmgadnicodakabGreatJTl
import Derived.Deep.CutRange
namespace Go.Proofs.YtmmgadnicodakabGreat
open Go.RowKit
set_option linter.unusedVariables false
def TeIn (ks : List (List Int)) (K : List Int) (z : Prop) (i : Nat) : Prop := ∃ j, j ≤ i ∧ j < ks.length ∧ ks.getD j [] = K ∧ (z → j = ks.length - 1)
theorem TeIn.next {ks : List (List Int)} {K : List Int} {z : Prop} {i : Nat} (h : TeIn ks K z i) (hn : ks.getD i [] ≠ K) : 1 ≤ i ∧ TeIn ks K z (i - 1) := by
 obtain ⟨j, h1, h2, h3, h4⟩ := h
 have hj : j ≠ i := fun e => hn (by rw [← e]; exact h3)
 exact ⟨by omega, j, by omega, h2, h3, h4⟩
theorem TeIn.last {ks : List (List Int)} {K : List Int} {z : Prop} {i : Nat} (h : TeIn ks K z i) (hi : i < ks.length) (hz : z) : i = ks.length - 1 := by
 obtain ⟨j, h1, h2, h3, h4⟩ := h
 have := h4 hz
 omega
theorem te_in {Z : List Int} {S : List (List Int)} {K : List Int} {z : Prop} (h : K = Z ∨ K ∈ S) (hz : z → K = (Z :: S).getLast (by simp)) : TeIn (Z :: S) K z (S.length) := by
 by_cases hzz : z
 ·refine ⟨S.length, Nat.le_refl _, by simp, ?_, fun _ => by simp⟩
  rw [hz hzz, List.getD_eq_getElem?_getD, List.getLast_eq_getElem]
  simp
 ·have hm : K ∈ Z :: S := by
   rcases h with h | h
   ·rw [h]; simp
   ·simp [h]
  obtain ⟨j, hj, e⟩ := List.getElem_of_mem hm
  refine ⟨j, ?_, hj, ?_, fun h => absurd h hzz⟩
  ·rw [List.length_cons] at hj; omega
  ·rw [List.getD_eq_getElem?_getD, List.getElem?_eq_getElem hj, e]; rfl
theorem stK_len {m : Nat} : ∀ (l : List OpP) (p : Ps), (stK m p l).length ≤ l.length
 | [], p => Nat.le_refl _
 | o :: l, p => by
  show ((if o.1 = 6 ∧ (psDo m p o).2 = 0 then [(psDo m p o).1.L] else []) ++ stK m (psDo m p o).1 l).length ≤ l.length + 1
  have := stK_len (m := m) l (psDo m p o).1
  rw [List.length_append]
  split <;> simp <;> omega
theorem steps_64e (W : World) (a : Option Addr) (c : Nat) (l : List OpR) (ho : Ops W a c l) (hl : l.length ≤ 200) :
  Calls Tryz.prog 10 #[.int .i64 64, .slice a l.length c] W fun e w' => e = .returned (.tuple #[.int .i64 (stSum 16 (crP 64 16) (l.map opP)), .nilIface]) ∧ Below W.heap.size W w' :=
 steps_yes (m := 16) W 64 ho (by decide) (by decide) rfl hl
theorem play_64 (W : World) {a : Option Addr} {c : Nat} {l : List OpR} (ho : Ops W a c l) (hl : l.length ≤ 200) (q torn cut : Int) (h0 : 0 ≤ q) (hq : q ≤ stSum 16 (crP 64 16) (l.map opP)) {ka : Option Addr} {kc : Nat} {keep : List Bool} (hk : Bls W ka kc keep) :
  Calls Tryz.prog 11 #[.int .i64 64, .slice a l.length c, .int .i64 q, .slice ka keep.length kc, .int .i64 torn, .int .i64 cut] W fun e w' => ∃ v1 v2 K, e = .returned (.tuple #[v1, v2, .nilIface]) ∧ TellV W w' K v1 v2 ∧ TeIn (keptL 16 (crP 64 16) l l.length) K (q = stSum 16 (crP 64 16) (l.map opP)) ((keptL 16 (crP 64 16) l l.length).length - 1) ∧ Below W.heap.size W w' := by
 have hf := st_few (m := 16) (l.map opP) (crP 64 16)
 rw [List.length_map] at hf
 obtain ⟨K, ⟨⟨s, hr⟩, h2, h3, h4⟩, h5, h6⟩ := play_each (n := 64) (m := 16) (l := l.map opP) (by decide) (by decide) rfl (by simpa using hl) (ops_byt ho) keep torn (cutN_le cut) h0 hq
 refine (play_yes (m := 16) W 64 ho q torn cut (by omega) hk (by decide) (by decide) rfl hl hr h2 h3 h4).mono ?_
 rintro e w' ⟨v1, v2, he, htv, hb⟩
 refine ⟨v1, v2, K, he, htv, ?_, hb⟩
 have := te_in h5 h6
 unfold keptL
 rw [List.take_length]
 exact this
set_option maxRecDepth 100000 in
set_option maxHeartbeats 8000000 in
theorem walkTopEachStep (a0 : Option Addr) (cap0 : Nat) (ops : List OpR) (a1 : Option Addr) (cap1 : Nat) (keep : List Bool) (torn cut frm : Int) (w : World) (ho : Ops w a0 cap0 ops) (hk : Bls w a1 cap1 keep) (ht : -9223372036854775808 ≤ torn ∧ torn ≤ 9223372036854775807) (hc : -9223372036854775808 ≤ cut ∧ cut ≤ 9223372036854775807) (hfr : -9223372036854775808 ≤ frm ∧ frm ≤ 9223372036854775807) :
  Calls Tryz.prog 3 #[.slice a0 ops.length cap0, .slice a1 keep.length cap1, .int .i64 torn, .int .i64 cut, .int .i64 frm] w fun e w' => e = .returned (.bool true) ∧ Below w.heap.size w w' := by
 have hol := ho.1.2.2.1
 have hkl := hk.2.1
 have HO := hide ho
 have HK := hide hk
 have HON := hide (one_any w)
 obtain ⟨i0, hi0, hz0, hz1, hz2⟩ := info_parts info_im
 clear ho hk
 go_enter Tryz.func3, Tryz.ntmps3
 go_wp2_with fail
 refine (unhide HON).mono ?_
 rintro e w1 ⟨rfl, hb1⟩
 have HB1 := hide hb1
 clear hb1 HON
 by_cases hin : ops.length ≤ 12 ∧ 0 ≤ frm ∧ frm ≤ 100
 ·obtain ⟨h12, hf0, hf1⟩ := hin
  have e12 : (ops.length : Int) ≤ 12 := by omega
  have HN := hide (new_live 64 w w1 (unhide HB1) (by decide) (by decide))
  obtain ⟨u1, u2, u3⟩ := cr_up (n := 64) (m := 16) (by decide) (by decide) rfl
  have HU := hide u1
  have HS2 := hide u3
  clear u1 u2 u3
  go_wp2_with fail
  refine (unhide HN).mono ?_
  rintro e w2 ⟨p, S, rfl, hl, _, _⟩
  have HC := hide (tf_create (m := 16) hl (by decide) (by decide) rfl)
  clear hl HN
  go_wp2_with fail
  refine (unhide HC).mono ?_
  rintro e w3 ⟨t, x, rfl, F, htf⟩
  have HH := hide htf.heap
  have hby := htf.bytes
  have hzl : (crP 64 16).L.length = 512 := length_zerosB _
  rw [hzl] at hby
  have HBY := hide hby
  have HTF := hide htf
  have HZL := hide hzl
  clear htf hby HC hzl
  go_wp2_with fail
  refine (unhide HH).mono ?_
  rintro e w4 ⟨rfl, rfl⟩
  go_wp2_with fail
  refine (unhide HBY).mono ?_
  rintro e w4 ⟨⟨g4, c4, cur4, rfl, hr4⟩, htf4, hb4⟩
  have hst := TeSt.start (l := ops) (unhide HTF) htf4 hr4 rfl
  rw [unhide HZL] at hst
  have HST := hide hst
  clear hst hr4 htf4 hb4 HTF HBY HH HZL
  go_wp2_with fail
  go_loopw [15, 16] (fun v0 iv wr => ∃ (k : Nat) (v : Value), v = v0 ∧ k ≤ ops.length ∧ iv = .int .i64 k ∧ TeSt w wr t p x 16 (crP 64 16) ops k v) (fun _ iv _ => ops.length - (intOf iv).toNat)
  case atStart => exact ⟨0, _, rfl, Nat.zero_le _, rfl, unhide HST⟩
  case round =>
   obtain ⟨k, v, rfl, hkl2, rfl, hst⟩ := hrel
   clear HST
   by_cases hlt : k < ops.length
   ·have f1 : (k : Int) < (ops.length : Int) := by omega
    have f3 : (0 : Int) ≤ (k : Int) := by omega
    have hr : ops[k]? = some ops[k] := List.getElem?_eq_getElem hlt
    generalize ops[k] = r at hr
    obtain ⟨bo, oo, rfl, hco⟩ := (unhide HO).1.2.2.2 (by intro e; rw [e] at hlt; simp at hlt)
    obtain ⟨o0, o1, o2, o3, o4, o5⟩ := Sls.op hco hr
    have HOW := hide o0
    have hbel := hst.base
    rw [← hbel.cell (block_lt_of_cell o0)] at o0
    rw [← hbel.cell (block_lt_of_cell o1)] at o1
    rw [← hbel.cell (block_lt_of_cell o2)] at o2
    rw [← hbel.cell (block_lt_of_cell o3)] at o3
    rw [← hbel.cell (block_lt_of_cell o4)] at o4
    rw [← hbel.cell (block_lt_of_cell o5)] at o5
    have hdo := hst.do (n := 64) (unhide HO) (.inl (unhide HU)) (by rw [unhide HS2]; decide) (by rw [unhide HS2]; omega) hr
    have HSK := hide (fun (W : World) (h : TeMd w W t p x 16 (crP 64 16) ops k (psDo 16 (psRun 16 (crP 64 16) ((ops.take k).map opP)) (opP r)).1 v) => h.skip hr)
    have HMO := hide (fun (w5 w6 : World) (F5 : Nat → Prop) (rs : List ImP) (g c : Nat) (v' : Value) => te_more (w0 := w) (w1 := w5) (w2 := w6) (F := F5) (rs := rs) (g := g) (c := c) (v := v) (v' := v') (t := t) (p := p) (x := x) (m := 16) (P := crP 64 16) (l := ops) (k := k) (r := r))
    have hLl : (psDo 16 (psRun 16 (crP 64 16) ((ops.take k).map opP)) (opP r)).1.L.length = 512 := by
     obtain ⟨m1, m2, m3⟩ := run_pz (n := 64) (unhide HO) (.inl (unhide HU)) (k := k) (by rw [unhide HS2]; omega)
     have hz := (m1.step (by rw [unhide HS2] at m3; omega) (opP r) ((unhide HO).2 r (List.mem_of_getElem? hr)).2.2.2.2.2.1).1
     rcases hz with hz | ⟨_, hz⟩
     ·exact hz.ll
     ·exact hz.ll
    generalize (psDo 16 (psRun 16 (crP 64 16) ((ops.take k).map opP)) (opP r)).2 = E at *
    generalize (psDo 16 (psRun 16 (crP 64 16) ((ops.take k).map opP)) (opP r)).1 = Q at *
    unfold opV at hdo
    have HR := hide hr
    have HLL := hide hLl
    obtain ⟨x0, x1, x2, x3, sn, ab, cb, body⟩ := r
    dsimp only at *
    have HDO := hide hdo
    clear hco hr hst hbel hdo hLl
    generalize body.length = BL at *
    go_wp2_with fail
    refine (unhide HDO).mono ?_
    rintro e w5 ⟨rfl, hmd⟩
    have o0 : w5.cell? ⟨bo, oo + k * 6, none⟩ = some (.int .i64 x0) := (hmd.base.cell (block_lt_of_cell (unhide HOW))).trans (unhide HOW)
    have HMD := hide hmd
    clear hmd HDO o1 o2 o3 o4 o5
    by_cases hE : E = 0
    ·subst hE
     rw [errV_zero]
     by_cases h6 : x0 = 6
     ·subst h6
      have HH5 := hide (unhide HMD).heap
      have hby5 := (unhide HMD).bytes
      rw [unhide HLL] at hby5
      have HBY5 := hide hby5
      clear hby5 HSK
      go_wp2_with fail
      refine (unhide HH5).mono ?_
      rintro e w6 ⟨rfl, rfl⟩
      go_wp2_with fail
      refine (unhide HBY5).mono ?_
      rintro e w6 ⟨g6, c6, F6, rs, rfl, htf6, him6, hks6, hbs6, hg6, hb6⟩
      have hba : Below w6.heap.size w6 (w6.alloc (.cells #[.slice (some ⟨g6, 0, none⟩) 512 c6] 33)) := (Below.refl _ _).alloc (Nat.le_refl _) _
      have hsz6 := htf6.base.size
      have hown : v.ownBlock ≠ some g6 := fun e => by
       have h1 := (unhide HMD)
       obtain ⟨Fm, rm, q1, q2, q3⟩ := h1
       have := q2.row.old g6 e
       omega
      have HLS := hide ((him6.below hba).row)
      have HT6 := hide (htf6.below hba)
      have HI6 := hide (him6.below hba)
      have HB6 := hide (hbs6.below hba)
      have hrl : rs.length ≤ 1000 := by
       have h9 : rs.length = (keptL 16 (crP 64 16) ops k).length := by rw [← hks6, List.length_map]
       have h8 := stK_len (m := 16) ((ops.take k).map opP) (crP 64 16)
       have h7 := run_len ops k
       unfold keptL at h9
       rw [List.length_cons] at h9
       omega
      have HGN : Hid ((w6.alloc (.cells #[.slice (some ⟨g6, 0, none⟩) 512 c6] 33)).heap[w6.heap.size]? = some (.cells (imC (g6, c6, Q.L)).toArray 33 (0, 0))) := hide (by
       unfold imC
       dsimp only
       rw [unhide HLL]
       exact heap_alloc_new w6 _)
      have HKS := hide hks6
      have HOWN := hide hown
      have HONE := hide (imC_one (g6, c6, Q.L))
      clear htf6 him6 hks6 hbs6 hg6 hb6 hba hown HH5 HBY5 HMD o0
      go_wp2_with (at_builtin; refine wpList_append_lst3 rfl _ _ 37 rfl w.heap.size i0 _ 24 Tryz.underlying37 hi0 hz0 hz1 hz2 rfl (by decide) (by decide) _ rs rfl (unhide HLS) w6.heap.size (g6, c6, Q.L) rfl (unhide HGN) rfl (unhide HONE) hrl (by simp; omega) ?_)
      intro v9 w9 hl9 hb9 hk9 hv9
      have HQ := hide (unhide HMO _ w9 F6 rs g6 c6 v9 (unhide HT6) (unhide HI6) (unhide HKS) (unhide HB6) (unhide HOWN) (unhide HR) ⟨by first | trivial | rfl, by first | trivial | rfl⟩ hl9 hb9 (fun j hj hn => hk9 j (by simpa using hj) hn) (by simpa using hv9))
      obtain ⟨va9, vm9, vc9, rfl⟩ := hl9.shape
      clear hl9 hb9 hk9 hv9 HLS HT6 HI6 HB6 HGN HKS HOWN HONE HMO
      go_wp2
      go_roundw
      case rel => exact ⟨k + 1, _, rfl, by omega, by go_num, unhide HQ⟩
      case measure => simp [intOf]; omega
     ·have h6b : (x0 == 6) = false := by simpa using h6
      have HQ := hide (unhide HSK w5 (unhide HMD) (fun h => h6 h.1))
      clear HSK HMO HMD h6
      go_wp2
      go_roundw
      case rel => exact ⟨k + 1, _, rfl, by omega, by go_num, unhide HQ⟩
      case measure => simp [intOf]; omega
    ·rw [errV_pos E hE]
     have HQ := hide (unhide HSK w5 (unhide HMD) (fun h => hE h.2))
     clear HSK HMO HMD o0
     go_wp2
     go_roundw
     case rel => exact ⟨k + 1, _, rfl, by omega, by go_num, unhide HQ⟩
     case measure => simp [intOf]; omega
   ·obtain rfl : k = ops.length := by omega
    have hBr := hst.base
    have hrow := hst.row (by
     have h8 := stK_len (m := 16) ((ops.take ops.length).map opP) (crP 64 16)
     have h7 := run_len ops ops.length
     unfold keptL
     rw [List.length_cons]
     omega)
    have hkn : (keptL 16 (crP 64 16) ops ops.length).length ≤ 13 := by
     have h8 := stK_len (m := 16) ((ops.take ops.length).map opP) (crP 64 16)
     have h7 := run_len ops ops.length
     unfold keptL
     rw [List.length_cons]
     omega
    have hk1 : 1 ≤ (keptL 16 (crP 64 16) ops ops.length).length := by unfold keptL; simp
    have HSP := hide (steps_64e wr a0 cap0 ops ((unhide HO).below hBr) (by omega))
    have HPL := hide (fun (W : World) (hb : Below w.heap.size w W) (q : Int) (h0 : 0 ≤ q) (hq : q ≤ (stSum 16 (crP 64 16) (ops.map opP) : Int)) => play_64 W ((unhide HO).below hb) (by omega) q torn cut h0 hq (bls_below (unhide HK) hb))
    have HBR := hide hBr
    have HROW := hide hrow
    have hfew := st_few (m := 16) (ops.map opP) (crP 64 16)
    rw [List.length_map] at hfew
    obtain ⟨bv, ov, cv, g0, cg0, hv0, hcv0, _, _, _⟩ := hrow.at (i := 0) (by omega)
    subst hv0
    clear hst hBr hrow HU HS2
    generalize stSum 16 (crP 64 16) (ops.map opP) = many at *
    generalize keptL 16 (crP 64 16) ops ops.length = ks at *
    go_wp2_with fail
    refine (unhide HSP).mono ?_
    rintro e w5 ⟨rfl, hb5⟩
    have HB5 := hide ((unhide HBR).trans (hb5.mono (unhide HBR).size))
    have HROW := hide ((unhide HROW).below hb5)
    clear hb5 HSP HBR
    have hmany : (many : Int) ≤ 600 := by omega
    go_wp2_with fail
    go_loopw [19, 20] (fun lv kv wr => ∃ (lst : Nat) (q : Int), lst ≤ 13 ∧ lv = .int .i64 lst ∧ frm ≤ q ∧ q ≤ frm + 30 ∧ kv = .int .i64 q ∧ Below w.heap.size w wr ∧ TeRow wr (.slice (some ⟨bv, ov, none⟩) ks.length cv) ks) (fun _ kv _ => (frm + 30 - intOf kv).toNat)
    case atStart => exact ⟨0, frm, by omega, rfl, Int.le_refl _, by omega, rfl, unhide HB5, unhide HROW⟩
    case round =>
     obtain ⟨lst, q, hlst, rfl, hq1, hq2, rfl, hbel, hrow⟩ := hrel
     have hl0 : (0 : Int) ≤ (lst : Int) := by omega
     clear HB5 HROW
     by_cases hin : q ≤ (many : Int) ∧ q < frm + 30
     ·obtain ⟨g1, g2⟩ := hin
      have HP := hide (unhide HPL wr hbel q (by omega) g1)
      have HROW := hide hrow
      have HBEL := hide hbel
      clear hrow hbel
      go_wp2_with fail
      refine (unhide HP).mono ?_
      rintro e w6 ⟨v1, v2, K, rfl, htv, hti, hb6⟩
      obtain ⟨ax, cx, rfl, hsx⟩ := htv.1.sls enC_len (Nat.le_trans (entsK_len K 40) (by decide))
      obtain ⟨ay, cy, rfl, hsy⟩ := htv.2.sls roC_len (Nat.le_trans (rootsK_len K 8) (by decide))
      have HROW6 := hide ((unhide HROW).below hb6)
      have HB6 := hide ((unhide HBEL).trans (hb6.mono (unhide HBEL).size))
      have HSX := hide hsx
      have HSY := hide hsy
      have HTI := hide hti
      have HLEN := hide (And.intro (entsK_len K 40) (rootsK_len K 8))
      clear htv hti hb6 hsx hsy HP HROW HBEL
      generalize hEK : entsK K 40 = EK at *
      generalize hRK : rootsK K 8 = RK at *
      have HEK := hide hEK
      have HRK := hide hRK
      clear hEK hRK
      have k1 : (1 : Int) ≤ (ks.length : Int) := by omega
      have k13 : (ks.length : Int) ≤ 13 := by omega
      go_wp2_with fail
      go_loopw [24, 25] (fun fv iv wq => ∃ i : Nat, i < ks.length ∧ fv = .int .i64 (-1) ∧ iv = .int .i64 i ∧ TeIn ks K (q = (many : Int)) i ∧ Below w6.heap.size w6 wq) (fun _ iv _ => (intOf iv).toNat)
      case atStart => exact ⟨ks.length - 1, by omega, rfl, by rw [show ((ks.length - 1 : Nat) : Int) = (ks.length : Int) - 1 by omega], unhide HTI, Below.refl _ _⟩
      case round =>
       obtain ⟨i, hi, rfl, rfl, hti, hbq⟩ := hrel
       have i0' : (0 : Int) ≤ (i : Int) := by omega
       have i1 : (i : Int) < (ks.length : Int) := by omega
       obtain ⟨b, off, c, g, cg, hve, hcc, hd, hbs, hlb⟩ := ((unhide HROW6).below hbq).at hi
       simp only [Value.slice.injEq, Option.some.injEq, Addr.mk.injEq, and_true, true_and] at hve
       obtain ⟨⟨rfl, rfl⟩, rfl⟩ := hve
       have HTI2 := hide hti
       have hel : errV (lenE (ks.getD i []).length) = .nilIface := by unfold lenE; rw [hlb]; rfl
       have e1 : ents (ks.getD i []) = entsK (ks.getD i []) 40 := by unfold ents; rw [hlb]; rfl
       have e2 : roots (ks.getD i []) = rootsK (ks.getD i []) 8 := by unfold roots; rw [hlb]; rfl
       have hE := iEnts_any (some ⟨g, 0, none⟩) cg (ks.getD i []) wr hbs
       rw [hel, e1] at hE
       have HE := hide hE
       have HR : Hid (∀ W, Below wr.heap.size wr W → Calls Tryz.prog 13 #[.slice (some ⟨g, 0, none⟩) (ks.getD i []).length cg] W fun e w' => ∃ v, e = .returned (.tuple #[v, .nilIface]) ∧ Lst roC 2 100 w' W.heap.size v (rootsK (ks.getD i []) 8) ∧ Below W.heap.size W w') := hide (fun W hB => by
        have h2 := iRoots_any (some ⟨g, 0, none⟩) cg (ks.getD i []) W (hbs.below hB)
        rw [hel, e2] at h2
        exact h2)
       have HSX7 := hide ((unhide HSX).below hbq)
       have HSY7 := hide ((unhide HSY).below hbq)
       have HLN := hide (And.intro (entsK_len (ks.getD i []) 40) (rootsK_len (ks.getD i []) 8))
       have HEQ : Hid (ks.getD i [] = K → EK = entsK (ks.getD i []) 40 ∧ RK = rootsK (ks.getD i []) 8) := hide (fun h => by rw [h]; exact ⟨(unhide HEK).symm, (unhide HRK).symm⟩)
       have HBQ := hide hbq
       have hdl : (ks.getD i []).length ≤ 6400 := by have h9 := (lenB_iff.1 hlb).2; omega
       clear hti hbs hlb hel e1 e2 hE hbq HTI
       generalize hLi : ks.getD i [] = Li at *
       have HLI := hide hLi
       clear hLi
       generalize entsK Li 40 = EL at *
       generalize rootsK Li 8 = RL at *
       generalize Li.length = NL at *
       go_wp2_with fail
       refine (unhide HE).mono ?_
       rintro e w7 ⟨v7, rfl, hl7, hb7⟩
       obtain ⟨a7, c7, rfl, hs7⟩ := hl7.sls enC_len (Nat.le_trans (unhide HLN).1 (by decide))
       have HR7 := hide (unhide HR w7 hb7)
       have HS7 := hide hs7
       have HB7 := hide hb7
       have hd7 := (hb7.cell (block_lt_of_cell hd)).trans hd
       clear hl7 hs7 hb7 HE HR hd
       go_wp2_with fail
       refine (unhide HR7).mono ?_
       rintro e w8 ⟨v8, rfl, hl8, hb8⟩
       obtain ⟨a8, c8, rfl, hs8⟩ := hl8.sls roC_len (Nat.le_trans (unhide HLN).2 (by decide))
       have hB8 := (unhide HB7).trans (hb8.mono (unhide HB7).size)
       have HC1 := hide (sEnts_any ax a7 cx c7 EK EL w8 ((unhide HSX7).below hB8) ((unhide HS7).below hb8))
       have HSY8 := hide ((unhide HSY7).below hB8)
       have HS8 := hide hs8
       have HB8 := hide hB8
       clear hl8 hs8 hb8 hB8 HR7 HS7 HB7 HSX7 HSY7 hd7
       go_wp2_with fail
       refine (unhide HC1).mono ?_
       rintro e w9 ⟨⟨b1, rfl, hy1⟩, hb9⟩
       have HC2 := hide (sRoots_any ay a8 cy c8 RK RL w9 ((unhide HSY8).below hb9) ((unhide HS8).below hb9))
       have HB9 := hide ((unhide HB8).trans (hb9.mono (unhide HB8).size))
       have HY1 := hide hy1
       clear hb9 hy1 HC1 HSY8 HS8 HB8
       go_wp2_with fail
       refine (unhide HC2).mono ?_
       rintro e w10 ⟨⟨b2, rfl, hy2⟩, hb10⟩
       have HBX := hide ((unhide HBQ).trans (((unhide HB9).trans (hb10.mono (unhide HB9).size)).mono (unhide HBQ).size))
       have HNX : Hid (b1 = false ∨ b2 = false → 1 ≤ i ∧ TeIn ks K (q = (many : Int)) (i - 1)) := hide (fun hf => (unhide HTI2).next (fun e => by
        obtain ⟨y1, y2⟩ := unhide HEQ (by rw [← unhide HLI]; exact e)
        rcases hf with hf | hf
        ·rw [unhide HY1 y1] at hf; cases hf
        ·rw [hy2 y2] at hf; cases hf))
       clear hb10 hy2 HC2 HB9 HY1 HEQ HBQ HLI HLN
       cases b1 with
       | false =>
        obtain ⟨n1, n2⟩ := unhide HNX (.inl rfl)
        have HN2 := hide n2
        clear n2 HNX HTI2
        go_wp2
        go_roundw
        case rel => exact ⟨i - 1, by omega, rfl, by rw [show ((i - 1 : Nat) : Int) = (i : Int) - 1 by omega], unhide HN2, unhide HBX⟩
        case measure => simp [intOf]; omega
       | true =>
        cases b2 with
        | false =>
         obtain ⟨n1, n2⟩ := unhide HNX (.inr rfl)
         have HN2 := hide n2
         clear n2 HNX HTI2
         go_wp2
         go_roundw
         case rel => exact ⟨i - 1, by omega, rfl, by rw [show ((i - 1 : Nat) : Int) = (i : Int) - 1 by omega], unhide HN2, unhide HBX⟩
         case measure => simp [intOf]; omega
        | true =>
         have HFIN := hide (And.intro ((unhide HB6).trans ((unhide HBX).mono (unhide HB6).size)) ((unhide HROW6).below (unhide HBX)))
         have HLS := hide (fun h => (unhide HTI2).last hi h)
         clear HNX HTI2 HBX HROW6 HB6 HSX HSY HEK HRK HLEN HPL
         have hif : ¬ (i : Int) < 0 := by omega
         by_cases hz : q = (many : Int)
         ·have hil := unhide HLS hz
          have hil2 : ((i : Int) != (ks.length : Int) - 1) = false := by simp; omega
          have hzb : (q == (many : Int)) = true := by simpa using hz
          clear HLS hz hil
          go_wp2
          go_roundw
          case rel => exact ⟨i, q + 1, by omega, rfl, by omega, by omega, rfl, (unhide HFIN).1, (unhide HFIN).2⟩
          case measure => simp [intOf]; omega
         ·have hzb : (q == (many : Int)) = false := by simpa using hz
          clear HLS hz
          go_wp2
          go_roundw
          case rel => exact ⟨i, q + 1, by omega, rfl, by omega, by omega, rfl, (unhide HFIN).1, (unhide HFIN).2⟩
          case measure => simp [intOf]; omega
     ·have HB := hide hbel
      clear hbel hrow
      by_cases h1 : q ≤ (many : Int)
      ·have h2 : ¬ q < frm + 30 := by omega
       go_wp2
       go_ret
       exact ⟨rfl, unhide HB⟩
      ·go_wp2
       go_ret
       exact ⟨rfl, unhide HB⟩
 ·by_cases h12 : ops.length ≤ 12
  ·have e12 : (ops.length : Int) ≤ 12 := by omega
   by_cases hf0 : 0 ≤ frm
   ·have hf1 : 100 < frm := by omega
    go_wp2
    go_ret
    exact ⟨rfl, unhide HB1⟩
   ·have hf1 : frm < 0 := by omega
    go_wp2
    go_ret
    exact ⟨rfl, unhide HB1⟩
  ·have e12 : (12 : Int) < (ops.length : Int) := by omega
   go_wp2
   go_ret
   exact ⟨rfl, unhide HB1⟩
end Go.Proofs.YtmmgadnicodakabGreat
