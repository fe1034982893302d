/-
  The walk of TopPages. (Part of the proof of TopPages.)
-/
import Derived.Test.YtknjdhnldfebjaaGreatDoorJTp
import Derived.Test.YtknjdhnldfebjaaGreatDoorJOr
import Derived.Test.YtknjdhnldfebjaaGreatDoorJCi
import Derived.Test.YtknjdhnldfebjaaGreatDoorJPo
import Derived.Test.YtknjdhnldfebjaaGreatDoorJTl
import Derived.Test.YtknjdhnldfebjaaGreatDoorJAb
import Derived.Test.YtknjdhnldfebjaaGreatDoorJOb
import Derived.Test.YtknjdhnldfebjaaGreatDoorJRef
import Derived.Test.YtknjdhnldfebjaaGreatDoorJHt
import Derived.Deep.CutRange
namespace Go.Proofs.YtknjdhnldfebjaaGreatDoor
open Go.RowKit
set_option linter.unusedVariables false
theorem info_u8P : (Tryz.prog.info? 5).map (fun i => (i.zero, i.size, i.bytes)) = some (some (.int .u8 0), 1, 1) := by kernel_rfl
theorem joinP_succ (P : Nat → List Int) (k : Nat) : joinP P (k + 1) = joinP P k ++ P k := rfl
set_option maxRecDepth 100000 in
set_option maxHeartbeats 8000000 in
theorem walkTopPages (a0 : Option Addr) (cap0 : Nat) (ops : List OpR) (a1 : Option Addr) (cap1 : Nat) (l : List (Int × List Int)) (w : World) (hg : ErrT w) (ho : Ops w a0 cap0 ops) (hp : PgsO w (fun _ => False) a1 cap1 l) :
  Calls Tryz.prog 4 #[.slice a0 ops.length cap0, .slice a1 l.length cap1] w fun e w' => e = .returned (.bool true) ∧ Below w.heap.size w w' := by
 have hol := ho.1.2.2.1
 have hpl := hp.2.1
 have HO := hide ho
 have HP := hide hp
 have HG := hide hg
 have HON := hide (one_any w)
 obtain ⟨iu, hu0, hu1, hu2, hu3⟩ := info_parts info_u8P
 clear ho hp hg
 go_enter Tryz.func4, Tryz.ntmps4
 go_wp2_with fail
 refine (unhide HON).mono ?_
 rintro e w1 ⟨rfl, hb1⟩
 have HN := hide (new_live 60 w w1 hb1 (by decide) (by decide))
 obtain ⟨u1, u2, u3⟩ := cr_up (n := 60) (m := 12) (by decide) (by decide) rfl
 have HU := hide u1
 have HL := hide u2
 have HS2 := hide u3
 clear u1 u2 u3 hb1 HON
 go_wp2_with fail
 refine (unhide HN).mono ?_
 rintro e w2 ⟨p, S, rfl, hl, _, _⟩
 have HC := hide (tf_create (m := 12) hl (by decide) (by decide) rfl)
 clear hl HN
 go_wp2_with fail
 refine (unhide HC).mono ?_
 rintro e w3 ⟨t, x, rfl, F, htf⟩
 have HRUN : Hid (RunAt w w3 t p x 12 (crP 60 12) F ops 0 w3) := hide htf.same
 clear htf HC
 go_upto_region 10 with fail
 go_cut [9] from 38 to 38 (fun v wx => v = .int .i64 0 ∧ wx = w3)
 case first =>
  go_wp2
  go_meet
  case rel => exact ⟨rfl, rfl⟩
 case rest =>
  obtain ⟨rfl, hwx⟩ := hcut
  replace hwx := hwx.symm
  subst hwx
  refine (‹∀ (a : Act) (w : World), Code.wp Tryz.prog (Code.block _ _) _ a w → _›) _ _ ?_
  go_cut [9] from 38 to 53 (fun _ wx => ∃ k : Nat, k ≤ 20 ∧ RunAt w w3 t p x 12 (crP 60 12) F ops k wx)
  case first =>
   go_wp2_with fail
   go_loopw [9] (fun iv wr => ∃ k : Nat, k ≤ 20 ∧ iv = .int .i64 k ∧ RunAt w w3 t p x 12 (crP 60 12) F ops k wr) (fun iv _ => 20 - (intOf iv).toNat)
   case atStart => exact ⟨0, by omega, rfl, unhide HRUN⟩
   case round =>
    obtain ⟨k, hk20, rfl, hrun⟩ := hrel
    clear HRUN
    by_cases hin : k < ops.length ∧ k < 20
    ·obtain ⟨hlt, hk⟩ := hin
     have f1 : (k : Int) < (ops.length : Int) := by omega
     have f2 : (k : Int) < 20 := by omega
     have f3 : (0 : Int) ≤ (k : Int) := by omega
     have hr : ops[k]? = some ops[k] := List.getElem?_eq_getElem hlt
     generalize ops[k] = r at hr
     obtain ⟨bo, oo, rfl, hco⟩ := (unhide HO).1.2.2.2 (by intro e; rw [e] at hlt; simp at hlt)
     obtain ⟨o0, o1, o2, o3, o4, o5⟩ := Sls.op hco hr
     have hbel := hrun.base
     rw [← hbel.cell (block_lt_of_cell o0)] at o0
     rw [← hbel.cell (block_lt_of_cell o1)] at o1
     rw [← hbel.cell (block_lt_of_cell o2)] at o2
     rw [← hbel.cell (block_lt_of_cell o3)] at o3
     rw [← hbel.cell (block_lt_of_cell o4)] at o4
     rw [← hbel.cell (block_lt_of_cell o5)] at o5
     have hdo := hrun.next (n := 60) (unhide HO) (.inl (unhide HU)) (by rw [unhide HS2]; decide) (by rw [unhide HS2]; omega) hr
     generalize (psDo 12 (psRun 12 (crP 60 12) ((ops.take k).map opP)) (opP r)).2 = ev at hdo
     unfold opV at hdo
     obtain ⟨x0, x1, x2, x3, sn, ab, cb, body⟩ := r
     dsimp only at *
     have HDO := hide hdo
     clear hco hr hrun hbel hdo
     generalize body.length = BL at *
     go_wp2_with fail
     refine (unhide HDO).mono ?_
     rintro e w4 ⟨rfl, hq⟩
     have HQ := hide hq
     clear hq HDO o0 o1 o2 o3 o4 o5
     go_wp2
     go_roundw
     case rel => exact ⟨k + 1, by omega, by go_num, unhide HQ⟩
     case measure => simp [intOf]; omega
    ·have HQ := hide hrun
     clear hrun
     by_cases hlt : k < ops.length
     ·have f1 : (k : Int) < (ops.length : Int) := by omega
      have f2 : ¬ (k : Int) < 20 := by omega
      go_wp2
      go_meet
      case rel => exact ⟨k, hk20, unhide HQ⟩
     ·have f1 : ¬ (k : Int) < (ops.length : Int) := by omega
      go_wp2
      go_meet
      case rel => exact ⟨k, hk20, unhide HQ⟩
  case rest =>
   obtain ⟨k, hk20, F4, htf4, _⟩ := hcut
   obtain ⟨v1, v2, v3, v4⟩ := run_pu (unhide HO) (unhide HU) (unhide HL) (k := k) (by rw [unhide HS2]; omega)
   rw [unhide HS2] at v3 v4
   generalize psRun 12 (crP 60 12) ((ops.take k).map opP) = P1 at *
   have HAB := hide htf4.abort
   have hKl := v1.lk
   have hKb := v1.bk
   have hKf := v1.fk
   have hu2 : Pu 12 60 ⟨P1.D, P1.s, P1.K, P1.K⟩ := ⟨v1.nt, v1.fk, v1.fk, v1.bk, v1.bk, v1.lk, v1.lk, v1.sn⟩
   have HV := hide (And.intro hu2 v2)
   clear htf4 hu2 v1 v2 HU HL HRUN
   go_wp2_with fail
   refine (unhide HAB).mono ?_
   rintro e w5 ⟨rfl, F5, htf5, _⟩
   have HOP := hide (Tf.pagesOpen (D := P1.D) (s := P1.s) (L := P1.K) (K := P1.K) htf5 (unhide HV).1 (unhide HV).2)
   generalize P1.K = KK at *
   generalize P1.s = s5 at *
   clear htf5 HAB HV
   go_wp2_with fail
   refine (unhide HOP).mono ?_
   rintro e w6 ⟨q6, S6, D6, F6, rfl, htf6, htp6, hsub, hnF⟩
   have HTF := hide htf6
   have HTP := hide htp6
   have HSUB := hide hsub
   have HNF := hide hnF
   clear htf6 htp6 hsub hnF HOP
   go_wp2_with fail
   go_loopw [11, 12] (fun b0 iv wr => ∃ (i : Nat) (v : Value), v = b0 ∧ i ≤ 12 ∧ iv = .int .i64 i ∧ OwnV wr w6.heap.size v (joinP (prt KK) i) ∧ Below w6.heap.size w6 wr) (fun _ iv _ => 12 - (intOf iv).toNat)
   case atStart => exact ⟨0, _, rfl, by omega, rfl, OwnV.nil _ _, Below.refl _ _⟩
   case round =>
    obtain ⟨i, v, rfl, hi12, rfl, hown, hbel⟩ := hrel
    have HLN := hide (((unhide HTP).below hbel).len rfl)
    by_cases hlt : i < 12
    ·have f1 : (i : Int) < 12 := by omega
     have HRD := hide (((unhide HTP).below hbel).read rfl hKl hKb hlt)
     have HOW := hide hown
     have HBL := hide hbel
     have hsz := hbel.size
     have hjl : (joinP (prt KK) i).length = 32 * i := joinP_len i (fun j hj => prt_len hKl (by omega))
     have hpl32 : (prt KK i).length = 32 := prt_len hKl hlt
     have HJL := hide hjl
     have HPL := hide hpl32
     clear hown hbel hjl hpl32
     go_wp2_with fail
     refine (unhide HLN).mono ?_
     rintro e w7 ⟨rfl, rfl⟩
     go_wp2_with fail
     refine (unhide HRD).mono ?_
     rintro e w7 ⟨g7, rfl, hbs7, hb7⟩
     have HOW7 := hide ((unhide HOW).below hb7)
     have HBS7 := hide hbs7
     have hsz7 : w6.heap.size ≤ w7.heap.size := Nat.le_trans hsz hb7.size
     have HBL7 := hide ((unhide HBL).trans (hb7.mono hsz))
     clear hbs7 hb7 HLN HRD HOW HBL
     go_wp2_with (at_builtin; refine wpList_append_bs rfl _ _ 31 rfl iu Tryz.underlying31 hu0 hu1 hu2 hu3 w6.heap.size _ (joinP (prt KK) i) rfl (unhide HOW7) hsz7 (some ⟨g7, 0, none⟩) 32 32 (prt KK i) rfl (unhide HPL).symm (unhide HBS7) (by rw [unhide HJL, unhide HPL]; omega) ?_)
     intro v8 w8 ho8 hb8
     rw [← joinP_succ] at ho8
     have HO8 := hide ho8
     have HB8 := hide ((unhide HBL7).trans hb8)
     clear ho8 hb8 HOW7 HBS7 HBL7 HJL HPL
     go_wp2
     go_roundw
     case rel => exact ⟨i + 1, _, rfl, by omega, by go_num, unhide HO8, unhide HB8⟩
     case measure => simp [intOf]; omega
    ·obtain rfl : i = 12 := by omega
     have hj : joinP (prt KK) 12 = KK := joinP_prt hKl
     rw [hj] at hown
     have HOW := hide hown
     have HBL := hide hbel
     clear hown hbel
     go_wp2_with fail
     refine (unhide HLN).mono ?_
     rintro e w7 ⟨rfl, rfl⟩
     have hown := unhide HOW
     have hbel := unhide HBL
     clear HOW HBL HLN
     obtain ⟨ab, cb, hvb, hbsb⟩ := hown.bs hKb (by rw [hKl]; omega)
     rw [hKl] at hvb
     subst hvb
     have hK384 : KK.length = 384 := hKl
     generalize hw8 : wr = w8 at *
     clear hw8
     have HT8 : Hid (∀ wq, Below w8.heap.size w8 wq → Tf w wq t p x 12 ⟨D6, s5, KK, KK⟩ F6) := hide (fun wq hb => (unhide HTF).below (hbel.trans (hb.mono hbel.size)))
     have HY8 : Hid (∀ wq, Below w8.heap.size w8 wq → Calls Tryz.prog 8 #[.pointer (some ⟨x, 0, none⟩)] wq fun e w' => ∃ a c', e = .returned (.slice a 384 c') ∧ (convert 31 9 (.slice a 384 c')).run Tryz.prog w' = .ok (.string (strOf KK)) w' ∧ Below wq.heap.size wq w') := hide (fun wq hb => by
      refine ((unhide HT8) wq hb).bytes.mono ?_
      rintro e w' ⟨⟨g, c, cur, rfl, hr⟩, _, hbl⟩
      have hcv := conv_str (P := Tryz.prog) Tryz.underlying31 Tryz.underlying5 Tryz.underlying9 (hr.bs hKb (by show KK.length ≤ _; omega))
      have hcv' : (convert 31 9 (.slice (some ⟨g, 0, none⟩) KK.length c)).run Tryz.prog w' = .ok (.string (strOf KK)) w' := hcv
      rw [hK384] at hcv'
      exact ⟨_, c, by show Ending.returned (.slice (some ⟨g, 0, none⟩) KK.length c) = _; rw [hK384], hcv', hbl⟩)
     have HCV : Hid (∀ (wq : World) (a : Option Addr) (c' : Nat), Bs wq a c' KK → (convert 31 9 (.slice a 384 c')).run Tryz.prog wq = .ok (.string (strOf KK)) wq) := hide (fun wq a c' hb => by
      have hcv := conv_str (P := Tryz.prog) Tryz.underlying31 Tryz.underlying5 Tryz.underlying9 hb
      rw [hK384] at hcv
      exact hcv)
     have HBB := hide hbsb
     have hsz8 := hbel.size
     have HTP8 : Hid (∀ wq, Below w8.heap.size w8 wq → Tp w wq p q6 12 60 s5 KK S6 D6) := hide (fun wq hb => (unhide HTP).below (hbel.trans (hb.mono hbel.size)))
     have HAP : Hid (∀ k, plus S6 q6 k → k < w6.heap.size) := hide (fun k hk => by
      rcases hk with hk | hk
      ·exact (unhide HTP).live.dev.lt k hk
      ·rw [hk]; exact (unhide HTP).pg.lt)
     have HOB := hide hown
     clear hown hbel hbsb hj HTF HTP
     generalize strOf KK = SK at *
     go_wp2_with fail
     refine wp_region_held_drew (S := fun wq => Below w8.heap.size w8 wq ∧ (Bs wq ab cb KK ∧ (convert 31 9 (.slice ab 384 cb)).run Tryz.prog wq = .ok (.string SK) wq)) (by kernel_rfl) ⟨below_drew (Below.refl _ _), (unhide HBB).below (below_drew (Below.refl _ _)), unhide HCV _ _ _ ((unhide HBB).below (below_drew (Below.refl _ _)))⟩ (fun hHeld => ?_)
     refine wpAnyH_take (i := 0) (oi := { dst := some 80, op := Op.move (Operand.tmp 11), type := 31, pos := "top.go:205", after := #[], guard := none }) (v := .slice ab 384 cb) rfl (by kernel_rfl) (by kernel_rfl) (by kernel_rfl) (fun _ _ _ h => h) (Or.inl ⟨by rfl, fun wq hSw => by (try dsimp only at hSw); go_simp⟩) (by assumption) ?_
     try simp only [Act.put, List.setIfInBounds_toArray, List.set_cons_zero, List.set_cons_succ]
     refine wpAnyH_take (i := 1) (oi := { dst := some 81, op := Op.convert 31 9 (Operand.tmp 80), type := 9, pos := "top.go:205", after := #[{ on := 0, ground := Ground.data }], guard := none }) (v := .string SK) rfl (by kernel_rfl) (by kernel_rfl) (by kernel_rfl) (fun _ _ _ h => h) (Or.inl ⟨by rfl, fun wq hSw => by (try dsimp only at hSw); go_simp⟩) (by assumption) ?_
     try simp only [Act.put, List.setIfInBounds_toArray, List.set_cons_zero, List.set_cons_succ]
     refine wpAnyH_take (i := 2) (oi := { dst := some 82, op := Op.move (Operand.tmp 8), type := 28, pos := "top.go:205", after := #[], guard := none }) (v := .pointer (some ⟨t, 0, none⟩)) rfl (by kernel_rfl) (by kernel_rfl) (by kernel_rfl) (fun _ _ _ h => h) (Or.inl ⟨by rfl, fun wq hSw => by (try dsimp only at hSw); go_simp⟩) (by assumption) ?_
     try simp only [Act.put, List.setIfInBounds_toArray, List.set_cons_zero, List.set_cons_succ]
     refine wpAnyH_ready (rs := [3]) (by kernel_rfl) (by simp) ?_
     refine AllReadyH.cons (o := { dst := some 83, op := Op.call { callee := Callee.value (Operand.func 7), args := #[Operand.tmp 82], argTypes := #[28] }, type := 32, pos := "top.go:205", after := #[{ on := 2, ground := Ground.data }], guard := none }) rfl (fun K hK => ?_) AllReadyH.nil
     go_simp
     refine (unhide HT8 _ hHeld.1).heap.mono ?_
     rintro e w9 ⟨rfl, hw9⟩
     subst hw9
     refine hK.out _ _ hHeld (fun hHeld1 => ?_)
     clear hK K hHeld
     try simp only [Act.put, List.setIfInBounds_toArray, List.set_cons_zero, List.set_cons_succ]
     refine wpAnyH_ready (rs := [4]) (by kernel_rfl) (by simp) ?_
     refine AllReadyH.cons (o := { dst := some 84, op := Op.call { callee := Callee.value (Operand.func 8), args := #[Operand.tmp 83], argTypes := #[32] }, type := 31, pos := "top.go:205", after := #[{ on := 3, ground := Ground.data }, { on := 3, ground := Ground.chain }], guard := none }) rfl (fun K hK => ?_) AllReadyH.nil
     go_simp
     refine (unhide HY8 _ hHeld1.1).mono ?_
     rintro e w9 ⟨a9, c9, rfl, hcv9, hb9⟩
     have hk9 : Below w8.heap.size w8 w9 := hHeld1.1.trans (hb9.mono hHeld1.1.size)
     have hn9 := And.intro hk9 (And.intro (hHeld1.2.1.below hb9) (unhide HCV _ _ _ (hHeld1.2.1.below hb9)))
     refine hK.out _ _ hn9 (fun _ => wpAnyH_turn (S2 := fun wq => (Below w8.heap.size w8 wq ∧ (Bs wq ab cb KK ∧ (convert 31 9 (.slice ab 384 cb)).run Tryz.prog wq = .ok (.string SK) wq)) ∧ (convert 31 9 (.slice a9 384 c9)).run Tryz.prog wq = .ok (.string SK) wq) (fun _ h => h.1) _ _ _ _ ?_)
     have hHeld2 := And.intro hn9 hcv9
     clear hK K hHeld1 hcv9 hb9 hn9
     try simp only [Act.put, List.setIfInBounds_toArray, List.set_cons_zero, List.set_cons_succ]
     refine wpAnyH_take (i := 5) (oi := { dst := some 85, op := Op.convert 31 9 (Operand.tmp 84), type := 9, pos := "top.go:205", after := #[{ on := 4, ground := Ground.data }], guard := none }) (v := .string SK) rfl (by kernel_rfl) (by kernel_rfl) (by kernel_rfl) (fun _ _ _ h => h) (Or.inl ⟨by rfl, fun wq hSw => by (try dsimp only at hSw); go_simp⟩) (by assumption) ?_
     try simp only [Act.put, List.setIfInBounds_toArray, List.set_cons_zero, List.set_cons_succ]
     refine wpAnyH_take (i := 6) (oi := { dst := some 86, op := Op.binOp BinOp.neq 9 (Operand.tmp 81) (Operand.tmp 85) 9, type := 4, pos := "top.go:205", after := #[{ on := 1, ground := Ground.data }, { on := 5, ground := Ground.data }], guard := none }) (v := .bool false) rfl (by kernel_rfl) (by kernel_rfl) (by kernel_rfl) (fun _ _ _ h => h) (Or.inl ⟨by rfl, fun wq hSw => by (try dsimp only at hSw); go_simp⟩) (by assumption) ?_
     try simp only [Act.put, List.setIfInBounds_toArray, List.set_cons_zero, List.set_cons_succ]
     refine wpAnyH_done (by kernel_rfl) ?_ _
     have htp9 := unhide HTP8 _ hk9
     have hpg9 := PgsO.live (unhide HP) htp9.live
     obtain ⟨na, nl, hnt⟩ := htp9.nt
     have hs1 := hnt.s1
     have hcm := htp9.commit rfl (by omega) (by omega) hpg9
     have hbyl : ∀ k, k < l.length → Byt (l.getD k (0, [])).2 := fun k hk => by
      obtain ⟨_, _, _, _, hc⟩ := (unhide HP).2.2 (by intro e; rw [e] at hk; simp at hk)
      obtain ⟨_, _, _, _, hb, _⟩ := hc k hk
      exact hb.1
     have HBYL := hide hbyl
     have HTC := hide (fun hE => tp_commit (l := l) hnt (by omega) htp9.left hKl hbyl hE)
     have HBS9 := hide hHeld2.1.2.1
     have HFR : Hid (∀ x, ab = some x → w6.heap.size ≤ x.block) := hide (Fr.ownV (unhide HOB))
     have HFL : Hid (∀ x, ab = some x → x.block < w9.heap.size) := hide (fun x hx => by
      obtain ⟨b, off, e, hc⟩ := hHeld2.1.2.1.2.2.2.2 (by intro e; rw [e] at hK384; simp at hK384)
      subst hx
      cases e
      exact block_lt_of_cell (hc 0 (by omega)))
     have HS0 : Hid (∀ k, plus S6 q6 k → w.heap.size ≤ k) := hide (fun k hk => by
      rcases hk with hk | hk
      ·exact htp9.live.base k hk
      ·rw [hk]; exact htp9.base)
     have hsecs := htp9.secs
     have HB9 := hide htp9.live.bel
     have HCM := hide hcm
     clear htp9 hpg9 hnt hs1 hcm hbyl hHeld2 hk9 HTP8 HT8 HY8 HCV HBB HOB HSUB HNF
     by_cases hE : (commitOut D6 s5 12 l).2.2 = 0
     case neg =>
      rw [errV_pos _ hE] at HCM
      generalize (commitOut D6 s5 12 l).2.2 = CE at *
      go_wp2_with fail
      refine (unhide HCM).mono ?_
      rintro e w10 ⟨rfl, S', hl', ht'⟩
      have HB10 := hide ((unhide HB9).trans (ht'.below (unhide HS0) (unhide HB9).size))
      clear hl' ht' HCM HTC HB9 HS0
      go_wp2
      go_ret
      exact ⟨rfl, unhide HB10⟩
     obtain ⟨hv, hleft, hsec, a', nl', hnt'⟩ := unhide HTC hE
     rw [hE, errV_zero] at HCM
     have hvl := hv.len
     have HV := hide hv
     have HLEFT := hide hleft
     have HSEC := hide (hsec.trans hsecs)
     have HNT := hide hnt'
     clear hv hleft hsec hnt' hE HTC hsecs
     generalize (commitOut D6 s5 12 l).1 = D9 at *
     generalize (commitOut D6 s5 12 l).2.1 = s9 at *
     go_wp2_with fail
     refine (unhide HCM).mono ?_
     rintro e w10 ⟨rfl, S', hl', ht'⟩
     have HB10 := hide ((unhide HB9).trans (ht'.below (unhide HS0) (unhide HB9).size))
     have HBS10 := hide (bs_turned (n := 384) (unhide HBS9) (unhide HFR) (unhide HAP) ht')
     have HNS10 : Hid (∀ x, ab = some x → ¬ S' x.block) := hide (fun x hx hs => by
      have h1 := ht'.foot x.block (unhide HFL x hx) (.inl hs)
      have h2 := unhide HAP _ h1
      have h3 := unhide HFR x hx
      omega)
     have HSL : Hid (∀ k, S' k → k < w10.heap.size) := hide (fun k hk => hl'.dev.lt k hk)
     have HLV := hide hl'
     clear hl' ht' HCM HB9 HS0 HBS9 HFR HFL HAP
     go_wp2_with fail
     go_loopw [11, 15] (fun bv iv wr => ∃ (i : Nat) (ab : Option Addr) (cb : Nat), i ≤ l.length ∧ iv = .int .i64 i ∧ bv = .slice ab 384 cb ∧ Bs wr ab cb (pgW KK l i) ∧ (∀ x, ab = some x → ¬ S' x.block) ∧ Below w10.heap.size w10 wr) (fun _ iv _ => l.length - (intOf iv).toNat)
     case atStart => exact ⟨0, ab, cb, Nat.zero_le _, rfl, rfl, unhide HBS10, unhide HNS10, Below.refl _ _⟩
     case round =>
      obtain ⟨i, ab, cb, hi, rfl, rfl, hbs, hns, hbel⟩ := hrel
      clear HBS10 HNS10
      have hXl : (pgW KK l i).length = 384 := pgW_len hKl (unhide HV) i hi
      have hXb := pgW_byt hKb (unhide HBYL) i hi
      have hbw := (unhide HB10).trans (hbel.mono (unhide HB10).size)
      by_cases hlt : i < l.length
      ·have f1 : (i : Int) < (l.length : Int) := by omega
       have hne : l ≠ [] := by intro e; rw [e] at hlt; simp at hlt
       obtain ⟨pb, po, rfl, _, hpc⟩ := ((unhide HP).below hbw).2.2 hne
       obtain ⟨p0, bb, bc, p1, hbb, _, _⟩ := hpc i hlt
       have hnum := (unhide HV).num i hlt
       have hbod := (unhide HV).body i hlt
       have HSUC := hide (pgW_succ KK l i)
       generalize (l.getD i (0, [])).2 = BD at *
       generalize (l.getD i (0, [])).1 = nz at *
       obtain ⟨nn, rfl⟩ := Int.eq_ofNat_of_zero_le hnum.1
       rw [Int.toNat_natCast] at HSUC
       have hnn : nn < 12 := by omega
       have hXl' := hXl
       obtain ⟨bx, bo, rfl, _⟩ := hbb.2.2.2.2 (by intro e; rw [e] at hbod; simp at hbod)
       obtain ⟨q1, r1, hq1⟩ := slice_hi (P := Tryz.prog) (t := 31) Tryz.underlying31 size_u8 hbs (32 * nn) (by omega)
       obtain ⟨q2, r2, hq2⟩ := slice_lo (P := Tryz.prog) (t := 31) Tryz.underlying31 size_u8 hbs (32 * nn + 32) (by omega)
       rw [hXl, show ((32 * nn : Nat) : Int) = 32 * (nn : Int) by omega] at r1
       rw [hXl, show ((32 * nn + 32 : Nat) : Int) = 32 * (nn : Int) + 32 by omega] at r2
       rw [hbod, ← Nat.add_assoc] at p1
       have hl1 : (((pgW KK l i).take (32 * nn))).length = 32 * nn := by rw [List.length_take, hXl]; omega
       have hl2 : (((pgW KK l i).drop (32 * nn + 32))).length = 384 - (32 * nn + 32) := by rw [List.length_drop, hXl]
       have hcat : (pgW KK l i).take (32 * nn) ++ (BD ++ (pgW KK l i).drop (32 * nn + 32)) = pgW KK l (i + 1) := by
        rw [unhide HSUC, ← spl_parts (by rw [hbod, hXl]; omega), hbod, List.append_assoc]
       have hXl1 : (pgW KK l (i + 1)).length = 384 := pgW_len hKl (unhide HV) (i + 1) hlt
       have hXb1 := pgW_byt hKb (unhide HBYL) (i + 1) hlt
       generalize hM2 : 384 - (32 * nn + 32) = M2 at *
       generalize cb - (32 * nn + 32) = cq at *
       have HM2 : Hid (M2 ≤ 384) := hide (by omega)
       clear hM2
       have HCAT := hide hcat
       have HL1 := hide hl1
       have HL2 := hide hl2
       have HQ1 := hide hq1
       have HQ2 := hide hq2
       have HBB := hide hbb
       have HBOD := hide hbod
       have HXL1 := hide hXl1
       have HXB1 := hide hXb1
       have HBEL := hide hbel
       have hwr := hbel.size
       clear hbs hns hbw hpc hne hXl' hcat hl1 hl2 hq1 hq2 hbb hbod hXl1 hXb1 hbel hXb hnum
       generalize (pgW KK l i).take (32 * nn) = T1 at *
       generalize (pgW KK l i).drop (32 * nn + 32) = T2 at *
       generalize hPW : pgW KK l (i + 1) = PW at *
       have HPW := hide hPW
       clear hPW
       go_wp2_with (at_builtin; refine wpList_append_bs rfl _ _ 31 rfl iu Tryz.underlying31 hu0 hu1 hu2 hu3 wr.heap.size _ [] rfl (OwnV.nil _ _) (Nat.le_refl _) q1 (32 * nn) cb T1 rfl (unhide HL1).symm (unhide HQ1) (by rw [unhide HL1]; simp; omega) ?_)
       intro v1 wx1 ho1 hb1
       have HO1 := hide ho1
       have HBB1 := hide ((unhide HBB).below hb1)
       have hp0 := (hb1.cell (p := ⟨pb, po + i * 2, none⟩) (block_lt_of_cell p0)).trans p0
       have hp1 := (hb1.cell (p := ⟨pb, po + i * 2 + 1, none⟩) (block_lt_of_cell p1)).trans p1
       have HX1 := hide hb1
       have hx1 := hb1.size
       clear ho1 hb1 HBB HQ1 p0 p1
       go_wp2_with (at_builtin; refine wpList_append_bs rfl _ _ 31 rfl iu Tryz.underlying31 hu0 hu1 hu2 hu3 wr.heap.size v1 ([] ++ T1) rfl (unhide HO1) hx1 (some ⟨bx, bo, none⟩) 32 bc BD rfl (unhide HBOD).symm (unhide HBB1) (by rw [List.nil_append, unhide HL1, unhide HBOD]; omega) ?_)
       intro v2 wx2 ho2 hb2
       have HO2 := hide ho2
       have hb12 := (unhide HX1).trans hb2
       have HQ22 := hide ((unhide HQ2).below hb12)
       have HX2 := hide hb12
       have hx2 := hb12.size
       clear ho2 hb2 hb12 HBB1 HO1 HX1 HQ2 hp0 hp1
       go_wp2_with (at_builtin; refine wpList_append_bs rfl _ _ 31 rfl iu Tryz.underlying31 hu0 hu1 hu2 hu3 wr.heap.size v2 ([] ++ T1 ++ BD) rfl (unhide HO2) hx2 q2 M2 cq T2 rfl (unhide HL2).symm (unhide HQ22) (by have := unhide HM2; rw [List.nil_append, List.length_append, unhide HL1, unhide HBOD, unhide HL2]; omega) ?_)
       intro v3 wx3 ho3 hb3
       try simp only [List.nil_append, List.append_assoc] at ho3
       rw [unhide HCAT] at ho3
       obtain ⟨a9, c9, hv9, hbs9⟩ := ho3.bs (unhide HXB1) (by rw [unhide HXL1]; decide)
       rw [unhide HXL1] at hv9
       subst hv9
       have hfr9 := Fr.ownV ho3
       have HNS : Hid (∀ x, a9 = some x → ¬ S' x.block) := hide (fun x hx hs => by
        have h1 := hfr9 x hx
        have h2 := unhide HSL _ hs
        omega)
       have HBS3 := hide hbs9
       have hb13 := (unhide HX2).trans hb3
       have HB3 := hide ((unhide HBEL).trans (hb13.mono hwr))
       clear ho3 hb3 hbs9 hfr9 hb13 HO2 HQ22 HX2
       go_wp2
       go_roundw
       case rel => exact ⟨i + 1, a9, c9, by omega, by go_num, rfl, by rw [unhide HPW]; exact unhide HBS3, unhide HNS, unhide HB3⟩
       case measure => simp [intOf]; omega
      ·obtain rfl : i = l.length := by omega
       have f1 : ¬ (l.length : Int) < (l.length : Int) := by omega
       have hlv := (unhide HLV).below hbel
       have hsec9 := unhide HSEC
       have hcnt : cntI D9.secs.length = 12 := by rw [hsec9]; rfl
       have hNT := unhide HNT
       generalize hPB : pgW KK l l.length = BB at *
       clear hPB
       by_cases hfl : faults BB = []
       ·have hF : Fine BB := ⟨by omega, hfl⟩
        have HOP := hide (lv_openYes hlv hcnt (by decide) (by decide) hNT (unhide HLEFT) hXl hXb hF)
        have HBS := hide hbs
        have HNS := hide hns
        have HBW := hide hbw
        have HGE : Hid (∀ k, S' k → w.heap.size ≤ k) := hide hlv.base
        clear hlv hNT hbs hns hbw hbel HLV HNT HSL
        go_wp2_with fail
        refine (unhide HOP).mono ?_
        rintro e w12 ⟨t', x', rfl, D', F', htf, S'', ht⟩
        have hbs12 := (unhide HBS).turn ht (unhide HNS)
        have hck := chk_yes ab cb BB w12 hbs12 (by rw [hXl]; decide)
        rw [hfl, hXl] at hck
        have HCK := hide hck
        have HBS12 := hide hbs12
        have HTF := hide htf
        have HBW12 := hide ((unhide HBW).trans (ht.below (unhide HGE) (unhide HBW).size))
        clear htf ht hbs12 hck HOP HBS HBW HNS
        go_wp2_with fail
        refine (unhide HCK).mono ?_
        rintro e w13 ⟨v13, rfl, hl13, hb13⟩
        obtain ⟨a13, c13, rfl, _⟩ := hl13.sls flC_len (by simp)
        have hB384 : BB.length = 384 := hXl
        have HT13 : Hid (∀ wq, Below w13.heap.size w13 wq → Tf w wq t' p x' 12 ⟨D', s9, BB, BB⟩ F') := hide (fun wq hb => ((unhide HTF).below hb13).below hb)
        have HY13 : Hid (∀ wq, Below w13.heap.size w13 wq → Calls Tryz.prog 8 #[.pointer (some ⟨x', 0, none⟩)] wq fun e w' => ∃ a c', e = .returned (.slice a 384 c') ∧ (convert 31 9 (.slice a 384 c')).run Tryz.prog w' = .ok (.string (strOf BB)) w' ∧ Below wq.heap.size wq w') := hide (fun wq hb => by
         refine ((unhide HT13) wq hb).bytes.mono ?_
         rintro e w' ⟨⟨g, c, cur, rfl, hr⟩, _, hbl⟩
         have hcv := conv_str (P := Tryz.prog) Tryz.underlying31 Tryz.underlying5 Tryz.underlying9 (hr.bs hXb (by show BB.length ≤ _; omega))
         have hcv' : (convert 31 9 (.slice (some ⟨g, 0, none⟩) BB.length c)).run Tryz.prog w' = .ok (.string (strOf BB)) w' := hcv
         rw [hB384] at hcv'
         exact ⟨_, c, by show Ending.returned (.slice (some ⟨g, 0, none⟩) BB.length c) = _; rw [hB384], hcv', hbl⟩)
        have HCV13 : Hid (∀ (wq : World) (a : Option Addr) (c' : Nat), Bs wq a c' BB → (convert 31 9 (.slice a 384 c')).run Tryz.prog wq = .ok (.string (strOf BB)) wq) := hide (fun wq a c' hb => by
         have hcv := conv_str (P := Tryz.prog) Tryz.underlying31 Tryz.underlying5 Tryz.underlying9 hb
         rw [hB384] at hcv
         exact hcv)
        have HBB13 := hide ((unhide HBS12).below hb13)
        have HBW13 := hide ((unhide HBW12).trans (hb13.mono (unhide HBW12).size))
        clear hl13 hb13 HCK HBS12 HTF HBW12 hF hfl hXl hXb hB384
        generalize strOf BB = SB at *
        go_wp2_with fail
        refine wp_region_held_drew (S := fun wq => Below w13.heap.size w13 wq ∧ (Bs wq ab cb BB ∧ (convert 31 9 (.slice ab 384 cb)).run Tryz.prog wq = .ok (.string SB) wq)) (by kernel_rfl) ⟨below_drew (Below.refl _ _), (unhide HBB13).below (below_drew (Below.refl _ _)), unhide HCV13 _ _ _ ((unhide HBB13).below (below_drew (Below.refl _ _)))⟩ (fun hHeld => ?_)
        refine wpAnyH_take (i := 0) (oi := { dst := some 146, op := Op.move (Operand.tmp 18), type := 28, pos := "top.go:227", after := #[], guard := none }) (v := .pointer (some ⟨t', 0, none⟩)) rfl (by kernel_rfl) (by kernel_rfl) (by kernel_rfl) (fun _ _ _ h => h) (Or.inl ⟨by rfl, fun wq hSw => by (try dsimp only at hSw); go_simp⟩) (by assumption) ?_
        try simp only [Act.put, List.setIfInBounds_toArray, List.set_cons_zero, List.set_cons_succ]
        refine wpAnyH_take (i := 4) (oi := { dst := some 150, op := Op.move (Operand.tmp 11), type := 31, pos := "top.go:227", after := #[], guard := none }) (v := .slice ab 384 cb) rfl (by kernel_rfl) (by kernel_rfl) (by kernel_rfl) (fun _ _ _ h => h) (Or.inl ⟨by rfl, fun wq hSw => by (try dsimp only at hSw); go_simp⟩) (by assumption) ?_
        try simp only [Act.put, List.setIfInBounds_toArray, List.set_cons_zero, List.set_cons_succ]
        refine wpAnyH_take (i := 5) (oi := { dst := some 151, op := Op.convert 31 9 (Operand.tmp 150), type := 9, pos := "top.go:227", after := #[{ on := 4, ground := Ground.data }], guard := none }) (v := .string SB) rfl (by kernel_rfl) (by kernel_rfl) (by kernel_rfl) (fun _ _ _ h => h) (Or.inl ⟨by rfl, fun wq hSw => by (try dsimp only at hSw); go_simp⟩) (by assumption) ?_
        try simp only [Act.put, List.setIfInBounds_toArray, List.set_cons_zero, List.set_cons_succ]
        refine wpAnyH_ready (rs := [1]) (by kernel_rfl) (by simp) ?_
        refine AllReadyH.cons (o := { dst := some 147, op := Op.call { callee := Callee.value (Operand.func 7), args := #[Operand.tmp 146], argTypes := #[28] }, type := 32, pos := "top.go:227", after := #[{ on := 0, ground := Ground.data }], guard := none }) rfl (fun K hK => ?_) AllReadyH.nil
        go_simp
        refine (unhide HT13 _ hHeld.1).heap.mono ?_
        rintro e w14 ⟨rfl, hw14⟩
        subst hw14
        refine hK.out _ _ hHeld (fun hHeld1 => ?_)
        clear hK K hHeld
        try simp only [Act.put, List.setIfInBounds_toArray, List.set_cons_zero, List.set_cons_succ]
        refine wpAnyH_ready (rs := [2]) (by kernel_rfl) (by simp) ?_
        refine AllReadyH.cons (o := { dst := some 148, op := Op.call { callee := Callee.value (Operand.func 8), args := #[Operand.tmp 147], argTypes := #[32] }, type := 31, pos := "top.go:227", after := #[{ on := 1, ground := Ground.data }, { on := 1, ground := Ground.chain }], guard := none }) rfl (fun K hK => ?_) AllReadyH.nil
        go_simp
        refine (unhide HY13 _ hHeld1.1).mono ?_
        rintro e w15 ⟨a15, c15, rfl, hcv15, hb15⟩
        have hk15 : Below w13.heap.size w13 w15 := hHeld1.1.trans (hb15.mono hHeld1.1.size)
        have hn15 := And.intro hk15 (And.intro (hHeld1.2.1.below hb15) (unhide HCV13 _ _ _ (hHeld1.2.1.below hb15)))
        refine hK.out _ _ hn15 (fun _ => wpAnyH_turn (S2 := fun wq => (Below w13.heap.size w13 wq ∧ (Bs wq ab cb BB ∧ (convert 31 9 (.slice ab 384 cb)).run Tryz.prog wq = .ok (.string SB) wq)) ∧ (convert 31 9 (.slice a15 384 c15)).run Tryz.prog wq = .ok (.string SB) wq) (fun _ h => h.1) _ _ _ _ ?_)
        have hHeld2 := And.intro hn15 hcv15
        clear hK K hHeld1 hcv15 hb15 hn15
        try simp only [Act.put, List.setIfInBounds_toArray, List.set_cons_zero, List.set_cons_succ]
        refine wpAnyH_take (i := 3) (oi := { dst := some 149, op := Op.convert 31 9 (Operand.tmp 148), type := 9, pos := "top.go:227", after := #[{ on := 2, ground := Ground.data }], guard := none }) (v := .string SB) rfl (by kernel_rfl) (by kernel_rfl) (by kernel_rfl) (fun _ _ _ h => h) (Or.inl ⟨by rfl, fun wq hSw => by (try dsimp only at hSw); go_simp⟩) (by assumption) ?_
        try simp only [Act.put, List.setIfInBounds_toArray, List.set_cons_zero, List.set_cons_succ]
        refine wpAnyH_take (i := 6) (oi := { dst := some 152, op := Op.binOp BinOp.eql 9 (Operand.tmp 149) (Operand.tmp 151) 9, type := 4, pos := "top.go:227", after := #[{ on := 3, ground := Ground.data }, { on := 5, ground := Ground.data }], guard := none }) (v := .bool true) rfl (by kernel_rfl) (by kernel_rfl) (by kernel_rfl) (fun _ _ _ h => h) (Or.inl ⟨by rfl, fun wq hSw => by (try dsimp only at hSw); go_simp⟩) (by assumption) ?_
        try simp only [Act.put, List.setIfInBounds_toArray, List.set_cons_zero, List.set_cons_succ]
        refine wpAnyH_take (i := 7) (oi := { dst := some 4, op := Op.assign (Operand.tmp 152), type := 4, pos := "top.go:227", after := #[{ on := 6, ground := Ground.data }, { on := 2, ground := Ground.chain }, { on := 0, ground := Ground.phase }, { on := 1, ground := Ground.phase }, { on := 2, ground := Ground.phase }, { on := 3, ground := Ground.phase }, { on := 4, ground := Ground.phase }, { on := 5, ground := Ground.phase }, { on := 6, ground := Ground.phase }], guard := none }) (v := .bool true) rfl (by kernel_rfl) (by kernel_rfl) (by kernel_rfl) (fun _ _ _ h => h) (Or.inl ⟨by rfl, fun wq hSw => by (try dsimp only at hSw); go_simp⟩) (by assumption) ?_
        try simp only [Act.put, List.setIfInBounds_toArray, List.set_cons_zero, List.set_cons_succ]
        refine wpAnyH_done (by kernel_rfl) ?_ _
        have HB15 := hide ((unhide HBW13).trans (hk15.mono (unhide HBW13).size))
        clear hk15 hHeld2
        go_wp2
        go_ret
        exact ⟨rfl, unhide HB15⟩
       ·have HOP := hide (lv_openNo hlv hcnt (by decide) (by decide) hNT (unhide HLEFT) hXl hXb hfl)
        rw [errV_pos 6 (by decide)] at HOP
        have hpos : 0 < (faults BB).length := List.length_pos_iff.2 hfl
        have h48 := faults_len BB
        have HBS := hide hbs
        have HNS := hide hns
        have HBW := hide hbw
        have HGE : Hid (∀ k, S' k → w.heap.size ≤ k) := hide hlv.base
        clear hlv hNT hbs hns hbw hbel HLV HNT HSL
        go_wp2_with fail
        refine (unhide HOP).mono ?_
        rintro e w12 ⟨rfl, S'', ht⟩
        have hbs12 := (unhide HBS).turn ht (unhide HNS)
        have hck := chk_yes ab cb BB w12 hbs12 (by rw [hXl]; decide)
        rw [hXl] at hck
        have HCK := hide hck
        have HBW12 := hide ((unhide HBW).trans (ht.below (unhide HGE) (unhide HBW).size))
        clear ht hbs12 hck HOP HBS HBW HNS hfl
        generalize faults BB = FB at *
        go_wp2_with fail
        refine (unhide HCK).mono ?_
        rintro e w13 ⟨v13, rfl, hl13, hb13⟩
        obtain ⟨a13, c13, rfl, _⟩ := hl13.sls flC_len (by omega)
        have hB13 := (unhide HBW12).trans (hb13.mono (unhide HBW12).size)
        have hes := error_same 6 w13 ((unhide HG).below hB13)
        rw [errV_pos 6 (by decide)] at hes
        have HES := hide hes
        have HB13 := hide hB13
        have hfb : ((FB.length : Int) == 0) = false := by rw [beq_eq_false_iff_ne]; omega
        clear hl13 hb13 hes hB13 HCK HBW12
        generalize FB.length = FN at *
        go_wp2_with fail
        refine (unhide HES).mono ?_
        rintro e w14 ⟨rfl, hb14⟩
        have HB14 := hide ((unhide HB13).trans (hb14.mono (unhide HB13).size))
        clear hb14 HES HB13
        go_wp2
        go_ret
        exact ⟨rfl, unhide HB14⟩
end Go.Proofs.YtknjdhnldfebjaaGreatDoor
