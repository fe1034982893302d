/-
  The walk of StoreTwice. (Part of the proof of StoreTwice.)
-/
import Derived.Test.YtmmgadnicodakaaGreatJTw
import Derived.Test.YtmmgadnicodakaaGreatJPo
import Derived.Test.YtmmgadnicodakaaGreatJHt
import Derived.Deep.CutRange
namespace Go.Proofs.YtmmgadnicodakaaGreat
open Go.RowKit
set_option linter.unusedVariables false
theorem conv_bytes {K : List Int} {N f : Nat} {ar : Array Value} {w : World} (hN : K.length = N) (h : Calls Tryz.prog f ar w fun e w' => ∃ a c', e = .returned (.slice a K.length c') ∧ Bs w' a c' K ∧ Below w.heap.size w w') :
  Calls Tryz.prog f ar w fun e w' => ∃ a c', e = .returned (.slice a N c') ∧ Bs w' a c' K ∧ (convert 31 9 (.slice a N c')).run Tryz.prog w' = .ok (.string (strOf K)) w' ∧ Below w.heap.size w w' := by
 refine h.mono ?_
 rintro e w' ⟨a, c', rfl, hb, hbl⟩
 have hcv := conv_str (P := Tryz.prog) Tryz.underlying31 Tryz.underlying5 Tryz.underlying9 hb
 rw [hN] at hcv ⊢
 exact ⟨a, c', rfl, hb, hcv, hbl⟩
theorem Tf.bytesB {w0 w : World} {t p x m : Nat} {P : Ps} {F : Nat → Prop} (h : Tf w0 w t p x m P F) : Calls Tryz.prog 9 #[.pointer (some ⟨x, 0, none⟩)] w fun e w' => ∃ a c', e = .returned (.slice a P.L.length c') ∧ Bs w' a c' P.L ∧ Below w.heap.size w w' := by
 obtain ⟨q, S, g, c, gk, ck, hs, _⟩ := h
 exact hs.bytes
set_option maxRecDepth 100000 in
set_option maxHeartbeats 8000000 in
theorem walkStoreTwice (a0 : Option Addr) (cap0 : Nat) (l0 : List OpR) (a1 : Option Addr) (cap1 : Nat) (l1 : List OpR) (w : World) (h0 : Ops w a0 cap0 l0) (h1 : Ops w a1 cap1 l1) :
  Calls Tryz.prog 3 #[.slice a0 l0.length cap0, .slice a1 l1.length cap1] w fun e w' => e = .returned (.bool true) ∧ Below w.heap.size w w' := by
 have hl0 := h0.1.2.2.1
 have hl1 := h1.1.2.2.1
 have H0 := hide h0
 have H1 := hide h1
 have HN := hide (new_live 64 w w (Below.refl _ _) (by decide) (by decide))
 obtain ⟨u1, u2, u3⟩ := cr_up (n := 64) (m := 16) (by decide) (by decide) rfl
 have HU := hide u1
 have HL := hide u2
 have HS2 := hide u3
 clear h0 h1 u1 u2 u3
 go_enter Tryz.func3, Tryz.ntmps3
 go_wp2_with fail
 refine (unhide HN).mono ?_
 rintro e w1 ⟨p, S, rfl, hl, _, _⟩
 have HC := hide (tf_create (m := 16) hl (by decide) (by decide) rfl)
 clear hl HN
 go_wp2_with fail
 refine (unhide HC).mono ?_
 rintro e w2 ⟨t, x, rfl, F, htf⟩
 have HH := hide htf.heap
 have hby := htf.bytes
 rw [show (crP 64 16).L.length = 512 from length_zerosB _] at hby
 have HBY := hide hby
 have HTF := hide htf
 clear htf hby HC
 go_wp2_with fail
 refine (unhide HH).mono ?_
 rintro e w3 ⟨rfl, rfl⟩
 go_wp2_with fail
 refine (unhide HBY).mono ?_
 rintro e w3 ⟨⟨g3, c3, cur3, rfl, _⟩, _, hb3⟩
 have HRUN : Hid (RunAt w w2 t p x 16 (crP 64 16) F l0 0 w3) := hide (RunAt.below (wr := w2) (unhide HTF).same hb3)
 clear hb3 HTF HBY HH
 go_upto_region 7 with fail
 go_cut [8] from 34 to 34 (fun v wx => v = .int .i64 0 ∧ wx = w3)
 case first =>
  go_wp2
  go_meet
  case rel => exact ⟨rfl, rfl⟩
 case rest =>
  obtain ⟨rfl, hwx⟩ := hcut
  replace hwx := hwx.symm
  subst hwx
  refine (‹∀ (a : Act) (w : World), Code.wp Tryz.prog (Code.block _ _) _ a w → _›) _ _ ?_
  go_cut [8] from 34 to 49 (fun _ wx => ∃ k : Nat, k ≤ 20 ∧ RunAt w w2 t p x 16 (crP 64 16) F l0 k wx)
  case first =>
   go_wp2_with fail
   go_loopw [8] (fun iv wr => ∃ k : Nat, k ≤ 20 ∧ iv = .int .i64 k ∧ RunAt w w2 t p x 16 (crP 64 16) F l0 k wr) (fun iv _ => 20 - (intOf iv).toNat)
   case atStart => exact ⟨0, by omega, rfl, unhide HRUN⟩
   case round =>
    obtain ⟨k, hk20, rfl, hrun⟩ := hrel
    clear HRUN
    by_cases hin : k < l0.length ∧ k < 20
    ·obtain ⟨hlt, hk⟩ := hin
     have f1 : (k : Int) < (l0.length : Int) := by omega
     have f2 : (k : Int) < 20 := by omega
     have f3 : (0 : Int) ≤ (k : Int) := by omega
     have hr : l0[k]? = some l0[k] := List.getElem?_eq_getElem hlt
     generalize l0[k] = r at hr
     obtain ⟨bo, oo, rfl, hco⟩ := (unhide H0).1.2.2.2 (by intro e; rw [e] at hlt; simp at hlt)
     obtain ⟨o0, o1, o2, o3, o4, o5⟩ := Sls.op hco hr
     have hbel := hrun.base
     rw [← hbel.cell (block_lt_of_cell o0)] at o0
     rw [← hbel.cell (block_lt_of_cell o1)] at o1
     rw [← hbel.cell (block_lt_of_cell o2)] at o2
     rw [← hbel.cell (block_lt_of_cell o3)] at o3
     rw [← hbel.cell (block_lt_of_cell o4)] at o4
     rw [← hbel.cell (block_lt_of_cell o5)] at o5
     have hdo := hrun.next (n := 64) (unhide H0) (.inl (unhide HU)) (by rw [unhide HS2]; decide) (by rw [unhide HS2]; omega) hr
     generalize (psDo 16 (psRun 16 (crP 64 16) ((l0.take k).map opP)) (opP r)).2 = ev at hdo
     unfold opV at hdo
     obtain ⟨x0, x1, x2, x3, sn, ab, cb, body⟩ := r
     dsimp only at *
     have HDO := hide hdo
     clear hco hr hrun hbel hdo
     generalize body.length = BL at *
     go_wp2_with fail
     refine (unhide HDO).mono ?_
     rintro e w4 ⟨rfl, hq⟩
     have HQ := hide hq
     clear hq HDO o0 o1 o2 o3 o4 o5
     go_wp2
     go_roundw
     case rel => exact ⟨k + 1, by omega, by go_num, unhide HQ⟩
     case measure => simp [intOf]; omega
    ·have HQ := hide hrun
     clear hrun
     by_cases hlt : k < l0.length
     ·have f1 : (k : Int) < (l0.length : Int) := by omega
      have f2 : ¬ (k : Int) < 20 := by omega
      go_wp2
      go_meet
      case rel => exact ⟨k, hk20, unhide HQ⟩
     ·have f1 : ¬ (k : Int) < (l0.length : Int) := by omega
      go_wp2
      go_meet
      case rel => exact ⟨k, hk20, unhide HQ⟩
  case rest =>
   obtain ⟨k, hk20, F4, htf4, _⟩ := hcut
   obtain ⟨v1, v2, v3, v4⟩ := run_pu (unhide H0) (unhide HU) (unhide HL) (k := k) (by rw [unhide HS2]; omega)
   rw [unhide HS2] at v3 v4
   generalize psRun 16 (crP 64 16) ((l0.take k).map opP) = P1 at *
   obtain ⟨g1, g2, g3, g4, g5, g6, g7, g8⟩ := co_ever v1 (by omega) v2
   have HCO := hide (htf4.commit (by omega) (by omega) (Pz.stays (.inl v1) (by omega)))
   have HB4 := hide htf4.base
   have hfa : psCo 16 P1 = ((psCo 16 P1).1, (psCo 16 P1).2) := rfl
   generalize (psCo 16 P1).1 = P2 at *
   generalize (psCo 16 P1).2 = E at *
   clear htf4 hfa HU HL HRUN
   by_cases hE : E = 0
   ·have g6' := g6 hE
    subst hE
    rw [errV_zero] at HCO
    have G := hide (And.intro g1 (And.intro g2 (And.intro g6' g7)))
    clear g1 g2 g3 g4 g5 g6 g7 g8 v1 v2 v3 v4 g6'
    go_wp2_with fail
    refine (unhide HCO).mono ?_
    rintro e w5 ⟨rfl, F5, htf5, _⟩
    obtain ⟨a5, nl5, hnt5⟩ := (unhide G).1.nt
    have HOP := hide (Tf.second (D := P2.D) (s := P2.s) (K := P2.K) (L := P2.L) htf5 hnt5.rdy (unhide G).2.1)
    have hLK : P2.L = P2.K := by rw [(unhide G).2.2.1, (unhide G).2.2.2]
    have hKl := (unhide G).1.lk
    rw [hLK] at HOP
    generalize P2.K = KK at *
    generalize P2.s = s5 at *
    clear htf5 hnt5 hLK HCO G
    go_wp2_with fail
    refine (unhide HOP).mono ?_
    rintro e w6 ⟨t2, x2, rfl, htw⟩
    have HTW := hide htw
    clear htw HOP
    go_upto_region 14 with fail
    go_cut [11] from 58 to 58 (fun v wx => v = .int .i64 0 ∧ wx = w6)
    case first =>
     go_wp2
     go_meet
     case rel => exact ⟨rfl, rfl⟩
    case rest =>
     obtain ⟨rfl, hwx⟩ := hcut
     replace hwx := hwx.symm
     subst hwx
     refine (‹∀ (a : Act) (w : World), Code.wp Tryz.prog (Code.block _ _) _ a w → _›) _ _ ?_
     go_cut [11] from 58 to 79 (fun _ wx => ∃ M, Twi w wx t p x 16 M KK s5 t2 x2)
     case first =>
      go_wp2_with fail
      go_loopw [11] (fun iv wr => ∃ k : Nat, k ≤ 20 ∧ iv = .int .i64 k ∧ ∃ M, Twi w wr t p x 16 M KK s5 t2 x2) (fun iv _ => 20 - (intOf iv).toNat)
      case atStart => exact ⟨0, by omega, rfl, _, unhide HTW⟩
      case round =>
       obtain ⟨j, hj20, rfl, M, htw⟩ := hrel
       clear HTW
       by_cases hin : j < l1.length ∧ j < 20
       ·obtain ⟨hlt, hk⟩ := hin
        have f1 : (j : Int) < (l1.length : Int) := by omega
        have f2 : (j : Int) < 20 := by omega
        have f3 : (0 : Int) ≤ (j : Int) := by omega
        have hr : l1[j]? = some l1[j] := List.getElem?_eq_getElem hlt
        generalize l1[j] = r at hr
        obtain ⟨bo, oo, rfl, hco⟩ := (unhide H1).1.2.2.2 (by intro e; rw [e] at hlt; simp at hlt)
        obtain ⟨o0, o1, o2, o3, o4, o5⟩ := Sls.op hco hr
        have hbel := htw.base
        rw [← hbel.cell (block_lt_of_cell o0)] at o0
        rw [← hbel.cell (block_lt_of_cell o1)] at o1
        rw [← hbel.cell (block_lt_of_cell o2)] at o2
        rw [← hbel.cell (block_lt_of_cell o3)] at o3
        rw [← hbel.cell (block_lt_of_cell o4)] at o4
        rw [← hbel.cell (block_lt_of_cell o5)] at o5
        by_cases h6 : r.1 = 6
        ·rw [h6] at o0
         have HQ := hide htw
         clear htw hco hr hbel h6 o1 o2 o3 o4 o5
         go_wp2
         go_roundw
         case rel => exact ⟨j + 1, by omega, by go_num, M, unhide HQ⟩
         case measure => simp [intOf]; omega
        ·have h6b : (r.1 != 6) = true := by simpa using h6
         have hdo := htw.do r ((unhide H1).2 r (List.mem_of_getElem? hr)) h6
         generalize doE M (opP r) = ev at hdo
         unfold opV at hdo
         obtain ⟨x0, x1, x2', x3, sn, ab, cb, body⟩ := r
         dsimp only at *
         have HDO := hide hdo
         clear hco hr htw hbel hdo h6
         generalize body.length = BL at *
         go_wp2_with fail
         refine (unhide HDO).mono ?_
         rintro e w7 ⟨rfl, M', hq⟩
         have HQ := hide hq
         clear hq HDO o0 o1 o2 o3 o4 o5
         go_wp2
         go_roundw
         case rel => exact ⟨j + 1, by omega, by go_num, M', unhide HQ⟩
         case measure => simp [intOf]; omega
       ·have HQ := hide htw
        clear htw
        by_cases hlt : j < l1.length
        ·have f1 : (j : Int) < (l1.length : Int) := by omega
         have f2 : ¬ (j : Int) < 20 := by omega
         go_wp2
         go_meet
         case rel => exact ⟨M, unhide HQ⟩
        ·have f1 : ¬ (j : Int) < (l1.length : Int) := by omega
         go_wp2
         go_meet
         case rel => exact ⟨M, unhide HQ⟩
     case rest =>
      obtain ⟨M, htw⟩ := hcut
      have HOP := hide htw.open
      clear htw HTW
      go_wp2_with fail
      refine (unhide HOP).mono ?_
      rintro e w8 ⟨t3, x3, rfl, htw, D8, F8, htf8⟩
      have HTW : Hid (∀ wq, Below w8.heap.size w8 wq → Twi w wq t p x 16 M KK s5 t2 x2) := hide (fun wq hb => htw.below hb)
      have HTB : Hid (∀ wq, Below w8.heap.size w8 wq → Tf w wq t3 p x3 16 ⟨D8, s5, KK, KK⟩ F8) := hide (fun wq hb => htf8.below hb)
      have hKl2 : KK.length = 512 := hKl
      have HB2 : Hid (∀ wq, Below w8.heap.size w8 wq → Calls Tryz.prog 9 #[.pointer (some ⟨x2, 0, none⟩)] wq fun e w' => ∃ a c', e = .returned (.slice a 512 c') ∧ Bs w' a c' KK ∧ (convert 31 9 (.slice a 512 c')).run Tryz.prog w' = .ok (.string (strOf KK)) w' ∧ Below wq.heap.size wq w') := hide (fun wq hb => conv_bytes hKl2 (htw.below hb).bytes2)
      have HB3 : Hid (∀ wq, Below w8.heap.size w8 wq → Calls Tryz.prog 9 #[.pointer (some ⟨x3, 0, none⟩)] wq fun e w' => ∃ a c', e = .returned (.slice a 512 c') ∧ Bs w' a c' KK ∧ (convert 31 9 (.slice a 512 c')).run Tryz.prog w' = .ok (.string (strOf KK)) w' ∧ Below wq.heap.size wq w') := hide (fun wq hb => conv_bytes hKl2 (htf8.below hb).bytesB)
      have HCV : Hid (∀ (wq : World) (a : Option Addr) (c' : Nat), Bs wq a c' KK → (convert 31 9 (.slice a 512 c')).run Tryz.prog wq = .ok (.string (strOf KK)) wq) := hide (fun wq a c' hb => by
       have hcv := conv_str (P := Tryz.prog) Tryz.underlying31 Tryz.underlying5 Tryz.underlying9 hb
       rw [hKl2] at hcv
       exact hcv)
      have HKL := hide hKl2
      have HAB : Hid (∀ wq, Below w8.heap.size w8 wq → Calls Tryz.prog 15 #[.pointer (some ⟨t, 0, none⟩)] wq fun e w' => e = .returned (.tuple #[]) ∧ Twi w w' t p x 16 KK KK s5 t2 x2) := hide (fun wq hb => (htw.below hb).abort)
      clear htw htf8 hKl hKl2 HOP
      generalize hSK : strOf KK = SK at *
      have HSK := hide hSK
      clear hSK
      generalize hN : 512 = N at *
      have HNN := hide hN
      clear hN
      go_wp2_with fail
      refine wp_region_held_drew (S := fun wq => Below w8.heap.size w8 wq) (by kernel_rfl) (below_drew (Below.refl _ _)) (fun hHeld => ?_)
      refine wpAnyH_take (i := 0) (oi := { dst := some 85, op := Op.move (Operand.tmp 10), type := 25, pos := "law.go:500", after := #[], guard := none }) (v := .nilIface) rfl (by kernel_rfl) (by kernel_rfl) (by kernel_rfl) (fun _ _ _ h => h) (Or.inl ⟨by rfl, fun wq hSw => by (try dsimp only at hSw); go_simp⟩) (by assumption) ?_
      try simp only [Act.put, List.setIfInBounds_toArray, List.set_cons_zero, List.set_cons_succ]
      refine wpAnyH_take (i := 1) (oi := { dst := some 86, op := Op.binOp BinOp.neq 25 (Operand.tmp 85) (Operand.const Value.nilIface) 25, type := 4, pos := "law.go:500", after := #[{ on := 0, ground := Ground.data }], guard := none }) (v := .bool false) rfl (by kernel_rfl) (by kernel_rfl) (by kernel_rfl) (fun _ _ _ h => h) (Or.inl ⟨by rfl, fun wq hSw => by (try dsimp only at hSw); go_simp⟩) (by assumption) ?_
      try simp only [Act.put, List.setIfInBounds_toArray, List.set_cons_zero, List.set_cons_succ]
      refine wpAnyH_take (i := 2) (oi := { dst := some 87, op := Op.move (Operand.tmp 86), type := 4, pos := "law.go:500", after := #[{ on := 1, ground := Ground.data }], guard := none }) (v := .bool false) rfl (by kernel_rfl) (by kernel_rfl) (by kernel_rfl) (fun _ _ _ h => h) (Or.inl ⟨by rfl, fun wq hSw => by (try dsimp only at hSw); go_simp⟩) (by assumption) ?_
      try simp only [Act.put, List.setIfInBounds_toArray, List.set_cons_zero, List.set_cons_succ]
      refine wpAnyH_take (i := 3) (oi := { dst := some 88, op := Op.move (Operand.tmp 13), type := 25, pos := "law.go:500", after := #[{ on := 2, ground := Ground.guard }], guard := some (2, false) }) (v := .nilIface) rfl (by kernel_rfl) (by kernel_rfl) (by kernel_rfl) (fun _ _ _ h => h) (Or.inl ⟨by rfl, fun wq hSw => by (try dsimp only at hSw); go_simp⟩) (by assumption) ?_
      try simp only [Act.put, List.setIfInBounds_toArray, List.set_cons_zero, List.set_cons_succ]
      refine wpAnyH_take (i := 4) (oi := { dst := some 89, op := Op.binOp BinOp.neq 25 (Operand.tmp 88) (Operand.const Value.nilIface) 25, type := 4, pos := "law.go:500", after := #[{ on := 3, ground := Ground.data }, { on := 2, ground := Ground.guard }], guard := some (2, false) }) (v := .bool false) rfl (by kernel_rfl) (by kernel_rfl) (by kernel_rfl) (fun _ _ _ h => h) (Or.inl ⟨by rfl, fun wq hSw => by (try dsimp only at hSw); go_simp⟩) (by assumption) ?_
      try simp only [Act.put, List.setIfInBounds_toArray, List.set_cons_zero, List.set_cons_succ]
      refine wpAnyH_take (i := 5) (oi := { dst := some 90, op := Op.pick (Operand.tmp 87) (Operand.const (Value.bool true)) (Operand.tmp 89), type := 4, pos := "law.go:500", after := #[{ on := 2, ground := Ground.data }, { on := 4, ground := Ground.data }], guard := none }) (v := .bool false) rfl (by kernel_rfl) (by kernel_rfl) (by kernel_rfl) (fun _ _ _ h => h) (Or.inl ⟨by rfl, fun wq hSw => by (try dsimp only at hSw); go_simp⟩) (by assumption) ?_
      try simp only [Act.put, List.setIfInBounds_toArray, List.set_cons_zero, List.set_cons_succ]
      refine wpAnyH_take (i := 6) (oi := { dst := some 91, op := Op.move (Operand.tmp 90), type := 4, pos := "law.go:500", after := #[{ on := 5, ground := Ground.data }, { on := 2, ground := Ground.chain }], guard := none }) (v := .bool false) rfl (by kernel_rfl) (by kernel_rfl) (by kernel_rfl) (fun _ _ _ h => h) (Or.inl ⟨by rfl, fun wq hSw => by (try dsimp only at hSw); go_simp⟩) (by assumption) ?_
      try simp only [Act.put, List.setIfInBounds_toArray, List.set_cons_zero, List.set_cons_succ]
      refine wpAnyH_take (i := 7) (oi := { dst := some 92, op := Op.move (Operand.tmp 9), type := 28, pos := "law.go:500", after := #[{ on := 6, ground := Ground.guard }], guard := some (6, false) }) (v := .pointer (some ⟨t2, 0, none⟩)) rfl (by kernel_rfl) (by kernel_rfl) (by kernel_rfl) (fun _ _ _ h => h) (Or.inl ⟨by rfl, fun wq hSw => by (try dsimp only at hSw); go_simp⟩) (by assumption) ?_
      try simp only [Act.put, List.setIfInBounds_toArray, List.set_cons_zero, List.set_cons_succ]
      refine wpAnyH_take (i := 11) (oi := { dst := some 96, op := Op.move (Operand.tmp 12), type := 28, pos := "law.go:500", after := #[{ on := 6, ground := Ground.guard }], guard := some (6, false) }) (v := .pointer (some ⟨t3, 0, none⟩)) rfl (by kernel_rfl) (by kernel_rfl) (by kernel_rfl) (fun _ _ _ h => h) (Or.inl ⟨by rfl, fun wq hSw => by (try dsimp only at hSw); go_simp⟩) (by assumption) ?_
      try simp only [Act.put, List.setIfInBounds_toArray, List.set_cons_zero, List.set_cons_succ]
      refine wpAnyH_ready (rs := [8]) (by kernel_rfl) (by simp) ?_
      refine AllReadyH.cons (o := { dst := some 93, op := Op.call { callee := Callee.value (Operand.func 8), args := #[Operand.tmp 92], argTypes := #[28] }, type := 32, pos := "law.go:500", after := #[{ on := 7, ground := Ground.data }, { on := 6, ground := Ground.chain }, { on := 6, ground := Ground.guard }], guard := some (6, false) }) rfl (fun K hK => ?_) AllReadyH.nil
      go_simp
      refine (unhide HTW _ hHeld).heap2.mono ?_
      rintro e w9 ⟨rfl, hw9⟩
      subst hw9
      refine hK.out _ _ hHeld (fun hHeld1 => ?_)
      clear hK K hHeld
      try simp only [Act.put, List.setIfInBounds_toArray, List.set_cons_zero, List.set_cons_succ]
      refine wpAnyH_ready (rs := [9]) (by kernel_rfl) (by simp) ?_
      refine AllReadyH.cons (o := { dst := some 94, op := Op.call { callee := Callee.value (Operand.func 9), args := #[Operand.tmp 93], argTypes := #[32] }, type := 31, pos := "law.go:500", after := #[{ on := 8, ground := Ground.data }, { on := 8, ground := Ground.chain }, { on := 6, ground := Ground.guard }], guard := some (6, false) }) rfl (fun K hK => ?_) AllReadyH.nil
      go_simp
      refine (unhide HB2 _ hHeld1).mono ?_
      rintro e w9 ⟨a9, c9, rfl, hbs9, hcv9, hb9⟩
      have hk9 : Below w8.heap.size w8 w9 := hHeld1.trans (hb9.mono hHeld1.size)
      refine hK.out _ _ hk9 (fun _ => wpAnyH_turn (S2 := fun wq => Below w8.heap.size w8 wq ∧ (Bs wq a9 c9 KK ∧ (convert 31 9 (.slice a9 N c9)).run Tryz.prog wq = .ok (.string SK) wq)) (fun _ h => h.1) _ _ _ _ ?_)
      have hHeld2 := And.intro hk9 (And.intro hbs9 hcv9)
      clear hK K hHeld1 hbs9 hcv9 hb9 hk9
      try simp only [Act.put, List.setIfInBounds_toArray, List.set_cons_zero, List.set_cons_succ]
      refine wpAnyH_take (i := 10) (oi := { dst := some 95, op := Op.convert 31 9 (Operand.tmp 94), type := 9, pos := "law.go:500", after := #[{ on := 9, ground := Ground.data }, { on := 6, ground := Ground.guard }], guard := some (6, false) }) (v := .string SK) rfl (by kernel_rfl) (by kernel_rfl) (by kernel_rfl) (fun _ _ _ h => h) (Or.inl ⟨by rfl, fun wq hSw => by (try dsimp only at hSw); go_simp⟩) (by assumption) ?_
      try simp only [Act.put, List.setIfInBounds_toArray, List.set_cons_zero, List.set_cons_succ]
      refine wpAnyH_ready (rs := [12]) (by kernel_rfl) (by simp) ?_
      refine AllReadyH.cons (o := { dst := some 97, op := Op.call { callee := Callee.value (Operand.func 8), args := #[Operand.tmp 96], argTypes := #[28] }, type := 32, pos := "law.go:500", after := #[{ on := 11, ground := Ground.data }, { on := 9, ground := Ground.chain }, { on := 6, ground := Ground.guard }], guard := some (6, false) }) rfl (fun K hK => ?_) AllReadyH.nil
      go_simp
      refine (unhide HTB _ hHeld2.1).heap.mono ?_
      rintro e w10 ⟨rfl, hw10⟩
      subst hw10
      refine hK.out _ _ hHeld2 (fun hHeld3 => ?_)
      clear hK K hHeld2
      try simp only [Act.put, List.setIfInBounds_toArray, List.set_cons_zero, List.set_cons_succ]
      refine wpAnyH_ready (rs := [13]) (by kernel_rfl) (by simp) ?_
      refine AllReadyH.cons (o := { dst := some 98, op := Op.call { callee := Callee.value (Operand.func 9), args := #[Operand.tmp 97], argTypes := #[32] }, type := 31, pos := "law.go:500", after := #[{ on := 12, ground := Ground.data }, { on := 12, ground := Ground.chain }, { on := 6, ground := Ground.guard }], guard := some (6, false) }) rfl (fun K hK => ?_) AllReadyH.nil
      go_simp
      refine (unhide HB3 _ hHeld3.1).mono ?_
      rintro e w10 ⟨a10, c10, rfl, hbs10, hcv10, hb10⟩
      have hk10 : Below w8.heap.size w8 w10 := hHeld3.1.trans (hb10.mono hHeld3.1.size)
      have hn10 := And.intro hk10 (And.intro (hHeld3.2.1.below hb10) (unhide HCV _ _ _ (hHeld3.2.1.below hb10)))
      refine hK.out _ _ hn10 (fun _ => wpAnyH_turn (S2 := fun wq => (Below w8.heap.size w8 wq ∧ (Bs wq a9 c9 KK ∧ (convert 31 9 (.slice a9 N c9)).run Tryz.prog wq = .ok (.string SK) wq)) ∧ (Bs wq a10 c10 KK ∧ (convert 31 9 (.slice a10 N c10)).run Tryz.prog wq = .ok (.string SK) wq)) (fun _ h => h.1) _ _ _ _ ?_)
      have hHeld4 := And.intro hn10 (And.intro hbs10 hcv10)
      clear hK K hHeld3 hbs10 hcv10 hb10 hk10 hn10
      try simp only [Act.put, List.setIfInBounds_toArray, List.set_cons_zero, List.set_cons_succ]
      refine wpAnyH_take (i := 14) (oi := { dst := some 99, op := Op.convert 31 9 (Operand.tmp 98), type := 9, pos := "law.go:500", after := #[{ on := 13, ground := Ground.data }, { on := 6, ground := Ground.guard }], guard := some (6, false) }) (v := .string SK) rfl (by kernel_rfl) (by kernel_rfl) (by kernel_rfl) (fun _ _ _ h => h) (Or.inl ⟨by rfl, fun wq hSw => by (try dsimp only at hSw); go_simp⟩) (by assumption) ?_
      try simp only [Act.put, List.setIfInBounds_toArray, List.set_cons_zero, List.set_cons_succ]
      refine wpAnyH_take (i := 15) (oi := { dst := some 100, op := Op.binOp BinOp.neq 9 (Operand.tmp 95) (Operand.tmp 99) 9, type := 4, pos := "law.go:500", after := #[{ on := 10, ground := Ground.data }, { on := 14, ground := Ground.data }, { on := 6, ground := Ground.guard }], guard := some (6, false) }) (v := .bool false) rfl (by kernel_rfl) (by kernel_rfl) (by kernel_rfl) (fun _ _ _ h => h) (Or.inl ⟨by rfl, fun wq hSw => by (try dsimp only at hSw); go_simp⟩) (by assumption) ?_
      try simp only [Act.put, List.setIfInBounds_toArray, List.set_cons_zero, List.set_cons_succ]
      refine wpAnyH_take (i := 16) (oi := { dst := some 101, op := Op.pick (Operand.tmp 91) (Operand.const (Value.bool true)) (Operand.tmp 100), type := 4, pos := "law.go:500", after := #[{ on := 6, ground := Ground.data }, { on := 15, ground := Ground.data }], guard := none }) (v := .bool false) rfl (by kernel_rfl) (by kernel_rfl) (by kernel_rfl) (fun _ _ _ h => h) (Or.inl ⟨by rfl, fun wq hSw => by (try dsimp only at hSw); go_simp⟩) (by assumption) ?_
      try simp only [Act.put, List.setIfInBounds_toArray, List.set_cons_zero, List.set_cons_succ]
      refine wpAnyH_take (i := 17) (oi := { dst := some 102, op := Op.move (Operand.tmp 101), type := 4, pos := "law.go:500", after := #[{ on := 16, ground := Ground.data }, { on := 13, ground := Ground.chain }], guard := none }) (v := .bool false) rfl (by kernel_rfl) (by kernel_rfl) (by kernel_rfl) (fun _ _ _ h => h) (Or.inl ⟨by rfl, fun wq hSw => by (try dsimp only at hSw); go_simp⟩) (by assumption) ?_
      try simp only [Act.put, List.setIfInBounds_toArray, List.set_cons_zero, List.set_cons_succ]
      refine wpAnyH_take (i := 18) (oi := { dst := some 103, op := Op.move (Operand.tmp 9), type := 28, pos := "law.go:500", after := #[{ on := 17, ground := Ground.guard }], guard := some (17, false) }) (v := .pointer (some ⟨t2, 0, none⟩)) rfl (by kernel_rfl) (by kernel_rfl) (by kernel_rfl) (fun _ _ _ h => h) (Or.inl ⟨by rfl, fun wq hSw => by (try dsimp only at hSw); go_simp⟩) (by assumption) ?_
      try simp only [Act.put, List.setIfInBounds_toArray, List.set_cons_zero, List.set_cons_succ]
      refine wpAnyH_take (i := 20) (oi := { dst := some 105, op := Op.move (Operand.tmp 7), type := 28, pos := "law.go:500", after := #[{ on := 17, ground := Ground.guard }], guard := some (17, false) }) (v := .pointer (some ⟨t, 0, none⟩)) rfl (by kernel_rfl) (by kernel_rfl) (by kernel_rfl) (fun _ _ _ h => h) (Or.inl ⟨by rfl, fun wq hSw => by (try dsimp only at hSw); go_simp⟩) (by assumption) ?_
      try simp only [Act.put, List.setIfInBounds_toArray, List.set_cons_zero, List.set_cons_succ]
      refine wpAnyH_ready (rs := [19]) (by kernel_rfl) (by simp) ?_
      refine AllReadyH.cons (o := { dst := some 104, op := Op.call { callee := Callee.value (Operand.func 13), args := #[Operand.tmp 103], argTypes := #[28] }, type := 3, pos := "law.go:500", after := #[{ on := 18, ground := Ground.data }, { on := 17, ground := Ground.chain }, { on := 17, ground := Ground.guard }], guard := some (17, false) }) rfl (fun K hK => ?_) AllReadyH.nil
      go_simp
      refine (unhide HTW _ hHeld4.1.1).stamp2.mono ?_
      rintro e w11 ⟨rfl, hw11⟩
      subst hw11
      refine hK.out _ _ hHeld4 (fun hHeld5 => ?_)
      clear hK K hHeld4
      try simp only [Act.put, List.setIfInBounds_toArray, List.set_cons_zero, List.set_cons_succ]
      refine wpAnyH_ready (rs := [21]) (by kernel_rfl) (by simp) ?_
      refine AllReadyH.cons (o := { dst := some 106, op := Op.call { callee := Callee.value (Operand.func 13), args := #[Operand.tmp 105], argTypes := #[28] }, type := 3, pos := "law.go:500", after := #[{ on := 20, ground := Ground.data }, { on := 19, ground := Ground.chain }, { on := 17, ground := Ground.guard }], guard := some (17, false) }) rfl (fun K hK => ?_) AllReadyH.nil
      go_simp
      refine (unhide HTW _ hHeld5.1.1).stamp1.mono ?_
      rintro e w11 ⟨rfl, hw11⟩
      subst hw11
      refine hK.out _ _ hHeld5 (fun hHeld6 => ?_)
      clear hK K hHeld5
      try simp only [Act.put, List.setIfInBounds_toArray, List.set_cons_zero, List.set_cons_succ]
      refine wpAnyH_take (i := 22) (oi := { dst := some 107, op := Op.binOp BinOp.neq 3 (Operand.tmp 104) (Operand.tmp 106) 3, type := 4, pos := "law.go:500", after := #[{ on := 19, ground := Ground.data }, { on := 21, ground := Ground.data }, { on := 17, ground := Ground.guard }], guard := some (17, false) }) (v := .bool false) rfl (by kernel_rfl) (by kernel_rfl) (by kernel_rfl) (fun _ _ _ h => h) (Or.inl ⟨by rfl, fun wq hSw => by (try dsimp only at hSw); go_simp⟩) (by assumption) ?_
      try simp only [Act.put, List.setIfInBounds_toArray, List.set_cons_zero, List.set_cons_succ]
      refine wpAnyH_take (i := 23) (oi := { dst := some 108, op := Op.pick (Operand.tmp 102) (Operand.const (Value.bool true)) (Operand.tmp 107), type := 4, pos := "law.go:500", after := #[{ on := 17, ground := Ground.data }, { on := 22, ground := Ground.data }], guard := none }) (v := .bool false) rfl (by kernel_rfl) (by kernel_rfl) (by kernel_rfl) (fun _ _ _ h => h) (Or.inl ⟨by rfl, fun wq hSw => by (try dsimp only at hSw); go_simp⟩) (by assumption) ?_
      try simp only [Act.put, List.setIfInBounds_toArray, List.set_cons_zero, List.set_cons_succ]
      refine wpAnyH_take (i := 24) (oi := { dst := some 109, op := Op.move (Operand.tmp 108), type := 4, pos := "law.go:500", after := #[{ on := 23, ground := Ground.data }, { on := 21, ground := Ground.chain }], guard := none }) (v := .bool false) rfl (by kernel_rfl) (by kernel_rfl) (by kernel_rfl) (fun _ _ _ h => h) (Or.inl ⟨by rfl, fun wq hSw => by (try dsimp only at hSw); go_simp⟩) (by assumption) ?_
      try simp only [Act.put, List.setIfInBounds_toArray, List.set_cons_zero, List.set_cons_succ]
      refine wpAnyH_take (i := 25) (oi := { dst := some 110, op := Op.move (Operand.tmp 9), type := 28, pos := "law.go:500", after := #[{ on := 24, ground := Ground.guard }], guard := some (24, false) }) (v := .pointer (some ⟨t2, 0, none⟩)) rfl (by kernel_rfl) (by kernel_rfl) (by kernel_rfl) (fun _ _ _ h => h) (Or.inl ⟨by rfl, fun wq hSw => by (try dsimp only at hSw); go_simp⟩) (by assumption) ?_
      try simp only [Act.put, List.setIfInBounds_toArray, List.set_cons_zero, List.set_cons_succ]
      refine wpAnyH_ready (rs := [26]) (by kernel_rfl) (by simp) ?_
      refine AllReadyH.cons (o := { dst := some 111, op := Op.call { callee := Callee.value (Operand.func 14), args := #[Operand.tmp 110], argTypes := #[28] }, type := 40, pos := "law.go:500", after := #[{ on := 25, ground := Ground.data }, { on := 24, ground := Ground.chain }, { on := 24, ground := Ground.guard }], guard := some (24, false) }) rfl (fun K hK => ?_) AllReadyH.nil
      go_simp
      refine (unhide HTW _ hHeld6.1.1).dirty2.mono ?_
      rintro e w12 ⟨⟨a12, c12, rfl⟩, hb12⟩
      have hk12 : Below w8.heap.size w8 w12 := hHeld6.1.1.trans (hb12.mono hHeld6.1.1.size)
      refine hK.out _ _ ⟨⟨hk12, ⟨hHeld6.1.2.1.below hb12, unhide HCV _ _ _ (hHeld6.1.2.1.below hb12)⟩⟩, ⟨hHeld6.2.1.below hb12, unhide HCV _ _ _ (hHeld6.2.1.below hb12)⟩⟩ (fun hHeld7 => ?_)
      clear hK K hHeld6
      try simp only [Act.put, List.setIfInBounds_toArray, List.set_cons_zero, List.set_cons_succ]
      refine wpAnyH_take (i := 27) (oi := { dst := some 112, op := Op.call { callee := Callee.builtin Builtin.len, args := #[Operand.tmp 111], argTypes := #[40] }, type := 3, pos := "law.go:500", after := #[{ on := 26, ground := Ground.data }, { on := 24, ground := Ground.guard }], guard := some (24, false) }) (v := .int .i64 0) rfl (by kernel_rfl) (by kernel_rfl) (by kernel_rfl) (fun _ _ _ h => h) (Or.inl ⟨by rfl, fun wq hSw => by (try dsimp only at hSw); go_simp⟩) (by assumption) ?_
      try simp only [Act.put, List.setIfInBounds_toArray, List.set_cons_zero, List.set_cons_succ]
      refine wpAnyH_take (i := 28) (oi := { dst := some 113, op := Op.binOp BinOp.neq 3 (Operand.tmp 112) (Operand.const (Value.int IntKind.i64 0)) 3, type := 4, pos := "law.go:500", after := #[{ on := 27, ground := Ground.data }, { on := 24, ground := Ground.guard }], guard := some (24, false) }) (v := .bool false) rfl (by kernel_rfl) (by kernel_rfl) (by kernel_rfl) (fun _ _ _ h => h) (Or.inl ⟨by rfl, fun wq hSw => by (try dsimp only at hSw); go_simp⟩) (by assumption) ?_
      try simp only [Act.put, List.setIfInBounds_toArray, List.set_cons_zero, List.set_cons_succ]
      refine wpAnyH_take (i := 29) (oi := { dst := some 114, op := Op.pick (Operand.tmp 109) (Operand.const (Value.bool true)) (Operand.tmp 113), type := 4, pos := "law.go:500", after := #[{ on := 24, ground := Ground.data }, { on := 28, ground := Ground.data }], guard := none }) (v := .bool false) rfl (by kernel_rfl) (by kernel_rfl) (by kernel_rfl) (fun _ _ _ h => h) (Or.inl ⟨by rfl, fun wq hSw => by (try dsimp only at hSw); go_simp⟩) (by assumption) ?_
      try simp only [Act.put, List.setIfInBounds_toArray, List.set_cons_zero, List.set_cons_succ]
      refine wpAnyH_done (by kernel_rfl) ?_ _
      have hk12' := hHeld7.1.1
      have HAB2 := hide (unhide HAB w12 hk12')
      clear hHeld7 hk12' hk12 hb12 HAB HTW HTB HB2 HB3
      go_wp2_with fail
      refine (unhide HAB2).mono ?_
      rintro e w13 ⟨rfl, htw⟩
      have HTW : Hid (∀ wq, Below w13.heap.size w13 wq → Twi w wq t p x 16 KK KK s5 t2 x2) := hide (fun wq hb => htw.below hb)
      have HB1 : Hid (∀ wq, Below w13.heap.size w13 wq → Calls Tryz.prog 9 #[.pointer (some ⟨x, 0, none⟩)] wq fun e w' => ∃ a c', e = .returned (.slice a N c') ∧ Bs w' a c' KK ∧ (convert 31 9 (.slice a N c')).run Tryz.prog w' = .ok (.string SK) w' ∧ Below wq.heap.size wq w') := hide (fun wq hb => by
       rw [← unhide HSK]; exact conv_bytes (unhide HKL) (htw.below hb).bytes1)
      have HB2 : Hid (∀ wq, Below w13.heap.size w13 wq → Calls Tryz.prog 9 #[.pointer (some ⟨x2, 0, none⟩)] wq fun e w' => ∃ a c', e = .returned (.slice a N c') ∧ Bs w' a c' KK ∧ (convert 31 9 (.slice a N c')).run Tryz.prog w' = .ok (.string SK) w' ∧ Below wq.heap.size wq w') := hide (fun wq hb => by
       rw [← unhide HSK]; exact conv_bytes (unhide HKL) (htw.below hb).bytes2)
      have HBL := hide htw.base
      clear htw HAB2
      go_wp2_with fail
      refine wp_region_held_drew (S := fun wq => Below w13.heap.size w13 wq) (by kernel_rfl) (below_drew (Below.refl _ _)) (fun hHeld => ?_)
      refine wpAnyH_take (i := 0) (oi := { dst := some 117, op := Op.move (Operand.tmp 7), type := 28, pos := "law.go:504", after := #[], guard := none }) (v := .pointer (some ⟨t, 0, none⟩)) rfl (by kernel_rfl) (by kernel_rfl) (by kernel_rfl) (fun _ _ _ h => h) (Or.inl ⟨by rfl, fun wq hSw => by (try dsimp only at hSw); go_simp⟩) (by assumption) ?_
      try simp only [Act.put, List.setIfInBounds_toArray, List.set_cons_zero, List.set_cons_succ]
      refine wpAnyH_take (i := 4) (oi := { dst := some 121, op := Op.move (Operand.tmp 9), type := 28, pos := "law.go:504", after := #[], guard := none }) (v := .pointer (some ⟨t2, 0, none⟩)) rfl (by kernel_rfl) (by kernel_rfl) (by kernel_rfl) (fun _ _ _ h => h) (Or.inl ⟨by rfl, fun wq hSw => by (try dsimp only at hSw); go_simp⟩) (by assumption) ?_
      try simp only [Act.put, List.setIfInBounds_toArray, List.set_cons_zero, List.set_cons_succ]
      refine wpAnyH_ready (rs := [1]) (by kernel_rfl) (by simp) ?_
      refine AllReadyH.cons (o := { dst := some 118, op := Op.call { callee := Callee.value (Operand.func 8), args := #[Operand.tmp 117], argTypes := #[28] }, type := 32, pos := "law.go:504", after := #[{ on := 0, ground := Ground.data }], guard := none }) rfl (fun K hK => ?_) AllReadyH.nil
      go_simp
      refine (unhide HTW _ hHeld).heap1.mono ?_
      rintro e w14 ⟨rfl, hw14⟩
      subst hw14
      refine hK.out _ _ hHeld (fun hHeld1 => ?_)
      clear hK K hHeld
      try simp only [Act.put, List.setIfInBounds_toArray, List.set_cons_zero, List.set_cons_succ]
      refine wpAnyH_ready (rs := [2]) (by kernel_rfl) (by simp) ?_
      refine AllReadyH.cons (o := { dst := some 119, op := Op.call { callee := Callee.value (Operand.func 9), args := #[Operand.tmp 118], argTypes := #[32] }, type := 31, pos := "law.go:504", after := #[{ on := 1, ground := Ground.data }, { on := 1, ground := Ground.chain }], guard := none }) rfl (fun K hK => ?_) AllReadyH.nil
      go_simp
      refine (unhide HB1 _ hHeld1).mono ?_
      rintro e w14 ⟨a14, c14, rfl, hbs14, hcv14, hb14⟩
      have hk14 : Below w13.heap.size w13 w14 := hHeld1.trans (hb14.mono hHeld1.size)
      refine hK.out _ _ hk14 (fun _ => wpAnyH_turn (S2 := fun wq => Below w13.heap.size w13 wq ∧ (Bs wq a14 c14 KK ∧ (convert 31 9 (.slice a14 N c14)).run Tryz.prog wq = .ok (.string SK) wq)) (fun _ h => h.1) _ _ _ _ ?_)
      have hHeld2 := And.intro hk14 (And.intro hbs14 hcv14)
      clear hK K hHeld1 hbs14 hcv14 hb14 hk14
      try simp only [Act.put, List.setIfInBounds_toArray, List.set_cons_zero, List.set_cons_succ]
      refine wpAnyH_take (i := 3) (oi := { dst := some 120, op := Op.convert 31 9 (Operand.tmp 119), type := 9, pos := "law.go:504", after := #[{ on := 2, ground := Ground.data }], guard := none }) (v := .string SK) rfl (by kernel_rfl) (by kernel_rfl) (by kernel_rfl) (fun _ _ _ h => h) (Or.inl ⟨by rfl, fun wq hSw => by (try dsimp only at hSw); go_simp⟩) (by assumption) ?_
      try simp only [Act.put, List.setIfInBounds_toArray, List.set_cons_zero, List.set_cons_succ]
      refine wpAnyH_ready (rs := [5]) (by kernel_rfl) (by simp) ?_
      refine AllReadyH.cons (o := { dst := some 122, op := Op.call { callee := Callee.value (Operand.func 8), args := #[Operand.tmp 121], argTypes := #[28] }, type := 32, pos := "law.go:504", after := #[{ on := 4, ground := Ground.data }, { on := 2, ground := Ground.chain }], guard := none }) rfl (fun K hK => ?_) AllReadyH.nil
      go_simp
      refine (unhide HTW _ hHeld2.1).heap2.mono ?_
      rintro e w15 ⟨rfl, hw15⟩
      subst hw15
      refine hK.out _ _ hHeld2 (fun hHeld3 => ?_)
      clear hK K hHeld2
      try simp only [Act.put, List.setIfInBounds_toArray, List.set_cons_zero, List.set_cons_succ]
      refine wpAnyH_ready (rs := [6]) (by kernel_rfl) (by simp) ?_
      refine AllReadyH.cons (o := { dst := some 123, op := Op.call { callee := Callee.value (Operand.func 9), args := #[Operand.tmp 122], argTypes := #[32] }, type := 31, pos := "law.go:504", after := #[{ on := 5, ground := Ground.data }, { on := 5, ground := Ground.chain }], guard := none }) rfl (fun K hK => ?_) AllReadyH.nil
      go_simp
      refine (unhide HB2 _ hHeld3.1).mono ?_
      rintro e w15 ⟨a15, c15, rfl, hbs15, hcv15, hb15⟩
      have hk15 : Below w13.heap.size w13 w15 := hHeld3.1.trans (hb15.mono hHeld3.1.size)
      have hn15 := And.intro hk15 (And.intro (hHeld3.2.1.below hb15) (unhide HCV _ _ _ (hHeld3.2.1.below hb15)))
      refine hK.out _ _ hn15 (fun _ => wpAnyH_turn (S2 := fun wq => (Below w13.heap.size w13 wq ∧ (Bs wq a14 c14 KK ∧ (convert 31 9 (.slice a14 N c14)).run Tryz.prog wq = .ok (.string SK) wq)) ∧ (Bs wq a15 c15 KK ∧ (convert 31 9 (.slice a15 N c15)).run Tryz.prog wq = .ok (.string SK) wq)) (fun _ h => h.1) _ _ _ _ ?_)
      have hHeld4 := And.intro hn15 (And.intro hbs15 hcv15)
      clear hK K hHeld3 hbs15 hcv15 hb15 hk15 hn15
      try simp only [Act.put, List.setIfInBounds_toArray, List.set_cons_zero, List.set_cons_succ]
      refine wpAnyH_take (i := 7) (oi := { dst := some 124, op := Op.convert 31 9 (Operand.tmp 123), type := 9, pos := "law.go:504", after := #[{ on := 6, ground := Ground.data }], guard := none }) (v := .string SK) rfl (by kernel_rfl) (by kernel_rfl) (by kernel_rfl) (fun _ _ _ h => h) (Or.inl ⟨by rfl, fun wq hSw => by (try dsimp only at hSw); go_simp⟩) (by assumption) ?_
      try simp only [Act.put, List.setIfInBounds_toArray, List.set_cons_zero, List.set_cons_succ]
      refine wpAnyH_take (i := 8) (oi := { dst := some 125, op := Op.binOp BinOp.eql 9 (Operand.tmp 120) (Operand.tmp 124) 9, type := 4, pos := "law.go:504", after := #[{ on := 3, ground := Ground.data }, { on := 7, ground := Ground.data }], guard := none }) (v := .bool true) rfl (by kernel_rfl) (by kernel_rfl) (by kernel_rfl) (fun _ _ _ h => h) (Or.inl ⟨by rfl, fun wq hSw => by (try dsimp only at hSw); go_simp⟩) (by assumption) ?_
      try simp only [Act.put, List.setIfInBounds_toArray, List.set_cons_zero, List.set_cons_succ]
      refine wpAnyH_take (i := 9) (oi := { dst := some 4, op := Op.assign (Operand.tmp 125), type := 4, pos := "law.go:504", after := #[{ on := 8, ground := Ground.data }, { on := 6, ground := Ground.chain }, { on := 0, ground := Ground.phase }, { on := 1, ground := Ground.phase }, { on := 2, ground := Ground.phase }, { on := 3, ground := Ground.phase }, { on := 4, ground := Ground.phase }, { on := 5, ground := Ground.phase }, { on := 6, ground := Ground.phase }, { on := 7, ground := Ground.phase }, { on := 8, ground := Ground.phase }], guard := none }) (v := .bool true) rfl (by kernel_rfl) (by kernel_rfl) (by kernel_rfl) (fun _ _ _ h => h) (Or.inl ⟨by rfl, fun wq hSw => by (try dsimp only at hSw); go_simp⟩) (by assumption) ?_
      try simp only [Act.put, List.setIfInBounds_toArray, List.set_cons_zero, List.set_cons_succ]
      refine wpAnyH_done (by kernel_rfl) ?_ _
      have HBE := hide ((unhide HBL).trans (hHeld4.1.1.mono (unhide HBL).size))
      clear hHeld4
      go_wp2
      go_ret
      exact ⟨rfl, unhide HBE⟩
   ·rw [errV_pos E hE] at HCO
    have HEE := hide hE
    clear g1 g2 g3 g4 g5 g6 g7 g8 v1 v2 v3 v4 hE
    go_wp2_with fail
    refine (unhide HCO).mono ?_
    rintro e w5 ⟨rfl, F5, htf5, _⟩
    have HB := hide htf5.base
    clear htf5 HCO
    go_wp2
    go_ret
    exact ⟨rfl, unhide HB⟩
end Go.Proofs.YtmmgadnicodakaaGreat
