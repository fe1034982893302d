/-
  The walk of PlayDoes. (Part of the proof of PlayDoes.)
-/
import Derived.Test.YtecodmiendedfaaGreatDoorJPo
import Derived.Test.YtecodmiendedfaaGreatDoorJOr
import Derived.Test.YtecodmiendedfaaGreatDoorJPq
import Derived.Test.YtecodmiendedfaaGreatDoorJDfr
import Derived.Test.YtecodmiendedfaaGreatDoorJSr
import Derived.Test.YtecodmiendedfaaGreatDoorJSs
import Derived.Test.YtecodmiendedfaaGreatDoorJRef
import Derived.Test.YtecodmiendedfaaGreatDoorJHt
import Derived.BigQuiet
import Derived.Deep.CutRange
namespace Go.Proofs.YtecodmiendedfaaGreatDoor
open Go.RowKit Go.Sort
set_option linter.unusedVariables false
theorem prt_cutP (L : List Int) (i : Nat) : (L.drop (32 * i)).take (32 * i + 32 - 32 * i) = prt L i := by
 rw [show 32 * i + 32 - 32 * i = 32 by omega]
 rfl
theorem drt_leP (K L : List Int) (i : Nat) : (drtN K L i).length <= i := by
 have := List.length_filter_le (fun j => decide (prt K j ≠ prt L j)) (List.range i)
 rw [List.length_range] at this
 exact this
theorem Tl.lens {w0 w : World} {t p x : Nat} {s : Int} {m n : Nat} {L K : List Int} {T : Nat -> Prop} (h : Tl w0 w t p x s m n L K T) : L.length = 32 * m /\ K.length = 32 * m := by
 obtain ⟨q, S, D, g, c, gk, ck, a, nl, hs, _⟩ := h
 exact ⟨hs.len, hs.klen⟩
theorem Tl.bytesP {w0 w : World} {t p x : Nat} {s : Int} {m n : Nat} {L K : List Int} {T : Nat -> Prop} (h : Tl w0 w t p x s m n L K T) :
  Calls Tryz.prog 7 #[.pointer (some ⟨x, 0, none⟩)] w fun e w' => ∃ a c, e = .returned (.slice a L.length c) /\ Bs w' a c L /\ Fr w.heap.size a /\ Below w.heap.size w w' := by
 obtain ⟨q, S, D, g, c, gk, ck, a, nl, hs, _⟩ := h
 refine (hBytes_any x g c w0.heap.size L w hs.hp).mono ?_
 rintro e w' ⟨a', c', rfl, ho, hb⟩
 obtain ⟨a2, c2, e2, hbs⟩ := ho.bs hs.hp.byt (by have := hs.hp.len; omega)
 simp only [Value.slice.injEq, true_and] at e2
 obtain ⟨rfl, rfl⟩ := e2
 exact ⟨a', c', rfl, hbs, Fr.ownV ho, hb⟩
set_option maxRecDepth 100000 in
set_option maxHeartbeats 16000000 in
theorem walkPlayDoes (n : Int) (a1 : Option Addr) (cap1 : Nat) (ops : List OpR) (w : World) (hg : ErrT w) (hn : -9223372036854775808 <= n /\ n <= 9223372036854775807) (ho : Ops w a1 cap1 ops) :
  Calls Tryz.prog 3 #[.int .i64 n, .slice a1 ops.length cap1] w fun e w' => e = .returned (.bool true) /\ Below w.heap.size w w' := by
 have hol := ho.1.2.2.1
 have HO := hide ho
 have HG := hide hg
 clear ho hg
 by_cases hr : n < 1 \/ 300 < n
 ·have HN := hide (new_no n w hr)
  rw [errV_pos 1 (by decide)] at HN
  clear hr
  go_enter Tryz.func3, Tryz.ntmps3
  go_wp2_with fail
  refine (unhide HN).mono ?_
  rintro e w1 ⟨rfl, rfl⟩
  clear HN
  go_wp2
  go_ret
  exact ⟨rfl, Below.refl _ _⟩
 obtain ⟨N, rfl⟩ := Int.eq_ofNat_of_zero_le (show 0 <= n by omega)
 have HN := hide (new_live N w w (Below.refl _ _) (by omega) (by omega))
 by_cases h57 : N < 57
 ·have e57 : (N : Int) < 57 := by omega
  clear hr
  go_enter Tryz.func3, Tryz.ntmps3
  go_wp2_with fail
  refine (unhide HN).mono ?_
  rintro e w1 ⟨p, S, rfl, hl, _, hb⟩
  have HB := hide hb
  clear hl hb HN
  go_wp2
  go_ret
  exact ⟨rfl, unhide HB⟩
 obtain ⟨m, hm, hm9, hm2, hm3⟩ : ∃ m : Nat, cntI N = m /\ 9 <= m /\ m <= 200 /\ 48 + m <= N := by
  refine ⟨(cntI N).toNat, ?_⟩
  unfold cntI
  split <;> omega
 have h300 : N <= 300 := by omega
 have h57' : 57 <= N := by omega
 have e57 : ¬ (N : Int) < 57 := by omega
 have HC := hide (fun (W : World) (q : Nat) (S : Nat -> Prop) (hl : Live w W q S (DS.new N)) => tl_create hl h57' h300 hm)
 obtain ⟨Z, hZ⟩ : ∃ Z, Z = 32 * m := ⟨_, rfl⟩
 have hZ1 : 288 <= Z := by omega
 have hZ2 : Z <= 6400 := by omega
 have HZ := hide hZ
 clear hr h57 h57' h300 hm hZ
 go_enter Tryz.func3, Tryz.ntmps3
 go_wp2_with fail
 refine (unhide HN).mono ?_
 rintro e w1 ⟨p, S, rfl, hl, _, _⟩
 have HC1 := hide (unhide HC w1 p S hl)
 clear hl HN HC
 go_wp2_with fail
 refine (unhide HC1).mono ?_
 rintro e w2 ⟨t, x, rfl, htl⟩
 generalize zerosB (32 * m) = ZB at htl
 have HH := hide htl.heap
 have hby := htl.bytesP
 rw [htl.lens.1, <- unhide HZ] at hby
 have HBY := hide hby
 have HTL := hide htl
 clear htl hby HC1
 go_wp2_with fail
 refine (unhide HH).mono ?_
 rintro e w3 ⟨rfl, rfl⟩
 go_wp2_with fail
 refine (unhide HBY).mono ?_
 rintro e w3 ⟨q3, c3, rfl, hbs3, hfr3, hb3⟩
 have hne3 : ZB ≠ [] := by
  intro e
  have h9 := (unhide HTL).lens.1
  rw [e] at h9
  simp at h9
  omega
 have HPD : Hid (Pds w w3 t p x 2 m N ZB ZB q3 c3 q3 c3) := hide (by
  obtain ⟨b, off, rfl, hc⟩ := hbs3.2.2.2.2 hne3
  have hlt := block_lt_of_cell (hc 0 (List.length_pos_iff.2 hne3))
  have hge := hfr3 _ rfl
  refine ⟨(unhide HTL).add hb3 (fun k hk => ?_), hbs3, hbs3⟩
  rcases hk with ⟨y, hy, rfl⟩ | ⟨y, hy, rfl⟩
  ·cases hy; exact .inr ⟨hge, hlt⟩
  ·cases hy; exact .inr ⟨hge, hlt⟩)
 clear hbs3 hfr3 hb3 hne3 HBY HTL HH
 have hZi : ¬ (Z : Int) < 288 := by omega
 go_wp2_with fail
 go_loopw [8, 9, 10] (fun bv kv iv wr => ∃ (k : Nat) (s : Int) (L K : List Int) (q : Option Addr) (cq : Nat) (qk : Option Addr) (ck : Nat), k <= 60 /\ iv = .int .i64 k /\ bv = .slice q Z cq /\ kv = .slice qk Z ck /\ Pds w wr t p x s m N L K q cq qk ck /\ 2 <= s /\ s <= 2 + k) (fun _ _ iv _ => 60 - (intOf iv).toNat)
 case atStart => exact ⟨0, 2, _, _, q3, c3, q3, c3, by omega, rfl, rfl, rfl, unhide HPD, by omega, by omega⟩
 case round =>
  obtain ⟨k, sq, L, K, q, cq, qk, ck, hk60, rfl, rfl, rfl, hpd, hs2, hsk⟩ := hrel
  clear HPD
  by_cases hin : k < ops.length /\ k < 60
  ·obtain ⟨hlt, hk⟩ := hin
   have f1 : (k : Int) < (ops.length : Int) := by omega
   have f2 : (k : Int) < 60 := by omega
   have hr : ops[k]? = some ops[k] := List.getElem?_eq_getElem hlt
   generalize ops[k] = r at hr
   obtain ⟨bo, oo, rfl, hco⟩ := (unhide HO).1.2.2.2 (by intro e; rw [e] at hlt; simp at hlt)
   obtain ⟨o0, o1, o2, o3, o4, o5⟩ := Sls.op hco hr
   have hrin := (unhide HO).2 r (List.mem_of_getElem? hr)
   have hbel := hpd.tl.base
   rw [<- hbel.cell (block_lt_of_cell o0)] at o0
   rw [<- hbel.cell (block_lt_of_cell o1)] at o1
   rw [<- hbel.cell (block_lt_of_cell o2)] at o2
   rw [<- hbel.cell (block_lt_of_cell o3)] at o3
   rw [<- hbel.cell (block_lt_of_cell o4)] at o4
   rw [<- hbel.cell (block_lt_of_cell o5)] at o5
   have hba : Below wr.heap.size wr (wr.alloc (.cells #[.int .i64 r.1, .int .i64 r.2.1, .int .i64 r.2.2.1, .int .i64 r.2.2.2.1, .string r.2.2.2.2.1, .slice r.2.2.2.2.2.1 r.2.2.2.2.2.2.2.length r.2.2.2.2.2.2.1] 36)) := (Below.refl _ _).alloc (Nat.le_refl _) _
   have HOP := hide (OpB.new wr r)
   have hpo := hpd.below hba
   have HPO := hide hpo
   have hin0 := hrin
   obtain ⟨z0, z1, z2, z3, z4, z5⟩ := hrin
   have HIN : Hid (∀ W, Below (wr.alloc (.cells #[.int .i64 r.1, .int .i64 r.2.1, .int .i64 r.2.2.1, .int .i64 r.2.2.2.1, .string r.2.2.2.2.1, .slice r.2.2.2.2.2.1 r.2.2.2.2.2.2.2.length r.2.2.2.2.2.2.1] 36)).heap.size (wr.alloc (.cells #[.int .i64 r.1, .int .i64 r.2.1, .int .i64 r.2.2.1, .int .i64 r.2.2.2.1, .string r.2.2.2.2.1, .slice r.2.2.2.2.2.1 r.2.2.2.2.2.2.2.length r.2.2.2.2.2.2.1] 36)) W -> OpIn W r) := hide (fun W hW => ⟨z0, z1, z2, z3, z4, z5.below (hpo.tl.base.trans (hW.mono hpo.tl.base.size))⟩)
   have hyl := z5.2.2.1
   have HBODY := hide (z5.below hpo.tl.base)
   unfold InZ at z0 z1 z2 z3
   have hlens := hpo.tl.lens
   rw [<- unhide HZ] at hlens
   have hLf := hpo.tl.fine
   have HNO : Hid (pdE m L K (opP r) ≠ 0 -> pdL L K (opP r) = L) := hide (fun h => pd_no h)
   have HPL : Hid ((pdL L K (opP r)).length = Z) := hide (pd_len hLf hlens.1 hlens.2)
   have HOPV : Hid (opV r = opV r) := hide rfl
   obtain ⟨x0, x1, x2, x3, sn, ab, cb, body⟩ := r
   dsimp only at *
   clear hco hr hin0 hba hpo hpd hbel z5
   generalize hBL : body.length = BL at *
   have HBL := hide hBL
   clear hBL
   go_upto_region 15 with fail
   generalize wr.alloc (.cells #[.int .i64 x0, .int .i64 x1, .int .i64 x2, .int .i64 x3, .string sn, .slice ab BL cb] 36) = wo at *
   generalize wr.heap.size = go at *
   clear o0 o1 o2 o3 o4 o5
   go_upto_region 17 with fail
   go_cut [60] from 61 to 61 (fun v wx => v = .int .i64 x0 /\ wx = wo)
   case first =>
    obtain ⟨d0, d1, d2, d3, d4, d5⟩ := (unhide HOP).cells
    dsimp only at d0
    clear d1 d2 d3 d4 d5
    go_wp2
    go_meet
    case rel => exact ⟨rfl, rfl⟩
   case rest =>
    obtain ⟨rfl, hwx⟩ := hcut
    replace hwx := hwx.symm
    subst hwx
    refine (‹∀ (a : Act) (w : World), Code.wp Tryz.prog (Code.block _ _) _ a w -> _›) _ _ ?_
    go_cut [9, 12, 13] from 61 to 61 (fun kv nv ev wx => ∃ (an : Option Addr) (cn : Nat) (Ln : List Int) (ak : Option Addr) (cak : Nat), ev = .int .i64 (pdE m L K (opP (x0, x1, x2, x3, sn, ab, cb, body))) /\ nv = .slice an Ln.length cn /\ kv = .slice ak Z cak /\ PdR m L K (opP (x0, x1, x2, x3, sn, ab, cb, body)) q qk wo wx an cn Ln ak cak)
    case first =>
     obtain ⟨d0, d1, d2, d3, d4, d5⟩ := (unhide HOP).cells
     dsimp only at d0 d1 d2 d3 d4 d5
     rw [unhide HBL] at d5
     by_cases h1 : x0 = 1
     ·subst h1
      as_aux_lemma =>
       have HS := hide (sAlloc_any q cq L x3 x2 wo (unhide HPO).b hLf)
       rw [hlens.1] at HS
       have HE : Hid (pdE m L K (opP (1, x1, x2, x3, sn, ab, cb, body)) = alE L x3 x2) := hide rfl
       have HX : Hid (alE L x3 x2 = 0 -> pdL L K (opP (1, x1, x2, x3, sn, ab, cb, body)) = alB L x3 x2) := hide (fun _ => rfl)
       have HX0 : Hid (alB L x3 x2 ≠ []) := hide (by intro e; have h9 := (al_len hLf x3 x2).trans hlens.1; rw [e] at h9; simp at h9; omega)
       clear HBODY HNO HPL HOPV z0 z1 z2 z3
       generalize hIF : (if alE L x3 x2 = 0 then alB L x3 x2 else []) = LN at *
       have HIF := hide hIF
       generalize alE L x3 x2 = AE at *
       generalize alH L x3 x2 = AH at *
       clear hIF
       go_wp2_with fail
       refine (unhide HS).mono ?_
       rintro e w1 ⟨an, cn, rfl, hbs1, hb1, hfr1⟩
       have HR : Hid (PdR m L K (opP (1, x1, x2, x3, sn, ab, cb, body)) q qk wo w1 an cn LN qk ck) := hide (by
        have hh := unhide HIF
        rw [<- hh] at hbs1 ⊢
        exact PdR.ref (by show (1 : Int) ≠ 6; decide) (unhide HE) (unhide HX) (unhide HPO).k hb1 hbs1 hfr1 (unhide HX0))
       clear hbs1 hb1 hfr1 HS d0 d1 d2 d3 d4 d5
       go_wp2
       go_meet
       case rel => exact ⟨an, cn, LN, qk, ck, by rw [unhide HE], rfl, rfl, unhide HR⟩
     have n1 : (x0 == 1) = false := by rw [beq_eq_false_iff_ne]; exact h1
     clear h1
     by_cases h2 : x0 = 2
     ·subst h2
      as_aux_lemma =>
       have HS := hide (sFree_any q cq L x1 wo (unhide HPO).b hLf)
       rw [hlens.1] at HS
       have HE : Hid (pdE m L K (opP (2, x1, x2, x3, sn, ab, cb, body)) = frE L x1) := hide rfl
       have HX : Hid (frE L x1 = 0 -> pdL L K (opP (2, x1, x2, x3, sn, ab, cb, body)) = frB L x1) := hide (fun _ => rfl)
       have HX0 : Hid (frB L x1 ≠ []) := hide (by intro e; have h9 := (frB_fine hLf x1).2.trans hlens.1; rw [e] at h9; simp at h9; omega)
       clear HBODY HNO HPL HOPV z0 z1 z2 z3
       generalize hIF : (if frE L x1 = 0 then frB L x1 else []) = LN at *
       have HIF := hide hIF
       generalize frE L x1 = AE at *
       clear hIF
       go_wp2_with fail
       refine (unhide HS).mono ?_
       rintro e w1 ⟨an, cn, rfl, hbs1, hb1, hfr1⟩
       have HR : Hid (PdR m L K (opP (2, x1, x2, x3, sn, ab, cb, body)) q qk wo w1 an cn LN qk ck) := hide (by
        have hh := unhide HIF
        rw [<- hh] at hbs1 ⊢
        exact PdR.ref (by show (2 : Int) ≠ 6; decide) (unhide HE) (unhide HX) (unhide HPO).k hb1 hbs1 hfr1 (unhide HX0))
       clear hbs1 hb1 hfr1 HS d0 d1 d2 d3 d4 d5
       go_wp2
       go_meet
       case rel => exact ⟨an, cn, LN, qk, ck, by rw [unhide HE], rfl, rfl, unhide HR⟩
     have n2 : (x0 == 2) = false := by rw [beq_eq_false_iff_ne]; exact h2
     clear h2
     by_cases h3 : x0 = 3
     ·subst h3
      as_aux_lemma =>
       have HS := hide (sWrite_any q cq L x1 x2 ab cb body wo (unhide HPO).b (unhide HBODY) hLf (by omega))
       rw [hlens.1, unhide HBL] at HS
       have HE : Hid (pdE m L K (opP (3, x1, x2, x3, sn, ab, cb, body)) = pcE L x1 x2 (BL : Int)) := hide (by show pcE L x1 x2 (body.length : Int) = _; rw [unhide HBL])
       have HX : Hid (pcE L x1 x2 (BL : Int) = 0 -> pdL L K (opP (3, x1, x2, x3, sn, ab, cb, body)) = wrB L x1 x2 body) := hide (fun _ => rfl)
       have HX0 : Hid (wrB L x1 x2 body ≠ []) := hide (by intro e; have h9 := (wrB_fine hLf x1 x2 body).2.trans hlens.1; rw [e] at h9; simp at h9; omega)
       clear HBODY HNO HPL HOPV z0 z1 z2 z3
       generalize hIF : (if pcE L x1 x2 (BL : Int) = 0 then wrB L x1 x2 body else []) = LN at *
       have HIF := hide hIF
       generalize pcE L x1 x2 (BL : Int) = AE at *
       clear hIF
       go_wp2_with fail
       refine (unhide HS).mono ?_
       rintro e w1 ⟨an, cn, rfl, hbs1, hb1, hfr1⟩
       have HR : Hid (PdR m L K (opP (3, x1, x2, x3, sn, ab, cb, body)) q qk wo w1 an cn LN qk ck) := hide (by
        have hh := unhide HIF
        rw [<- hh] at hbs1 ⊢
        exact PdR.ref (by show (3 : Int) ≠ 6; decide) (unhide HE) (unhide HX) (unhide HPO).k hb1 hbs1 hfr1 (unhide HX0))
       clear hbs1 hb1 hfr1 HS d0 d1 d2 d3 d4 d5
       go_wp2
       go_meet
       case rel => exact ⟨an, cn, LN, qk, ck, by rw [unhide HE], rfl, rfl, unhide HR⟩
     have n3 : (x0 == 3) = false := by rw [beq_eq_false_iff_ne]; exact h3
     clear h3
     by_cases h4 : x0 = 4
     ·subst h4
      as_aux_lemma =>
       have HS := hide (sSet_any q cq L sn x1 wo (unhide HPO).b hLf z4)
       rw [hlens.1] at HS
       have hFX : (if seE L sn x1 = 0 then seB L sn x1 else []) = if seE L sn x1 = 0 then seF L sn x1 else [] := by
        by_cases h : seE L sn x1 = 0
        ·rw [if_pos h, if_pos h]; unfold seF; rw [if_pos h]
        ·rw [if_neg h, if_neg h]
       rw [hFX] at HS
       clear hFX
       have HE : Hid (pdE m L K (opP (4, x1, x2, x3, sn, ab, cb, body)) = seE L sn x1) := hide rfl
       have HX : Hid (seE L sn x1 = 0 -> pdL L K (opP (4, x1, x2, x3, sn, ab, cb, body)) = seF L sn x1) := hide (fun _ => rfl)
       have HX0 : Hid (seF L sn x1 ≠ []) := hide (by intro e; have h9 := (seF_fine hLf sn x1).2.trans hlens.1; rw [e] at h9; simp at h9; omega)
       clear HBODY HNO HPL HOPV z0 z1 z2 z3
       generalize hIF : (if seE L sn x1 = 0 then seF L sn x1 else []) = LN at *
       have HIF := hide hIF
       generalize seE L sn x1 = AE at *
       generalize seN L sn = SN at *
       clear hIF
       go_wp2_with fail
       refine (unhide HS).mono ?_
       rintro e w1 ⟨an, cn, rfl, hbs1, hb1, hfr1⟩
       have HR : Hid (PdR m L K (opP (4, x1, x2, x3, sn, ab, cb, body)) q qk wo w1 an cn LN qk ck) := hide (by
        have hh := unhide HIF
        rw [<- hh] at hbs1 ⊢
        exact PdR.ref (by show (4 : Int) ≠ 6; decide) (unhide HE) (unhide HX) (unhide HPO).k hb1 hbs1 hfr1 (unhide HX0))
       clear hbs1 hb1 hfr1 HS d0 d1 d2 d3 d4 d5
       go_wp2
       go_meet
       case rel => exact ⟨an, cn, LN, qk, ck, by rw [unhide HE], rfl, rfl, unhide HR⟩
     have n4 : (x0 == 4) = false := by rw [beq_eq_false_iff_ne]; exact h4
     clear h4
     by_cases h5 : x0 = 5
     ·subst h5
      as_aux_lemma =>
       have HS := hide (sUnset_any q cq L sn wo (unhide HPO).b hLf z4)
       rw [hlens.1] at HS
       have hFX : (if unE L sn = 0 then unB L sn else []) = if unE L sn = 0 then unF L sn else [] := by
        by_cases h : unE L sn = 0
        ·rw [if_pos h, if_pos h]; unfold unF; rw [if_pos h]
        ·rw [if_neg h, if_neg h]
       rw [hFX] at HS
       clear hFX
       have HE : Hid (pdE m L K (opP (5, x1, x2, x3, sn, ab, cb, body)) = unE L sn) := hide rfl
       have HX : Hid (unE L sn = 0 -> pdL L K (opP (5, x1, x2, x3, sn, ab, cb, body)) = unF L sn) := hide (fun _ => rfl)
       have HX0 : Hid (unF L sn ≠ []) := hide (by intro e; have h9 := (unF_fine hLf sn).2.trans hlens.1; rw [e] at h9; simp at h9; omega)
       clear HBODY HNO HPL HOPV z0 z1 z2 z3
       generalize hIF : (if unE L sn = 0 then unF L sn else []) = LN at *
       have HIF := hide hIF
       generalize unE L sn = AE at *
       clear hIF
       go_wp2_with fail
       refine (unhide HS).mono ?_
       rintro e w1 ⟨an, cn, rfl, hbs1, hb1, hfr1⟩
       have HR : Hid (PdR m L K (opP (5, x1, x2, x3, sn, ab, cb, body)) q qk wo w1 an cn LN qk ck) := hide (by
        have hh := unhide HIF
        rw [<- hh] at hbs1 ⊢
        exact PdR.ref (by show (5 : Int) ≠ 6; decide) (unhide HE) (unhide HX) (unhide HPO).k hb1 hbs1 hfr1 (unhide HX0))
       clear hbs1 hb1 hfr1 HS d0 d1 d2 d3 d4 d5
       go_wp2
       go_meet
       case rel => exact ⟨an, cn, LN, qk, ck, by rw [unhide HE], rfl, rfl, unhide HR⟩
     have n5 : (x0 == 5) = false := by rw [beq_eq_false_iff_ne]; exact h5
     clear h5
     by_cases h6 : x0 = 6
     ·subst h6
      as_aux_lemma =>
       have HE : Hid (pdE m L K (opP (6, x1, x2, x3, sn, ab, cb, body)) = if 23 < (drtN K L m).length then 4 else 0) := hide rfl
       have HCO : Hid (∀ W, Below wo.heap.size wo W -> PdR m L K (opP (6, x1, x2, x3, sn, ab, cb, body)) q qk wo W q cq L (if 23 < (drtN K L m).length then qk else q) (if 23 < (drtN K L m).length then ck else cq)) := hide (fun W hW => PdR.co rfl (unhide HPO).b (unhide HPO).k hW)
       have HZM : Hid ((Z : Int) = 32 * (m : Int)) := hide (by have := unhide HZ; omega)
       have HBQ := hide (unhide HPO).b
       have HBK := hide (unhide HPO).k
       have HZL := hide hlens
       clear HBODY HNO HPL HOPV z0 z1 z2 z3 d0 d1 d2 d3 d4 d5
       go_wp2_with fail
       go_loopw [14, 15] (fun mv iv wr => ∃ i : Nat, i <= m /\ iv = .int .i64 i /\ mv = .int .i64 ((drtN K L i).length : Int) /\ Below wo.heap.size wo wr) (fun _ iv _ => m - (intOf iv).toNat)
       case atStart => exact ⟨0, Nat.zero_le _, rfl, rfl, Below.refl _ _⟩
       case round =>
        obtain ⟨i, him, rfl, rfl, hbel⟩ := hrel
        have hdi := drt_leP K L i
        by_cases hlt : i < m
        ·have t1 : 32 * (i : Int) < (Z : Int) := by have := unhide HZM; omega
         have t0 : (0 : Int) <= (i : Int) := by omega
         have t2 : (i : Int) < 200 := by omega
         have hll := (unhide HZL).1
         have hkl := (unhide HZL).2
         have hll' : L.length = 32 * m := by have := unhide HZ; omega
         have hkl' : K.length = 32 * m := by have := unhide HZ; omega
         obtain ⟨an, pn, sn'⟩ := slice_lohi (P := Tryz.prog) (t := 31) Tryz.underlying31 size_u8 ((unhide HBQ).below hbel) (32 * i) (32 * i + 32) (by omega) (by rw [hll']; omega)
         obtain ⟨am, pk, sk⟩ := slice_lohi (P := Tryz.prog) (t := 31) Tryz.underlying31 size_u8 ((unhide HBK).below hbel) (32 * i) (32 * i + 32) (by omega) (by rw [hkl']; omega)
         rw [prt_cutP] at sn' sk
         have ec1 : ((32 * i : Nat) : Int) = 32 * (i : Int) := by omega
         have ec2 : ((32 * i + 32 : Nat) : Int) = 32 * (i : Int) + 32 := by omega
         have e32 : 32 * i + 32 - 32 * i = 32 := by omega
         rw [hll, e32, ec1, ec2] at pn
         rw [hkl, e32, ec1, ec2] at pk
         have hw1 : IntKind.i64.wrap (32 * (i : Int)) = 32 * (i : Int) := by simp only [IntKind.wrap_i64]; omega
         have hw2 : IntKind.i64.wrap (32 * (i : Int) + 32) = 32 * (i : Int) + 32 := by simp only [IntKind.wrap_i64]; omega
         have cvn := fun q => conv_str (P := Tryz.prog) (t := 31) (e := 9) Tryz.underlying31 Tryz.underlying5 Tryz.underlying9 (sn'.drewN q)
         have cvk := fun q => conv_str (P := Tryz.prog) (t := 31) (e := 9) Tryz.underlying31 Tryz.underlying5 Tryz.underlying9 (sk.drewN q)
         rw [prt_len hll' hlt] at cvn
         rw [prt_len hkl' hlt] at cvk
         have hdr := drtN_succ K L i
         have hiff := strOf_iff sn'.1 sk.1
         by_cases heq : prt K i = prt L i
         ·rw [if_pos heq, List.append_nil] at hdr
          rw [heq] at cvk
          have hdl : (drtN K L (i + 1)).length = (drtN K L i).length := by rw [hdr]
          have HDR := hide hdl
          clear hdl
          have HBL2 := hide hbel
          clear hdr hbel sn' sk hiff heq hll hkl hll' hkl' HBQ HBK HZL HCO HE
          generalize strOf (prt L i) = SN at *
          generalize (drtN K L i).length = DN at *
          go_wp2_with fail
          go_quiet (fail)
          have HB3 := hide ((unhide HBL2).trans ((below_drewN (Below.refl wr.heap.size wr) nq).mono (unhide HBL2).size))
          clear HBL2
          go_wp2
          go_roundw
          case rel => exact ⟨i + 1, by omega, by go_num, by rw [unhide HDR], unhide HB3⟩
          case measure => simp [intOf]; omega
         ·rw [if_neg heq] at hdr
          have hdl : (drtN K L (i + 1)).length = (drtN K L i).length + 1 := by rw [hdr, List.length_append]; rfl
          have hne : ((strOf (prt L i)).toList == (strOf (prt K i)).toList) = false := toL_no (fun h => heq (hiff.1 h).symm)
          have HDL := hide hdl
          have HBL2 := hide hbel
          clear hdr hdl hbel sn' sk hiff heq hll hkl hll' hkl' HBQ HBK HZL HCO HE
          generalize strOf (prt L i) = SN at *
          generalize strOf (prt K i) = SP at *
          generalize (drtN K L i).length = DN at *
          go_wp2_with fail
          go_quiet (fail)
          have HB3 := hide ((unhide HBL2).trans ((below_drewN (Below.refl wr.heap.size wr) nq).mono (unhide HBL2).size))
          clear HBL2
          go_wp2
          go_roundw
          case rel => exact ⟨i + 1, by omega, by go_num, by rw [unhide HDL]; go_num, unhide HB3⟩
          case measure => simp [intOf]; omega
        ·obtain rfl : i = m := by omega
         have t1 : ¬ 32 * (i : Int) < (Z : Int) := by have := unhide HZM; omega
         have HR := hide (unhide HCO wr hbel)
         have HLL := hide (unhide HZL).1
         clear hbel HCO HBQ HBK
         generalize (drtN K L i).length = DN at *
         by_cases h23 : 23 < DN
         ·rw [if_pos h23] at HE
          rw [if_pos h23, if_pos h23] at HR
          have f23 : (23 : Int) < (DN : Int) := by omega
          go_wp2
          go_meet
          case rel => exact ⟨q, cq, L, qk, ck, by rw [unhide HE], by rw [unhide HLL], rfl, unhide HR⟩
         ·rw [if_neg h23] at HE
          rw [if_neg h23, if_neg h23] at HR
          have f23 : ¬ (23 : Int) < (DN : Int) := by omega
          go_wp2
          go_meet
          case rel => exact ⟨q, cq, L, q, cq, by rw [unhide HE], by rw [unhide HLL], rfl, unhide HR⟩
     have n6 : (x0 == 6) = false := by rw [beq_eq_false_iff_ne]; exact h6
     clear h6
     by_cases h7 : x0 = 7
     ·subst h7
      as_aux_lemma =>
       have HR : Hid (PdR m L K (opP (7, x1, x2, x3, sn, ab, cb, body)) q qk wo wo qk ck K qk ck) := hide (PdR.at (by show (7 : Int) ≠ 6; decide) rfl (unhide HPO).k (Below.refl _ _) (unhide HPO).k Nxt.kept)
       have HKL := hide hlens.2
       clear HBODY HNO HPL HOPV z0 z1 z2 z3 d0 d1 d2 d3 d4 d5
       go_wp2
       go_meet
       case rel => exact ⟨qk, ck, K, qk, ck, rfl, by rw [unhide HKL], rfl, unhide HR⟩
     have n7 : (x0 == 7) = false := by rw [beq_eq_false_iff_ne]; exact h7
     clear h7
     by_cases h8 : x0 = 8
     ·subst h8
      as_aux_lemma =>
       have HS := hide (sStep_any q cq L wo (unhide HPO).b hLf)
       rw [hlens.1] at HS
       have HLE : Hid (((mvS L).getD L).length = Z) := hide ((mvT_fine hLf).2.trans hlens.1)
       have HX : Hid (pdL L K (opP (8, x1, x2, x3, sn, ab, cb, body)) = (mvS L).getD L) := hide rfl
       clear HBODY HNO HPL HOPV z0 z1 z2 z3
       generalize (mvS L).getD L = AB at *
       generalize (mvS L).isSome = SO at *
       go_wp2_with fail
       refine (unhide HS).mono ?_
       rintro e w1 ⟨an, cn, rfl, hbs1, hb1, hfr1⟩
       have HR : Hid (PdR m L K (opP (8, x1, x2, x3, sn, ab, cb, body)) q qk wo w1 an cn AB qk ck) := hide (by
        have hne : AB ≠ [] := by intro e; have h9 := unhide HLE; rw [e] at h9; simp at h9; omega
        refine PdR.at (by show (8 : Int) ≠ 6; decide) (unhide HX) (unhide HPO).k hb1 hbs1 ?_
        rcases hfr1 with ⟨rfl, rfl⟩ | hfr
        ·exact Nxt.old
        ·exact Nxt.fresh hbs1 hfr hne)
       clear hbs1 hb1 hfr1 HS d0 d1 d2 d3 d4 d5
       go_wp2
       go_meet
       case rel => exact ⟨an, cn, AB, qk, ck, rfl, by rw [unhide HLE], rfl, unhide HR⟩
     have n8 : (x0 == 8) = false := by rw [beq_eq_false_iff_ne]; exact h8
     clear h8
     by_cases h9 : x0 = 9
     ·subst h9
      as_aux_lemma =>
       have HS := hide (sLive_any q cq L wo (unhide HPO).b hLf)
       rw [hlens.1] at HS
       have hdl := ddK_len L 40
       have hvl := lvK_len L
       have HST := hide (fun k x hx => sw_step hLf (k := k) (x := x) hx)
       have HTK := hide (fun k => sw_take hLf k)
       have HFR := hide (fun (W : World) (an : Option Addr) (cn : Nat) (M : List Int) (x : Int) (hbs : Bs W an cn M) (hM : Fine M) => sFree_any an cn M x W hbs hM)
       have H0 : Hid (swL L ((ddK L 40).take 0) = L) := hide rfl
       have HX : Hid (pdL L K (opP (9, x1, x2, x3, sn, ab, cb, body)) = swL L (ddK L 40)) := hide rfl
       have HLN := hide hlens.1
       clear HBODY HNO HPL HOPV z0 z1 z2 z3
       generalize ddK L 40 = D at *
       generalize lvK L 40 = V at *
       go_wp2_with fail
       refine (unhide HS).mono ?_
       rintro e w1 ⟨v1, v2, rfl, hl1, hl2, hb1⟩
       obtain ⟨a3, c3, rfl, hs3⟩ := hl1.sls inC_len (by omega)
       obtain ⟨a2, c2, rfl, hs2⟩ := hl2.sls inC_len (by omega)
       have HD := hide hs2
       have hcl2 := hs2.2.2.1
       have HB1 := hide hb1
       clear hs3 hl1 hl2 hs2 hb1 HS d0 d1 d2 d3 d4 d5
       go_wp2_with fail
       go_loopw [12, 18] (fun nv iv wr => ∃ (j : Nat) (an : Option Addr) (cn : Nat), j <= D.length /\ iv = .int .i64 j /\ nv = .slice an Z cn /\ Bs wr an cn (swL L (D.take j)) /\ Nxt q qk wo wr an /\ Below w1.heap.size w1 wr) (fun _ iv _ => D.length - (intOf iv).toNat)
       case atStart => exact ⟨0, q, cq, Nat.zero_le _, rfl, rfl, by rw [unhide H0]; exact (unhide HPO).b.below (unhide HB1), Nxt.old, Below.refl _ _⟩
       case round =>
        obtain ⟨j, an, cn, hj, rfl, rfl, hn, hnx, hbj⟩ := hrel
        have htk := unhide HTK j
        have hjl : (swL L (D.take j)).length = Z := htk.len.trans (unhide HLN)
        have hbw := (unhide HB1).trans (hbj.mono (unhide HB1).size)
        by_cases hlj : j < D.length
        ·have hneD : D ≠ [] := by intro e; rw [e] at hlj; simp at hlj
         obtain ⟨b2, o2, rfl, hc2⟩ := ((unhide HD).below hbj).2.2.2 hneD
         obtain ⟨y, hy⟩ : ∃ y, D[j]? = some y := ⟨D[j], List.getElem?_eq_getElem hlj⟩
         have q0 := Sls.num (cap := 0) hc2 hy
         obtain ⟨s1, s2⟩ := unhide HST j y hy
         have HF := hide (unhide HFR wr an cn _ y hn htk.fine)
         rw [s1, if_pos rfl, s2, hjl] at HF
         have hjl2 : (swL L (D.take (j + 1))).length = Z := (unhide HTK (j + 1)).len.trans (unhide HLN)
         rw [hjl2] at HF
         have HNE : Hid (swL L (D.take (j + 1)) ≠ []) := hide (by intro e; rw [e] at hjl2; simp at hjl2; omega)
         have HBJ := hide hbj
         have HBW := hide hbw
         have hji : (j : Int) < (D.length : Int) := by omega
         clear hc2 hy hneD s1 s2 hn hnx htk hjl hjl2 hbj hbw
         generalize hSJ : swL L (D.take (j + 1)) = SJ at *
         have HSJ := hide hSJ
         clear hSJ
         go_wp2_with fail
         refine (unhide HF).mono ?_
         rintro e w2 ⟨a4, c4, rfl, hbs4, hb4, hfr4⟩
         have HN4 := hide hbs4
         have HX4 : Hid (Nxt q qk wo w2 a4) := hide (Nxt.fresh hbs4 (hfr4.mono (unhide HBW).size) (unhide HNE))
         have HB4 := hide ((unhide HBJ).trans (hb4.mono (unhide HBJ).size))
         clear hbs4 hb4 hfr4 HF q0 HBJ HBW
         go_wp2
         go_roundw
         case rel => exact ⟨j + 1, a4, c4, by omega, by go_num, rfl, by rw [unhide HSJ]; exact unhide HN4, unhide HX4, unhide HB4⟩
         case measure => simp [intOf]; omega
        ·have hjD : j = D.length := by omega
         rw [hjD, List.take_length] at hn hjl
         have hge : ¬ ((j : Int) < (D.length : Int)) := by omega
         have HR : Hid (PdR m L K (opP (9, x1, x2, x3, sn, ab, cb, body)) q qk wo wr an cn (swL L D) qk ck) := hide (PdR.at (by show (9 : Int) ≠ 6; decide) (unhide HX) (unhide HPO).k hbw hn hnx)
         have HJL := hide hjl
         clear hn hnx htk hjl hjD hbj hbw hlj hj HTK HST HFR
         generalize swL L D = SD at *
         go_wp2
         go_meet
         case rel => exact ⟨an, cn, SD, qk, ck, rfl, by rw [unhide HJL], rfl, unhide HR⟩
     have n9 : (x0 == 9) = false := by rw [beq_eq_false_iff_ne]; exact h9
     clear h9
     as_aux_lemma =>
      have HE : Hid (pdE m L K (opP (x0, x1, x2, x3, sn, ab, cb, body)) = 1) := hide (by
       show (if x0 = 6 then _ else doE L _) = _
       rw [if_neg (beq_eq_false_iff_ne.1 n6)]
       show (if x0 = 7 then _ else opE L _) = _
       rw [if_neg (beq_eq_false_iff_ne.1 n7)]
       unfold opE opP
       dsimp only
       rw [if_neg (beq_eq_false_iff_ne.1 n1), if_neg (beq_eq_false_iff_ne.1 n2), if_neg (beq_eq_false_iff_ne.1 n3), if_neg (beq_eq_false_iff_ne.1 n4), if_neg (beq_eq_false_iff_ne.1 n5), if_neg (beq_eq_false_iff_ne.1 n8), if_neg (beq_eq_false_iff_ne.1 n9)])
      have HR : Hid (PdR m L K (opP (x0, x1, x2, x3, sn, ab, cb, body)) q qk wo wo none 0 [] qk ck) := hide (PdR.no (beq_eq_false_iff_ne.1 n6) (unhide HE) (by decide) (unhide HPO).k (Below.refl _ _))
      clear HBODY HNO HPL HOPV z0 z1 z2 z3 d0 d1 d2 d3 d4 d5
      go_wp2
      go_meet
      case rel => exact ⟨none, 0, [], qk, ck, by rw [unhide HE], rfl, rfl, unhide HR⟩
    case rest =>
     as_aux_lemma =>
      obtain ⟨an, cn, Ln, ak, cak, rfl, rfl, rfl, hR⟩ := hcut
      have hpk := hR.pick (unhide HPO).b (unhide HNO)
      have HKB := hide hR.kb
      have HKX := hide hR.kx
      have HBE := hide hR.bel
      have HDO0 := hide (fun (q2 : Option Addr) (c2 : Nat) (h1 : Bs wc q2 c2 (pdL L K (opP (x0, x1, x2, x3, sn, ab, cb, body)))) (h2 : Nxt q qk wo wc q2) => (unhide HPO).do hR.bel (x0, x1, x2, x3, sn, ab, cb, body) (unhide HIN wc hR.bel) (by omega) h1 hR.kb h2 hR.kx)
      have HPK := hide hpk
      obtain ⟨d0, d1, d2, d3, d4, d5⟩ := ((unhide HOP).below hR.bel).cells
      dsimp only at d0 d1 d2 d3 d4 d5
      rw [unhide HBL] at d5
      unfold opV at HDO0
      dsimp only at HDO0
      rw [unhide HBL] at HDO0
      have HES := hide (fun (W : World) (hW : Below w.heap.size w W) => error_same (pdE m L K (opP (x0, x1, x2, x3, sn, ab, cb, body))) W ((unhide HG).below hW))
      clear hR hpk HPO HNO HIN HBODY HOP z0 z1 z2 z3
      generalize pdE m L K (opP (x0, x1, x2, x3, sn, ab, cb, body)) = E at *
      generalize pdK m L K (opP (x0, x1, x2, x3, sn, ab, cb, body)) = K2 at *
      generalize pdL L K (opP (x0, x1, x2, x3, sn, ab, cb, body)) = L2 at *
      go_upto_if 182 with fail
      go_cut [8, 12] from 45 to 199 (fun bv _ wx => ∃ (q2 : Option Addr) (c2 : Nat), bv = .slice q2 Z c2 /\ Bs wx q2 c2 L2 /\ Nxt q qk wo wx q2 /\ wx = wc)
      case first =>
       by_cases hE : E = 0
       ·obtain ⟨p1, p2, p3⟩ := (unhide HPK).1 hE
        rw [unhide HPL] at p1
        rw [p1]
        subst hE
        have HX := hide (And.intro p2 p3)
        clear p1 p2 p3 d0 d1 d2 d3 d4 d5 HPK HDO0 HES
        go_wp2
        go_meet
        case rel => exact ⟨an, cn, rfl, (unhide HX).1, (unhide HX).2, rfl⟩
       ·obtain ⟨p2, p3⟩ := (unhide HPK).2 hE
        have hEb : (E == 0) = false := beq_eq_false_iff_ne.2 hE
        have HX := hide (And.intro p2 p3)
        clear p2 p3 d0 d1 d2 d3 d4 d5 HPK HDO0 HES hE
        generalize Ln.length = ll at *
        go_wp2
        go_meet
        case rel => exact ⟨q, cq, rfl, (unhide HX).1, (unhide HX).2, rfl⟩
      case rest =>
       obtain ⟨q2, c2, rfl, hq2, hx2, hwx⟩ := hcut
       replace hwx := hwx.symm
       subst hwx
       have HDO := hide (unhide HDO0 q2 c2 hq2 hx2)
       clear hq2 hx2 HDO0 HPK HKB HKX HBE
       generalize Ln.length = ll at *
       go_wp2_with fail
       refine (unhide HDO).mono ?_
       rintro e w5 ⟨rfl, s5, hs5, hs6, hpd5⟩
       have HER := hide (unhide HES w5 hpd5.tl.base)
       have HP5 := hide hpd5
       clear hpd5 HDO HES d0 d1 d2 d3 d4 d5
       go_wp2_with fail
       refine (unhide HER).mono ?_
       rintro e w6 ⟨rfl, hb6⟩
       have hpd6 := (unhide HP5).below hb6
       have HP6 : Hid (∀ wq, Below w6.heap.size w6 wq -> Pds w wq t p x s5 m N L2 K2 q2 c2 ak cak) := hide (fun wq hb => hpd6.below hb)
       have hL2 := unhide HPL
       have HY6 : Hid (∀ wq, Below w6.heap.size w6 wq -> Calls Tryz.prog 7 #[.pointer (some ⟨x, 0, none⟩)] wq fun e w' => ∃ a c', e = .returned (.slice a Z c') /\ (convert 31 9 (.slice a Z c')).run Tryz.prog w' = .ok (.string (strOf L2)) w' /\ Below wq.heap.size wq w') := hide (fun wq hb => by
        refine (hpd6.below hb).tl.bytesP.mono ?_
        rintro e w' ⟨a, c, rfl, hbs, _, hbl⟩
        have hcv := conv_str (P := Tryz.prog) Tryz.underlying31 Tryz.underlying5 Tryz.underlying9 hbs
        rw [hL2] at hcv ⊢
        exact ⟨a, c, rfl, hcv, hbl⟩)
       have HCV6 : Hid (∀ wq, Below w6.heap.size w6 wq -> (convert 31 9 (.slice q2 Z c2)).run Tryz.prog wq = .ok (.string (strOf L2)) wq) := hide (fun wq hb => by
        have hcv := conv_str (P := Tryz.prog) Tryz.underlying31 Tryz.underlying5 Tryz.underlying9 (hpd6.below hb).b
        rw [hL2] at hcv
        exact hcv)
       clear hb6 hpd6 HER HP5 HPL hL2
       generalize strOf L2 = SL at *
       go_wp2_with fail
       refine wp_region_held_drew (S := fun wq => Below w6.heap.size w6 wq /\ (convert 31 9 (.slice q2 Z c2)).run Tryz.prog wq = .ok (.string SL) wq) (by kernel_rfl) ⟨below_drew (Below.refl _ _), unhide HCV6 _ (below_drew (Below.refl _ _))⟩ (fun hHeld => ?_)
       refine wpAnyH_take (i := 0) (oi := { dst := some 189, op := Op.move (Operand.tmp 19), type := 4, pos := "law.go:250", after := #[], guard := none }) (v := .bool true) rfl (by kernel_rfl) (by kernel_rfl) (by kernel_rfl) (fun _ _ _ h => h) (Or.inl ⟨by rfl, fun wq hSw => by (try dsimp only at hSw); go_simp⟩) (by assumption) ?_
       try simp only [Act.put, List.setIfInBounds_toArray, List.set_cons_zero, List.set_cons_succ]
       refine wpAnyH_take (i := 1) (oi := { dst := some 190, op := Op.unOp UnOp.not 4 (Operand.tmp 189), type := 4, pos := "law.go:250", after := #[{ on := 0, ground := Ground.data }], guard := none }) (v := .bool false) rfl (by kernel_rfl) (by kernel_rfl) (by kernel_rfl) (fun _ _ _ h => h) (Or.inl ⟨by rfl, fun wq hSw => by (try dsimp only at hSw); go_simp⟩) (by assumption) ?_
       try simp only [Act.put, List.setIfInBounds_toArray, List.set_cons_zero, List.set_cons_succ]
       refine wpAnyH_take (i := 2) (oi := { dst := some 191, op := Op.move (Operand.tmp 190), type := 4, pos := "law.go:250", after := #[{ on := 1, ground := Ground.data }], guard := none }) (v := .bool false) rfl (by kernel_rfl) (by kernel_rfl) (by kernel_rfl) (fun _ _ _ h => h) (Or.inl ⟨by rfl, fun wq hSw => by (try dsimp only at hSw); go_simp⟩) (by assumption) ?_
       try simp only [Act.put, List.setIfInBounds_toArray, List.set_cons_zero, List.set_cons_succ]
       refine wpAnyH_take (i := 3) (oi := { dst := some 192, op := Op.move (Operand.tmp 7), type := 28, pos := "law.go:250", after := #[{ on := 2, ground := Ground.guard }], guard := some (2, false) }) (v := .pointer (some ⟨t, 0, none⟩)) rfl (by kernel_rfl) (by kernel_rfl) (by kernel_rfl) (fun _ _ _ h => h) (Or.inl ⟨by rfl, fun wq hSw => by (try dsimp only at hSw); go_simp⟩) (by assumption) ?_
       try simp only [Act.put, List.setIfInBounds_toArray, List.set_cons_zero, List.set_cons_succ]
       refine wpAnyH_take (i := 7) (oi := { dst := some 196, op := Op.move (Operand.tmp 8), type := 31, pos := "law.go:250", after := #[{ on := 2, ground := Ground.guard }], guard := some (2, false) }) (v := .slice q2 Z c2) rfl (by kernel_rfl) (by kernel_rfl) (by kernel_rfl) (fun _ _ _ h => h) (Or.inl ⟨by rfl, fun wq hSw => by (try dsimp only at hSw); go_simp⟩) (by assumption) ?_
       try simp only [Act.put, List.setIfInBounds_toArray, List.set_cons_zero, List.set_cons_succ]
       refine wpAnyH_take (i := 8) (oi := { dst := some 197, op := Op.convert 31 9 (Operand.tmp 196), type := 9, pos := "law.go:250", after := #[{ on := 7, ground := Ground.data }, { on := 2, ground := Ground.guard }], guard := some (2, false) }) (v := .string SL) rfl (by kernel_rfl) (by kernel_rfl) (by kernel_rfl) (fun _ _ _ h => h) (Or.inl ⟨by rfl, fun wq hSw => by (try dsimp only at hSw); go_simp⟩) (by assumption) ?_
       try simp only [Act.put, List.setIfInBounds_toArray, List.set_cons_zero, List.set_cons_succ]
       refine wpAnyH_ready (rs := [4]) (by kernel_rfl) (by simp) ?_
       refine AllReadyH.cons (o := { dst := some 193, op := Op.call { callee := Callee.value (Operand.func 6), args := #[Operand.tmp 192], argTypes := #[28] }, type := 32, pos := "law.go:250", after := #[{ on := 3, ground := Ground.data }, { on := 2, ground := Ground.chain }, { on := 2, ground := Ground.guard }], guard := some (2, false) }) rfl (fun K hK => ?_) AllReadyH.nil
       go_simp
       refine (unhide HP6 _ hHeld.1).tl.heap.mono ?_
       rintro e w8 ⟨rfl, hw8⟩
       subst hw8
       refine hK.out _ _ hHeld (fun hHeld1 => ?_)
       clear hK K hHeld
       try simp only [Act.put, List.setIfInBounds_toArray, List.set_cons_zero, List.set_cons_succ]
       refine wpAnyH_ready (rs := [5]) (by kernel_rfl) (by simp) ?_
       refine AllReadyH.cons (o := { dst := some 194, op := Op.call { callee := Callee.value (Operand.func 7), args := #[Operand.tmp 193], argTypes := #[32] }, type := 31, pos := "law.go:250", after := #[{ on := 4, ground := Ground.data }, { on := 4, ground := Ground.chain }, { on := 2, ground := Ground.guard }], guard := some (2, false) }) rfl (fun K hK => ?_) AllReadyH.nil
       go_simp
       refine (unhide HY6 _ hHeld1.1).mono ?_
       rintro e w9 ⟨a9, c9, rfl, hcv9, hb9⟩
       have hk9 : Below w6.heap.size w6 w9 := hHeld1.1.trans (hb9.mono hHeld1.1.size)
       have hn9 := And.intro hk9 (unhide HCV6 _ hk9)
       refine hK.out _ _ hn9 (fun _ => wpAnyH_turn (S2 := fun wq => (Below w6.heap.size w6 wq /\ (convert 31 9 (.slice q2 Z c2)).run Tryz.prog wq = .ok (.string SL) wq) /\ (convert 31 9 (.slice a9 Z c9)).run Tryz.prog wq = .ok (.string SL) wq) (fun _ h => h.1) _ _ _ _ ?_)
       have hHeld2 := And.intro hn9 hcv9
       clear hK K hHeld1 hcv9 hb9 hn9
       try simp only [Act.put, List.setIfInBounds_toArray, List.set_cons_zero, List.set_cons_succ]
       refine wpAnyH_take (i := 6) (oi := { dst := some 195, op := Op.convert 31 9 (Operand.tmp 194), type := 9, pos := "law.go:250", after := #[{ on := 5, ground := Ground.data }, { on := 2, ground := Ground.guard }], guard := some (2, false) }) (v := .string SL) rfl (by kernel_rfl) (by kernel_rfl) (by kernel_rfl) (fun _ _ _ h => h) (Or.inl ⟨by rfl, fun wq hSw => by (try dsimp only at hSw); go_simp⟩) (by assumption) ?_
       try simp only [Act.put, List.setIfInBounds_toArray, List.set_cons_zero, List.set_cons_succ]
       refine wpAnyH_take (i := 9) (oi := { dst := some 198, op := Op.binOp BinOp.neq 9 (Operand.tmp 195) (Operand.tmp 197) 9, type := 4, pos := "law.go:250", after := #[{ on := 6, ground := Ground.data }, { on := 8, ground := Ground.data }, { on := 2, ground := Ground.guard }], guard := some (2, false) }) (v := .bool false) rfl (by kernel_rfl) (by kernel_rfl) (by kernel_rfl) (fun _ _ _ h => h) (Or.inl ⟨by rfl, fun wq hSw => by (try dsimp only at hSw); go_simp⟩) (by assumption) ?_
       try simp only [Act.put, List.setIfInBounds_toArray, List.set_cons_zero, List.set_cons_succ]
       refine wpAnyH_take (i := 10) (oi := { dst := some 199, op := Op.pick (Operand.tmp 191) (Operand.const (Value.bool true)) (Operand.tmp 198), type := 4, pos := "law.go:250", after := #[{ on := 2, ground := Ground.data }, { on := 9, ground := Ground.data }], guard := none }) (v := .bool false) rfl (by kernel_rfl) (by kernel_rfl) (by kernel_rfl) (fun _ _ _ h => h) (Or.inl ⟨by rfl, fun wq hSw => by (try dsimp only at hSw); go_simp⟩) (by assumption) ?_
       try simp only [Act.put, List.setIfInBounds_toArray, List.set_cons_zero, List.set_cons_succ]
       refine wpAnyH_done (by kernel_rfl) ?_ _
       have HP9 := hide (unhide HP6 w9 hk9)
       clear hk9 hHeld2
       go_wp2
       go_roundw
       case rel => exact ⟨k + 1, s5, L2, K2, q2, c2, ak, cak, by omega, by go_num, rfl, rfl, unhide HP9, by omega, by omega⟩
       case measure => simp [intOf]; omega
  ·have HB := hide hpd.tl.base
   have hcase : ¬ (k : Int) < (ops.length : Int) \/ ((k : Int) < (ops.length : Int) /\ ¬ (k : Int) < 60) := by omega
   clear hpd hin
   rcases hcase with g1 | ⟨g1, g2⟩
   all_goals
    go_wp2
    go_ret
    exact ⟨rfl, unhide HB⟩
end Go.Proofs.YtecodmiendedfaaGreatDoor
