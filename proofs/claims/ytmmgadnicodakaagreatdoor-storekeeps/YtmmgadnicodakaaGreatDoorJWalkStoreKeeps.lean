/-
  The walk of StoreKeeps. (Part of the proof of StoreKeeps.)
-/
import Derived.Test.YtmmgadnicodakaaGreatDoorJSk
import Derived.Test.YtmmgadnicodakaaGreatDoorJRef
import Derived.Test.YtmmgadnicodakaaGreatDoorJRc
import Derived.Test.YtmmgadnicodakaaGreatDoorJHt
import Derived.BigQuiet
import Derived.Deep.CutRange
namespace Go.Proofs.YtmmgadnicodakaaGreatDoor
open Go.RowKit
set_option linter.unusedVariables false
def SkUp (w0 w : World) (t p x m n : Nat) : Prop := ∃ P F, Tf w0 w t p x m P F ∧ Pu m n P ∧ P.D.left < 0 ∧ P.L = P.K ∧ 2 ≤ P.s ∧ P.s ≤ 3
theorem fineE_zero {L : List Int} (h : Fine L) : fineE L = 0 := by
 unfold fineE
 rw [if_neg (by rw [h.len0]; simp), if_pos h.ok]
theorem conv_bytesK {K : List Int} {N f : Nat} {ar : Array Value} {w : World} (hN : K.length = N) (h : Calls Tryz.prog f ar w fun e w' => ∃ a c', e = .returned (.slice a N c') ∧ Bs w' a c' K ∧ Below w.heap.size w w') :
  Calls Tryz.prog f ar w fun e w' => ∃ a c', e = .returned (.slice a N c') ∧ Bs w' a c' K ∧ (convert 33 9 (.slice a N c')).run Tryz.prog w' = .ok (.string (strOf K)) w' ∧ Below w.heap.size w w' := by
 refine h.mono ?_
 rintro e w' ⟨a, c', rfl, hb, hbl⟩
 have hcv := conv_str (P := Tryz.prog) Tryz.underlying33 Tryz.underlying5 Tryz.underlying9 hb
 rw [hN] at hcv
 exact ⟨a, c', rfl, hb, hcv, hbl⟩
theorem info_inK : (Tryz.prog.info? 3).map (fun i => (i.zero, i.size, i.bytes)) = some (some (.int .i64 0), 1, 8) := by kernel_rfl
theorem inK_one (x : Int) : ∀ u ∈ inC x, u.oneCell' = true := by
 intro u hu
 rw [List.mem_singleton.1 hu]
 rfl
theorem prt_cut (L : List Int) (i : Nat) : (L.drop (32 * i)).take (32 * i + 32 - 32 * i) = prt L i := by
 rw [show 32 * i + 32 - 32 * i = 32 by omega]
 rfl
set_option maxRecDepth 100000 in
set_option maxHeartbeats 8000000 in
theorem walkStoreKeeps (n : Int) (a1 : Option Addr) (cap1 : Nat) (ops : List OpR) (w : World) (hg : ErrT w) (hn : -9223372036854775808 ≤ n ∧ n ≤ 9223372036854775807) (ho : Ops w a1 cap1 ops) :
  Calls Tryz.prog 4 #[.int .i64 n, .slice a1 ops.length cap1] w fun e w' => e = .returned (.bool true) ∧ Below w.heap.size w w' := by
 have hol := ho.1.2.2.1
 have HO := hide ho
 have HG := hide hg
 clear ho hg
 by_cases hr : n < 1 ∨ 300 < n
 ·have HN := hide (new_no n w hr)
  rw [errV_pos 1 (by decide)] at HN
  by_cases h1 : n < 1
  ·clear hr
   go_enter Tryz.func4, Tryz.ntmps4
   go_wp2_with fail
   refine (unhide HN).mono ?_
   rintro e w1 ⟨rfl, rfl⟩
   clear HN
   go_wp2
   go_ret
   exact ⟨rfl, Below.refl _ _⟩
  ·have h2 : 300 < n := by omega
   clear hr
   go_enter Tryz.func4, Tryz.ntmps4
   go_wp2_with fail
   refine (unhide HN).mono ?_
   rintro e w1 ⟨rfl, rfl⟩
   clear HN
   go_wp2
   go_ret
   exact ⟨rfl, Below.refl _ _⟩
 obtain ⟨N, rfl⟩ := Int.eq_ofNat_of_zero_le (show 0 ≤ n by omega)
 have HN := hide (new_live N w w (Below.refl _ _) (by omega) (by omega))
 by_cases h57 : N < 57
 ·have e57 : (N : Int) < 57 := by omega
  have HC := hide (fun (W : World) (q : Nat) (S : Nat → Prop) (hl : Live w W q S (DS.new N)) => stCreate_few hl h57)
  rw [errV_pos 1 (by decide)] at HC
  clear hr
  go_enter Tryz.func4, Tryz.ntmps4
  go_wp2_with fail
  refine (unhide HN).mono ?_
  rintro e w1 ⟨p, S, rfl, hl, _, hb⟩
  have HC1 := hide (unhide HC w1 p S hl)
  have HE := hide (error_errno 1 1 w1 ((unhide HG).below hb))
  have HB := hide hb
  clear hl hb HN HC
  go_wp2_with fail
  refine (unhide HC1).mono ?_
  rintro e w2 ⟨rfl, rfl⟩
  go_wp2_with fail
  refine (unhide HE).mono ?_
  rintro e w2 ⟨rfl, hb2⟩
  have HB2 := hide ((unhide HB).trans (hb2.mono (unhide HB).size))
  clear hb2 HE HC1 HB
  go_wp2
  go_ret
  exact ⟨rfl, unhide HB2⟩
 obtain ⟨m, hm, hm9, hm2, hm3⟩ : ∃ m : Nat, cntI N = m ∧ 9 ≤ m ∧ m ≤ 200 ∧ 48 + m ≤ N := by
  refine ⟨(cntI N).toNat, ?_⟩
  unfold cntI
  split <;> omega
 have hm10 : 57 < N → 10 ≤ m := by
  intro h
  unfold cntI at hm
  split at hm <;> omega
 have h300 : N ≤ 300 := by omega
 have h57' : 57 ≤ N := by omega
 have e57 : (57 : Int) ≤ (N : Int) := by omega
 have HC := hide (fun (W : World) (q : Nat) (S : Nat → Prop) (hl : Live w W q S (DS.new N)) => tf_create hl h57' h300 hm)
 obtain ⟨u1, u2, u3⟩ := cr_up h57' h300 hm
 have HU := hide (And.intro u1 (And.intro u2 u3))
 clear hr h57 h57' h300 u1 u2 u3 hm
 go_enter Tryz.func4, Tryz.ntmps4
 go_wp2_with fail
 refine (unhide HN).mono ?_
 rintro e w1 ⟨p, S, rfl, hl, _, _⟩
 have HC1 := hide (unhide HC w1 p S hl)
 clear hl HN HC
 go_wp2_with fail
 refine (unhide HC1).mono ?_
 rintro e w2 ⟨t, x, rfl, F, htf⟩
 have HTF := hide htf
 clear htf HC1
 go_upto_if 53 with fail
 go_cut [5] from 53 to 53 (fun dv wx => dv = .pointer (some ⟨p, 0, none⟩) ∧ SkUp w wx t p x m N)
 case first =>
  by_cases h58 : 57 < N
  ·have e58 : (57 : Int) < (N : Int) := by omega
   have hm10' := hm10 h58
   obtain ⟨m1, m2, m3, m4, m5, _, m7, _⟩ := first_made (N := 32 * m) (n := 3) (t := 1) (by omega) (by omega) (by decide) (by decide) (by decide) (by decide)
   have m1' : alE (zerosB (32 * m)) 3 1 = 0 := m1
   have m2' : alH (zerosB (32 * m)) 3 1 = 1 := m2
   have m5' : chkE (alB (zerosB (32 * m)) 3 1) 1 = 0 := m5
   have m7' : (entOf (alB (zerosB (32 * m)) 3 1) 1).2.2.1 = 3 := m7
   have hfp : (drtN (zerosB (32 * m)) (alB (zerosB (32 * m)) 3 1) m).length = 1 := first_page (n := 3) (m := m) (t := 1) (by omega) hm2 (by decide) (by decide) (by decide) (by decide)
   have hal := (unhide HTF).alloc 3 1
   have hal' : Calls Tryz.prog 18 #[.pointer (some ⟨x, 0, none⟩), .int .i64 3, .int .i64 1] w2 fun e w' => e = .returned (.tuple #[.int .i64 1, .nilIface]) ∧ ∃ F', Tf w w' t p x m { crP N m with L := alB (zerosB (32 * m)) 3 1 } F' ∧ Turn F F' w2 w' := by
    refine hal.mono fun e w' hq => ⟨?_, hq.2⟩
    rw [hq.1]
    show Ending.returned (.tuple #[.int .i64 (alH (zerosB (32 * m)) 3 1), errV (alE (zerosB (32 * m)) 3 1)]) = _
    rw [m1', m2']
    rfl
   obtain ⟨s1, s2, s3, s4, _⟩ := sk_next (unhide HU).1 (by rw [(unhide HU).2.2]; decide) (unhide HU).2.1 (1, 0, 1, 3, ByteArray.empty, []) (fun z hz => by cases hz)
   have s1' : Pu m N { crP N m with L := alB (zerosB (32 * m)) 3 1 } := s1
   have s2' : ({ crP N m with L := alB (zerosB (32 * m)) 3 1 } : Ps).D.left < 0 := s2
   have hss : ({ crP N m with L := alB (zerosB (32 * m)) 3 1 } : Ps).s = 2 := rfl
   obtain ⟨g1, g2, g3, g4, g5, g6, g7, g8⟩ := co_ever s1' (by rw [hss]; decide) s2'
   have g5' : (psCo m { crP N m with L := alB (zerosB (32 * m)) 3 1 }).2 = 0 := by
    rw [g5]
    show (if 23 < (drtN (zerosB (32 * m)) (alB (zerosB (32 * m)) 3 1) m).length then (4 : Int) else 0) = 0
    rw [hfp]; rfl
   have HCO := hide (fun (W : World) (F' : Nat → Prop) (h : Tf w W t p x m { crP N m with L := alB (zerosB (32 * m)) 3 1 } F') => h.commit (by rw [hss]; decide) (by rw [hss]; decide) (Pz.stays (.inl s1') (by rw [hss]; decide)))
   have hgl : (psCo m { crP N m with L := alB (zerosB (32 * m)) 3 1 }).1.L = alB (zerosB (32 * m)) 3 1 := g7
   have hgk : (psCo m { crP N m with L := alB (zerosB (32 * m)) 3 1 }).1.K = alB (zerosB (32 * m)) 3 1 := g6 g5'
   rw [hss] at g3 g4
   rw [g5', errV_zero] at HCO
   have HAL := hide hal'
   have HH := hide (unhide HTF).heap
   have HGU := hide (And.intro g1 (And.intro g2 (And.intro g3 g4)))
   have HGL := hide (And.intro hgl hgk)
   have HSZ : Hid (getE (alB (zerosB (32 * m)) 3 1) 1 = entOf (alB (zerosB (32 * m)) 3 1) 1) := hide (by unfold getE; rw [if_pos m5'])
   have HM57 := hide (And.intro m5' m7')
   clear hal hal' s1 s2 s3 s4 s1' s2' hss g1 g2 g3 g4 g5 g6 g7 g8 g5' hgl hgk m1 m2 m3 m4 m5 m7 m1' m2' m5' m7' hfp HU HTF
   generalize alB (zerosB (32 * m)) 3 1 = A at *
   generalize (psCo m { crP N m with L := A }).1 = P2 at *
   generalize ({ crP N m with L := A } : Ps) = P1 at *
   go_wp2_with fail
   refine (unhide HH).mono ?_
   rintro e w3 ⟨rfl, rfl⟩
   go_wp2_with fail
   refine (unhide HAL).mono ?_
   rintro e w3 ⟨rfl, F3, htf3, _⟩
   have HCO3 := hide (unhide HCO w3 F3 htf3)
   clear htf3 HAL HCO HH
   go_wp2_with fail
   refine (unhide HCO3).mono ?_
   rintro e w4 ⟨rfl, F4, htf4, _⟩
   have HOP := hide (Tf.beside (n := N) (D := P2.D) (s := P2.s) (L := P2.L) (K := P2.K) htf4 (unhide HGU).1 (unhide HGU).2.1)
   clear htf4 HCO3
   go_wp2_with fail
   refine (unhide HOP).mono ?_
   rintro e w5 ⟨t5, x5, D5, F5, F6, rfl, htf5, hto5, hpu5, hlf5, _⟩
   have HH5 := hide hto5.heap
   have hsz5 := hto5.sizeOf 1
   have hkk : (⟨D5, P2.s, P2.K, P2.K⟩ : Ps).L = A := (unhide HGL).2
   rw [hkk, unhide HSZ, (unhide HM57).1, (unhide HM57).2, errV_zero] at hsz5
   have HSZ5 := hide hsz5
   have HUP : Hid (∀ W, Below w5.heap.size w5 W → SkUp w W t p x m N) := hide (fun W hb => ⟨⟨D5, P2.s, P2.L, P2.K⟩, F5, htf5.below hb, hpu5, hlf5, by show P2.L = P2.K; rw [(unhide HGL).1, (unhide HGL).2], (unhide HGU).2.2.1, by have h9 := (unhide HGU).2.2.2; show P2.s ≤ 3; omega⟩)
   clear htf5 hto5 hpu5 hlf5 hsz5 hkk HOP HGU HGL HSZ HM57
   go_wp2_with fail
   refine (unhide HH5).mono ?_
   rintro e w6 ⟨rfl, rfl⟩
   go_wp2_with fail
   refine (unhide HSZ5).mono ?_
   rintro e w6 ⟨rfl, hb6⟩
   have HQ := hide (unhide HUP w6 hb6)
   clear hb6 HH5 HSZ5 HUP
   go_wp2
   go_meet
   case rel => exact ⟨rfl, unhide HQ⟩
  ·have e58 : ¬ (57 : Int) < (N : Int) := by omega
   have HQ : Hid (SkUp w w2 t p x m N) := hide ⟨_, F, unhide HTF, (unhide HU).1, (unhide HU).2.1, rfl, by rw [(unhide HU).2.2]; decide, by rw [(unhide HU).2.2]; decide⟩
   clear HTF HU
   go_wp2
   go_meet
   case rel => exact ⟨rfl, unhide HQ⟩
 case rest =>
  obtain ⟨rfl, P0, F0, htf0, hu0, hl0, hLK0, hs0, hs0'⟩ := hcut
  have HH := hide htf0.heap
  have HBY := hide (htf0.pt hLK0)
  have HU0 := hide (And.intro hu0 hl0)
  clear htf0 hu0 hl0 hLK0 HTF HU hm10
  go_wp2_with fail
  refine (unhide HH).mono ?_
  rintro e w3 ⟨rfl, rfl⟩
  go_wp2_with fail
  refine (unhide HBY).mono ?_
  rintro e w3 ⟨kv3, rfl, hpt3⟩
  have HSTM := hide hpt3.stamp
  have HPT := hide hpt3
  clear hpt3 HH HBY
  go_wp2_with fail
  refine (unhide HSTM).mono ?_
  rintro e w4 ⟨rfl, rfl⟩
  clear HSTM
  go_upto_region 18 with fail
  go_cut [17] from 98 to 98 (fun v wx => v = .int .i64 0 ∧ wx = w3)
  case first =>
   go_wp2
   go_meet
   case rel => exact ⟨rfl, rfl⟩
  case rest =>
   obtain ⟨rfl, hwx⟩ := hcut
   replace hwx := hwx.symm
   subst hwx
   refine (‹∀ (a : Act) (w : World), Code.wp Tryz.prog (Code.block _ _) _ a w → _›) _ _ ?_
   go_cut [15, 16, 17] from 98 to 174 (fun k0 sv _ wx => ∃ (Q : Ps) (kv : Value), kv = k0 ∧ sv = .int .i64 Q.s ∧ PtAt w wx t p x m Q kv ∧ Pu m N Q ∧ Q.D.left < 0 ∧ 2 ≤ Q.s ∧ Q.s ≤ 43)
   case first =>
    go_wp2_with fail
    go_loopw [15, 16, 17] (fun k0 sv iv wr => ∃ (k : Nat) (Q : Ps) (kv : Value), kv = k0 ∧ k ≤ 40 ∧ iv = .int .i64 k ∧ sv = .int .i64 Q.s ∧ PtAt w wr t p x m Q kv ∧ Pu m N Q ∧ Q.D.left < 0 ∧ 2 ≤ Q.s ∧ Q.s ≤ 3 + k) (fun _ _ iv _ => 40 - (intOf iv).toNat)
    case atStart => exact ⟨0, P0, kv3, rfl, by omega, rfl, rfl, unhide HPT, (unhide HU0).1, (unhide HU0).2, hs0, by omega⟩
    case round =>
     obtain ⟨k, Q, kv, rfl, hk40, rfl, rfl, hpt, hu, hl, hs1, hs2⟩ := hrel
     clear HPT HU0
     by_cases hin : k < ops.length ∧ k < 40
     ·obtain ⟨hlt, hk⟩ := hin
      have f1 : (k : Int) < (ops.length : Int) := by omega
      have f2 : (k : Int) < 40 := by omega
      have f3 : (0 : Int) ≤ (k : Int) := by omega
      have hr : ops[k]? = some ops[k] := List.getElem?_eq_getElem hlt
      generalize ops[k] = r at hr
      obtain ⟨bo, oo, rfl, hco⟩ := (unhide HO).1.2.2.2 (by intro e; rw [e] at hlt; simp at hlt)
      obtain ⟨o0, o1, o2, o3, o4, o5⟩ := Sls.op hco hr
      have HOW := hide (And.intro o0 (And.intro o1 (And.intro o2 (And.intro o3 (And.intro o4 o5)))))
      have hrin := (unhide HO).2 r (List.mem_of_getElem? hr)
      have HDI := hide hpt.dirty
      have hdm := drt_leK Q.K Q.L m
      obtain ⟨n1, n2, n3, n4, n5, n6, n7, n8⟩ := sk_next hu (by omega) hl (opP r) hrin.2.2.2.2.2.1
      have HDO := hide (fun (W : World) (hb : Below wr.heap.size wr W) => (hpt.below hb).do (n := N) hrin (.inl hu) (by omega) (by omega))
      have HSK := hide (fun (W : World) (h : PtMd w W t p x m (psDo m Q (opP r)).1 kv Q.K) => h.skip)
      have HMO := hide (fun (W : World) (h : PtMd w W t p x m (psDo m Q (opP r)).1 kv Q.K) => h.more)
      have HBR := hide hpt.base
      generalize hd : (drtN Q.K Q.L m).length = d at *
      clear hd
      generalize (psDo m Q (opP r)).2 = E at *
      generalize (psDo m Q (opP r)).1 = Q2 at *
      generalize Q.K = K0 at *
      generalize hqs : Q.s = sq at *
      clear hqs
      have HN5 := hide (And.intro n5 (And.intro n6 (And.intro n7 n8)))
      have HUP := hide (And.intro n1 n2)
      have s3 : 2 ≤ Q2.s := by omega
      have s4 : Q2.s ≤ 3 + ((k + 1 : Nat) : Int) := by omega
      have hd200 : (d : Int) ≤ 200 := by omega
      unfold opV at HDO
      obtain ⟨x0, x1, x2, x3, sn, ab, cb, body⟩ := r
      have e6 : (opP (x0, x1, x2, x3, sn, ab, cb, body)).1 = x0 := rfl
      rw [e6] at HN5
      dsimp only at *
      clear hco hr hpt hu hl hrin n1 n2 n3 n4 n5 n6 n7 n8 e6 o0 o1 o2 o3 o4 o5
      generalize hbody : body.length = BL at *
      clear hbody
      go_wp2_with fail
      refine (unhide HDI).mono ?_
      rintro e w5 ⟨ad, cd, rfl, _, hb5⟩
      have HDO5 := hide (unhide HDO w5 hb5)
      have hB5 := (unhide HBR).trans (hb5.mono (unhide HBR).size)
      obtain ⟨o0, o1, o2, o3, o4, o5⟩ := unhide HOW
      rw [← hB5.cell (block_lt_of_cell o0)] at o0
      rw [← hB5.cell (block_lt_of_cell o1)] at o1
      rw [← hB5.cell (block_lt_of_cell o2)] at o2
      rw [← hB5.cell (block_lt_of_cell o3)] at o3
      rw [← hB5.cell (block_lt_of_cell o4)] at o4
      rw [← hB5.cell (block_lt_of_cell o5)] at o5
      clear hb5 hB5 HDI HDO
      go_wp2_with fail
      refine (unhide HDO5).mono ?_
      rintro e w6 ⟨rfl, hmd⟩
      have o0 : w6.cell? ⟨bo, oo + k * 6, none⟩ = some (.int .i64 x0) := (hmd.base.cell (block_lt_of_cell (unhide HOW).1)).trans (unhide HOW).1
      have HMD := hide hmd
      have HB6 := hide hmd.base
      clear hmd HDO5 o1 o2 o3 o4 o5 HBR
      go_upto_region 23 with fail
      go_cut [121] from 122 to 122 (fun v wx => v = .int .i64 x0 ∧ wx = w6)
      case first =>
       go_wp2
       go_meet
       case rel => exact ⟨rfl, rfl⟩
      case rest =>
       obtain ⟨rfl, hwx⟩ := hcut
       replace hwx := hwx.symm
       subst hwx
       refine (‹∀ (a : Act) (w : World), Code.wp Tryz.prog (Code.block _ _) _ a w → _›) _ _ ?_
       go_cut [15, 16] from 122 to 122 (fun k0 sv wx => ∃ kv', kv' = k0 ∧ sv = .int .i64 Q2.s ∧ PtAt w wx t p x m Q2 kv')
       case first =>
        clear o0
        by_cases h6 : x0 = 6
        ·subst h6
         obtain ⟨q5, q6, q7, _⟩ := unhide HN5
         by_cases hd23 : 23 < d
         ·have hE : E = 4 := by rw [q5 rfl, if_pos hd23]
          subst hE
          have hst := q7 (fun _ => by decide)
          have HST := hide hst
          have HQ := hide (unhide HSK w6 (unhide HMD) (fun h => absurd h.2 (by decide)))
          have HE4 := hide (error_errno 4 4 w6 ((unhide HG).below (unhide HB6)))
          have hd1 : ¬ (d : Int) ≤ 23 := by omega
          rw [errV_pos 4 (by decide)]
          clear q5 q6 q7 hst HSK HMO HMD HN5 hd23
          go_wp2_with fail
          refine (unhide HE4).mono ?_
          rintro e w7 ⟨rfl, hb7⟩
          have HQ7 := hide ((unhide HQ).below hb7)
          clear hb7 HE4 HQ
          go_wp2
          go_meet
          case rel => exact ⟨_, rfl, by rw [unhide HST], unhide HQ7⟩
         ·have hE : E = 0 := by rw [q5 rfl, if_neg hd23]
          subst hE
          obtain ⟨qL, qs⟩ := q6 rfl rfl
          have hd1 : (d : Int) ≤ 23 := by omega
          have HH7 := hide (unhide HMD).heap
          have HBY7 := hide (unhide HMO w6 (unhide HMD) ⟨rfl, rfl⟩)
          have HQL := hide qL
          rw [errV_zero]
          clear q5 q6 q7 qL HSK HMO HMD HN5 hd23
          by_cases hd0 : 0 < d
          ·rw [if_pos hd0] at qs
           have HQS := hide qs
           have hd2 : (0 : Int) < (d : Int) := by omega
           clear qs hd0
           go_wp2_with fail
           refine (unhide HH7).mono ?_
           rintro e w7 ⟨rfl, rfl⟩
           go_wp2_with fail
           refine (unhide HBY7).mono ?_
           rintro e w7 ⟨kv7, rfl, hpt7⟩
           have hdi := hpt7.dirty
           rw [unhide HQL, drtN_self] at hdi
           have HDI7 := hide hdi
           have HP7 := hide hpt7
           clear hpt7 hdi HH7 HBY7
           go_wp2_with fail
           refine (unhide HDI7).mono ?_
           rintro e w8 ⟨a8, c8, rfl, _, hb8⟩
           have HQ8 := hide ((unhide HP7).below hb8)
           clear hb8 HDI7 HP7
           go_wp2
           go_meet
           case rel => exact ⟨_, rfl, by rw [unhide HQS], unhide HQ8⟩
          ·rw [if_neg hd0, Int.add_zero] at qs
           have HQS := hide qs
           have hd2 : ¬ (0 : Int) < (d : Int) := by omega
           clear qs hd0
           go_wp2_with fail
           refine (unhide HH7).mono ?_
           rintro e w7 ⟨rfl, rfl⟩
           go_wp2_with fail
           refine (unhide HBY7).mono ?_
           rintro e w7 ⟨kv7, rfl, hpt7⟩
           have hdi := hpt7.dirty
           rw [unhide HQL, drtN_self] at hdi
           have HDI7 := hide hdi
           have HP7 := hide hpt7
           clear hpt7 hdi HH7 HBY7
           go_wp2_with fail
           refine (unhide HDI7).mono ?_
           rintro e w8 ⟨a8, c8, rfl, _, hb8⟩
           have HQ8 := hide ((unhide HP7).below hb8)
           clear hb8 HDI7 HP7
           go_wp2
           go_meet
           case rel => exact ⟨_, rfl, by rw [unhide HQS], unhide HQ8⟩
        ·have h6b : (x0 == 6) = false := by simpa using h6
         obtain ⟨_, _, q7, q8⟩ := unhide HN5
         have HST := hide (q7 (fun h => absurd h h6))
         have HQ := hide (unhide HSK w6 (unhide HMD) (fun h => h6 h.1))
         by_cases h7 : x0 = 7
         ·subst h7
          obtain ⟨hE, qL⟩ := q8 rfl
          subst hE
          obtain ⟨ak, ck, hkv, hkb, hkl, hll⟩ := (unhide HQ).kept
          subst hkv
          have HP7 : Hid (∀ wq, Below w6.heap.size w6 wq → PtAt w wq t p x m Q2 (.slice ak (32 * m) ck)) := hide (fun wq hb => (unhide HQ).below hb)
          have HB7 : Hid (∀ wq, Below w6.heap.size w6 wq → Calls Tryz.prog 12 #[.pointer (some ⟨x, 0, none⟩)] wq fun e w' => ∃ a c', e = .returned (.slice a (32 * m) c') ∧ Bs w' a c' Q2.K ∧ (convert 33 9 (.slice a (32 * m) c')).run Tryz.prog w' = .ok (.string (strOf Q2.K)) w' ∧ Below wq.heap.size wq w') := hide (fun wq hb => by
           have h9 := ((unhide HQ).below hb).bytes
           rw [qL] at h9
           exact conv_bytesK hkl h9)
          have HCV : Hid (∀ (wq : World) (a : Option Addr) (c' : Nat), Bs wq a c' Q2.K → (convert 33 9 (.slice a (32 * m) c')).run Tryz.prog wq = .ok (.string (strOf Q2.K)) wq) := hide (fun wq a c' hb => by
           have hcv := conv_str (P := Tryz.prog) Tryz.underlying33 Tryz.underlying5 Tryz.underlying9 hb
           rw [hkl] at hcv
           exact hcv)
          have HKB := hide hkb
          rw [errV_zero]
          clear q7 q8 qL hkb hkl hll HSK HMO HMD HN5 HQ h6
          generalize strOf Q2.K = SK at *
          generalize hkk : Q2.K = KK at *
          clear hkk
          generalize 32 * m = LN at *
          go_wp2_with fail
          refine wp_region_held_drew (S := fun wq => Below w6.heap.size w6 wq ∧ (Bs wq ak ck KK ∧ (convert 33 9 (.slice ak LN ck)).run Tryz.prog wq = .ok (.string SK) wq)) (by kernel_rfl) ⟨below_drew (Below.refl _ _), (unhide HKB).below (below_drew (Below.refl _ _)), unhide HCV _ _ _ ((unhide HKB).below (below_drew (Below.refl _ _)))⟩ (fun hHeld => ?_)
          refine wpAnyH_take (i := 0) (oi := { dst := some 153, op := Op.move (Operand.tmp 19), type := 25, pos := "law.go:62", after := #[], guard := none }) (v := .nilIface) rfl (by kernel_rfl) (by kernel_rfl) (by kernel_rfl) (fun _ _ _ h => h) (Or.inl ⟨by rfl, fun wq hSw => by (try dsimp only at hSw); go_simp⟩) (by assumption) ?_
          try simp only [Act.put, List.setIfInBounds_toArray, List.set_cons_zero, List.set_cons_succ]
          refine wpAnyH_take (i := 1) (oi := { dst := some 154, op := Op.binOp BinOp.neq 25 (Operand.tmp 153) (Operand.const Value.nilIface) 25, type := 4, pos := "law.go:62", after := #[{ on := 0, ground := Ground.data }], guard := none }) (v := .bool false) rfl (by kernel_rfl) (by kernel_rfl) (by kernel_rfl) (fun _ _ _ h => h) (Or.inl ⟨by rfl, fun wq hSw => by (try dsimp only at hSw); go_simp⟩) (by assumption) ?_
          try simp only [Act.put, List.setIfInBounds_toArray, List.set_cons_zero, List.set_cons_succ]
          refine wpAnyH_take (i := 2) (oi := { dst := some 155, op := Op.move (Operand.tmp 154), type := 4, pos := "law.go:62", after := #[{ on := 1, ground := Ground.data }], guard := none }) (v := .bool false) rfl (by kernel_rfl) (by kernel_rfl) (by kernel_rfl) (fun _ _ _ h => h) (Or.inl ⟨by rfl, fun wq hSw => by (try dsimp only at hSw); go_simp⟩) (by assumption) ?_
          try simp only [Act.put, List.setIfInBounds_toArray, List.set_cons_zero, List.set_cons_succ]
          refine wpAnyH_take (i := 3) (oi := { dst := some 156, op := Op.move (Operand.tmp 7), type := 39, pos := "law.go:62", after := #[{ on := 2, ground := Ground.guard }], guard := some (2, false) }) (v := .pointer (some ⟨t, 0, none⟩)) rfl (by kernel_rfl) (by kernel_rfl) (by kernel_rfl) (fun _ _ _ h => h) (Or.inl ⟨by rfl, fun wq hSw => by (try dsimp only at hSw); go_simp⟩) (by assumption) ?_
          try simp only [Act.put, List.setIfInBounds_toArray, List.set_cons_zero, List.set_cons_succ]
          refine wpAnyH_take (i := 7) (oi := { dst := some 160, op := Op.move (Operand.tmp 15), type := 33, pos := "law.go:62", after := #[{ on := 2, ground := Ground.guard }], guard := some (2, false) }) (v := .slice ak LN ck) rfl (by kernel_rfl) (by kernel_rfl) (by kernel_rfl) (fun _ _ _ h => h) (Or.inl ⟨by rfl, fun wq hSw => by (try dsimp only at hSw); go_simp⟩) (by assumption) ?_
          try simp only [Act.put, List.setIfInBounds_toArray, List.set_cons_zero, List.set_cons_succ]
          refine wpAnyH_take (i := 8) (oi := { dst := some 161, op := Op.convert 33 9 (Operand.tmp 160), type := 9, pos := "law.go:62", after := #[{ on := 7, ground := Ground.data }, { on := 2, ground := Ground.guard }], guard := some (2, false) }) (v := .string SK) rfl (by kernel_rfl) (by kernel_rfl) (by kernel_rfl) (fun _ _ _ h => h) (Or.inl ⟨by rfl, fun wq hSw => by (try dsimp only at hSw); go_simp⟩) (by assumption) ?_
          try simp only [Act.put, List.setIfInBounds_toArray, List.set_cons_zero, List.set_cons_succ]
          refine wpAnyH_ready (rs := [4]) (by kernel_rfl) (by simp) ?_
          refine AllReadyH.cons (o := { dst := some 157, op := Op.call { callee := Callee.value (Operand.func 11), args := #[Operand.tmp 156], argTypes := #[39] }, type := 42, pos := "law.go:62", after := #[{ on := 3, ground := Ground.data }, { on := 2, ground := Ground.chain }, { on := 2, ground := Ground.guard }], guard := some (2, false) }) rfl (fun K hK => ?_) AllReadyH.nil
          go_simp
          refine (unhide HP7 _ hHeld.1).heap.mono ?_
          rintro e w8 ⟨rfl, hw8⟩
          subst hw8
          refine hK.out _ _ hHeld (fun hHeld1 => ?_)
          clear hK K hHeld
          try simp only [Act.put, List.setIfInBounds_toArray, List.set_cons_zero, List.set_cons_succ]
          refine wpAnyH_ready (rs := [5]) (by kernel_rfl) (by simp) ?_
          refine AllReadyH.cons (o := { dst := some 158, op := Op.call { callee := Callee.value (Operand.func 12), args := #[Operand.tmp 157], argTypes := #[42] }, type := 33, pos := "law.go:62", after := #[{ on := 4, ground := Ground.data }, { on := 4, ground := Ground.chain }, { on := 2, ground := Ground.guard }], guard := some (2, false) }) rfl (fun K hK => ?_) AllReadyH.nil
          go_simp
          refine (unhide HB7 _ hHeld1.1).mono ?_
          rintro e w8 ⟨a8, c8, rfl, hbs8, hcv8, hb8⟩
          have hk8 : Below w6.heap.size w6 w8 := hHeld1.1.trans (hb8.mono hHeld1.1.size)
          have hn8 := And.intro hk8 (And.intro (hHeld1.2.1.below hb8) (unhide HCV _ _ _ (hHeld1.2.1.below hb8)))
          refine hK.out _ _ hn8 (fun _ => wpAnyH_turn (S2 := fun wq => (Below w6.heap.size w6 wq ∧ (Bs wq ak ck KK ∧ (convert 33 9 (.slice ak LN ck)).run Tryz.prog wq = .ok (.string SK) wq)) ∧ (convert 33 9 (.slice a8 LN c8)).run Tryz.prog wq = .ok (.string SK) wq) (fun _ h => h.1) _ _ _ _ ?_)
          have hHeld2 := And.intro hn8 hcv8
          clear hK K hHeld1 hbs8 hcv8 hb8 hn8
          try simp only [Act.put, List.setIfInBounds_toArray, List.set_cons_zero, List.set_cons_succ]
          refine wpAnyH_take (i := 6) (oi := { dst := some 159, op := Op.convert 33 9 (Operand.tmp 158), type := 9, pos := "law.go:62", after := #[{ on := 5, ground := Ground.data }, { on := 2, ground := Ground.guard }], guard := some (2, false) }) (v := .string SK) rfl (by kernel_rfl) (by kernel_rfl) (by kernel_rfl) (fun _ _ _ h => h) (Or.inl ⟨by rfl, fun wq hSw => by (try dsimp only at hSw); go_simp⟩) (by assumption) ?_
          try simp only [Act.put, List.setIfInBounds_toArray, List.set_cons_zero, List.set_cons_succ]
          refine wpAnyH_take (i := 9) (oi := { dst := some 162, op := Op.binOp BinOp.neq 9 (Operand.tmp 159) (Operand.tmp 161) 9, type := 4, pos := "law.go:62", after := #[{ on := 6, ground := Ground.data }, { on := 8, ground := Ground.data }, { on := 2, ground := Ground.guard }], guard := some (2, false) }) (v := .bool false) rfl (by kernel_rfl) (by kernel_rfl) (by kernel_rfl) (fun _ _ _ h => h) (Or.inl ⟨by rfl, fun wq hSw => by (try dsimp only at hSw); go_simp⟩) (by assumption) ?_
          try simp only [Act.put, List.setIfInBounds_toArray, List.set_cons_zero, List.set_cons_succ]
          refine wpAnyH_take (i := 10) (oi := { dst := some 163, op := Op.pick (Operand.tmp 155) (Operand.const (Value.bool true)) (Operand.tmp 162), type := 4, pos := "law.go:62", after := #[{ on := 2, ground := Ground.data }, { on := 9, ground := Ground.data }], guard := none }) (v := .bool false) rfl (by kernel_rfl) (by kernel_rfl) (by kernel_rfl) (fun _ _ _ h => h) (Or.inl ⟨by rfl, fun wq hSw => by (try dsimp only at hSw); go_simp⟩) (by assumption) ?_
          try simp only [Act.put, List.setIfInBounds_toArray, List.set_cons_zero, List.set_cons_succ]
          refine wpAnyH_done (by kernel_rfl) ?_ _
          have HQ8 := hide (unhide HP7 w8 hHeld2.1.1)
          clear hHeld2 hk8 HP7 HB7 HCV HKB
          go_wp2
          go_meet
          case rel => exact ⟨_, rfl, by rw [unhide HST], unhide HQ8⟩
         ·have h7b : (x0 == 7) = false := by simpa using h7
          clear q7 q8 HSK HMO HMD HN5 h6 h7
          generalize errV E = ev at *
          go_wp2
          go_meet
          case rel => exact ⟨_, rfl, by rw [unhide HST], unhide HQ⟩
       case rest =>
        obtain ⟨kv7, rfl, rfl, hpt7⟩ := hcut
        have HS7 := hide hpt7.stamp
        have HH7 := hide hpt7.heap
        have HBY7 := hide hpt7.bytes
        have HFI := hide (fun (W : World) (a : Option Addr) (c : Nat) (hb : Bs W a c Q2.L) => rFine_any a c Q2.L W hb)
        rw [fineE_zero (unhide HUP).1.fl, (unhide HUP).1.ll] at HFI
        have HP7 := hide hpt7
        clear hpt7 HMD HSK HMO HN5 HB6 o0
        generalize h32 : 32 * m = LN at *
        have HLN := hide h32
        clear h32
        go_wp2_with fail
        refine (unhide HS7).mono ?_
        rintro e w8 ⟨rfl, rfl⟩
        go_wp2_with fail
        refine (unhide HH7).mono ?_
        rintro e w8 ⟨rfl, rfl⟩
        go_wp2_with fail
        refine (unhide HBY7).mono ?_
        rintro e w8 ⟨a8, c8, rfl, hbs8, hb8⟩
        have HFI8 := hide (unhide HFI w8 a8 c8 hbs8)
        have HB8 := hide hb8
        clear hbs8 hb8 HS7 HH7 HBY7 HFI
        go_wp2_with fail
        refine (unhide HFI8).mono ?_
        rintro e w9 ⟨rfl, hb9⟩
        have HQ9 := hide ((unhide HP7).below ((unhide HB8).trans (hb9.mono (unhide HB8).size)))
        clear hb9 HFI8 HB8 HP7
        go_wp2
        go_roundw
        case rel => exact ⟨k + 1, Q2, _, rfl, by omega, by go_num, rfl, unhide HQ9, (unhide HUP).1, (unhide HUP).2, s3, s4⟩
        case measure => simp [intOf]; omega
     ·have HQ := hide (And.intro hpt (And.intro hu (And.intro hl (And.intro hs1 hs2))))
      clear hpt hu hl
      by_cases hlt : k < ops.length
      ·have f1 : (k : Int) < (ops.length : Int) := by omega
       have f2 : ¬ (k : Int) < 40 := by omega
       go_wp2
       go_meet
       case rel => exact ⟨Q, _, rfl, rfl, (unhide HQ).1, (unhide HQ).2.1, (unhide HQ).2.2.1, (unhide HQ).2.2.2.1, by have := (unhide HQ).2.2.2.2; omega⟩
      ·have f1 : ¬ (k : Int) < (ops.length : Int) := by omega
       go_wp2
       go_meet
       case rel => exact ⟨Q, _, rfl, rfl, (unhide HQ).1, (unhide HQ).2.1, (unhide HQ).2.2.1, (unhide HQ).2.2.2.1, by have := (unhide HQ).2.2.2.2; omega⟩
   case rest =>
    obtain ⟨Q, kv, rfl, rfl, hpt, hu, hl, hs1, hs2⟩ := hcut
    obtain ⟨ak, ck, hkv, hkb, hkl, hll⟩ := hpt.kept
    subst hkv
    obtain ⟨i0, hi0, hz0, hz1, hz2⟩ := info_parts info_inK
    have HH := hide hpt.heap
    have HBY := hide hpt.bytes
    have HPT := hide hpt
    have HU := hide (And.intro hu hl)
    have HKB := hide hkb
    have HBYT := hide (And.intro hu.bk hu.bl)
    clear hpt hu hl hkb
    go_wp2_with fail
    refine (unhide HH).mono ?_
    rintro e w9 ⟨rfl, rfl⟩
    go_wp2_with fail
    refine (unhide HBY).mono ?_
    rintro e w9 ⟨a9, c9, rfl, hbs9, hb9⟩
    have HB9 := hide hbs9
    have HKB := hide ((unhide HKB).below hb9)
    have HPT := hide ((unhide HPT).below hb9)
    clear hbs9 hb9 HH HBY
    have hmN : (m : Int) ≤ 200 := by omega
    have hm9' : (9 : Int) ≤ (m : Int) := by omega
    generalize hLL : Q.L = LL at *
    generalize hKK : Q.K = KK at *
    have HLK := hide (And.intro hLL hKK)
    clear hLL hKK
    go_wp2_with fail
    go_loopw [20, 22] (fun l0 iv wr => ∃ (i : Nat) (v : Value), v = l0 ∧ i ≤ m ∧ iv = .int .i64 i ∧ Lst inC 1 3 wr w9.heap.size v ((drtN KK LL i).map (fun i : Nat => (i : Int))) ∧ Below w9.heap.size w9 wr) (fun _ iv _ => m - (intOf iv).toNat)
    case atStart => exact ⟨0, _, rfl, Nat.zero_le _, rfl, Lst.nil _ _, Below.refl _ _⟩
    case round =>
     obtain ⟨i, v, rfl, him, rfl, hlst, hbel⟩ := hrel
     by_cases hlt : i < m
     ·have t1 : 32 * (i : Int) < ((32 * m : Nat) : Int) := by omega
      have t0 : (0 : Int) ≤ (i : Int) := by omega
      have t2 : (i : Int) < 200 := by omega
      obtain ⟨an, pn, sn⟩ := slice_lohi (P := Tryz.prog) (t := 33) Tryz.underlying33 size_u8 ((unhide HB9).below hbel) (32 * i) (32 * i + 32) (by omega) (by rw [hll]; omega)
      obtain ⟨am, pk, sk⟩ := slice_lohi (P := Tryz.prog) (t := 33) Tryz.underlying33 size_u8 ((unhide HKB).below hbel) (32 * i) (32 * i + 32) (by omega) (by rw [hkl]; omega)
      rw [prt_cut] at sn sk
      have ec1 : ((32 * i : Nat) : Int) = 32 * (i : Int) := by omega
      have ec2 : ((32 * i + 32 : Nat) : Int) = 32 * (i : Int) + 32 := by omega
      have e32 : 32 * i + 32 - 32 * i = 32 := by omega
      rw [hll, e32, ec1, ec2] at pn
      rw [hkl, e32, ec1, ec2] at pk
      have hw1 : IntKind.i64.wrap (32 * (i : Int)) = 32 * (i : Int) := by simp only [IntKind.wrap_i64]; omega
      have hw2 : IntKind.i64.wrap (32 * (i : Int) + 32) = 32 * (i : Int) + 32 := by simp only [IntKind.wrap_i64]; omega
      have cvn := fun q => conv_str (P := Tryz.prog) (t := 33) (e := 9) Tryz.underlying33 Tryz.underlying5 Tryz.underlying9 (sn.drewN q)
      have cvk := fun q => conv_str (P := Tryz.prog) (t := 33) (e := 9) Tryz.underlying33 Tryz.underlying5 Tryz.underlying9 (sk.drewN q)
      rw [prt_len hll hlt] at cvn
      rw [prt_len hkl hlt] at cvk
      have hdr := drtN_succ KK LL i
      have hiff := strOf_iff sn.1 sk.1
      by_cases heq : prt KK i = prt LL i
      ·rw [if_pos heq, List.append_nil] at hdr
       rw [heq] at cvk
       have HDR := hide hdr
       have HLS := hide hlst
       have HBL := hide hbel
       clear hdr hlst hbel sn sk hiff heq
       generalize strOf (prt LL i) = SN at *
       go_wp2_with fail
       go_quiet (fail)
       have hbn : Below wr.heap.size wr (wr.drewN nq) := below_drewN (Below.refl _ _) nq
       have HLS2 := hide ((unhide HLS).below hbn)
       have HBL2 := hide ((unhide HBL).trans (hbn.mono (unhide HBL).size))
       clear hbn HLS HBL
       go_wp2
       go_roundw
       case rel => exact ⟨i + 1, _, rfl, by omega, by go_num, by rw [unhide HDR]; exact unhide HLS2, unhide HBL2⟩
       case measure => simp [intOf]; omega
      ·rw [if_neg heq] at hdr
       have hmap : (drtN KK LL (i + 1)).map (fun i : Nat => (i : Int)) = (drtN KK LL i).map (fun i : Nat => (i : Int)) ++ [(i : Int)] := by rw [hdr, List.map_append]; rfl
       have hne : ((strOf (prt LL i)).toList == (strOf (prt KK i)).toList) = false := toL_no (fun h => heq (hiff.1 h).symm)
       have hdl : ((drtN KK LL i).map (fun i : Nat => (i : Int))).length ≤ 1000 := by
        rw [List.length_map]
        have := drt_leK KK LL i
        omega
       have HMAP := hide hmap
       have HDL := hide hdl
       have HLS := hide hlst
       have HBL := hide hbel
       clear hdr hmap hdl hlst hbel sn sk hiff heq
       generalize strOf (prt LL i) = SN at *
       generalize strOf (prt KK i) = SP at *
       generalize (drtN KK LL i).map (fun i : Nat => (i : Int)) = DL at *
       go_wp2_with fail
       go_quiet (fail)
       have hbn : Below wr.heap.size wr (wr.drewN nq) := below_drewN (Below.refl _ _) nq
       have HLS2 := hide ((unhide HLS).below hbn)
       have HBL2 := hide ((unhide HBL).trans (hbn.mono (unhide HBL).size))
       clear hbn HLS HBL cvn cvk pn pk hne
       generalize wr.drewN nq = wn at *
       have hbs := (unhide HBL2).size
       have hba := (Below.refl wn.heap.size wn).alloc (Nat.le_refl _) (.cells (inC (i : Int)).toArray 3)
       have HO2 := hide ((unhide HLS2).below hba)
       have HGN : Hid ((wn.alloc (.cells (inC (i : Int)).toArray 3)).heap[wn.heap.size]? = some (.cells (inC (i : Int)).toArray 3 (0, 0))) := hide (heap_alloc_new wn _)
       have HBA := hide ((unhide HBL2).trans (hba.mono (unhide HBL2).size))
       clear hba HLS2 HBL2
       go_wp2_with (at_builtin; refine wpList_append_lst rfl _ _ 55 rfl w9.heap.size i0 (.int .i64 0) 8 Tryz.underlying55 hi0 hz0 hz1 hz2 rfl (by decide) (by decide) _ _ rfl (unhide HO2) wn.heap.size (i : Int) rfl (unhide HGN) rfl (inK_one _) (unhide HDL) (by simp; omega) ?_)
       intro v10 w10 hl10 hb10
       rw [← unhide HMAP] at hl10
       have HL10 := hide hl10
       have HB10 := hide ((unhide HBA).trans hb10)
       clear hl10 hb10 HO2 HGN HBA HMAP HDL
       go_wp2
       go_roundw
       case rel => exact ⟨i + 1, _, rfl, by omega, by go_num, unhide HL10, unhide HB10⟩
       case measure => simp [intOf]; omega
     ·obtain rfl : i = m := by omega
      have hpt := (unhide HPT).below hbel
      have hdi := hpt.dirty
      rw [(unhide HLK).1, (unhide HLK).2] at hdi
      have hdl : ((drtN KK LL i).map (fun i : Nat => (i : Int))).length ≤ 8796093021952 := by
       rw [List.length_map]
       have := drt_leK KK LL i
       omega
      obtain ⟨al, cl, rfl, hsl⟩ := hlst.sls inC_len hdl
      have hll2 : ((drtN KK LL i).map (fun i : Nat => (i : Int))).length = (drtN KK LL i).length := List.length_map ..
      have t1 : ¬ 32 * (i : Int) < ((32 * i : Nat) : Int) := by omega
      have t0 : (0 : Int) ≤ (i : Int) := by omega
      have HSL := hide hsl
      have HDI := hide hdi
      have HPT2 := hide hpt
      have HKB2 := hide ((unhide HKB).below hbel)
      rw [hll2]
      have HLEN := hide hll2
      clear hpt hdi hsl hdl hll2 hlst hbel HPT HKB HB9
      generalize (drtN KK LL i).map (fun i : Nat => (i : Int)) = DL at *
      generalize (drtN KK LL i).length = dl at *
      go_wp2_with fail
      refine (unhide HDI).mono ?_
      rintro e w11 ⟨a11, c11, rfl, hs11, hb11⟩
      have hin := insame_any a11 al c11 cl DL w11 hs11 ((unhide HSL).below hb11)
      rw [unhide HLEN] at hin
      have HIN := hide hin
      have HPT3 := hide ((unhide HPT2).below hb11)
      have HKB3 := hide ((unhide HKB2).below hb11)
      clear hs11 hb11 hin HDI HSL HPT2 HKB2 HLEN
      go_wp2_with fail
      refine (unhide HIN).mono ?_
      rintro e w12 ⟨rfl, hb12⟩
      have HOP := hide (((unhide HPT3).below hb12).open (n := N) (unhide HU).1 (unhide HU).2)
      clear hb12 HIN HKB3 HPT3
      go_wp2_with fail
      refine (unhide HOP).mono ?_
      rintro e w13 ⟨t2, x2, D13, F13, rfl, hpt13, hto13⟩
      obtain ⟨ak', ck', hke, hkb13, _, _⟩ := hpt13.kept
      simp only [Value.slice.injEq, true_and] at hke
      obtain ⟨rfl, rfl⟩ := hke
      have hkb13' : Bs w13 ak ck KK := by rw [← (unhide HLK).2]; exact hkb13
      have hto13' : Tf w w13 t2 p x2 i ⟨D13, Q.s, KK, KK⟩ F13 := by rw [← (unhide HLK).2]; exact hto13
      have HTO : Hid (∀ wq, Below w13.heap.size w13 wq → Tf w wq t2 p x2 i ⟨D13, Q.s, KK, KK⟩ F13) := hide (fun wq hb => hto13'.below hb)
      have HBO : Hid (∀ wq, Below w13.heap.size w13 wq → Calls Tryz.prog 12 #[.pointer (some ⟨x2, 0, none⟩)] wq fun e w' => ∃ a c', e = .returned (.slice a (32 * i) c') ∧ Bs w' a c' KK ∧ (convert 33 9 (.slice a (32 * i) c')).run Tryz.prog w' = .ok (.string (strOf KK)) w' ∧ Below wq.heap.size wq w') := hide (fun wq hb => conv_bytesK hkl (hto13'.below hb).bytesK)
      have HCV : Hid (∀ (wq : World) (a : Option Addr) (c' : Nat), Bs wq a c' KK → (convert 33 9 (.slice a (32 * i) c')).run Tryz.prog wq = .ok (.string (strOf KK)) wq) := hide (fun wq a c' hb => by
       have hcv := conv_str (P := Tryz.prog) Tryz.underlying33 Tryz.underlying5 Tryz.underlying9 hb
       rw [hkl] at hcv
       exact hcv)
      have HKB := hide hkb13'
      have HBW := hide hpt13.base
      clear hpt13 hto13 hto13' hkb13 hkb13' HOP HLK HU HBYT
      generalize strOf KK = SK at *
      generalize Q.s = sF at *
      generalize 32 * i = LN at *
      go_wp2_with fail
      refine wp_region_held_drew (S := fun wq => Below w13.heap.size w13 wq ∧ (Bs wq ak ck KK ∧ (convert 33 9 (.slice ak LN ck)).run Tryz.prog wq = .ok (.string SK) wq)) (by kernel_rfl) ⟨below_drew (Below.refl _ _), (unhide HKB).below (below_drew (Below.refl _ _)), unhide HCV _ _ _ ((unhide HKB).below (below_drew (Below.refl _ _)))⟩ (fun hHeld => ?_)
      refine wpAnyH_take (i := 0) (oi := { dst := some 215, op := Op.move (Operand.tmp 25), type := 25, pos := "law.go:79", after := #[], guard := none }) (v := .nilIface) rfl (by kernel_rfl) (by kernel_rfl) (by kernel_rfl) (fun _ _ _ h => h) (Or.inl ⟨by rfl, fun wq hSw => by (try dsimp only at hSw); go_simp⟩) (by assumption) ?_
      try simp only [Act.put, List.setIfInBounds_toArray, List.set_cons_zero, List.set_cons_succ]
      refine wpAnyH_take (i := 1) (oi := { dst := some 216, op := Op.binOp BinOp.eql 25 (Operand.tmp 215) (Operand.const Value.nilIface) 25, type := 4, pos := "law.go:79", after := #[{ on := 0, ground := Ground.data }], guard := none }) (v := .bool true) rfl (by kernel_rfl) (by kernel_rfl) (by kernel_rfl) (fun _ _ _ h => h) (Or.inl ⟨by rfl, fun wq hSw => by (try dsimp only at hSw); go_simp⟩) (by assumption) ?_
      try simp only [Act.put, List.setIfInBounds_toArray, List.set_cons_zero, List.set_cons_succ]
      refine wpAnyH_take (i := 2) (oi := { dst := some 217, op := Op.move (Operand.tmp 216), type := 4, pos := "law.go:79", after := #[{ on := 1, ground := Ground.data }], guard := none }) (v := .bool true) rfl (by kernel_rfl) (by kernel_rfl) (by kernel_rfl) (fun _ _ _ h => h) (Or.inl ⟨by rfl, fun wq hSw => by (try dsimp only at hSw); go_simp⟩) (by assumption) ?_
      try simp only [Act.put, List.setIfInBounds_toArray, List.set_cons_zero, List.set_cons_succ]
      refine wpAnyH_take (i := 3) (oi := { dst := some 218, op := Op.move (Operand.tmp 23), type := 4, pos := "law.go:79", after := #[{ on := 2, ground := Ground.guard }], guard := some (2, true) }) (v := .bool true) rfl (by kernel_rfl) (by kernel_rfl) (by kernel_rfl) (fun _ _ _ h => h) (Or.inl ⟨by rfl, fun wq hSw => by (try dsimp only at hSw); go_simp⟩) (by assumption) ?_
      try simp only [Act.put, List.setIfInBounds_toArray, List.set_cons_zero, List.set_cons_succ]
      refine wpAnyH_take (i := 4) (oi := { dst := some 219, op := Op.pick (Operand.tmp 217) (Operand.tmp 218) (Operand.const (Value.bool false)), type := 4, pos := "law.go:79", after := #[{ on := 2, ground := Ground.data }, { on := 3, ground := Ground.data }], guard := none }) (v := .bool true) rfl (by kernel_rfl) (by kernel_rfl) (by kernel_rfl) (fun _ _ _ h => h) (Or.inl ⟨by rfl, fun wq hSw => by (try dsimp only at hSw); go_simp⟩) (by assumption) ?_
      try simp only [Act.put, List.setIfInBounds_toArray, List.set_cons_zero, List.set_cons_succ]
      refine wpAnyH_take (i := 5) (oi := { dst := some 220, op := Op.move (Operand.tmp 219), type := 4, pos := "law.go:79", after := #[{ on := 4, ground := Ground.data }, { on := 2, ground := Ground.chain }], guard := none }) (v := .bool true) rfl (by kernel_rfl) (by kernel_rfl) (by kernel_rfl) (fun _ _ _ h => h) (Or.inl ⟨by rfl, fun wq hSw => by (try dsimp only at hSw); go_simp⟩) (by assumption) ?_
      try simp only [Act.put, List.setIfInBounds_toArray, List.set_cons_zero, List.set_cons_succ]
      refine wpAnyH_take (i := 6) (oi := { dst := some 221, op := Op.move (Operand.tmp 24), type := 39, pos := "law.go:79", after := #[{ on := 5, ground := Ground.guard }], guard := some (5, true) }) (v := .pointer (some ⟨t2, 0, none⟩)) rfl (by kernel_rfl) (by kernel_rfl) (by kernel_rfl) (fun _ _ _ h => h) (Or.inl ⟨by rfl, fun wq hSw => by (try dsimp only at hSw); go_simp⟩) (by assumption) ?_
      try simp only [Act.put, List.setIfInBounds_toArray, List.set_cons_zero, List.set_cons_succ]
      refine wpAnyH_take (i := 10) (oi := { dst := some 225, op := Op.move (Operand.tmp 15), type := 33, pos := "law.go:79", after := #[{ on := 5, ground := Ground.guard }], guard := some (5, true) }) (v := .slice ak LN ck) rfl (by kernel_rfl) (by kernel_rfl) (by kernel_rfl) (fun _ _ _ h => h) (Or.inl ⟨by rfl, fun wq hSw => by (try dsimp only at hSw); go_simp⟩) (by assumption) ?_
      try simp only [Act.put, List.setIfInBounds_toArray, List.set_cons_zero, List.set_cons_succ]
      refine wpAnyH_take (i := 11) (oi := { dst := some 226, op := Op.convert 33 9 (Operand.tmp 225), type := 9, pos := "law.go:79", after := #[{ on := 10, ground := Ground.data }, { on := 5, ground := Ground.guard }], guard := some (5, true) }) (v := .string SK) rfl (by kernel_rfl) (by kernel_rfl) (by kernel_rfl) (fun _ _ _ h => h) (Or.inl ⟨by rfl, fun wq hSw => by (try dsimp only at hSw); go_simp⟩) (by assumption) ?_
      try simp only [Act.put, List.setIfInBounds_toArray, List.set_cons_zero, List.set_cons_succ]
      refine wpAnyH_ready (rs := [7]) (by kernel_rfl) (by simp) ?_
      refine AllReadyH.cons (o := { dst := some 222, op := Op.call { callee := Callee.value (Operand.func 11), args := #[Operand.tmp 221], argTypes := #[39] }, type := 42, pos := "law.go:79", after := #[{ on := 6, ground := Ground.data }, { on := 5, ground := Ground.chain }, { on := 5, ground := Ground.guard }], guard := some (5, true) }) rfl (fun K hK => ?_) AllReadyH.nil
      go_simp
      refine (unhide HTO _ hHeld.1).heap.mono ?_
      rintro e w14 ⟨rfl, hw14⟩
      subst hw14
      refine hK.out _ _ hHeld (fun hHeld1 => ?_)
      clear hK K hHeld
      try simp only [Act.put, List.setIfInBounds_toArray, List.set_cons_zero, List.set_cons_succ]
      refine wpAnyH_ready (rs := [8]) (by kernel_rfl) (by simp) ?_
      refine AllReadyH.cons (o := { dst := some 223, op := Op.call { callee := Callee.value (Operand.func 12), args := #[Operand.tmp 222], argTypes := #[42] }, type := 33, pos := "law.go:79", after := #[{ on := 7, ground := Ground.data }, { on := 7, ground := Ground.chain }, { on := 5, ground := Ground.guard }], guard := some (5, true) }) rfl (fun K hK => ?_) AllReadyH.nil
      go_simp
      refine (unhide HBO _ hHeld1.1).mono ?_
      rintro e w14 ⟨a14, c14, rfl, hbs14, hcv14, hb14⟩
      have hk14 : Below w13.heap.size w13 w14 := hHeld1.1.trans (hb14.mono hHeld1.1.size)
      have hn14 := And.intro hk14 (And.intro (hHeld1.2.1.below hb14) (unhide HCV _ _ _ (hHeld1.2.1.below hb14)))
      refine hK.out _ _ hn14 (fun _ => wpAnyH_turn (S2 := fun wq => (Below w13.heap.size w13 wq ∧ (Bs wq ak ck KK ∧ (convert 33 9 (.slice ak LN ck)).run Tryz.prog wq = .ok (.string SK) wq)) ∧ (Bs wq a14 c14 KK ∧ (convert 33 9 (.slice a14 LN c14)).run Tryz.prog wq = .ok (.string SK) wq)) (fun _ h => h.1) _ _ _ _ ?_)
      have hHeld2 := And.intro hn14 (And.intro hbs14 hcv14)
      clear hK K hHeld1 hbs14 hcv14 hb14 hn14
      try simp only [Act.put, List.setIfInBounds_toArray, List.set_cons_zero, List.set_cons_succ]
      refine wpAnyH_take (i := 9) (oi := { dst := some 224, op := Op.convert 33 9 (Operand.tmp 223), type := 9, pos := "law.go:79", after := #[{ on := 8, ground := Ground.data }, { on := 5, ground := Ground.guard }], guard := some (5, true) }) (v := .string SK) rfl (by kernel_rfl) (by kernel_rfl) (by kernel_rfl) (fun _ _ _ h => h) (Or.inl ⟨by rfl, fun wq hSw => by (try dsimp only at hSw); go_simp⟩) (by assumption) ?_
      try simp only [Act.put, List.setIfInBounds_toArray, List.set_cons_zero, List.set_cons_succ]
      refine wpAnyH_take (i := 12) (oi := { dst := some 227, op := Op.binOp BinOp.eql 9 (Operand.tmp 224) (Operand.tmp 226) 9, type := 4, pos := "law.go:79", after := #[{ on := 9, ground := Ground.data }, { on := 11, ground := Ground.data }, { on := 5, ground := Ground.guard }], guard := some (5, true) }) (v := .bool true) rfl (by kernel_rfl) (by kernel_rfl) (by kernel_rfl) (fun _ _ _ h => h) (Or.inl ⟨by rfl, fun wq hSw => by (try dsimp only at hSw); go_simp⟩) (by assumption) ?_
      try simp only [Act.put, List.setIfInBounds_toArray, List.set_cons_zero, List.set_cons_succ]
      refine wpAnyH_take (i := 13) (oi := { dst := some 228, op := Op.pick (Operand.tmp 220) (Operand.tmp 227) (Operand.const (Value.bool false)), type := 4, pos := "law.go:79", after := #[{ on := 5, ground := Ground.data }, { on := 12, ground := Ground.data }], guard := none }) (v := .bool true) rfl (by kernel_rfl) (by kernel_rfl) (by kernel_rfl) (fun _ _ _ h => h) (Or.inl ⟨by rfl, fun wq hSw => by (try dsimp only at hSw); go_simp⟩) (by assumption) ?_
      try simp only [Act.put, List.setIfInBounds_toArray, List.set_cons_zero, List.set_cons_succ]
      refine wpAnyH_take (i := 14) (oi := { dst := some 229, op := Op.move (Operand.tmp 228), type := 4, pos := "law.go:79", after := #[{ on := 13, ground := Ground.data }, { on := 8, ground := Ground.chain }], guard := none }) (v := .bool true) rfl (by kernel_rfl) (by kernel_rfl) (by kernel_rfl) (fun _ _ _ h => h) (Or.inl ⟨by rfl, fun wq hSw => by (try dsimp only at hSw); go_simp⟩) (by assumption) ?_
      try simp only [Act.put, List.setIfInBounds_toArray, List.set_cons_zero, List.set_cons_succ]
      refine wpAnyH_take (i := 15) (oi := { dst := some 230, op := Op.move (Operand.tmp 24), type := 39, pos := "law.go:79", after := #[{ on := 14, ground := Ground.guard }], guard := some (14, true) }) (v := .pointer (some ⟨t2, 0, none⟩)) rfl (by kernel_rfl) (by kernel_rfl) (by kernel_rfl) (fun _ _ _ h => h) (Or.inl ⟨by rfl, fun wq hSw => by (try dsimp only at hSw); go_simp⟩) (by assumption) ?_
      try simp only [Act.put, List.setIfInBounds_toArray, List.set_cons_zero, List.set_cons_succ]
      refine wpAnyH_take (i := 17) (oi := { dst := some 232, op := Op.move (Operand.tmp 16), type := 3, pos := "law.go:79", after := #[{ on := 14, ground := Ground.guard }], guard := some (14, true) }) (v := .int .i64 sF) rfl (by kernel_rfl) (by kernel_rfl) (by kernel_rfl) (fun _ _ _ h => h) (Or.inl ⟨by rfl, fun wq hSw => by (try dsimp only at hSw); go_simp⟩) (by assumption) ?_
      try simp only [Act.put, List.setIfInBounds_toArray, List.set_cons_zero, List.set_cons_succ]
      refine wpAnyH_ready (rs := [16]) (by kernel_rfl) (by simp) ?_
      refine AllReadyH.cons (o := { dst := some 231, op := Op.call { callee := Callee.value (Operand.func 22), args := #[Operand.tmp 230], argTypes := #[39] }, type := 3, pos := "law.go:79", after := #[{ on := 15, ground := Ground.data }, { on := 14, ground := Ground.chain }, { on := 14, ground := Ground.guard }], guard := some (14, true) }) rfl (fun K hK => ?_) AllReadyH.nil
      go_simp
      refine (unhide HTO _ hHeld2.1.1).stamp.mono ?_
      rintro e w15 ⟨rfl, hw15⟩
      subst hw15
      refine hK.out _ _ hHeld2 (fun hHeld3 => ?_)
      clear hK K hHeld2
      refine wpAnyH_take (i := 18) (oi := { dst := some 233, op := Op.binOp BinOp.eql 3 (Operand.tmp 231) (Operand.tmp 232) 3, type := 4, pos := "law.go:79", after := #[{ on := 16, ground := Ground.data }, { on := 17, ground := Ground.data }, { on := 14, ground := Ground.guard }], guard := some (14, true) }) (v := .bool true) rfl (by kernel_rfl) (by kernel_rfl) (by kernel_rfl) (fun _ _ _ h => h) (Or.inl ⟨by rfl, fun wq hSw => by (try dsimp only at hSw); go_simp⟩) (by assumption) ?_
      try simp only [Act.put, List.setIfInBounds_toArray, List.set_cons_zero, List.set_cons_succ]
      refine wpAnyH_take (i := 19) (oi := { dst := some 234, op := Op.pick (Operand.tmp 229) (Operand.tmp 233) (Operand.const (Value.bool false)), type := 4, pos := "law.go:79", after := #[{ on := 14, ground := Ground.data }, { on := 18, ground := Ground.data }], guard := none }) (v := .bool true) rfl (by kernel_rfl) (by kernel_rfl) (by kernel_rfl) (fun _ _ _ h => h) (Or.inl ⟨by rfl, fun wq hSw => by (try dsimp only at hSw); go_simp⟩) (by assumption) ?_
      try simp only [Act.put, List.setIfInBounds_toArray, List.set_cons_zero, List.set_cons_succ]
      refine wpAnyH_take (i := 20) (oi := { dst := some 4, op := Op.assign (Operand.tmp 234), type := 4, pos := "law.go:79", after := #[{ on := 19, ground := Ground.data }, { on := 16, ground := Ground.chain }, { on := 0, ground := Ground.phase }, { on := 1, ground := Ground.phase }, { on := 2, ground := Ground.phase }, { on := 3, ground := Ground.phase }, { on := 4, ground := Ground.phase }, { on := 5, ground := Ground.phase }, { on := 6, ground := Ground.phase }, { on := 7, ground := Ground.phase }, { on := 8, ground := Ground.phase }, { on := 9, ground := Ground.phase }, { on := 10, ground := Ground.phase }, { on := 11, ground := Ground.phase }, { on := 12, ground := Ground.phase }, { on := 13, ground := Ground.phase }, { on := 14, ground := Ground.phase }, { on := 15, ground := Ground.phase }, { on := 16, ground := Ground.phase }, { on := 17, ground := Ground.phase }, { on := 18, ground := Ground.phase }, { on := 19, ground := Ground.phase }], guard := none }) (v := .bool true) rfl (by kernel_rfl) (by kernel_rfl) (by kernel_rfl) (fun _ _ _ h => h) (Or.inl ⟨by rfl, fun wq hSw => by (try dsimp only at hSw); go_simp⟩) (by assumption) ?_
      try simp only [Act.put, List.setIfInBounds_toArray, List.set_cons_zero, List.set_cons_succ]
      refine wpAnyH_done (by kernel_rfl) ?_ _
      have HBE := hide ((unhide HBW).trans (hHeld3.1.1.mono (unhide HBW).size))
      clear hHeld3
      go_wp2
      go_ret
      exact ⟨rfl, unhide HBE⟩
end Go.Proofs.YtmmgadnicodakaaGreatDoor
