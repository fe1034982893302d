/-
  Parts of the proofs, joined by program.
-/
import Derived.Test.YtmmgadnicodakaaGreatDoorJPo
import Derived.Test.YtmmgadnicodakaaGreatDoorJPt
import Derived.Test.YtmmgadnicodakaaGreatDoorJWy
import Derived.Test.YtmmgadnicodakaaGreatDoorJRh
namespace Go.Proofs.YtmmgadnicodakaaGreatDoor
open Go.RowKit
set_option linter.unusedVariables false
section
variable {w0 w w' : World} {t p q : Nat} {S S' : Nat → Prop} {D D' : DS} {s : Int} {m n x g c : Nat} {L M : List Int} {gk ck : Nat} {K : List Int} {cut : Bool}
theorem Sto.reopen {F' : Nat → Prop} (h : Sto w0 w t p q S D s m x g c L gk ck K cut) (hl : Live w0 w' p S' D') (ht : Turn S F' w w') (hS : ∀ k, S' k → F' k) (hn : D'.secs.length = D.secs.length) : Sto w0 w' t p q S' D' s m x g c L gk ck K cut := by
 have hq : ¬ S q := h.bsd.out
 have hq' : ¬ S' q := fun hs => hq (ht.foot q h.bsd.pg.lt (hS q hs))
 refine h.pages hl (h.bsd.pg.same (ht.block q h.bsd.pg.lt hq)) hq' ⟨ht.os, ht.tape, ht.output, ht.size, fun k hk hn => ht.block k hk (fun hs => hn (.inl hs)), fun k hk hs => ?_⟩ hn
 rcases hs with hs | hs
 ·exact .inl (ht.foot k hk (hS k hs))
 ·exact .inr hs
set_option maxRecDepth 100000 in
theorem stStamp_any (h : Sto w0 w t p q S D s m x g c L gk ck K cut) : Calls Tryz.prog 22 #[.pointer (some ⟨t, 0, none⟩)] w fun e w' => e = .returned (.int .i64 s) ∧ w = w' := by
 have c1 := h.c1
 have HP := hide (pStamp_any h.bsd.pg)
 clear h
 go_enter Tryz.func22, Tryz.ntmps22
 go_wp2_with fail
 refine (unhide HP).mono ?_
 rintro e w1 ⟨rfl, rfl⟩
 go_wp2
 go_ret
 exact ⟨rfl, rfl⟩
end
section
variable {w0 w w' : World} {t p x m n : Nat} {P : Ps} {F : Nat → Prop}
theorem Tf.stamp (h : Tf w0 w t p x m P F) : Calls Tryz.prog 22 #[.pointer (some ⟨t, 0, none⟩)] w fun e w' => e = .returned (.int .i64 P.s) ∧ w = w' := by
 obtain ⟨q, S, g, c, gk, ck, hs, _⟩ := h
 exact stStamp_any hs
end
section
variable {w0 w w' : World} {t p x m n t2 x2 : Nat} {L K : List Int} {s : Int}
theorem Sto.bytes {q : Nat} {S : Nat → Prop} {D : DS} {g c gk ck : Nat} {cut : Bool} (hs : Sto w0 w t p q S D s m x g c L gk ck K cut) :
  Calls Tryz.prog 12 #[.pointer (some ⟨x, 0, none⟩)] w fun e w' => ∃ a c', e = .returned (.slice a L.length c') ∧ Bs w' a c' L ∧ Below w.heap.size w w' :=
 (hBytes_any x g c w0.heap.size L w hs.hp).mono fun e w' ⟨a', c', he, ho, hb⟩ => by
  obtain ⟨a2, c2, e2, hbs⟩ := ho.bs hs.hp.byt (by have := hs.hp.len; omega)
  simp only [Value.slice.injEq, true_and] at e2
  obtain ⟨rfl, rfl⟩ := e2
  exact ⟨a', c', he, hbs, hb⟩
theorem drtN_self (K : List Int) (m : Nat) : drtN K K m = [] := by
 unfold drtN
 rw [List.filter_eq_nil_iff]
 intro i _
 simp
end
end Go.Proofs.YtmmgadnicodakaaGreatDoor
namespace Go.Proofs.YtmmgadnicodakaaGreatDoor
open Go.RowKit
set_option linter.unusedVariables false
theorem drt_leK (K L : List Int) (m : Nat) : (drtN K L m).length ≤ m := by
 unfold drtN
 exact Nat.le_trans (List.length_filter_le _ _) (by simp)
section
variable {w0 w w' : World} {t p x m n : Nat} {P : Ps} {F : Nat → Prop} {D : DS} {s : Int} {L K : List Int}
theorem Tf.beside (h : Tf w0 w t p x m ⟨D, s, L, K⟩ F) (hu : Pu m n ⟨D, s, L, K⟩) (hl : D.left < 0) :
  Calls Tryz.prog 20 #[.pointer (some ⟨p, 0, none⟩)] w fun e w' => ∃ t2 x2 D' F1 F2, e = .returned (.tuple #[.pointer (some ⟨t2, 0, none⟩), .nilIface]) ∧ Tf w0 w' t p x m ⟨D', s, L, K⟩ F1 ∧ Tf w0 w' t2 p x2 m ⟨D', s, K, K⟩ F2 ∧ Pu m n ⟨D', s, L, K⟩ ∧ D'.left < 0 ∧ Turn F F1 w w' := by
 obtain ⟨q, S, g, c, gk, ck, h1, rfl⟩ := h
 dsimp only at h1
 obtain ⟨a, nl, hnt⟩ := hu.nt
 have hf := h1.m200
 refine (Lf.open (F := S) (m := m) (s := s) (K := K) ⟨S, h1.bsd.live, fun k hk => hk⟩ h1.cnt (by omega) (by omega) hnt.rdy h1.klen h1.kb h1.kf).mono ?_
 rintro e w' (⟨t3, x3, rfl, D', F', htf, hpu, hlf, hT⟩ | ⟨_, hno, _⟩)
 ·have htf' := htf
  obtain ⟨q3, S3, g3, c3, gk3, ck3, h5, e5⟩ := htf
  dsimp only at h5
  have hS : ∀ k, S3 k → F' k := fun k hk => by rw [e5]; exact .inl (.inl hk)
  have hn : D'.secs.length = D.secs.length := hpu.sn
  obtain ⟨a', nl', hnt'⟩ := hpu.nt
  have h6 := h1.reopen h5.bsd.live hT hS hn
  have hd : D.down = D'.down := by rw [show D.down = false from hnt.down]; exact (show D'.down = false from hnt'.down).symm
  rw [hd] at h6
  refine ⟨t3, x3, D', footA S3 q t gk x g, F', rfl, ⟨q, S3, g, c, gk, ck, h6, rfl⟩, htf', ⟨⟨a', nl', hnt'⟩, hu.fl, hu.fk, hu.bl, hu.bk, hu.ll, hu.lk, hn.trans hu.sn⟩, hlf hl, ⟨hT.os, hT.tape, hT.output, hT.size, fun k hk hnn => hT.block k hk (fun hs => hnn (.inl (.inl hs))), fun k hk hk2 => ?_⟩⟩
  ·rcases hk2 with (hk2 | hk2) | hk2
   ·exact .inl (.inl (hT.foot k hk (hS k hk2)))
   ·exact .inl (.inr hk2)
   ·exact .inr hk2
 ·exact absurd hl hno
theorem co_stamp (h : Pu m n P) (hs : P.s ≤ 999) (hl : P.D.left < 0) (hE : (psCo m P).2 = 0) : (psCo m P).1.s = P.s + (if 0 < (drtN P.K P.L m).length then 1 else 0) := by
 obtain ⟨a, nl, hn⟩ := h.nt
 have hev := Ever.commit (s := P.s) (l := dfP P.K P.L m) hl hn.down
 have hz := drt_zero h.lk h.ll
 rcases nt_commit hn hs h.lk h.ll h.bl with ⟨k1, k2⟩ | ⟨k1, k2⟩ | ⟨k1, k2, k3, k4, k5, k6⟩ | ⟨_, _, _, _, _, _, k7, _⟩
 ·have : (psCo m P).2 = 4 := by
   show (commitOut P.D P.s m (dfP P.K P.L m)).2.2 = 4
   rw [k2]
  rw [this] at hE; cases hE
 ·have h0 := hz.2 k1
  rw [if_neg (by omega), Int.add_zero]
  show (commitOut P.D P.s m (dfP P.K P.L m)).2.1 = P.s
  rw [k2]
 ·have h0 : 0 < (drtN P.K P.L m).length := by
   rcases Nat.eq_zero_or_pos (drtN P.K P.L m).length with h0 | h0
   ·exact absurd (hz.1 h0) k1
   ·exact h0
  rw [if_pos h0]
  show (commitOut P.D P.s m (dfP P.K P.L m)).2.1 = P.s + 1
  rw [k3]
 ·exact absurd k7 hev.1
theorem drtN_succ (K L : List Int) (i : Nat) : drtN K L (i + 1) = drtN K L i ++ (if prt K i = prt L i then [] else [i]) := by
 unfold drtN
 rw [List.range_succ, List.filter_append]
 by_cases h : prt K i = prt L i
 ·rw [if_pos h]; simp [h]
 ·rw [if_neg h]; simp [h]
theorem Tf.dirtyN (h : Tf w0 w t p x m P F) :
  Calls Tryz.prog 23 #[.pointer (some ⟨t, 0, none⟩)] w fun e w' => ∃ a c, e = .returned (.slice a (drtN P.K P.L m).length c) ∧ Sls inC 1 w' a c ((drtN P.K P.L m).map (fun i : Nat => (i : Int))) ∧ Below w.heap.size w w' := by
 refine h.dirty.mono ?_
 rintro e w' ⟨⟨v, rfl, hr⟩, _, hb⟩
 have hl : Lst inC 1 3 w' w.heap.size v ((drtN P.K P.L m).map (fun i : Nat => (i : Int))) := by
  unfold Lst
  rw [List.length_map, flat_inC]
  exact hr
 have hln : ((drtN P.K P.L m).map (fun i : Nat => (i : Int))).length ≤ 8796093021952 := by
  rw [List.length_map]
  have h1 := drt_leK P.K P.L m
  have h2 := h.fine.1.len
  have h3 := h.fine.2.2.1
  omega
 obtain ⟨a, c, hv, hs⟩ := hl.sls (enc := inC) (k := 1) (fun (_ : Int) => rfl) hln
 rw [List.length_map] at hv
 exact ⟨a, c, by rw [hv], hs, hb⟩
theorem Tf.sizeOf (h : Tf w0 w t p x m P F) (o : Int) : Calls Tryz.prog 21 #[.pointer (some ⟨x, 0, none⟩), .int .i64 o] w fun e w' => e = .returned (.tuple #[.int .i64 (getE P.L o).2.2.1, errV (chkE P.L o)]) ∧ Below w.heap.size w w' := by
 obtain ⟨q, S, g, c, gk, ck, hs, _⟩ := h
 exact hSize_any x g c w0.heap.size P.L o w hs.hp
theorem sk_next (hu : Pu m n P) (hs : P.s ≤ 999) (hl : P.D.left < 0) (o : OpP) (ho : Byt o.2.2.2.2.2) :
  Pu m n (psDo m P o).1 ∧ (psDo m P o).1.D.left < 0 ∧ P.s ≤ (psDo m P o).1.s ∧ (psDo m P o).1.s ≤ P.s + 1 ∧ (o.1 = 6 → (psDo m P o).2 = if 23 < (drtN P.K P.L m).length then 4 else 0) ∧
  (o.1 = 6 → (psDo m P o).2 = 0 → (psDo m P o).1.L = (psDo m P o).1.K ∧ (psDo m P o).1.s = P.s + (if 0 < (drtN P.K P.L m).length then 1 else 0)) ∧
  ((o.1 = 6 → (psDo m P o).2 ≠ 0) → (psDo m P o).1.s = P.s) ∧ (o.1 = 7 → (psDo m P o).2 = 0 ∧ (psDo m P o).1.L = (psDo m P o).1.K) := by
 obtain ⟨h1, h2, h3, h4, h5, h6, h7⟩ := hu.ever hs hl o ho
 refine ⟨h1, h2, h3, h4, h5, fun e6 e0 => ?_, fun hn => ?_, fun e7 => ?_⟩
 ·have e : psDo m P o = psCo m P := by unfold psDo; rw [if_pos e6]
  obtain ⟨c1, c2, c3⟩ := co_same (m := m) (p := P) e6
  refine ⟨by rw [c1, c2 e0], ?_⟩
  rw [e] at e0 ⊢
  exact co_stamp hu hs hl e0
 ·by_cases e6 : o.1 = 6
  ·have e : psDo m P o = psCo m P := by unfold psDo; rw [if_pos e6]
   have hE := h5 e6
   have hne := hn e6
   obtain ⟨a, nl, hnt⟩ := hu.nt
   rcases nt_commit hnt hs hu.lk hu.ll hu.bl with ⟨k1, k2⟩ | ⟨k1, k2⟩ | ⟨k1, k2, k3, k4, k5, k6⟩ | ⟨k0, k1, k2, _⟩
   ·rw [e]
    show (commitOut P.D P.s m (dfP P.K P.L m)).2.1 = P.s
    rw [k2]
   ·exfalso
    have h0 := (drt_zero hu.lk hu.ll).2 k1
    rw [if_neg (by omega)] at hE
    exact hne hE
   ·exfalso
    rw [if_neg (by omega)] at hE
    exact hne hE
   ·rw [e]
    show (commitOut P.D P.s m (dfP P.K P.L m)).2.1 = P.s
    rw [k2]
  ·exact (h7 e6).2.2
 ·have e : psDo m P o = ({ P with L := P.K }, 0) := by unfold psDo; rw [if_neg (by omega), if_pos e7]
  rw [e]
  exact ⟨rfl, rfl⟩
variable {kv : Value}
theorem PtAt.below (h : PtAt w0 w t p x m P kv) (hb : Below w.heap.size w w') : PtAt w0 w' t p x m P kv := by
 obtain ⟨F, a, c, h1, h2, h3⟩ := h
 exact ⟨F, a, c, h1.below hb, h2, h3.below hb⟩
theorem PtAt.heap (h : PtAt w0 w t p x m P kv) : Calls Tryz.prog 11 #[.pointer (some ⟨t, 0, none⟩)] w fun e w' => e = .returned (.pointer (some ⟨x, 0, none⟩)) ∧ w = w' := by
 obtain ⟨F, a, c, h1, h2, h3⟩ := h
 exact h1.heap
theorem PtAt.stamp (h : PtAt w0 w t p x m P kv) : Calls Tryz.prog 22 #[.pointer (some ⟨t, 0, none⟩)] w fun e w' => e = .returned (.int .i64 P.s) ∧ w = w' := by
 obtain ⟨F, a, c, h1, h2, h3⟩ := h
 exact h1.stamp
theorem PtAt.dirty (h : PtAt w0 w t p x m P kv) : Calls Tryz.prog 23 #[.pointer (some ⟨t, 0, none⟩)] w fun e w' => ∃ a c, e = .returned (.slice a (drtN P.K P.L m).length c) ∧ Sls inC 1 w' a c ((drtN P.K P.L m).map (fun i : Nat => (i : Int))) ∧ Below w.heap.size w w' := by
 obtain ⟨F, a, c, h1, h2, h3⟩ := h
 exact h1.dirtyN
theorem PtAt.bytes (h : PtAt w0 w t p x m P kv) : Calls Tryz.prog 12 #[.pointer (some ⟨x, 0, none⟩)] w fun e w' => ∃ a c, e = .returned (.slice a (32 * m) c) ∧ Bs w' a c P.L ∧ Below w.heap.size w w' := by
 obtain ⟨F, a, c, h1, h2, h3⟩ := h
 have hl := h1.fine.2.2.1
 obtain ⟨q, S, g, c', gk, ck, hs, _⟩ := h1
 have := hs.bytes
 rw [hl] at this
 exact this
theorem PtAt.kept (h : PtAt w0 w t p x m P kv) : ∃ a c, kv = .slice a (32 * m) c ∧ Bs w a c P.K ∧ P.K.length = 32 * m ∧ P.L.length = 32 * m := by
 obtain ⟨F, a, c, h1, h2, h3⟩ := h
 exact ⟨a, c, h2, h3.1, h1.fine.2.2.2.2.2, h1.fine.2.2.1⟩
theorem PtAt.open (h : PtAt w0 w t p x m P kv) (hu : Pu m n P) (hl : P.D.left < 0) :
  Calls Tryz.prog 20 #[.pointer (some ⟨p, 0, none⟩)] w fun e w' => ∃ t2 x2 D' F2, e = .returned (.tuple #[.pointer (some ⟨t2, 0, none⟩), .nilIface]) ∧ PtAt w0 w' t p x m ⟨D', P.s, P.L, P.K⟩ kv ∧ Tf w0 w' t2 p x2 m ⟨D', P.s, P.K, P.K⟩ F2 := by
 obtain ⟨F, a, c, h1, h2, h3⟩ := h
 refine (Tf.beside (n := n) (D := P.D) (s := P.s) (L := P.L) (K := P.K) h1 hu hl).mono ?_
 rintro e w' ⟨t2, x2, D', F1, F2, he, k1, k2, _, _, ht⟩
 exact ⟨t2, x2, D', F2, he, ⟨F1, a, c, k1, h2, h3.turn ht⟩, k2⟩
theorem Tf.bytesK (h : Tf w0 w t p x m P F) : Calls Tryz.prog 12 #[.pointer (some ⟨x, 0, none⟩)] w fun e w' => ∃ a c, e = .returned (.slice a (32 * m) c) ∧ Bs w' a c P.L ∧ Below w.heap.size w w' := by
 have hl := h.fine.2.2.1
 obtain ⟨q, S, g, c', gk, ck, hs, _⟩ := h
 have := hs.bytes
 rw [hl] at this
 exact this
end
end Go.Proofs.YtmmgadnicodakaaGreatDoor
