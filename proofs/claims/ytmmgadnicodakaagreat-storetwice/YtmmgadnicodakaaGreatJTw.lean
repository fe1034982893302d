/-
  Two stores over one device: one that was opened, and one that goes on with its heap alone. (Part of the proof of StoreTwice.)
-/
import Derived.Test.YtmmgadnicodakaaGreatJPo
namespace Go.Proofs.YtmmgadnicodakaaGreat
open Go.RowKit
set_option linter.unusedVariables false
section
variable {w0 w w' : World} {t p q : Nat} {S S' : Nat → Prop} {D D' : DS} {s : Int} {m n x g c : Nat} {L M : List Int} {gk ck : Nat} {K : List Int} {cut : Bool}
theorem Sto.reopen {F' : Nat → Prop} (h : Sto w0 w t p q S D s m x g c L gk ck K cut) (hl : Live w0 w' p S' D') (ht : Turn S F' w w') (hS : ∀ k, S' k → F' k) (hn : D'.secs.length = D.secs.length) : Sto w0 w' t p q S' D' s m x g c L gk ck K cut := by
 have hq : ¬ S q := h.bsd.out
 have hq' : ¬ S' q := fun hs => hq (ht.foot q h.bsd.pg.lt (hS q hs))
 refine h.pages hl (h.bsd.pg.same (ht.block q h.bsd.pg.lt hq)) hq' ⟨ht.os, ht.tape, ht.output, ht.size, fun k hk hn => ht.block k hk (fun hs => hn (.inl hs)), fun k hk hs => ?_⟩ hn
 rcases hs with hs | hs
 ·exact .inl (ht.foot k hk (hS k hs))
 ·exact .inr hs
set_option maxRecDepth 100000 in
theorem stStamp_any (h : Sto w0 w t p q S D s m x g c L gk ck K cut) : Calls Tryz.prog 13 #[.pointer (some ⟨t, 0, none⟩)] w fun e w' => e = .returned (.int .i64 s) ∧ w = w' := by
 have c1 := h.c1
 have HP := hide (pStamp_any h.bsd.pg)
 clear h
 go_enter Tryz.func13, Tryz.ntmps13
 go_wp2_with fail
 refine (unhide HP).mono ?_
 rintro e w1 ⟨rfl, rfl⟩
 go_wp2
 go_ret
 exact ⟨rfl, rfl⟩
end
section
variable {w0 w w' : World} {t p x m n : Nat} {P : Ps} {F : Nat → Prop}
end
structure Twi (w0 w : World) (t p x m : Nat) (L K : List Int) (s : Int) (t2 x2 : Nat) : Prop where
 ex : ∃ q S D g c gk ck cut q2 g2 c2 gk2 ck2 cut2, Sto w0 w t p q S D s m x g c L gk ck K cut ∧ Sto w0 w t2 p q2 S D s m x2 g2 c2 K gk2 ck2 K cut2 ∧ (∀ k, foot x g k → ¬ footA S q2 t2 gk2 x2 g2 k) ∧ Rdy D m s (prt K) ∧ D.left < 0
section
variable {w0 w w' : World} {t p x m n t2 x2 : Nat} {L K : List Int} {s : Int}
theorem Twi.below (h : Twi w0 w t p x m L K s t2 x2) (hb : Below w.heap.size w w') : Twi w0 w' t p x m L K s t2 x2 := by
 obtain ⟨q, S, D, g, c, gk, ck, cut, q2, g2, c2, gk2, ck2, cut2, h1, h2, h3, h4⟩ := h.ex
 exact ⟨q, S, D, g, c, gk, ck, cut, q2, g2, c2, gk2, ck2, cut2, h1.below hb, h2.below hb, h3, h4⟩
theorem Twi.base (h : Twi w0 w t p x m L K s t2 x2) : Below w0.heap.size w0 w := by
 obtain ⟨q, S, D, g, c, gk, ck, cut, q2, g2, c2, gk2, ck2, cut2, h1, _⟩ := h.ex
 exact h1.base
theorem Sto.others {q : Nat} {S : Nat → Prop} {D : DS} {g c gk ck : Nat} {cut : Bool} (hs : Sto w0 w t p q S D s m x g c L gk ck K cut) {U U' : Nat → Prop} (ht : Turn U U' w w') (hn : ∀ k, footA S q t gk x g k → ¬ U k) (hU : ∀ k, U k → w0.heap.size ≤ k) : Sto w0 w' t p q S D s m x g c L gk ck K cut := by
 have hk : ∀ k, footA S q t gk x g k → w'.heap[k]? = w.heap[k]? := fun k hf => ht.block k (hs.foot_lt k hf) (hn k hf)
 refine ⟨(hk t (.inr (.inl rfl))).trans hs.blk, ⟨⟨hs.bsd.live.dev.turn ht (fun k hk => hn k (.inl (.inl hk))), hs.base.trans (ht.below hU hs.size), hs.bsd.live.base⟩, (hs.bsd.pg.turn ht (hn q (.inl (.inr rfl)))).1, hs.bsd.out, hs.bsd.base, hs.bsd.apart, fun k hf => Nat.lt_of_lt_of_le (hs.bsd.tlt k hf) ht.size, hs.bsd.tb⟩, ?_, ?_, hs.kb, hs.kf, hs.cnt, hs.len, hs.klen, hs.n1, hs.n2, hs.n3⟩
 ·obtain ⟨cur, hr⟩ := hs.hp.row
  exact ⟨hs.hp.bp, hs.hp.ne, (hk x (.inr (.inr (.inr (.inl rfl))))).trans hs.hp.blk, ⟨cur, hr.same (hk g (.inr (.inr (.inr (.inr rfl)))))⟩, hs.hp.byt, hs.hp.fine⟩
 ·obtain ⟨cur, hr⟩ := hs.kept
  exact ⟨cur, hr.same (hk gk (.inr (.inr (.inl rfl))))⟩
theorem Sto.fge {q : Nat} {S : Nat → Prop} {D : DS} {g c gk ck : Nat} {cut : Bool} (hs : Sto w0 w t p q S D s m x g c L gk ck K cut) : ∀ k, foot x g k → w0.heap.size ≤ k := fun k hk => hs.bsd.tb k (.inr (.inr hk))
theorem Twi.heap {M : List Int} {q : Nat} {S : Nat → Prop} {D : DS} {g c gk ck : Nat} {cut : Bool} {q2 g2 c2 gk2 ck2 : Nat} {cut2 : Bool} (h1 : Sto w0 w t p q S D s m x g c L gk ck K cut) (h2 : Sto w0 w t2 p q2 S D s m x2 g2 c2 K gk2 ck2 K cut2) (h3 : ∀ k, foot x g k → ¬ footA S q2 t2 gk2 x2 g2 k) (h4 : Rdy D m s (prt K) ∧ D.left < 0)
  (hq : StoH w0 w t p q S D s m x g M gk ck K cut w') : Twi w0 w' t p x m M K s t2 x2 := by
 obtain ⟨g', c', k1, k2⟩ := hq
 refine ⟨q, S, D, g', c', gk, ck, cut, q2, g2, c2, gk2, ck2, cut2, k1, h2.others k2 (fun k hk hf => h3 k hf hk) h1.fge, fun k hk hf => ?_, h4⟩
 rcases Nat.lt_or_ge k w.heap.size with hl | hl
 ·exact h3 k (k2.foot k hl hk) hf
 ·have := h2.foot_lt k hf
  omega
theorem Twi.do (h : Twi w0 w t p x m L K s t2 x2) (r : OpR) (hin : OpIn w0 r) (h6 : r.1 ≠ 6) :
  Calls Tryz.prog 10 #[.pointer (some ⟨t, 0, none⟩), opV r] w fun e w' => e = .returned (errV (doE L (opP r))) ∧ ∃ M, Twi w0 w' t p x m M K s t2 x2 := by
 obtain ⟨q, S, D, g, c, gk, ck, cut, q2, g2, c2, gk2, ck2, cut2, h1, h2, h3, h4⟩ := h.ex
 obtain ⟨a1, a2, a3, a4, a5, a6⟩ := hin
 refine (h1.do r ⟨a1, a2, a3, a4, a5, a6.below h1.base⟩ h6).mono ?_
 rintro e w' ⟨he, hq⟩
 exact ⟨he, _, Twi.heap h1 h2 h3 h4 hq⟩
theorem Twi.abort (h : Twi w0 w t p x m L K s t2 x2) :
  Calls Tryz.prog 15 #[.pointer (some ⟨t, 0, none⟩)] w fun e w' => e = .returned (.tuple #[]) ∧ Twi w0 w' t p x m K K s t2 x2 := by
 obtain ⟨q, S, D, g, c, gk, ck, cut, q2, g2, c2, gk2, ck2, cut2, h1, h2, h3, h4⟩ := h.ex
 refine h1.abort.mono ?_
 rintro e w' ⟨he, hq⟩
 exact ⟨he, Twi.heap h1 h2 h3 h4 hq⟩
theorem Sto.bytes {q : Nat} {S : Nat → Prop} {D : DS} {g c gk ck : Nat} {cut : Bool} (hs : Sto w0 w t p q S D s m x g c L gk ck K cut) :
  Calls Tryz.prog 9 #[.pointer (some ⟨x, 0, none⟩)] w fun e w' => ∃ a c', e = .returned (.slice a L.length c') ∧ Bs w' a c' L ∧ Below w.heap.size w w' :=
 (hBytes_any x g c w0.heap.size L w hs.hp).mono fun e w' ⟨a', c', he, ho, hb⟩ => by
  obtain ⟨a2, c2, e2, hbs⟩ := ho.bs hs.hp.byt (by have := hs.hp.len; omega)
  simp only [Value.slice.injEq, true_and] at e2
  obtain ⟨rfl, rfl⟩ := e2
  exact ⟨a', c', he, hbs, hb⟩
theorem Twi.heap1 (h : Twi w0 w t p x m L K s t2 x2) : Calls Tryz.prog 8 #[.pointer (some ⟨t, 0, none⟩)] w fun e w' => e = .returned (.pointer (some ⟨x, 0, none⟩)) ∧ w = w' := by
 obtain ⟨q, S, D, g, c, gk, ck, cut, q2, g2, c2, gk2, ck2, cut2, h1, h2, h3, h4⟩ := h.ex
 exact stHeap_any h1
theorem Twi.heap2 (h : Twi w0 w t p x m L K s t2 x2) : Calls Tryz.prog 8 #[.pointer (some ⟨t2, 0, none⟩)] w fun e w' => e = .returned (.pointer (some ⟨x2, 0, none⟩)) ∧ w = w' := by
 obtain ⟨q, S, D, g, c, gk, ck, cut, q2, g2, c2, gk2, ck2, cut2, h1, h2, h3, h4⟩ := h.ex
 exact stHeap_any h2
theorem Twi.bytes1 (h : Twi w0 w t p x m L K s t2 x2) : Calls Tryz.prog 9 #[.pointer (some ⟨x, 0, none⟩)] w fun e w' => ∃ a c', e = .returned (.slice a L.length c') ∧ Bs w' a c' L ∧ Below w.heap.size w w' := by
 obtain ⟨q, S, D, g, c, gk, ck, cut, q2, g2, c2, gk2, ck2, cut2, h1, h2, h3, h4⟩ := h.ex
 exact h1.bytes
theorem Twi.bytes2 (h : Twi w0 w t p x m L K s t2 x2) : Calls Tryz.prog 9 #[.pointer (some ⟨x2, 0, none⟩)] w fun e w' => ∃ a c', e = .returned (.slice a K.length c') ∧ Bs w' a c' K ∧ Below w.heap.size w w' := by
 obtain ⟨q, S, D, g, c, gk, ck, cut, q2, g2, c2, gk2, ck2, cut2, h1, h2, h3, h4⟩ := h.ex
 exact h2.bytes
theorem Twi.stamp1 (h : Twi w0 w t p x m L K s t2 x2) : Calls Tryz.prog 13 #[.pointer (some ⟨t, 0, none⟩)] w fun e w' => e = .returned (.int .i64 s) ∧ w = w' := by
 obtain ⟨q, S, D, g, c, gk, ck, cut, q2, g2, c2, gk2, ck2, cut2, h1, h2, h3, h4⟩ := h.ex
 exact stStamp_any h1
theorem Twi.stamp2 (h : Twi w0 w t p x m L K s t2 x2) : Calls Tryz.prog 13 #[.pointer (some ⟨t2, 0, none⟩)] w fun e w' => e = .returned (.int .i64 s) ∧ w = w' := by
 obtain ⟨q, S, D, g, c, gk, ck, cut, q2, g2, c2, gk2, ck2, cut2, h1, h2, h3, h4⟩ := h.ex
 exact stStamp_any h2
theorem drtN_self (K : List Int) (m : Nat) : drtN K K m = [] := by
 unfold drtN
 rw [List.filter_eq_nil_iff]
 intro i _
 simp
theorem Twi.dirty2 (h : Twi w0 w t p x m L K s t2 x2) : Calls Tryz.prog 14 #[.pointer (some ⟨t2, 0, none⟩)] w fun e w' => (∃ a c', e = .returned (.slice a 0 c')) ∧ Below w.heap.size w w' := by
 obtain ⟨q, S, D, g, c, gk, ck, cut, q2, g2, c2, gk2, ck2, cut2, h1, h2, h3, h4⟩ := h.ex
 refine (stDirty_any h2).mono ?_
 rintro e w' ⟨v, rfl, hr, hb⟩
 rw [drtN_self] at hr
 refine ⟨?_, hb⟩
 rcases hr.2 with ⟨hv, _⟩ | ⟨gr, cap, cur, hv, _⟩
 ·exact ⟨none, 0, by rw [hv]⟩
 ·exact ⟨_, cap, by rw [hv]; rfl⟩
theorem Twi.open (h : Twi w0 w t p x m L K s t2 x2) :
  Calls Tryz.prog 12 #[.pointer (some ⟨p, 0, none⟩)] w fun e w' => ∃ t3 x3, e = .returned (.tuple #[.pointer (some ⟨t3, 0, none⟩), .nilIface]) ∧ Twi w0 w' t p x m L K s t2 x2 ∧ ∃ D F, Tf w0 w' t3 p x3 m ⟨D, s, K, K⟩ F := by
 obtain ⟨q, S, D, g, c, gk, ck, cut, q2, g2, c2, gk2, ck2, cut2, h1, h2, h3, h4⟩ := h.ex
 have hf := h2.m200
 refine (Lf.open (F := S) (m := m) (s := s) (K := K) ⟨S, h2.bsd.live, fun k hk => hk⟩ h2.cnt (by omega) (by omega) h4.1 h2.klen h2.kb h2.kf).mono ?_
 rintro e w' (⟨t3, x3, rfl, D', F', htf, hpu, hlf, hT⟩ | ⟨_, hno, _⟩)
 ·refine ⟨t3, x3, rfl, ?_, D', F', htf⟩
  obtain ⟨q3, S3, g3, c3, gk3, ck3, h5, rfl⟩ := htf
  have hS : ∀ k, S3 k → footA S3 q3 t3 gk3 x3 g3 k := fun k hk => .inl (.inl hk)
  have hn : D'.secs.length = D.secs.length := hpu.sn
  obtain ⟨a, nl, hnt⟩ := hpu.nt
  refine ⟨q, S3, D', g, c, gk, ck, cut, q2, g2, c2, gk2, ck2, cut2, h1.reopen h5.bsd.live hT hS hn, h2.reopen h5.bsd.live hT hS hn, fun k hk hf => ?_, hnt.rdy, hlf h4.2⟩
  rcases hf with (hf | hf) | hf
  ·exact h3 k hk (.inl (.inl (hT.foot k (h1.bsd.tlt k (.inr (.inr hk))) (hS k hf))))
  ·exact h3 k hk (.inl (.inr hf))
  ·exact h3 k hk (.inr hf)
 ·exact absurd h4.2 hno
theorem Tf.second {D : DS} {F : Nat → Prop} {L : List Int} (h : Tf w0 w t p x m ⟨D, s, L, K⟩ F) (hr : Rdy D m s (prt K)) (hl : D.left < 0) :
  Calls Tryz.prog 12 #[.pointer (some ⟨p, 0, none⟩)] w fun e w' => ∃ t2 x2, e = .returned (.tuple #[.pointer (some ⟨t2, 0, none⟩), .nilIface]) ∧ Twi w0 w' t p x m L K s t2 x2 := by
 obtain ⟨q, S, g, c, gk, ck, h1, _⟩ := h
 dsimp only at h1
 have hf := h1.m200
 refine (Lf.open (F := S) (m := m) (s := s) (K := K) ⟨S, h1.bsd.live, fun k hk => hk⟩ h1.cnt (by omega) (by omega) hr h1.klen h1.kb h1.kf).mono ?_
 rintro e w' (⟨t3, x3, rfl, D', F', htf, hpu, hlf, hT⟩ | ⟨_, hno, _⟩)
 ·refine ⟨t3, x3, rfl, ?_⟩
  obtain ⟨q3, S3, g3, c3, gk3, ck3, h5, rfl⟩ := htf
  dsimp only at h5
  have hS : ∀ k, S3 k → footA S3 q3 t3 gk3 x3 g3 k := fun k hk => .inl (.inl hk)
  have hn : D'.secs.length = D.secs.length := hpu.sn
  obtain ⟨a, nl, hnt⟩ := hpu.nt
  refine ⟨q, S3, D', g, c, gk, ck, _, q3, g3, c3, gk3, ck3, _, h1.reopen h5.bsd.live hT hS hn, h5, fun k hk hf => ?_, hnt.rdy, hlf hl⟩
  have h9 := hT.foot k (h1.bsd.tlt k (.inr (.inr hk))) hf
  exact h1.bsd.apart k (.inr (.inr hk)) (.inl h9)
 ·exact absurd hl hno
end
end Go.Proofs.YtmmgadnicodakaaGreat
