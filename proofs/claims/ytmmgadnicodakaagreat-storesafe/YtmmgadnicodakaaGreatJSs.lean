/-
  The states of StoreSafe: a store while ops are done, and its device behind a crash; two images laid aside. (Part of the proof of StoreSafe.)
-/
import Derived.Test.YtmmgadnicodakaaGreatJPo
namespace Go.Proofs.YtmmgadnicodakaaGreat
open Go.RowKit
set_option linter.unusedVariables false
def Asd (w : World) (F : Nat → Prop) (m : Nat) (kv nv : Value) (K N : List Int) : Prop :=
 (∃ ak ck, kv = .slice ak (32 * m) ck ∧ BsO w F ak ck K) ∧ (∃ an cn, nv = .slice an (32 * m) cn ∧ BsO w F an cn N) ∧ K.length = 32 * m ∧ N.length = 32 * m
section
variable {w0 w w' : World} {t p x m n : Nat} {P : Ps} {F F' : Nat → Prop} {kv nv : Value} {K N : List Int} {b : Int}
theorem Asd.turn (h : Asd w F m kv nv K N) (ht : Turn F F' w w') : Asd w' F' m kv nv K N := by
 obtain ⟨⟨ak, ck, h1, h2⟩, ⟨an, cn, h3, h4⟩, h5, h6⟩ := h
 exact ⟨⟨ak, ck, h1, h2.turn ht⟩, ⟨an, cn, h3, h4.turn ht⟩, h5, h6⟩
theorem Asd.below (h : Asd w F m kv nv K N) (hb : Below w.heap.size w w') : Asd w' F m kv nv K N := h.turn (Turn.of_below hb)
theorem crash_len (D : DS) (keep : List Bool) (torn : Int) (c : Nat) : (D.crash keep torn c).secs.length = D.secs.length := length_crashK _ _ _ _ _ _
def SsUp (w0 w : World) (t p x m n : Nat) (kv nv : Value) (b : Int) : Prop :=
 ∃ P F N, Tf w0 w t p x m P F ∧ Asd w F m kv nv P.K N ∧ ((Pu m n P ∧ N = P.K) ∨ Pd m n P N) ∧ 2 ≤ P.s ∧ P.s ≤ b
def SsDn (w0 w : World) (p m n : Nat) (kv nv : Value) (b : Int) (ev : Bool) : Prop :=
 ∃ D F K N M s, Lf w0 w p D F ∧ Asd w F m kv nv K N ∧ (M = K ∨ M = N) ∧ Rdy D m s (prt M) ∧ Fine M ∧ Byt M ∧ M.length = 32 * m ∧ D.secs.length = n ∧ 2 ≤ s ∧ s ≤ b ∧ (ev = true → D.left < 0)
def SsGo (w0 w : World) (p m n : Nat) (kv nv : Value) (b : Int) : Prop :=
 ∃ D F K N M s, Lf w0 w p D F ∧ Asd w F m kv nv K N ∧ (M = K ∨ M = N) ∧ (∀ keep torn c, c ≤ 32 → Rdy (D.crash keep torn c) m s (prt M)) ∧ Fine M ∧ Byt M ∧ M.length = 32 * m ∧ D.secs.length = n ∧ 2 ≤ s ∧ s ≤ b
theorem SsUp.base (h : SsUp w0 w t p x m n kv nv b) : Below w0.heap.size w0 w := by obtain ⟨P, F, N, h, _⟩ := h; exact h.base
theorem SsUp.mono {c : Int} (h : SsUp w0 w t p x m n kv nv b) (hc : b ≤ c) : SsUp w0 w t p x m n kv nv c := by
 obtain ⟨P, F, N, h1, h2, h3, h4, h5⟩ := h
 exact ⟨P, F, N, h1, h2, h3, h4, by omega⟩
theorem ss_pz (h : (Pu m n P ∧ N = P.K) ∨ Pd m n P N) : Pz m n P := by
 rcases h with ⟨h, _⟩ | h
 ·exact .inl h
 ·exact .inr ⟨N, h⟩
theorem ss_next (h : (Pu m n P ∧ N = P.K) ∨ Pd m n P N) (hs : P.s ≤ 999) (o : OpP) (ho : Byt o.2.2.2.2.2) :
  (o.1 = 6 → (psDo m P o).2 = 0 → Pu m n (psDo m P o).1 ∧ (psDo m P o).1.K = P.L) ∧
  (o.1 = 6 → (psDo m P o).2 ≠ 0 → P.D.down = false → (psDo m P o).1.D.down = true → Pd m n (psDo m P o).1 P.L ∧ (psDo m P o).1.K = P.K) ∧
  ((o.1 ≠ 6 ∨ ((psDo m P o).2 ≠ 0 ∧ (P.D.down = true ∨ (psDo m P o).1.D.down = false))) → ((Pu m n (psDo m P o).1 ∧ N = (psDo m P o).1.K) ∨ Pd m n (psDo m P o).1 N) ∧ (psDo m P o).1.K = P.K) := by
 rcases h with ⟨h, hN⟩ | h
 ·have hd : P.D.down = false := (h.stays hs).1
  rcases h.step hs o ho with ⟨h1, h2, h3, h4, h5, h6⟩ | ⟨h1, h2, h3, h4, h5, h6, h7⟩
  ·obtain ⟨a, nl, hnt⟩ := h1.nt
   refine ⟨fun e6 e0 => ⟨h1, h5 e6 e0⟩, fun _ _ _ hdn => ?_, fun hc => ?_⟩
   ·rw [hnt.down] at hdn; cases hdn
   ·have hK : (psDo m P o).1.K = P.K := by
     by_cases e6 : o.1 = 6
     ·rcases hc with hc | hc
      ·exact absurd e6 hc
      ·exact (co_same e6).2.2 hc.1
     ·exact do_kept e6
    exact ⟨.inl ⟨h1, by rw [hK]; exact hN⟩, hK⟩
  ·refine ⟨fun _ e0 => ?_, fun _ _ _ _ => ⟨h3, h4⟩, fun hc => ?_⟩
   ·rw [h2] at e0; cases e0
   ·rcases hc with hc | ⟨_, hc | hc⟩
    ·exact absurd h1 hc
    ·rw [hd] at hc; cases hc
    ·rw [h3.down] at hc; cases hc
 ·obtain ⟨h1, h2, h3, h4, h5⟩ := h.step o ho
  refine ⟨fun e6 e0 => ?_, fun _ _ hd _ => ?_, fun _ => ⟨.inr h1, h2⟩⟩
  ·rw [h5 e6] at e0
   split at e0 <;> cases e0
  ·rw [h.down] at hd; cases hd
theorem SsUp.crash (h : SsUp w0 w t p x m n kv nv b) (torn cut : Int) {a : Option Addr} {cap : Nat} {keep : List Bool} (hb : Bls w0 a cap keep) :
  Calls Tryz.prog 19 #[.pointer (some ⟨p, 0, none⟩), .slice a keep.length cap, .int .i64 torn, .int .i64 cut] w fun e w' => (∃ v, e = .returned v) ∧ SsDn w0 w' p m n kv nv (b + 1) true := by
 obtain ⟨P, F, N, htf, hasd, hst, hs1, hs2⟩ := h
 have hbl : Bls w a cap keep ∧ (keep ≠ [] → ∀ x, a = some x → ¬ F x.block) := by
  obtain ⟨b1, b2, b3⟩ := hb
  refine ⟨⟨b1, b2, fun hne => ?_⟩, fun hne x hx hf => ?_⟩
  ·obtain ⟨bb, off, rfl, hc⟩ := b3 hne
   exact ⟨bb, off, rfl, fun i hi => (htf.base.cell (p := ⟨bb, off + i, none⟩) (block_lt_of_cell (hc i hi))).trans (hc i hi)⟩
  ·obtain ⟨bb, off, rfl, hc⟩ := b3 hne
   obtain rfl := Option.some.inj hx
   have h1 := block_lt_of_cell (hc 0 (by cases keep with | nil => exact absurd rfl hne | cons _ _ => simp))
   have h2 := htf.ge _ hf
   simp at h1 h2; omega
 refine (htf.dev.crash torn cut hbl).mono ?_
 rintro e w' ⟨rfl, F', hlf, ht⟩
 refine ⟨⟨_, rfl⟩, ?_⟩
 have hsec : (P.D.crash keep torn (cutN cut)).secs.length = P.D.secs.length := by
  exact crash_len P.D keep torn (cutN cut)
 rcases hst with ⟨hu, hN⟩ | hd
 ·exact ⟨_, F', P.K, N, P.K, P.s, hlf, hasd.turn ht, .inl rfl, hu.opens keep torn (cutN cut), hu.fk, hu.bk, hu.lk, hsec.trans hu.sn, hs1, by omega, fun _ => by show (-1 : Int) < 0; decide⟩
 ·obtain ⟨M, s, hM, hr, f1, f2, f3, f4, f5⟩ := hd.opens keep torn (cutN_le cut)
  exact ⟨_, F', P.K, N, M, s, hlf, hasd.turn ht, hM, hr, f1, f2, f3, hsec.trans hd.sn, by omega, by omega, fun _ => by show (-1 : Int) < 0; decide⟩
theorem SsDn.fail {ev : Bool} (h : SsDn w0 w p m n kv nv b ev) (f : Int) (hf : -9223372036854775808 ≤ f ∧ f ≤ 9223372036854775807) :
  Calls Tryz.prog 17 #[.pointer (some ⟨p, 0, none⟩), .int .i64 f] w fun e w' => e = .returned (.tuple #[]) ∧ SsDn w0 w' p m n kv nv b (decide (f < 0)) := by
 obtain ⟨D, F, K, N, M, s, h1, h2, h3, h4, h5, h6, h7, h8, h9, h10, h11⟩ := h
 refine (h1.fail f hf).mono ?_
 rintro e w' ⟨rfl, F', hl, ht⟩
 exact ⟨rfl, _, F', K, N, M, s, hl, h2.turn ht, h3, h4.fail hf, h5, h6, h7, h8, h9, h10, fun e => by simpa using e⟩
def SsHd (w0 w : World) (t p x m n : Nat) (kv nv : Value) (b : Int) : Prop :=
 ∃ P F, Tf w0 w t p x m P F ∧ Asd w F m kv nv P.K P.K ∧ Pu m n P ∧ 2 ≤ P.s ∧ P.s ≤ b
theorem SsHd.base (h : SsHd w0 w t p x m n kv nv b) : Below w0.heap.size w0 w := by obtain ⟨P, F, h, _⟩ := h; exact h.base
theorem SsHd.up (h : SsHd w0 w t p x m n kv nv b) : SsUp w0 w t p x m n kv nv b := by
 obtain ⟨P, F, h1, h2, h3, h4, h5⟩ := h
 exact ⟨P, F, P.K, h1, h2, .inl ⟨h3, rfl⟩, h4, h5⟩
theorem SsHd.fail (h : SsHd w0 w t p x m n kv nv b) (f : Int) (hf : -9223372036854775808 ≤ f ∧ f ≤ 9223372036854775807) :
  Calls Tryz.prog 17 #[.pointer (some ⟨p, 0, none⟩), .int .i64 f] w fun e w' => e = .returned (.tuple #[]) ∧ SsHd w0 w' t p x m n kv nv b := by
 obtain ⟨P, F, h1, h2, h3, h4, h5⟩ := h
 refine (h1.fail f hf).mono ?_
 rintro e w' ⟨rfl, F', hl, ht⟩
 exact ⟨rfl, _, F', hl, h2.turn ht, h3.lefts hf, h4, h5⟩
theorem SsDn.try (h : SsDn w0 w p m n kv nv b false) (hm0 : cntI n = m) (hm1 : 1 ≤ m) (hm2 : m ≤ 200) :
  Calls Tryz.prog 12 #[.pointer (some ⟨p, 0, none⟩)] w fun e w' =>
   (∃ t : Nat, e = .returned (.tuple #[.pointer (some ⟨t, 0, none⟩), .nilIface]) ∧ SsDn w0 w' p m n kv nv b false) ∨
   (e = .returned (.tuple #[.pointer none, errV 9]) ∧ SsGo w0 w' p m n kv nv b) := by
 obtain ⟨D, F, K, N, M, s, h1, h2, h3, h4, h5, h6, h7, h8, h9, h10, h11⟩ := h
 refine (h1.open (by rw [h8]; exact hm0) hm1 hm2 h4 h7 h6 h5).mono ?_
 rintro e w' (⟨t, x, rfl, D', F', htf, hpu, _, ht⟩ | ⟨rfl, _, D', F', hl, ht, hsec, hr⟩)
 ·obtain ⟨a, nl, hnt⟩ := hpu.nt
  exact .inl ⟨t, rfl, D', F', K, N, M, s, htf.dev, h2.turn ht, h3, hnt.rdy, h5, h6, h7, hpu.sn.trans h8, h9, h10, fun e => by cases e⟩
 ·exact .inr ⟨rfl, D', F', K, N, M, s, hl, h2.turn ht, h3, hr, h5, h6, h7, hsec.trans h8, h9, h10⟩
theorem SsGo.crash (h : SsGo w0 w p m n kv nv b) (torn cut : Int) {a : Option Addr} {cap : Nat} {keep : List Bool} (hb : Bls w0 a cap keep) :
  Calls Tryz.prog 19 #[.pointer (some ⟨p, 0, none⟩), .slice a keep.length cap, .int .i64 torn, .int .i64 cut] w fun e w' => (∃ v, e = .returned v) ∧ SsDn w0 w' p m n kv nv b false := by
 obtain ⟨D, F, K, N, M, s, h1, h2, h3, h4, h5, h6, h7, h8, h9, h10⟩ := h
 obtain ⟨S, hl, hF⟩ := h1
 have hbl := hl.bls hb
 have h1' : Lf w0 w p D S := ⟨S, hl, fun k hk => hk⟩
 refine (h1'.crash torn cut hbl).mono ?_
 rintro e w' ⟨rfl, F', hlf, ht⟩
 obtain ⟨S', hl', hF'⟩ := hlf
 have ht2 : Turn F (fun k => F k ∨ F' k) w w' := ⟨ht.os, ht.tape, ht.output, ht.size, fun k hk hn => ht.block k hk (fun hs => hn (hF k hs)), fun k hk hf => by
  rcases hf with hf | hf
  ·exact hf
  ·exact hF k (ht.foot k hk hf)⟩
 exact ⟨⟨_, rfl⟩, _, _, K, N, M, s, ⟨S', hl', fun k hk => .inr (hF' k hk)⟩, h2.turn ht2, h3, h4 keep torn (cutN cut) (cutN_le cut), h5, h6, h7, (crash_len D keep torn (cutN cut)).trans h8, h9, h10, fun e => by cases e⟩
theorem SsDn.open (h : SsDn w0 w p m n kv nv b true) (hm0 : cntI n = m) (hm1 : 1 ≤ m) (hm2 : m ≤ 200) :
  Calls Tryz.prog 12 #[.pointer (some ⟨p, 0, none⟩)] w fun e w' =>
   ∃ t x, e = .returned (.tuple #[.pointer (some ⟨t, 0, none⟩), .nilIface]) ∧ ∃ P F K N, Tf w0 w' t p x m P F ∧ Pu m n P ∧ P.L = P.K ∧ Asd w' F m kv nv K N ∧ (P.K = K ∨ P.K = N) ∧ 2 ≤ P.s ∧ P.s ≤ b := by
 obtain ⟨D, F, K, N, M, s, h1, h2, h3, h4, h5, h6, h7, h8, h9, h10, h11⟩ := h
 refine (h1.open (by rw [h8]; exact hm0) hm1 hm2 h4 h7 h6 h5).mono ?_
 rintro e w' (⟨t, x, rfl, D', F', htf, hpu, _, ht⟩ | ⟨rfl, hno, _⟩)
 ·rw [h8] at hpu
  exact ⟨t, x, rfl, _, F', K, N, htf, hpu, rfl, h2.turn ht, h3, h9, h10⟩
 ·exact absurd (h11 rfl) hno
theorem bsO_row {B g c : Nat} {cur : Array Value} {L : List Int} (hF : ∀ k, F k → k < B) (hr : Row w B g c cur L) (hb : Byt L) (hl : L.length = 32 * m) (hm : m ≤ 200) : BsO w F (some ⟨g, 0, none⟩) c L :=
 ⟨hr.bs hb (by omega), fun _ x hx hf => by
  obtain rfl := Option.some.inj hx
  have h1 := hF _ hf
  have h2 := hr.1
  simp at h1
  omega⟩
theorem SsHd.make {w1 : World} {g c : Nat} {cur : Array Value} (h : Tf w0 w t p x m P F) (h1 : Tf w0 w1 t p x m P F) (hr : Row w1 w.heap.size g c cur P.L) (hu : Pu m n P) (hL : P.L = P.K) (hm : m ≤ 200) (hs1 : 2 ≤ P.s) (hs2 : P.s ≤ b) :
  SsHd w0 w1 t p x m n (.slice (some ⟨g, 0, none⟩) P.L.length c) (.slice (some ⟨g, 0, none⟩) P.L.length c) b := by
 have hb := bsO_row (m := m) h.lt hr hu.bl hu.ll hm
 rw [hL] at hb
 refine ⟨P, F, h1, ⟨⟨_, c, by rw [hu.ll], hb⟩, ⟨_, c, by rw [hu.ll], hb⟩, hu.lk, hu.lk⟩, hu, hs1, hs2⟩
theorem ss_step {N : List Int} {aw : Option Addr} {cw : Nat} (htf : Tf w0 w t p x m P F) (hasd : Asd w F m kv nv P.K N) (hst : (Pu m n P ∧ N = P.K) ∨ Pd m n P N) (hw : BsO w F aw cw P.L) (hs1 : 2 ≤ P.s) (hs2 : P.s ≤ b) (hb : b ≤ 999) (r : OpR) (hin : OpIn w0 r) :
  Calls Tryz.prog 10 #[.pointer (some ⟨t, 0, none⟩), opV r] w fun e w' => ∃ (E : Int) (dn : Bool), e = .returned (errV E) ∧
   (Calls Tryz.prog 18 #[.pointer (some ⟨p, 0, none⟩)] w' fun e w'' => e = .returned (.bool dn) ∧ w' = w'') ∧
   (r.1 = 6 → E = 0 → SsUp w0 w' t p x m n (.slice aw P.L.length cw) (.slice aw P.L.length cw) (b + 1)) ∧
   (r.1 = 6 → E ≠ 0 → P.D.down = false → dn = true → SsUp w0 w' t p x m n kv (.slice aw P.L.length cw) (b + 1)) ∧
   ((r.1 ≠ 6 ∨ (E ≠ 0 ∧ (P.D.down = true ∨ dn = false))) → SsUp w0 w' t p x m n kv nv (b + 1)) ∧
   (∀ j, j < w.heap.size → ¬ F j → w'.heap[j]? = w.heap[j]?) := by
 obtain ⟨a1, a2, a3, a4, a5, a6⟩ := hin
 have hz := ss_pz hst
 have hLl : P.L.length = 32 * m := by
  rcases hst with ⟨hu, _⟩ | hd
  ·exact hu.ll
  ·exact hd.ll
 obtain ⟨z1, z2, z3⟩ := hz.step (by omega) (opP r) a6.1
 obtain ⟨n1, n2, n3⟩ := ss_next hst (by omega) (opP r) a6.1
 refine (htf.do r ⟨a1, a2, a3, a4, a5, a6.below htf.base⟩ hz (by omega) (by omega)).mono ?_
 rintro e w' ⟨rfl, F', h1, ht⟩
 refine ⟨_, (psDo m P (opP r)).1.D.down, rfl, h1.dev.down, fun h6 hE => ?_, fun h6 hE hd hdn => ?_, fun hc => ?_, fun j hj hn => ht.block j hj hn⟩
 ·obtain ⟨q1, q2⟩ := n1 h6 hE
  have hwt := hw.turn ht
  refine ⟨_, F', (psDo m P (opP r)).1.K, h1, ?_, .inl ⟨q1, rfl⟩, by omega, by omega⟩
  rw [q2]
  exact ⟨⟨aw, cw, by rw [hLl], hwt⟩, ⟨aw, cw, by rw [hLl], hwt⟩, hLl, hLl⟩
 ·obtain ⟨q1, q2⟩ := n2 h6 hE hd hdn
  obtain ⟨b1, b2, b3, b4⟩ := hasd.turn ht
  refine ⟨_, F', P.L, h1, ?_, .inr q1, by omega, by omega⟩
  rw [q2]
  exact ⟨b1, ⟨aw, cw, by rw [hLl], hw.turn ht⟩, b3, hLl⟩
 ·obtain ⟨q1, q2⟩ := n3 hc
  refine ⟨_, F', N, h1, ?_, q1, by omega, by omega⟩
  rw [q2]
  exact hasd.turn ht
end
end Go.Proofs.YtmmgadnicodakaaGreat
