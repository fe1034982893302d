/-
  Joined by program: TfA; TfB; PoPlain. (Parts of the proofs over the packages of the program.)
-/
import Derived.Test.YtknjdhnldfebjaaGreatDoorJSu
import Derived.Test.YtknjdhnldfebjaaGreatDoorJPy
import Derived.Test.YtknjdhnldfebjaaGreatDoorJHp
import Derived.Test.YtknjdhnldfebjaaGreatDoorJHq
import Derived.Test.YtknjdhnldfebjaaGreatDoorJRt
import Derived.Test.YtknjdhnldfebjaaGreatDoorJRh
import Derived.Test.YtknjdhnldfebjaaGreatDoorJMv
namespace Go.Proofs.YtknjdhnldfebjaaGreatDoor
open Go.RowKit
set_option linter.unusedVariables false
def Tf (w0 w : World) (t p x m : Nat) (P : Ps) (F : Nat → Prop) : Prop :=
 ∃ q S g c gk ck, Sto w0 w t p q S P.D P.s m x g c P.L gk ck P.K P.D.down ∧ F = footA S q t gk x g
def Lf (w0 w : World) (p : Nat) (D : DS) (F : Nat → Prop) : Prop := ∃ S, Live w0 w p S D ∧ ∀ k, S k → F k
section
variable {w0 w w' : World} {t p x m n : Nat} {P : Ps} {D : DS} {F : Nat → Prop}
theorem Tf.base (h : Tf w0 w t p x m P F) : Below w0.heap.size w0 w := by obtain ⟨q, S, g, c, gk, ck, hs, _⟩ := h; exact hs.base
theorem Tf.below (h : Tf w0 w t p x m P F) (hb : Below w.heap.size w w') : Tf w0 w' t p x m P F := by
 obtain ⟨q, S, g, c, gk, ck, hs, rfl⟩ := h
 exact ⟨q, S, g, c, gk, ck, hs.below hb, rfl⟩
theorem Tf.heap (h : Tf w0 w t p x m P F) : Calls Tryz.prog 7 #[.pointer (some ⟨t, 0, none⟩)] w fun e w' => e = .returned (.pointer (some ⟨x, 0, none⟩)) ∧ w = w' := by
 obtain ⟨q, S, g, c, gk, ck, hs, _⟩ := h
 exact stHeap_any hs
theorem Tf.ask (h : Tf w0 w t p x m P F) {f : Nat} {ar : Array Value} {Q : Ending → World → Prop}
  (hc : ∀ (g c : Nat), Hp w w0.heap.size x g c P.L → Calls Tryz.prog f ar w fun e w' => Q e w' ∧ Below w.heap.size w w') :
  Calls Tryz.prog f ar w fun e w' => Q e w' ∧ Tf w0 w' t p x m P F ∧ Below w.heap.size w w' := by
 have h' := h
 obtain ⟨q, S, g, c, gk, ck, hs, _⟩ := h
 refine (hc g c hs.hp).mono ?_
 rintro e w' ⟨hq, hb⟩
 exact ⟨hq, h'.below hb, hb⟩
theorem Tf.bytes (h : Tf w0 w t p x m P F) :
  Calls Tryz.prog 8 #[.pointer (some ⟨x, 0, none⟩)] w fun e w' => (∃ g c cur, e = .returned (.slice (some ⟨g, 0, none⟩) P.L.length c) ∧ Row w' w.heap.size g c cur P.L) ∧ Tf w0 w' t p x m P F ∧ Below w.heap.size w w' :=
 h.ask (fun g c hh => (hBytes_any x g c w0.heap.size P.L w hh).mono fun e w' ⟨a', c', he, ho, hb⟩ => by
  obtain ⟨gn, cur, e1, hr, _⟩ := ho.row (by intro e; have := hh.fine.len; rw [e] at this; simp at this)
  subst e1
  exact ⟨⟨gn, c', cur, he, hr⟩, hb⟩)
theorem Tf.commit (h : Tf w0 w t p x m P F) (h0 : 0 ≤ P.s) (h1 : P.s < 4294967295) (hup : P.D.down = false → (psCo m P).2 = 0 → (psCo m P).1.D.down = false) :
  Calls Tryz.prog 53 #[.pointer (some ⟨t, 0, none⟩)] w fun e w' => e = .returned (errV (psCo m P).2) ∧ ∃ F', Tf w0 w' t p x m (psCo m P).1 F' ∧ Turn F F' w w' := by
 obtain ⟨q, S, g, c, gk, ck, hs, rfl⟩ := h
 have e2 : (psCo m P).2 = (commitOut P.D P.s m (dfP P.K P.L m)).2.2 := rfl
 have eD : (psCo m P).1.D = (commitOut P.D P.s m (dfP P.K P.L m)).1 := rfl
 have eS : (psCo m P).1.s = (commitOut P.D P.s m (dfP P.K P.L m)).2.1 := rfl
 have eK : (psCo m P).1.K = if (psCo m P).2 = 0 then P.L else P.K := rfl
 have eL : (psCo m P).1.L = P.L := rfl
 cases hd : P.D.down with
 | true =>
  have hco := commitOut_down hd P.s m (dfP P.K P.L m)
  have hce := dfP_commit (K := P.K) hs.len
  have he : (commitOut P.D P.s m (dfP P.K P.L m)).2.2 = if 23 < (drtN P.K P.L m).length then 4 else 9 := by
   rw [hco, hce]
   by_cases h23 : 23 < (drtN P.K P.L m).length
   ·rw [if_pos h23, if_pos h23]; rfl
   ·rw [if_neg h23, if_neg h23]; rfl
  have hne : ¬ (psCo m P).2 = 0 := by rw [e2, he]; split <;> decide
  refine (stCommit_down hs hd h0 h1).mono ?_
  rintro e w' ⟨rfl, S', hs', ht⟩
  refine ⟨by rw [e2, he], _, ⟨q, S', g, c, gk, ck, ?_, rfl⟩, ht⟩
  rw [eK, if_neg hne, eL, eD, eS, hco]
  exact hs'
 | false =>
  rw [hd] at hs
  by_cases hE : (psCo m P).2 = 0
  ·have hE' : (commitOut P.D P.s m (dfP P.K P.L m)).2.2 = 0 := by rw [← e2]; exact hE
   refine (stCommit_yes hs h0 h1 hE').mono ?_
   rintro e w' ⟨rfl, S', gn, cn, hs', ht⟩
   refine ⟨by rw [hE]; rfl, _, ⟨q, S', g, c, gn, cn, ?_, rfl⟩, ht⟩
   rw [hup hd hE, eK, if_pos hE, eL, eD, eS]
   exact hs'
  ·have hE' : (commitOut P.D P.s m (dfP P.K P.L m)).2.2 ≠ 0 := by rw [← e2]; exact hE
   refine (stCommit_err hs (fun e => by cases e) h0 h1 hE').mono ?_
   rintro e w' ⟨rfl, S', hs', ht⟩
   refine ⟨by rw [e2], _, ⟨q, S', g, c, gk, ck, ?_, rfl⟩, ht⟩
   rw [hd] at hs'
   rw [eK, if_neg hE, eL, eD, eS]
   exact hs'
theorem Lf.open {s : Int} {K : List Int} (h : Lf w0 w p D F) (hm0 : cntI D.secs.length = m) (hm1 : 1 ≤ m) (hm2 : m ≤ 200) (hr : Rdy D m s (prt K)) (hK : K.length = 32 * m) (hby : Byt K) (hf : Fine K) :
  Calls Tryz.prog 24 #[.pointer (some ⟨p, 0, none⟩)] w fun e w' =>
   (∃ t x, e = .returned (.tuple #[.pointer (some ⟨t, 0, none⟩), .nilIface]) ∧ ∃ D' F', Tf w0 w' t p x m ⟨D', s, K, K⟩ F' ∧ Pu m D.secs.length ⟨D', s, K, K⟩ ∧ (D.left < 0 → D'.left < 0) ∧ Turn F F' w w') ∨
   (e = .returned (.tuple #[.pointer none, errV 9]) ∧ ¬ D.left < 0 ∧ ∃ D' F', Lf w0 w' p D' F' ∧ Turn F F' w w' ∧ D'.secs.length = D.secs.length ∧ ∀ keep torn c, c ≤ 32 → Rdy (D'.crash keep torn c) m s (prt K)) := by
 obtain ⟨S, hl, hF⟩ := h
 have hop := open_go hl hm0 hm1 hr.down
 have hsz := hl.bel.size
 rcases rdy_open hr with ⟨r1, r2, r3, r4, r5⟩ | ⟨r1, r2, r3, r4, r5⟩
 ·rw [r1, r2, errV_zero] at hop
  obtain ⟨a, l, hnt⟩ := r4
  refine (stOpen_load (hop.mono ?_)).mono (fun e w' h => h.2)
  rintro e w1 ⟨v, rfl, S1, hl1, ht1, hyes, _⟩
  obtain ⟨q, rfl, hpg, hq, hout⟩ := hyes (by trivial)
  refine ⟨q, rfl, hide ((stLoad_yes hl1 hpg hout (by omega) (by rw [r3.len]; exact hm0) hm2 (by rw [r3.len]; exact hr.len) hnt.down hK (fun i hi => by rw [rd_img r3.mem]; exact r3.pages i hi) hby hf).mono ?_)⟩
  rintro e w2 ⟨t, x, g, c, gk, rfl, hs, hge, hb⟩
  have ht2 := ht1.trans (Turn.of_below (S := S1) hb)
  have hs1 := ht1.size
  refine ⟨_, _, rfl, hide (.inl ⟨t, x, rfl, _, _, ⟨q, S1, g, c, gk, _, by show Sto w0 w2 t p q S1 _ s m x g c K gk (32 * m) K (openP D m).1.down; rw [hnt.down]; exact hs, rfl⟩, ⟨⟨a, l, hnt⟩, hf, hf, hby, hby, hK, hK, r3.len⟩, r5, ⟨ht2.os, ht2.tape, ht2.output, ht2.size, fun k hk hn => ht2.block k hk (fun hs => hn (hF k hs)), fun k hk hff => ?_⟩⟩)⟩
  rcases hff with (hff | hff) | hff
  ·exact hF k (ht2.foot k hk hff)
  ·omega
  ·have := hge k hff; omega
 ·rw [r1] at hop
  refine (stOpen_err (E := 9) (by decide) (Q := fun w' => ∃ D' F', Lf w0 w' p D' F' ∧ Turn F F' w w' ∧ D'.secs.length = D.secs.length ∧ ∀ keep torn c, c ≤ 32 → Rdy (D'.crash keep torn c) m s (prt K)) (hop.mono ?_)).mono ?_
  ·rintro e w1 ⟨v, rfl, S1, hl1, ht1, _, hno⟩
   obtain rfl := hno (by decide)
   refine ⟨rfl, hide ⟨_, fun k => F k ∨ S1 k, ⟨S1, hl1, fun k hk => .inr hk⟩, ⟨ht1.os, ht1.tape, ht1.output, ht1.size, fun k hk hn => ht1.block k hk (fun hs => hn (hF k hs)), fun k hk hff => ?_⟩, r4, r5⟩⟩
   rcases hff with hff | hff
   ·exact hff
   ·exact hF k (ht1.foot k hk hff)
  ·rintro e w1 ⟨rfl, hx⟩
   exact .inr ⟨rfl, r2, hx⟩
def crP (n m : Nat) : Ps := ⟨crD n m, 2, zerosB (32 * m), zerosB (32 * m)⟩
theorem crP_up (h1 : 57 ≤ n) (h2 : n ≤ 300) (hm : cntI n = m) : Pu m n (crP n m) ∧ (crP n m).D.left < 0 := by
 have hm2 : 9 ≤ m ∧ m ≤ 200 ∧ 48 + m ≤ n := by
  unfold cntI at hm
  split at hm <;> omega
 obtain ⟨z1, z2, z4, z3⟩ := crD_neat (m := m) h1 h2 hm2.2.2 hm2.2.1
 have hf := (zeros_fine (n := 32 * m) (by omega) (by omega)).1
 have hb := byt_zerosB (32 * m)
 have hl := length_zerosB (32 * m)
 refine ⟨⟨⟨0, [], ?_⟩, hf, hf, hb, hb, hl, hl, z3⟩, z4⟩
 refine ⟨z2.ok, z2.mem, z2.down, z2.len, z2.lt, z2.two, z2.even, z2.s1, z2.s2, z2.got, z2.redo, z2.pages, ?_⟩
 have hnf := nt_format (n := n) (m := m) (by omega) h2 hm2.2.2 hm2.2.1
 have hl0 := format_left n
 have e : (crP n m).D.secs.getD (1 - 0) [] = (formatRun (DS.new n)).1.secs.getD (1 - 0) [] := by
  have r0 : Run (fun k => 48 ≤ k ∧ k < 48 + m) (img (formatRun (DS.new n)).1) (formatRun (DS.new n)).1.secs.length ((formatRun (DS.new n)).1, 0) := ⟨hnf.ok, only_img hnf.mem _, rfl, .inl ⟨rfl, hnf.down⟩⟩
  have hlen := hnf.len
  have r1 := r0.ws (f := fun i => (48 + (i : Int), zerosB 32)) m (fun j hj => ⟨by dsimp only; omega, by dsimp only; omega, sec_zeros, by dsimp only; omega, by dsimp only; omega⟩)
  exact (r1.f.only (1 - 0) (by omega)).2
 rw [e]
 exact hnf.bk
theorem tf_create {S : Nat → Prop} (h : Live w0 w p S (DS.new n)) (h1 : 57 ≤ n) (h2 : n ≤ 300) (hm : cntI n = m) :
  Calls Tryz.prog 6 #[.pointer (some ⟨p, 0, none⟩)] w fun e w' => ∃ t x, e = .returned (.tuple #[.pointer (some ⟨t, 0, none⟩), .nilIface]) ∧ ∃ F, Tf w0 w' t p x m (crP n m) F :=
 (stCreate_new h h1 h2 hm).mono fun e w' ⟨t, x, he, q, S', g, c, gk, hs⟩ => by
  obtain ⟨⟨⟨a, nl, hn⟩, _⟩, _⟩ := crP_up h1 h2 hm
  refine ⟨t, x, he, _, q, S', g, c, gk, 32 * m, ?_, rfl⟩
  have hd : (crP n m).D.down = false := hn.down
  rw [hd]
  exact hs
end
end Go.Proofs.YtknjdhnldfebjaaGreatDoor
namespace Go.Proofs.YtknjdhnldfebjaaGreatDoor
open Go.RowKit
set_option linter.unusedVariables false
section
variable {w0 w w' : World} {t p x m n : Nat} {P : Ps} {F : Nat → Prop}
theorem Pu.stays (h : Pu m n P) (hs : P.s ≤ 999) : P.D.down = false ∧ ((psCo m P).2 = 0 → (psCo m P).1.D.down = false) := by
 obtain ⟨a, nl, hn⟩ := h.nt
 refine ⟨hn.down, fun h0 => ?_⟩
 rcases nt_commit hn hs h.lk h.ll h.bl with ⟨_, k2⟩ | ⟨_, k2⟩ | ⟨_, _, _, ⟨a', nl', hn'⟩, _, _⟩ | ⟨_, _, k3, _⟩
 ·show (commitOut P.D P.s m (dfP P.K P.L m)).1.down = false
  rw [k2]; exact hn.down
 ·show (commitOut P.D P.s m (dfP P.K P.L m)).1.down = false
  rw [k2]; exact hn.down
 ·exact hn'.down
 ·have : (psCo m P).2 = 9 := by
   show (commitOut P.D P.s m (dfP P.K P.L m)).2.2 = 9
   rw [k3]
  rw [this] at h0
  cases h0
end
end Go.Proofs.YtknjdhnldfebjaaGreatDoor
namespace Go.Proofs.YtknjdhnldfebjaaGreatDoor
open Go.RowKit
set_option linter.unusedVariables false
section
variable {m n : Nat} {p : Ps}
def Pz (m n : Nat) (p : Ps) : Prop := Pu m n p ∨ ∃ N, Pd m n p N
theorem Pz.step (h : Pz m n p) (hs : p.s ≤ 999) (o : OpP) (ho : Byt o.2.2.2.2.2) : Pz m n (psDo m p o).1 ∧ p.s ≤ (psDo m p o).1.s ∧ (psDo m p o).1.s ≤ p.s + 1 := by
 rcases h with h | ⟨N, h⟩
 ·rcases h.step hs o ho with ⟨h1, h2, h3, _⟩ | ⟨_, _, h3, _, h5, _⟩
  ·exact ⟨.inl h1, h2, h3⟩
  ·exact ⟨.inr ⟨_, h3⟩, by rw [h5]; exact Int.le_refl _, by rw [h5]; omega⟩
 ·obtain ⟨h1, _, h3, _⟩ := h.step o ho
  exact ⟨.inr ⟨N, h1⟩, by rw [h3]; exact Int.le_refl _, by rw [h3]; omega⟩
theorem Pz.stays (h : Pz m n p) (hs : p.s ≤ 999) : p.D.down = false → (psCo m p).2 = 0 → (psCo m p).1.D.down = false := by
 rcases h with h | ⟨N, h⟩
 ·exact fun _ => (h.stays hs).2
 ·intro hd
  rw [h.down] at hd
  cases hd
theorem pz_run : ∀ (l : List OpP) {p : Ps}, Pz m n p → p.s + l.length ≤ 1000 → (∀ o ∈ l, Byt o.2.2.2.2.2) → Pz m n (psRun m p l) ∧ p.s ≤ (psRun m p l).s ∧ (psRun m p l).s ≤ p.s + l.length
 | [], p, h, _, _ => ⟨h, Int.le_refl _, by show p.s ≤ p.s + ((0 : Nat) : Int); omega⟩
 | o :: l, p, h, hs, hb => by
  rw [List.length_cons] at hs
  obtain ⟨h1, h3, h4⟩ := h.step (by omega) o (hb o (by simp))
  obtain ⟨i1, i3, i4⟩ := pz_run l h1 (by omega) (fun x hx => hb x (by simp [hx]))
  refine ⟨i1, by show p.s ≤ (psRun m (psDo m p o).1 l).s; omega, ?_⟩
  show (psRun m (psDo m p o).1 l).s ≤ p.s + ((l.length + 1 : Nat) : Int)
  omega
theorem psRun_snoc (p : Ps) (l : List OpP) (o : OpP) : psRun m p (l ++ [o]) = (psDo m (psRun m p l) o).1 := psRun_append m l [o] p
end
end Go.Proofs.YtknjdhnldfebjaaGreatDoor
