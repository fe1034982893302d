/-
  Joined by program: TlA; TlOne. (Parts of the proofs over the packages of the program.)
-/
import Derived.Test.YtknjdhnldfebjaaGreatDoorJSt
import Derived.Test.YtknjdhnldfebjaaGreatDoorJHq
import Derived.Test.YtknjdhnldfebjaaGreatDoorJRt
import Derived.Test.YtknjdhnldfebjaaGreatDoorJRh
import Derived.Test.YtknjdhnldfebjaaGreatDoorJMv
import Derived.Test.YtknjdhnldfebjaaGreatDoorJPy
namespace Go.Proofs.YtknjdhnldfebjaaGreatDoor
open Go.RowKit
set_option linter.unusedVariables false
def Kp (T : Nat → Prop) (w w' : World) : Prop := ∀ k, T k → w'.heap[k]? = w.heap[k]?
def Tl (w0 w : World) (t p x : Nat) (s : Int) (m n : Nat) (L K : List Int) (T : Nat → Prop) : Prop :=
 ∃ q S D g c gk ck a nl, Sto w0 w t p q S D s m x g c L gk ck K false ∧ Neat D m s (prt K) a nl ∧ D.left < 0 ∧ D.secs.length = n ∧ ∀ k, T k → k < w.heap.size ∧ ¬ footA S q t gk x g k
section
variable {w0 w w' : World} {t p x : Nat} {s : Int} {m n : Nat} {L K : List Int} {T T' : Nat → Prop}
theorem Tl.base (h : Tl w0 w t p x s m n L K T) : Below w0.heap.size w0 w := by obtain ⟨q, S, D, g, c, gk, ck, a, nl, hs, _⟩ := h; exact hs.base
theorem Tl.below (h : Tl w0 w t p x s m n L K T) (hb : Below w.heap.size w w') : Tl w0 w' t p x s m n L K T := by
 obtain ⟨q, S, D, g, c, gk, ck, a, nl, hs, hn, hl, hd, hT⟩ := h
 exact ⟨q, S, D, g, c, gk, ck, a, nl, hs.below hb, hn, hl, hd, fun k hk => ⟨Nat.lt_of_lt_of_le (hT k hk).1 hb.size, (hT k hk).2⟩⟩
theorem Tl.kpB (h : Tl w0 w t p x s m n L K T) (hb : Below w.heap.size w w') : Kp T w w' := by
 obtain ⟨q, S, D, g, c, gk, ck, a, nl, hs, hn, hl, hd, hT⟩ := h
 exact fun k hk => hb.block k (hT k hk).1
theorem Tl.heap (h : Tl w0 w t p x s m n L K T) : Calls Tryz.prog 7 #[.pointer (some ⟨t, 0, none⟩)] w fun e w' => e = .returned (.pointer (some ⟨x, 0, none⟩)) ∧ w = w' := by
 obtain ⟨q, S, D, g, c, gk, ck, a, nl, hs, _⟩ := h
 exact stHeap_any hs
theorem Tl.call (h : Tl w0 w t p x s m n L K T) {f : Nat} {ar : Array Value} {V : Value} {M : List Int} (hM : M.length = L.length)
  (hc : ∀ (g c : Nat), Hp w w0.heap.size x g c L → w0.heap.size ≤ w.heap.size → Calls Tryz.prog f ar w fun e w' => e = .returned V ∧ ∃ g' c', Hp w' w0.heap.size x g' c' M ∧ Turn (foot x g) (foot x g') w w') :
  Calls Tryz.prog f ar w fun e w' => e = .returned V ∧ Tl w0 w' t p x s m n M K T ∧ Kp T w w' := by
 obtain ⟨q, S, D, g, c, gk, ck, a, nl, hs, hn, hl, hd, hT⟩ := h
 refine (hc g c hs.hp hs.size).mono ?_
 rintro e w' ⟨rfl, g', c', hh, ht⟩
 have hta := turn_footA ht S q t gk
 exact ⟨rfl, ⟨q, S, D, g', c', gk, ck, a, nl, hs.heap hh ht hM, hn, hl, hd, fun k hk => ⟨Nat.lt_of_lt_of_le (hT k hk).1 ht.size, fun hf => (hT k hk).2 (hta.foot k (hT k hk).1 hf)⟩⟩, fun k hk => hta.block k (hT k hk).1 (hT k hk).2⟩
theorem Tl.ask (h : Tl w0 w t p x s m n L K T) {f : Nat} {ar : Array Value} {Q : Ending → World → Prop}
  (hc : ∀ (g c : Nat), Hp w w0.heap.size x g c L → Calls Tryz.prog f ar w fun e w' => Q e w' ∧ Below w.heap.size w w') :
  Calls Tryz.prog f ar w fun e w' => Q e w' ∧ Tl w0 w' t p x s m n L K T ∧ Kp T w w' := by
 have h' := h
 obtain ⟨q, S, D, g, c, gk, ck, a, nl, hs, _⟩ := h
 refine (hc g c hs.hp).mono ?_
 rintro e w' ⟨hq, hb⟩
 exact ⟨hq, h'.below hb, h'.kpB hb⟩
theorem Tl.commit (h : Tl w0 w t p x s m n L K T) (hs9 : s ≤ 999) (hfew : (drtN K L m).length ≤ 23) :
  Calls Tryz.prog 53 #[.pointer (some ⟨t, 0, none⟩)] w fun e w' => e = .returned .nilIface ∧ ∃ s', s ≤ s' ∧ s' ≤ s + 1 ∧ Tl w0 w' t p x s' m n L L T ∧ Kp T w w' := by
 obtain ⟨q, S, D, g, c, gk, ck, a, nl, hs, hn, hl, hd, hT⟩ := h
 have h1 := hn.s1
 have key : ∃ s' a' nl', (commitOut D s m (dfP K L m)).2.2 = 0 ∧ (commitOut D s m (dfP K L m)).2.1 = s' ∧ s ≤ s' ∧ s' ≤ s + 1 ∧ Neat (commitOut D s m (dfP K L m)).1 m s' (prt L) a' nl' ∧ (commitOut D s m (dfP K L m)).1.left < 0 := by
  rcases st_commit hn hs9 hl hs.klen hs.len hs.hp.byt with ⟨k1, _⟩ | ⟨k1, k2⟩ | ⟨_, _, k3, k4, k5⟩
  ·omega
  ·subst k1
   rw [k2]
   exact ⟨s, a, nl, rfl, rfl, Int.le_refl _, by omega, hn, hl⟩
  ·exact ⟨s + 1, _, _, by rw [k3], by rw [k3], by omega, by omega, k4, k5⟩
 obtain ⟨s', a', nl', k1, k2, k3, k4, k5, k6⟩ := key
 have hsl := commitOut_seclen D s m (dfP K L m)
 refine (stCommit_yes hs (by omega) (by omega) k1).mono ?_
 rintro e w' ⟨rfl, S', gn, cn, hs', ht⟩
 rw [k2] at hs'
 exact ⟨rfl, s', k3, k4, ⟨q, S', _, g, c, gn, cn, a', nl', hs', k5, k6, hsl.trans hd, fun k hk => ⟨Nat.lt_of_lt_of_le (hT k hk).1 ht.size, fun hf => (hT k hk).2 (ht.foot k (hT k hk).1 hf)⟩⟩, fun k hk => ht.block k (hT k hk).1 (hT k hk).2⟩
theorem neat_crash {D : DS} {P : Nat → List Int} {a : Nat} {nl : List Int} (h : Neat D m s P a nl) (keep : List Bool) (torn : Int) (c : Nat) : Neat (D.crash keep torn c) m s P a nl :=
 h.img (h.ok.crash keep torn c) rfl rfl (by show (crashK _ _ _ _ _ _).length = _; rw [length_crashK]) (fun k => congrFun (img_crash_empty h.mem keep torn c) k)
theorem Tl.crash (h : Tl w0 w t p x s m n L K T) : Calls Tryz.prog 56 #[.pointer (some ⟨p, 0, none⟩), .slice none 0 0, .int .i64 (-1), .int .i64 0] w fun e w' => e = .returned (.int .i64 0) ∧ Tl w0 w' t p x s m n L K T ∧ Kp T w w' := by
 obtain ⟨q, S, D, g, c, gk, ck, a, nl, hs, hn, hl, hd, hT⟩ := h
 have hcr := hs.bsd.live.crash (-1) 0 (a := none) (cap := 0) (keep := []) ⟨⟨Nat.le_refl _, by decide, fun e => absurd rfl e⟩, fun e => absurd rfl e⟩
 rw [hn.mem] at hcr
 refine hcr.mono ?_
 rintro e w' ⟨rfl, S', hlv, ht⟩
 have hlen : (D.crash [] (-1) (cutN 0)).secs.length = D.secs.length := by show (crashK _ _ _ _ _ _).length = _; rw [length_crashK]
 have hpg := hs.bsd.pg.turn ht hs.bsd.out
 have hs' := hs.pages hlv hpg.1 hpg.2 (ht.plus q) hlen
 have hta : Turn (footA S q t gk x g) (footA S' q t gk x g) w w' := ⟨ht.os, ht.tape, ht.output, ht.size, fun k hk hf => ht.block k hk (fun hs => hf (.inl (.inl hs))), fun k hk hf => by
  rcases hf with (hf | hf) | hf
  ·exact .inl (.inl (ht.foot k hk hf))
  ·exact .inl (.inr hf)
  ·exact .inr hf⟩
 exact ⟨rfl, ⟨q, S', _, g, c, gk, ck, a, nl, hs', neat_crash hn _ _ _, by show (-1 : Int) < 0; decide, hlen.trans hd, fun k hk => ⟨Nat.lt_of_lt_of_le (hT k hk).1 ht.size, fun hf => (hT k hk).2 (hta.foot k (hT k hk).1 hf)⟩⟩, fun k hk => hta.block k (hT k hk).1 (hT k hk).2⟩
theorem Tl.open (h : Tl w0 w t p x s m n L K T) : Calls Tryz.prog 24 #[.pointer (some ⟨p, 0, none⟩)] w fun e w' => ∃ t' x', e = .returned (.tuple #[.pointer (some ⟨t', 0, none⟩), .nilIface]) ∧ Tl w0 w' t' p x' s m n K K T ∧ Kp T w w' := by
 obtain ⟨q, S, D, g, c, gk, ck, a, nl, hs, hn, hl, hd, hT⟩ := h
 have hm := hs.m200
 refine (stOpen_ready hs.bsd.live hs.cnt (by omega) hm.2.1 hn.ready hs.klen hs.kb hs.kf hl).mono ?_
 rintro e w' ⟨t', x', rfl, q', S', D', g', c', gk', hs', ho, _, hl', ht, hnew⟩
 refine ⟨t', x', rfl, ⟨q', S', D', g', c', gk', _, a, nl, hs', hn.opened ho, hl', ho.len.trans hd, fun k hk => ⟨Nat.lt_of_lt_of_le (hT k hk).1 ht.size, fun hf => ?_⟩⟩, fun k hk => ht.block k (hT k hk).1 (fun hf => (hT k hk).2 (.inl (.inl hf)))⟩
 have hlt := (hT k hk).1
 rcases hf with (hf | hf) | hf
 ·exact (hT k hk).2 (.inl (.inl (ht.foot k hlt hf)))
 ·have := hnew k (.inr hf); omega
 ·have := hnew k (.inl hf); omega
theorem tl_create {S : Nat → Prop} (h : Live w0 w p S (DS.new n)) (h1 : 57 ≤ n) (h2 : n ≤ 300) (hm : cntI n = m) :
  Calls Tryz.prog 6 #[.pointer (some ⟨p, 0, none⟩)] w fun e w' => ∃ t x, e = .returned (.tuple #[.pointer (some ⟨t, 0, none⟩), .nilIface]) ∧ Tl w0 w' t p x 2 m n (zerosB (32 * m)) (zerosB (32 * m)) (fun _ => False) :=
 (stCreate_new h h1 h2 hm).mono fun e w' ⟨t, x, he, q, S', g, c, gk, hs⟩ => by
  have hm2 : m ≤ 200 ∧ 48 + m ≤ n := by
   unfold cntI at hm
   split at hm <;> omega
  obtain ⟨_, z2, z4, z3⟩ := crD_neat (m := m) h1 h2 hm2.2 hm2.1
  exact ⟨t, x, he, q, S', _, g, c, gk, _, _, _, hs, z2, z4, z3, fun k hk => hk.elim⟩
theorem Tl.alloc (h : Tl w0 w t p x s m n L K T) {a b H : Int} (h0 : alE L a b = 0) (hH : alH L a b = H) (hl : (alB L a b).length = L.length) :
  Calls Tryz.prog 48 #[.pointer (some ⟨x, 0, none⟩), .int .i64 a, .int .i64 b] w fun e w' => e = .returned (.tuple #[.int .i64 H, .nilIface]) ∧ Tl w0 w' t p x s m n (alB L a b) K T ∧ Kp T w w' :=
 h.call hl (fun g c hh hB => by
  have := hAlloc_any x g c w0.heap.size L a b w hh hB
  rw [h0, hH, errV_zero] at this
  exact this)
theorem Tl.write (h : Tl w0 w t p x s m n L K T) {H : Int} {a : Option Addr} {cap : Nat} {l : List Int} (hb : Bs w a cap l) (h0 : pcE L H 0 l.length = 0) (hl : (wrB L H 0 l).length = L.length) :
  Calls Tryz.prog 50 #[.pointer (some ⟨x, 0, none⟩), .int .i64 H, .int .i64 0, .slice a l.length cap] w fun e w' => e = .returned .nilIface ∧ Tl w0 w' t p x s m n (wrB L H 0 l) K T ∧ Kp T w w' :=
 h.call hl (fun g c hh hB => by
  have := hWrite_any x g c w0.heap.size L H 0 a cap l w hh hb (by decide)
  rw [h0, errV_zero] at this
  exact this.mono fun e w' ⟨he, h1, h2⟩ => ⟨he, g, c, h1, h2⟩)
theorem Tl.read (h : Tl w0 w t p x s m n L K T) {H : Int} {b : Int} {l : List Int} (hb : b ≤ 9223372036854775807) (h0 : pcE L H 0 b = 0) (hl : rdL L H 0 b = l) (hne : l ≠ []) :
  Calls Tryz.prog 57 #[.pointer (some ⟨x, 0, none⟩), .int .i64 H, .int .i64 0, .int .i64 b] w fun e w' => (∃ g c, e = .returned (.tuple #[.slice (some ⟨g, 0, none⟩) l.length c, .nilIface]) ∧ l.length ≤ c ∧ ∀ i, i < l.length → w'.cell? ⟨g, i, none⟩ = some (.int .u8 (l.getD i 0))) ∧ Tl w0 w' t p x s m n L K T ∧ Kp T w w' :=
 h.ask (fun g c hh => by
  have := hRead_any x g c w0.heap.size L H 0 b w hh (by decide) hb
  rw [h0, errV_zero, hl] at this
  refine this.mono ?_
  rintro e w' ⟨a', c', rfl, ho, hbw⟩
  refine ⟨?_, hbw⟩
  rcases ho.2 with ⟨_, e0⟩ | ⟨g2, cap, cur, e2, hB, hc, h3, h4, h5, h6⟩
  ·exact absurd (List.eq_nil_of_length_eq_zero e0) hne
  ·simp only [Value.slice.injEq, true_and] at e2
   obtain ⟨rfl, rfl⟩ := e2
   refine ⟨g2, c', rfl, h3, fun i hi => ?_⟩
   rw [cell_of_row _ _ _ _ _ _ hc]
   have q : (l.map (Value.int .u8))[i]? = some (.int .u8 (l.getD i 0)) := by
    rw [List.getElem?_map, List.getElem?_eq_getElem hi, List.getD_eq_getElem?_getD, List.getElem?_eq_getElem hi]
    rfl
   rw [← h6, List.getElem?_take, if_pos (by omega)] at q
   simpa using q)
end
end Go.Proofs.YtknjdhnldfebjaaGreatDoor
namespace Go.Proofs.YtknjdhnldfebjaaGreatDoor
open Go.RowKit
set_option linter.unusedVariables false
structure On3 (A W V : List Int) : Prop where
 a : alB (zerosB 384) 2 3 = A
 w : wrB A 1 0 [8, 9] = W
 v : wrB W 1 0 [1, 1] = V
 e1 : alE (zerosB 384) 2 3 = 0
 h1 : alH (zerosB 384) 2 3 = 1
 l1 : A.length = 384
 l2 : W.length = 384
 l3 : V.length = 384
 p1 : pcE A 1 0 2 = 0
 p2 : pcE W 1 0 2 = 0
 r : rdL W 1 0 2 = [8, 9]
theorem on3 : ∃ A W V, On3 A W V := by
 obtain ⟨e1, h1, f1, l1, c1, o1, s1, _⟩ := first_made (N := 384) (n := 2) (t := 3) (by decide) (by decide) (by decide) (by decide) (by decide) (by decide)
 have e1' : alE (zerosB 384) 2 3 = 0 := e1
 have h1' : alH (zerosB 384) 2 3 = 1 := h1
 have l1' : (alB (zerosB 384) 2 3).length = 384 := l1
 have f1' : Fine (alB (zerosB 384) 2 3) := f1
 have c1' : chkE (alB (zerosB 384) 2 3) 1 = 0 := c1
 have s1' : (entOf (alB (zerosB 384) 2 3) 1).2.2.1 = 2 := s1
 generalize hA : alB (zerosB 384) 2 3 = A at *
 obtain ⟨p1, f2, l2, o2, c2, n2, r2, _⟩ := all_written (L := A) f1' (h := 1) c1' (r := [8, 9]) (by rw [s1']; rfl)
 have p1' : pcE A 1 0 2 = 0 := p1
 have r2' : rdL (wrB A 1 0 [8, 9]) 1 0 2 = [8, 9] := r2
 obtain ⟨p3, f3, l3, _⟩ := all_written (L := wrB A 1 0 [8, 9]) f2 (h := 1) c2 (r := [1, 1]) (by rw [n2, s1']; rfl)
 have p3' : pcE (wrB A 1 0 [8, 9]) 1 0 2 = 0 := p3
 exact ⟨A, _, _, hA, rfl, rfl, e1', h1', l1', l2.trans l1', l3.trans (l2.trans l1'), p1', p3', r2'⟩
theorem bs_two (w : World) (a b : Int) (ha : 0 ≤ a ∧ a ≤ 255) (hb : 0 ≤ b ∧ b ≤ 255) : Bs (w.alloc (.cells #[.int .u8 a, .int .u8 b] 5)) (some ⟨w.heap.size, 0, none⟩) 2 [a, b] :=
 (show Blk (w.alloc (.cells #[.int .u8 a, .int .u8 b] 5)) w.heap.size [a, b] from heap_alloc_new w _).bs (fun y hy => by
  rcases List.mem_cons.1 hy with rfl | hy
  ·exact ha
  ·rw [List.mem_singleton.1 hy]; exact hb) (by simp)
theorem drt_le (K L : List Int) (m : Nat) : (drtN K L m).length ≤ m := by
 unfold drtN
 exact Nat.le_trans (List.length_filter_le _ _) (by simp)
set_option maxRecDepth 100000 in
set_option maxHeartbeats 1000000 in
theorem one_any (w : World) : Calls Tryz.prog 18 #[] w fun e w' => e = .returned (.bool true) ∧ Below w.heap.size w w' := by
 obtain ⟨A, W, V, o⟩ := on3
 have HN := hide (new_live 60 w w (Below.refl _ _) (by decide) (by decide))
 have O := hide o
 clear o
 go_enter Tryz.func18, Tryz.ntmps18
 go_wp2_with fail
 refine (unhide HN).mono ?_
 rintro e w1 ⟨p, S, rfl, hl, _, _⟩
 have HC := hide (tl_create (m := 12) hl (by decide) (by decide) rfl)
 clear hl HN
 go_wp2_with fail
 refine (unhide HC).mono ?_
 rintro e w2 ⟨t, x, rfl, htl⟩
 have HH := hide htl.heap
 have hal := htl.alloc (unhide O).e1 (unhide O).h1 (by rw [(unhide O).a, (unhide O).l1, length_zerosB])
 rw [(unhide O).a] at hal
 have HAL := hide hal
 clear htl hal HC
 go_wp2_with fail
 refine (unhide HH).mono ?_
 rintro e w3 ⟨rfl, rfl⟩
 go_wp2_with fail
 refine (unhide HAL).mono ?_
 rintro e w3 ⟨rfl, htl, _⟩
 have HH3 := hide htl.heap
 have hba : Below w3.heap.size w3 (w3.alloc (.cells #[.int .u8 8, .int .u8 9] 5)) := (Below.refl _ _).alloc (Nat.le_refl _) _
 have hwr := (htl.below hba).write (bs_two w3 8 9 (by decide) (by decide)) (unhide O).p1 (by rw [(unhide O).w, (unhide O).l2, (unhide O).l1])
 rw [(unhide O).w] at hwr
 have HW3 := hide hwr
 clear htl hba hwr HH HAL
 go_wp2_with fail
 refine (unhide HH3).mono ?_
 rintro e w4 ⟨rfl, rfl⟩
 go_wp2_with fail
 refine (unhide HW3).mono ?_
 rintro e w4 ⟨rfl, htl, _⟩
 have HCM := hide (htl.commit (by decide) (Nat.le_trans (drt_le _ _ _) (by decide)))
 clear htl HH3 HW3
 go_wp2_with fail
 refine (unhide HCM).mono ?_
 rintro e w5 ⟨rfl, s', _, _, htl, _⟩
 have HH5 := hide htl.heap
 have hba : Below w5.heap.size w5 (w5.alloc (.cells #[.int .u8 1, .int .u8 1] 5)) := (Below.refl _ _).alloc (Nat.le_refl _) _
 have hwr := (htl.below hba).write (bs_two w5 1 1 (by decide) (by decide)) (unhide O).p2 (by rw [(unhide O).v, (unhide O).l3, (unhide O).l2])
 rw [(unhide O).v] at hwr
 have HW5 := hide hwr
 clear htl hba hwr HCM
 go_wp2_with fail
 refine (unhide HH5).mono ?_
 rintro e w6 ⟨rfl, rfl⟩
 go_wp2_with fail
 refine (unhide HW5).mono ?_
 rintro e w6 ⟨rfl, htl, _⟩
 have HCR := hide htl.crash
 clear htl HH5 HW5
 go_wp2_with fail
 refine (unhide HCR).mono ?_
 rintro e w7 ⟨rfl, htl, _⟩
 have HOP := hide htl.open
 clear htl HCR
 go_wp2_with fail
 refine (unhide HOP).mono ?_
 rintro e w8 ⟨t8, x8, rfl, htl, _⟩
 have HH8 := hide htl.heap
 have HR8 := hide (htl.read (H := 1) (b := 2) (by decide) (unhide O).p2 (unhide O).r (by simp))
 clear htl HOP
 go_wp2_with fail
 refine (unhide HH8).mono ?_
 rintro e w9 ⟨rfl, rfl⟩
 go_wp2_with fail
 refine (unhide HR8).mono ?_
 rintro e w9 ⟨⟨g9, k9, rfl, hk9, hcell⟩, htl, _⟩
 have d0 : w9.cell? ⟨g9, 0, none⟩ = some (.int .u8 8) := hcell 0 (by decide)
 have d1 : w9.cell? ⟨g9, 1, none⟩ = some (.int .u8 9) := hcell 1 (by decide)
 have HB := hide htl.base
 clear htl hcell HH8 HR8
 go_wp2
 go_ret
 exact ⟨rfl, unhide HB⟩
end Go.Proofs.YtknjdhnldfebjaaGreatDoor
