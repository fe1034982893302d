/-
  Parts of the proofs, joined by program.
-/
import Derived.Test.YtfbloliakmehbaaGreatDoorJOr
import Derived.Test.YtfbloliakmehbaaGreatDoorJHq
import Derived.Test.YtfbloliakmehbaaGreatDoorJRt
import Derived.Test.YtfbloliakmehbaaGreatDoorJMv
import Derived.Test.YtfbloliakmehbaaGreatDoorJRh
import Derived.Test.YtfbloliakmehbaaGreatDoorJInc
import Derived.Test.YtfbloliakmehbaaGreatDoorJMge
import Derived.Test.YtfbloliakmehbaaGreatDoorJHl
import Derived.Test.YtfbloliakmehbaaGreatDoorJHp
import Derived.Test.YtfbloliakmehbaaGreatDoorJChl
import Derived.Test.YtfbloliakmehbaaGreatDoorJIs
import Derived.Test.YtfbloliakmehbaaGreatDoorJOb
import Derived.Test.YtfbloliakmehbaaGreatDoorJRc
namespace Go.Proofs.YtfbloliakmehbaaGreatDoor
open Go.RowKit
set_option linter.unusedVariables false
def opvM (r : OpR) : Value := .agg #[.int .i64 r.1, .int .i64 r.2.1, .int .i64 r.2.2.1, .int .i64 r.2.2.2.1, .string r.2.2.2.2.1, .slice r.2.2.2.2.2.1 r.2.2.2.2.2.2.2.length r.2.2.2.2.2.2.1]
def opwM (w : World) (o h a n : Int) (nm : ByteArray) (ad : Option Addr) (k cap : Nat) : World := w.alloc (.cells #[.int .i64 o, .int .i64 h, .int .i64 a, .int .i64 n, .string nm, .slice ad k cap] 44)
section
variable {Q : World -> Prop} (x : Nat) (h a n : Int) (nm : ByteArray) (ad : Option Addr) (k cap : Nat) (w : World)
set_option maxRecDepth 100000 in
set_option maxHeartbeats 1000000 in
theorem act_1 (HA : Calls Tryz.prog 42 #[.pointer (some ⟨x, 0, none⟩), .int .i64 n, .int .i64 a] (opwM w 1 h a n nm ad k cap) fun e w' => (∃ v, e = .returned v) /\ Q w') :
  Calls Tryz.prog 14 #[.pointer (some ⟨x, 0, none⟩), .agg #[.int .i64 1, .int .i64 h, .int .i64 a, .int .i64 n, .string nm, .slice ad k cap]] w fun e w' => e = .returned (.tuple #[]) /\ Q w' := by
 unfold opwM at HA
 have H2 := hide HA
 clear HA
 go_enter Tryz.func14, Tryz.ntmps14
 go_wp2_with fail
 refine (unhide H2).mono ?_
 rintro e w2 ⟨⟨v, rfl⟩, hq⟩
 have HQ := hide hq
 clear hq H2
 go_wp2
 go_end0
 exact ⟨rfl, unhide HQ⟩
set_option maxRecDepth 100000 in
set_option maxHeartbeats 1000000 in
theorem act_2 (HA : Calls Tryz.prog 43 #[.pointer (some ⟨x, 0, none⟩), .int .i64 h] (opwM w 2 h a n nm ad k cap) fun e w' => (∃ v, e = .returned v) /\ Q w') :
  Calls Tryz.prog 14 #[.pointer (some ⟨x, 0, none⟩), .agg #[.int .i64 2, .int .i64 h, .int .i64 a, .int .i64 n, .string nm, .slice ad k cap]] w fun e w' => e = .returned (.tuple #[]) /\ Q w' := by
 unfold opwM at HA
 have H2 := hide HA
 clear HA
 go_enter Tryz.func14, Tryz.ntmps14
 go_wp2_with fail
 refine (unhide H2).mono ?_
 rintro e w2 ⟨⟨v, rfl⟩, hq⟩
 have HQ := hide hq
 clear hq H2
 go_wp2
 go_end0
 exact ⟨rfl, unhide HQ⟩
set_option maxRecDepth 100000 in
set_option maxHeartbeats 1000000 in
theorem act_3 (HA : Calls Tryz.prog 44 #[.pointer (some ⟨x, 0, none⟩), .int .i64 h, .int .i64 a, .slice ad k cap] (opwM w 3 h a n nm ad k cap) fun e w' => (∃ v, e = .returned v) /\ Q w') :
  Calls Tryz.prog 14 #[.pointer (some ⟨x, 0, none⟩), .agg #[.int .i64 3, .int .i64 h, .int .i64 a, .int .i64 n, .string nm, .slice ad k cap]] w fun e w' => e = .returned (.tuple #[]) /\ Q w' := by
 unfold opwM at HA
 have H2 := hide HA
 clear HA
 go_enter Tryz.func14, Tryz.ntmps14
 go_wp2_with fail
 refine (unhide H2).mono ?_
 rintro e w2 ⟨⟨v, rfl⟩, hq⟩
 have HQ := hide hq
 clear hq H2
 go_wp2
 go_end0
 exact ⟨rfl, unhide HQ⟩
set_option maxRecDepth 100000 in
set_option maxHeartbeats 1000000 in
theorem act_4 (HA : Calls Tryz.prog 45 #[.pointer (some ⟨x, 0, none⟩), .string nm, .int .i64 h] (opwM w 4 h a n nm ad k cap) fun e w' => (∃ v, e = .returned v) /\ Q w') :
  Calls Tryz.prog 14 #[.pointer (some ⟨x, 0, none⟩), .agg #[.int .i64 4, .int .i64 h, .int .i64 a, .int .i64 n, .string nm, .slice ad k cap]] w fun e w' => e = .returned (.tuple #[]) /\ Q w' := by
 unfold opwM at HA
 have H2 := hide HA
 clear HA
 go_enter Tryz.func14, Tryz.ntmps14
 go_wp2_with fail
 refine (unhide H2).mono ?_
 rintro e w2 ⟨⟨v, rfl⟩, hq⟩
 have HQ := hide hq
 clear hq H2
 go_wp2
 go_end0
 exact ⟨rfl, unhide HQ⟩
set_option maxRecDepth 100000 in
set_option maxHeartbeats 1000000 in
theorem act_5 (HA : Calls Tryz.prog 46 #[.pointer (some ⟨x, 0, none⟩), .string nm] (opwM w 5 h a n nm ad k cap) fun e w' => (∃ v, e = .returned v) /\ Q w') :
  Calls Tryz.prog 14 #[.pointer (some ⟨x, 0, none⟩), .agg #[.int .i64 5, .int .i64 h, .int .i64 a, .int .i64 n, .string nm, .slice ad k cap]] w fun e w' => e = .returned (.tuple #[]) /\ Q w' := by
 unfold opwM at HA
 have H2 := hide HA
 clear HA
 go_enter Tryz.func14, Tryz.ntmps14
 go_wp2_with fail
 refine (unhide H2).mono ?_
 rintro e w2 ⟨⟨v, rfl⟩, hq⟩
 have HQ := hide hq
 clear hq H2
 go_wp2
 go_end0
 exact ⟨rfl, unhide HQ⟩
set_option maxRecDepth 100000 in
set_option maxHeartbeats 1000000 in
theorem act_8 (HA : Calls Tryz.prog 47 #[.pointer (some ⟨x, 0, none⟩)] (opwM w 8 h a n nm ad k cap) fun e w' => (∃ v, e = .returned v) /\ Q w') :
  Calls Tryz.prog 14 #[.pointer (some ⟨x, 0, none⟩), .agg #[.int .i64 8, .int .i64 h, .int .i64 a, .int .i64 n, .string nm, .slice ad k cap]] w fun e w' => e = .returned (.tuple #[]) /\ Q w' := by
 unfold opwM at HA
 have H2 := hide HA
 clear HA
 go_enter Tryz.func14, Tryz.ntmps14
 go_wp2_with fail
 refine (unhide H2).mono ?_
 rintro e w2 ⟨⟨v, rfl⟩, hq⟩
 have HQ := hide hq
 clear hq H2
 go_wp2
 go_end0
 exact ⟨rfl, unhide HQ⟩
set_option maxRecDepth 100000 in
set_option maxHeartbeats 1000000 in
theorem act_9 (HA : Calls Tryz.prog 48 #[.pointer (some ⟨x, 0, none⟩)] (opwM w 9 h a n nm ad k cap) fun e w' => (∃ v, e = .returned v) /\ Q w') :
  Calls Tryz.prog 14 #[.pointer (some ⟨x, 0, none⟩), .agg #[.int .i64 9, .int .i64 h, .int .i64 a, .int .i64 n, .string nm, .slice ad k cap]] w fun e w' => e = .returned (.tuple #[]) /\ Q w' := by
 unfold opwM at HA
 have H2 := hide HA
 clear HA
 go_enter Tryz.func14, Tryz.ntmps14
 go_wp2_with fail
 refine (unhide H2).mono ?_
 rintro e w2 ⟨⟨v, rfl⟩, hq⟩
 have HQ := hide hq
 clear hq H2
 go_wp2
 go_end0
 exact ⟨rfl, unhide HQ⟩
set_option maxRecDepth 100000 in
set_option maxHeartbeats 1000000 in
theorem act_no (o : Int) (h1 : o ≠ 1) (h2 : o ≠ 2) (h3 : o ≠ 3) (h4 : o ≠ 4) (h5 : o ≠ 5) (h8 : o ≠ 8) (h9 : o ≠ 9) :
  Calls Tryz.prog 14 #[.pointer (some ⟨x, 0, none⟩), .agg #[.int .i64 o, .int .i64 h, .int .i64 a, .int .i64 n, .string nm, .slice ad k cap]] w fun e w' => e = .returned (.tuple #[]) /\ w' = opwM w o h a n nm ad k cap := by
 unfold opwM
 have t1 : (o == 1) = false := by simpa using h1
 have t2 : (o == 2) = false := by simpa using h2
 have t3 : (o == 3) = false := by simpa using h3
 have t4 : (o == 4) = false := by simpa using h4
 have t5 : (o == 5) = false := by simpa using h5
 have t8 : (o == 8) = false := by simpa using h8
 have t9 : (o == 9) = false := by simpa using h9
 clear h1 h2 h3 h4 h5 h8 h9
 go_enter Tryz.func14, Tryz.ntmps14
 go_wp2
 go_end0
 exact ⟨rfl, rfl⟩
end
section
variable {w : World} {B p g c : Nat} {L : List Int}
theorem opwM_below (o h a n : Int) (nm : ByteArray) (ad : Option Addr) (k cap : Nat) : Below w.heap.size w (opwM w o h a n nm ad k cap) := Below.alloc (Below.refl _ _) (Nat.le_refl _) _
theorem act_any (hh : Hp w B p g c L) (hB : B <= w.heap.size) (r : OpR) (hr : OpIn w r) :
  Calls Tryz.prog 14 #[.pointer (some ⟨p, 0, none⟩), opvM r] w fun e w' => e = .returned (.tuple #[]) /\ ∃ g' c' L', Hp w' B p g' c' L' /\ L'.length = L.length /\ Turn (foot p g) (foot p g') w w' := by
 obtain ⟨o, h, a, n, nm, ad, cap, l⟩ := r
 obtain ⟨z1, z2, z3, z4, z5, z6⟩ := hr
 dsimp only at z1 z2 z3 z4 z5 z6
 have hf := hh.fine
 have hb := opwM_below (w := w) o h a n nm ad l.length cap
 unfold opvM
 dsimp only
 by_cases h1 : o = 1
 ·subst h1
  exact act_1 p h a n nm ad l.length cap w ((hAlloc_any p g c B L n a _ (hh.below hb) (Nat.le_trans hB hb.size)).mono fun e w' ⟨he, g', c', hp, ht⟩ => ⟨⟨_, he⟩, g', c', _, hp, al_len hf _ _, (Turn.of_below hb).trans ht⟩)
 by_cases h2 : o = 2
 ·subst h2
  exact act_2 p h a n nm ad l.length cap w ((hFree_any p g c B L h _ (hh.below hb) (Nat.le_trans hB hb.size)).mono fun e w' ⟨he, g', c', hp, ht⟩ => ⟨⟨_, he⟩, g', c', _, hp, (frB_fine hf _).2, (Turn.of_below hb).trans ht⟩)
 by_cases h3 : o = 3
 ·subst h3
  exact act_3 p h a n nm ad l.length cap w ((hWrite_any p g c B L h a ad cap l _ (hh.below hb) (z6.below hb) z3.2).mono fun e w' ⟨he, hp, ht⟩ => ⟨⟨_, he⟩, g, c, _, hp, (wrB_fine hf _ _ _).2, (Turn.of_below hb).trans ht⟩)
 by_cases h4 : o = 4
 ·subst h4
  exact act_4 p h a n nm ad l.length cap w ((roSet_any (hh.below hb) (Nat.le_trans hB hb.size) nm h z5).mono fun e w' ⟨he, g', c', hp, ht⟩ => ⟨⟨_, he⟩, g', c', _, hp, (seF_fine hf _ _).2, (Turn.of_below hb).trans ht⟩)
 by_cases h5 : o = 5
 ·subst h5
  exact act_5 p h a n nm ad l.length cap w ((roUnset_any (hh.below hb) (Nat.le_trans hB hb.size) nm z5).mono fun e w' ⟨he, g', c', hp, ht⟩ => ⟨⟨_, he⟩, g', c', _, hp, (unF_fine hf _).2, (Turn.of_below hb).trans ht⟩)
 by_cases h8 : o = 8
 ·subst h8
  exact act_8 p h a n nm ad l.length cap w ((mvAll_any (hh.below hb) (Nat.le_trans hB hb.size)).mono fun e w' ⟨he, g', c', hp, ht⟩ => ⟨⟨_, he⟩, g', c', _, hp, (mvA_as hf).1.len, (Turn.of_below hb).trans ht⟩)
 by_cases h9 : o = 9
 ·subst h9
  exact act_9 p h a n nm ad l.length cap w ((rhSweep_any (hh.below hb) (Nat.le_trans hB hb.size)).mono fun e w' ⟨he, g', c', hp, ht⟩ => ⟨⟨_, he⟩, g', c', _, hp, (swT_fine hf).2, (Turn.of_below hb).trans ht⟩)
 exact (act_no p h a n nm ad l.length cap w o h1 h2 h3 h4 h5 h8 h9).mono fun e w' ⟨he, hw⟩ => ⟨he, g, c, L, by rw [hw]; exact hh.below hb, rfl, by rw [hw]; exact Turn.of_below hb⟩
end
set_option maxRecDepth 100000 in
theorem lawIn_any (a : Option Addr) (cap : Nat) (l : List Int) (x : Int) (w : World) (hs : Sls inC 1 w a cap l) :
  Calls Tryz.prog 18 #[.slice a l.length cap, .int .i64 x] w fun e w' => e = .returned (.bool (l.any (fun y => y == x))) /\ w = w' := by
 have hl := hs.2.2.1
 have HS := hide hs
 clear hs
 go_enter Tryz.func18, Tryz.ntmps18
 go_wp2_with fail
 go_loop [5] (fun iv => ∃ k : Nat, k <= l.length /\ iv = .int .i64 k /\ (l.take k).any (fun y => y == x) = false) (fun iv => l.length - (intOf iv).toNat)
 case atStart => exact ⟨0, Nat.zero_le _, rfl, rfl⟩
 case round =>
  obtain ⟨k, hk, rfl, hall⟩ := hrel
  by_cases hlt : k < l.length
  ·have hne : l ≠ [] := by intro e; rw [e] at hlt; simp at hlt
   obtain ⟨b1, o1, rfl, hc1⟩ := (unhide HS).2.2.2 hne
   obtain ⟨y, hy⟩ : ∃ y, l[k]? = some y := ⟨l[k], List.getElem?_eq_getElem hlt⟩
   have q0 := Sls.num (cap := 0) hc1 hy
   have htk : l.take (k + 1) = l.take k ++ [y] := by rw [List.take_add_one, hy]; rfl
   have hmem := List.mem_of_getElem? hy
   clear hc1 hy hne
   by_cases e : y = x
   ·subst e
    have hnew : l.any (fun z => z == y) = true := List.any_eq_true.2 ⟨_, hmem, by simp⟩
    have HN := hide hnew
    clear hnew htk hall hmem
    go_wp2
    go_ret
    exact ⟨by rw [unhide HN]; rfl, rfl⟩
   ·have hnew : (l.take (k + 1)).any (fun y => y == x) = false := by
     rw [htk, List.any_append, hall]
     simp
     exact e
    have HN := hide hnew
    have eb : (y == x) = false := beq_eq_false_iff_ne.2 e
    clear hnew htk hall hmem e
    go_wp2
    go_round
    case rel => exact ⟨k + 1, by omega, by go_num, unhide HN⟩
    case measure => simp [intOf]; omega
  ·obtain rfl : k = l.length := by omega
   rw [List.take_length] at hall
   have HN := hide hall
   clear hall HS
   go_wp2
   go_ret
   exact ⟨by rw [unhide HN]; rfl, rfl⟩
section
variable {m a b : List Int}
theorem mgS_err (hm : Fine m) (ha : Fine a) (hb : Fine b) (ba : Byt a) (bb : Byt b) : (mgS m a b).1 = 0 \/ (mgS m a b).1 = 4 := by
 have hl := hm.len
 obtain ⟨i1, i2, i3⟩ := pkS_ok hl.1 hl.2 (thO_ok (m := m) ha ba hb bb) 40 (Nat.le_refl _)
 unfold mgS mgT
 by_cases e1 : (pkS m.length (thO m a b) 40).1 ≠ 0
 ·rw [if_pos e1, i2 e1]
  exact .inr rfl
 ·rw [if_neg e1]
  split
  ·exact .inr rfl
  ·exact .inl rfl
theorem mgS_good (hm : Fine m) (ha : Fine a) (hb : Fine b) (bm : Byt m) (ba : Byt a) (bb : Byt b) (h0 : (mgS m a b).1 = 0) :
  Fine (mgS m a b).2 /\ (mgS m a b).2.length = m.length /\ ∀ h : Int, 1 <= h -> h <= 40 -> objOf (mgS m a b).2 h = thO m a b h := by
 obtain ⟨out, h1, h2, h3, r, h5⟩ := mgS_right hm ha hb bm ba bb h0
 exact ⟨r.fine, h5, fun h k1 k2 => ((r.objs h k1 k2).1).trans (h2 h k1 k2)⟩
theorem told_comm (m a b : List Int) : hndL.filter (thT m a b) = hndL.filter (thT m b a) := by
 refine List.filter_congr (fun k _ => ?_)
 exact thO_both.2.2
theorem told_any {k : Int} (h : k ∈ hndL) : (hndL.filter (thT m a b)).any (fun y => y == k) = thT m a b k := by
 cases hq : thT m a b k with
 | true => exact List.any_eq_true.2 ⟨k, List.mem_filter.2 ⟨h, hq⟩, by simp⟩
 | false =>
  refine Bool.eq_false_iff.2 (fun hc => ?_)
  obtain ⟨x, hx, he⟩ := List.any_eq_true.1 hc
  obtain rfl : x = k := by simpa using he
  rw [(List.mem_filter.1 hx).2] at hq
  cases hq
theorem fineE_right {L : List Int} (h : Fine L) : fineE L = 0 := by
 unfold fineE
 rw [if_neg (by rw [h.len0]; simp), if_pos h.ok]
end
theorem OwnV.bs3 {w : World} {B : Nat} {a : Option Addr} {c : Nat} {L : List Int} (h : OwnV w B (.slice a L.length c) L) (hb : Byt L) (hl : L.length <= 6400) : Bs w a c L := by
 obtain ⟨a', c', e, hbs⟩ := h.bs hb (by omega)
 simp only [Value.slice.injEq, true_and] at e
 obtain ⟨rfl, rfl⟩ := e
 exact hbs
theorem Hp.sameM {w w' : World} {B p g c : Nat} {L : List Int} (h : Hp w B p g c L) (h1 : w'.heap[p]? = w.heap[p]?) (h2 : w'.heap[g]? = w.heap[g]?) : Hp w' B p g c L := by
 obtain ⟨cur, r1, r2, r3⟩ := h.row
 exact ⟨h.bp, h.ne, h1.trans h.blk, ⟨cur, r1, h2.trans r2, r3⟩, h.byt, h.fine⟩
theorem Hp.lowM {w : World} {B C p g c : Nat} {L : List Int} (h : Hp w B p g c L) (hC : C <= B) : Hp w C p g c L := by
 obtain ⟨cur, r1, r2, r3⟩ := h.row
 exact ⟨Nat.le_trans hC h.bp, h.ne, h.blk, ⟨cur, Nat.le_trans hC r1, r2, r3⟩, h.byt, h.fine⟩
theorem OpIn.belowM {w w' : World} {r : OpR} (h : OpIn w r) (hb : Below w.heap.size w w') : OpIn w' r := by
 obtain ⟨a1, a2, a3, a4, a5, a6⟩ := h
 exact ⟨a1, a2, a3, a4, a5, a6.below hb⟩
def Sd (w0 w : World) (p1 p2 : Nat) (am : Option Addr) (cm : Nat) (M : List Int) : Prop :=
 ∃ g1 c1 L1 g2 c2 L2, Hp w w0.heap.size p1 g1 c1 L1 /\ Hp w w0.heap.size p2 g2 c2 L2 /\ L1.length = M.length /\ L2.length = M.length /\ (∀ k, foot p1 g1 k -> ¬ foot p2 g2 k) /\ BsO w (foot p1 g1) am cm M /\ BsO w (foot p2 g2) am cm M /\ Below w0.heap.size w0 w
section
variable {w0 w w' : World} {p1 p2 : Nat} {am : Option Addr} {cm : Nat} {M : List Int}
theorem Sd.swap (h : Sd w0 w p1 p2 am cm M) : Sd w0 w p2 p1 am cm M := by
 obtain ⟨g1, c1, L1, g2, c2, L2, h1, h2, l1, l2, hn, b1, b2, hb⟩ := h
 exact ⟨g2, c2, L2, g1, c1, L1, h2, h1, l2, l1, fun k hk hq => hn k hq hk, b2, b1, hb⟩
theorem Sd.base (h : Sd w0 w p1 p2 am cm M) : Below w0.heap.size w0 w := by
 obtain ⟨g1, c1, L1, g2, c2, L2, h1, h2, l1, l2, hn, b1, b2, hb⟩ := h
 exact hb
theorem Sd.img (h : Sd w0 w p1 p2 am cm M) : Bs w am cm M := by
 obtain ⟨g1, c1, L1, g2, c2, L2, h1, h2, l1, l2, hn, b1, b2, hb⟩ := h
 exact b1.1
theorem Sd.below (h : Sd w0 w p1 p2 am cm M) (hb : Below w.heap.size w w') : Sd w0 w' p1 p2 am cm M := by
 obtain ⟨g1, c1, L1, g2, c2, L2, h1, h2, l1, l2, hn, b1, b2, hb0⟩ := h
 exact ⟨g1, c1, L1, g2, c2, L2, h1.below hb, h2.below hb, l1, l2, hn, b1.below hb, b2.below hb, hb0.trans (hb.mono hb0.size)⟩
theorem Sd.made {w1 w2 : World} {g1 c1 g2 c2 : Nat} (h1 : Hp w1 w0.heap.size p1 g1 c1 M) (b1 : BsO w1 (foot p1 g1) am cm M) (hb1 : Below w0.heap.size w0 w1) (h2 : Hp w2 w1.heap.size p2 g2 c2 M) (hb2 : Below w1.heap.size w1 w2) : Sd w0 w2 p1 p2 am cm M := by
 have hs := hb1.size
 refine ⟨g1, c1, M, g2, c2, M, h1.below hb2, h2.lowM hs, rfl, rfl, fun k hk hq => ?_, b1.below hb2, ⟨(b1.below hb2).1, fun hne x hx hq => ?_⟩, hb1.trans (hb2.mono hs)⟩
 ·have q1 := h1.plt
  have q2 := h1.glt
  have q3 := h2.bp
  have q4 := h2.bg
  rcases hk with rfl | rfl <;> rcases hq with hq | hq <;> omega
 ·have q3 := h2.bp
  have q4 := h2.bg
  obtain ⟨b, off, e, hcell⟩ := b1.1.2.2.2.2 hne
  have hl : 0 < M.length := by cases M with
   | nil => exact absurd rfl hne
   | cons _ _ => simp
  have hlt := block_lt_of_cell (hcell 0 hl)
  rw [e] at hx
  simp only [Option.some.injEq] at hx
  subst hx
  dsimp only at hq hlt
  rcases hq with hq | hq <;> omega
theorem Sd.act (h : Sd w0 w p1 p2 am cm M) (r : OpR) (hr : OpIn w r) :
  Calls Tryz.prog 14 #[.pointer (some ⟨p1, 0, none⟩), opvM r] w fun e w' => e = .returned (.tuple #[]) /\ Sd w0 w' p1 p2 am cm M := by
 obtain ⟨g1, c1, L1, g2, c2, L2, h1, h2, l1, l2, hn, b1, b2, hb⟩ := h
 refine (act_any h1 hb.size r hr).mono ?_
 rintro e w' ⟨rfl, g', c', L', hh, hl, ht⟩
 refine ⟨rfl, g', c', L', g2, c2, L2, hh, h2.sameM (ht.block p2 h2.plt (fun hf => hn p2 hf (.inl rfl))) (ht.block g2 h2.glt (fun hf => hn g2 hf (.inr rfl))), hl.trans l1, l2, fun k hk hq => ?_, b1.turn ht, ⟨(b1.turn ht).1, b2.2⟩, ?_⟩
 ·have hlt : k < w.heap.size := h2.footLt k hq
  exact hn k (ht.foot k hlt hk) hq
 ·exact ⟨ht.os.trans hb.os, ht.tape.trans hb.tape, ht.output.trans hb.output, Nat.le_trans hb.size ht.size, fun k hk => (ht.block k (Nat.lt_of_lt_of_le hk hb.size) (fun hf => by have q1 := h1.bp; have q2 := h1.bg; rcases hf with hf | hf <;> omega)).trans (hb.block k hk)⟩
theorem Sd.bytes (h : Sd w0 w p1 p2 am cm M) :
  Calls Tryz.prog 15 #[.pointer (some ⟨p1, 0, none⟩)] w fun e w' => ∃ a c L, e = .returned (.slice a M.length c) /\ L.length = M.length /\ Fine L /\ Bs w' a c L /\ Below w.heap.size w w' := by
 obtain ⟨g1, c1, L1, g2, c2, L2, h1, h2, l1, l2, hn, b1, b2, hb⟩ := h
 refine (hBytes_any p1 g1 c1 _ L1 w h1).mono ?_
 rintro e w' ⟨a', c', rfl, ho, hb'⟩
 refine ⟨a', c', L1, by rw [l1], l1, h1.fine, OwnV.bs3 ho h1.byt (by have := h1.len; omega), hb'⟩
end
section
variable {M A B X : List Int} {N : Nat}
def sdT (M A B : List Int) : List Int := if (mgS M A B).1 = 0 then hndL.filter (thT M A B) else []
theorem sd_three (fm : Fine M) (fa : Fine A) (fb : Fine B) (ha : A.length = M.length) (hb : B.length = M.length) (hN : M.length = N) (am aa ab : Option Addr) (cm ca cb : Nat) (W : World) (hM : Bs W am cm M) (hA : Bs W aa ca A) (hB : Bs W ab cb B) :
  Calls Tryz.prog 12 #[.slice am N cm, .slice aa N ca, .slice ab N cb] W fun e w' => ∃ x c v d, e = .returned (.tuple #[.slice x (mgS M A B).2.length c, .slice v (sdT M A B).length d, errV (mgS M A B).1]) /\ Bs w' x c (mgS M A B).2 /\ Sls inC 1 w' v d (sdT M A B) /\ Below W.heap.size W w' := by
 have h3 := mThree_any (am, cm, M) (aa, ca, A) (ab, cb, B) W hM hA hB
 have hth := thE_right (m := (am, cm, M)) (a := (aa, ca, A)) (b := (ab, cb, B)) (fun x hx => by
  simp at hx
  rcases hx with rfl | rfl | rfl
  ·exact ⟨fm, rfl⟩
  ·exact ⟨fa, ha⟩
  ·exact ⟨fb, hb⟩)
 have htk : thK (am, cm, M) (aa, ca, A) (ab, cb, B) = sdT M A B := by
  unfold thK sdT
  rw [hth.1]
 rw [hth.1, hth.2, htk] at h3
 unfold imV at h3
 dsimp only at h3
 rw [ha, hb, hN] at h3
 refine h3.mono ?_
 rintro e w' ⟨x, c, v, rfl, h1, h2, h4⟩
 obtain ⟨v', d', rfl, hs⟩ := h2.sls inC_len (by
  have : (sdT M A B).length <= 40 := by
   unfold sdT
   split
   ·exact Nat.le_trans (List.length_filter_le _ _) (by rw [hndL_len]; omega)
   ·simp
  omega)
 exact ⟨x, c, v', d', rfl, h1, hs, h4⟩
theorem sd_left (fm : Fine M) (fa : Fine A) (ha : A.length = M.length) (hN : M.length = N) (am aa : Option Addr) (cm ca : Nat) (W : World) (hM : Bs W am cm M) (hA : Bs W aa ca A) :
  Calls Tryz.prog 12 #[.slice am N cm, .slice aa N ca, .slice am N cm] W fun e w' => ∃ x c v d X, e = .returned (.tuple #[.slice x N c, .slice v 0 d, .nilIface]) /\ X.length = N /\ Bs w' x c X /\ (sameB X A = true /\ sameE X A = 0) /\ Below W.heap.size W w' := by
 obtain ⟨t1, t2, t3, t4, t5⟩ := three_left fm fa hM.1 hA.1 ha
 refine (sd_three fm fa fm ha rfl hN am aa am cm ca cm W hM hA hM).mono ?_
 rintro e w' ⟨x, c, v, d, rfl, h1, h2, h4⟩
 have h5 : sdT M A M = [] := by
  unfold sdT
  rw [if_pos t1, t5]
 refine ⟨x, c, v, d, (mgS M A M).2, ?_, t2.trans hN, h1, ⟨t3, t4⟩, h4⟩
 rw [t2, hN, h5, t1, errV_zero]
 rfl
theorem sd_right (fm : Fine M) (fa : Fine A) (ha : A.length = M.length) (hN : M.length = N) (am aa : Option Addr) (cm ca : Nat) (W : World) (hM : Bs W am cm M) (hA : Bs W aa ca A) :
  Calls Tryz.prog 12 #[.slice am N cm, .slice am N cm, .slice aa N ca] W fun e w' => ∃ x c v d X, e = .returned (.tuple #[.slice x N c, .slice v 0 d, .nilIface]) /\ X.length = N /\ Bs w' x c X /\ (sameB X A = true /\ sameE X A = 0) /\ Below W.heap.size W w' := by
 obtain ⟨t1, t2, t3, t4, t5⟩ := three_right fm fa hM.1 hA.1 ha
 refine (sd_three fm fm fa rfl ha hN am am aa cm cm ca W hM hM hA).mono ?_
 rintro e w' ⟨x, c, v, d, rfl, h1, h2, h4⟩
 have h5 : sdT M M A = [] := by
  unfold sdT
  rw [if_pos t1, t5]
 refine ⟨x, c, v, d, (mgS M M A).2, ?_, t2.trans hN, h1, ⟨t3, t4⟩, h4⟩
 rw [t2, hN, h5, t1, errV_zero]
 rfl
theorem sd_same (hX : X.length = N) (hA : A.length = N) (hs : sameB X A = true /\ sameE X A = 0) (x a : Option Addr) (cx ca : Nat) (W : World) (bX : Bs W x cx X) (bA : Bs W a ca A) :
  Calls Tryz.prog 16 #[.slice x N cx, .slice a N ca] W fun e w' => e = .returned (.tuple #[.bool true, .nilIface]) /\ Below W.heap.size W w' := by
 have h := same_any x a cx ca X A W bX bA
 rw [hX, hA, hs.1, hs.2, errV_zero] at h
 exact h
theorem sd_fine (hX : X.length = N) (hf : Fine X) (x : Option Addr) (cx : Nat) (W : World) (bX : Bs W x cx X) :
  Calls Tryz.prog 6 #[.slice x N cx] W fun e w' => e = .returned (.int .i64 0) /\ Below W.heap.size W w' := by
 have h := rFine_any x cx X W bX
 rw [hX, fineE_right hf] at h
 exact h
theorem sd_obj (hX : X.length = N) (hf : Fine X) (x : Option Addr) (cx : Nat) (k : Int) (h1 : 1 <= k) (h2 : k <= 40) (W : World) (bX : Bs W x cx X) {O : Int × List Int} (hO : objOf X k = O) :
  Calls Tryz.prog 17 #[.slice x N cx, .int .i64 k] W fun e w' => e = .returned (.tuple #[.int .i64 O.1, .string (strOf O.2)]) /\ Below W.heap.size W w' := by
 have h := rObject_any x cx X k W bX hf.len.1 h1 h2 (fun ht => right_in hf.ok h1 h2 ht)
 rw [hX, hO] at h
 exact h
theorem sd_in {T : List Int} (hT : T = hndL.filter (thT M A B)) (a : Option Addr) (c : Nat) (k : Int) (h1 : 1 <= k) (h2 : k <= 40) (W : World) (hs : Sls inC 1 W a c T) {q : Bool} (hq : thT M A B k = q) :
  Calls Tryz.prog 18 #[.slice a T.length c, .int .i64 k] W fun e w' => e = .returned (.bool q) /\ W = w' := by
 have h := lawIn_any a c T k W hs
 rw [show T.any (fun y => y == k) = q by rw [hT, told_any (mem_hndL.2 ⟨h1, h2⟩), hq]] at h
 exact h
theorem sd_both (fm : Fine M) (fa : Fine A) (fb : Fine B) (bm : Byt M) (ba : Byt A) (bb : Byt B) (h1 : (mgS M A B).1 = 0) (h2 : (mgS M B A).1 = 0) {k : Int} (k1 : 1 <= k) (k2 : k <= 40) :
  (thT M A B k = false -> objOf (mgS M A B).2 k = objOf (mgS M B A).2 k) /\ (thT M A B k = true -> objOf (mgS M A B).2 k = objOf A k) := by
 obtain ⟨_, _, q1⟩ := mgS_good fm fa fb bm ba bb h1
 obtain ⟨_, _, q2⟩ := mgS_good fm fb fa bm bb ba h2
 rw [q1 k k1 k2, q2 k k1 k2]
 exact ⟨thO_both.1, thO_both.2.1⟩
end
end Go.Proofs.YtfbloliakmehbaaGreatDoor
