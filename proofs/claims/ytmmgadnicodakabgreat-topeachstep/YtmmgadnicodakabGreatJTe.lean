/-
  Joined by program: TeA; TeB. (Parts of the proofs over the packages of the program.)
-/
import Derived.Test.YtmmgadnicodakabGreatJPo
import Derived.Test.YtmmgadnicodakabGreatJPe
import Derived.Test.YtmmgadnicodakabGreatJIm
import Derived.Test.YtmmgadnicodakabGreatJCh
import Derived.Maps.AppendAt
import Derived.Test.YtmmgadnicodakabGreatJSm
namespace Go.Proofs.YtmmgadnicodakabGreat
open Go.RowKit
set_option linter.unusedVariables false
abbrev ImP := Nat × Nat × List Int
def imC (r : ImP) : List Value := [.slice (some ⟨r.1, 0, none⟩) r.2.2.length r.2.1]
theorem imC_len (r : ImP) : (imC r).length = 1 := rfl
theorem imC_one (r : ImP) : ∀ u ∈ imC r, u.oneCell' = true := by
 intro u hu
 rw [List.mem_singleton.1 hu]
 rfl
theorem info_im : (Tryz.prog.info? 33).map (fun i => (i.zero, i.size, i.bytes)) = some (some (.slice none 0 0), 1, 24) := by kernel_rfl
theorem wpList_append_lst3 {α : Type} {enc : α → List Value} {k T : Nat} {P : Program} {w : World} {ops : Array Oper} {rest : List Oper} {o : Oper} {a : Act} {Q : Exit → Act → World → Prop} (hgd : o.guard = none) (s x : Operand) (t : TypeId)
  (ho : o.op = .call { callee := .builtin .append, args := #[s, x], argTypes := #[t, t] }) (B : Nat) (i0 : TypeInfo) (z : Value) (bytes : Nat)
  (ht : P.underlying t = some (.slice T)) (hi : P.info? T = some i0) (hz : i0.zero = some z) (hsize : i0.size = k) (hby : i0.bytes = bytes) (hzs : z.cells.size = k) (hsz : 0 < k) (hbb : bytes ≤ 100)
  (v : Value) (l : List α) (hs : a.eval s = v) (hown : Lst enc k T w B v l) (g : Nat) (y : α) (hx : a.eval x = .slice (some ⟨g, 0, none⟩) 1 1)
  (hy : w.heap[g]? = some (.cells (enc y).toArray T (0, 0))) (hk : (enc y).length = k) (h1 : ∀ u ∈ enc y, u.oneCell' = true) (hn : l.length ≤ 1000) (hB : B ≤ w.heap.size)
  (h : ∀ v' w', Lst enc k T w' B v' (l ++ [y]) → Below B w w' → (∀ j, j < w.heap.size → v.ownBlock ≠ some j → w'.heap[j]? = w.heap[j]?) → (v'.ownBlock = v.ownBlock ∨ v'.ownBlock = some w.heap.size) → wpList P ops Q rest (a.put o.dst v') w') :
  wpList P ops Q (o :: rest) a w := by
 refine wpList_append_own_at w hgd s x t ho B T i0 z k bytes ht hi hz hsize hby hzs hsz v l.length (l.flatMap enc) hs hown ⟨g, 0, none⟩ 1 1 (enc y) hx (by rw [hk, Nat.one_mul]) (fun j u hj => ?_) h1 (by unfold maxLen; omega) (Nat.le_trans (Nat.mul_le_mul (show l.length + 1 ≤ 1001 by omega) hbb) (by decide)) hB ?_
 ·rw [addr_add, Nat.zero_add, cell_of_row _ _ _ _ _ _ hy]
  simpa using hj
 ·intro v' w' ho' hg' _ hob
  refine h v' w' ?_ ((Below.refl _ _).grown hg' hB (fun k hk => hown.block k hk)) (fun j hj hne => hg'.block j hj (fun e => hne e.symm)) hob
  unfold Lst
  rw [List.length_append, List.flatMap_append]
  simpa using ho'
structure Imr (w : World) (B : Nat) (F : Nat → Prop) (v : Value) (rs : List ImP) : Prop where
 row : Lst imC 1 33 w B v rs
 out : ∀ g, v.ownBlock = some g → ¬ F g
 ne : rs ≠ []
 im : ∀ r ∈ rs, BsO w F (some ⟨r.1, 0, none⟩) r.2.1 r.2.2 ∧ 288 ≤ r.2.2.length ∧ r.2.2.length ≤ 6400
section
variable {w w' : World} {B : Nat} {F F' : Nat → Prop} {v : Value} {rs : List ImP}
theorem Imr.turn (h : Imr w B F v rs) (ht : Turn F F' w w') : Imr w' B F' v rs := by
 refine ⟨⟨h.row.1, ?_⟩, fun g hg hf => ?_, h.ne, fun r hr => ⟨(h.im r hr).1.turn ht, (h.im r hr).2⟩⟩
 ·rcases h.row.2 with h0 | ⟨g, cap, cur, e, hB, hc, h3⟩
  ·exact .inl h0
  ·exact .inr ⟨g, cap, cur, e, hB, (ht.block g (Array.getElem?_eq_some_iff.1 hc).1 (h.out g (by rw [e]; rfl))).trans hc, h3⟩
 ·exact h.out g hg (ht.foot g (h.row.old g hg) hf)
theorem Imr.below (h : Imr w B F v rs) (hb : Below w.heap.size w w') : Imr w' B F v rs := h.turn (Turn.of_below hb)
theorem Imr.first (h : Imr w B F v rs) : ∀ g, v.ownBlock = some g → ∃ a n c, w.cell? ⟨g, 0, none⟩ = some (.slice a n c) := by
 intro g hg
 obtain ⟨r, rr, e⟩ := List.exists_cons_of_ne_nil h.ne
 rcases h.row.2 with ⟨e1, e0⟩ | ⟨g', cap, cur, e1, hB, hc, h3, h4, h5, h6⟩
 ·rw [e1] at hg; cases hg
 ·rw [e1] at hg
  simp [Value.ownBlock] at hg
  subst hg
  refine ⟨some ⟨r.1, 0, none⟩, r.2.2.length, r.2.1, ?_⟩
  have hc0 := cell_of_row w g' 0 cur _ _ hc
  rw [hc0]
  have q : (cur.toList.take (rs.length * 1))[0]? = (rs.flatMap imC)[0]? := by rw [h6]
  rw [e] at q
  rw [List.getElem?_take, if_pos (by simp)] at q
  rw [← Array.getElem?_toList, q]
  rfl
theorem Imr.apart (h : Imr w B F v rs) {r : ImP} (hr : r ∈ rs) : v.ownBlock ≠ some r.1 := fun e => by
 obtain ⟨a, n, c, h1⟩ := h.first r.1 e
 obtain ⟨⟨hb, _⟩, h288, _⟩ := h.im r hr
 obtain ⟨b, off, e2, hc⟩ := hb.2.2.2.2 (by intro e; rw [e] at h288; simp at h288)
 simp only [Option.some.injEq, Addr.mk.injEq, and_true] at e2
 obtain ⟨e3, e4⟩ := e2
 have := hc 0 (by omega)
 rw [← e3, ← e4] at this
 simp only [Nat.add_zero] at this
 rw [h1] at this
 cases this
theorem Imr.more (h : Imr w B F v rs) {v' : Value} {r : ImP} (hl : Lst imC 1 33 w' B v' (rs ++ [r])) (hb : Below B w w') (hk : ∀ j, j < w.heap.size → v.ownBlock ≠ some j → w'.heap[j]? = w.heap[j]?)
  (hF : ∀ k, F k → k < w.heap.size) (hr : BsO w F (some ⟨r.1, 0, none⟩) r.2.1 r.2.2 ∧ 288 ≤ r.2.2.length ∧ r.2.2.length ≤ 6400) (hr2 : v.ownBlock ≠ some r.1) (hv' : v'.ownBlock = v.ownBlock ∨ v'.ownBlock = some w.heap.size) : Imr w' B F v' (rs ++ [r]) := by
 have hblk : ∀ (q : ImP), (BsO w F (some ⟨q.1, 0, none⟩) q.2.1 q.2.2 ∧ 288 ≤ q.2.2.length ∧ q.2.2.length ≤ 6400) → v.ownBlock ≠ some q.1 → BsO w' F (some ⟨q.1, 0, none⟩) q.2.1 q.2.2 ∧ 288 ≤ q.2.2.length ∧ q.2.2.length ≤ 6400 := fun q hq hn => by
  refine ⟨⟨⟨hq.1.1.1, hq.1.1.2.1, hq.1.1.2.2.1, hq.1.1.2.2.2.1, fun hne => ?_⟩, hq.1.2⟩, hq.2⟩
  obtain ⟨b, off, e2, hc⟩ := hq.1.1.2.2.2.2 hne
  refine ⟨b, off, e2, fun i hi => ?_⟩
  simp only [Option.some.injEq, Addr.mk.injEq, and_true] at e2
  have h1 := hc i hi
  have hlt := block_lt_of_cell h1
  have hs : w'.heap[b]? = w.heap[b]? := hk b hlt (by rw [← e2.1]; exact hn)
  have : w'.cell? ⟨b, off + i, none⟩ = w.cell? ⟨b, off + i, none⟩ := World.cell?_of_block (w := w) hs
  rw [this]; exact h1
 refine ⟨hl, fun g hg hf => ?_, by simp, fun q hq => ?_⟩
 ·rcases hv' with h1 | h1
  ·rw [h1] at hg; exact h.out g hg hf
  ·rw [h1] at hg
   have := hF g hf
   have := Option.some.inj hg
   omega
 ·rcases List.mem_append.1 hq with hq | hq
  ·exact hblk q (h.im q hq) (h.apart hq)
  ·rw [List.mem_singleton.1 hq]; exact hblk r hr hr2
theorem append_turn (hb : Below B w w') (hk : ∀ j, j < w.heap.size → v.ownBlock ≠ some j → w'.heap[j]? = w.heap[j]?) : Turn (fun j => v.ownBlock = some j) (fun _ => False) w w' :=
 ⟨hb.os, hb.tape, hb.output, hb.size, fun k hk1 hn => hk k hk1 hn, fun _ _ hf => hf.elim⟩
theorem Imr.one {g c : Nat} {L : List Int} (hB : B ≤ w.heap.size) (hF : ∀ k, F k → k < w.heap.size) (hr : BsO w F (some ⟨g, 0, none⟩) c L) (h1 : 288 ≤ L.length) (h2 : L.length ≤ 6400) :
  Imr (w.alloc (.cells #[.slice (some ⟨g, 0, none⟩) L.length c] 33)) B F (.slice (some ⟨w.heap.size, 0, none⟩) 1 1) [(g, c, L)] := by
 have hba : Below w.heap.size w (w.alloc (.cells #[.slice (some ⟨g, 0, none⟩) L.length c] 33)) := (Below.refl _ _).alloc (Nat.le_refl _) _
 refine ⟨⟨rfl, .inr ⟨w.heap.size, 1, _, rfl, hB, heap_alloc_new w _, Nat.le_refl _, by decide, rfl, rfl⟩⟩, fun k hk hf => ?_, by simp, fun r hr' => ?_⟩
 ·have := hF k hf
  have := Option.some.inj hk
  simp at this
  omega
 ·rw [List.mem_singleton.1 hr']
  exact ⟨hr.below hba, h1, h2⟩
end
end Go.Proofs.YtmmgadnicodakabGreat
namespace Go.Proofs.YtmmgadnicodakabGreat
open Go.RowKit
set_option linter.unusedVariables false
theorem stK_snoc {m : Nat} : ∀ (l : List OpP) (p : Ps) (o : OpP), stK m p (l ++ [o]) = stK m p l ++ (if o.1 = 6 ∧ (psDo m (psRun m p l) o).2 = 0 then [(psDo m (psRun m p l) o).1.L] else [])
 | [], p, o => by
  show (if o.1 = 6 ∧ (psDo m p o).2 = 0 then [(psDo m p o).1.L] else []) ++ [] = [] ++ _
  rw [List.append_nil, List.nil_append]
  rfl
 | x :: l, p, o => by
  show (if x.1 = 6 ∧ (psDo m p x).2 = 0 then [(psDo m p x).1.L] else []) ++ stK m (psDo m p x).1 (l ++ [o]) = ((if x.1 = 6 ∧ (psDo m p x).2 = 0 then [(psDo m p x).1.L] else []) ++ stK m (psDo m p x).1 l) ++ _
  rw [stK_snoc l (psDo m p x).1 o, List.append_assoc]
  rfl
def keptL (m : Nat) (P : Ps) (l : List OpR) (k : Nat) : List (List Int) := P.K :: stK m P ((l.take k).map opP)
theorem keptL_snoc {m : Nat} {P : Ps} {l : List OpR} {k : Nat} {r : OpR} (h : l[k]? = some r) :
  keptL m P l (k + 1) = keptL m P l k ++ (if r.1 = 6 ∧ (psDo m (psRun m P ((l.take k).map opP)) (opP r)).2 = 0 then [(psDo m (psRun m P ((l.take k).map opP)) (opP r)).1.L] else []) := by
 unfold keptL
 rw [ops_snoc h, stK_snoc]
 rfl
def TeSt (w0 w : World) (t p x m : Nat) (P : Ps) (l : List OpR) (k : Nat) (v : Value) : Prop :=
 ∃ F rs, Tf w0 w t p x m (psRun m P ((l.take k).map opP)) F ∧ Imr w w0.heap.size F v rs ∧ rs.map (·.2.2) = keptL m P l k
def TeMd (w0 w : World) (t p x m : Nat) (P : Ps) (l : List OpR) (k : Nat) (Q : Ps) (v : Value) : Prop :=
 ∃ F rs, Tf w0 w t p x m Q F ∧ Imr w w0.heap.size F v rs ∧ rs.map (·.2.2) = keptL m P l k
section
variable {w0 w w' : World} {t p x m n : Nat} {P Q : Ps} {l : List OpR} {k : Nat} {v : Value}
theorem TeSt.base (h : TeSt w0 w t p x m P l k v) : Below w0.heap.size w0 w := by obtain ⟨F, rs, h, _⟩ := h; exact h.base
theorem TeMd.base (h : TeMd w0 w t p x m P l k Q v) : Below w0.heap.size w0 w := by obtain ⟨F, rs, h, _⟩ := h; exact h.base
theorem TeSt.do {a : Option Addr} {cap : Nat} {r : OpR} (h : TeSt w0 w t p x m P l k v) (ho : Ops w0 a cap l) (hz : Pz m n P) (h0 : 0 ≤ P.s) (hs : P.s + k ≤ 999) (hr : l[k]? = some r) :
  Calls Tryz.prog 9 #[.pointer (some ⟨t, 0, none⟩), opV r] w fun e w' => e = .returned (errV (psDo m (psRun m P ((l.take k).map opP)) (opP r)).2) ∧ TeMd w0 w' t p x m P l k (psDo m (psRun m P ((l.take k).map opP)) (opP r)).1 v := by
 obtain ⟨F, rs, h1, h2, h3⟩ := h
 obtain ⟨m1, m2, m3⟩ := run_pz ho hz (k := k) (by omega)
 obtain ⟨a1, a2, a3, a4, a5, a6⟩ := ho.2 r (List.mem_of_getElem? hr)
 refine (h1.do r ⟨a1, a2, a3, a4, a5, a6.below h1.base⟩ m1 (by omega) (by omega)).mono ?_
 rintro e w' ⟨he, F', k1, k2⟩
 exact ⟨he, F', rs, k1, h2.turn k2, h3⟩
theorem TeMd.skip {r : OpR} (h : TeMd w0 w t p x m P l k (psDo m (psRun m P ((l.take k).map opP)) (opP r)).1 v) (hr : l[k]? = some r) (hn : ¬ (r.1 = 6 ∧ (psDo m (psRun m P ((l.take k).map opP)) (opP r)).2 = 0)) : TeSt w0 w t p x m P l (k + 1) v := by
 obtain ⟨F, rs, h1, h2, h3⟩ := h
 refine ⟨F, rs, by rw [run_snoc hr]; exact h1, h2, ?_⟩
 rw [keptL_snoc hr, if_neg hn, List.append_nil]
 exact h3
theorem TeMd.heap (h : TeMd w0 w t p x m P l k Q v) : Calls Tryz.prog 7 #[.pointer (some ⟨t, 0, none⟩)] w fun e w' => e = .returned (.pointer (some ⟨x, 0, none⟩)) ∧ w = w' := by
 obtain ⟨F, rs, h1, h2, h3⟩ := h
 exact h1.heap
theorem TeMd.bytes (h : TeMd w0 w t p x m P l k Q v) :
  Calls Tryz.prog 8 #[.pointer (some ⟨x, 0, none⟩)] w fun e w' => ∃ g c F rs, e = .returned (.slice (some ⟨g, 0, none⟩) Q.L.length c) ∧ Tf w0 w' t p x m Q F ∧ Imr w' w0.heap.size F v rs ∧ rs.map (·.2.2) = keptL m P l k ∧ BsO w' F (some ⟨g, 0, none⟩) c Q.L ∧ w.heap.size ≤ g ∧ Below w.heap.size w w' := by
 obtain ⟨F, rs, h1, h2, h3⟩ := h
 have hf := h1.fine
 have hm := hf.1.len
 refine h1.bytes.mono ?_
 rintro e w' ⟨⟨g, c, cur, rfl, hr⟩, k1, hb⟩
 refine ⟨g, c, F, rs, rfl, k1, h2.below hb, h3, ⟨hr.bs hf.2.1 (by omega), fun _ y hy hfy => ?_⟩, hr.1, hb⟩
 obtain rfl := Option.some.inj hy
 have h9 := h1.lt _ hfy
 have h8 := hr.1
 simp at h9
 omega
theorem te_more {w1 w2 : World} {F : Nat → Prop} {rs : List ImP} {g c : Nat} {v' : Value} {r : OpR} (h1 : Tf w0 w1 t p x m (psDo m (psRun m P ((l.take k).map opP)) (opP r)).1 F) (h2 : Imr w1 w0.heap.size F v rs) (h3 : rs.map (·.2.2) = keptL m P l k)
  (hb : BsO w1 F (some ⟨g, 0, none⟩) c (psDo m (psRun m P ((l.take k).map opP)) (opP r)).1.L) (hg : v.ownBlock ≠ some g) (hr : l[k]? = some r) (hy : r.1 = 6 ∧ (psDo m (psRun m P ((l.take k).map opP)) (opP r)).2 = 0)
  (hl : Lst imC 1 33 w2 w0.heap.size v' (rs ++ [(g, c, (psDo m (psRun m P ((l.take k).map opP)) (opP r)).1.L)])) (hbl : Below w0.heap.size w1 w2) (hk : ∀ j, j < w1.heap.size → v.ownBlock ≠ some j → w2.heap[j]? = w1.heap[j]?) (hv : v'.ownBlock = v.ownBlock ∨ v'.ownBlock = some w1.heap.size) :
  TeSt w0 w2 t p x m P l (k + 1) v' := by
 have hf := h1.fine
 have hm := hf.1.len
 refine ⟨F, rs ++ [(g, c, (psDo m (psRun m P ((l.take k).map opP)) (opP r)).1.L)], ?_, h2.more hl hbl hk h1.lt ⟨hb, hm.1, hm.2⟩ hg hv, ?_⟩
 ·rw [run_snoc hr]
  exact h1.other (append_turn hbl hk) (fun j hj hU => h2.out j hU hj) (fun j hj => h2.row.block j hj)
 ·rw [List.map_append, h3, keptL_snoc hr, if_pos hy]
  rfl
theorem TeSt.start {w1 : World} {F : Nat → Prop} {g c : Nat} {cur : Array Value} (h : Tf w0 w t p x m P F) (h1 : Tf w0 w1 t p x m P F) (hr : Row w1 w.heap.size g c cur P.L) (hLK : P.L = P.K) :
  TeSt w0 (w1.alloc (.cells #[.slice (some ⟨g, 0, none⟩) P.L.length c] 33)) t p x m P l 0 (.slice (some ⟨w1.heap.size, 0, none⟩) 1 1) := by
 have hf := h1.fine
 have hm := hf.1.len
 have hba : Below w1.heap.size w1 (w1.alloc (.cells #[.slice (some ⟨g, 0, none⟩) P.L.length c] 33)) := (Below.refl _ _).alloc (Nat.le_refl _) _
 refine ⟨F, [(g, c, P.L)], h1.below hba, Imr.one h1.base.size h1.lt ⟨hr.bs hf.2.1 (by omega), fun _ y hy hfy => ?_⟩ hm.1 hm.2, ?_⟩
 ·obtain rfl := Option.some.inj hy
  have h9 := h.lt _ hfy
  have h8 := hr.1
  simp at h9
  omega
 ·show [P.L] = P.K :: stK m P (([] : List OpR).map opP)
  rw [hLK]
  rfl
end
theorem bls_below {w w' : World} {a : Option Addr} {cap : Nat} {l : List Bool} (h : Bls w a cap l) (hb : Below w.heap.size w w') : Bls w' a cap l := by
 obtain ⟨b1, b2, b3⟩ := h
 refine ⟨b1, b2, fun hne => ?_⟩
 obtain ⟨bb, off, rfl, hc⟩ := b3 hne
 exact ⟨bb, off, rfl, fun i hi => (hb.cell (p := ⟨bb, off + i, none⟩) (block_lt_of_cell (hc i hi))).trans (hc i hi)⟩
structure TeRow (w : World) (v : Value) (ks : List (List Int)) : Prop where
 ex : ∃ a c rs, v = .slice a ks.length c ∧ Sls imC 1 w a c rs ∧ rs.map (·.2.2) = ks ∧ ∀ r ∈ rs, Bs w (some ⟨r.1, 0, none⟩) r.2.1 r.2.2 ∧ lenB r.2.2.length = true
section
variable {w0 w w' : World} {t p x m n : Nat} {P : Ps} {l : List OpR} {k : Nat} {v : Value} {ks : List (List Int)}
theorem TeSt.row (h : TeSt w0 w t p x m P l k v) (hk : (keptL m P l k).length ≤ 1000) : TeRow w v (keptL m P l k) := by
 obtain ⟨F, rs, h1, h2, h3⟩ := h
 have hl : rs.length = (keptL m P l k).length := by rw [← h3, List.length_map]
 obtain ⟨a, c, hv, hs⟩ := h2.row.sls imC_len (by omega)
 refine ⟨a, c, rs, by rw [← hl]; exact hv, hs, h3, fun r hr => ⟨(h2.im r hr).1.1, lenB_iff.2 ?_⟩⟩
 have := (h2.im r hr).2
 omega
theorem TeRow.below (h : TeRow w v ks) (hb : Below w.heap.size w w') : TeRow w' v ks := by
 obtain ⟨a, c, rs, h1, h2, h3, h4⟩ := h.ex
 exact ⟨a, c, rs, h1, h2.below hb, h3, fun r hr => ⟨(h4 r hr).1.below hb, (h4 r hr).2⟩⟩
theorem TeRow.at (h : TeRow w v ks) {i : Nat} (hi : i < ks.length) : ∃ b off c g cg, v = .slice (some ⟨b, off, none⟩) ks.length c ∧ ks.length ≤ c ∧ w.cell? ⟨b, off + i, none⟩ = some (.slice (some ⟨g, 0, none⟩) (ks.getD i []).length cg) ∧ Bs w (some ⟨g, 0, none⟩) cg (ks.getD i []) ∧ lenB (ks.getD i []).length = true := by
 obtain ⟨a, c, rs, h1, h2, h3, h4⟩ := h.ex
 have hl : rs.length = ks.length := by rw [← h3, List.length_map]
 have hr : rs[i]? = some rs[i] := List.getElem?_eq_getElem (by omega)
 generalize rs[i] = r at hr
 obtain ⟨b, off, rfl, hc⟩ := h2.2.2.2 (by intro e; rw [e] at hl; simp at hl; omega)
 have hd := hc i r hr 0 _ rfl
 have hk : ks.getD i [] = r.2.2 := by
  rw [← h3, List.getD_eq_getElem?_getD, List.getElem?_map, hr]
  rfl
 have hb := h4 r (List.mem_of_getElem? hr)
 rw [← hk] at hb hd
 rw [Nat.mul_one, Nat.add_zero] at hd
 exact ⟨b, off, c, r.1, r.2.1, h1, by have := h2.1; omega, hd, hb.1, hb.2⟩
end
end Go.Proofs.YtmmgadnicodakabGreat
