/-
  Joined by program: TpA; TpB; TpC. (Parts of the proofs over the packages of the program.)
-/
import Derived.Test.YtknjdhnldfebjaaGreatDoorJTw
import Derived.Test.YtknjdhnldfebjaaGreatDoorJSu
import Derived.Test.YtknjdhnldfebjaaGreatDoorJTf
namespace Go.Proofs.YtknjdhnldfebjaaGreatDoor
open Go.RowKit
set_option linter.unusedVariables false
section
variable {w0 w w' : World} {t p x m n : Nat} {F : Nat → Prop} {D : DS} {s : Int} {L K : List Int}
structure Tp (w0 w : World) (p q m n : Nat) (s : Int) (K : List Int) (S : Nat → Prop) (D : DS) : Prop where
 live : Live w0 w p S D
 pg : PgAt w q p s
 out : ¬ S q
 base : w0.heap.size ≤ q
 nt : ∃ a nl, Nt D m s (prt K) a nl
 left : D.left < 0
 secs : D.secs.length = n
theorem Tf.pagesOpen (h : Tf w0 w t p x m ⟨D, s, L, K⟩ F) (hu : Pu m n ⟨D, s, L, K⟩) (hl : D.left < 0) :
  Calls Tryz.prog 20 #[.pointer (some ⟨p, 0, none⟩)] w fun e w' => ∃ q2 S2 D2 F2, e = .returned (.tuple #[.pointer (some ⟨q2, 0, none⟩), .nilIface]) ∧ Tf w0 w' t p x m ⟨D2, s, L, K⟩ F2 ∧ Tp w0 w' p q2 m n s K S2 D2 ∧ (∀ k, S2 k → F2 k) ∧ ¬ F2 q2 := by
 obtain ⟨q, S, g, c, gk, ck, h1, rfl⟩ := h
 dsimp only at h1
 obtain ⟨a, nl, hnt⟩ := hu.nt
 have hnt' : Nt D m s (prt K) a nl := hnt
 have hf := h1.m200
 have hop := open_go h1.bsd.live h1.cnt (by omega) hnt'.down
 have hsz := h1.size
 rcases rdy_open hnt'.rdy with ⟨r1, r2, r3, r4, r5⟩ | ⟨r1, r2, r3, r4, r5⟩
 ·rw [r1, r2, errV_zero] at hop
  obtain ⟨a2, l2, hnt2⟩ := r4
  refine hop.mono ?_
  rintro e w1 ⟨v, rfl, S1, hl1, ht1, hyes, _⟩
  obtain ⟨q2, rfl, hpg, hq, hout⟩ := hyes (by trivial)
  have hn : (openP D m).1.secs.length = D.secs.length := r3.len
  have h6 := h1.reopen hl1 ht1 (fun k hk => hk) hn
  have hd : D.down = (openP D m).1.down := by rw [show D.down = false from hnt'.down]; exact (show (openP D m).1.down = false from hnt2.down).symm
  rw [hd] at h6
  refine ⟨q2, S1, _, footA S1 q t gk x g, rfl, ⟨q, S1, g, c, gk, ck, h6, rfl⟩, ⟨hl1, hpg, hout, by omega, ⟨a2, l2, hnt2⟩, r5 hl, hn.trans hu.sn⟩, fun k hk => .inl (.inl hk), fun hk => ?_⟩
  rcases hk with (hk | hk) | hk
  ·exact hout hk
  ·have := h1.bsd.pg.lt; omega
  ·have := h1.bsd.tlt q2 hk; omega
 ·exact absurd hl r2
variable {q : Nat} {S : Nat → Prop}
theorem Tp.below (h : Tp w0 w p q m n s K S D) (hb : Below w.heap.size w w') : Tp w0 w' p q m n s K S D := ⟨h.live.below hb, h.pg.below hb, h.out, h.base, h.nt, h.left, h.secs⟩
theorem Tp.len (h : Tp w0 w p q m n s K S D) (hm : cntI n = m) : Calls Tryz.prog 21 #[.pointer (some ⟨q, 0, none⟩)] w fun e w' => e = .returned (.int .i64 m) ∧ w = w' := by
 have := pLen_any h.live.dev h.pg
 rw [h.secs, hm] at this
 exact this
theorem Tp.read (h : Tp w0 w p q m n s K S D) (hm : cntI n = m) (hK : K.length = 32 * m) (hb : Byt K) {i : Nat} (hi : i < m) :
  Calls Tryz.prog 22 #[.pointer (some ⟨q, 0, none⟩), .int .i64 i] w fun e w' => ∃ g, e = .returned (.tuple #[.slice (some ⟨g, 0, none⟩) 32 32, .nilIface]) ∧ Bs w' (some ⟨g, 0, none⟩) 32 (prt K i) ∧ Below w.heap.size w w' := by
 obtain ⟨a, nl, hnt⟩ := h.nt
 have hrd : D.rd (48 + i) = prt K i := by rw [rd_img hnt.mem]; exact hnt.pages i hi
 refine (pRead_yes h.live.dev h.pg i (by unfold hasP; rw [h.secs, hm]; simp; omega) hnt.down).mono ?_
 rintro e w' ⟨g, rfl, _, hk, hbl⟩
 rw [hrd] at hk
 have hl := prt_len hK hi
 have := hk.bs (prt_byt hb i) (by omega)
 rw [hl] at this
 exact ⟨g, rfl, this, hbl⟩
theorem Tp.commit (h : Tp w0 w p q m n s K S D) (hm : cntI n = m) (h0 : 0 ≤ s) (h1 : s ≤ 999) {a : Option Addr} {cap : Nat} {l : List (Int × List Int)} (hl : PgsO w S a cap l) :
  Calls Tryz.prog 23 #[.pointer (some ⟨q, 0, none⟩), .slice a l.length cap] w fun e w' => e = .returned (errV (commitOut D s m l).2.2) ∧ ∃ S', Live w0 w' p S' (commitOut D s m l).1 ∧ Turn (plus S q) (plus S' q) w w' := by
 refine (commit_any h.live h.pg h.out h.base a cap l hl (by rw [h.secs]; exact hm) h0 (by omega)).mono ?_
 rintro e w' ⟨he, S', k1, _, _, k4⟩
 exact ⟨he, S', k1, k4⟩
end
end Go.Proofs.YtknjdhnldfebjaaGreatDoor
namespace Go.Proofs.YtknjdhnldfebjaaGreatDoor
open Go.RowKit
set_option linter.unusedVariables false
section
variable {m : Nat} {K b body : List Int} {l : List (Int × List Int)}
theorem prt_spl_same {i : Nat} (hb : b.length = 32 * m) (hi : i < m) (hl : body.length = 32) : prt (splice b (32 * i) body) i = body := by
 have hs : (splice b (32 * i) body).length = 32 * m := (length_splice (by rw [hl]; omega)).trans hb
 apply ext_getD
 ·rw [prt_len hs hi, hl]
 ·intro j hj
  rw [prt_len hs hi] at hj
  rw [prt_getD hj, splice_in (by rw [hl]; omega) (by omega)]
theorem prt_spl_other {i n : Nat} (hb : b.length = 32 * m) (hi : i < m) (hn : n < m) (hne : i ≠ n) (hl : body.length = 32) : prt (splice b (32 * n) body) i = prt b i := by
 have hs : (splice b (32 * n) body).length = 32 * m := (length_splice (by rw [hl]; omega)).trans hb
 apply ext_getD
 ·rw [prt_len hs hi, prt_len hb hi]
 ·intro j hj
  rw [prt_len hs hi] at hj
  rw [prt_getD hj, prt_getD hj, splice_out (by rw [hl]; omega) (by rw [hl]; omega)]
def pgW (K : List Int) (l : List (Int × List Int)) : Nat → List Int
 | 0 => K
 | k + 1 => splice (pgW K l k) (32 * (l.getD k (0, [])).1.toNat) (l.getD k (0, [])).2
theorem pgW_len (hK : K.length = 32 * m) (hv : Valid m l) : ∀ k, k ≤ l.length → (pgW K l k).length = 32 * m
 | 0, _ => hK
 | k + 1, hk => by
  have ih := pgW_len hK hv k (by omega)
  have h1 := hv.num k (by omega)
  have h2 := hv.body k (by omega)
  show (splice (pgW K l k) (32 * (l.getD k (0, [])).1.toNat) (l.getD k (0, [])).2).length = _
  rw [length_splice (by rw [h2, ih]; omega), ih]
theorem pgW_byt (hK : Byt K) (hb : ∀ k, k < l.length → Byt (l.getD k (0, [])).2) : ∀ k, k ≤ l.length → Byt (pgW K l k)
 | 0, _ => hK
 | k + 1, hk => byt_splice (pgW_byt hK hb k (by omega)) (hb k (by omega))
theorem pgW_none (hK : K.length = 32 * m) (hv : Valid m l) {i : Nat} (hi : i < m) : ∀ k, k ≤ l.length → (∀ j, j < k → (l.getD j (0, [])).1 ≠ (i : Int)) → prt (pgW K l k) i = prt K i
 | 0, _, _ => rfl
 | k + 1, hk, hn => by
  have h1 := hv.num k (by omega)
  have h2 := hn k (by omega)
  show prt (splice (pgW K l k) (32 * (l.getD k (0, [])).1.toNat) (l.getD k (0, [])).2) i = _
  rw [prt_spl_other (pgW_len hK hv k (by omega)) hi (by omega) (by omega) (hv.body k (by omega))]
  exact pgW_none hK hv hi k (by omega) (fun j hj => hn j (by omega))
theorem pgW_one (hK : K.length = 32 * m) (hv : Valid m l) {j : Nat} : ∀ k, k ≤ l.length → j < k → prt (pgW K l k) (l.getD j (0, [])).1.toNat = (l.getD j (0, [])).2
 | 0, _, hj => by omega
 | k + 1, hk, hj => by
  have h1 := hv.num k (by omega)
  show prt (splice (pgW K l k) (32 * (l.getD k (0, [])).1.toNat) (l.getD k (0, [])).2) _ = _
  by_cases e : j = k
  ·subst e
   exact prt_spl_same (pgW_len hK hv j (by omega)) (by omega) (hv.body j (by omega))
  ·have h3 := hv.num j (by omega)
   have h4 := hv.apart j k (by omega) (by omega)
   rw [prt_spl_other (pgW_len hK hv k (by omega)) (by omega) (by omega) (by omega) (hv.body k (by omega))]
   exact pgW_one hK hv k (by omega) (by omega)
theorem pgW_all (hK : K.length = 32 * m) (hv : Valid m l) {i : Nat} (hi : i < m) : prt (pgW K l l.length) i = upd (prt K) l i := by
 by_cases h : ∃ j, j < l.length ∧ (l.getD j (0, [])).1 = (i : Int)
 ·obtain ⟨j, hj, e⟩ := h
  have h1 := pgW_one hK hv (j := j) l.length (Nat.le_refl _) hj
  have h2 := upd_at (P := prt K) hv hj
  rw [e, Int.toNat_natCast] at h1 h2
  rw [h1, h2]
 ·rw [pgW_none hK hv hi l.length (Nat.le_refl _) (fun j hj e => h ⟨j, hj, e⟩), upd_other (fun hm => ?_)]
  obtain ⟨x, hx, e⟩ := List.mem_map.1 hm
  obtain ⟨j, hj, e2⟩ := List.getElem_of_mem hx
  refine h ⟨j, hj, ?_⟩
  rw [List.getD_eq_getElem?_getD, List.getElem?_eq_getElem hj, e2]
  exact e
theorem pgW_fun (hK : K.length = 32 * m) (hv : Valid m l) : prt (pgW K l l.length) = upd (prt K) l := by
 funext i
 by_cases hi : i < m
 ·exact pgW_all hK hv hi
 ·rw [prt_out (pgW_len hK hv l.length (Nat.le_refl _)) (by omega), upd_other (fun hm => ?_), prt_out hK (by omega)]
  obtain ⟨x, hx, e⟩ := List.mem_map.1 hm
  obtain ⟨j, hj, e2⟩ := List.getElem_of_mem hx
  have h1 := hv.num j hj
  rw [List.getD_eq_getElem?_getD, List.getElem?_eq_getElem hj, e2] at h1
  have h2 : x.1 < (m : Int) := h1.2
  have e' : x.1 = (i : Int) := e
  omega
theorem tp_commit {D : DS} {s : Int} {a : Nat} {nl : List Int} (h : Nt D m s (prt K) a nl) (hs : s ≤ 999) (hl : D.left < 0) (hK : K.length = 32 * m) (hb : ∀ k, k < l.length → Byt (l.getD k (0, [])).2) (hE : (commitOut D s m l).2.2 = 0) :
  Valid m l ∧ (commitOut D s m l).1.left < 0 ∧ (commitOut D s m l).1.secs.length = D.secs.length ∧ ∃ a' nl', Nt (commitOut D s m l).1 m (commitOut D s m l).2.1 (prt (pgW K l l.length)) a' nl' := by
 have hce : commitE m l = 0 := by
  refine Classical.byContradiction fun hne => ?_
  have e : commitOut D s m l = (D, s, commitE m l) := by unfold commitOut; rw [if_pos hne]
  rw [e] at hE
  exact hne hE
 have hv := valid_of hce
 refine ⟨hv, ?_⟩
 by_cases hn : l = []
 ·have e : commitOut D s m l = (D, s, 0) := by
   unfold commitOut
   rw [if_neg (by rw [hce]; decide), if_neg (by rw [h.down]; exact Bool.false_ne_true), if_pos hn]
  rw [e]
  refine ⟨hl, rfl, a, nl, ?_⟩
  rw [hn]
  exact h
 ·have e : commitOut D s m l = ((commitRun D s l).1, if (commitRun D s l).2 = 0 then s + 1 else s, (commitRun D s l).2) := by
   unfold commitOut
   rw [if_neg (by rw [hce]; decide), if_neg (by rw [h.down]; exact Bool.false_ne_true), if_neg hn]
  have hev := Ever.commit (s := s) (l := l) hl h.down
  rcases commit_allB h hs hv hb with ⟨r1, r2, r3⟩ | ⟨r1, _⟩
  ·rw [e]
   dsimp only
   rw [if_pos r1]
   exact ⟨hev.2, r3, _, _, by rw [pgW_fun hK hv]; exact r2⟩
  ·exact absurd r1 hev.1
end
end Go.Proofs.YtknjdhnldfebjaaGreatDoor
namespace Go.Proofs.YtknjdhnldfebjaaGreatDoor
open Go.RowKit
set_option linter.unusedVariables false
section
variable {w0 w w' : World} {p m : Nat} {S : Nat → Prop} {D : DS} {s : Int} {K : List Int}
theorem lv_openNo (h : Live w0 w p S D) (hm0 : cntI D.secs.length = m) (hm1 : 9 ≤ m) (hm2 : m ≤ 200) {a : Nat} {nl : List Int} (hnt : Nt D m s (prt K) a nl) (hl : D.left < 0) (hK : K.length = 32 * m) (hby : Byt K) (hf : faults K ≠ []) :
  Calls Tryz.prog 24 #[.pointer (some ⟨p, 0, none⟩)] w fun e w' => e = .returned (.tuple #[.pointer none, errV 6]) ∧ ∃ S', Turn S S' w w' := by
 have hr := hnt.rdy
 have hop := open_go h hm0 (by omega) hr.down
 rcases rdy_open hr with ⟨r1, r2, r3, r4, r5⟩ | ⟨r1, r2, r3, r4, r5⟩
 ·rw [r1, r2, errV_zero] at hop
  obtain ⟨a2, l2, hnt2⟩ := r4
  refine (stOpen_load (Q := fun e w' => e = .returned (.tuple #[.pointer none, errV 6]) ∧ ∃ S', Turn S S' w w') (hop.mono ?_)).mono (fun e w' h => h.2)
  rintro e w1 ⟨v, rfl, S1, hl1, ht1, hyes, _⟩
  obtain ⟨q, rfl, hpg, hq, hout⟩ := hyes (by trivial)
  refine ⟨q, rfl, hide ((stLoad_state hl1.dev hpg (by rw [r3.len]; exact hm0) hm1 hm2 (by rw [r3.len]; exact hr.len) hnt2.down hK (fun i hi => by rw [rd_img r3.mem]; exact r3.pages i hi) hby hf).mono ?_)⟩
  rintro e w2 ⟨rfl, hb⟩
  exact ⟨_, _, rfl, hide ⟨rfl, S1, ht1.trans (Turn.of_below (S := S1) hb)⟩⟩
 ·exact absurd hl r2
theorem lv_openYes (h : Live w0 w p S D) (hm0 : cntI D.secs.length = m) (hm1 : 9 ≤ m) (hm2 : m ≤ 200) {a : Nat} {nl : List Int} (hnt : Nt D m s (prt K) a nl) (hl : D.left < 0) (hK : K.length = 32 * m) (hby : Byt K) (hf : Fine K) :
  Calls Tryz.prog 24 #[.pointer (some ⟨p, 0, none⟩)] w fun e w' => ∃ t x, e = .returned (.tuple #[.pointer (some ⟨t, 0, none⟩), .nilIface]) ∧ ∃ D' F', Tf w0 w' t p x m ⟨D', s, K, K⟩ F' ∧ ∃ S', Turn S S' w w' := by
 refine (Lf.open (F := S) ⟨S, h, fun k hk => hk⟩ hm0 (by omega) hm2 hnt.rdy hK hby hf).mono ?_
 rintro e w' (⟨t, x, rfl, D', F', h1, h2, h3, h4⟩ | ⟨_, hno, _⟩)
 ·exact ⟨t, x, rfl, D', F', h1, F', h4⟩
 ·exact absurd hl hno
end
theorem spl_parts {b body : List Int} {k : Nat} (hb : k + body.length ≤ b.length) : b.take k ++ body ++ b.drop (k + body.length) = splice b k body := by unfold splice; simp [List.append_assoc]
theorem pgW_succ (K : List Int) (l : List (Int × List Int)) (k : Nat) : pgW K l (k + 1) = splice (pgW K l k) (32 * (l.getD k (0, [])).1.toNat) (l.getD k (0, [])).2 := rfl
theorem bs_turned {w w' : World} {S S' : Nat → Prop} {B : Nat} {a : Option Addr} {n c : Nat} {L : List Int} (h : Bs w a c L) (ho : ∀ x, a = some x → B ≤ x.block) (hS : ∀ k, S k → k < B) (ht : Turn S S' w w') : Bs w' a c L :=
 h.turn ht (fun x hx hs => by have := ho x hx; have := hS _ hs; omega)
end Go.Proofs.YtknjdhnldfebjaaGreatDoor
