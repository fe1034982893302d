/-
  Contracts of package view: a View over pages of a device whose power never goes; Abort; Commit, as far as pages are handed on. (Part of the proofs over package view.)
-/
import Derived.Test.YtjipnjmnkfjmhaaGreatDoorJVwCmA
namespace Go.Proofs.YtjipnjmnkfjmhaaGreatDoor
open Go.RowKit Go.MapKept Go.ChangeMaps
open Go.Maps (Keyed)
set_option linter.unusedVariables false

/-- A View over its pages, these over a device. -/
structure Vb (w0 w : World) (p q v gk gm : Nat) (S : Nat → Prop) (D : DS) (s : Int) (n : Nat) (K : List (List Int)) (M : List (Nat × List Int)) : Prop where
  live : Live w0 w p S D
  pg : PgAt w q p s
  out : ¬ S q
  base : w0.heap.size ≤ q
  neat : ∃ P a nl, Neat D K.length s P a nl ∧ ∀ i, i < K.length → P i = K.getD i []
  left : D.left < 0
  len : D.secs.length = n
  cnt : cntI n = K.length
  view : Vw w v q gk gm K M
  nv : ¬ plus S q v
  nk : ¬ plus S q gk
  nm : ¬ plus S q gm
  bv : w0.heap.size ≤ v
  bk : w0.heap.size ≤ gk
  bm : w0.heap.size ≤ gm
/-- What a View and its pages write to. -/
def footV (S : Nat → Prop) (q gk gm : Nat) : Nat → Prop := fun k => plus S q k ∨ k = gk ∨ k = gm
section
variable {w0 w w' : World} {p q v gk gm : Nat} {S S' : Nat → Prop} {D D' : DS} {s s' : Int} {n : Nat} {K K' : List (List Int)} {M M' : List (Nat × List Int)}
theorem Vb.below (h : Vb w0 w p q v gk gm S D s n K M) (hb : Below w.heap.size w w') : Vb w0 w' p q v gk gm S D s n K M :=
  ⟨h.live.below hb, h.pg.below hb, h.out, h.base, h.neat, h.left, h.len, h.cnt, h.view.below hb, h.nv, h.nk, h.nm, h.bv, h.bk, h.bm⟩
theorem Vb.foot0 (h : Vb w0 w p q v gk gm S D s n K M) : ∀ k, footV S q gk gm k → w0.heap.size ≤ k := fun k hk => by
  rcases hk with (hk | rfl) | rfl | rfl
  · exact h.live.base k hk
  · exact h.base
  · exact h.bk
  · exact h.bm
/-- Only the View's own blocks turn. -/
theorem Vb.turnV (h : Vb w0 w p q v gk gm S D s n K M) {U : Nat → Prop} (hU : ∀ k, U k → k = gk ∨ k = gm) (ht : Turn U U w w') (hv : Vw w' v q gk gm K' M') (hK : K'.length = K.length) (hKe : ∀ i, i < K.length → K'.getD i [] = K.getD i []) : Vb w0 w' p q v gk gm S D s n K' M' := by
  have hnot : ∀ k, plus S q k → ¬ U k := fun k hk hu => by
    rcases hU k hu with rfl | rfl
    · exact h.nk hk
    · exact h.nm hk
  have hb : ∀ k, U k → w0.heap.size ≤ k := fun k hu => by
    rcases hU k hu with rfl | rfl
    · exact h.bk
    · exact h.bm
  obtain ⟨P, a, nl, hn, hP⟩ := h.neat
  exact ⟨⟨h.live.dev.turn ht (fun k hk => hnot k (.inl hk)), h.live.bel.trans (ht.below hb h.live.bel.size), h.live.base⟩, (h.pg.turn ht (hnot q (.inr rfl))).1, h.out, h.base, ⟨P, a, nl, by rw [hK]; exact hn, fun i hi => by rw [hK] at hi; rw [hP i hi, hKe i hi]⟩, h.left, h.len, by rw [hK]; exact h.cnt, hv, h.nv, h.nk, h.nm, h.bv, h.bk, h.bm⟩

theorem Vb.abort (h : Vb w0 w p q v gk gm S D s n K M) :
    Calls Tryz.prog 14 #[.pointer (some ⟨v, 0, none⟩)] w fun e w' => e = .returned (.tuple #[]) ∧ Vb w0 w' p q v gk gm S D s n K [] ∧ OnlyV gm w w' := by
  have c2 := h.view.c2
  obtain ⟨w1, hrun, hm, ht⟩ := h.view.mem.clear
  have HV := hide (h.view.put hm ht (fun x hx => by cases hx))
  have HT : Hid (OnlyV gm w w1) := hide (Turn.map ht rfl)
  have H := hide h
  clear h hm ht
  go_enter Tryz.func14, Tryz.ntmps14
  go_wp2
  go_end0
  exact ⟨rfl, (unhide H).turnV (fun k e => .inr e) (unhide HT) (unhide HV) rfl (fun _ _ => rfl), unhide HT⟩

/-- Behind pages.Commit of all that is dirty, the View not yet told. -/
theorem Vb.handOn (h : Vb w0 w p q v gk gm S D s n K M) (hM : M.length ≤ 23) (hs : s ≤ 900) (hs0 : 0 ≤ s) {a : Option Addr} {cap : Nat} (hx : PgsO w S a cap (handed K M M.length)) :
    Calls Tryz.prog 28 #[.pointer (some ⟨q, 0, none⟩), .slice a M.length cap] w fun e w' => e = .returned .nilIface ∧ ∃ S' D' s', Turn (plus S q) (plus S' q) w w' ∧ s ≤ s' ∧ s' ≤ s + 1 ∧
      Live w0 w' p S' D' ∧ PgAt w' q p s' ∧ ¬ S' q ∧ (∃ P a nl, Neat D' K.length s' P a nl ∧ ∀ i, i < K.length → P i = (nowK K M).getD i []) ∧ D'.left < 0 ∧ D'.secs.length = n := by
  obtain ⟨P, a0, nl, hn, hP⟩ := h.neat
  have hval := h.view.handedValid hM
  have hlenx := length_handed K M (Nat.le_refl M.length)
  have hc := commit_any h.live h.pg h.out h.base a cap (handed K M M.length) hx (by rw [h.len]; exact h.cnt) hs0 (by omega)
  rw [hlenx] at hc
  refine hc.mono ?_
  rintro e w' ⟨rfl, S', hlv, hpg, hout, ht⟩
  rcases commit_ever hn (by omega) h.left (handed K M M.length) h.view.handedByt with ⟨h1, _⟩ | ⟨h1, h2⟩ | ⟨h1, hv, h2, h3, h4⟩
  · exact absurd (commitE_valid hval) h1
  · rw [h2] at hlv hpg ⊢
    have hM0 : M = [] := by
      have : M.length = 0 := by rw [← hlenx, h1]; rfl
      exact List.eq_nil_of_length_eq_zero this
    refine ⟨rfl, S', D, s, ht, Int.le_refl _, by omega, hlv, hpg, hout, ⟨P, a0, nl, hn, fun i hi => ?_⟩, h.left, h.len⟩
    rw [nowK_getD hi, hP i hi, hM0]
    rfl
  · have e1 : (commitOut D s K.length (handed K M M.length)).2.1 = s + 1 := by rw [h2]
    have e2 : (commitOut D s K.length (handed K M M.length)).2.2 = 0 := by rw [h2]
    have hD : ∀ X : DS × Int × Int, X.2.1 = s + 1 → X.2.2 = 0 → True := fun _ _ _ => trivial
    rw [e1] at hpg
    rw [e2]
    have hrun := commitOut_run (D := D) (s := s) (L := K.length) (l := handed K M M.length) (commitE_valid hval) h1 (by have := hn.len; omega) (by omega)
    refine ⟨rfl, S', _, s + 1, ht, by omega, by omega, hlv, hpg, hout, ⟨_, _, _, h3, h.view.updNow hM hP⟩, h4, ?_⟩
    rw [← h.len, hrun]
    show (commitRun D s (handed K M M.length)).1.secs.length = _
    rcases commit_all hn (by omega) hv h.view.handedByt with ⟨_, _, r3⟩ | ⟨_, _, r3, _⟩
    · exact r3
    · exact r3
end
end Go.Proofs.YtjipnjmnkfjmhaaGreatDoor
