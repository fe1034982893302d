/-
  Joined by program: PoE; PoF. (Parts of the proofs over the packages of the program.)
-/
import Derived.Test.YtmmgadnicodakabGreatJPo
import Derived.Test.YtmmgadnicodakabGreatJIn
namespace Go.Proofs.YtmmgadnicodakabGreat
open Go.RowKit
set_option linter.unusedVariables false
def TellV (w w' : World) (K : List Int) (v1 v2 : Value) : Prop := Lst enC 4 93 w' w.heap.size v1 (entsK K 40) ∧ Lst roC 2 100 w' w.heap.size v2 (rootsK K 8)
theorem Lst.lowE {α : Type} {enc : α → List Value} {k T : Nat} {w : World} {B B' : Nat} {v : Value} {l : List α} (h : Lst enc k T w B' v l) (hB : B ≤ B') : Lst enc k T w B v l := by
 refine ⟨h.1, ?_⟩
 rcases h.2 with h0 | ⟨g, cap, cur, hv, hb, h3⟩
 ·exact .inl h0
 ·exact .inr ⟨g, cap, cur, hv, Nat.le_trans hB hb, h3⟩
set_option maxRecDepth 100000 in
theorem tell_yes (a : Option Addr) (cap : Nat) (K : List Int) (w : World) (hb : Bs w a cap K) (hl : lenB K.length = true) :
  Calls Tryz.prog 38 #[.slice a K.length cap] w fun e w' => ∃ v1 v2, e = .returned (.tuple #[v1, v2, .nilIface]) ∧ TellV w w' K v1 v2 ∧ Below w.heap.size w w' := by
 have h0 : errV (lenE K.length) = .nilIface := by unfold lenE; rw [hl]; rfl
 have e1 : ents K = entsK K 40 := by unfold ents; rw [hl]; rfl
 have e2 : roots K = rootsK K 8 := by unfold roots; rw [hl]; rfl
 have h1 := iEnts_any a cap K w hb
 rw [h0, e1] at h1
 have H1 := hide h1
 have H2 : Hid (∀ W, Below w.heap.size w W → Calls Tryz.prog 13 #[.slice a K.length cap] W fun e w' => ∃ v, e = .returned (.tuple #[v, .nilIface]) ∧ Lst roC 2 100 w' W.heap.size v (rootsK K 8) ∧ Below W.heap.size W w') := hide (fun W hB => by
  have h2 := iRoots_any a cap K W (hb.below hB)
  rw [h0, e2] at h2
  exact h2)
 clear hb hl h0 e1 e2 h1
 unfold TellV
 generalize entsK K 40 = E at *
 generalize rootsK K 8 = R at *
 generalize K.length = N at *
 go_enter Tryz.func38, Tryz.ntmps38
 go_wp2_with fail
 refine (unhide H1).mono ?_
 rintro e w1 ⟨v1, rfl, hl1, hb1⟩
 have H2' := hide (unhide H2 w1 hb1)
 have HL1 := hide hl1
 have HB1 := hide hb1
 clear hl1 hb1 H1 H2
 go_wp2_with fail
 refine (unhide H2').mono ?_
 rintro e w2 ⟨v2, rfl, hl2, hb2⟩
 have HQ := hide (And.intro ((unhide HL1).below hb2) (And.intro (hl2.lowE (unhide HB1).size) ((unhide HB1).trans (hb2.mono (unhide HB1).size))))
 clear hl2 hb2 HL1 HB1 H2'
 go_wp2
 go_ret3
 exact ⟨v1, v2, rfl, ⟨(unhide HQ).1, (unhide HQ).2.1⟩, (unhide HQ).2.2⟩
section
variable {m : Nat}
theorem bls_live {w0 w : World} {t p x m : Nat} {P : Ps} {F : Nat → Prop} (htf : Tf w0 w t p x m P F) {a : Option Addr} {cap : Nat} {keep : List Bool} (hb : Bls w0 a cap keep) : Bls w a cap keep ∧ (keep ≠ [] → ∀ x, a = some x → ¬ F x.block) := by
 obtain ⟨b1, b2, b3⟩ := hb
 refine ⟨⟨b1, b2, fun hne => ?_⟩, fun hne x hx hf => ?_⟩
 ·obtain ⟨bb, off, rfl, hc⟩ := b3 hne
  exact ⟨bb, off, rfl, fun i hi => (htf.base.cell (p := ⟨bb, off + i, none⟩) (block_lt_of_cell (hc i hi))).trans (hc i hi)⟩
 ·obtain ⟨bb, off, rfl, hc⟩ := b3 hne
  obtain rfl := Option.some.inj hx
  have h1 := block_lt_of_cell (hc 0 (by cases keep with | nil => exact absurd rfl hne | cons _ _ => simp))
  have h2 := htf.ge _ hf
  simp at h1 h2; omega
theorem psRun_secs : ∀ (l : List OpP) (p : Ps), (psRun m p l).D.secs.length = p.D.secs.length
 | [], p => rfl
 | o :: l, p => by
  show (psRun m (psDo m p o).1 l).D.secs.length = _
  rw [psRun_secs l]
  unfold psDo
  by_cases h6 : o.1 = 6
  ·rw [if_pos h6]
   exact commitOut_seclen p.D p.s m (dfP p.K p.L m)
  ·rw [if_neg h6]
   split <;> rfl
set_option maxRecDepth 100000 in
set_option maxHeartbeats 1000000 in
theorem play_yes (w : World) (n : Nat) {a : Option Addr} {cap : Nat} {l : List OpR} (ho : Ops w a cap l) (fail torn cut : Int) (hf : -9223372036854775808 ≤ fail ∧ fail ≤ 9223372036854775807) {ka : Option Addr} {kcap : Nat} {keep : List Bool} (hk : Bls w ka kcap keep)
  (h1 : 57 ≤ n) (h2 : n ≤ 300) (hm : cntI n = m) (hl : l.length ≤ 200) {s : Int} {K : List Int} (hr : Rdy ((psRun m (wlP (crP n m) fail) (l.map opP)).D.crash keep torn (cutN cut)) m s (prt K)) (hK : K.length = 32 * m) (hby : Byt K) (hfn : Fine K) :
  Calls Tryz.prog 11 #[.int .i64 n, .slice a l.length cap, .int .i64 fail, .slice ka keep.length kcap, .int .i64 torn, .int .i64 cut] w fun e w' => ∃ v1 v2, e = .returned (.tuple #[v1, v2, .nilIface]) ∧ TellV w w' K v1 v2 ∧ Below w.heap.size w w' := by
 have hm2 : 9 ≤ m ∧ m ≤ 200 ∧ 48 + m ≤ n := by
  unfold cntI at hm
  split at hm <;> omega
 have HBG := hide (begin_yes w n a l.length cap h1 h2 hm hl)
 have HFL := hide (fun (W : World) (t p x : Nat) (F : Nat → Prop) (h : Tf w W t p x m (crP n m) F) => h.fail fail hf)
 have HDA := hide (fun (W : World) (t p x : Nat) (F : Nat → Prop) (h : Tf w W t p x m (wlP (crP n m) fail) F) => h.doAll ho (pz_far (n := n) h1 h2 hm hf) (by show (0 : Int) ≤ 2; decide) (by show (2 : Int) + (l.length : Int) ≤ 1000; omega))
 have HCR := hide (fun (W : World) (t p x : Nat) (P : Ps) (F : Nat → Prop) (h : Tf w W t p x m P F) => h.dev.crash torn cut (bls_live h hk))
 have hsec : ((psRun m (wlP (crP n m) fail) (l.map opP)).D.crash keep torn (cutN cut)).secs.length = n := by
  show (crashK _ _ _ _ _ _).length = n
  rw [length_crashK, psRun_secs]
  exact (cr_up h1 h2 hm).1.sn
 have HOP := hide (fun (W : World) (p : Nat) (F : Nat → Prop) (h : Lf w W p ((psRun m (wlP (crP n m) fail) (l.map opP)).D.crash keep torn (cutN cut)) F) => h.open (by rw [hsec]; exact hm) (by omega) hm2.2.1 hr hK hby hfn)
 have HLF : Hid (((psRun m (wlP (crP n m) fail) (l.map opP)).D.crash keep torn (cutN cut)).left < 0) := hide (by show (-1 : Int) < 0; decide)
 have hkl := hk.2.1
 have hKl : lenB K.length = true := lenB_iff.2 ⟨by have := hfn.len; omega, by rw [hK]; omega⟩
 have HTE := hide (fun (W : World) (a : Option Addr) (c : Nat) (h : Bs W a c K) => tell_yes a c K W h hKl)
 have HBS := hide hby
 have hKn : K.length ≤ 6400 := by omega
 clear ho hk hr hK hby hfn hsec hKl
 generalize (psRun m (wlP (crP n m) fail) (l.map opP)) = P1 at *
 generalize hD2 : P1.D.crash keep torn (cutN cut) = D2 at *
 have HD2 := hide hD2
 clear hD2
 generalize hP : crP n m = P0 at *
 clear hP hm
 go_enter Tryz.func11, Tryz.ntmps11
 go_wp2_with fail
 refine (unhide HBG).mono ?_
 rintro e w1 ⟨p, t, x, rfl, F, hF⟩
 have HF1 := hide (unhide HFL w1 t p x F hF)
 clear hF HBG HFL
 go_wp2_with fail
 refine (unhide HF1).mono ?_
 rintro e w2 ⟨rfl, F2, hF2, _⟩
 have HD := hide (unhide HDA w2 t p x F2 hF2)
 clear hF2 HF1 HDA
 go_wp2_with fail
 refine (unhide HD).mono ?_
 rintro e w3 ⟨rfl, F3, hF3, _⟩
 have HC := hide (unhide HCR w3 t p x _ F3 hF3)
 clear hF3 HD HCR
 go_wp2_with fail
 refine (unhide HC).mono ?_
 rintro e w4 ⟨rfl, F4, hF4, _⟩
 rw [unhide HD2] at hF4
 have HO := hide (unhide HOP w4 p F4 hF4)
 clear hF4 HC HOP
 go_wp2_with fail
 refine (unhide HO).mono ?_
 rintro e w5 (⟨t5, x5, rfl, D5, F5, hF5, _, _, _⟩ | ⟨rfl, hno, _⟩)
 ·have HH := hide hF5.heap
  have HBY := hide hF5.bytes
  have HB5 := hide hF5.base
  clear hF5 HO HLF
  go_wp2_with fail
  refine (unhide HH).mono ?_
  rintro e w6 ⟨rfl, rfl⟩
  go_wp2_with fail
  refine (unhide HBY).mono ?_
  rintro e w6 ⟨⟨g6, c6, cur6, rfl, hr6⟩, hF6, hb6⟩
  have HT := hide (unhide HTE w6 (some ⟨g6, 0, none⟩) c6 (hr6.bs (unhide HBS) (by omega)))
  have HB6 := hide hF6.base
  clear hr6 hF6 hb6 HBY HH HTE HBS HB5
  go_wp2_with fail
  refine (unhide HT).mono ?_
  rintro e w7 ⟨v1, v2, rfl, htv, hb7⟩
  have HQ : Hid (TellV w w7 K v1 v2 ∧ Below w.heap.size w w7) := hide ⟨⟨htv.1.lowE (unhide HB6).size, htv.2.lowE (unhide HB6).size⟩, (unhide HB6).trans (hb7.mono (unhide HB6).size)⟩
  clear htv hb7 HT HB6
  go_wp2
  go_ret3
  exact ⟨v1, v2, rfl, (unhide HQ).1, (unhide HQ).2⟩
 ·have := unhide HLF
  exfalso
  omega
end
end Go.Proofs.YtmmgadnicodakabGreat
namespace Go.Proofs.YtmmgadnicodakabGreat
open Go.RowKit
set_option linter.unusedVariables false
section
variable {m n : Nat} {l : List OpP}
structure Opens (D : DS) (m : Nat) (K : List Int) : Prop where
 rdy : ∃ s, Rdy D m s (prt K)
 len : K.length = 32 * m
 byt : Byt K
 fine : Fine K
theorem Pu.opened {p : Ps} (h : Pu m n p) (keep : List Bool) (torn : Int) (c : Nat) : Opens (p.D.crash keep torn c) m p.K := ⟨⟨_, h.opens keep torn c⟩, h.lk, h.bk, h.fk⟩
theorem run_up (h1 : 57 ≤ n) (h2 : n ≤ 300) (hm : cntI n = m) (hl : l.length ≤ 200) (hb : ∀ o ∈ l, Byt o.2.2.2.2.2) : Pu m n (psRun m (crP n m) l) ∧ (psRun m (crP n m) l).D.left < 0 := by
 obtain ⟨u1, u2, u3⟩ := cr_up h1 h2 hm
 obtain ⟨a, b, _⟩ := pu_run l u1 u2 (by rw [u3]; omega) hb
 exact ⟨a, b⟩
theorem play_each (h1 : 57 ≤ n) (h2 : n ≤ 300) (hm : cntI n = m) (hl : l.length ≤ 200) (hb : ∀ o ∈ l, Byt o.2.2.2.2.2) (keep : List Bool) (torn : Int) {c : Nat} (hc : c ≤ 32) {q : Int} (h0 : 0 ≤ q) (hq : q ≤ stSum m (crP n m) l) :
  ∃ K, Opens ((psRun m (wlP (crP n m) q) l).D.crash keep torn c) m K ∧ (K = zerosB (32 * m) ∨ K ∈ stK m (crP n m) l) ∧ (q = stSum m (crP n m) l → K = (zerosB (32 * m) :: stK m (crP n m) l).getLast (by simp)) := by
 obtain ⟨u1, u2, u3⟩ := cr_up h1 h2 hm
 have hf := st_few (m := m) l (crP n m)
 have hin : ∀ a b, l = a ++ b → (psRun m (crP n m) a).K = zerosB (32 * m) ∨ (psRun m (crP n m) a).K ∈ stK m (crP n m) l := fun a b e => by
  have := kept_in (m := m) a (r := b) (p := crP n m)
  rw [← e] at this
  exact this
 rcases run_sim (n := n) l (q := q) u1 u2 (by rw [u3]; omega) hb h0 (by omega) with ⟨_, h⟩ | ⟨hlt, a, o, r, e, h6, d2, dK, hd, hk, hs, hle, hD⟩
 ·refine ⟨(psRun m (crP n m) l).K, ?_, hin l [] (by simp), fun _ => kept_last (m := m) l (p := crP n m)⟩
  rw [h]
  exact ((run_up h1 h2 hm hl hb).1.lefts (q := q - (stSum m (crP n m) l : Int)) (by omega)).opened keep torn c
 ·obtain ⟨K, s, hK, hr, f1, f2, f3, _⟩ := hd.opens keep torn hc
  refine ⟨K, ⟨⟨s, hr⟩, f3, f2, f1⟩, ?_, fun e => by omega⟩
  rcases hK with rfl | rfl
  ·rw [hk]; exact hin a (o :: r) e
  ·rw [← dK]
   have := hin (a ++ [o]) r (by rw [e]; simp)
   rw [psRun_snoc] at this
   exact this
end
end Go.Proofs.YtmmgadnicodakabGreat
