/-
  Joined by program: SfPlain; SfFact; SfTag; SfLaw. (Parts of the proofs over the packages of the program.)
-/
import Derived.Test.YtpeglgkhpgifnaaGreatDoorJMvp
import Derived.Test.YtpeglgkhpgifnaaGreatDoorJWy
import Derived.Test.YtpeglgkhpgifnaaGreatDoorJRtp
/-! How full an image is: sums, how much one more takes, what is left when all is swept; as plain lists. (Part of the proofs over package stat.) -/
namespace Go.Proofs.YtpeglgkhpgifnaaGreatDoor
open Go.RowKit
set_option linter.unusedVariables false

section
variable {L c : List Int}
/-- How many bytes the first k handles have. -/
def szK (L : List Int) : Nat → Int
  | 0 => 0
  | k + 1 => szK L k + if tagAt L ((k : Int) + 1) ≠ 0 then (entOf L ((k : Int) + 1)).2.2.1 else 0
theorem szK_take (L : List Int) : ∀ k, lenSum ((entsK L k).map shE) = szK L k
  | 0 => rfl
  | k + 1 => by
    have e : entsK L (k + 1) = entsK L k ++ if tagAt L ((k : Int) + 1) = 0 then [] else [entOf L ((k : Int) + 1)] := rfl
    rw [e, List.map_append, lenSum_append, szK_take L k]
    show szK L k + _ = szK L k + _
    by_cases h : tagAt L ((k : Int) + 1) = 0
    · rw [if_pos h, if_neg (fun hh => hh h)]; rfl
    · rw [if_neg h, if_pos h]
      simp [lenSum, shE]
theorem szK_used (L : List Int) : lenSum (takeL L) = szK L 40 := szK_take L 40
/-- One more object. -/
theorem szK_more {h : Int} {n : Int} : ∀ k : Nat, (∀ x : Int, 1 ≤ x → x ≤ k → x ≠ h → tagAt c x = tagAt L x ∧ entOf c x = entOf L x) → tagAt L h = 0 → tagAt c h ≠ 0 → (entOf c h).2.2.1 = n → 1 ≤ h → szK c k = szK L k + if h ≤ k then n else 0
  | 0, _, _, _, _, h1 => by rw [if_neg (by omega)]; rfl
  | k + 1, hs, h0, hc, hn, h1 => by
    have ih := szK_more k (fun x a b => hs x a (by omega)) h0 hc hn h1
    show szK c k + _ = szK L k + _ + _
    rw [ih]
    by_cases e : h = (k : Int) + 1
    · subst e
      rw [if_pos hc, if_neg (show ¬ (k : Int) + 1 ≤ (k : Int) by omega), if_neg (show ¬ tagAt L ((k : Int) + 1) ≠ 0 from fun hh => hh h0), if_pos (show (k : Int) + 1 ≤ ((k + 1 : Nat) : Int) by omega), hn]
    · obtain ⟨a1, a2⟩ := hs ((k : Int) + 1) (by omega) (by omega) (fun he => e he.symm)
      rw [a1, a2]
      by_cases hk : h ≤ k
      · rw [if_pos hk, if_pos (show h ≤ ((k + 1 : Nat) : Int) by omega)]; omega
      · rw [if_neg hk, if_neg (show ¬ h ≤ ((k + 1 : Nat) : Int) by omega)]; omega
/-- What is used and what is free are all there is. -/
theorem used_free (hf : Fine L) : lenSum (takeL L) + lenSum (freeL ((L.length : Int) - 288) (takeL L)) = (L.length : Int) - 288 := by
  rw [used_sum hf, all_free hf]
  omega
theorem al_used (hf : Fine L) {n t : Int} (h0 : alE L n t = 0) : lenSum (takeL (alB L n t)) = lenSum (takeL L) + n ∧ lenSum (freeL (((alB L n t).length : Int) - 288) (takeL (alB L n t))) = lenSum (freeL ((L.length : Int) - 288) (takeL L)) - n := by
  obtain ⟨x, N, ok⟩ := al_ok hf h0
  obtain ⟨k1, k2, k3, k4, k5, k6⟩ := ok.keep hf h0
  have hlow := ok.low
  have hs : lenSum (takeL (alB L n t)) = lenSum (takeL L) + n := by
    rw [szK_used, szK_used, szK_more (h := (lowH L : Int) + 1) (n := n) 40 (fun y a b hne => (k6 y a (by omega) hne).2) ok.free k5 (by rw [k4]; exact ok.eqn.symm) (by omega), if_pos (by omega)]
  refine ⟨hs, ?_⟩
  have u1 := used_free hf
  have u2 := used_free k1
  rw [k2] at u2 ⊢
  omega
theorem free_runs (hf : Fine L) : (freeL ((L.length : Int) - 288) (takeL L)).length ≤ (takeL L).length + 1 ∧ (∀ r ∈ freeL ((L.length : Int) - 288) (takeL L), 1 ≤ r.2) ∧ (lenSum (freeL ((L.length : Int) - 288) (takeL L)) = 0 ↔ freeL ((L.length : Int) - 288) (takeL L) = []) := by
  have hc := take_chk hf
  have hin := (freeL_small hc).1
  have hge := lenSum_ge (fun r hr => (hin r hr).2.1)
  refine ⟨?_, fun r hr => (hin r hr).2.1, ⟨fun h => ?_, fun h => by rw [h]; rfl⟩⟩
  · unfold freeL freeOf
    rw [if_pos hc]
    have h1 := runs_len 0 (srtL (takeL L) ++ [((L.length : Int) - 288, 0)])
    have h2 := (take_srt hf).1.length_eq
    rw [List.length_append, List.length_singleton] at h1
    omega
  · refine List.eq_nil_iff_forall_not_mem.2 (fun r hr => ?_)
    have := hge.2 r hr
    have := (hin r hr).2.1
    omega
/-- The longest run is no longer than all that is free, and there is one where anything is. -/
theorem most_free (hf : Fine L) : 0 ≤ mostOf 0 (freeL ((L.length : Int) - 288) (takeL L)) ∧ mostOf 0 (freeL ((L.length : Int) - 288) (takeL L)) ≤ lenSum (freeL ((L.length : Int) - 288) (takeL L)) ∧ (0 < lenSum (freeL ((L.length : Int) - 288) (takeL L)) → 1 ≤ mostOf 0 (freeL ((L.length : Int) - 288) (takeL L))) := by
  obtain ⟨r1, r2, r3⟩ := free_runs hf
  generalize freeL ((L.length : Int) - 288) (takeL L) = F at *
  have hge := lenSum_ge r2
  have hm := (most_le (h := F) (m := 0) (M := mostOf 0 F)).1 (Int.le_refl _)
  refine ⟨hm.1, most_le.2 ⟨hge.1, hge.2⟩, fun hpos => ?_⟩
  cases F with
  | nil => exact absurd hpos (by simp [lenSum])
  | cons r F =>
    have h1 := hm.2 r (by simp)
    have h2 := r2 r (by simp)
    omega
/-- How loose it is, in hundredths. -/
theorem loose_in {F M : Int} (hF : 0 < F) (hM : 1 ≤ M) (hMF : M ≤ F) : 0 ≤ 100 * (F - M) / F ∧ 100 * (F - M) / F ≤ 99 := by
  constructor
  · exact Int.ediv_nonneg (by omega) (by omega)
  · have : 100 * (F - M) / F < 100 := Int.ediv_lt_of_lt_mul hF (by omega)
    omega
/-- Moved together the longest run is all that is free. -/
theorem most_moved (hf : Fine L) : mostOf 0 (freeL (((mvA L).length : Int) - 288) (takeL (mvA L))) = lenSum (freeL ((L.length : Int) - 288) (takeL L)) ∧ lenSum (freeL (((mvA L).length : Int) - 288) (takeL (mvA L))) = lenSum (freeL ((L.length : Int) - 288) (takeL L)) := by
  obtain ⟨m, mn⟩ := mvA_as hf
  have f1 := free_one m.fine mn
  have a1 := all_free m.fine
  have a0 := all_free hf
  have hs := m.sum
  have hl := m.len
  refine ⟨?_, by rw [a1, a0, hs, hl]⟩
  rw [a0, f1]
  by_cases h : sumE (srtE (mvA L)) < ((mvA L).length : Int) - 288
  · rw [if_pos h]
    simp only [mostOf, List.foldl]
    rw [hs, hl] at h ⊢
    omega
  · rw [if_neg h]
    have hg := (lenSum_ge (free_runs hf).2.1).1
    rw [a0] at hg
    simp only [mostOf, List.foldl]
    rw [hs, hl] at h
    omega
/-- How many objects of sizes, one behind the other, could be had. -/
def cnN (L : List Int) : List Int → Nat
  | [] => 0
  | n :: ns => if alE L n 0 = 0 then cnN (alB L n 0) ns + 1 else 0
theorem cnN_le : ∀ (ns : List Int) (L : List Int), cnN L ns ≤ ns.length
  | [], _ => Nat.le_refl _
  | n :: ns, L => by
    unfold cnN
    split
    · have := cnN_le ns (alB L n 0); rw [List.length_cons]; omega
    · exact Nat.zero_le _
/-- Where nothing leads anywhere all is swept. -/
theorem swept_empty (hf : Fine L) (hr : rootsK L 8 = []) : (∀ h, 1 ≤ h → h ≤ 40 → tagAt (swL L (ddK L 40)) h = 0) ∧ takeL (swL L (ddK L 40)) = [] ∧ (ddK L 40).length = (takeL L).length := by
  have hrt : rtH L = [] := by unfold rtH; rw [hr]; rfl
  have hw : ∀ h, wyL L h = [] := fun h => by
    have s : Still (rtH L) (refsL L) (fun _ => []) := ⟨fun r hm => (by rw [hrt] at hm; cases hm), fun h hn => absurd rfl hn, fun h hn => absurd rfl hn⟩
    exact (s.eq (rtH_dg hf) (refsL_dg L) h).symm
  have s := sweep_swept hf
  have hd : ∀ h, 1 ≤ h → h ≤ 40 → (h ∈ ddK L 40 ↔ tagAt L h ≠ 0) := fun h h1 h2 => by
    rw [mem_ddK]
    exact ⟨fun hx => hx.2.1, fun hx => ⟨⟨h1, h2⟩, hx, hw h⟩⟩
  have ht : ∀ h, 1 ≤ h → h ≤ 40 → tagAt (swL L (ddK L 40)) h = 0 := fun h h1 h2 => by
    by_cases e : tagAt L h = 0
    · rw [(s.keep h h1 h2 (fun hx => (hd h h1 h2).1 hx e)).1]; exact e
    · exact s.gone h ((hd h h1 h2).2 e) h1 h2
  refine ⟨ht, List.eq_nil_iff_forall_not_mem.2 (fun x hx => ?_), ?_⟩
  · obtain ⟨h, h1, h2, h3, _⟩ := mem_takeL.1 hx
    exact h3 (ht h h1 h2)
  · have key : ∀ k : Nat, (((List.range k).map (fun j : Nat => (j : Int) + 1)).filter fun h => decide (tagAt L h ≠ 0) && !lvB L h).length = (entsK L k).length := by
      intro k
      induction k with
      | zero => rfl
      | succ k ih =>
        have e : entsK L (k + 1) = entsK L k ++ if tagAt L ((k : Int) + 1) = 0 then [] else [entOf L ((k : Int) + 1)] := rfl
        rw [e, List.length_append, List.range_succ, List.map_append, List.filter_append, List.length_append, ih]
        congr 1
        have hl : lvB L ((k : Int) + 1) = false := by unfold lvB; rw [hw]; simp
        by_cases ht : tagAt L ((k : Int) + 1) = 0
        · rw [if_pos ht]; simp [ht]
        · rw [if_neg ht]; simp [ht, hl]
    unfold takeL
    rw [List.length_map]
    exact key 40
end
end Go.Proofs.YtpeglgkhpgifnaaGreatDoor
/-! Two objects, the first of which is freed, moved together: one step, and all that is free is one run; as plain lists. (Part of the proof of MoveKeeps.) -/
namespace Go.Proofs.YtpeglgkhpgifnaaGreatDoor
open Go.RowKit
set_option linter.unusedVariables false

theorem ents_only {L : List Int} {h : Int} (ht : tagAt L h ≠ 0) (hno : ∀ k, 1 ≤ k → k ≤ 40 → k ≠ h → tagAt L k = 0) (h1 : 1 ≤ h) : ∀ k : Nat, k ≤ 40 → entsK L k = if h ≤ (k : Int) then [entOf L h] else []
  | 0, _ => by rw [if_neg (by omega)]; rfl
  | k + 1, hk => by
    have e : entsK L (k + 1) = entsK L k ++ if tagAt L ((k : Int) + 1) = 0 then [] else [entOf L ((k : Int) + 1)] := rfl
    rw [e, ents_only ht hno h1 k (by omega)]
    by_cases c : (k : Int) + 1 = h
    · rw [c, if_neg ht, if_neg (by omega), if_pos (by omega)]; rfl
    · rw [if_pos (hno _ (by omega) (by omega) c)]
      by_cases d : h ≤ (k : Int)
      · rw [if_pos d, if_pos (by omega)]; rfl
      · rw [if_neg d, if_neg (by omega)]; rfl
theorem ents_nil {L : List Int} (hno : ∀ k, 1 ≤ k → k ≤ 40 → tagAt L k = 0) : ∀ k : Nat, k ≤ 40 → entsK L k = []
  | 0, _ => rfl
  | k + 1, hk => by
    have e : entsK L (k + 1) = entsK L k ++ if tagAt L ((k : Int) + 1) = 0 then [] else [entOf L ((k : Int) + 1)] := rfl
    rw [e, ents_nil hno k (by omega), if_pos (hno _ (by omega) (by omega))]; rfl
/-- Where the runs are known, so is where the next object stands. -/
theorem al_at {L : List Int} (hf : Fine L) {n t f m : Int} {i : Nat} (hlow : lowH L = i) (hi : i < 40) (n1 : 1 ≤ n) (n2 : n ≤ 1000) (t1 : 0 ≤ t) (t2 : t ≤ 15) (hfr : freeOf ((L.length : Int) - 288) (srtL (takeL L)) = [(f, m)]) (hnm : n ≤ m) :
    alE L n t = 0 ∧ alH L n t = (i : Int) + 1 ∧ Fine (alB L n t) ∧ (alB L n t).length = L.length ∧ entOf (alB L n t) ((i : Int) + 1) = ((i : Int) + 1, 288 + f, n, t) ∧ tagAt (alB L n t) ((i : Int) + 1) ≠ 0 ∧ (∀ k, 1 ≤ k → k ≤ 40 → k ≠ (i : Int) + 1 → tagAt (alB L n t) k = tagAt L k ∧ entOf (alB L n t) k = entOf L k) ∧ ∀ j, j < 8 → rowAt (alB L n t) j = rowAt L j := by
  have hfit : fitB n [(f, m)] = (f, m) := by
    unfold fitB
    simp only [List.foldl, fitStep]
    rw [if_pos ⟨hnm, .inl trivial⟩]
  have hE : fitE ((L.length : Int) - 288) (takeL L) n = 0 := by
    rw [fitE_fine hf n1 (by omega), hfr, hfit, if_neg (by dsimp only; omega)]
  have h0 : alE L n t = 0 := by
    unfold alE
    rw [if_neg (by omega), if_neg (by omega), hE]
  have hA : fitAt ((L.length : Int) - 288) (takeL L) n = f := by
    rw [fitAt_fine hf n1 (by omega) hE, hfr, hfit]
  obtain ⟨x, M, hk⟩ := al_ok hf h0
  have hx : (x : Int) = 288 + f := by rw [← hk.eqx, hA]
  have hM : (M : Int) = n := hk.eqn.symm
  obtain ⟨k1, k2, k3, k4, k5, k6⟩ := hk.keep hf h0
  rw [hlow, hx, hM] at k4
  rw [hlow] at k5 k6
  exact ⟨h0, by unfold alH; rw [if_pos h0, hlow], k1, k2, k4, k5, fun k a b c => (k6 k a b c).2, fun j hj => al_rows hf h0 hj⟩
theorem srtL_nil : srtL [] = [] := by unfold srtL; simp
theorem srtL_one (x : Int × Int) : srtL [x] = [x] := by unfold srtL; simp
/-- What the law's own heap comes to. -/
structure MvFact (A B C : List Int) : Prop where
  e1 : alE (zerosB 320) 5 0 = 0
  h1 : alH (zerosB 320) 5 0 = 1
  a : alB (zerosB 320) 5 0 = A
  e2 : alE A 5 1 = 0
  b : alB A 5 1 = B
  e3 : frE B 1 = 0
  c : frB B 1 = C
  n : mvN 288 (srtE C) = 1
  fine : Fine (mvA C)
  len : (mvA C).length = 320
  free : lenSum (freeL ((320 : Int) - 288) (takeL (mvA C))) = 27
  runs : (freeL ((320 : Int) - 288) (takeL (mvA C))).length = 1
theorem mv_fact : ∃ A B C, MvFact A B C := by
  obtain ⟨z1, z2, z3⟩ := zeros_fine (n := 320) (by decide) (by decide)
  have hzl := length_zerosB 320
  have l0 : lowH (zerosB 320) = 0 := (lowH_first _).unique ⟨Nat.zero_le _, fun j hj => absurd hj (Nat.not_lt_zero j), fun _ => decide_eq_true (z2 _)⟩
  have t0 : takeL (zerosB 320) = [] := by unfold takeL; rw [ents_nil (fun k _ _ => z2 k) 40 (Nat.le_refl _)]; rfl
  have f0 : freeOf (((zerosB 320).length : Int) - 288) (srtL (takeL (zerosB 320))) = [(0, 32)] := by rw [t0, hzl, srtL_nil]; rfl
  obtain ⟨a1, a2, a3, a4, a5, a6, a7, a8⟩ := al_at z1 (t := 0) (n := 5) l0 (by decide) (by decide) (by decide) (by decide) (by decide) f0 (by decide)
  generalize hA0 : alB (zerosB 320) 5 0 = A at *
  have hA : A.length = 320 := a4.trans hzl
  have a5' : entOf A 1 = (1, 288, 5, 0) := a5
  have a6' : tagAt A 1 ≠ 0 := a6
  have a7' : ∀ k, 1 ≤ k → k ≤ 40 → k ≠ 1 → tagAt A k = 0 := fun k p q r => by rw [(a7 k p q (by simpa using r)).1]; exact z2 k
  have l1 : lowH A = 1 := (lowH_first _).unique ⟨by decide, fun j hj => by
    obtain rfl : j = 0 := by omega
    exact decide_eq_false a6', fun _ => decide_eq_true (a7' _ (by decide) (by decide) (by decide))⟩
  have t1 : takeL A = [(0, 5)] := by
    unfold takeL
    rw [ents_only a6' a7' (by decide) 40 (Nat.le_refl _), if_pos (by decide), a5']
    rfl
  have f1 : freeOf ((A.length : Int) - 288) (srtL (takeL A)) = [(5, 27)] := by rw [t1, srtL_one, hA]; rfl
  obtain ⟨b1, b2, b3, b4, b5, b6, b7, b8⟩ := al_at a3 (t := 1) (n := 5) l1 (by decide) (by decide) (by decide) (by decide) (by decide) f1 (by decide)
  generalize hB : alB A 5 1 = B at *
  have b5' : entOf B 2 = (2, 293, 5, 1) := b5
  have b6' : tagAt B 2 ≠ 0 := b6
  have c1 : chkE B 1 = 0 := chkE_zero.2 ⟨b3.len0, by decide, by rw [(b7 1 (by decide) (by decide) (by decide)).1]; exact a6'⟩
  have hr : ∀ j, j < 8 → isRoot (rowAt B j) = false := fun j hj => by rw [b8 j hj, a8 j hj]; exact z3 j hj
  have hrk : rootsK B 8 = [] := by rw [rootsK_none (b := B) (k := 0) 8 (Nat.zero_le _) (fun j _ hj => hr j hj)]; rfl
  have fe : frE B 1 = 0 := frE_zero.2 ⟨c1, by rw [hrk]; rfl⟩
  have fb : frB B 1 = dropL B 1 := by unfold frB; rw [if_pos fe]
  obtain ⟨d1, d2, d3, d4, d5⟩ := drop_fine b3 c1 (fun i hi hq => by rw [hr i hi] at hq; cases hq)
  have g5 : entOf (dropL B 1) 2 = (2, 293, 5, 1) := by rw [(d2 2 (by decide) (by decide) (by decide)).2]; exact b5'
  have g6 : tagAt (dropL B 1) 2 ≠ 0 := by rw [(d2 2 (by decide) (by decide) (by decide)).1]; exact b6'
  have g7 : ∀ k, 1 ≤ k → k ≤ 40 → k ≠ 2 → tagAt (dropL B 1) k = 0 := fun k p q r => by
    by_cases e : k = 1
    · subst e; exact d3
    · rw [(d2 k p q e).1, (b7 k p q (by simpa using r)).1]; exact a7' k p q e
  have en : entsK (dropL B 1) 40 = [(2, 293, 5, 1)] := by
    rw [ents_only g6 g7 (by decide) 40 (Nat.le_refl _), if_pos (by decide), g5]
  have se : srtE (dropL B 1) = [(2, 293, 5, 1)] := by unfold srtE; rw [en]; simp
  have hn : mvN 288 (srtE (dropL B 1)) = 1 := by rw [se]; rfl
  have hs : sumE (srtE (dropL B 1)) = 5 := by rw [se]; rfl
  obtain ⟨m, mn⟩ := mvA_as d1
  have ml : (mvA (dropL B 1)).length = 320 := by rw [m.len, d4, b4, hA]
  have fo := free_one m.fine mn
  rw [m.sum, hs, ml, if_pos (by omega)] at fo
  refine ⟨A, B, dropL B 1, a1, a2, hA0, b1, hB, fe, fb, hn, m.fine, ml, ?_, ?_⟩
  · have : ((320 : Nat) : Int) - 288 = 320 - 288 := rfl
    rw [this] at fo
    rw [fo]; rfl
  · have : ((320 : Nat) : Int) - 288 = 320 - 288 := rfl
    rw [this] at fo
    rw [fo]; rfl
end Go.Proofs.YtpeglgkhpgifnaaGreatDoor
/-! How many bytes objects have, by their tags; as plain lists. (Part of the proofs over package stat.) -/
namespace Go.Proofs.YtpeglgkhpgifnaaGreatDoor
open Go.RowKit
set_option linter.unusedVariables false

/-- One more object. -/
def tgS (t : List Int) (e : (Int × Int × Int × Int)) : List Int := t.set e.2.2.2.toNat (t.getD e.2.2.2.toNat 0 + e.2.2.1)
def tgK (E : List (Int × Int × Int × Int)) : List Int := E.foldl tgS (zerosB 16)
/-- What objects have, by tags. -/
def tgL (L : List Int) : List Int := tgK (entsK L 40)
theorem tgS_len (t : List Int) (e : (Int × Int × Int × Int)) : (tgS t e).length = t.length := by unfold tgS; simp
theorem tg_len : ∀ (E : List (Int × Int × Int × Int)) (t : List Int), (E.foldl tgS t).length = t.length
  | [], t => rfl
  | e :: E, t => by rw [List.foldl_cons, tg_len E, tgS_len]
theorem tgK_len (E : List (Int × Int × Int × Int)) : (tgK E).length = 16 := by unfold tgK; rw [tg_len]; exact length_zerosB 16
theorem tgL_len (L : List Int) : (tgL L).length = 16 := tgK_len _
theorem tgK_take {E : List (Int × Int × Int × Int)} {k : Nat} {e : (Int × Int × Int × Int)} (h : E[k]? = some e) : tgK (E.take (k + 1)) = tgS (tgK (E.take k)) e := by
  unfold tgK
  rw [List.take_add_one, h, List.foldl_append]
  rfl
theorem sum_put : ∀ (t : List Int) (i : Nat) (z : Int), i < t.length → (t.set i (t.getD i 0 + z)).sum = t.sum + z
  | [], i, z, h => absurd h (Nat.not_lt_zero i)
  | x :: t, 0, z, _ => by simp; omega
  | x :: t, i + 1, z, h => by
    have := sum_put t i z (by simpa using h)
    simp only [List.set_cons_succ, List.sum_cons, List.getD_cons_succ]
    omega
theorem tg_sum : ∀ (E : List (Int × Int × Int × Int)) (t : List Int), t.length = 16 → (∀ e ∈ E, 0 ≤ e.2.2.2 ∧ e.2.2.2 ≤ 15) → (E.foldl tgS t).sum = t.sum + sumE E
  | [], t, _, _ => by simp [sumE]
  | e :: E, t, ht, h => by
    have h1 := h e (by simp)
    rw [List.foldl_cons, tg_sum E _ (by rw [tgS_len]; exact ht) (fun x hx => h x (by simp [hx]))]
    unfold tgS
    rw [sum_put t _ _ (by omega)]
    show _ = _ + (e.2.2.1 + sumE E)
    omega
theorem sumE_bd : ∀ (E : List (Int × Int × Int × Int)), (∀ e ∈ E, 0 ≤ e.2.2.1 ∧ e.2.2.1 ≤ 65535) → 0 ≤ sumE E ∧ sumE E ≤ 65535 * E.length
  | [], _ => by simp [sumE]
  | e :: E, h => by
    have h1 := h e (by simp)
    have h2 := sumE_bd E (fun x hx => h x (by simp [hx]))
    show 0 ≤ e.2.2.1 + sumE E ∧ e.2.2.1 + sumE E ≤ _
    rw [List.length_cons]
    omega
/-- No number is below 0, and none is more than all. -/
theorem tg_bd : ∀ (E : List (Int × Int × Int × Int)) (t : List Int) (M : Int), (∀ z ∈ t, 0 ≤ z ∧ z ≤ M) → (∀ e ∈ E, 0 ≤ e.2.2.1) → 0 ≤ M → ∀ z ∈ E.foldl tgS t, 0 ≤ z ∧ z ≤ M + sumE E
  | [], t, M, h, _, _ => fun z hz => by have := h z hz; simp only [sumE]; omega
  | e :: E, t, M, h, he, hM => fun z hz => by
    have e0 := he e (by simp)
    have := tg_bd E (tgS t e) (M + e.2.2.1) (fun y hy => ?_) (fun x hx => he x (by simp [hx])) (by omega) z hz
    · show 0 ≤ z ∧ z ≤ M + (e.2.2.1 + sumE E)
      omega
    · unfold tgS at hy
      rcases List.mem_or_eq_of_mem_set hy with hy | rfl
      · have := h y hy; omega
      · have : 0 ≤ t.getD e.2.2.2.toNat 0 ∧ t.getD e.2.2.2.toNat 0 ≤ M := by
          by_cases hi : e.2.2.2.toNat < t.length
          · rw [show t.getD e.2.2.2.toNat 0 = t[e.2.2.2.toNat] by simp [List.getD, hi]]
            exact h _ (List.getElem_mem hi)
          · rw [show t.getD e.2.2.2.toNat 0 = 0 by simp [List.getD, Nat.le_of_not_lt hi]]
            omega
        omega
theorem tgK_bd {E : List (Int × Int × Int × Int)} (hl : E.length ≤ 40) (h : ∀ e ∈ E, 0 ≤ e.2.2.1 ∧ e.2.2.1 ≤ 65535) : ∀ z ∈ tgK E, 0 ≤ z ∧ z ≤ 2621400 := fun z hz => by
  have h1 := tg_bd E (zerosB 16) 0 (fun y hy => by have := List.eq_of_mem_replicate hy; omega) (fun e he => (h e he).1) (Int.le_refl _) z hz
  have h2 := sumE_bd E h
  omega
theorem sumE_perm {E F : List (Int × Int × Int × Int)} (h : E.Perm F) : sumE E = sumE F := by
  induction h with
  | nil => rfl
  | cons x _ ih => simp only [sumE]; omega
  | swap x y l => simp only [sumE]; omega
  | trans _ _ ih1 ih2 => omega
theorem tags_in {L : List Int} (hf : Fine L) : ∀ e ∈ entsK L 40, 0 ≤ e.2.2.2 ∧ e.2.2.2 ≤ 15 := fun e he => by
  obtain ⟨h0, h1, h2, h3, _⟩ := ent_in hf he
  rw [h0]
  have := hf.ent h1 h2 h3
  omega
theorem tgL_sum {L : List Int} (hf : Fine L) : (tgL L).sum = lenSum (takeL L) := by
  rw [used_sum hf, sumE_perm srtE_perm]
  unfold tgL tgK
  rw [tg_sum _ _ (length_zerosB 16) (tags_in hf)]
  have : (zerosB 16).sum = 0 := by decide
  omega
theorem sum_takes {t : List Int} {k : Nat} (hk : k < t.length) : (t.take (k + 1)).sum = (t.take k).sum + t.getD k 0 := by
  rw [List.take_succ_eq_append_getElem hk, List.sum_append, show t.getD k 0 = t[k] by simp [List.getD, hk]]
  simp
theorem sum_bd {M : Int} (hM : 0 ≤ M) {t : List Int} (h : ∀ z ∈ t, 0 ≤ z ∧ z ≤ M) : ∀ k : Nat, k ≤ t.length → 0 ≤ (t.take k).sum ∧ (t.take k).sum ≤ M * k
  | 0, _ => by simp
  | k + 1, hk => by
    have h1 := sum_bd hM h k (by omega)
    have h2 := h t[k] (List.getElem_mem (by omega))
    rw [sum_takes (by omega), show t.getD k 0 = t[k] by simp [List.getD, show k < t.length by omega]]
    have e : M * ((k + 1 : Nat) : Int) = M * (k : Int) + M := by rw [Int.natCast_add, Int.mul_add]; simp
    rw [e]
    omega
theorem tgL_bd {L : List Int} (hf : Fine L) : ∀ z ∈ tgL L, 0 ≤ z ∧ z ≤ 2621400 := tgK_bd (entsK_len L 40) (fun e he => by have := ents_in hf e he; omega)
end Go.Proofs.YtpeglgkhpgifnaaGreatDoor
/-! Images in which no root is: what is allocated, freed, moved together and swept there; as plain lists. (Part of the proofs over package stat.) -/
namespace Go.Proofs.YtpeglgkhpgifnaaGreatDoor
open Go.RowKit
set_option linter.unusedVariables false

/-- An image of so many bytes with no root. -/
structure Rm (N : Nat) (X : List Int) : Prop where
  fine : Fine X
  len : X.length = N
  rows : ∀ j, j < 8 → isRoot (rowAt X j) = false
section
variable {N : Nat} {X : List Int}
theorem Rm.zero (h1 : 288 ≤ N) (h2 : N ≤ 6400) : Rm N (zerosB N) := by
  obtain ⟨z1, z2, z3⟩ := zeros_fine h1 h2
  exact ⟨z1, length_zerosB N, z3⟩
theorem Rm.roots (r : Rm N X) : rootsK X 8 = [] := by rw [rootsK_none (b := X) (k := 0) 8 (Nat.zero_le _) (fun j _ hj => r.rows j hj)]; rfl
theorem Rm.al (r : Rm N X) (n t : Int) : Rm N (alB X n t) := by
  by_cases h0 : alE X n t = 0
  · obtain ⟨x, M, hk⟩ := al_ok r.fine h0
    obtain ⟨k1, k2, _⟩ := hk.keep r.fine h0
    exact ⟨k1, k2.trans r.len, fun j hj => by rw [al_rows r.fine h0 hj]; exact r.rows j hj⟩
  · have e : alB X n t = X := by unfold alB; rw [if_neg h0]
    rw [e]; exact r
theorem Rm.fr (r : Rm N X) (h : Int) : Rm N (frB X h) := by
  by_cases h0 : frE X h = 0
  · have e : frB X h = dropL X h := by unfold frB; rw [if_pos h0]
    obtain ⟨d1, d2, d3, d4, d5⟩ := drop_fine r.fine (frE_zero.1 h0).1 (fun i hi hq => by rw [r.rows i hi] at hq; cases hq)
    have hl := r.fine.len
    rw [e]
    refine ⟨d1, d4.trans r.len, fun j hj => ?_⟩
    have : rowAt (dropL X h) j = rowAt X j := by
      apply ext_getD
      · rw [rowAt_len (by omega), rowAt_len (by omega)]
      · intro q hq
        rw [rowAt_len (by omega)] at hq
        rw [rowAt_getD hq, rowAt_getD hq]
        exact d5 _ (by omega)
    rw [this]; exact r.rows j hj
  · have e : frB X h = X := by unfold frB; rw [if_neg h0]
    rw [e]; exact r
/-- What Stat tells of an image that is right. -/
structure Sta (X : List Int) (O U F M R : Int) : Prop where
  o : ((takeL X).length : Int) = O
  u : lenSum (takeL X) = U
  f : lenSum (freeL ((X.length : Int) - 288) (takeL X)) = F
  m : mostOf 0 (freeL ((X.length : Int) - 288) (takeL X)) = M
  r : ((freeL ((X.length : Int) - 288) (takeL X)).length : Int) = R
theorem Sta.of (X : List Int) : Sta X ((takeL X).length : Int) (lenSum (takeL X)) (lenSum (freeL ((X.length : Int) - 288) (takeL X))) (mostOf 0 (freeL ((X.length : Int) - 288) (takeL X))) ((freeL ((X.length : Int) - 288) (takeL X)).length : Int) := ⟨rfl, rfl, rfl, rfl, rfl⟩
theorem Sta.sums {O U F M R : Int} (s : Sta X O U F M R) (hf : Fine X) : U + F = (X.length : Int) - 288 ∧ 0 ≤ U ∧ 0 ≤ M ∧ M ≤ F ∧ R ≤ O + 1 ∧ 0 ≤ O ∧ O ≤ 40 ∧ 0 ≤ R ∧ (F = 0 ↔ R = 0) ∧ (0 < F → 1 ≤ M) := by
  obtain ⟨r1, r2, r3⟩ := free_runs hf
  obtain ⟨m1, m2, m3⟩ := most_free hf
  have u0 := used_free hf
  have htl := takeL_len X
  have hu := (lenSum_ge (h := takeL X) (fun e he => by
    obtain ⟨h, h1, h2, h3, rfl⟩ := mem_takeL.1 he
    have := hf.ent h1 h2 h3
    unfold shE
    dsimp only
    omega)).1
  obtain ⟨rfl, rfl, rfl, rfl, rfl⟩ := s
  generalize freeL ((X.length : Int) - 288) (takeL X) = FL at *
  refine ⟨u0, hu, m1, m2, by omega, by omega, by omega, by omega, ⟨fun h => ?_, fun h => ?_⟩, m3⟩
  · rw [r3.1 h]; rfl
  · exact r3.2 (List.eq_nil_of_length_eq_zero (by omega))
/-- Moved together. -/
theorem Sta.moved {O U F M R : Int} (s : Sta X O U F M R) (hf : Fine X) : ∃ R', Sta (mvA X) O U F F R' ∧ R' ≤ 1 ∧ gnL X = F - M := by
  obtain ⟨m, mn⟩ := mvA_as hf
  obtain ⟨q1, q2⟩ := most_moved hf
  have f1 := free_one m.fine mn
  refine ⟨_, ⟨?_, ?_, q2.trans s.f, q1.trans s.f, rfl⟩, ?_, ?_⟩
  · rw [← s.o]
    unfold takeL
    rw [List.length_map, List.length_map, m.many]
  · rw [← s.u, used_sum m.fine, used_sum hf, m.sum]
  · rw [f1]
    split
    · exact Int.le_refl _
    · exact Int.zero_le_ofNat 1
  · unfold gnL; rw [s.f, s.m]
/-- As many handles are left as objects lack. -/
theorem low_few (h : ((takeL X).length : Int) < 40) : lowH X < 40 := by
  have h1 := lowH_le X
  have h2 := lowH_first X
  rcases Nat.lt_or_ge (lowH X) 40 with hlt | hge
  · exact hlt
  · have h40 : lowH X = 40 := by omega
    rw [h40] at h2
    have key : ∀ k : Nat, k ≤ 40 → (entsK X k).length = k := by
      intro k
      induction k with
      | zero => intro _; rfl
      | succ k ih =>
        intro hk
        have e : entsK X (k + 1) = entsK X k ++ if tagAt X ((k : Int) + 1) = 0 then [] else [entOf X ((k : Int) + 1)] := rfl
        rw [e, if_neg (of_decide_eq_false (h2.2.1 k (by omega))), List.length_append, ih (by omega)]
        rfl
    unfold takeL at h
    rw [List.length_map, key 40 (Nat.le_refl _)] at h
    omega
/-- All that is free, at one place, can be had. -/
theorem Sta.all {O U F R : Int} (s : Sta X O U F F R) (hf : Fine X) (hmv : mvS X = none) (hF : F ≠ 0) (hF2 : F ≤ 1000) (hO : O ≠ 40) : alE X F 0 = 0 ∧ 1 ≤ alH X F 0 ∧ ∃ O' U' M', Sta (alB X F 0) O' U' 0 M' 0 := by
  have hs := s.sums hf
  have f1 := free_one hf hmv
  have hfr : freeOf ((X.length : Int) - 288) (srtL (takeL X)) = freeL ((X.length : Int) - 288) (takeL X) := by unfold freeL; rw [if_pos (take_chk hf)]
  have ha := all_free hf
  rw [s.f] at ha
  rw [if_pos (by omega)] at f1
  have hlow := low_few (X := X) (by rw [s.o]; omega)
  obtain ⟨a1, a2, a3, a4, _⟩ := al_at hf (t := 0) (n := F) rfl hlow (by omega) hF2 (by decide) (by decide) (hfr.trans f1) (by omega)
  refine ⟨a1, by omega, _, _, _, ⟨rfl, rfl, ?_, rfl, ?_⟩⟩
  · rw [(al_used hf a1).2, s.f]; omega
  · have h0 : lenSum (freeL (((alB X F 0).length : Int) - 288) (takeL (alB X F 0))) = 0 := by rw [(al_used hf a1).2, s.f]; omega
    rw [(free_runs a3).2.2.1 h0]; rfl
theorem mvA_still (hf : Fine X) : mvS (mvA X) = none := (mvA_as hf).2
/-- Nothing moves any more: all that is free is one run. -/
theorem Sta.still {O U F M R : Int} (s : Sta X O U F M R) (hf : Fine X) (h : mvS X = none) : M = F ∧ R ≤ 1 ∧ gnL X = 0 := by
  have f1 := free_one hf h
  have hm : mostOf 0 (freeL ((X.length : Int) - 288) (takeL X)) = lenSum (freeL ((X.length : Int) - 288) (takeL X)) := by
    rw [f1]
    split
    · rename_i hlt
      simp only [mostOf, List.foldl, lenSum, List.map, List.sum_cons, List.sum_nil]
      omega
    · rfl
  refine ⟨by rw [← s.m, ← s.f, hm], ?_, by unfold gnL; rw [hm]; omega⟩
  rw [← s.r, f1]
  split
  · exact Int.le_refl _
  · exact Int.zero_le_ofNat 1
theorem Sta.as {c : List Int} {O U F M R O' U' F' M' R' : Int} (s : Sta X O U F M R) (t : Sta c O' U' F' M' R') (hf : Fine X) (m : AsWas X c) : O' = O ∧ U' = U ∧ F' = F := by
  refine ⟨?_, ?_, ?_⟩
  · rw [← s.o, ← t.o]
    unfold takeL
    rw [List.length_map, List.length_map, m.many]
  · rw [← s.u, ← t.u, used_sum m.fine, used_sum hf, m.sum]
  · rw [← s.f, ← t.f, all_free m.fine, all_free hf, m.sum, m.len]
/-- Objects of sizes, one behind the other. -/
def alsL (X : List Int) (ns : List Int) : List Int := ns.foldl (fun x n => alB x n 0) X
theorem Rm.als (r : Rm N X) : ∀ ns : List Int, Rm N (alsL X ns) := fun ns => by
  induction ns generalizing X with
  | nil => exact r
  | cons n ns ih => exact ih (r.al n 0)
theorem als_fine (hf : Fine X) : ∀ ns : List Int, Fine (alsL X ns) ∧ (alsL X ns).length = X.length := fun ns => by
  induction ns generalizing X with
  | nil => exact ⟨hf, rfl⟩
  | cons n ns ih =>
    obtain ⟨h1, h2⟩ := ih (X := alB X n 0) (alB_fine hf n 0)
    refine ⟨h1, h2.trans ?_⟩
    by_cases h0 : alE X n 0 = 0
    · obtain ⟨x, M, hk⟩ := al_ok hf h0
      exact (hk.keep hf h0).2.1
    · unfold alB; rw [if_neg h0]
theorem als_byt (hb : Byt X) : ∀ ns : List Int, Byt (alsL X ns) := fun ns => by
  induction ns generalizing X with
  | nil => exact hb
  | cons n ns ih => exact ih (alB_byt hb n 0)
theorem als_take {ns : List Int} {i : Nat} {n : Int} (h : ns[i]? = some n) : alsL X (ns.take (i + 1)) = alB (alsL X (ns.take i)) n 0 := by
  unfold alsL
  rw [List.take_add_one, h, List.foldl_append]
  rfl
/-- As many as Can tells can be had, and no more. -/
theorem cn_spec : ∀ (ns : List Int) (X : List Int) (i : Nat) (n : Int), ns[i]? = some n → i ≤ cnN X ns → (alE (alsL X (ns.take i)) n 0 = 0 ↔ i < cnN X ns)
  | [], X, i, n, h, _ => by cases h
  | m :: ns, X, i, n, h, hi => by
    unfold cnN at hi ⊢
    by_cases h0 : alE X m 0 = 0
    · rw [if_pos h0] at hi ⊢
      cases i with
      | zero =>
        obtain rfl : m = n := by simpa using h
        exact ⟨fun _ => Nat.succ_pos _, fun _ => h0⟩
      | succ i =>
        have := cn_spec ns (alB X m 0) i n (by simpa using h) (by omega)
        constructor
        · intro h1; have := this.1 h1; omega
        · intro h1; exact this.2 (by omega)
    · rw [if_neg h0] at hi ⊢
      obtain rfl : i = 0 := by omega
      obtain rfl : m = n := by simpa using h
      exact ⟨fun h1 => absurd h1 h0, fun h1 => absurd h1 (Nat.not_lt_zero 0)⟩
/-- Swept where no root is: nothing is there. -/
theorem swept_sta (hf : Fine X) (hr : rootsK X 8 = []) : Fine (swL X (ddK X 40)) ∧ Sta (swL X (ddK X 40)) 0 0 ((X.length : Int) - 288) ((X.length : Int) - 288) (if 0 < (X.length : Int) - 288 then 1 else 0) := by
  obtain ⟨s1, s2, s3⟩ := swept_empty hf hr
  have sw := sweep_swept hf
  have hl := hf.len
  have fr : freeL (((swL X (ddK X 40)).length : Int) - 288) (takeL (swL X (ddK X 40))) = if 0 < (X.length : Int) - 288 then [(0, (X.length : Int) - 288)] else [] := by
    unfold freeL
    rw [if_pos (take_chk sw.fine), s2, sw.len, srtL_nil]
    show runsOf 0 ([] ++ [((X.length : Int) - 288, 0)]) = _
    simp only [List.nil_append, runsOf]
    split <;> simp
  refine ⟨sw.fine, by rw [s2]; rfl, by rw [s2]; rfl, ?_, ?_, ?_⟩
  all_goals rw [fr]
  · by_cases h : 0 < (X.length : Int) - 288
    · rw [if_pos h]; simp [lenSum]
    · rw [if_neg h]; simp [lenSum]; omega
  · by_cases h : 0 < (X.length : Int) - 288
    · rw [if_pos h]; simp only [mostOf, List.foldl]; omega
    · rw [if_neg h]; simp only [mostOf, List.foldl]; omega
  · by_cases h : 0 < (X.length : Int) - 288
    · rw [if_pos h, if_pos h]; rfl
    · rw [if_neg h, if_neg h]; rfl
/-- How loose it is. -/
def lsN (F M : Int) : Int := if F = 0 then 0 else 100 * (F - M) / F
theorem ls_in {F M : Int} (h0 : 0 ≤ M) (h1 : M ≤ F) (h2 : 0 < F → 1 ≤ M) : 0 ≤ lsN F M ∧ lsN F M ≤ 99 := by
  unfold lsN
  split
  · omega
  · exact loose_in (by omega) (h2 (by omega)) h1
end
end Go.Proofs.YtpeglgkhpgifnaaGreatDoor
