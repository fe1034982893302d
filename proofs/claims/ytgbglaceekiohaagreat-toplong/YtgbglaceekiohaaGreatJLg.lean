/-
  Joined by program: LgPlain; LgStep; LgEnd; OpPlain; NmF; TlPlain; OnPlain. (Parts of the proofs over the packages of the program.)
-/
import Derived.Test.YtgbglaceekiohaaGreatJMvp
import Derived.Test.YtgbglaceekiohaaGreatJWy
import Derived.Test.YtgbglaceekiohaaGreatJRtp
import Derived.Test.YtgbglaceekiohaaGreatJHpc
import Derived.Test.YtgbglaceekiohaaGreatJPgp
import Derived.Test.YtgbglaceekiohaaGreatJHal
/-! Objects that name nobody: who is led to; what is moved together stays low. As plain lists. (Part of the proofs over the whole, for long.) -/
namespace Go.Proofs.YtgbglaceekiohaaGreat
open Go.RowKit
set_option linter.unusedVariables false

theorem nodup_len {α : Type} [BEq α] [LawfulBEq α] : ∀ {l m : List α}, l.Nodup → (∀ x ∈ l, x ∈ m) → l.length ≤ m.length
  | [], m, _, _ => Nat.zero_le _
  | x :: l, m, hn, hs => by
    obtain ⟨h1, h2⟩ := List.nodup_cons.1 hn
    have hx := hs x (by simp)
    have := nodup_len (l := l) (m := m.erase x) h2 (fun y hy => (List.mem_erase_of_ne (show y ≠ x from fun e => h1 (e ▸ hy))).2 (hs y (by simp [hy])))
    rw [List.length_erase_of_mem hx] at this
    have hpos : 0 < m.length := List.length_pos_of_mem hx
    rw [List.length_cons]
    omega
section
variable {L c : List Int}
theorem mem_rtH (hf : Fine L) {h : Int} : h ∈ rtH L ↔ h ≠ 0 ∧ ∃ s, leadOf (rootsK L 8) s = h := by
  unfold rtH
  rw [List.mem_map]
  constructor
  · rintro ⟨r, hr, rfl⟩
    obtain ⟨i, hi, hq, e⟩ := mem_rootsK_iff.1 hr
    have hr2 : r.2 = (rowAt L i).getD 10 0 := by rw [← e]; rfl
    rw [hr2]
    have := (lead_obj hf hi hq).1
    exact ⟨by omega, nameAt L i, lead_row hf hi hq rfl⟩
  · rintro ⟨h0, s, hs⟩
    rw [lead_pl hf] at hs
    by_cases hp : plR L s < 8
    · rw [if_pos hp] at hs
      obtain ⟨q1, q2⟩ := (isAtR_iff hf hp).1 ((plR_first L s).2.2 hp)
      exact ⟨rootOf (rowAt L (plR L s)), mem_rootsK_iff.2 ⟨_, hp, q1, rfl⟩, hs⟩
    · rw [if_neg hp] at hs
      exact absurd hs.symm h0
/-- An object of tag 0 names nobody. -/
theorem refs_none {h : Int} (h0 : (objOf L h).1 ≤ 0) : refsL L h = [] := by
  unfold refsL refK
  have : (objOf L h).1.toNat = 0 := by omega
  rw [this]
  rfl
theorem ways_none (hf : Fine L) (h0 : ∀ h, 1 ≤ h → h ≤ 40 → (objOf L h).1 ≤ 0) (h : Int) : wyL L h = if h ∈ rtH L then [h] else [] := by
  have s : Still (rtH L) (refsL L) (fun h => if h ∈ rtH L then [h] else []) := by
    refine ⟨fun r hr => ?_, fun h hn x hx => ?_, fun h hn => ?_⟩
    · rw [if_pos hr]; exact ⟨by simp, Nat.le_refl _⟩
    · by_cases hm : h ∈ rtH L
      · have hd := rtH_dg hf h hm
        rw [refs_none (h0 h hd.1 hd.2)] at hx; cases hx
      · rw [if_neg hm] at hn; exact absurd rfl hn
    · by_cases hm : h ∈ rtH L
      · rw [if_pos hm]; exact Way.root hm
      · rw [if_neg hm] at hn; exact absurd rfl hn
  exact (s.eq (rtH_dg hf) (refsL_dg L) h).symm
/-- Swept, those that roots lead to are left. -/
theorem swept_left (hf : Fine L) (h0 : ∀ h, 1 ≤ h → h ≤ 40 → (objOf L h).1 ≤ 0) : Fine (swL L (ddK L 40)) ∧ (swL L (ddK L 40)).length = L.length ∧ rootsK (swL L (ddK L 40)) 8 = rootsK L 8 ∧
    (∀ h, 1 ≤ h → h ≤ 40 → h ∈ rtH L → objOf (swL L (ddK L 40)) h = objOf L h ∧ tagAt (swL L (ddK L 40)) h = tagAt L h ∧ entOf (swL L (ddK L 40)) h = entOf L h) ∧
    (∀ h, 1 ≤ h → h ≤ 40 → h ∉ rtH L → tagAt (swL L (ddK L 40)) h = 0) ∧ ∀ j, 200 ≤ j → (swL L (ddK L 40)).getD j 0 = L.getD j 0 := by
  have s := sweep_swept hf
  have hd : ∀ h, 1 ≤ h → h ≤ 40 → (h ∈ ddK L 40 ↔ tagAt L h ≠ 0 ∧ h ∉ rtH L) := fun h h1 h2 => by
    rw [mem_ddK, ways_none hf h0]
    constructor
    · rintro ⟨_, a, b⟩
      refine ⟨a, fun hm => ?_⟩
      rw [if_pos hm] at b
      cases b
    · rintro ⟨a, b⟩
      exact ⟨⟨h1, h2⟩, a, if_neg b⟩
  refine ⟨s.fine, s.len, rootsK_same 8 (fun j hj => s.rows j hj), fun h h1 h2 hm => ?_, fun h h1 h2 hm => ?_, s.tail⟩
  · have hn : h ∉ ddK L 40 := fun hx => ((hd h h1 h2).1 hx).2 hm
    exact ⟨(sweep_objs hf s h1 h2).2 hn, (s.keep h h1 h2 hn).1, (s.keep h h1 h2 hn).2⟩
  · by_cases ht : tagAt L h = 0
    · have hn : h ∉ ddK L 40 := fun hx => ((hd h h1 h2).1 hx).1 ht
      rw [(s.keep h h1 h2 hn).1]
      exact ht
    · exact s.gone h ((hd h h1 h2).2 ⟨ht, hm⟩) h1 h2
/-! ### what is low stays low -/
/-- No object reaches beyond. -/
def Low (L : List Int) (E : Nat) : Prop := ∀ h, 1 ≤ h → h ≤ 40 → tagAt L h ≠ 0 → (entOf L h).2.1 + (entOf L h).2.2.1 ≤ E
theorem objOf_len (hf : Fine L) {h : Int} (h1 : 1 ≤ h) (h2 : h ≤ 40) (ht : tagAt L h ≠ 0) : ((objOf L h).2.length : Int) = (entOf L h).2.2.1 := by
  have he := hf.ent h1 h2 ht
  unfold objOf objE partL
  rw [if_neg ht]
  dsimp only
  rw [List.length_take, List.length_drop]
  omega
theorem step_low (hf : Fine L) {E : Nat} (hE : 288 ≤ E) (hl : Low L E) (h : mvS L = some c) : Low c E ∧ ∀ j, E ≤ j → c.getD j 0 = L.getD j 0 := by
  unfold mvS at h
  cases hq : mvOn 288 (srtE L) with
  | none => rw [hq] at h; cases h
  | some x =>
    obtain ⟨e, p⟩ := x
    rw [hq] at h
    obtain rfl : mvB L e.1 p.toNat = c := by simpa using h
    obtain ⟨m, p1, p2, he⟩ := step_moved hf hq
    obtain ⟨ee, e1, e2, et, _⟩ := ent_in hf he
    have hel := hl e.1 e1 e2 et
    have ea : (entOf L e.1).2.1 = e.2.1 := by rw [← ee]
    have hen := hf.ent e1 e2 et
    have hlen := hf.len
    refine ⟨fun k k1 k2 kt => ?_, fun j hj => ?_⟩
    · by_cases hk : k = e.1
      · subst hk
        rw [m.ent]
        show ((p.toNat : Nat) : Int) + (entOf L e.1).2.2.1 ≤ E
        omega
      · obtain ⟨a1, a2⟩ := m.other k k1 k2 hk
        rw [a2]
        exact hl k k1 k2 (by rw [← a1]; exact kt)
    · have hol := objOf_len hf e1 e2 et
      have hput : putE L (e.1, ((p.toNat : Nat) : Int), (entOf L e.1).2.2.1, (entOf L e.1).2.2.2) = 0 := putE_zero.2 ⟨hf.len0, hndB_iff.2 ⟨e1, e2⟩, hen.2.2.2.2.1, hen.2.2.2.2.2, hen.2.1, hen.2.2.1, by dsimp only; omega, by dsimp only; omega⟩
      have hpl := putL_len hput
      have hplc := plc_le e1 e2
      unfold mvB
      rw [splice_out (by rw [hpl]; omega) (.inr (by omega))]
      unfold putL
      rw [if_pos hput]
      exact splice_out (by show plc e.1 + 5 ≤ L.length; omega) (.inr (by show plc e.1 + 5 ≤ j; omega))
theorem mvF_low {E : Nat} (hE : 288 ≤ E) : ∀ (n : Nat) {L : List Int}, Fine L → Low L E → Low (mvF n L) E ∧ ∀ j, E ≤ j → (mvF n L).getD j 0 = L.getD j 0
  | 0, L, _, hl => ⟨hl, fun _ _ => rfl⟩
  | n + 1, L, hf, hl => by
    cases h : mvS L with
    | none => rw [mvF_none h]; exact ⟨hl, fun _ _ => rfl⟩
    | some d =>
      rw [mvF_some h]
      obtain ⟨a1, a2⟩ := step_low hf hE hl h
      obtain ⟨b1, b2⟩ := mvF_low hE n (step_as hf h).1.fine a1
      exact ⟨b1, fun j hj => (b2 j hj).trans (a2 j hj)⟩
end
end Go.Proofs.YtgbglaceekiohaaGreat
/-! A store that is used for long: what is known of its image, and one step; as plain lists. (Part of the proof of TopLong.) -/
namespace Go.Proofs.YtgbglaceekiohaaGreat
open Go.RowKit
set_option linter.unusedVariables false

/-- Four names, apart. -/
structure Nm4 (nm : Nat → ByteArray) : Prop where
  ok : ∀ k, k < 4 → nameB (nm k) = true
  ne : ∀ j k, j < 4 → k < 4 → j ≠ k → nm j ≠ nm k
/-- What four names lead to, and nothing else is there, all moved together. -/
structure Lg (nm : Nat → ByteArray) (L : List Int) (now fill : Nat → Int) : Prop where
  fine : Fine L
  len : L.length = 1024
  packed : mvS L = none
  zero : ∀ h, 1 ≤ h → h ≤ 40 → (objOf L h).1 ≤ 0
  objs : ∀ h, 1 ≤ h → h ≤ 40 → tagAt L h ≠ 0 → ∃ k, k < 4 ∧ leadOf (rootsK L 8) (nm k) = h
  only : ∀ s, leadOf (rootsK L 8) s ≠ 0 → ∃ k, k < 4 ∧ s = nm k
  led : ∀ k, k < 4 → (now k = 0 ∧ leadOf (rootsK L 8) (nm k) = 0) ∨ (1 ≤ now k ∧ now k ≤ 60 ∧ leadOf (rootsK L 8) (nm k) ≠ 0 ∧ objOf L (leadOf (rootsK L 8) (nm k)) = (0, List.replicate (now k).toNat (fill k)))
  apart : ∀ j k, j < 4 → k < 4 → j ≠ k → leadOf (rootsK L 8) (nm j) ≠ 0 → leadOf (rootsK L 8) (nm j) ≠ leadOf (rootsK L 8) (nm k)
section
variable {nm : Nat → ByteArray} {L : List Int} {now fill : Nat → Int}
theorem sumE_le : ∀ (l : List (Int × Int × Int × Int)), (∀ x ∈ l, x.2.2.1 ≤ 60) → sumE l ≤ 60 * (l.length : Int)
  | [], _ => by simp [sumE]
  | e :: l, h => by
    have h1 := h e (by simp)
    have h2 := sumE_le l (fun x hx => h x (by simp [hx]))
    show e.2.2.1 + sumE l ≤ 60 * ((l.length + 1 : Nat) : Int)
    omega
theorem sumE_ge : ∀ (l : List (Int × Int × Int × Int)), (∀ x ∈ l, 1 ≤ x.2.2.1) → 0 ≤ sumE l
  | [], _ => Int.le_refl _
  | e :: l, h => by
    have h1 := h e (by simp)
    have h2 := sumE_ge l (fun x hx => h x (by simp [hx]))
    show 0 ≤ e.2.2.1 + sumE l
    omega
/-- The handles that the four names lead to. -/
def four (nm : Nat → ByteArray) (L : List Int) : List Int := (List.range 4).map fun k => leadOf (rootsK L 8) (nm k)
theorem Lg.mem_four (g : Lg nm L now fill) {h : Int} (h1 : 1 ≤ h) (h2 : h ≤ 40) (ht : tagAt L h ≠ 0) : h ∈ four nm L := by
  obtain ⟨k, hk, e⟩ := g.objs h h1 h2 ht
  exact List.mem_map.2 ⟨k, List.mem_range.2 hk, e⟩
theorem four_len (nm : Nat → ByteArray) (L : List Int) : (four nm L).length = 4 := by unfold four; simp
theorem Lg.size (g : Lg nm L now fill) {h : Int} (h1 : 1 ≤ h) (h2 : h ≤ 40) (ht : tagAt L h ≠ 0) : (entOf L h).2.2.1 ≤ 60 := by
  obtain ⟨k, hk, e⟩ := g.objs h h1 h2 ht
  rw [← objOf_len g.fine h1 h2 ht]
  rcases g.led k hk with ⟨_, h0⟩ | ⟨a1, a2, _, a4⟩
  · omega
  · rw [e] at a4
    rw [a4]
    dsimp only
    rw [List.length_replicate]
    omega
theorem Lg.used (g : Lg nm L now fill) : 0 ≤ sumE (srtE L) ∧ sumE (srtE L) ≤ 240 := by
  have hin : ∀ x ∈ srtE L, x.2.2.1 ≤ 60 ∧ 1 ≤ x.2.2.1 := fun x hx => by
    obtain ⟨e, h1, h2, ht, _, h5, _⟩ := ent_in g.fine (srtE_mem.1 hx)
    have := g.size h1 h2 ht
    rw [← e] at this
    exact ⟨this, h5⟩
  have hlen : (srtE L).length ≤ 4 := by
    have := nodup_len (l := (srtE L).map (·.1)) (m := four nm L) srtE_nodup (fun h hh => by
      obtain ⟨x, hx, rfl⟩ := List.mem_map.1 hh
      obtain ⟨_, h1, h2, ht, _⟩ := ent_in g.fine (srtE_mem.1 hx)
      exact g.mem_four h1 h2 ht)
    rw [List.length_map, four_len] at this
    exact this
  have := sumE_le (srtE L) (fun x hx => (hin x hx).1)
  exact ⟨sumE_ge _ (fun x hx => (hin x hx).2), by omega⟩
theorem Lg.low (g : Lg nm L now fill) : lowH L < 40 := by
  have hf := lowH_first L
  refine Classical.byContradiction fun hc => ?_
  have h40 : lowH L = 40 := by have := hf.1; omega
  have := nodup_len (l := [1, 2, 3, 4, 5]) (m := four nm L) (by decide) (fun h hh => by
    have hb : 1 ≤ h ∧ h ≤ 5 := by
      simp at hh
      omega
    have := hf.2.1 (h - 1).toNat (by omega)
    dsimp only at this
    rw [show (((h - 1).toNat : Nat) : Int) + 1 = h by omega] at this
    exact g.mem_four hb.1 (by omega) (by simpa using this))
  rw [four_len] at this
  simp at this
/-- Where a new object goes: behind all that is there. -/
theorem Lg.fit (g : Lg nm L now fill) {n : Int} (n1 : 1 ≤ n) (n2 : n ≤ 60) : alE L n 0 = 0 ∧ alH L n 0 = (lowH L : Int) + 1 ∧ fitAt ((L.length : Int) - 288) (takeL L) n = sumE (srtE L) := by
  obtain ⟨u1, u2⟩ := g.used
  have hlen := g.len
  have hlow := g.low
  have hc := take_chk g.fine
  have hfr := free_one g.fine g.packed
  rw [if_pos (by omega)] at hfr
  unfold freeL at hfr
  rw [if_pos hc] at hfr
  have hfit : fitB n (freeOf ((L.length : Int) - 288) (srtL (takeL L))) = (sumE (srtE L), (L.length : Int) - 288 - sumE (srtE L)) := by
    rw [hfr]
    unfold fitB
    simp only [List.foldl, fitStep]
    rw [if_pos ⟨by omega, .inl trivial⟩]
  have hE : fitE ((L.length : Int) - 288) (takeL L) n = 0 := by
    rw [fitE_fine g.fine n1 (by omega), hfit, if_neg (by dsimp only; omega)]
  have h0 : alE L n 0 = 0 := by
    unfold alE
    rw [if_neg (by omega), if_neg (by omega), hE]
  refine ⟨h0, by unfold alH; rw [if_pos h0], ?_⟩
  rw [fitAt_fine g.fine n1 (by omega) hE, hfit]
/-- Behind an Alloc, a Write, a Set: one object more, and one name leads to it. -/
structure Lg3 (nm : Nat → ByteArray) (L c : List Int) (n v : Int) (k : Nat) (h : Int) : Prop where
  fine : Fine c
  len : c.length = 1024
  h1 : 1 ≤ h
  h2 : h ≤ 40
  was : tagAt L h = 0
  obj : objOf c h = (0, List.replicate n.toNat v)
  tag : tagAt c h ≠ 0
  ents : ∀ x, 1 ≤ x → x ≤ 40 → x ≠ h → objOf c x = objOf L x ∧ tagAt c x = tagAt L x
  lead : leadOf (rootsK c 8) (nm k) = h
  other : ∀ s, s ≠ nm k → leadOf (rootsK c 8) s = leadOf (rootsK L 8) s
  low : Low c 588
  tail : ∀ j, 588 ≤ j → c.getD j 0 = L.getD j 0
theorem Lg.packed_end (g : Lg nm L now fill) : ∀ h, 1 ≤ h → h ≤ 40 → tagAt L h ≠ 0 → (entOf L h).2.1 + (entOf L h).2.2.1 ≤ 288 + sumE (srtE L) := by
  intro h h1 h2 ht
  have hp := (mvS_none g.fine g.packed).1
  have hm : entOf L h ∈ srtE L := srtE_mem.2 (ent_mem h1 h2 ht)
  have key : ∀ (l : List (Int × Int × Int × Int)) (a : Int), Packed a l → (∀ x ∈ l, 1 ≤ x.2.2.1) → ∀ x ∈ l, x.2.1 + x.2.2.1 ≤ a + sumE l := by
    intro l
    induction l with
    | nil => intro a _ _ x hx; cases hx
    | cons e r ih =>
      intro a hpk hpos x hx
      obtain ⟨p1, p2⟩ := hpk
      have hr := sumE_ge r (fun y hy => hpos y (by simp [hy]))
      show x.2.1 + x.2.2.1 ≤ a + (e.2.2.1 + sumE r)
      rcases List.mem_cons.1 hx with rfl | hx
      · omega
      · have := ih _ p2 (fun y hy => hpos y (by simp [hy])) x hx
        omega
  exact key _ _ hp (srtE_from g.fine).2 _ hm
/-- Where there are no more than four names there is a place for one. -/
theorem free_place (hf : Fine L) (ho : ∀ s, leadOf (rootsK L 8) s ≠ 0 → ∃ k, k < 4 ∧ s = nm k) : frR L < 8 := by
  haveI := ba_lawful
  have hfr := frR_first L
  refine Classical.byContradiction fun hc => ?_
  have h8 : frR L = 8 := by have := hfr.1; omega
  have hall : ∀ i, i < 8 → isRoot (rowAt L i) = true := fun i hi => by
    have := hfr.2.1 i (by omega)
    simpa using this
  have hne := (rFault_iff.1 (faults_iff.1 hf.ok).2).2
  have hnd : ((List.range 8).map (nameAt L)).Nodup := by
    refine List.Pairwise.map _ (fun i j h => h) ?_
    refine List.pairwise_iff_getElem.2 (fun i j hi hj hij => ?_)
    rw [List.length_range] at hi hj
    rw [List.getElem_range, List.getElem_range]
    exact hne i j hij hj (hall i hi) (hall j hj)
  have := nodup_len (m := (List.range 4).map nm) hnd (fun s hs => by
    obtain ⟨i, hi, rfl⟩ := List.mem_map.1 hs
    have hi8 := List.mem_range.1 hi
    have hl := lead_row hf hi8 (hall i hi8) rfl
    have ho1 := (lead_obj hf hi8 (hall i hi8)).1
    obtain ⟨k, hk, e⟩ := ho (nameAt L i) (by rw [hl]; omega)
    exact List.mem_map.2 ⟨k, List.mem_range.2 hk, e.symm⟩)
  simp at this
set_option maxRecDepth 100000 in
theorem Lg.three (g : Lg nm L now fill) (N4 : Nm4 nm) {n v : Int} {k : Nat} (n1 : 1 ≤ n) (n2 : n ≤ 60) (hk : k < 4) :
    alE L n 0 = 0 ∧ alH L n 0 = (lowH L : Int) + 1 ∧ pcE (alB L n 0) ((lowH L : Int) + 1) 0 n = 0 ∧
    seE (wrB (alB L n 0) ((lowH L : Int) + 1) 0 (List.replicate n.toNat v)) (nm k) ((lowH L : Int) + 1) = 0 ∧
    Lg3 nm L (seB (wrB (alB L n 0) ((lowH L : Int) + 1) 0 (List.replicate n.toNat v)) (nm k) ((lowH L : Int) + 1)) n v k ((lowH L : Int) + 1) := by
  obtain ⟨f1, f2, f3⟩ := g.fit n1 n2
  obtain ⟨u1, u2⟩ := g.used
  have hlow := g.low
  have hlen := g.len
  obtain ⟨x, N, ok⟩ := al_ok g.fine f1
  have hx : (x : Int) = 288 + sumE (srtE L) := by rw [← ok.eqx, f3]
  have hN : (N : Int) = n := ok.eqn.symm
  have hNn : n.toNat = N := by omega
  obtain ⟨k1, k2, k3, k4, k5, k6⟩ := ok.keep g.fine f1
  have hrows := fun j hj => al_rows (t := 0) g.fine f1 (j := j) hj
  have htl1 : ∀ j, 588 ≤ j → (alB L n 0).getD j 0 = L.getD j 0 := fun j hj => by
    have hz := length_zerosB N
    have hsl : (splice L x (zerosB N)).length = L.length := length_splice (by rw [hz]; exact ok.x2)
    have hpl := plc_le (h := (lowH L : Int) + 1) (by omega) (by omega)
    have hp : putE (splice L x (zerosB N)) ((lowH L : Int) + 1, (x : Int), (N : Int), 0) = 0 :=
      putE_zero.2 ⟨by rw [hsl]; exact g.fine.len0, hndB_iff.2 ⟨by show 1 ≤ (lowH L : Int) + 1; omega, by show (lowH L : Int) + 1 ≤ 40; omega⟩, ok.t1, ok.t2, by have := ok.n1; show 1 ≤ (N : Int); omega, by have := ok.n2; show (N : Int) ≤ 1000; omega, by have := ok.x1; show 288 ≤ (x : Int); omega, by rw [hsl]; have := ok.x2; show (x : Int) + N ≤ _; omega⟩
    rw [(ok.img f1).1]
    unfold alL putL
    rw [if_pos hp]
    dsimp only
    have hr5 : (rowE ((lowH L : Int) + 1, (x : Int), (N : Int), 0)).length = 5 := rfl
    rw [splice_out (by rw [hr5, hsl]; omega) (.inr (by rw [hr5]; omega)), splice_out (by rw [hz]; exact ok.x2) (.inr (by rw [hz]; omega))]
  generalize hA : alB L n 0 = A at *
  generalize hH : (lowH L : Int) + 1 = H at *
  have hH1 : 1 ≤ H ∧ H ≤ 40 := by omega
  have hc1 : chkE A H = 0 := chkE_zero.2 ⟨k1.len0, hndB_iff.2 hH1, k5⟩
  have hpc : pcE A H 0 n = 0 := pcE_zero.2 ⟨hc1, Int.le_refl _, by omega, by rw [k4]; show 0 + n ≤ (N : Int); omega⟩
  have hrl : (List.replicate n.toNat v).length = N := by rw [List.length_replicate, hNn]
  have hpc2 : pcE A H 0 ((List.replicate n.toNat v).length : Nat) = 0 := by rw [hrl, hN]; exact hpc
  have hw : wrB A H 0 (List.replicate n.toNat v) = splice A ((entOf A H).2.1.toNat + 0) (List.replicate n.toNat v) := by unfold wrB; rw [if_pos hpc2]; rfl
  obtain ⟨w1, w2, w3, w4, w5⟩ := write_keep k1 hH1.1 hH1.2 k5 (p := 0) (r := List.replicate n.toNat v) (by rw [k4, hrl]; show ((0 : Nat) : Int) + N ≤ N; omega)
  rw [← hw] at w1 w2 w3 w4 w5
  have hax : (entOf A H).2.1.toNat = x := by rw [k4]; rfl
  have hfit : (entOf A H).2.1.toNat + 0 + (List.replicate n.toNat v).length ≤ A.length := by rw [hax, hrl, k2]; have := ok.x2; omega
  have hx1 := ok.x1
  have hrow2 : ∀ j, j < 8 → rowAt (wrB A H 0 (List.replicate n.toNat v)) j = rowAt L j := fun j hj => by
    rw [hw, rowAt_out hfit (by rw [k2]; omega) (.inr (by rw [hax]; omega)), hrows j hj]
  have htl2 : ∀ j, 588 ≤ j → (wrB A H 0 (List.replicate n.toNat v)).getD j 0 = L.getD j 0 := fun j hj => by
    rw [hw, splice_out hfit (.inr (by rw [hax, hrl]; omega)), htl1 j hj]
  have hobj2 : objOf (wrB A H 0 (List.replicate n.toNat v)) H = (0, List.replicate n.toNat v) := by
    obtain ⟨q1, q2⟩ := w4 H hH1.1 hH1.2
    unfold objOf
    rw [q1, if_neg k5, q2, k4]
    unfold objE
    rw [k4, hrl] at w5
    have e0 : ((x : Int) + ((0 : Nat) : Int)) = (x : Int) := by omega
    dsimp only at w5
    rw [e0] at w5
    rw [w5]
  have hroots2 : rootsK (wrB A H 0 (List.replicate n.toNat v)) 8 = rootsK L 8 := rootsK_same 8 hrow2
  generalize hW : wrB A H 0 (List.replicate n.toNat v) = W at *
  have hcW : chkE W H = 0 := chkE_zero.2 ⟨w1.len0, hndB_iff.2 hH1, by rw [(w4 H hH1.1 hH1.2).1]; exact k5⟩
  have hfrW : frR W < 8 := free_place (nm := nm) w1 (fun s hs => g.only s (by rw [← hroots2]; exact hs))
  have hse : seE W (nm k) H = 0 := by
    unfold seE
    rw [if_neg (by rw [N4.ok k hk]; simp), if_neg (fun h => h hcW), if_neg]
    unfold seI
    split <;> omega
  have hrow := se_row w1 hse
  refine ⟨f1, f2, hpc, hse, ⟨(se_fine w1 hse).1, by rw [hrow.len, w2, k2, hlen], hH1.1, hH1.2, by rw [← hH]; exact ok.free, ?_, ?_, fun y y1 y2 hne => ?_, se_lead w1 hse, fun s hs => ?_, fun y y1 y2 hyt => ?_, fun j hj => ?_⟩⟩
  · rw [(hrow.objs w1 H hH1.1 hH1.2).1, hobj2]
  · rw [(hrow.ents H hH1.1 hH1.2).1, (w4 H hH1.1 hH1.2).1]; exact k5
  · obtain ⟨b1, b2, b3⟩ := k6 y y1 y2 hne
    rw [(hrow.objs w1 y y1 y2).1, (hrow.ents y y1 y2).1, w3 y y1 y2 hne, (w4 y y1 y2).1]
    exact ⟨b1, b2⟩
  · rw [se_other w1 hse hs, hroots2]
  · rw [(hrow.ents y y1 y2).2, (w4 y y1 y2).2]
    by_cases hy : y = H
    · subst hy
      rw [k4]
      show (x : Int) + (N : Int) ≤ 588
      omega
    · obtain ⟨b1, b2, b3⟩ := k6 y y1 y2 hy
      rw [(hrow.ents y y1 y2).1, (w4 y y1 y2).1, b2] at hyt
      have := g.packed_end y y1 y2 hyt
      rw [b3]
      show _ ≤ ((588 : Nat) : Int)
      omega
  · rw [hrow.tail j (by omega), htl2 j hj]
end
end Go.Proofs.YtgbglaceekiohaaGreat
/-! A store that is used for long: swept and moved together behind each step; few pages differ. As plain lists. (Part of the proof of TopLong.) -/
namespace Go.Proofs.YtgbglaceekiohaaGreat
open Go.RowKit
set_option linter.unusedVariables false

section
variable {nm : Nat → ByteArray} {L c : List Int} {now fill : Nat → Int} {n v : Int} {k : Nat} {H : Int}
theorem lead_is (hf : Fine L) {s : ByteArray} (h0 : leadOf (rootsK L 8) s ≠ 0) : 1 ≤ leadOf (rootsK L 8) s ∧ leadOf (rootsK L 8) s ≤ 40 ∧ tagAt L (leadOf (rootsK L 8) s) ≠ 0 := by
  rcases lead_range hf s with e | ⟨h1, h2, h3⟩
  · exact absurd e h0
  · exact ⟨h1, h2, (chkE_zero.1 h3).2.2⟩
/-- Swept and moved together: as it was ahead, with what is new. -/
theorem Lg3.done (t : Lg3 nm L c n v k H) (g : Lg nm L now fill) (N4 : Nm4 nm) (n1 : 1 ≤ n) (n2 : n ≤ 60) (hk : k < 4) :
    Lg nm (mvA (swL c (ddK c 40))) (fun j => if j = k then n else now j) (fun j => if j = k then v else fill j) ∧ Fine (swL c (ddK c 40)) ∧ (swL c (ddK c 40)).length = 1024 ∧
    (∀ j, 588 ≤ j → (swL c (ddK c 40)).getD j 0 = L.getD j 0) ∧ ∀ j, 588 ≤ j → (mvA (swL c (ddK c 40))).getD j 0 = (swL c (ddK c 40)).getD j 0 := by
  have hzero : ∀ h, 1 ≤ h → h ≤ 40 → (objOf c h).1 ≤ 0 := fun h a b => by
    by_cases e : h = H
    · subst e; rw [t.obj]; exact Int.le_refl _
    · rw [(t.ents h a b e).1]; exact g.zero h a b
  obtain ⟨s1, s2, s3, s4, s5, s6⟩ := swept_left t.fine hzero
  obtain ⟨m, mn⟩ := mvA_as s1
  have hl4 : (swL c (ddK c 40)).length = 1024 := s2.trans t.len
  have hr : rootsK (mvA (swL c (ddK c 40))) 8 = rootsK c 8 := m.roots.trans s3
  have htag : ∀ h, 1 ≤ h → h ≤ 40 → tagAt (mvA (swL c (ddK c 40))) h ≠ 0 → h ∈ rtH c := fun h a b ht => by
    refine Classical.byContradiction fun hn => ht ?_
    exact (m.tags h a b).2 (s5 h a b hn)
  have hlive : ∀ h, 1 ≤ h → h ≤ 40 → h ∈ rtH c → objOf (mvA (swL c (ddK c 40))) h = objOf c h := fun h a b hm => (m.objs h a b).trans (s4 h a b hm).1
  have hnotH : ∀ s, leadOf (rootsK L 8) s ≠ 0 → leadOf (rootsK L 8) s ≠ H := fun s h0 e => by
    have := (lead_is g.fine h0).2.2
    rw [e] at this
    exact this t.was
  have hH0 : H ≠ 0 := by have := t.h1; omega
  have hlow4 : Low (swL c (ddK c 40)) 588 := fun h a b ht => by
    have hm : h ∈ rtH c := Classical.byContradiction fun hn => ht (s5 h a b hn)
    obtain ⟨_, e1, e2⟩ := s4 h a b hm
    rw [e2]
    exact t.low h a b (by rw [← e1]; exact ht)
  have hmv := (mvF_low (E := 588) (by decide) 40 s1 hlow4).2
  refine ⟨⟨m.fine, m.len.trans hl4, mn, fun h a b => ?_, fun h a b ht => ?_, fun s hs => ?_, fun j hj => ?_, fun i j hi hj hne h0 => ?_⟩, s1, hl4, fun j hj => (s6 j (by omega)).trans (t.tail j hj), hmv⟩
  · by_cases hm : h ∈ rtH c
    · rw [hlive h a b hm]; exact hzero h a b
    · have ht : tagAt (mvA (swL c (ddK c 40))) h = 0 := (m.tags h a b).2 (s5 h a b hm)
      unfold objOf
      rw [if_pos ht]
      show (-1 : Int) ≤ 0
      decide
  · obtain ⟨hne, s, hs⟩ := (mem_rtH t.fine).1 (htag h a b ht)
    rw [hr]
    by_cases e : s = nm k
    · subst e; exact ⟨k, hk, hs⟩
    · have hs' := hs
      rw [t.other s e] at hs'
      obtain ⟨j, hj, ej⟩ := g.only s (by rw [hs']; exact hne)
      exact ⟨j, hj, by rw [← ej]; exact hs⟩
  · rw [hr] at hs
    by_cases e : s = nm k
    · exact ⟨k, hk, e⟩
    · rw [t.other s e] at hs
      exact g.only s hs
  · rw [hr]
    by_cases e : j = k
    · subst e
      right
      rw [if_pos rfl, if_pos rfl, t.lead]
      refine ⟨n1, n2, hH0, ?_⟩
      rw [hlive H t.h1 t.h2 ((mem_rtH t.fine).2 ⟨hH0, nm j, t.lead⟩)]
      exact t.obj
    · rw [if_neg e, if_neg e, t.other (nm j) (N4.ne j k hj hk e)]
      rcases g.led j hj with h | ⟨a1, a2, a3, a4⟩
      · exact .inl h
      · refine .inr ⟨a1, a2, a3, ?_⟩
        obtain ⟨b1, b2, b3⟩ := lead_is g.fine a3
        rw [hlive _ b1 b2 ((mem_rtH t.fine).2 ⟨a3, nm j, t.other (nm j) (N4.ne j k hj hk e)⟩), (t.ents _ b1 b2 (hnotH (nm j) a3)).1]
        exact a4
  · rw [hr] at h0 ⊢
    by_cases ei : i = k
    · subst ei
      rw [t.lead, t.other (nm j) (N4.ne j i hj hi (fun e => hne e.symm))]
      intro e
      exact hnotH (nm j) (by rw [← e]; exact hH0) e.symm
    · rw [t.other (nm i) (N4.ne i k hi hk ei)] at h0 ⊢
      by_cases ej : j = k
      · subst ej
        rw [t.lead]
        exact hnotH (nm i) h0
      · rw [t.other (nm j) (N4.ne j k hj hk ej)]
        exact g.apart i j hi hj hne h0
/-- The beginning: nothing is there. -/
theorem Lg.start : Lg nm (zerosB 1024) (fun _ => 0) (fun _ => 0) := by
  obtain ⟨z1, z2, z3⟩ := zeros_fine (n := 1024) (by decide) (by decide)
  have hr : rootsK (zerosB 1024) 8 = [] := by
    rw [rootsK_none (b := zerosB 1024) (k := 0) 8 (Nat.zero_le _) (fun j _ hj => z3 j hj)]
    rfl
  have hlead : ∀ s, leadOf (rootsK (zerosB 1024) 8) s = 0 := fun s => by rw [hr]; rfl
  have he : srtE (zerosB 1024) = [] := by
    have : entsK (zerosB 1024) 40 = [] := by
      refine List.eq_nil_iff_forall_not_mem.2 (fun x hx => ?_)
      obtain ⟨_, _, _, ht, _⟩ := ent_in z1 hx
      exact ht (z2 _)
    have hp := srtE_perm (L := zerosB 1024)
    rw [this] at hp
    exact hp.eq_nil
  refine ⟨z1, length_zerosB 1024, ?_, fun h _ _ => ?_, fun h _ _ ht => absurd (z2 h) ht, fun s hs => absurd (hlead s) hs, fun j _ => .inl ⟨rfl, hlead _⟩, fun i j _ _ _ h0 => absurd (hlead _) h0⟩
  · unfold mvS
    rw [he]
    rfl
  · unfold objOf
    rw [if_pos (z2 h)]
    show (-1 : Int) ≤ 0
    decide
/-- Where all behind 588 is as it was few pages differ. -/
theorem few_dirty {K M : List Int} (hK : K.length = 1024) (hM : M.length = 1024) (h : ∀ j, 588 ≤ j → M.getD j 0 = K.getD j 0) : (drtN K M 32).length ≤ 19 := by
  refine drtN_few (fun i h1 h2 => ?_)
  apply ext_getD
  · rw [prt_len (m := 32) hK h2, prt_len (m := 32) hM h2]
  · intro j hj
    rw [prt_len (m := 32) hK h2] at hj
    rw [prt_getD hj, prt_getD hj]
    exact (h _ (by omega)).symm
end
end Go.Proofs.YtgbglaceekiohaaGreat
/-! What an op of a script does with an image, as plain lists. (Part of the proofs over scripts.) -/
namespace Go.Proofs.YtgbglaceekiohaaGreat
open Go.RowKit
set_option linter.unusedVariables false

section
variable {L : List Int}
theorem wrB_fine (hf : Fine L) (h x : Int) (l : List Int) : Fine (wrB L h x l) ∧ (wrB L h x l).length = L.length := by
  unfold wrB
  by_cases h0 : pcE L h x l.length = 0
  · rw [if_pos h0]
    obtain ⟨c0, x0, _, x2⟩ := pcE_zero.1 h0
    have hh := hndB_iff.1 (chkE_zero.1 c0).2.1
    obtain ⟨X, rfl⟩ := Int.eq_ofNat_of_zero_le x0
    rw [Int.toNat_natCast]
    obtain ⟨q1, q2, _⟩ := write_keep hf hh.1 hh.2 (chkE_zero.1 c0).2.2 (p := X) (r := l) x2
    exact ⟨q1, q2⟩
  · rw [if_neg h0]; exact ⟨hf, rfl⟩
theorem al_len (hf : Fine L) (n t : Int) : (alB L n t).length = L.length := by
  by_cases h0 : alE L n t = 0
  · obtain ⟨x, N, hk⟩ := al_ok hf h0
    exact (hk.keep hf h0).2.1
  · unfold alB; rw [if_neg h0]
end
end Go.Proofs.YtgbglaceekiohaaGreat
/-! Eight names of one letter each. (Part of the proofs.) -/
namespace Go.Proofs.YtgbglaceekiohaaGreat
open Go.RowKit
set_option linter.unusedVariables false

/-- The names of the law, one letter each. -/
def nmF (k : Nat) : ByteArray := { data := #[UInt8.ofNat (97 + k)] }
theorem nmF_size (k : Nat) : (nmF k).size ≤ 140737488351232 := (show 1 ≤ 140737488351232 by decide)
theorem nmF_name : ∀ k, k < 8 → nameB (nmF k) = true := by decide
theorem nmF_ne : ∀ j, j < 8 → ∀ k, k < 8 → j ≠ k → nmF j ≠ nmF k := by decide
end Go.Proofs.YtgbglaceekiohaaGreat
/-! One round of a store that is used for long, as plain lists: its images, and what is got behind it. (Part of the proof of TopLong.) -/
namespace Go.Proofs.YtgbglaceekiohaaGreat
open Go.RowKit
set_option linter.unusedVariables false

theorem nm4 : Nm4 nmF := ⟨fun k hk => nmF_name k (by omega), fun j k hj hk h => nmF_ne j (by omega) k (by omega) h⟩
/-- The images of a round: what is allocated, written, set, swept, moved together. -/
structure LgRd (L : List Int) (now fill : Nat → Int) (n v : Int) (k : Nat) (A W C M N : List Int) (H : Int) : Prop where
  a : alB L n 0 = A
  w : wrB A H 0 (List.replicate n.toNat v) = W
  c : seB W (nmF k) H = C
  m : swL C (ddK C 40) = M
  z : mvA M = N
  e1 : alE L n 0 = 0
  h1 : alH L n 0 = H
  p1 : pcE A H 0 n = 0
  s1 : seE W (nmF k) H = 0
  la : A.length = 1024
  lw : W.length = 1024
  lc : C.length = 1024
  lm : M.length = 1024
  lz : N.length = 1024
  d1 : (drtN L M 32).length ≤ 23
  d2 : (drtN M N 32).length ≤ 23
  lg : Lg nmF N (fun j => if j = k then n else now j) (fun j => if j = k then v else fill j)
theorem Lg.rnd {L : List Int} {now fill : Nat → Int} (g : Lg nmF L now fill) {n v : Int} {k : Nat} (n1 : 1 ≤ n) (n2 : n ≤ 60) (hk : k < 4) : ∃ A W C M N H, LgRd L now fill n v k A W C M N H := by
  obtain ⟨e1, h1, p1, s1, t⟩ := g.three nm4 (v := v) n1 n2 hk
  obtain ⟨lg, f4, l4, d1, d2⟩ := t.done g nm4 n1 n2 hk
  have la : (alB L n 0).length = 1024 := (al_len g.fine n 0).trans g.len
  have fa : Fine (alB L n 0) := alB_fine g.fine n 0
  have lw := (wrB_fine fa ((lowH L : Int) + 1) 0 (List.replicate n.toNat v)).2.trans la
  exact ⟨_, _, _, _, _, _, ⟨rfl, rfl, rfl, rfl, rfl, e1, h1, p1, s1, la, lw, t.len, l4, lg.len, Nat.le_trans (few_dirty g.len l4 d1) (by decide), Nat.le_trans (few_dirty l4 lg.len d2) (by decide), lg⟩⟩
/-- What a name gives. -/
structure Got (N : List Int) (now fill : Nat → Int) (j : Nat) (x : Int) : Prop where
  e : gtE N (nmF j) 0 = 0
  h : gtH N (nmF j) 0 = x
  n60 : now j ≤ 60
  p : pcE N x 0 (now j) = 0
  r : rdL N x 0 (now j) = List.replicate (now j).toNat (fill j)
  s : (getE N x).2.2.1 = now j
  k : chkE N x = 0
theorem Lg.got {N : List Int} {now fill : Nat → Int} (g : Lg nmF N now fill) {j : Nat} (hj : j < 4) : (now j = 0 ∧ gtE N (nmF j) 0 = 5) ∨ (1 ≤ now j ∧ ∃ x, Got N now fill j x) := by
  have hname : ¬ nameB (nmF j) = false := by rw [nmF_name j (by omega)]; decide
  rcases g.led j hj with ⟨h0, hl⟩ | ⟨h1, h2, h3, h4⟩
  · left
    refine ⟨h0, ?_⟩
    unfold gtE
    rw [if_neg hname, if_neg (by decide), if_pos hl]
  · right
    refine ⟨h1, leadOf (rootsK N 8) (nmF j), ?_⟩
    obtain ⟨r1, r2, r3⟩ : 1 ≤ leadOf (rootsK N 8) (nmF j) ∧ leadOf (rootsK N 8) (nmF j) ≤ 40 ∧ chkE N (leadOf (rootsK N 8) (nmF j)) = 0 := by
      rcases lead_range g.fine (nmF j) with e | e
      · exact absurd e h3
      · exact e
    have ht := (chkE_zero.1 r3).2.2
    have hol := objOf_len g.fine r1 r2 ht
    have htag : (getE N (leadOf (rootsK N 8) (nmF j))).2.2.2 = 0 := by
      unfold getE
      rw [if_pos r3]
      have : (objOf N (leadOf (rootsK N 8) (nmF j))).1 = 0 := by rw [h4]
      unfold objOf at this
      rw [if_neg ht] at this
      exact this
    have hbytes : partL N (entOf N (leadOf (rootsK N 8) (nmF j))).2.1 (entOf N (leadOf (rootsK N 8) (nmF j))).2.2.1 = List.replicate (now j).toNat (fill j) := by
      have : (objOf N (leadOf (rootsK N 8) (nmF j))).2 = List.replicate (now j).toNat (fill j) := by rw [h4]
      unfold objOf at this
      rw [if_neg ht] at this
      exact this
    rw [h4] at hol
    dsimp only at hol
    rw [List.length_replicate] at hol
    have he : gtE N (nmF j) 0 = 0 := by
      unfold gtE
      rw [if_neg hname, if_neg (by decide), if_neg h3, if_neg (fun h => h.2 htag.symm)]
    have hsz : (entOf N (leadOf (rootsK N 8) (nmF j))).2.2.1 = now j := by omega
    have hp : pcE N (leadOf (rootsK N 8) (nmF j)) 0 (now j) = 0 := pcE_zero.2 ⟨r3, Int.le_refl _, by omega, by omega⟩
    refine ⟨he, by unfold gtH; rw [if_pos he], h2, hp, ?_, ?_, r3⟩
    · unfold rdL
      rw [if_pos hp]
      unfold partL at hbytes
      rw [hsz] at hbytes
      exact hbytes
    · unfold getE
      rw [if_pos r3]
      exact hsz
theorem nm4_cut (W : World) : ∀ k : Nat, k < 4 → Sem.run Tryz.prog (Instr.slice 9 (.string { data := #[97, 98, 99, 100] }) (some (.int .i64 k)) (some (.int .i64 ((k : Int) + 1))) none) W = .ok (.string (nmF k)) W
  | 0, _ => by kernel_rfl
  | 1, _ => by kernel_rfl
  | 2, _ => by kernel_rfl
  | 3, _ => by kernel_rfl
  | k + 4, h => by omega
end Go.Proofs.YtgbglaceekiohaaGreat
/-! One object in an image that was empty, and what is written into it; as plain lists. (Part of the proofs over the whole: the closed fact.) -/
namespace Go.Proofs.YtgbglaceekiohaaGreat
open Go.RowKit
set_option linter.unusedVariables false

section
variable {L : List Int} {N n : Nat} {t : Int}
/-- One object of n bytes in an image that was empty. -/
theorem first_made (h1 : 288 + n ≤ N) (h2 : N ≤ 6400) (n1 : 1 ≤ n) (n2 : n ≤ 1000) (t1 : 0 ≤ t) (t2 : t ≤ 15) :
    alE (zerosB N) n t = 0 ∧ alH (zerosB N) n t = 1 ∧ Fine (alB (zerosB N) n t) ∧ (alB (zerosB N) n t).length = N ∧ chkE (alB (zerosB N) n t) 1 = 0 ∧ objOf (alB (zerosB N) n t) 1 = (t, zerosB n) ∧ (entOf (alB (zerosB N) n t) 1).2.2.1 = n ∧
    (∀ h : Int, 1 ≤ h → h ≤ 40 → h ≠ 1 → tagAt (alB (zerosB N) n t) h = 0) ∧ ∀ j, j < 8 → isRoot (rowAt (alB (zerosB N) n t) j) = false := by
  obtain ⟨z1, z2, z3⟩ := zeros_fine (n := N) (by omega) h2
  have hzl := length_zerosB N
  have hlow : lowH (zerosB N) = 0 := (lowH_first _).unique ⟨Nat.zero_le _, fun j hj => absurd hj (Nat.not_lt_zero j), fun _ => decide_eq_true (z2 _)⟩
  have h0 : alE (zerosB N) n t = 0 := al_room (p := 0) z1 (by omega) (by omega) (by omega) t1 t2 (by decide) (by rw [hzl]; omega) (fun e he => by
    obtain ⟨h, _, _, ht, _⟩ := mem_takeL.1 he
    exact absurd (z2 h) ht)
  obtain ⟨x, M, hk⟩ := al_ok z1 h0
  obtain ⟨k1, k2, k3, k4, k5, k6⟩ := hk.keep z1 h0
  have hM : M = n := by have := hk.eqn; omega
  subst hM
  rw [hlow] at k3 k4 k5 k6
  have k5' : tagAt (alB (zerosB N) M t) 1 ≠ 0 := k5
  have k4' : entOf (alB (zerosB N) M t) 1 = (1, (x : Int), (M : Int), t) := k4
  refine ⟨h0, by unfold alH; rw [if_pos h0, hlow]; rfl, k1, k2.trans hzl, chkE_zero.2 ⟨k1.len0, by decide, k5'⟩, k3, by rw [k4'], fun h a b c => ?_, fun j hj => ?_⟩
  · rw [(k6 h a b (by simpa using c)).2.1]; exact z2 h
  · rw [al_rows z1 h0 hj]; exact z3 j hj
/-- All of an object is written anew. -/
theorem all_written (hf : Fine L) {h : Int} (hc : chkE L h = 0) {r : List Int} (hr : (r.length : Int) = (entOf L h).2.2.1) :
    pcE L h 0 r.length = 0 ∧ Fine (wrB L h 0 r) ∧ (wrB L h 0 r).length = L.length ∧ objOf (wrB L h 0 r) h = ((objOf L h).1, r) ∧ chkE (wrB L h 0 r) h = 0 ∧ (entOf (wrB L h 0 r) h) = entOf L h ∧ rdL (wrB L h 0 r) h 0 r.length = r ∧
    (∀ k, 1 ≤ k → k ≤ 40 → k ≠ h → objOf (wrB L h 0 r) k = objOf L k) := by
  obtain ⟨q1, q2, q3⟩ := chkE_zero.1 hc
  have hh := hndB_iff.1 q2
  have h0 : pcE L h 0 r.length = 0 := pcE_zero.2 ⟨hc, Int.le_refl _, by omega, by omega⟩
  have hw : wrB L h 0 r = splice L ((entOf L h).2.1.toNat + 0) r := by unfold wrB; rw [if_pos h0]; rfl
  obtain ⟨w1, w2, w3, w4, w5⟩ := write_keep hf hh.1 hh.2 q3 (p := 0) (r := r) (by omega)
  rw [← hw] at w1 w2 w3 w4 w5
  obtain ⟨e1, e2⟩ := w4 h hh.1 hh.2
  have hc2 : chkE (wrB L h 0 r) h = 0 := chkE_zero.2 ⟨w1.len0, q2, by rw [e1]; exact q3⟩
  have hp : partL (wrB L h 0 r) (entOf L h).2.1 (entOf L h).2.2.1 = r := by
    rw [show (entOf L h).2.1 + ((0 : Nat) : Int) = (entOf L h).2.1 by omega] at w5
    rw [← hr]
    exact w5
  have h0' : pcE (wrB L h 0 r) h 0 r.length = 0 := pcE_zero.2 ⟨hc2, Int.le_refl _, by omega, by rw [e2]; omega⟩
  refine ⟨h0, w1, w2, ?_, hc2, e2, ?_, w3⟩
  · unfold objOf
    rw [e1, if_neg q3, if_neg q3, e2]
    unfold objE
    rw [hp]
  · unfold rdL
    rw [if_pos h0', e2]
    unfold partL at hp
    rw [show (0 : Int).toNat = 0 from rfl, Nat.add_zero, Int.toNat_natCast]
    rw [← hr, Int.toNat_natCast] at hp
    exact hp
end
end Go.Proofs.YtgbglaceekiohaaGreat
