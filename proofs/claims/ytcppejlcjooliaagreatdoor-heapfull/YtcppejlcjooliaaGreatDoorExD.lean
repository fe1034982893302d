/-
  Contracts of package extent: Frees. (Part of the proofs over package extent.)
-/
import Derived.Test.YtcppejlcjooliaaGreatDoorExC
namespace Go.Proofs.YtcppejlcjooliaaGreatDoor
open Go.RowKit Go.Sort Go.Shelf
set_option linter.unusedVariables false

/-- Extents, rising. -/
def srtL (l : List (Int × Int)) : List (Int × Int) := l.mergeSort (fun a b => decide (a.1 ≤ b.1))
theorem Good.srt {n : Int} {l s : List (Int × Int)} (hg : Good n l) (hp : s.Perm l) (hs : s.Pairwise (fun a b => a.1 ≤ b.1)) : Srt l s := by
  refine ⟨hp, ?_⟩
  have hgs := hg.perm hp
  refine (hs.and hgs.apart).imp_of_mem (fun {a b} ha hb ⟨h1, h2⟩ => ?_)
  have := over_no.1 h2
  have := hgs.all a ha
  have := hgs.all b hb
  omega
theorem Good.srtL {n : Int} {l : List (Int × Int)} (hg : Good n l) : Srt l (srtL l) := by
  refine hg.srt (List.mergeSort_perm l _) ?_
  have := List.pairwise_mergeSort (le := fun a b : (Int × Int) => decide (a.1 ≤ b.1)) (fun a b c h1 h2 => by simp at *; omega) (fun a b => by simp; omega) l
  exact this.imp (fun h => by simpa using h)
theorem Good.srt_eq {n : Int} {l s : List (Int × Int)} (hg : Good n l) (hp : s.Perm l) (hs : s.Pairwise (fun a b => a.1 ≤ b.1)) : s = YtcppejlcjooliaaGreatDoor.srtL l :=
  srt_unique ((hg.srt hp hs).1.trans hg.srtL.1.symm) (hg.srt hp hs).2 hg.srtL.2
/-- What Frees gives. -/
def freeL (n : Int) (l : List (Int × Int)) : List (Int × Int) := if chk n l = 0 then freeOf n (srtL l) else []
theorem runs_len : ∀ (f : Int) (s : List (Int × Int)), (runsOf f s).length ≤ s.length
  | f, [] => Nat.le_refl _
  | f, e :: r => by
    have := runs_len (e.1 + e.2) r
    simp only [runsOf, List.length_append, List.length_cons]
    by_cases h : f < e.1
    · rw [if_pos h]; simp; omega
    · rw [if_neg h]; simp; omega
theorem runs_take {T : List (Int × Int)} {k : Nat} (hk : k < T.length) : runsOf 0 (T.take (k + 1)) = runsOf 0 (T.take k) ++ (if endOf 0 (T.take k) < (T.getD k (0, 0)).1 then [(endOf 0 (T.take k), (T.getD k (0, 0)).1 - endOf 0 (T.take k))] else []) ∧ endOf 0 (T.take (k + 1)) = (T.getD k (0, 0)).1 + (T.getD k (0, 0)).2 := by
  have e : T.getD k (0, 0) = T[k] := by simp [List.getD, hk]
  rw [List.take_succ_eq_append_getElem hk, runsOf_append, endOf_append, e]
  refine ⟨?_, rfl⟩
  show _ ++ (_ ++ []) = _
  rw [List.append_nil]
theorem end_small {T : List (Int × Int)} (hT : ∀ e ∈ T, (0 ≤ e.1 ∧ 0 ≤ e.2) ∧ e.1 + e.2 ≤ 6400) : ∀ k, 0 ≤ endOf 0 (T.take k) ∧ endOf 0 (T.take k) ≤ 6400 := by
  have : ∀ (s : List (Int × Int)) (f : Int), 0 ≤ f → f ≤ 6400 → (∀ e ∈ s, (0 ≤ e.1 ∧ 0 ≤ e.2) ∧ e.1 + e.2 ≤ 6400) → 0 ≤ endOf f s ∧ endOf f s ≤ 6400 := by
    intro s
    induction s with
    | nil => intro f h1 h2 _; exact ⟨h1, h2⟩
    | cons e r ih => intro f _ _ h; have := h e (by simp); exact ih _ (by omega) (by omega) (fun x hx => h x (by simp [hx]))
  intro k
  exact this _ 0 (by omega) (by omega) (fun e he => hT e (List.mem_of_mem_take he))
theorem ex_news (w : World) (x y : Value) (t : TypeId) : ∀ j u, [x, y][j]? = some u → (w.alloc (.cells #[x, y] t)).cell? ((⟨w.heap.size, 0, none⟩ : Addr).add j) = some u := by
  intro j u hj
  rw [addr_add, cell_of_row _ _ _ _ _ (0, 0) (heap_alloc_new w _)]
  match j, hj with
  | 0, hj => simp at hj; subst hj; rfl
  | 1, hj => simp at hj; subst hj; rfl
theorem ex_news2 (w : World) (o : Obj) (x y : Value) (t : TypeId) : ∀ j u, [x, y][j]? = some u → ((w.alloc o).alloc (.cells #[x, y] t)).cell? ((⟨w.heap.size + 1, 0, none⟩ : Addr).add j) = some u := by
  have := ex_news (w.alloc o) x y t
  rw [show (w.alloc o).heap.size = w.heap.size + 1 by simp] at this
  exact this
theorem ex_one (x y : Int) : ∀ u ∈ [Value.int .i64 x, Value.int .i64 y], u.oneCell' = true := flat_one [(x, y)]
theorem ExO.more {w w' : World} {B : Nat} {v v' : Value} {l : List (Int × Int)} {x y : Int} (h : w'.ownsRow B 45 2 v' (l.length + 1) (l.flatMap exC ++ [.int .i64 x, .int .i64 y])) : ExO w' B v' (l ++ [(x, y)]) := by
  unfold ExO
  rw [List.length_append, List.flatMap_append]
  exact h
theorem ExO.block {w : World} {B : Nat} {v : Value} {l : List (Int × Int)} (h : ExO w B v l) : ∀ k, v.ownBlock = some k → B ≤ k ∧ k < w.heap.size := World.ownsRow.lt h

theorem frees_bad (n : Int) (a : Option Addr) (cap : Nat) (l : List (Int × Int)) (w : World) (hl : Exs w a cap l) (hc : chk n l ≠ 0) :
    Calls Tryz.prog 36 #[.int .i64 n, .slice a l.length cap] w fun e w' => e = .returned (.tuple #[.slice none 0 0, errV (chk n l)]) ∧ Below w.heap.size w w' := by
  have HC := hide (check_all n a cap l w hl)
  rw [errV_pos _ hc] at HC ⊢
  generalize chk n l = c at *
  generalize l.length = N at *
  clear hl hc
  go_enter Tryz.func36, Tryz.ntmps36
  go_wp2_with fail
  refine (unhide HC).mono ?_
  rintro e w1 ⟨rfl, hb⟩
  go_wp2
  go_ret2
  exact ⟨rfl, hb⟩

set_option maxHeartbeats 2000000 in
theorem frees_go (n : Int) (a : Option Addr) (cap : Nat) (l : List (Int × Int)) (w : World) (hl : Exs w a cap l) (hc : chk n l = 0) :
    Calls Tryz.prog 36 #[.int .i64 n, .slice a l.length cap] w fun e w' => ∃ v, e = .returned (.tuple #[v, .nilIface]) ∧ ExO w' w.heap.size v (freeOf n (srtL l)) ∧ Below w.heap.size w w' := by
  obtain ⟨i0, hi0, hz0, hz1, hz2⟩ := info_parts info_ex
  have hck := check_all n a cap l w hl
  rw [hc, errV_zero] at hck
  obtain ⟨h0, h1, h2, hg⟩ := chk_zero.1 hc
  have HC := hide hck
  have HL := hide hl
  have HG := hide hg
  clear hck hl hc hg
  go_enter Tryz.func36, Tryz.ntmps36
  go_wp2_with fail
  refine (unhide HC).mono ?_
  rintro e w1 ⟨rfl, hb1⟩
  have HR := hide (rising_any a cap l w1 ((unhide HL).below hb1))
  have HB1 := hide hb1
  clear hb1 HC
  go_wp2_with fail
  refine (unhide HR).mono ?_
  rintro e w2 ⟨vs, s, rfl, hp, hs, ho, hb2⟩
  have hse := (unhide HG).srt_eq hp hs
  subst hse
  have hlen : (YtcppejlcjooliaaGreatDoor.srtL l).length ≤ 200 := by rw [hp.length_eq]; exact h2
  have hgs := (unhide HG).perm hp
  have HB2 := hide ((unhide HB1).trans (hb2.mono (unhide HB1).size))
  have hb2s := hb2.size
  have hb1s := (unhide HB1).size
  have ho2 : (w2.alloc (.cells #[.int .i64 n, .int .i64 0] 45)).ownsRow w1.heap.size 45 2 vs (YtcppejlcjooliaaGreatDoor.srtL l).length ((YtcppejlcjooliaaGreatDoor.srtL l).flatMap exC) := World.ownsRow.alloc ho _
  have HGS := hide hgs
  have HO := hide ho2
  have HOW := hide ho.block
  clear ho ho2 hp hs hb2 HB1 hgs HR
  generalize hgen : YtcppejlcjooliaaGreatDoor.srtL l = s at *
  have HGEN := hide hgen
  clear hgen
  go_wp2_with (at_builtin; refine wpList_append_own _ rfl _ _ 63 rfl w1.heap.size 45 i0 (.agg #[.int .i64 0, .int .i64 0]) 2 16 Tryz.underlying63 hi0 hz0 hz1 hz2 rfl (by decide) _ _ _ rfl (unhide HO) ⟨w2.heap.size, 0, none⟩ 1 1 [.int .i64 n, .int .i64 0] rfl rfl (ex_news _ _ _ _) (ex_one _ _) (by unfold maxLen; omega) (by omega) (by simp; omega) ?_)
  intro vt w3 hown3 hgrow3 hnil3
  have ho3 : ExO w3 w1.heap.size vt (s ++ [(n, 0)]) := ExO.more (w := w2) (v := vs) hown3
  have HB3 : Hid (Below w.heap.size w w3) := hide ((((unhide HB2).alloc (unhide HB2).size _)).grown hgrow3 (by simp; omega) (fun k hk => by have := (unhide HOW k hk).1; omega))
  have hT : ∀ e ∈ s ++ [(n, 0)], (0 ≤ e.1 ∧ 0 ≤ e.2) ∧ e.1 + e.2 ≤ 6400 := fun e he => by
    rcases List.mem_append.1 he with he | he
    · have := (unhide HGS).all e he; omega
    · rw [List.mem_singleton.1 he]; dsimp only; omega
  have hTl : (s ++ [(n, 0)]).length ≤ 201 := by rw [List.length_append]; simp; omega
  obtain ⟨at', ct, rfl, hTx⟩ := ho3.exs (fun e he => by have := hT e he; unfold InI; omega) (by omega)
  have hne : s ++ [(n, 0)] ≠ [] := by simp
  obtain ⟨bt, ot, rfl, hcell⟩ := hTx.2.2.2 hne
  have hbt := block_lt_of_cell (hcell 0 (by simp)).1
  dsimp only at hbt
  have HCELL := hide hcell
  have HT := hide hT
  have hfr : freeOf n s = runsOf 0 ((s ++ [(n, 0)]).take (s ++ [(n, 0)]).length) := by rw [List.take_length]; rfl
  have HFR := hide hfr
  rw [show (s.length : Nat) + 1 = (s ++ [(n, 0)]).length by simp] at *
  clear hcell hTx ho3 hown3 hgrow3 hnil3 hT HO HOW HGS HB2 hfr hne
  generalize s ++ [(n, 0)] = T at *
  go_wp2_with fail
  go_loopw [7, 8, 24] (fun rv0 fv cv wr => ∃ (k : Nat) (rv : Value), rv = rv0 ∧ k ≤ T.length ∧ cv = .int .i64 k ∧ fv = .int .i64 (endOf 0 (T.take k)) ∧ ExO wr w3.heap.size rv (runsOf 0 (T.take k)) ∧ Below w3.heap.size w3 wr) (fun _ _ cv _ => T.length - (intOf cv).toNat)
  case atStart => exact ⟨0, _, rfl, Nat.zero_le _, rfl, rfl, ExO.nil _ _, Below.refl _ _⟩
  case round =>
    obtain ⟨k, rv, hrv, hk, rfl, rfl, hown, hbel⟩ := hrel
    subst hrv
    by_cases hlt : k < T.length
    · obtain ⟨c0, c1⟩ := unhide HCELL k hlt
      rw [← hbel.cell (p := ⟨bt, ot + k * 2, none⟩) hbt] at c0
      rw [← hbel.cell (p := ⟨bt, ot + k * 2 + 1, none⟩) hbt] at c1
      obtain ⟨r1, r2⟩ := runs_take hlt
      obtain ⟨f1, f2⟩ := end_small (unhide HT) k
      have hrl : (runsOf 0 (T.take k)).length ≤ 201 := Nat.le_trans (runs_len _ _) (by simp; omega)
      have hmem : T.getD k (0, 0) ∈ T := by
        have : T.getD k (0, 0) = T[k] := by simp [List.getD, hlt]
        rw [this]; exact List.getElem_mem hlt
      have hTk := unhide HT _ hmem
      have hblk := hown.block
      have hs3 := hbel.size
      generalize T.getD k (0, 0) = e at *
      generalize endOf 0 (T.take k) = f at *
      obtain ⟨x, y⟩ := e
      dsimp only at *
      obtain ⟨⟨t1, t2⟩, t3⟩ := hTk
      have hsm : Sm (x, y) := by unfold Sm; dsimp only; omega
      by_cases hfx : f < x
      · rw [if_pos hfx] at r1
        have HR1 := hide r1
        have HR2 := hide r2
        have hlt2 := Nat.lt_of_lt_of_le hbt hs3
        have ho1 : ((wr.alloc (.cells #[.int .i64 x, .int .i64 y] 45)).alloc (.cells #[.int .i64 f, .int .i64 (x - f)] 45)).ownsRow w3.heap.size 45 2 rv (runsOf 0 (T.take k)).length ((runsOf 0 (T.take k)).flatMap exC) := World.ownsRow.alloc (World.ownsRow.alloc hown _) _
        have HO1 := hide ho1
        have HBEL := hide hbel
        have HBLK := hide hblk
        clear ho1 hown hbel r1 r2 hblk hmem
        generalize hrun : runsOf 0 (T.take k) = rr at *
        have HRUN := hide hrun
        clear hrun
        go_wp2_with (at_builtin; refine wpList_append_own _ rfl _ _ 63 rfl w3.heap.size 45 i0 (.agg #[.int .i64 0, .int .i64 0]) 2 16 Tryz.underlying63 hi0 hz0 hz1 hz2 rfl (by decide) _ _ _ rfl (unhide HO1) ⟨wr.heap.size + 1, 0, none⟩ 1 1 [.int .i64 f, .int .i64 (x - f)] rfl rfl (ex_news2 _ _ _ _ _) (ex_one _ _) (by unfold maxLen; omega) (by omega) (by simp; omega) ?_)
        intro v' w' hown' hgrow' hn'
        have ho' : ExO w' w3.heap.size v' (rr ++ [(f, x - f)]) := ExO.more (w := wr) (v := rv) hown'
        have hb' : Below w3.heap.size w3 w' := (((unhide HBEL).alloc hs3 _).alloc (by simp; omega) _).grown hgrow' (by simp; omega) (fun j hj => (unhide HBLK j hj).1)
        have hnb : some wr.heap.size ≠ rv.ownBlock := fun e => by have := (unhide HBLK _ e.symm).2; omega
        have d0 : w'.cell? ⟨wr.heap.size, 0, none⟩ = some (.int .i64 x) := hgrow'.cell (a := ⟨wr.heap.size, 0, none⟩) (by rw [World.cell?_alloc_lt _ _ ⟨wr.heap.size, 0, none⟩ (by simp), cell_of_row _ _ _ _ _ (0, 0) (heap_alloc_new wr _)]; rfl) hnb
        have d1 : w'.cell? ⟨wr.heap.size, 1, none⟩ = some (.int .i64 y) := hgrow'.cell (a := ⟨wr.heap.size, 1, none⟩) (by rw [World.cell?_alloc_lt _ _ ⟨wr.heap.size, 1, none⟩ (by simp), cell_of_row _ _ _ _ _ (0, 0) (heap_alloc_new wr _)]; rfl) hnb
        have HBH := hide (behind_any (x, y) w' hsm)
        have HO' := hide ho'
        have HB' := hide hb'
        clear hown' hgrow' hn' ho' hb' hnb c0 c1 HO1
        go_wp2_with fail
        refine (unhide HBH).mono ?_
        rintro e w5 ⟨rfl, hb5⟩
        have HO5 := hide ((unhide HO').below hb5)
        have HB5 := hide ((unhide HB').trans (hb5.mono (unhide HB').size))
        clear hb5 d0 d1
        go_wp2
        go_roundw
        case rel => exact ⟨k + 1, _, rfl, by omega, by go_num, by rw [unhide HR2], by rw [unhide HR1]; exact unhide HO5, unhide HB5⟩
        case measure => simp [intOf]; omega
      · rw [if_neg hfx, List.append_nil] at r1
        have HR1 := hide r1
        have HR2 := hide r2
        have hb1 : Below w3.heap.size w3 (wr.alloc (.cells #[.int .i64 x, .int .i64 y] 45)) := hbel.alloc hs3 _
        have ho1 : ExO (wr.alloc (.cells #[.int .i64 x, .int .i64 y] 45)) w3.heap.size rv (runsOf 0 (T.take k)) := World.ownsRow.alloc hown _
        have HBH := hide (behind_any (x, y) (wr.alloc (.cells #[.int .i64 x, .int .i64 y] 45)) hsm)
        have HO1 := hide ho1
        have HBEL := hide hb1
        clear ho1 hown hbel r1 r2 hblk hmem hb1
        go_wp2_with fail
        refine (unhide HBH).mono ?_
        rintro e w5 ⟨rfl, hb5⟩
        have HO5 := hide ((unhide HO1).below hb5)
        have HB5 := hide ((unhide HBEL).trans (hb5.mono (unhide HBEL).size))
        clear hb5
        go_wp2
        go_roundw
        case rel => exact ⟨k + 1, _, rfl, by omega, by go_num, by rw [unhide HR2], by rw [unhide HR1]; exact unhide HO5, unhide HB5⟩
        case measure => simp [intOf]; omega
    · obtain rfl : k = T.length := by omega
      rw [← unhide HFR, ← unhide HGEN] at hown
      have HF := hide hown
      have HBF := hide ((unhide HB3).trans (hbel.mono (unhide HB3).size))
      have hs3 := (unhide HB3).size
      clear hown hbel
      go_wp2
      go_ret2
      exact ⟨_, rfl, (unhide HF).base hs3, unhide HBF⟩

theorem frees_any (n : Int) (a : Option Addr) (cap : Nat) (l : List (Int × Int)) (w : World) (hl : Exs w a cap l) :
    Calls Tryz.prog 36 #[.int .i64 n, .slice a l.length cap] w fun e w' => ∃ v, e = .returned (.tuple #[v, errV (chk n l)]) ∧ ExO w' w.heap.size v (freeL n l) ∧ Below w.heap.size w w' := by
  unfold freeL
  by_cases hc : chk n l = 0
  · rw [if_pos hc]
    exact (frees_go n a cap l w hl hc).mono fun e w' ⟨v, he, h1, h2⟩ => ⟨v, by rw [he, hc]; rfl, h1, h2⟩
  · rw [if_neg hc]
    exact (frees_bad n a cap l w hl hc).mono fun e w' ⟨he, h2⟩ => ⟨_, he, ExO.nil _ _, h2⟩
end Go.Proofs.YtcppejlcjooliaaGreatDoor
