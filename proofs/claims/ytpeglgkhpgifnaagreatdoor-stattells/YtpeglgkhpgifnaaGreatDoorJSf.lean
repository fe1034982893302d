/-
  Joined by program: SfA; SfB; SfC. (Parts of the proofs over the packages of the program.)
-/
import Derived.Test.YtpeglgkhpgifnaaGreatDoorJHq
import Derived.Test.YtpeglgkhpgifnaaGreatDoorJHp
import Derived.Test.YtpeglgkhpgifnaaGreatDoorJEy
import Derived.Test.YtpeglgkhpgifnaaGreatDoorJSfp
import Derived.Test.YtpeglgkhpgifnaaGreatDoorJIn
import Derived.Test.YtpeglgkhpgifnaaGreatDoorJRa
import Derived.Test.YtpeglgkhpgifnaaGreatDoorJHal
import Derived.RegionTactic
import Derived.ChangeAlike
import Derived.BigRegion
import Derived.Test.YtpeglgkhpgifnaaGreatDoorJCi
import Derived.Test.YtpeglgkhpgifnaaGreatDoorJOi
/-! Contracts of package stat: what is taken, Heap, Loose. (Part of the proofs over package stat.) -/
namespace Go.Proofs.YtpeglgkhpgifnaaGreatDoor
open Go.RowKit Go.Sort
set_option linter.unusedVariables false

set_option maxHeartbeats 2000000 in
theorem sfTaken_any (a : Option Addr) (cap : Nat) (l : List (Int × Int × Int × Int)) (w : World) (hs : Sls enC 4 w a cap l) (hl : l.length ≤ 40) (hin : ∀ e ∈ l, 0 ≤ e.2.1 ∧ e.2.1 ≤ 65535 ∧ 0 ≤ e.2.2.1 ∧ e.2.2.1 ≤ 65535) :
    Calls Tryz.prog 22 #[.slice a l.length cap] w fun e w' => ∃ v, e = .returned v ∧ Lst exC 2 45 w' w.heap.size v (l.map shE) ∧ Below w.heap.size w w' := by
  obtain ⟨i0, hi0, hz0, hz1, hz2⟩ := info_parts info_exH
  have hcap := hs.2.2.1
  have HS := hide hs
  have HIN := hide hin
  clear hs hin
  go_enter Tryz.func22, Tryz.ntmps22
  go_wp2_with fail
  go_loopw [3, 8] (fun v iv wr => ∃ k : Nat, k ≤ l.length ∧ iv = .int .i64 k ∧ Lst exC 2 45 wr w.heap.size v ((l.map shE).take k) ∧ Below w.heap.size w wr) (fun _ iv _ => l.length - (intOf iv).toNat)
  case atStart => exact ⟨0, Nat.zero_le _, rfl, Lst.nil _ _, Below.refl _ _⟩
  case round =>
    obtain ⟨k, hk, rfl, hown, hbel⟩ := hrel
    obtain ⟨va, vm, vc, rfl⟩ := hown.shape
    by_cases hlt : k < l.length
    · have hne : l ≠ [] := by intro e; rw [e] at hlt; simp at hlt
      obtain ⟨b1, o1, rfl, hc1⟩ := ((unhide HS).below hbel).2.2.2 hne
      obtain ⟨f, hf⟩ : ∃ f, l[k]? = some f := ⟨l[k], List.getElem?_eq_getElem hlt⟩
      obtain ⟨q0, q1, q2, q3⟩ := Sls.ent (cap := 0) hc1 hf
      have HT := hide (sh_take hf)
      have hfi := unhide HIN f (List.mem_of_getElem? hf)
      have hml : ((l.map shE).take k).length ≤ 40 := by simp; omega
      obtain ⟨x, y, z, t⟩ := f
      dsimp only at *
      have hB1 := hbel.alloc hbel.size (.cells #[.int .i64 x, .int .i64 y, .int .i64 z, .int .i64 t] 47)
      have HB3 := hide (hB1.alloc hB1.size (.cells #[.int .i64 (y - 288), .int .i64 z] 45))
      have HO3 := hide ((hown.below ((Below.refl _ _).alloc (Nat.le_refl _) (.cells #[.int .i64 x, .int .i64 y, .int .i64 z, .int .i64 t] 47))).below ((Below.refl _ _).alloc (Nat.le_refl _) (.cells #[.int .i64 (y - 288), .int .i64 z] 45)))
      have HGN : Hid (((wr.alloc (.cells #[.int .i64 x, .int .i64 y, .int .i64 z, .int .i64 t] 47)).alloc (.cells #[.int .i64 (y - 288), .int .i64 z] 45)).heap[wr.heap.size + 1]? = some (.cells (exC (y - 288, z)).toArray 45 (0, 0))) := hide (by
        have := heap_alloc_new (wr.alloc (.cells #[.int .i64 x, .int .i64 y, .int .i64 z, .int .i64 t] 47)) (.cells #[.int .i64 (y - 288), .int .i64 z] 45)
        rw [sz_alloc] at this
        exact this)
      have hsz := hbel.size
      clear hc1 hf hne hbel hB1 hown
      go_wp2_with (at_builtin; refine wpList_append_lst rfl _ _ 30 rfl w.heap.size i0 (.agg #[.int .i64 0, .int .i64 0]) 16 Tryz.underlying30 hi0 hz0 hz1 hz2 rfl (by decide) (by decide) _ _ rfl (unhide HO3) (wr.heap.size + 1) (y - 288, z) rfl (unhide HGN) rfl (exC_one _) (by omega) (by simp; omega) ?_)
      intro v9 w9 hown9 hbel9
      rw [← unhide HT] at hown9
      have HO9 := hide hown9
      have HB9 := hide ((unhide HB3).trans hbel9)
      obtain ⟨a9, m9, c9, rfl⟩ := hown9.shape
      clear hown9 hbel9 HO3 HB3 HGN q0 q1 q2 q3
      go_wp2
      go_roundw
      case rel => exact ⟨k + 1, by omega, by go_num, unhide HO9, unhide HB9⟩
      case measure => simp [intOf]; omega
    · obtain rfl : k = l.length := by omega
      rw [List.take_of_length_le (by simp)] at hown
      have HO := hide hown
      have HB := hide hbel
      clear hown hbel
      go_wp2
      go_ret
      exact ⟨_, rfl, unhide HO, unhide HB⟩
theorem sf_in {L : List Int} (hf : Fine L) : ∀ e ∈ takeL L, InI e := fun e he => by
  have hl := hf.len
  obtain ⟨h, h1, h2, h3, rfl⟩ := mem_takeL.1 he
  have := hf.ent h1 h2 h3
  unfold InI shE
  dsimp only
  omega
section
variable {w : World} {B p g c : Nat} {L : List Int} {O U F M R : Int}
set_option maxRecDepth 100000 in
set_option maxHeartbeats 1000000 in
theorem sfHeap_any (h : Hp w B p g c L) (s : Sta L O U F M R) :
    Calls Tryz.prog 7 #[.pointer (some ⟨p, 0, none⟩)] w fun e w' => e = .returned (.tuple #[.agg #[.int .i64 O, .int .i64 U, .int .i64 F, .int .i64 M, .int .i64 R], .nilIface]) ∧ Below w.heap.size w w' := by
  have hb0 : Below w.heap.size w (w.alloc (.cells #[.int .i64 0, .int .i64 0, .int .i64 0, .int .i64 0, .int .i64 0] 28)) := (Below.refl _ _).alloc (Nat.le_refl _) _
  have HB := hide (hBytes_any p g c B L _ (h.below hb0))
  have HS0 := hide (StB.new w 0 0 0 0 0)
  have HB0 := hide hb0
  have hf := h.fine
  have hbyt := h.byt
  have hlen := h.len
  have hel := entsK_len L 40
  have htl := takeL_len L
  have hch := take_chk hf
  have HE := hide (fun (W : World) (a : Option Addr) (cap : Nat) (hbs : Bs W a cap L) => iEnts_yes a cap L W hbs hf.len0)
  have HT := hide (fun (W : World) (a : Option Addr) (cap : Nat) (hs : Sls enC 4 W a cap (entsK L 40)) => sfTaken_any a cap (entsK L 40) W hs hel (ents_in hf))
  have HIN := hide (sf_in hf)
  have hst : stT ((L.length : Int) - 288) (takeL L) = (O, U, F, M, R) := by unfold stT; rw [if_pos hch, s.o, s.u, s.f, s.m, s.r]
  have HS := hide (fun (W : World) (a : Option Addr) (cap : Nat) (hx : Exs W a cap (takeL L)) => stat_any ((L.length : Int) - 288) a cap (takeL L) W hx _ _ _ _ _ hst)
  rw [hch, errV_zero] at HS
  change Hid (∀ (W : World) (a : Option Addr) (cap : Nat), Sls enC 4 W a cap (entsK L 40) → Calls Tryz.prog 22 #[.slice a (entsK L 40).length cap] W fun e w' => ∃ v, e = .returned v ∧ Lst exC 2 45 w' W.heap.size v (takeL L) ∧ Below W.heap.size W w') at HT
  have HBY := hide hbyt
  clear h hf hbyt hch hst s hb0
  generalize entsK L 40 = EN at *
  generalize takeL L = TL at *
  generalize hN : L.length = N at *
  have HN := hide hN
  clear hN
  go_enter Tryz.func7, Tryz.ntmps7
  go_wp2_with fail
  refine (unhide HB).mono ?_
  rintro e w1 ⟨a1, c1, rfl, ho1, hb1⟩
  obtain ⟨a1', c1', e1, hbs1⟩ := ho1.bs (unhide HBY) (by rw [unhide HN]; omega)
  rw [unhide HN] at e1
  simp only [Value.slice.injEq, true_and] at e1
  obtain ⟨rfl, rfl⟩ := e1
  have HE1 := hide (unhide HE w1 a1 c1 hbs1)
  have HS1 := hide ((unhide HS0).below hb1 (by simp))
  have HB1 := hide ((unhide HB0).trans (hb1.mono (by simp)))
  clear ho1 hb1 hbs1 HB HE HS0 HB0
  go_wp2_with fail
  refine (unhide HE1).mono ?_
  rintro e w2 ⟨v2, rfl, ho2, hb2⟩
  obtain ⟨a2, c2, rfl, hs2⟩ := ho2.sls enC_len (by omega)
  have HT2 := hide (unhide HT w2 a2 c2 hs2)
  have HS2 := hide ((unhide HS1).below hb2 (unhide HS1).lt)
  have HB2 := hide ((unhide HB1).trans (hb2.mono (unhide HB1).size))
  clear ho2 hs2 hb2 HE1 HT HB1 HS1
  go_wp2_with fail
  refine (unhide HT2).mono ?_
  rintro e w3 ⟨v3, rfl, ho3, hb3⟩
  have ho3' : ExO w3 w2.heap.size v3 TL := ho3
  obtain ⟨a3, c3, rfl, hx3⟩ := ho3'.exs (unhide HIN) (by omega)
  have HC3 := hide (unhide HS w3 a3 c3 hx3)
  have HS3 := hide ((unhide HS2).below hb3 (unhide HS2).lt)
  have HB3 := hide ((unhide HB2).trans (hb3.mono (unhide HB2).size))
  clear ho3 ho3' hx3 hb3 HT2 HS HB2 HIN HS2
  go_wp2_with fail
  refine (unhide HC3).mono ?_
  rintro e w4 ⟨rfl, hb4⟩
  have hs4 := (unhide HS3).below hb4 (unhide HS3).lt
  obtain ⟨c0, c1, c2, c3, c4⟩ := hs4.cells
  have f0 := hs4.fr 0
  have f1 := hs4.fr 1
  have f2 := hs4.fr 2
  have f3 := hs4.fr 3
  have f4 := hs4.fr 4
  have HS4 := hide hs4
  have HB4 := hide ((unhide HB3).trans (hb4.mono (unhide HB3).size))
  clear hb4 hs4 HC3 HS3 HB3
  go_wp2
  refine bodyPost_ret (results_stat Tryz.results7 _ _ w.heap.size _ _ _ _ _ rfl ((unhide HS4).setAll O U F M R)) rfl ?_
  exact ⟨rfl, (((((unhide HB4).setCell (Nat.le_refl _) _).setCell (Nat.le_refl _) _).setCell (Nat.le_refl _) _).setCell (Nat.le_refl _) _).setCell (Nat.le_refl _) _⟩
theorem ls_div {F M : Int} (h0 : 0 ≤ M) (h1 : M ≤ F) (h2 : F ≤ 100000) (h3 : F ≠ 0) (h4 : 1 ≤ M) : Int.tdiv (100 * (F - M)) F = lsN F M ∧ IntKind.i64.wrap (lsN F M) = lsN F M := by
  have := ls_in h0 h1 (fun _ => h4)
  refine ⟨?_, by rw [IntKind.wrap_i64]; omega⟩
  unfold lsN
  rw [if_neg h3, Int.tdiv_eq_ediv_of_nonneg (by omega)]
set_option maxRecDepth 100000 in
set_option maxHeartbeats 1000000 in
theorem sfLoose_any (h : Hp w B p g c L) (s : Sta L O U F M R) :
    Calls Tryz.prog 11 #[.pointer (some ⟨p, 0, none⟩)] w fun e w' => e = .returned (.tuple #[.int .i64 (lsN F M), .nilIface]) ∧ Below w.heap.size w w' := by
  have HC := hide (sfHeap_any h s)
  obtain ⟨s1, s2, s3, s4, s5, s6, s7, s8, s9, s10⟩ := s.sums h.fine
  have hlen := h.len
  clear h s
  by_cases hF : F = 0
  · subst hF
    have hl : lsN 0 M = 0 := by unfold lsN; rw [if_pos rfl]
    rw [hl]
    go_enter Tryz.func11, Tryz.ntmps11
    go_wp2_with fail
    refine (unhide HC).mono ?_
    rintro e w1 ⟨rfl, hb1⟩
    have HB1 := hide (hb1.alloc hb1.size (.cells #[.int .i64 O, .int .i64 U, .int .i64 0, .int .i64 M, .int .i64 R] 28))
    clear hb1 HC s1 s2 s3 s4 s5 s6 s7 s8 s9 s10
    go_wp2
    go_ret2
    exact ⟨rfl, unhide HB1⟩
  · have hF' : (F == 0) = false := by rw [beq_eq_false_iff_ne]; exact hF
    obtain ⟨d1, d2⟩ := ls_div s3 s4 (by omega) hF (s10 (by omega))
    have hFp : 0 < F := by omega
    have hF6 : F ≤ 6400 := by omega
    go_enter Tryz.func11, Tryz.ntmps11
    go_wp2_with fail
    refine (unhide HC).mono ?_
    rintro e w1 ⟨rfl, hb1⟩
    have HB1 := hide (hb1.alloc hb1.size (.cells #[.int .i64 O, .int .i64 U, .int .i64 F, .int .i64 M, .int .i64 R] 28))
    clear hb1 HC s1 s2 s5 s6 s7 s8 s9 s10 hlen
    go_wp2
    go_ret2
    exact ⟨rfl, unhide HB1⟩
end
end Go.Proofs.YtpeglgkhpgifnaaGreatDoor
/-! Contracts of package stat: ByTag. (Part of the proofs over package stat.) -/
namespace Go.Proofs.YtpeglgkhpgifnaaGreatDoor
open Go.RowKit Go.Sort
set_option linter.unusedVariables false

theorem Sls.turnN {α : Type} {enc : α → List Value} {k : Nat} {w w' : World} {a : Option Addr} {cap : Nat} {l : List α} (h : Sls enc k w a cap l) (hk : ∀ x, (enc x).length = k) (k0 : 0 < k) {S S' : Nat → Prop} (ht : Turn S S' w w') (hn : ∀ x, a = some x → l ≠ [] → ¬ S x.block) : Sls enc k w' a cap l := by
  refine ⟨h.1, h.2.1, h.2.2.1, fun hne => ?_⟩
  obtain ⟨b, off, rfl, hc⟩ := h.2.2.2 hne
  refine ⟨b, off, rfl, fun i x hx j u hu => ?_⟩
  have h6 := hc i x hx j u hu
  rw [← h6]
  exact World.cell?_of_block (a := ⟨b, off + i * k + j, none⟩) (ht.block b (block_lt_of_cell h6) (hn _ rfl hne))
section
variable {w : World} {B p g c : Nat} {L : List Int}
set_option maxRecDepth 100000 in
set_option maxHeartbeats 4000000 in
theorem sfTag_any (h : Hp w B p g c L) :
    Calls Tryz.prog 14 #[.pointer (some ⟨p, 0, none⟩)] w fun e w' => ∃ q, e = .returned (.slice (some ⟨q, 0, none⟩) 16 16) ∧ w.heap.size ≤ q ∧ WtB w' q (tgL L) ∧ Below w.heap.size w w' := by
  obtain ⟨i1, hi1, hy0, hy1, hy2⟩ := info_parts (show (Tryz.prog.info? 3).map (fun i => (i.zero, i.size, i.bytes)) = some (some (.int .i64 0), 1, 8) by kernel_rfl)
  have hf := h.fine
  have hlen := h.len
  have hel := entsK_len L 40
  have HH := hide h
  have HBY := hide h.byt
  have HE := hide (fun (W : World) (a : Option Addr) (cap : Nat) (hbs : Bs W a cap L) => iEnts_yes a cap L W hbs hf.len0)
  have HIN := hide (ents_in hf)
  have HTG := hide (tags_in hf)
  have HR : Hid (tgK (entsK L 40) = tgL L) := hide rfl
  have HB := hide (fun (W : World) (hh : Hp W B p g c L) => hBytes_any p g c B L W hh)
  clear h hf
  generalize tgL L = TG at *
  generalize entsK L 40 = EN at *
  generalize hN : L.length = N at *
  have HN := hide hN
  clear hN
  go_enter Tryz.func14, Tryz.ntmps14
  go_wp2_with (at_make; refine wpList_make_int rfl _ _ 23 rfl i1 Tryz.underlying23 hi1 hy0 hy1 hy2 _ _ _ _ 16 rfl rfl rfl rfl (by omega) ?_; intro w1 hk1 hs1 hb1)
  have HK1 := hide hk1
  have HB1 := hide hb1
  have HC1 := hide (unhide HB w1 ((unhide HH).below hb1))
  have hlt1 : w.heap.size < w1.heap.size := by omega
  clear hk1 hb1 hs1 HB HH
  go_wp2_with fail
  refine (unhide HC1).mono ?_
  rintro e w2 ⟨a2, c2, rfl, ho2, hb2⟩
  obtain ⟨a2', c2', e2, hbs2⟩ := ho2.bs (unhide HBY) (by rw [unhide HN]; omega)
  rw [unhide HN] at e2
  simp only [Value.slice.injEq, true_and] at e2
  obtain ⟨rfl, rfl⟩ := e2
  have HE2 := hide (unhide HE w2 a2 c2 hbs2)
  have HK2 := hide ((unhide HK1).below hb2)
  have HB2 := hide ((unhide HB1).trans (hb2.mono (unhide HB1).size))
  have hlt2 : w.heap.size < w2.heap.size := Nat.lt_of_lt_of_le hlt1 hb2.size
  clear ho2 hbs2 hb2 HC1 HE HK1 HB1 hlt1
  go_wp2_with fail
  refine (unhide HE2).mono ?_
  rintro e w3 ⟨v3, rfl, ho3, hb3⟩
  have hblk := ho3.block
  obtain ⟨a3, c3, rfl, hs3⟩ := ho3.sls enC_len (by omega)
  have HNB : Hid (∀ x, a3 = some x → EN ≠ [] → ¬ (fun k => k = w.heap.size) x.block) := hide (fun x hx hne he => by
    subst hx
    obtain ⟨b, off, e, _⟩ := hs3.2.2.2 hne
    cases e
    have := hblk b (by simp [Value.ownBlock])
    dsimp only at he
    omega)
  have hcap := hs3.2.2.1
  have HS3 := hide hs3
  have HK3 := hide ((unhide HK2).below hb3)
  have HB3 := hide ((unhide HB2).trans (hb3.mono (unhide HB2).size))
  have hlt3 : w.heap.size < w3.heap.size := Nat.lt_of_lt_of_le hlt2 hb3.size
  clear ho3 hs3 hb3 hblk HE2 HK2 HB2 hlt2
  go_wp2_with fail
  go_loopw [17] (fun iv wr => ∃ k : Nat, k ≤ EN.length ∧ iv = .int .i64 k ∧ WtB wr w.heap.size (tgK (EN.take k)) ∧ Turn (fun k => k = w.heap.size) (fun k => k = w.heap.size) w3 wr) (fun iv _ => EN.length - (intOf iv).toNat)
  case atStart => exact ⟨0, Nat.zero_le _, rfl, unhide HK3, Turn.refl _ _⟩
  case round =>
    obtain ⟨k, hk, rfl, hwt, htn⟩ := hrel
    by_cases hlt : k < EN.length
    · have hne : EN ≠ [] := by intro e; rw [e] at hlt; simp at hlt
      obtain ⟨b1, o1, rfl, hc1⟩ := ((unhide HS3).turnN enC_len (by decide) htn (unhide HNB)).2.2.2 hne
      obtain ⟨f, hf⟩ : ∃ f, EN[k]? = some f := ⟨EN[k], List.getElem?_eq_getElem hlt⟩
      obtain ⟨q0, q1, q2, q3⟩ := Sls.ent (cap := 0) hc1 hf
      have HT := hide (tgK_take hf)
      have hfi := unhide HIN f (List.mem_of_getElem? hf)
      have hft := unhide HTG f (List.mem_of_getElem? hf)
      have hbd := tgK_bd (E := EN.take k) (by simp; omega) (fun e he => by have := unhide HIN e (List.mem_of_mem_take he); omega)
      have htl := tgK_len (EN.take k)
      obtain ⟨x, y, z, t⟩ := f
      dsimp only at *
      obtain ⟨t, rfl⟩ := Int.eq_ofNat_of_zero_le hft.1
      have ht16 : t < 16 := by omega
      have hcl := hwt.cell (i := t) (by omega)
      have hfr := hwt.fr t
      have hgd : 0 ≤ (tgK (EN.take k)).getD t 0 ∧ (tgK (EN.take k)).getD t 0 ≤ 2621400 := by
        rw [show (tgK (EN.take k)).getD t 0 = (tgK (EN.take k))[t]'(by omega) by simp [List.getD, htl, ht16]]
        exact hbd _ (List.getElem_mem _)
      have HNX : Hid (tgK (EN.take (k + 1)) = (tgK (EN.take k)).set t ((tgK (EN.take k)).getD t 0 + z)) := hide (by rw [unhide HT]; unfold tgS; rfl)
      have HWT := hide hwt
      have HTN := hide htn
      have hsz := htn.size
      have HTL := hide htl
      clear hc1 hf hne hwt htn hbd htl HT
      generalize hZ : (tgK (EN.take k)).getD t 0 = Z at *
      have HZ := hide hZ
      clear hZ
      have hen := EnB.new wr (x, y, z, (t : Int))
      obtain ⟨_, _, d2, d3⟩ := hen.cells
      dsimp only at d2 d3
      have hba : Below wr.heap.size wr (wr.alloc (.cells #[.int .i64 x, .int .i64 y, .int .i64 z, .int .i64 (t : Int)] 47)) := (Below.refl _ _).alloc (Nat.le_refl _) _
      have hw1 := (unhide HWT).below hba
      have hcl' := hw1.cell (i := t) (by rw [unhide HTL]; exact ht16)
      have hfr' := hw1.fr t
      rw [unhide HZ] at hcl'
      have HW1 := hide hw1
      have HT1 := hide ((unhide HTN).trans (Turn.of_below (S := fun k => k = w.heap.size) hba))
      have ht16' : (t : Int) < 16 := by omega
      have ht0' : (0 : Int) ≤ (t : Int) := by omega
      have hzz : ¬ (9223372036854775807 : Int) < Z + z := by omega
      have hblt : w.heap.size < (wr.alloc (.cells #[.int .i64 x, .int .i64 y, .int .i64 z, .int .i64 (t : Int)] 47)).heap.size := by simp; omega
      have hbne : w.heap.size ≠ wr.heap.size := by omega
      clear hen hba hw1 hcl hfr HWT HTN HTL HZ
      go_wp2_with fail
      generalize wr.alloc (.cells #[.int .i64 x, .int .i64 y, .int .i64 z, .int .i64 (t : Int)] 47) = W at *
      go_region
      have HW2 : Hid (WtB ((W.setCell ⟨w.heap.size, t, none⟩ (.int .i64 (Z + z))).drew) w.heap.size (tgK (EN.take (k + 1)))) := hide (by rw [unhide HNX]; exact (unhide HW1).set t (Z + z))
      have HT2 : Hid (Turn (fun k => k = w.heap.size) (fun k => k = w.heap.size) w3 ((W.setCell ⟨w.heap.size, t, none⟩ (.int .i64 (Z + z))).drew)) := hide (((unhide HT1).trans (Turn.setCell (S := fun k => k = w.heap.size) W (a := ⟨w.heap.size, t, none⟩) (.int .i64 (Z + z)) rfl)).trans (Turn.drew _ _))
      clear HW1 HT1 d2 d3 hcl' hfr' q0 q1 q2 q3
      go_wp2
      go_roundw
      case rel => exact ⟨k + 1, by omega, by go_num, unhide HW2, unhide HT2⟩
      case measure => simp [intOf]; omega
    · obtain rfl : k = EN.length := by omega
      rw [List.take_length, unhide HR] at hwt
      have HW := hide hwt
      have HT := hide htn
      clear hwt htn
      go_wp2
      go_ret
      exact ⟨_, rfl, Nat.le_refl _, unhide HW, (unhide HB3).trans ((unhide HT).below (fun k hk => by omega) (Nat.le_of_lt hlt3))⟩
end
end Go.Proofs.YtpeglgkhpgifnaaGreatDoor
/-! Contracts of package stat: Can. (Part of the proofs over package stat.) -/
namespace Go.Proofs.YtpeglgkhpgifnaaGreatDoor
open Go.RowKit Go.Sort
set_option linter.unusedVariables false

/-- No object may have so many bytes. -/
def noSz (z : Int) : Bool := decide (z < 1 ∨ 1000 < z)
theorem isNo_any (z : Int) (w : World) : Calls Tryz.prog 28 #[.int .i64 z] w fun e w' => e = .returned (.bool (noSz z)) ∧ w = w' := by
  by_cases h1 : z < 1
  · have h : noSz z = true := decide_eq_true (.inl h1)
    rw [h]
    go_enter Tryz.func28, Tryz.ntmps28
    go_wp2
    go_ret
    exact ⟨rfl, rfl⟩
  · by_cases h2 : 1000 < z
    · have h : noSz z = true := decide_eq_true (.inr h2)
      rw [h]
      go_enter Tryz.func28, Tryz.ntmps28
      go_wp2
      go_ret
      exact ⟨rfl, rfl⟩
    · have h : noSz z = false := decide_eq_false (by omega)
      rw [h]
      go_enter Tryz.func28, Tryz.ntmps28
      go_wp2
      go_ret
      exact ⟨rfl, rfl⟩
theorem Is.cellAt {w : World} {a : Option Addr} {cap : Nat} {l : List Int} (h : Is w a cap l) {k : Nat} {z : Int} (hk : l[k]? = some z) : ∃ b off, a = some ⟨b, off, none⟩ ∧ w.cell? ⟨b, off + k, none⟩ = some (.int .i64 z) := by
  have hlt := (List.getElem?_eq_some_iff.1 hk).1
  obtain ⟨b, off, rfl, hc⟩ := h.2.2.2 (by intro e; rw [e] at hlt; simp at hlt)
  refine ⟨b, off, rfl, ?_⟩
  have := hc k hlt
  rw [show l.getD k 0 = z by simp [List.getD, hk]] at this
  exact this
set_option maxHeartbeats 1000000 in
theorem noIndex_any (a : Option Addr) (cap : Nat) (l : List Int) (w : World) (hs : Is w a cap l) :
    Calls Tryz.prog 42 #[.slice a l.length cap, .func (.func 28) #[] #[]] w fun e w' => ∃ i : Int, e = .returned (.int .i64 i) ∧ decide (0 ≤ i) = l.any noSz ∧ w = w' := by
  have hl := hs.2.2.1
  have HS := hide hs
  clear hs
  go_enter Tryz.func42, Tryz.ntmps42
  go_wp2
  go_loopw [5, 8] (fun _ iv wr => ∃ k : Nat, k ≤ l.length ∧ iv = .int .i64 k ∧ (l.take k).any noSz = false ∧ w = wr) (fun _ iv _ => l.length - (intOf iv).toNat)
  case atStart => exact ⟨0, Nat.zero_le _, rfl, rfl, rfl⟩
  case round =>
    obtain ⟨k, hk, rfl, hall, rfl⟩ := hrel
    by_cases hlt : k < l.length
    · obtain ⟨z, hz⟩ : ∃ z, l[k]? = some z := ⟨l[k], List.getElem?_eq_getElem hlt⟩
      obtain ⟨b1, o1, rfl, q0⟩ := (unhide HS).cellAt hz
      have HC := hide (isNo_any z w)
      have htk : l.take (k + 1) = l.take k ++ [z] := by rw [List.take_add_one, hz]; rfl
      have HTK := hide htk
      have HALL := hide hall
      have HMEM := hide (List.mem_of_getElem? hz)
      clear hz hall htk
      cases hx : noSz z
      · have hnew : (l.take (k + 1)).any noSz = false := by rw [unhide HTK, List.any_append, unhide HALL]; simp [hx]
        have HNEW := hide hnew
        rw [hx] at HC
        clear hnew hx
        go_wp2_with (go_at_call 28; refine (unhide HC).mono ?_; rintro e w1 ⟨rfl, hw1⟩; subst hw1)
        go_roundw
        case rel => exact ⟨k + 1, by omega, by go_num, unhide HNEW, trivial⟩
        case measure => simp [intOf]; omega
      · have hnew : l.any noSz = true := List.any_eq_true.2 ⟨_, unhide HMEM, hx⟩
        have HNEW := hide hnew
        rw [hx] at HC
        clear hnew hx
        go_wp2_with (go_at_call 28; refine (unhide HC).mono ?_; rintro e w1 ⟨rfl, hw1⟩; subst hw1)
        go_ret
        exact ⟨k, rfl, by rw [unhide HNEW]; exact decide_eq_true (by omega), rfl⟩
    · obtain rfl : k = l.length := by omega
      rw [List.take_length] at hall
      have HALL := hide hall
      clear hall
      go_wp2
      go_ret
      exact ⟨-1, rfl, by rw [unhide HALL]; rfl, rfl⟩
theorem noCont_any (a : Option Addr) (cap : Nat) (l : List Int) (w : World) (hs : Is w a cap l) :
    Calls Tryz.prog 27 #[.slice a l.length cap, .func (.func 28) #[] #[]] w fun e w' => e = .returned (.bool (l.any noSz)) ∧ w = w' := by
  have HI := hide (noIndex_any a cap l w hs)
  generalize l.any noSz = R at *
  generalize l.length = N at *
  clear hs
  go_enter Tryz.func27, Tryz.ntmps27
  go_wp2_with fail
  refine (unhide HI).mono ?_
  rintro e w1 ⟨i, rfl, hi, hw⟩
  subst hw
  have HR := hide hi
  clear hi HI
  go_wp2
  go_ret
  exact ⟨by rw [← unhide HR]; rfl, rfl⟩
/-- Why Can tells none. -/
def cnE (ns : List Int) : Int := if 200 < ns.length then 4 else if ns.any noSz = true then 1 else 0
section
variable {w : World} {B p g c : Nat} {L : List Int}
set_option maxRecDepth 100000 in
set_option maxHeartbeats 2000000 in
theorem sfCan_any (h : Hp w B p g c L) (a : Option Addr) (cap : Nat) (ns : List Int) (hs : Is w a cap ns) :
    Calls Tryz.prog 9 #[.pointer (some ⟨p, 0, none⟩), .slice a ns.length cap] w fun e w' => e = .returned (.tuple #[.int .i64 (if cnE ns = 0 then (cnN L ns : Int) else 0), errV (cnE ns)]) ∧ Below w.heap.size w w' := by
  have hl := hs.2.2.1
  by_cases h200 : 200 < ns.length
  · have hE : cnE ns = 4 := by unfold cnE; rw [if_pos h200]
    rw [hE, if_neg (by decide), errV_pos 4 (by decide)]
    clear h hs
    go_enter Tryz.func9, Tryz.ntmps9
    go_wp2
    go_ret2
    exact ⟨rfl, Below.refl _ _⟩
  have HC := hide (noCont_any a cap ns w hs)
  cases hno : ns.any noSz with
  | true =>
    rw [hno] at HC
    have hE : cnE ns = 1 := by unfold cnE; rw [if_neg h200, if_pos hno]
    rw [hE, if_neg (by decide), errV_pos 1 (by decide)]
    clear h hs hno
    go_enter Tryz.func9, Tryz.ntmps9
    go_wp2_with fail
    refine (unhide HC).mono ?_
    rintro e w1 ⟨rfl, hw⟩
    subst hw
    go_wp2
    go_ret2
    exact ⟨rfl, Below.refl _ _⟩
  | false =>
    rw [hno] at HC
    have hE : cnE ns = 0 := by unfold cnE; rw [if_neg h200, hno]; rfl
    rw [hE, if_pos rfl, errV_zero]
    have HB := hide (hBytes_any p g c B L w h)
    have hf := h.fine
    have hlen := h.len
    have HBY := hide h.byt
    have HLD := hide (fun (W : World) (a1 : Option Addr) (c1 : Nat) (hbs : Bs W a1 c1 L) => hLoad_yes a1 c1 L W hbs hf)
    have HAL := hide (fun (W : World) (p' g' c' B' : Nat) (X : List Int) (n : Int) (hh : Hp W B' p' g' c' X) (hB : B' ≤ W.heap.size) => hAlloc_any p' g' c' B' X n 0 W hh hB)
    have HSP := hide (fun i n hn hi => cn_spec ns L i n hn hi)
    have HTK := hide (fun i n (hn : ns[i]? = some n) => als_take (X := L) hn)
    have H0 : Hid (alsL L (ns.take 0) = L) := hide rfl
    have hcn := cnN_le ns L
    have HS := hide hs
    clear h hs hno hf hE
    generalize cnN L ns = CN at *
    generalize hN : L.length = N at *
    have HN := hide hN
    clear hN
    go_enter Tryz.func9, Tryz.ntmps9
    go_wp2_with fail
    refine (unhide HC).mono ?_
    rintro e w0 ⟨rfl, hw⟩
    subst hw
    clear HC
    go_wp2_with fail
    refine (unhide HB).mono ?_
    rintro e w1 ⟨a1, c1, rfl, ho1, hb1⟩
    obtain ⟨a1', c1', e1, hbs1⟩ := ho1.bs (unhide HBY) (by rw [unhide HN]; omega)
    rw [unhide HN] at e1
    simp only [Value.slice.injEq, true_and] at e1
    obtain ⟨rfl, rfl⟩ := e1
    have HL1 := hide (unhide HLD w1 a1 c1 hbs1)
    have HB1 := hide hb1
    clear ho1 hb1 hbs1 HB HLD
    go_wp2_with fail
    refine (unhide HL1).mono ?_
    rintro e w2 ⟨p2, g2, c2, rfl, hh2, hb2⟩
    have HH2 := hide hh2
    have hB2 := (unhide HB1).trans (hb2.mono (unhide HB1).size)
    have HB2 := hide hB2
    have hsz2 := hb2.size
    have hsz1 := (unhide HB1).size
    clear hh2 hb2 hB2 HL1 HB1
    go_wp2_with fail
    go_loopw [30] (fun iv wr => ∃ (k g' c' : Nat), k ≤ CN ∧ iv = .int .i64 k ∧ Hp wr w1.heap.size p2 g' c' (alsL L (ns.take k)) ∧ Turn (foot p2 g2) (foot p2 g') w2 wr) (fun iv _ => ns.length - (intOf iv).toNat)
    case atStart => exact ⟨0, g2, c2, Nat.zero_le _, rfl, by rw [unhide H0]; exact unhide HH2, Turn.refl _ _⟩
    case round =>
      obtain ⟨k, g', c', hk, rfl, hh, ht⟩ := hrel
      have hbel : Below w1.heap.size w2 wr := ht.below (unhide HH2).foot_ge hsz2
      have hbw : Below w.heap.size w wr := (unhide HB2).trans (hbel.mono hsz1)
      by_cases hlt : k < ns.length
      · obtain ⟨z, hz⟩ : ∃ z, ns[k]? = some z := ⟨ns[k], List.getElem?_eq_getElem hlt⟩
        obtain ⟨b1, o1, ha, q0⟩ := ((unhide HS).below hbw).cellAt hz
        have HA := hide (unhide HAL wr p2 g' c' w1.heap.size _ z hh (Nat.le_trans hsz2 ht.size))
        have HSPk := hide (unhide HSP k z hz hk)
        have HTKk := hide (unhide HTK k z hz)
        have HT := hide ht
        have HBW := hide hbw
        subst ha
        clear hh ht hbel hbw hz HSP HTK HAL
        generalize alsL L (ns.take k) = X0 at *
        by_cases h0 : alE X0 z 0 = 0
        · have hkc := (unhide HSPk).1 h0
          rw [h0, errV_zero] at HA
          go_wp2_with fail
          refine (unhide HA).mono ?_
          rintro e w3 ⟨rfl, g3, c3, hh3, ht3⟩
          rw [← unhide HTKk] at hh3
          have HH3 := hide hh3
          have HT3 := hide ((unhide HT).trans ht3)
          clear hh3 ht3 HA HT
          go_wp2
          go_roundw
          case rel => exact ⟨k + 1, g3, c3, by omega, by go_num, unhide HH3, unhide HT3⟩
          case measure => simp [intOf]; omega
        · have HKC : Hid (k = CN) := hide (by
            have h1 := mt (unhide HSPk).2 h0
            omega)
          rw [errV_pos _ h0] at HA
          generalize alE X0 z 0 = E0 at *
          generalize alH X0 z 0 = HH0 at *
          go_wp2_with fail
          refine (unhide HA).mono ?_
          rintro e w3 ⟨rfl, g3, c3, hh3, ht3⟩
          have hb3 : Below w1.heap.size w2 w3 := ((unhide HT).trans ht3).below (unhide HH2).foot_ge hsz2
          have HB3 := hide ((unhide HB2).trans (hb3.mono hsz1))
          clear hh3 ht3 hb3 HA HT
          go_wp2
          go_ret2
          exact ⟨by rw [unhide HKC]; rfl, unhide HB3⟩
      · obtain rfl : k = ns.length := by omega
        have HKC : Hid (CN = ns.length) := hide (by omega)
        have HBW := hide hbw
        clear hh ht hbel hbw HSP HTK HAL
        go_wp2
        go_ret2
        exact ⟨by rw [unhide HKC]; rfl, unhide HBW⟩
end
end Go.Proofs.YtpeglgkhpgifnaaGreatDoor
