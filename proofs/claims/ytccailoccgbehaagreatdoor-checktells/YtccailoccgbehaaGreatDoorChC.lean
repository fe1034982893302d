/-
  Contracts of package check: what is wrong with an object. (Part of the proofs over package check.)
-/
import Derived.Test.YtccailoccgbehaaGreatDoorChB
import Derived.Test.YtccailoccgbehaaGreatDoorExB
namespace Go.Proofs.YtccailoccgbehaaGreatDoor
open Go.RowKit Go.Sort Go.Shelf
set_option linter.unusedVariables false

/-- Is something wrong with two extents of n bytes? -/
def twoB (n : Int) (x e : Int × Int) : Bool := chk n [x, e] != 0
theorem twoB_over {n : Int} {x e : Int × Int} (hn : 0 ≤ n) (hn2 : n ≤ 6400) (hx : there n x = true) (he : there n e = true) : twoB n x e = over e x := by
  unfold twoB chk
  rw [if_neg (by omega), if_neg (by simp)]
  unfold chkL
  rw [if_neg (by rw [hx]; simp), if_neg (by simp)]
  unfold chkL
  rw [if_neg (by rw [he]; simp), List.nil_append, List.any_cons, List.any_nil, Bool.or_false]
  cases over e x with
  | true => rw [if_pos rfl]; rfl
  | false => rw [if_neg (by simp)]; rfl
theorem chOver_any (n : Int) (x e : Int × Int) (w : World) (hx : InI x) (he : InI e) :
    Calls Tryz.prog 61 #[.int .i64 n, .agg #[.int .i64 x.1, .int .i64 x.2], .agg #[.int .i64 e.1, .int .i64 e.2]] w fun r w' => r = .returned (.bool (twoB n x e)) ∧ Below w.heap.size w w' := by
  have hb : Below w.heap.size w (((w.alloc (.cells #[.int .i64 x.1, .int .i64 x.2] 41)).alloc (.cells #[.int .i64 e.1, .int .i64 e.2] 41)).alloc (.cells #[.int .i64 x.1, .int .i64 x.2, .int .i64 e.1, .int .i64 e.2] 41)) := (((Below.refl _ w).alloc (Nat.le_refl _) _).alloc (by simp) _).alloc (by simp; omega) _
  have hg := heap_alloc_new ((w.alloc (.cells #[.int .i64 x.1, .int .i64 x.2] 41)).alloc (.cells #[.int .i64 e.1, .int .i64 e.2] 41)) (.cells #[.int .i64 x.1, .int .i64 x.2, .int .i64 e.1, .int .i64 e.2] 41)
  rw [sz_alloc, sz_alloc] at hg
  have hex : Exs (((w.alloc (.cells #[.int .i64 x.1, .int .i64 x.2] 41)).alloc (.cells #[.int .i64 e.1, .int .i64 e.2] 41)).alloc (.cells #[.int .i64 x.1, .int .i64 x.2, .int .i64 e.1, .int .i64 e.2] 41)) (some ⟨w.heap.size + 1 + 1, 0, none⟩) 2 [x, e] := by
    refine ⟨fun y hy => ?_, ⟨by simp, fun h => by cases h⟩, by simp, fun _ => ⟨_, 0, rfl, fun i hi => ?_⟩⟩
    · rcases List.mem_cons.1 hy with rfl | hy
      · exact hx
      · rw [List.mem_singleton.1 hy]; exact he
    · rw [cell_of_row _ _ _ _ _ _ hg, cell_of_row _ _ _ _ _ _ hg]
      match i, hi with
      | 0, _ => exact ⟨rfl, rfl⟩
      | 1, _ => exact ⟨rfl, rfl⟩
      | i + 2, hi => exact absurd hi (by simp)
  have HC := hide (check_all n _ 2 [x, e] _ hex)
  have hv : chk n [x, e] = 0 ∧ twoB n x e = false ∨ chk n [x, e] ≠ 0 ∧ twoB n x e = true := by
    unfold twoB
    by_cases h : chk n [x, e] = 0
    · exact .inl ⟨h, by rw [h]; rfl⟩
    · exact .inr ⟨h, bne_iff_ne.2 h⟩
  have HB := hide hb
  clear hb hex hg hx he
  obtain ⟨x1, x2⟩ := x
  obtain ⟨e1, e2⟩ := e
  dsimp only at *
  generalize twoB n (x1, x2) (e1, e2) = r at *
  generalize chk n [(x1, x2), (e1, e2)] = c at *
  rcases hv with ⟨rfl, rfl⟩ | ⟨hc, rfl⟩
  · rw [errV_zero] at HC
    go_enter Tryz.func61, Tryz.ntmps61
    go_wp2_with fail
    refine (unhide HC).mono ?_
    rintro e w1 ⟨rfl, hb1⟩
    have HB1 := hide ((unhide HB).trans (hb1.mono (unhide HB).size))
    clear hb1 HC HB
    go_wp2
    go_ret
    exact ⟨rfl, unhide HB1⟩
  · rw [errV_pos _ hc] at HC
    go_enter Tryz.func61, Tryz.ntmps61
    go_wp2_with fail
    refine (unhide HC).mono ?_
    rintro e w1 ⟨rfl, hb1⟩
    have HB1 := hide ((unhide HB).trans (hb1.mono (unhide HB).size))
    clear hb1 HC HB
    go_wp2
    go_ret
    exact ⟨rfl, unhide HB1⟩

/-- An extent of ints. -/
structure Ex where
  val : Int × Int
  ok : InI val
def exS (x : Ex) : List Value := exC x.1
theorem exS_len (x : Ex) : (exS x).length = 2 := rfl
theorem exS_one (x : Ex) : ∀ u ∈ exS x, u.oneCell' = true := by
  intro u hu
  unfold exS exC at hu
  rcases List.mem_cons.1 hu with rfl | hu
  · rfl
  rw [List.mem_singleton.1 hu]
  rfl
theorem info_ext : (Tryz.prog.info? 41).map (fun i => (i.zero, i.size, i.bytes)) = some (some (.agg #[.int .i64 0, .int .i64 0]), 2, 16) := by kernel_rfl

theorem whatOf1_any (n : Int) (x : Ex) (e : (Int × Int × Int × Int)) (gn ge : Nat) (W : World) (hn : W.cell? ⟨gn, 0, none⟩ = some (.int .i64 n)) (he : EnB W ge e) (hi : InI (e.2.1, e.2.2.1)) :
    Calls Tryz.prog 60 #[.agg #[.int .i64 x.1.1, .int .i64 x.1.2], .pointer (some ⟨gn, 0, none⟩), .pointer (some ⟨ge, 0, none⟩)] W fun r w' => r = .returned (.bool (twoB n x.1 (e.2.1, e.2.2.1))) ∧ Below W.heap.size W w' := by
  obtain ⟨⟨x1, x2⟩, hx⟩ := x
  obtain ⟨h, a, l, t⟩ := e
  have hb0 : Below W.heap.size W (W.alloc (.cells #[.int .i64 x1, .int .i64 x2] 41)) := (Below.refl _ W).alloc (Nat.le_refl _) _
  have hn1 := (hb0.cell (block_lt_of_cell hn)).trans hn
  have he1 := he.below hb0 he.lt
  obtain ⟨c0, c1, c2, c3⟩ := he1.cells
  have HO := hide (chOver_any n (x1, x2) (a, l) (W.alloc (.cells #[.int .i64 x1, .int .i64 x2] 41)) hx hi)
  have HB0 := hide hb0
  have hgn := block_lt_of_cell hn
  have hge := he.lt
  dsimp only at *
  generalize twoB n (x1, x2) (a, l) = r at *
  clear he1 hb0 hx hi he hn
  go_enter Tryz.func60, Tryz.ntmps60
  go_wp2_with fail
  refine (unhide HO).mono ?_
  rintro e' w1 ⟨rfl, hb1⟩
  have HB1 := hide ((unhide HB0).trans (hb1.mono (unhide HB0).size))
  clear hb1
  go_wp2
  go_ret
  exact ⟨rfl, unhide HB1⟩
theorem exIndex_nil (fv : Value) (w : World) : Calls Tryz.prog 78 #[.slice none 0 0, fv] w fun r w' => r = .returned (.int .i64 (-1)) ∧ w = w' := by
  go_enter Tryz.func78, Tryz.ntmps78
  go_wp2
  go_loop [5, 8] (fun _ i => i = .int .i64 0) (fun _ _ => 0)
  case atStart => rfl
  case round =>
    subst hrel
    go_wp2
    go_ret
    exact ⟨rfl, rfl⟩
theorem exCont_nil (fv : Value) (w : World) : Calls Tryz.prog 59 #[.slice none 0 0, fv] w fun r w' => r = .returned (.bool false) ∧ w = w' := by
  have HI := hide (exIndex_nil fv w)
  go_enter Tryz.func59, Tryz.ntmps59
  go_wp2_with (go_at_call 78; refine (unhide HI).mono ?_; rintro e w1 ⟨rfl, rfl⟩)
  go_ret
  exact ⟨rfl, rfl⟩

/-- What is wrong with an object: those of lesser handles have these extents. -/
def whatL (L : List Int) (e : (Int × Int × Int × Int)) (T : List Ex) : Int := if putE L e ≠ 0 then 1 else if T.any (fun x => twoB L.length x.1 (e.2.1, e.2.2.1)) = true then 2 else 0
set_option maxHeartbeats 1000000 in
theorem whatOf_any (L : List Int) (e : (Int × Int × Int × Int)) (B : Nat) (v : Value) (T : List Ex) (w : World) (hl : L.length ≤ 140737488351232) (hi : InI (e.2.1, e.2.2.1)) (hT : Lst exS 2 41 w B v T) (hTl : T.length ≤ 1000) :
    Calls Tryz.prog 40 #[.int .i64 L.length, entV e, v] w fun r w' => r = .returned (.int .i64 (whatL L e T)) ∧ Below w.heap.size w w' := by
  obtain ⟨x, a, l, t⟩ := e
  have hb0 : Below w.heap.size w ((w.alloc (.cells #[.int .i64 (L.length : Int)] 3)).alloc (.cells #[.int .i64 x, .int .i64 a, .int .i64 l, .int .i64 t] 43)) := ((Below.refl _ w).alloc (Nat.le_refl _) _).alloc (by simp) _
  have HK := hide (ckEnt_any L (x, a, l, t) ((w.alloc (.cells #[.int .i64 (L.length : Int)] 3)).alloc (.cells #[.int .i64 x, .int .i64 a, .int .i64 l, .int .i64 t] 43)) hl hi.1)
  have HB0 := hide hb0
  have hen := EnB.new (w.alloc (.cells #[.int .i64 (L.length : Int)] 3)) (x, a, l, t)
  rw [sz_alloc] at hen
  have hcn : ((w.alloc (.cells #[.int .i64 (L.length : Int)] 3)).alloc (.cells #[.int .i64 x, .int .i64 a, .int .i64 l, .int .i64 t] 43)).cell? ⟨w.heap.size, 0, none⟩ = some (.int .i64 (L.length : Int)) := by
    rw [World.cell?_alloc_lt _ _ _ (by simp), cell_of_row _ _ _ _ _ (0, 0) (heap_alloc_new w _)]
    rfl
  unfold entV at HK ⊢
  dsimp only at HK ⊢ hi
  obtain ⟨va, vm, vc, rfl⟩ := hT.shape
  by_cases h0 : putE L (x, a, l, t) = 0
  · have hw : whatL L (x, a, l, t) T = if T.any (fun y => twoB L.length y.1 (a, l)) = true then 2 else 0 := by unfold whatL; rw [if_neg (by rw [h0]; simp)]
    rw [h0, errV_zero] at HK
    rw [hw]
    clear hw h0
    have HC : Hid (∀ W : World, Below w.heap.size w W → EnB W (w.heap.size + 1) (x, a, l, t) → W.cell? ⟨w.heap.size, 0, none⟩ = some (.int .i64 (L.length : Int)) →
        Calls Tryz.prog 59 #[.slice va vm vc, .func (.func 60) #[] #[.pointer (some ⟨w.heap.size, 0, none⟩), .pointer (some ⟨w.heap.size + 1, 0, none⟩)]] W fun r w' => r = .returned (.bool (T.any (fun y => twoB L.length y.1 (a, l)))) ∧ Below W.heap.size W w') := hide (fun W hW hE hN => by
      have hTW := hT.below hW
      obtain ⟨a1, c1, e1, hsl⟩ := hTW.sls exS_len (by omega)
      simp only [Value.slice.injEq] at e1
      obtain ⟨rfl, rfl, rfl⟩ := e1
      rcases hTW.2 with ⟨h', h00⟩ | ⟨g, cap, cur, h', hB, hc, h3, h4, h5, h6⟩
      · simp only [Value.slice.injEq] at h'
        obtain rfl : T = [] := List.eq_nil_of_length_eq_zero h00
        rw [h'.1, h'.2.2]
        exact (exCont_nil _ W).mono fun r w' ⟨hr, hw⟩ => ⟨hr, by rw [hw]; exact Below.refl _ _⟩
      · simp only [Value.slice.injEq, true_and] at h'
        obtain ⟨rfl, rfl⟩ := h'
        have hlt : g < W.heap.size := (Array.getElem?_eq_some_iff.1 hc).1
        haveI : Inhabited Ex := ⟨⟨(0, 0), by unfold InI; decide⟩⟩
        have hcon := AnyQ.slices_ContainsFunc exCont 2 Tryz.isAgg41 Tryz.sizeOf41 exS exS_len (fun y : Ex => twoB L.length y.1 (a, l)) 60 #[.pointer (some ⟨w.heap.size, 0, none⟩), .pointer (some ⟨w.heap.size + 1, 0, none⟩)] (enters_of Tryz.func60 (by kernel_rfl) rfl) g 0 T.length vc T W
          (fun W2 y hW2 => (whatOf1_any L.length y (x, a, l, t) w.heap.size (w.heap.size + 1) W2 ((hW2.cell (block_lt_of_cell hN)).trans hN) (hE.below hW2 hE.lt) hi).mono fun r w' ⟨hr, hbb⟩ => ⟨hr, hW2.trans (hbb.mono hW2.size)⟩)
          (Nat.le_refl _) (by omega) hlt
          (fun j hj i u hu => by
            have ej : T[j]? = some T[j]! := by simp [hj]
            obtain ⟨b, off, hba, hcell⟩ := hsl.2.2.2 (by intro e; rw [e] at hj; simp at hj)
            simp only [Option.some.injEq, Addr.mk.injEq, and_true] at hba
            obtain ⟨rfl, rfl⟩ := hba
            exact hcell j _ ej i u hu)
        change Calls Tryz.prog 59 _ _ _ at hcon
        rw [List.take_length] at hcon
        exact hcon)
    clear hT hTl hi hl
    generalize T.any (fun y => twoB L.length y.1 (a, l)) = r at *
    have HEN := hide hen
    have HCN := hide hcn
    clear hen hcn hb0
    cases r with
    | true =>
      rw [if_pos rfl]
      go_enter Tryz.func40, Tryz.ntmps40
      go_wp2_with fail
      refine (unhide HK).mono ?_
      rintro e w1 ⟨rfl, hb1⟩
      have hB1 := (unhide HB0).trans (hb1.mono (unhide HB0).size)
      have HC1 := hide (unhide HC w1 hB1 ((unhide HEN).below hb1 (by simp)) ((hb1.cell (by simp; omega)).trans (unhide HCN)))
      have HB1 := hide hB1
      clear hb1 hB1 HC HB0 HEN HCN HK
      go_wp2_with fail
      refine (unhide HC1).mono ?_
      rintro e w2 ⟨rfl, hb2⟩
      have HB2 := hide ((unhide HB1).trans (hb2.mono (unhide HB1).size))
      clear hb2 HC1 HB1
      go_wp2
      go_ret
      exact ⟨rfl, unhide HB2⟩
    | false =>
      rw [if_neg (by simp)]
      go_enter Tryz.func40, Tryz.ntmps40
      go_wp2_with fail
      refine (unhide HK).mono ?_
      rintro e w1 ⟨rfl, hb1⟩
      have hB1 := (unhide HB0).trans (hb1.mono (unhide HB0).size)
      have HC1 := hide (unhide HC w1 hB1 ((unhide HEN).below hb1 (by simp)) ((hb1.cell (by simp; omega)).trans (unhide HCN)))
      have HB1 := hide hB1
      clear hb1 hB1 HC HB0 HEN HCN HK
      go_wp2_with fail
      refine (unhide HC1).mono ?_
      rintro e w2 ⟨rfl, hb2⟩
      have HB2 := hide ((unhide HB1).trans (hb2.mono (unhide HB1).size))
      clear hb2 HC1 HB1
      go_wp2
      go_ret
      exact ⟨rfl, unhide HB2⟩
  · have hw : whatL L (x, a, l, t) T = 1 := by unfold whatL; rw [if_pos h0]
    rw [errV_pos _ h0] at HK
    rw [hw]
    clear hw h0 hen hcn hb0 hT hi hl
    generalize putE L (x, a, l, t) = c at *
    go_enter Tryz.func40, Tryz.ntmps40
    go_wp2_with fail
    refine (unhide HK).mono ?_
    rintro e w1 ⟨rfl, hb1⟩
    have HB1 := hide ((unhide HB0).trans (hb1.mono (unhide HB0).size))
    clear hb1
    go_wp2
    go_ret
    exact ⟨rfl, unhide HB1⟩
end Go.Proofs.YtccailoccgbehaaGreatDoor
