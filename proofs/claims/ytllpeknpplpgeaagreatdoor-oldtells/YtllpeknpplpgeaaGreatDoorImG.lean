/-
  Contracts of package image: the bytes of a root; PutRoot. (Part of the proofs over package image.)
-/
import Derived.Test.YtllpeknpplpgeaaGreatDoorImD
import Derived.Test.YtllpeknpplpgeaaGreatDoorRefName
namespace Go.Proofs.YtllpeknpplpgeaaGreatDoor
open Go.RowKit
set_option linter.unusedVariables false

/-- A root as a value. -/
def rootV (r : (ByteArray × Int)) : Value := .agg #[.string r.1, .int .i64 r.2]
/-- Block g is a root. -/
def RoB (w : World) (g : Nat) (r : (ByteArray × Int)) : Prop := w.heap[g]? = some (.cells #[.string r.1, .int .i64 r.2] 57 (0, 0))
section
variable {w : World} {g : Nat} {r : (ByteArray × Int)}
theorem RoB.lt (h : RoB w g r) : g < w.heap.size := (Array.getElem?_eq_some_iff.1 h).1
theorem RoB.cells (h : RoB w g r) : w.cell? ⟨g, 0, none⟩ = some (.string r.1) ∧ w.cell? ⟨g, 1, none⟩ = some (.int .i64 r.2) := by
  simp only [cell_of_row _ _ _ _ _ _ h]
  exact ⟨rfl, rfl⟩
theorem RoB.below {w' : World} {B : Nat} (h : RoB w g r) (hb : Below B w w') (hg : g < B) : RoB w' g r := (hb.block g hg).trans h
end
theorem RoB.new (w : World) (r : (ByteArray × Int)) : RoB (w.alloc (.cells #[.string r.1, .int .i64 r.2] 57)) w.heap.size r := heap_alloc_new w _

theorem rowR_set (s : ByteArray) (h : Int) (hn : NameOk s) (h1 : 1 ≤ h) (h2 : h ≤ 40) : (splice (zerosB 11) 0 (nameL s)).set 10 h = rowR (s, h) := by
  have hl := length_nameL s hn.2.1
  have hne : ¬ noRoot (s, h) = true := by
    rw [noRoot_iff]
    rintro ⟨_, h0⟩
    dsimp only at h0
    omega
  unfold rowR
  rw [if_neg hne]
  have hm : h % 256 = h := by omega
  have e : splice (zerosB 11) 0 (nameL s) = nameL s ++ [0, 0, 0] := by
    unfold splice
    rw [List.take_zero, List.nil_append, Nat.zero_add, hl]
    rfl
  rw [e, List.set_append_right _ _ (by omega), hl]
  dsimp only
  rw [hm]
  rfl

set_option maxRecDepth 100000 in
set_option maxHeartbeats 1000000 in
theorem rootRow_none (s : ByteArray) (h : Int) (w : World) (h0 : s.size = 0) (hh : h = 0) :
    Calls Tryz.prog 89 #[.agg #[.string s, .int .i64 h]] w (Ends w (zerosB 11) .nilIface) := by
  subst hh
  obtain ⟨i0, hi, hz0, hz1, hz2⟩ := info_parts info_u8
  have he : s.toList.isEmpty = true := empty_yes s h0
  have HEN := hide (RoB.new w (s, 0))
  go_enter Tryz.func89, Tryz.ntmps89
  go_wp2_with (at_make; refine wpList_make_u8 rfl _ _ 22 rfl i0 Tryz.underlying22 hi hz0 hz1 hz2 _ _ _ _ 11 rfl rfl rfl rfl (by omega) ?_; intro w2 hk2 hs2 hb2; rw [sz_alloc] at hk2 hs2; have hen := (unhide HEN).below hb2 (by simp); obtain ⟨c0, c1⟩ := hen.cells; have HB2 := hide (((Below.refl _ w).alloc (Nat.le_refl _) _).trans (hb2.mono (by simp))); have HK2 := hide hk2; clear hk2 hb2 hen)
  go_ret2
  have hlen := length_zerosB 11
  exact ⟨_, 11, by rw [hlen]; rfl, (unhide HK2).bs (byt_zerosB 11) (by decide), unhide HB2⟩

set_option maxRecDepth 100000 in
set_option maxHeartbeats 1000000 in
theorem rootRow_range (s : ByteArray) (h : Int) (w : World) (h0 : ¬ (s.size = 0 ∧ h = 0)) (hh : hndB h = false) :
    Calls Tryz.prog 89 #[.agg #[.string s, .int .i64 h]] w (Ends w [] (errV 1)) := by
  rw [errV_pos 1 (by decide)]
  obtain ⟨i0, hi, hz0, hz1, hz2⟩ := info_parts info_u8
  have HEN := hide (RoB.new w (s, h))
  have HH := hide (fun W => isHandle_any h W)
  rw [hh] at HH
  clear hh
  by_cases hs : s.size = 0
  · have he : s.toList.isEmpty = true := empty_yes s hs
    have h1 : ¬ h = 0 := fun e => h0 ⟨hs, e⟩
    clear h0
    go_enter Tryz.func89, Tryz.ntmps89
    go_wp2_with (first | (at_make; refine wpList_make_u8 rfl _ _ 22 rfl i0 Tryz.underlying22 hi hz0 hz1 hz2 _ _ _ _ 11 rfl rfl rfl rfl (by omega) ?_; intro w2 hk2 hs2 hb2; rw [sz_alloc] at hk2 hs2; have hen := (unhide HEN).below hb2 (by simp); obtain ⟨c0, c1⟩ := hen.cells; have HB2 := hide (((Below.refl _ w).alloc (Nat.le_refl _) _).trans (hb2.mono (by simp))); clear hk2 hb2 hen) | (go_at_call 108; refine (unhide HH _).mono ?_; rintro e w3 ⟨rfl, hw3⟩; subst hw3))
    go_ret2
    exact ⟨none, 0, rfl, bs_nil _, unhide HB2⟩
  · have he : s.toList.isEmpty = false := empty_no s (by omega)
    clear h0
    go_enter Tryz.func89, Tryz.ntmps89
    go_wp2_with (first | (at_make; refine wpList_make_u8 rfl _ _ 22 rfl i0 Tryz.underlying22 hi hz0 hz1 hz2 _ _ _ _ 11 rfl rfl rfl rfl (by omega) ?_; intro w2 hk2 hs2 hb2; rw [sz_alloc] at hk2 hs2; have hen := (unhide HEN).below hb2 (by simp); obtain ⟨c0, c1⟩ := hen.cells; have HB2 := hide (((Below.refl _ w).alloc (Nat.le_refl _) _).trans (hb2.mono (by simp))); clear hk2 hb2 hen) | (go_at_call 108; refine (unhide HH _).mono ?_; rintro e w3 ⟨rfl, hw3⟩; subst hw3))
    go_ret2
    exact ⟨none, 0, rfl, bs_nil _, unhide HB2⟩

set_option maxRecDepth 100000 in
set_option maxHeartbeats 1000000 in
theorem rootRow_bad (s : ByteArray) (h : Int) (w : World) (hs : s.size ≤ 140737488351232) (hh : hndB h = true) (hn : ¬ NameOk s) :
    Calls Tryz.prog 89 #[.agg #[.string s, .int .i64 h]] w (Ends w [] (errV 2)) := by
  rw [errV_pos 2 (by decide)]
  obtain ⟨i0, hi, hz0, hz1, hz2⟩ := info_parts info_u8
  have HEN := hide (RoB.new w (s, h))
  have HH := hide (fun W => isHandle_any h W)
  have hh1 := hndB_iff.1 hh
  have h1 : ¬ h = 0 := by omega
  have HP := hide (fun W => putName_fail s W hs hn)
  rw [hh] at HH
  clear hh hn
  have hcase : s.toList.isEmpty = true ∨ s.toList.isEmpty = false := by cases s.toList.isEmpty <;> simp
  rcases hcase with he | he
  all_goals
    go_enter Tryz.func89, Tryz.ntmps89
    go_wp2_with (first | (at_make; refine wpList_make_u8 rfl _ _ 22 rfl i0 Tryz.underlying22 hi hz0 hz1 hz2 _ _ _ _ 11 rfl rfl rfl rfl (by omega) ?_; intro w2 hk2 hs2 hb2; rw [sz_alloc] at hk2 hs2; have hen := (unhide HEN).below hb2 (by simp); obtain ⟨c0, c1⟩ := hen.cells; have HB2 := hide (((Below.refl _ w).alloc (Nat.le_refl _) _).trans (hb2.mono (by simp))); clear hk2 hb2 hen) | (go_at_call 108; refine (unhide HH _).mono ?_; rintro e w3 ⟨rfl, hw3⟩; subst hw3) | (go_at_call 44; refine (unhide HP _).mono ?_; rintro e w4 ⟨rfl, hb4⟩; have HB4 := hide ((unhide HB2).trans (hb4.mono (unhide HB2).size)); clear hb4))
    go_ret2
    exact ⟨none, 0, rfl, bs_nil _, unhide HB4⟩

set_option maxRecDepth 100000 in
set_option maxHeartbeats 1000000 in
theorem rootRow_yes (s : ByteArray) (h : Int) (w : World) (hh : hndB h = true) (hn : NameOk s) :
    Calls Tryz.prog 89 #[.agg #[.string s, .int .i64 h]] w (Ends w (rowR (s, h)) .nilIface) := by
  obtain ⟨i0, hi, hz0, hz1, hz2⟩ := info_parts info_u8
  have HEN := hide (RoB.new w (s, h))
  have HH := hide (fun W => isHandle_any h W)
  have hh1 := hndB_iff.1 hh
  have h1 : ¬ h = 0 := by omega
  have he : s.toList.isEmpty = false := empty_no s hn.1
  have HP := hide (fun W => putName_yes s W hn.1 hn.2.1 hn.2.2)
  have hnl := length_nameL s hn.2.1
  have hnb := byt_nameL s
  have HR := hide (rowR_set s h hn hh1.1 hh1.2)
  rw [hh] at HH
  clear hh hn
  generalize nameL s = N at *
  go_enter Tryz.func89, Tryz.ntmps89
  go_wp2_with (first | (at_make; refine wpList_make_u8 rfl _ _ 22 rfl i0 Tryz.underlying22 hi hz0 hz1 hz2 _ _ _ _ 11 rfl rfl rfl rfl (by omega) ?_; intro w2 hk2 hs2 hb2; rw [sz_alloc] at hk2 hs2; have hen := (unhide HEN).below hb2 (by simp); obtain ⟨c0, c1⟩ := hen.cells; have HB2 := hide (((Below.refl _ w).alloc (Nat.le_refl _) _).trans (hb2.mono (by simp))); have HK2 := hide hk2; have HEN2 := hide hen; clear hk2 hb2 hen) | (go_at_call 108; refine (unhide HH _).mono ?_; rintro e w3 ⟨rfl, hw3⟩; subst hw3))
  refine (unhide HP _).mono ?_
  rintro e w4 ⟨g, rfl, hg, hk4, hb4⟩
  have hk4' := (unhide HK2).below hb4
  have hen4 := (unhide HEN2).below hb4 (unhide HEN2).lt
  have HB4 := hide ((unhide HB2).trans (hb4.mono (unhide HB2).size))
  have hbs4 := hk4.bs hnb (by omega)
  have hzl := length_zerosB 11
  have hcopy : Sem.run Tryz.prog (Builtin.copy_ #[22, 22] 3 #[.slice (some ⟨w.heap.size + 1, 0, none⟩) 11 11, .slice (some ⟨g, 0, none⟩) 8 8]) w4 = .ok (.int .i64 8) (rowW w4 (w.heap.size + 1) (splice (zerosB 11) 0 N)) := by
    have := run_copy_at (P := Tryz.prog) w4 22 22 3 Tryz.underlying22 size_u8 (w.heap.size + 1) 0 11 11 (some ⟨w.heap.size + 1, 0, none⟩) (some ⟨g, 0, none⟩) N.length (zerosB 11) N (by omega) (fun _ => rfl) (by omega) hk4' hbs4
    rw [hnl] at this
    exact this
  have hk5 : Blk (rowW w4 (w.heap.size + 1) (splice (zerosB 11) 0 N)) (w.heap.size + 1) (splice (zerosB 11) 0 N) := rowW_blk hk4' _
  have hb5 : Below w.heap.size w (rowW w4 (w.heap.size + 1) (splice (zerosB 11) 0 N)) := rowW_below _ (unhide HB4) (Nat.le_succ _)
  have hen5 : RoB (rowW w4 (w.heap.size + 1) (splice (zerosB 11) 0 N)) w.heap.size (s, h) := (setRow_other w4 _ _ _ (by omega)).trans hen4
  have hsl : (splice (zerosB 11) 0 N).length = 11 := by rw [length_splice (by omega)]; exact hzl
  obtain ⟨d0, d1⟩ := hen5.cells
  have hcl := hk5.cell 10 (by omega)
  have hfz := hk5.frozen 10
  have HBY : Hid (Byt (rowR (s, h))) := hide (byt_rowR _)
  have HK5 := hide hk5
  have HB5 := hide hb5
  clear hk4 hk4' hen4 hen5 hk5 hb5 hb4 hbs4 HB4 HB2 HK2 HEN2 HP c0 c1 hnb
  generalize splice (zerosB 11) 0 N = X at *
  generalize rowW w4 (w.heap.size + 1) X = w5 at *
  generalize X.getD 10 0 = x0 at *
  go_wp2
  go_ret2
  have hk6 := (unhide HK5).set 10 h
  rw [unhide HR] at hk6
  have hrl : (rowR (s, h)).length = 11 := by rw [← unhide HR, List.length_set]; exact hsl
  exact ⟨some ⟨w.heap.size + 1, 0, none⟩, (rowR (s, h)).length, by rw [hrl]; rfl, hk6.bs (unhide HBY) (by omega), (unhide HB5).setCell (by exact Nat.le_succ _) _⟩
theorem rootRow_any (r : (ByteArray × Int)) (w : World) (hs : r.1.size ≤ 140737488351232) :
    Calls Tryz.prog 89 #[rootV r] w (Ends w (if rowRE r = 0 then rowR r else []) (errV (rowRE r))) := by
  obtain ⟨s, h⟩ := r
  dsimp only at hs
  unfold rootV
  dsimp only
  by_cases h0 : noRoot (s, h) = true
  · have e : rowRE (s, h) = 0 := by unfold rowRE; rw [if_pos h0]
    have e2 : rowR (s, h) = zerosB 11 := by unfold rowR; rw [if_pos h0]
    rw [e, if_pos rfl, e2, errV_zero]
    have := noRoot_iff.1 h0
    exact rootRow_none s h w this.1 this.2
  · have h0' : ¬ (s.size = 0 ∧ h = 0) := fun h => h0 (noRoot_iff.2 h)
    cases hh : hndB h with
    | false =>
      have e : rowRE (s, h) = 1 := by unfold rowRE; rw [if_neg h0, if_pos hh]
      rw [e, if_neg (by decide)]
      exact rootRow_range s h w h0' hh
    | true =>
      by_cases hn : nameB s = true
      · have e : rowRE (s, h) = 0 := by unfold rowRE; rw [if_neg h0, if_neg (by dsimp only; rw [hh]; simp), if_pos hn]
        rw [e, if_pos rfl, errV_zero]
        exact rootRow_yes s h w hh (nameB_iff.1 hn)
      · have e : rowRE (s, h) = 2 := by unfold rowRE; rw [if_neg h0, if_neg (by dsimp only; rw [hh]; simp), if_neg hn]
        rw [e, if_neg (by decide)]
        exact rootRow_bad s h w hs hh (fun h => hn (nameB_iff.2 h))
end Go.Proofs.YtllpeknpplpgeaaGreatDoor
