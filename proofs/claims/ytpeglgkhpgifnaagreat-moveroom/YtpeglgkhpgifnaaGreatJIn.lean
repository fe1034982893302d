/-
  Joined by program: ImF; ImG; ImH; ImI. (Parts of the proofs over the packages of the program.)
-/
import Derived.Test.YtpeglgkhpgifnaaGreatJIm
import Derived.Test.YtpeglgkhpgifnaaGreatJRef
/-! Contracts of package image: Entries. (Part of the proofs over package image.) -/
namespace Go.Proofs.YtpeglgkhpgifnaaGreat
open Go.RowKit
set_option linter.unusedVariables false

def lenE (n : Int) : Int := if lenB n = true then 0 else 3
theorem tag_chk {l : List Int} {h : Int} (hq : lenB l.length = true) (h1 : 1 ≤ h) (h2 : h ≤ 40) (ht : tagAt l h ≠ 0) : chkE l h = 0 := chkE_zero.2 ⟨hq, hndB_iff.2 ⟨h1, h2⟩, ht⟩
theorem entsK_yes {l : List Int} {k : Nat} (ht : tagAt l ((k : Int) + 1) ≠ 0) : entsK l (k + 1) = entsK l k ++ [entOf l ((k : Int) + 1)] := by
  show entsK l k ++ _ = _
  rw [if_neg ht]
theorem entsK_no {l : List Int} {k : Nat} (ht : tagAt l ((k : Int) + 1) = 0) : entsK l (k + 1) = entsK l k := by
  show entsK l k ++ _ = _
  rw [if_pos ht, List.append_nil]

theorem iEnts_no (a : Option Addr) (len cap : Nat) (w : World) (hl : len ≤ 140737488351232) (hq : lenB len = false) :
    Calls Tryz.prog 22 #[.slice a len cap] w fun e w' => e = .returned (.tuple #[.slice none 0 0, errV 3]) ∧ w = w' := by
  rw [errV_pos 3 (by decide)]
  have HL := hide (fun W => isLength_any len W)
  rw [hq] at HL
  clear hq
  go_enter Tryz.func22, Tryz.ntmps22
  go_wp2_with (go_at_call 47; refine (unhide HL _).mono ?_; rintro e w1 ⟨rfl, rfl⟩)
  go_ret2
  exact ⟨rfl, rfl⟩

set_option maxRecDepth 100000 in
set_option maxHeartbeats 2000000 in
theorem iEnts_yes (a : Option Addr) (cap : Nat) (l : List Int) (w : World) (hb : Bs w a cap l) (hq : lenB l.length = true) :
    Calls Tryz.prog 22 #[.slice a l.length cap] w fun e w' => ∃ v, e = .returned (.tuple #[v, .nilIface]) ∧ Lst enC 4 65 w' w.heap.size v (entsK l 40) ∧ Below w.heap.size w w' := by
  have HL := hide (fun W => isLength_any l.length W)
  have hl := lenB_iff.1 hq
  have HQ := hide hq
  rw [hq] at HL
  clear hq
  obtain ⟨i0, hi0, hz0, hz1, hz2⟩ := info_parts info_ent
  have HB := hide hb
  have hbl := hb.2.2.1
  clear hb
  go_enter Tryz.func22, Tryz.ntmps22
  go_wp2_with (go_at_call 47; refine (unhide HL _).mono ?_; rintro e w1 ⟨rfl, rfl⟩)
  go_loopw [4, 5] (fun v hv wr => ∃ k : Nat, k ≤ 40 ∧ hv = .int .i64 ((k : Int) + 1) ∧ Lst enC 4 65 wr w.heap.size v (entsK l k) ∧ Below w.heap.size w wr) (fun _ hv _ => 41 - (intOf hv).toNat)
  case atStart => exact ⟨0, by omega, rfl, Lst.nil _ _, Below.refl _ _⟩
  case round =>
    obtain ⟨k, hk, rfl, hown, hbel⟩ := hrel
    obtain ⟨va, vm, vc, rfl⟩ := hown.shape
    by_cases hlt : k < 40
    · have hbs := (unhide HB).below hbel
      have HH := hide (has_any a cap l ((k : Int) + 1) wr hbs (by omega) (by omega) (by omega))
      by_cases ht : tagAt l ((k : Int) + 1) = 0
      · rw [ht] at HH
        have HE := hide (entsK_no ht)
        have HO := hide hown
        have HBEL := hide hbel
        clear ht hown hbel hbs
        go_wp2_with (go_at_call 48; refine (unhide HH).mono ?_; rintro e w1 ⟨rfl, hw1⟩; subst hw1)
        go_roundw
        case rel => exact ⟨k + 1, by omega, by go_num, by rw [unhide HE]; exact unhide HO, unhide HBEL⟩
        case measure => simp [intOf]; omega
      · rw [bne_iff_ne.2 ht] at HH
        have HG := hide (iGet_yes a cap l ((k : Int) + 1) wr hbs (tag_chk (unhide HQ) (by omega) (by omega) ht))
        have HE := hide (entsK_yes ht)
        have HLN := hide (entsK_len l k)
        have HO := hide hown
        have HBEL := hide hbel
        clear ht hown hbel hbs
        generalize hent : entOf l ((k : Int) + 1) = ent at *
        clear hent
        obtain ⟨x, y, z, t⟩ := ent
        unfold entV at HG
        dsimp only at HG
        go_wp2_with (first | (go_at_call 48; refine (unhide HH).mono ?_; rintro e w1 ⟨rfl, hw1⟩; subst hw1))
        refine (unhide HG).mono ?_
        rintro e w1 ⟨rfl, hb1⟩
        have hB1 := (unhide HBEL).trans (hb1.mono (unhide HBEL).size)
        have hB2 := hB1.alloc hB1.size (.cells #[.int .i64 x, .int .i64 y, .int .i64 z, .int .i64 t] 65)
        have HB3 := hide (hB2.alloc hB2.size (.cells #[.int .i64 x, .int .i64 y, .int .i64 z, .int .i64 t] 65))
        have HO3 := hide ((((unhide HO).below hb1).below ((Below.refl _ _).alloc (Nat.le_refl _) (.cells #[.int .i64 x, .int .i64 y, .int .i64 z, .int .i64 t] 65))).below ((Below.refl _ _).alloc (Nat.le_refl _) (.cells #[.int .i64 x, .int .i64 y, .int .i64 z, .int .i64 t] 65)))
        have hsz := (unhide HBEL).size
        have hsz1 := hb1.size
        have HGN : Hid (((w1.alloc (.cells #[.int .i64 x, .int .i64 y, .int .i64 z, .int .i64 t] 65)).alloc (.cells #[.int .i64 x, .int .i64 y, .int .i64 z, .int .i64 t] 65)).heap[w1.heap.size + 1]? = some (.cells (enC (x, y, z, t)).toArray 65 (0, 0))) := hide (by
          have := heap_alloc_new (w1.alloc (.cells #[.int .i64 x, .int .i64 y, .int .i64 z, .int .i64 t] 65)) (.cells #[.int .i64 x, .int .i64 y, .int .i64 z, .int .i64 t] 65)
          rw [sz_alloc] at this
          exact this)
        clear hb1 hB1 hB2 HO HBEL HG HH
        go_wp2_with (at_builtin; refine wpList_append_lst rfl _ _ 56 rfl w.heap.size i0 (.agg #[.int .i64 0, .int .i64 0, .int .i64 0, .int .i64 0]) 32 Tryz.underlying56 hi0 hz0 hz1 hz2 rfl (by decide) (by decide) _ _ rfl (unhide HO3) (w1.heap.size + 1) (x, y, z, t) rfl (unhide HGN) rfl (enC_one _) (Nat.le_trans (unhide HLN) (by omega)) (by simp; omega) ?_)
        intro v9 w9 hown9 hbel9
        have HO9 := hide hown9
        have HB9 := hide ((unhide HB3).trans hbel9)
        obtain ⟨a9, m9, c9, rfl⟩ := hown9.shape
        clear hown9 hbel9 HO3 HB3 HGN
        go_wp2
        go_roundw
        case rel => exact ⟨k + 1, by omega, by go_num, by rw [unhide HE]; exact unhide HO9, unhide HB9⟩
        case measure => simp [intOf]; omega
    · obtain rfl : k = 40 := by omega
      have HO := hide hown
      have HBEL := hide hbel
      clear hown hbel
      go_wp2
      go_ret2
      exact ⟨_, rfl, unhide HO, unhide HBEL⟩
theorem iEnts_any (a : Option Addr) (cap : Nat) (l : List Int) (w : World) (hb : Bs w a cap l) :
    Calls Tryz.prog 22 #[.slice a l.length cap] w fun e w' => ∃ v, e = .returned (.tuple #[v, errV (lenE l.length)]) ∧ Lst enC 4 65 w' w.heap.size v (ents l) ∧ Below w.heap.size w w' := by
  unfold lenE ents
  cases hq : lenB l.length with
  | true =>
    rw [if_pos rfl, if_pos rfl, errV_zero]
    exact iEnts_yes a cap l w hb hq
  | false =>
    rw [if_neg (by simp), if_neg (by simp)]
    exact (iEnts_no a l.length cap w hb.2.2.1 hq).mono fun e w' ⟨he, hw⟩ => ⟨_, he, Lst.nil _ _, by rw [hw]; exact Below.refl _ _⟩
end Go.Proofs.YtpeglgkhpgifnaaGreat
/-! Contracts of package image: the bytes of a root; PutRoot. (Part of the proofs over package image.) -/
namespace Go.Proofs.YtpeglgkhpgifnaaGreat
open Go.RowKit
set_option linter.unusedVariables false

/-- A root as a value. -/
def rootV (r : (ByteArray × Int)) : Value := .agg #[.string r.1, .int .i64 r.2]
/-- Block g is a root. -/
def RoB (w : World) (g : Nat) (r : (ByteArray × Int)) : Prop := w.heap[g]? = some (.cells #[.string r.1, .int .i64 r.2] 72 (0, 0))
section
variable {w : World} {g : Nat} {r : (ByteArray × Int)}
theorem RoB.lt (h : RoB w g r) : g < w.heap.size := (Array.getElem?_eq_some_iff.1 h).1
theorem RoB.cells (h : RoB w g r) : w.cell? ⟨g, 0, none⟩ = some (.string r.1) ∧ w.cell? ⟨g, 1, none⟩ = some (.int .i64 r.2) := by
  simp only [cell_of_row _ _ _ _ _ _ h]
  exact ⟨rfl, rfl⟩
theorem RoB.below {w' : World} {B : Nat} (h : RoB w g r) (hb : Below B w w') (hg : g < B) : RoB w' g r := (hb.block g hg).trans h
end
theorem RoB.new (w : World) (r : (ByteArray × Int)) : RoB (w.alloc (.cells #[.string r.1, .int .i64 r.2] 72)) w.heap.size r := heap_alloc_new w _

theorem rowR_set (s : ByteArray) (h : Int) (hn : NameOk s) (h1 : 1 ≤ h) (h2 : h ≤ 40) : (splice (zerosB 11) 0 (nameL s)).set 10 h = rowR (s, h) := by
  have hl := length_nameL s hn.2.1
  have hne : ¬ noRoot (s, h) = true := by
    rw [noRoot_iff]
    rintro ⟨_, h0⟩
    dsimp only at h0
    omega
  unfold rowR
  rw [if_neg hne]
  have hm : h % 256 = h := by omega
  have e : splice (zerosB 11) 0 (nameL s) = nameL s ++ [0, 0, 0] := by
    unfold splice
    rw [List.take_zero, List.nil_append, Nat.zero_add, hl]
    rfl
  rw [e, List.set_append_right _ _ (by omega), hl]
  dsimp only
  rw [hm]
  rfl

end Go.Proofs.YtpeglgkhpgifnaaGreat
/-! Contracts of package image: PutRoot; Roots. (Part of the proofs over package image.) -/
namespace Go.Proofs.YtpeglgkhpgifnaaGreat
open Go.RowKit
set_option linter.unusedVariables false

/-! ### Roots -/
theorem roots1_any (c : Int) (w : World) : Calls Tryz.prog 58 #[.int .u8 c] w fun e w' => e = .returned (.bool (c != 0)) ∧ w = w' := by
  go_enter Tryz.func58, Tryz.ntmps58
  go_wp2
  go_ret
  exact ⟨rfl, rfl⟩
set_option maxHeartbeats 400000 in
theorem indexFunc_any (a : Option Addr) (cap : Nat) (l : List Int) (w : World) (hbs : Bs w a cap l) :
    Calls Tryz.prog 88 #[.slice a l.length cap, .func (.func 58) #[] #[]] w fun e w' => e = .returned (.int .i64 (firstNz l)) ∧ w = w' := by
  have hl : l.length ≤ 140737488351232 := hbs.2.2.1
  have HN := hide (fun k => firstNz_nat (l := l) (k := k))
  have HM := hide (firstNz_neg (l := l))
  generalize firstNz l = F at *
  go_enter Tryz.func88, Tryz.ntmps88
  go_wp2
  go_loop [5, 8] (fun _ i => ∃ k : Nat, k ≤ l.length ∧ i = .int .i64 k ∧ ∀ j, j < k → (l.getD j 0 != 0) = false) (fun _ i => l.length - (intOf i).toNat)
  case atStart => exact ⟨0, by omega, rfl, fun j hj => absurd hj (Nat.not_lt_zero j)⟩
  case round =>
    obtain ⟨k, hk, rfl, hall⟩ := hrel
    have HA : Hid (∀ j, j < k → (l.getD j 0 != 0) = false) := hall
    clear hall
    by_cases hlt : k < l.length
    · obtain ⟨b, off, rfl, hcell⟩ := hbs.at k hlt
      have HC := hide (roots1_any (l.getD k 0) w)
      have HK := hide (unhide HN k hlt)
      clear hbs
      have HF := hide (fun h => First.step (f := fun j => (l.getD j 0 != 0)) (unhide HA) h)
      generalize l.getD k 0 = c at *
      cases hb : (c != 0)
      · rw [hb] at HC
        have HS := hide (unhide HF hb)
        clear hb
        go_wp2_with (go_at_call 58; refine (unhide HC).mono ?_; rintro e w' ⟨rfl, rfl⟩)
        go_round
        case rel => exact ⟨k + 1, by omega, by go_num, unhide HS⟩
        case measure => simp [intOf]; omega
      · rw [hb] at HC
        have HS := hide (unhide HK hb (unhide HA))
        clear hb
        go_wp2_with (go_at_call 58; refine (unhide HC).mono ?_; rintro e w' ⟨rfl, rfl⟩)
        go_ret
        exact ⟨by rw [unhide HS]; rfl, rfl⟩
    · obtain rfl : k = l.length := by omega
      go_wp2
      go_ret
      exact ⟨by rw [unhide HM (unhide HA)]; rfl, rfl⟩
theorem contains_any (a : Option Addr) (cap : Nat) (l : List Int) (w : World) (hbs : Bs w a cap l) :
    Calls Tryz.prog 57 #[.slice a l.length cap, .func (.func 58) #[] #[]] w fun e w' => e = .returned (.bool (isRoot l)) ∧ w = w' := by
  have HI := hide (indexFunc_any a cap l w hbs)
  have hv : firstNz l = -1 ∧ isRoot l = false ∨ 0 ≤ firstNz l ∧ isRoot l = true := by
    unfold firstNz
    cases isRoot l with
    | true => rw [if_pos rfl]; exact .inr ⟨by omega, rfl⟩
    | false => rw [if_neg (by simp)]; exact .inl ⟨rfl, rfl⟩
  generalize firstNz l = F at *
  generalize isRoot l = R at *
  generalize l.length = N at *
  rcases hv with ⟨rfl, rfl⟩ | ⟨h, rfl⟩
  all_goals
    go_enter Tryz.func57, Tryz.ntmps57
    go_wp2_with (go_at_call 88; refine (unhide HI).mono ?_; rintro e w1 ⟨rfl, rfl⟩)
    go_ret
    exact ⟨rfl, rfl⟩
end Go.Proofs.YtpeglgkhpgifnaaGreat
/-! Contracts of package image: Roots. (Part of the proofs over package image.) -/
namespace Go.Proofs.YtpeglgkhpgifnaaGreat
open Go.RowKit
set_option linter.unusedVariables false

theorem size_root : (Tryz.prog.info? 72).map (·.size) = some 2 := by kernel_rfl
theorem RoB.set {w : World} {g : Nat} {r : (ByteArray × Int)} (h : RoB w g r) (s : ByteArray) (x : Int) : RoB ((w.setCell ⟨g, 0, none⟩ (.string s)).setCell ⟨g, 1, none⟩ (.int .i64 x)) g (s, x) := by
  have h1 := heap_setCell_same w g 0 _ _ (.string s) h
  exact heap_setCell_same _ g 1 _ _ (.int .i64 x) h1
set_option maxHeartbeats 1000000 in
theorem rootOf_any (a : Option Addr) (cap : Nat) (r : List Int) (w : World) (hb : Bs w a cap r) (h11 : r.length = 11) :
    Calls Tryz.prog 59 #[.slice a 11 cap] w fun e w' => e = .returned (.agg #[.string (rootOf r).1, .int .i64 (rootOf r).2]) ∧ Below w.heap.size w w' := by
  have hb0 : Below w.heap.size w (w.alloc (.cells #[.string { data := #[] }, .int .i64 0] 72)) := (Below.refl _ _).alloc (Nat.le_refl _) _
  have hb1 := hb.below hb0
  obtain ⟨a', hhi, hb2⟩ := slice_hi (P := Tryz.prog) (t := 22) Tryz.underlying22 size_u8 hb1 8 (by omega)
  rw [h11, show ((8 : Nat) : Int) = 8 from rfl] at hhi
  have h8 : (r.take 8).length = 8 := by rw [List.length_take]; omega
  have HG := hide (getName_any a' cap (r.take 8) _ hb2)
  rw [h8] at HG
  have HN := hide (RoB.new w (({ data := #[] } : ByteArray), 0))
  have HBS := hide hb
  have HB0 := hide hb0
  unfold rootOf
  dsimp only
  generalize (readOut (r.take 8)).1 = s at *
  generalize (readOut (r.take 8)).2 = c at *
  generalize hx : r.getD 10 0 = x
  have HX := hide hx
  clear hb hb1 hb2 hb0 hx
  go_enter Tryz.func59, Tryz.ntmps59
  go_wp2_with fail
  refine (unhide HG).mono ?_
  rintro e w1 ⟨rfl, hb1⟩
  have hro := (unhide HN).below hb1 (by simp)
  obtain ⟨c0, c1⟩ := hro.cells
  have f0 := frozen_of_row _ _ 0 _ _ hro
  have f1 := frozen_of_row _ _ 1 _ _ hro
  have hB1 := (unhide HB0).trans (hb1.mono (unhide HB0).size)
  have hbs1 := (unhide HBS).below hB1
  obtain ⟨b, off, rfl, hcell⟩ := hbs1.at 10 (by omega)
  have hbd := hbs1.1.getD 10
  have HRO := hide hro
  have HB1 := hide hB1
  dsimp only at c0 c1
  clear hro hB1 hbs1 hb1 HB0 HN HG HBS
  rw [unhide HX] at hcell hbd
  go_wp2
  refine bodyPost_ret (results_cell_row rfl _ _ w.heap.size 72 _ (0, 0) _ rfl ((unhide HRO).set s x) Tryz.underlying72 rfl (by rw [size_root]; rfl)) rfl ?_
  exact ⟨rfl, ((unhide HB1).setCell (Nat.le_refl _) _).setCell (Nat.le_refl _) _⟩

theorem iRoots_no (a : Option Addr) (len cap : Nat) (w : World) (hl : len ≤ 140737488351232) (hq : lenB len = false) :
    Calls Tryz.prog 28 #[.slice a len cap] w fun e w' => e = .returned (.tuple #[.slice none 0 0, errV 3]) ∧ w = w' := by
  rw [errV_pos 3 (by decide)]
  have HL := hide (fun W => isLength_any len W)
  rw [hq] at HL
  clear hq
  go_enter Tryz.func28, Tryz.ntmps28
  go_wp2_with (go_at_call 47; refine (unhide HL _).mono ?_; rintro e w1 ⟨rfl, rfl⟩)
  go_ret2
  exact ⟨rfl, rfl⟩
theorem rootsK_yes {l : List Int} {k : Nat} (ht : isRoot (rowAt l k) = true) : rootsK l (k + 1) = rootsK l k ++ [rootOf (rowAt l k)] := by
  show rootsK l k ++ _ = _
  rw [if_pos ht]
theorem rootsK_no {l : List Int} {k : Nat} (ht : isRoot (rowAt l k) = false) : rootsK l (k + 1) = rootsK l k := by
  show rootsK l k ++ _ = _
  rw [if_neg (by rw [ht]; simp), List.append_nil]

set_option maxRecDepth 100000 in
set_option maxHeartbeats 2000000 in
theorem iRoots_yes (a : Option Addr) (cap : Nat) (l : List Int) (w : World) (hb : Bs w a cap l) (hq : lenB l.length = true) :
    Calls Tryz.prog 28 #[.slice a l.length cap] w fun e w' => ∃ v, e = .returned (.tuple #[v, .nilIface]) ∧ Lst roC 2 72 w' w.heap.size v (rootsK l 8) ∧ Below w.heap.size w w' := by
  have HL := hide (fun W => isLength_any l.length W)
  have hl := lenB_iff.1 hq
  rw [hq] at HL
  clear hq
  obtain ⟨i0, hi0, hz0, hz1, hz2⟩ := info_parts info_root
  have HB := hide hb
  have hbl := hb.2.2.1
  clear hb
  go_enter Tryz.func28, Tryz.ntmps28
  go_wp2_with (go_at_call 47; refine (unhide HL _).mono ?_; rintro e w1 ⟨rfl, rfl⟩)
  go_loopw [4, 12] (fun v hv wr => ∃ k : Nat, k ≤ 8 ∧ hv = .int .i64 k ∧ Lst roC 2 72 wr w.heap.size v (rootsK l k) ∧ Below w.heap.size w wr) (fun _ hv _ => 8 - (intOf hv).toNat)
  case atStart => exact ⟨0, by omega, rfl, Lst.nil _ _, Below.refl _ _⟩
  case round =>
    obtain ⟨k, hk, rfl, hown, hbel⟩ := hrel
    obtain ⟨va, vm, vc, rfl⟩ := hown.shape
    by_cases hlt : k < 8
    · have hbs := (unhide HB).below hbel
      have HP1 := hide (rootAt_any k wr (by omega))
      have HP2 := hide (rootAt_any (k + 1) wr (by omega))
      have ek : ((k + 1 : Nat) : Int) = (k : Int) + 1 := by omega
      rw [ek] at HP2
      obtain ⟨a', hlh, hb2⟩ := slice_lohi (P := Tryz.prog) (t := 22) Tryz.underlying22 size_u8 hbs (200 + 11 * k) (200 + 11 * (k + 1)) (by omega) (by omega)
      have e11 : 200 + 11 * (k + 1) - (200 + 11 * k) = 11 := by omega
      rw [e11] at hlh hb2
      have hr11 : (rowAt l k).length = 11 := rowAt_len (by omega)
      have HC := hide (contains_any a' (cap - (200 + 11 * k)) (rowAt l k) wr hb2)
      have HR := hide (rootOf_any a' (cap - (200 + 11 * k)) (rowAt l k) wr hb2 hr11)
      rw [hr11] at HC
      have HO := hide hown
      have HBEL := hide hbel
      have hp1 : (200 + 11 * k : Nat) ≤ l.length := by omega
      clear hown hbel hbs hb2 hr11 e11 ek
      generalize 200 + 11 * (k + 1) = p2 at *
      generalize 200 + 11 * k = p1 at *
      by_cases ht : isRoot (rowAt l k) = true
      · rw [ht] at HC
        have HE := hide (rootsK_yes ht)
        have HLN := hide (rootsK_len l k)
        clear ht
        generalize hent : rootOf (rowAt l k) = ent at *
        clear hent
        obtain ⟨s, x⟩ := ent
        dsimp only at HR
        go_wp2_with (first | (go_at_call 56; refine (unhide HP1).mono ?_; rintro e w1 ⟨rfl, hw1⟩; subst hw1) | (go_at_call 56; refine (unhide HP2).mono ?_; rintro e w1 ⟨rfl, hw1⟩; subst hw1) | (go_at_call 57; refine (unhide HC).mono ?_; rintro e w1 ⟨rfl, hw1⟩; subst hw1))
        refine (unhide HR).mono ?_
        rintro e w1 ⟨rfl, hb1⟩
        have hB1 := (unhide HBEL).trans (hb1.mono (unhide HBEL).size)
        have HB3 := hide (hB1.alloc hB1.size (.cells #[.string s, .int .i64 x] 72))
        have HO3 := hide (((unhide HO).below hb1).below ((Below.refl _ _).alloc (Nat.le_refl _) (.cells #[.string s, .int .i64 x] 72)))
        have hsz := (unhide HBEL).size
        have hsz1 := hb1.size
        have HGN : Hid ((w1.alloc (.cells #[.string s, .int .i64 x] 72)).heap[w1.heap.size]? = some (.cells (roC (s, x)).toArray 72 (0, 0))) := hide (heap_alloc_new w1 _)
        clear hb1 hB1 HO HBEL HR HC
        go_wp2_with (at_builtin; refine wpList_append_lst rfl _ _ 47 rfl w.heap.size i0 (.agg #[.string ByteArray.empty, .int .i64 0]) 24 Tryz.underlying47 hi0 hz0 hz1 hz2 rfl (by decide) (by decide) _ _ rfl (unhide HO3) w1.heap.size (s, x) rfl (unhide HGN) rfl (roC_one _) (Nat.le_trans (unhide HLN) (by omega)) (by simp; omega) ?_)
        intro v9 w9 hown9 hbel9
        have HO9 := hide hown9
        have HB9 := hide ((unhide HB3).trans hbel9)
        obtain ⟨a9, m9, c9, rfl⟩ := hown9.shape
        clear hown9 hbel9 HO3 HB3 HGN
        go_wp2
        go_roundw
        case rel => exact ⟨k + 1, by omega, by go_num, by rw [unhide HE]; exact unhide HO9, unhide HB9⟩
        case measure => simp [intOf]; omega
      · have ht' : isRoot (rowAt l k) = false := by simpa using ht
        rw [ht'] at HC
        have HE := hide (rootsK_no ht')
        clear ht ht' HR
        go_wp2_with (first | (go_at_call 56; refine (unhide HP1).mono ?_; rintro e w1 ⟨rfl, hw1⟩; subst hw1) | (go_at_call 56; refine (unhide HP2).mono ?_; rintro e w1 ⟨rfl, hw1⟩; subst hw1) | (go_at_call 57; refine (unhide HC).mono ?_; rintro e w1 ⟨rfl, hw1⟩; subst hw1))
        go_roundw
        case rel => exact ⟨k + 1, by omega, by go_num, by rw [unhide HE]; exact unhide HO, unhide HBEL⟩
        case measure => simp [intOf]; omega
    · obtain rfl : k = 8 := by omega
      have HO := hide hown
      have HBEL := hide hbel
      clear hown hbel
      go_wp2
      go_ret2
      exact ⟨_, rfl, unhide HO, unhide HBEL⟩
theorem iRoots_any (a : Option Addr) (cap : Nat) (l : List Int) (w : World) (hb : Bs w a cap l) :
    Calls Tryz.prog 28 #[.slice a l.length cap] w fun e w' => ∃ v, e = .returned (.tuple #[v, errV (lenE l.length)]) ∧ Lst roC 2 72 w' w.heap.size v (roots l) ∧ Below w.heap.size w w' := by
  unfold lenE roots
  cases hq : lenB l.length with
  | true =>
    rw [if_pos rfl, if_pos rfl, errV_zero]
    exact iRoots_yes a cap l w hb hq
  | false =>
    rw [if_neg (by simp), if_neg (by simp)]
    exact (iRoots_no a l.length cap w hb.2.2.1 hq).mono fun e w' ⟨he, hw⟩ => ⟨_, he, Lst.nil _ _, by rw [hw]; exact Below.refl _ _⟩
end Go.Proofs.YtpeglgkhpgifnaaGreat
