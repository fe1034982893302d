/-
  Joined by program: ImF; ImG; ImH; ImI. (Parts of the proofs over the packages of the program.)
-/
import Derived.Test.YtpeglgkhpgifnaaGreatDoorJIm
import Derived.Test.YtpeglgkhpgifnaaGreatDoorJRef
/-! Contracts of package image: Entries. (Part of the proofs over package image.) -/
namespace Go.Proofs.YtpeglgkhpgifnaaGreatDoor
open Go.RowKit
set_option linter.unusedVariables false

def lenE (n : Int) : Int := if lenB n = true then 0 else 3
theorem tag_chk {l : List Int} {h : Int} (hq : lenB l.length = true) (h1 : 1 ≤ h) (h2 : h ≤ 40) (ht : tagAt l h ≠ 0) : chkE l h = 0 := chkE_zero.2 ⟨hq, hndB_iff.2 ⟨h1, h2⟩, ht⟩
theorem entsK_yes {l : List Int} {k : Nat} (ht : tagAt l ((k : Int) + 1) ≠ 0) : entsK l (k + 1) = entsK l k ++ [entOf l ((k : Int) + 1)] := by
  show entsK l k ++ _ = _
  rw [if_neg ht]
theorem entsK_no {l : List Int} {k : Nat} (ht : tagAt l ((k : Int) + 1) = 0) : entsK l (k + 1) = entsK l k := by
  show entsK l k ++ _ = _
  rw [if_pos ht, List.append_nil]

theorem iEnts_no (a : Option Addr) (len cap : Nat) (w : World) (hl : len ≤ 140737488351232) (hq : lenB len = false) :
    Calls Tryz.prog 20 #[.slice a len cap] w fun e w' => e = .returned (.tuple #[.slice none 0 0, errV 3]) ∧ w = w' := by
  rw [errV_pos 3 (by decide)]
  have HL := hide (fun W => isLength_any len W)
  rw [hq] at HL
  clear hq
  go_enter Tryz.func20, Tryz.ntmps20
  go_wp2_with (go_at_call 34; refine (unhide HL _).mono ?_; rintro e w1 ⟨rfl, rfl⟩)
  go_ret2
  exact ⟨rfl, rfl⟩

set_option maxRecDepth 100000 in
set_option maxHeartbeats 2000000 in
theorem iEnts_yes (a : Option Addr) (cap : Nat) (l : List Int) (w : World) (hb : Bs w a cap l) (hq : lenB l.length = true) :
    Calls Tryz.prog 20 #[.slice a l.length cap] w fun e w' => ∃ v, e = .returned (.tuple #[v, .nilIface]) ∧ Lst enC 4 47 w' w.heap.size v (entsK l 40) ∧ Below w.heap.size w w' := by
  have HL := hide (fun W => isLength_any l.length W)
  have hl := lenB_iff.1 hq
  have HQ := hide hq
  rw [hq] at HL
  clear hq
  obtain ⟨i0, hi0, hz0, hz1, hz2⟩ := info_parts info_ent
  have HB := hide hb
  have hbl := hb.2.2.1
  clear hb
  go_enter Tryz.func20, Tryz.ntmps20
  go_wp2_with (go_at_call 34; refine (unhide HL _).mono ?_; rintro e w1 ⟨rfl, rfl⟩)
  go_loopw [4, 5] (fun v hv wr => ∃ k : Nat, k ≤ 40 ∧ hv = .int .i64 ((k : Int) + 1) ∧ Lst enC 4 47 wr w.heap.size v (entsK l k) ∧ Below w.heap.size w wr) (fun _ hv _ => 41 - (intOf hv).toNat)
  case atStart => exact ⟨0, by omega, rfl, Lst.nil _ _, Below.refl _ _⟩
  case round =>
    obtain ⟨k, hk, rfl, hown, hbel⟩ := hrel
    obtain ⟨va, vm, vc, rfl⟩ := hown.shape
    by_cases hlt : k < 40
    · have hbs := (unhide HB).below hbel
      have HH := hide (has_any a cap l ((k : Int) + 1) wr hbs (by omega) (by omega) (by omega))
      by_cases ht : tagAt l ((k : Int) + 1) = 0
      · rw [ht] at HH
        have HE := hide (entsK_no ht)
        have HO := hide hown
        have HBEL := hide hbel
        clear ht hown hbel hbs
        go_wp2_with (go_at_call 35; refine (unhide HH).mono ?_; rintro e w1 ⟨rfl, hw1⟩; subst hw1)
        go_roundw
        case rel => exact ⟨k + 1, by omega, by go_num, by rw [unhide HE]; exact unhide HO, unhide HBEL⟩
        case measure => simp [intOf]; omega
      · rw [bne_iff_ne.2 ht] at HH
        have HG := hide (iGet_yes a cap l ((k : Int) + 1) wr hbs (tag_chk (unhide HQ) (by omega) (by omega) ht))
        have HE := hide (entsK_yes ht)
        have HLN := hide (entsK_len l k)
        have HO := hide hown
        have HBEL := hide hbel
        clear ht hown hbel hbs
        generalize hent : entOf l ((k : Int) + 1) = ent at *
        clear hent
        obtain ⟨x, y, z, t⟩ := ent
        unfold entV at HG
        dsimp only at HG
        go_wp2_with (first | (go_at_call 35; refine (unhide HH).mono ?_; rintro e w1 ⟨rfl, hw1⟩; subst hw1))
        refine (unhide HG).mono ?_
        rintro e w1 ⟨rfl, hb1⟩
        have hB1 := (unhide HBEL).trans (hb1.mono (unhide HBEL).size)
        have hB2 := hB1.alloc hB1.size (.cells #[.int .i64 x, .int .i64 y, .int .i64 z, .int .i64 t] 47)
        have HB3 := hide (hB2.alloc hB2.size (.cells #[.int .i64 x, .int .i64 y, .int .i64 z, .int .i64 t] 47))
        have HO3 := hide ((((unhide HO).below hb1).below ((Below.refl _ _).alloc (Nat.le_refl _) (.cells #[.int .i64 x, .int .i64 y, .int .i64 z, .int .i64 t] 47))).below ((Below.refl _ _).alloc (Nat.le_refl _) (.cells #[.int .i64 x, .int .i64 y, .int .i64 z, .int .i64 t] 47)))
        have hsz := (unhide HBEL).size
        have hsz1 := hb1.size
        have HGN : Hid (((w1.alloc (.cells #[.int .i64 x, .int .i64 y, .int .i64 z, .int .i64 t] 47)).alloc (.cells #[.int .i64 x, .int .i64 y, .int .i64 z, .int .i64 t] 47)).heap[w1.heap.size + 1]? = some (.cells (enC (x, y, z, t)).toArray 47 (0, 0))) := hide (by
          have := heap_alloc_new (w1.alloc (.cells #[.int .i64 x, .int .i64 y, .int .i64 z, .int .i64 t] 47)) (.cells #[.int .i64 x, .int .i64 y, .int .i64 z, .int .i64 t] 47)
          rw [sz_alloc] at this
          exact this)
        clear hb1 hB1 hB2 HO HBEL HG HH
        go_wp2_with (at_builtin; refine wpList_append_lst rfl _ _ 42 rfl w.heap.size i0 (.agg #[.int .i64 0, .int .i64 0, .int .i64 0, .int .i64 0]) 32 Tryz.underlying42 hi0 hz0 hz1 hz2 rfl (by decide) (by decide) _ _ rfl (unhide HO3) (w1.heap.size + 1) (x, y, z, t) rfl (unhide HGN) rfl (enC_one _) (Nat.le_trans (unhide HLN) (by omega)) (by simp; omega) ?_)
        intro v9 w9 hown9 hbel9
        have HO9 := hide hown9
        have HB9 := hide ((unhide HB3).trans hbel9)
        obtain ⟨a9, m9, c9, rfl⟩ := hown9.shape
        clear hown9 hbel9 HO3 HB3 HGN
        go_wp2
        go_roundw
        case rel => exact ⟨k + 1, by omega, by go_num, by rw [unhide HE]; exact unhide HO9, unhide HB9⟩
        case measure => simp [intOf]; omega
    · obtain rfl : k = 40 := by omega
      have HO := hide hown
      have HBEL := hide hbel
      clear hown hbel
      go_wp2
      go_ret2
      exact ⟨_, rfl, unhide HO, unhide HBEL⟩
theorem iEnts_any (a : Option Addr) (cap : Nat) (l : List Int) (w : World) (hb : Bs w a cap l) :
    Calls Tryz.prog 20 #[.slice a l.length cap] w fun e w' => ∃ v, e = .returned (.tuple #[v, errV (lenE l.length)]) ∧ Lst enC 4 47 w' w.heap.size v (ents l) ∧ Below w.heap.size w w' := by
  unfold lenE ents
  cases hq : lenB l.length with
  | true =>
    rw [if_pos rfl, if_pos rfl, errV_zero]
    exact iEnts_yes a cap l w hb hq
  | false =>
    rw [if_neg (by simp), if_neg (by simp)]
    exact (iEnts_no a l.length cap w hb.2.2.1 hq).mono fun e w' ⟨he, hw⟩ => ⟨_, he, Lst.nil _ _, by rw [hw]; exact Below.refl _ _⟩
end Go.Proofs.YtpeglgkhpgifnaaGreatDoor
/-! Contracts of package image: the bytes of a root; PutRoot. (Part of the proofs over package image.) -/
namespace Go.Proofs.YtpeglgkhpgifnaaGreatDoor
open Go.RowKit
set_option linter.unusedVariables false

/-- A root as a value. -/
def rootV (r : (ByteArray × Int)) : Value := .agg #[.string r.1, .int .i64 r.2]
section
variable {w : World} {g : Nat} {r : (ByteArray × Int)}
end
theorem rowR_set (s : ByteArray) (h : Int) (hn : NameOk s) (h1 : 1 ≤ h) (h2 : h ≤ 40) : (splice (zerosB 11) 0 (nameL s)).set 10 h = rowR (s, h) := by
  have hl := length_nameL s hn.2.1
  have hne : ¬ noRoot (s, h) = true := by
    rw [noRoot_iff]
    rintro ⟨_, h0⟩
    dsimp only at h0
    omega
  unfold rowR
  rw [if_neg hne]
  have hm : h % 256 = h := by omega
  have e : splice (zerosB 11) 0 (nameL s) = nameL s ++ [0, 0, 0] := by
    unfold splice
    rw [List.take_zero, List.nil_append, Nat.zero_add, hl]
    rfl
  rw [e, List.set_append_right _ _ (by omega), hl]
  dsimp only
  rw [hm]
  rfl

end Go.Proofs.YtpeglgkhpgifnaaGreatDoor
/-! Contracts of package image: PutRoot; Roots. (Part of the proofs over package image.) -/
namespace Go.Proofs.YtpeglgkhpgifnaaGreatDoor
open Go.RowKit
set_option linter.unusedVariables false

end Go.Proofs.YtpeglgkhpgifnaaGreatDoor
/-! Contracts of package image: Roots. (Part of the proofs over package image.) -/
namespace Go.Proofs.YtpeglgkhpgifnaaGreatDoor
open Go.RowKit
set_option linter.unusedVariables false

theorem rootsK_yes {l : List Int} {k : Nat} (ht : isRoot (rowAt l k) = true) : rootsK l (k + 1) = rootsK l k ++ [rootOf (rowAt l k)] := by
  show rootsK l k ++ _ = _
  rw [if_pos ht]
theorem rootsK_no {l : List Int} {k : Nat} (ht : isRoot (rowAt l k) = false) : rootsK l (k + 1) = rootsK l k := by
  show rootsK l k ++ _ = _
  rw [if_neg (by rw [ht]; simp), List.append_nil]

end Go.Proofs.YtpeglgkhpgifnaaGreatDoor
