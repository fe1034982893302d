/-
  Joined by program: OlV; AppBs; IrA; IrB; OlI; OlJ; ImI; OlK; OpenInts. (Parts of the proofs over the packages of the program.)
-/
import Derived.Test.YtllpeknpplpgeaaGreatDoorJHq
import Derived.Test.YtllpeknpplpgeaaGreatDoorJOl
import Derived.Lib.SlBytesConst
import Derived.Test.YtllpeknpplpgeaaGreatDoorOwnV
import Derived.Laws.AppendOwnNone
import Derived.Test.YtllpeknpplpgeaaGreatDoorImF
import Derived.Test.YtllpeknpplpgeaaGreatDoorRefNumA
import Derived.Test.YtllpeknpplpgeaaGreatDoorImE
import Derived.Test.YtllpeknpplpgeaaGreatDoorImD
import Derived.ArgAppend
import Derived.Maps.AppendAt
import Derived.Deep.RegionHeld3
import Derived.Test.YtllpeknpplpgeaaGreatDoorImH
import Derived.Test.YtllpeknpplpgeaaGreatDoorJCh
import Derived.Test.YtllpeknpplpgeaaGreatDoorBase
import Derived.Test.YtllpeknpplpgeaaGreatDoorProg
import Derived.OpenShut
import Derived.ChangeSlices
import Derived.SizedLaws
import Derived.Deep.SlicePairs
import Derived.Deep.Grids
/-! Contracts of package old: Version. (Part of the proofs over package old.) -/
namespace Go.Proofs.YtllpeknpplpgeaaGreatDoor
open Go.RowKit
set_option linter.unusedVariables false

/-- Which version bytes are. -/
def verL (b : List Int) : Int := if hdB b = true then 1 else if lenB b.length = true then 2 else 0
theorem old_row (w : World) : Bs (w.alloc (.cells #[.int .u8 79, .int .u8 76, .int .u8 68, .int .u8 49] 5 (4, 5))) (some ⟨w.heap.size, 0, none⟩) 4 [79, 76, 68, 49] := by
  refine ⟨fun z hz => ?_, by decide, by decide, fun h => (by cases h), fun _ => ⟨w.heap.size, 0, rfl, fun i hi => ?_⟩⟩
  · simp at hz
    omega
  · rw [cell_of_row _ _ _ _ _ _ (heap_alloc_new w _)]
    match i, hi with
    | 0, _ => rfl
    | 1, _ => rfl
    | 2, _ => rfl
    | 3, _ => rfl
theorem version_any (a : Option Addr) (cap : Nat) (b : List Int) (w : World) (hb : Bs w a cap b) :
    Calls Tryz.prog 12 #[.slice a b.length cap] w fun e w' => e = .returned (.int .i64 (verL b)) ∧ Below w.heap.size w w' := by
  have hB : Below w.heap.size w (w.alloc (.cells #[.int .u8 79, .int .u8 76, .int .u8 68, .int .u8 49] 5 (4, 5))) := (Below.refl _ _).alloc (Nat.le_refl _) _
  have hbl := hb.2.2.1
  have HC : Hid (Calls Tryz.prog 37 #[.slice a b.length cap, .slice (some ⟨w.heap.size, 0, none⟩) 4 4] (w.alloc (.cells #[.int .u8 79, .int .u8 76, .int .u8 68, .int .u8 49] 5 (4, 5))) fun e w' => e = .returned (.bool (hdB b)) ∧ (w.alloc (.cells #[.int .u8 79, .int .u8 76, .int .u8 68, .int .u8 49] 5 (4, 5))) = w') := hide (by
    by_cases h4 : 4 ≤ b.length
    · rw [hdB_take h4]
      exact hasPrefix_any a _ cap 4 b [79, 76, 68, 49] _ (hb.below hB) (old_row w) h4
    · rw [hdB_len (by omega)]
      exact hasPrefix_short a _ b.length 4 cap 4 _ hbl (by decide) (by omega))
  have HB := hide hB
  unfold verL
  have kc := fun (w : World) (C : Array Value) (n c : Nat) => Lib.run_convert_bytes_const (P := Tryz.prog) w 22 5 C n c Tryz.underlying22 Tryz.underlying5
  cases hh : hdB b
  · rw [hh] at HC
    rw [if_neg (by simp)]
    clear hh hb hB
    by_cases h1 : 288 ≤ b.length
    · by_cases h2 : b.length ≤ 6400
      · rw [if_pos (lenB_iff.2 ⟨by omega, by omega⟩)]
        generalize b.length = N at *
        go_enter Tryz.func12, Tryz.ntmps12
        go_wp2_with fail
        refine (unhide HC).mono ?_
        rintro e w1 ⟨rfl, rfl⟩
        go_wp2
        go_ret
        exact ⟨rfl, unhide HB⟩
      · rw [if_neg (fun h => h2 (by have := lenB_iff.1 h; omega))]
        generalize b.length = N at *
        go_enter Tryz.func12, Tryz.ntmps12
        go_wp2_with fail
        refine (unhide HC).mono ?_
        rintro e w1 ⟨rfl, rfl⟩
        go_wp2
        go_ret
        exact ⟨rfl, unhide HB⟩
    · rw [if_neg (fun h => h1 (by have := lenB_iff.1 h; omega))]
      generalize b.length = N at *
      go_enter Tryz.func12, Tryz.ntmps12
      go_wp2_with fail
      refine (unhide HC).mono ?_
      rintro e w1 ⟨rfl, rfl⟩
      go_wp2
      go_ret
      exact ⟨rfl, unhide HB⟩
  · rw [hh] at HC
    rw [if_pos rfl]
    clear hh hb hB
    generalize b.length = N at *
    go_enter Tryz.func12, Tryz.ntmps12
    go_wp2_with fail
    refine (unhide HC).mono ?_
    rintro e w1 ⟨rfl, rfl⟩
    go_wp2
    go_ret
    exact ⟨rfl, unhide HB⟩
end Go.Proofs.YtllpeknpplpgeaaGreatDoor
/-! 'append(v, l...)' of bytes, for every l. (Part of the proofs.) -/
namespace Go.Proofs.YtllpeknpplpgeaaGreatDoor
open Go.RowKit
set_option linter.unusedVariables false

theorem wpList_append_bs {P : Program} {w : World} {ops : Array Oper} {rest : List Oper} {o : Oper} {a : Act} {Q : Exit → Act → World → Prop} (hgd : o.guard = none) (s x : Operand) (t : TypeId)
    (ho : o.op = .call { callee := .builtin .append, args := #[s, x], argTypes := #[t, t] }) (i : TypeInfo) (ht : P.underlying t = some (.slice 5)) (hi : P.info? 5 = some i) (hz : i.zero = some (.int .u8 0)) (h4 : i.size = 1) (h5 : i.bytes = 1)
    (B : Nat) (v : Value) (L : List Int) (hs : a.eval s = v) (hown : OwnV w B v L) (hB : B ≤ w.heap.size) (sp : Option Addr) (n cap : Nat) (l : List Int) (hx : a.eval x = .slice sp n cap) (hn : n = l.length) (hb : Bs w sp cap l) (hL : L.length + l.length ≤ 140737488351232)
    (h : ∀ v' w', OwnV w' B v' (L ++ l) → Below B w w' → wpList P ops Q rest (a.put o.dst v') w') :
    wpList P ops Q (o :: rest) a w := by
  subst hn
  have fin : ∀ v' w', w'.ownsRow B 5 1 v' (L.length + l.length) (L.map (Value.int .u8) ++ l.map (Value.int .u8)) → w.grownBy w' v.ownBlock → wpList P ops Q rest (a.put o.dst v') w' := fun v' w' ho' hg' => by
    refine h v' w' ?_ ((Below.refl _ _).grown hg' hB (fun k hk => hown.block k hk))
    unfold OwnV
    rw [List.length_append, List.map_append]
    exact ho'
  by_cases h0 : l = []
  · subst h0
    cases sp with
    | none =>
      have hc : cap = 0 := hb.2.2.2.1 rfl
      subst hc
      refine wpList_append_own_none hgd s x t ho B 5 i 1 ht hi v _ _ hs hown hx ?_
      exact h v w (by rw [List.append_nil]; exact hown) (Below.refl _ _)
    | some y =>
      exact wpList_append_own w hgd s x t ho B 5 i (.int .u8 0) 1 1 ht hi hz h4 h5 rfl (by decide) v _ _ hs hown y 0 cap [] hx (by simp) (fun j u hj => by simp at hj) (fun u hu => by cases hu) (by unfold maxLen; simp at hL; omega) (by simp at hL; omega) hB (fun v' w' ho' hg' _ => fin v' w' ho' hg')
  · obtain ⟨b, off, rfl, hc⟩ := hb.2.2.2.2 h0
    exact wpList_append_own w hgd s x t ho B 5 i (.int .u8 0) 1 1 ht hi hz h4 h5 rfl (by decide) v _ _ hs hown ⟨b, off, none⟩ l.length cap (l.map (Value.int .u8)) hx (by simp) (news_bs hb) (oneCell_u8 l) (by unfold maxLen; omega) (by omega) hB (fun v' w' ho' hg' _ => fin v' w' ho' hg')
end Go.Proofs.YtllpeknpplpgeaaGreatDoor
/-! Contracts of the reference: whether there may be so many bytes, a handle, its entry. (Part of the proofs over package image.) -/
namespace Go.Proofs.YtllpeknpplpgeaaGreatDoor
open Go.RowKit
set_option linter.unusedVariables false

theorem rImage_any (n : Int) (w : World) :
    Calls Tryz.prog 8 #[.int .i64 n] w fun e w' => e = .returned (.bool (lenB n)) ∧ w = w' := by
  unfold lenB
  by_cases h1 : 288 ≤ n
  · rw [decide_eq_true h1, Bool.true_and]
    go_enter Tryz.func8, Tryz.ntmps8
    go_wp2
    go_ret
    exact ⟨rfl, rfl⟩
  · rw [decide_eq_false h1, Bool.false_and]
    go_enter Tryz.func8, Tryz.ntmps8
    go_wp2
    go_ret
    exact ⟨rfl, rfl⟩
theorem rHandle_any (n : Int) (w : World) :
    Calls Tryz.prog 17 #[.int .i64 n] w fun e w' => e = .returned (.bool (hndB n)) ∧ w = w' := by
  unfold hndB
  by_cases h1 : 1 ≤ n
  · rw [decide_eq_true h1, Bool.true_and]
    go_enter Tryz.func17, Tryz.ntmps17
    go_wp2
    go_ret
    exact ⟨rfl, rfl⟩
  · rw [decide_eq_false h1, Bool.false_and]
    go_enter Tryz.func17, Tryz.ntmps17
    go_wp2
    go_ret
    exact ⟨rfl, rfl⟩

set_option maxHeartbeats 1000000 in
theorem rEntry_any (a : Option Addr) (cap : Nat) (l : List Int) (h : Int) (w : World) (hb : Bs w a cap l) (hl : 288 ≤ l.length) (h1 : 1 ≤ h) (h2 : h ≤ 40) :
    Calls Tryz.prog 18 #[.slice a l.length cap, .int .i64 h] w fun e w' => e = .returned (.tuple #[entV (entOf l h), .bool (tagAt l h != 0)]) ∧ Below w.heap.size w w' := by
  have hp := plc_le h1 h2
  have hpe : ((plc h : Nat) : Int) = 5 * (h - 1) := by unfold plc; omega
  obtain ⟨a1, hs1, hb1⟩ := slice_lohi (P := Tryz.prog) (t := 22) Tryz.underlying22 size_u8 hb (plc h + 1) (plc h + 3) (by omega) (by omega)
  obtain ⟨a2, hs2, hb2⟩ := slice_lohi (P := Tryz.prog) (t := 22) Tryz.underlying22 size_u8 hb (plc h + 3) (plc h + 5) (by omega) (by omega)
  have e1 : plc h + 3 - (plc h + 1) = 2 := by omega
  have e2 : plc h + 5 - (plc h + 3) = 2 := by omega
  rw [e1] at hs1 hb1
  rw [e2] at hs2 hb2
  have l1 : ((l.drop (plc h + 1)).take 2).length = 2 := by simp; omega
  have l2 : ((l.drop (plc h + 3)).take 2).length = 2 := by simp; omega
  have HN1 := hide (fun (W : World) (hW : Below w.heap.size w W) => rNumber a1 _ _ W (hb1.below hW) (by omega))
  have HN2 := hide (fun (W : World) (hW : Below w.heap.size w W) => rNumber a2 _ _ W (hb2.below hW) (by omega))
  rw [l1] at HN1
  rw [l2] at HN2
  have g1 : numOf ((l.drop (plc h + 1)).take 2) = getV l (plc h + 1) 2 := rfl
  have g2 : numOf ((l.drop (plc h + 3)).take 2) = getV l (plc h + 3) 2 := rfl
  rw [g1] at HN1
  rw [g2] at HN2
  obtain ⟨b, off, rfl, hcell⟩ := hb.at (plc h) (by omega)
  have hblt := block_lt_of_cell hcell
  dsimp only at hblt
  have h3 := hb.2.2.1
  have hbd : 0 ≤ tagAt l h ∧ tagAt l h ≤ 255 := hb.1.getD (plc h)
  have ht : l.getD (plc h) 0 = tagAt l h := rfl
  rw [ht] at hcell
  have hcell' : w.cell? ⟨b, off + (5 * (h - 1)).toNat, none⟩ = some (.int .u8 (tagAt l h)) := hcell
  unfold entOf
  have q1 : ((plc h + 1 : Nat) : Int) = (plc h : Int) + 1 := by omega
  have q3 : ((plc h + 3 : Nat) : Int) = (plc h : Int) + 3 := by omega
  have q5 : ((plc h + 5 : Nat) : Int) = (plc h : Int) + 5 := by omega
  rw [q1, q3, hpe] at hs1
  rw [q3, q5, hpe] at hs2
  have hmore : 5 * (h - 1) < (l.length : Int) := by omega
  clear hcell hb hb1 hb2 l1 l2 g1 g2 e1 e2 ht q1 q3 q5
  generalize getV l (plc h + 1) 2 = x at *
  generalize getV l (plc h + 3) 2 = y at *
  generalize tagAt l h = t at *
  generalize plc h = p at *
  generalize l.length = N at *
  go_enter Tryz.func18, Tryz.ntmps18
  go_wp2_with fail
  refine (unhide HN1 _ (((Below.refl _ w).alloc (Nat.le_refl _) _).alloc (by simp) _)).mono ?_
  rintro e w1 ⟨rfl, hw1⟩
  subst hw1
  go_wp2_with fail
  refine (unhide HN2 _ (((Below.refl _ w).alloc (Nat.le_refl _) _).alloc (by simp) _)).mono ?_
  rintro e w1 ⟨rfl, hw1⟩
  subst hw1
  go_wp2_with fail
  go_region
  go_wp2
  have hbl : Below (w.alloc (.cells #[.int .i64 h, .int .i64 x, .int .i64 y, .int .i64 (t - 1)] 47)).heap.size (w.alloc (.cells #[.int .i64 h, .int .i64 x, .int .i64 y, .int .i64 (t - 1)] 47)) (((w.alloc (.cells #[.int .i64 h, .int .i64 x, .int .i64 y, .int .i64 (t - 1)] 47)).alloc (.cells #[.int .i64 h, .int .i64 x, .int .i64 y, .int .i64 (t - 1)] 47)).drew) := ((Below.refl _ _).alloc (Nat.le_refl _) _).drew
  refine bodyPost_ret (results_ent Tryz.results18 _ _ w.heap.size (h, x, y, t - 1) rfl ((EnB.new w (h, x, y, t - 1)).below hbl (by simp))) rfl ?_
  exact ⟨rfl, ((Below.refl _ w).alloc (Nat.le_refl _) _).trans (hbl.mono (by simp))⟩

set_option maxRecDepth 100000 in
set_option maxHeartbeats 2000000 in
theorem rEnts_any (a : Option Addr) (cap : Nat) (l : List Int) (w : World) (hb : Bs w a cap l) (hl : 288 ≤ l.length) :
    Calls Tryz.prog 29 #[.slice a l.length cap] w fun e w' => ∃ v, e = .returned v ∧ Lst enC 4 47 w' w.heap.size v (entsK l 40) ∧ Below w.heap.size w w' := by
  obtain ⟨i0, hi0, hz0, hz1, hz2⟩ := info_parts info_ent
  have HB := hide hb
  have hbl := hb.2.2.1
  clear hb
  go_enter Tryz.func29, Tryz.ntmps29
  go_wp2_with fail
  go_loopw [3, 4] (fun v hv wr => ∃ k : Nat, k ≤ 40 ∧ hv = .int .i64 ((k : Int) + 1) ∧ Lst enC 4 47 wr w.heap.size v (entsK l k) ∧ Below w.heap.size w wr) (fun _ hv _ => 41 - (intOf hv).toNat)
  case atStart => exact ⟨0, by omega, rfl, Lst.nil _ _, Below.refl _ _⟩
  case round =>
    obtain ⟨k, hk, rfl, hown, hbel⟩ := hrel
    obtain ⟨va, vm, vc, rfl⟩ := hown.shape
    by_cases hlt : k < 40
    · have hbs := (unhide HB).below hbel
      have HG := hide (rEntry_any a cap l ((k : Int) + 1) wr hbs hl (by omega) (by omega))
      have HEY := hide (fun ht => entsK_yes (l := l) (k := k) ht)
      have HEN := hide (fun ht => entsK_no (l := l) (k := k) ht)
      have HLN := hide (entsK_len l k)
      have HO := hide hown
      have HBEL := hide hbel
      clear hown hbel hbs
      generalize hent : entOf l ((k : Int) + 1) = ent at *
      clear hent
      obtain ⟨x, y, z, t⟩ := ent
      unfold entV at HG
      dsimp only at HG
      have hsz := (unhide HBEL).size
      by_cases ht : tagAt l ((k : Int) + 1) = 0
      · have HE := hide (unhide HEN ht)
        rw [ht] at HG
        clear ht HEY HEN
        go_wp2_with fail
        refine (unhide HG).mono ?_
        rintro e w1 ⟨rfl, hb1⟩
        have hB1 := (unhide HBEL).trans (hb1.mono (unhide HBEL).size)
        have HB2 := hide (hB1.alloc hB1.size (.cells #[.int .i64 x, .int .i64 y, .int .i64 z, .int .i64 t] 47))
        have HO2 := hide (((unhide HO).below hb1).below ((Below.refl _ _).alloc (Nat.le_refl _) (.cells #[.int .i64 x, .int .i64 y, .int .i64 z, .int .i64 t] 47)))
        clear hb1 hB1 HO HBEL HG
        go_wp2
        go_roundw
        case rel => exact ⟨k + 1, by omega, by go_num, by rw [unhide HE]; exact unhide HO2, unhide HB2⟩
        case measure => simp [intOf]; omega
      · have HE := hide (unhide HEY ht)
        rw [bne_iff_ne.2 ht] at HG
        clear ht HEY HEN
        go_wp2_with fail
        refine (unhide HG).mono ?_
        rintro e w1 ⟨rfl, hb1⟩
        have hB1 := (unhide HBEL).trans (hb1.mono (unhide HBEL).size)
        have hB2 := hB1.alloc hB1.size (.cells #[.int .i64 x, .int .i64 y, .int .i64 z, .int .i64 t] 47)
        have HB3 := hide (hB2.alloc hB2.size (.cells #[.int .i64 x, .int .i64 y, .int .i64 z, .int .i64 t] 47))
        have HO3 := hide ((((unhide HO).below hb1).below ((Below.refl _ _).alloc (Nat.le_refl _) (.cells #[.int .i64 x, .int .i64 y, .int .i64 z, .int .i64 t] 47))).below ((Below.refl _ _).alloc (Nat.le_refl _) (.cells #[.int .i64 x, .int .i64 y, .int .i64 z, .int .i64 t] 47)))
        have hsz1 := hb1.size
        have HGN : Hid (((w1.alloc (.cells #[.int .i64 x, .int .i64 y, .int .i64 z, .int .i64 t] 47)).alloc (.cells #[.int .i64 x, .int .i64 y, .int .i64 z, .int .i64 t] 47)).heap[w1.heap.size + 1]? = some (.cells (enC (x, y, z, t)).toArray 47 (0, 0))) := hide (by
          have := heap_alloc_new (w1.alloc (.cells #[.int .i64 x, .int .i64 y, .int .i64 z, .int .i64 t] 47)) (.cells #[.int .i64 x, .int .i64 y, .int .i64 z, .int .i64 t] 47)
          rw [sz_alloc] at this
          exact this)
        clear hb1 hB1 hB2 HO HBEL HG
        go_wp2_with (at_builtin; refine wpList_append_lst rfl _ _ 67 rfl w.heap.size i0 (.agg #[.int .i64 0, .int .i64 0, .int .i64 0, .int .i64 0]) 32 Tryz.underlying67 hi0 hz0 hz1 hz2 rfl (by decide) (by decide) _ _ rfl (unhide HO3) (w1.heap.size + 1) (x, y, z, t) rfl (unhide HGN) rfl (enC_one _) (Nat.le_trans (unhide HLN) (by omega)) (by simp; omega) ?_)
        intro v9 w9 hown9 hbel9
        have HO9 := hide hown9
        have HB9 := hide ((unhide HB3).trans hbel9)
        obtain ⟨a9, m9, c9, rfl⟩ := hown9.shape
        clear hown9 hbel9 HO3 HB3 HGN
        go_wp2
        go_roundw
        case rel => exact ⟨k + 1, by omega, by go_num, by rw [unhide HE]; exact unhide HO9, unhide HB9⟩
        case measure => simp [intOf]; omega
    · obtain rfl : k = 40 := by omega
      have HO := hide hown
      have HBEL := hide hbel
      clear hown hbel
      go_wp2
      go_ret
      exact ⟨_, rfl, unhide HO, unhide HBEL⟩
end Go.Proofs.YtllpeknpplpgeaaGreatDoor
/-! Contracts of the reference: an image with an entry; bytes that are wiped. (Part of the proofs over package image.) -/
namespace Go.Proofs.YtllpeknpplpgeaaGreatDoor
open Go.RowKit
set_option linter.unusedVariables false

theorem rCopied_any (a : Option Addr) (cap : Nat) (l : List Int) (w : World) (hb : Bs w a cap l) (hne : l ≠ []) :
    Calls Tryz.prog 82 #[.slice a l.length cap] w fun e w' => ∃ g c, e = .returned (.slice (some ⟨g, 0, none⟩) l.length c) ∧ Own w' w.heap.size g c l ∧ Below w.heap.size w w' := by
  obtain ⟨i0, hi, hz0, hz1, hz2⟩ := info_parts info_u8
  have HB := hide hb
  clear hb
  go_enter Tryz.func82, Tryz.ntmps82
  go_wp2_with (at_builtin; refine wpList_append_new rfl _ _ 22 rfl i0 Tryz.underlying22 hi hz0 hz1 hz2 _ _ l rfl rfl (unhide HB) hne ?_)
  intro g c w1 hown hbel
  go_wp2
  go_ret
  exact ⟨g, c, rfl, hown, hbel⟩

/-- Bytes of which so many from a place on are 0. -/
def wipeK (l : List Int) (p : Nat) : Nat → List Int
  | 0 => l
  | k + 1 => (wipeK l p k).set (p + k) 0
theorem length_wipeK (l : List Int) (p k : Nat) : (wipeK l p k).length = l.length := by
  induction k with
  | zero => rfl
  | succ k ih => simp [wipeK, ih]
theorem wipeK_in (l : List Int) (p : Nat) : ∀ k j, j < k → p + k ≤ l.length → (wipeK l p k).getD (p + j) 0 = 0 := by
  intro k
  induction k with
  | zero => intro j hj; omega
  | succ k ih =>
    intro j hj hk
    have hlen := length_wipeK l p k
    by_cases h : j = k
    · subst h
      simp only [wipeK, List.getD]
      rw [List.getElem?_set_self (by omega)]
      rfl
    · have h1 := ih j (by omega) (by omega)
      simp only [wipeK, List.getD]
      rw [List.getElem?_set_ne (by omega)]
      exact h1
theorem wipeK_out (l : List Int) (p : Nat) : ∀ k j, (j < p ∨ p + k ≤ j) → (wipeK l p k).getD j 0 = l.getD j 0 := by
  intro k
  induction k with
  | zero => intro j _; rfl
  | succ k ih =>
    intro j hj
    rw [← ih j (by omega)]
    simp [wipeK, List.getD]
    rw [List.getElem?_set_ne (by omega)]
theorem zerosB_getD (n j : Nat) : (zerosB n).getD j 0 = 0 := by
  have := zeros_getD n 0 j
  rwa [List.drop_zero] at this
theorem wipeK_splice (l : List Int) (p n : Nat) (h : p + n ≤ l.length) : wipeK l p n = splice l p (zerosB n) := by
  have hz := length_zerosB n
  have hs := length_splice (z := l) (l := zerosB n) (off := p) (by omega)
  apply ext_getD
  · rw [length_wipeK, hs]
  · intro j hj
    rw [length_wipeK] at hj
    by_cases h1 : j < p ∨ p + n ≤ j
    · rw [wipeK_out l p n j h1, splice_out (by omega) (by omega)]
    · obtain ⟨i, rfl⟩ : ∃ i, j = p + i := ⟨j - p, by omega⟩
      rw [wipeK_in l p n i (by omega) h, splice_in (by omega) (by omega), zerosB_getD]

set_option maxHeartbeats 1000000 in
theorem rWipe_any (a : Option Addr) (cap : Nat) (l : List Int) (p n : Nat) (w : World) (hb : Bs w a cap l) (hfit : p + n ≤ l.length) (hl : l.length ≤ 6400) (h0 : 0 < l.length) :
    Calls Tryz.prog 52 #[.slice a l.length cap, .int .i64 p, .int .i64 n] w fun e w' => ∃ g c, e = .returned (.slice (some ⟨g, 0, none⟩) l.length c) ∧ Own w' w.heap.size g c (splice l p (zerosB n)) ∧ Below w.heap.size w w' := by
  rw [← wipeK_splice l p n hfit]
  have HC := hide (rCopied_any a cap l w hb (by intro e; rw [e] at h0; simp at h0))
  clear hb
  go_enter Tryz.func52, Tryz.ntmps52
  go_wp2_with fail
  refine (unhide HC).mono ?_
  rintro e w1 ⟨g, c, rfl, hown, hbel⟩
  have HO := hide hown
  have HB := hide hbel
  have hgb := hown.base
  clear hown hbel HC
  go_wp2_with fail
  go_loopw [8] (fun v wr => ∃ k : Nat, k ≤ n ∧ v = .int .i64 k ∧ Own wr w.heap.size g c (wipeK l p k) ∧ Below w.heap.size w wr) (fun v _ => n - (intOf v).toNat)
  case atStart => exact ⟨0, Nat.zero_le _, rfl, unhide HO, unhide HB⟩
  case round =>
    obtain ⟨k, hk, rfl, hown, hbel⟩ := hrel
    by_cases hlt : k < n
    · have hcl := hown.cell (p + k) (by rw [length_wipeK]; omega)
      have hfz := hown.frozen (p + k)
      have HO2 := hide (hown.set (p + k) 0)
      have HB2 := hide (hbel.setCell (p := ⟨g, p + k, none⟩) hgb (.int .u8 0))
      clear hown hbel HO HB
      generalize (wipeK l p k).getD (p + k) 0 = x at *
      go_wp2
      go_roundw
      case rel => exact ⟨k + 1, by omega, by go_num, unhide HO2, unhide HB2⟩
      case measure => simp [intOf]; omega
    · obtain rfl : k = n := by omega
      have HO2 := hide hown
      have HB2 := hide hbel
      clear hown hbel HO HB
      go_wp2
      go_ret
      exact ⟨g, c, rfl, unhide HO2, unhide HB2⟩

/-! ### an image with an entry -/
theorem putK_rowE (L : List Int) (p : Nat) (x a l t : Int) (h : p + 5 ≤ L.length) : putK (putK (putK L p (t + 1) 1) (p + 1) a 2) (p + 3) l 2 = splice L p (rowE (x, a, l, t)) := by
  have hr : (rowE (x, a, l, t)).length = 5 := rfl
  have hs := length_splice (z := L) (l := rowE (x, a, l, t)) (off := p) (by omega)
  have l1 : (putK L p (t + 1) 1).length = L.length := length_putK _ _ _ _
  have l2 : (putK (putK L p (t + 1) 1) (p + 1) a 2).length = L.length := by rw [length_putK, l1]
  apply ext_getD
  · rw [length_putK, l2, hs]
  · intro j hj
    rw [length_putK, l2] at hj
    by_cases h1 : j < p ∨ p + 5 ≤ j
    · rw [putK_out _ _ _ _ _ (by omega), putK_out _ _ _ _ _ (by omega), putK_out _ _ _ _ _ (by omega), splice_out (by omega) (by omega)]
    · rcases (show j = p ∨ j = p + 1 ∨ j = p + 2 ∨ j = p + 3 ∨ j = p + 4 by omega) with rfl | rfl | rfl | rfl | rfl
      · have := putK_in L j (t + 1) 1 0 (by omega) (by omega)
        rw [putK_out _ _ _ _ _ (by omega), putK_out _ _ _ _ _ (by omega)]
        rw [Nat.add_zero] at this
        rw [this]
        have e := splice_in (z := L) (l := rowE (x, a, l, t)) (off := j) (j := 0) (by omega) (by omega)
        rw [Nat.add_zero] at e
        rw [e]
        simp [rowE]
      · have := putK_in (putK L p (t + 1) 1) (p + 1) a 2 0 (by omega) (by omega)
        rw [putK_out _ _ _ _ _ (by omega)]
        rw [Nat.add_zero] at this
        rw [this, splice_in (by omega) (by omega)]
        simp [rowE]
      · have := putK_in (putK L p (t + 1) 1) (p + 1) a 2 1 (by omega) (by omega)
        rw [putK_out _ _ _ _ _ (by omega)]
        rw [show p + 1 + 1 = p + 2 by omega] at this
        rw [this, splice_in (by omega) (by omega)]
        simp [rowE]
      · have := putK_in (putK (putK L p (t + 1) 1) (p + 1) a 2) (p + 3) l 2 0 (by omega) (by omega)
        rw [Nat.add_zero] at this
        rw [this, splice_in (by omega) (by omega)]
        simp [rowE]
      · have := putK_in (putK (putK L p (t + 1) 1) (p + 1) a 2) (p + 3) l 2 1 (by omega) (by omega)
        rw [show p + 3 + 1 = p + 4 by omega] at this
        rw [this, splice_in (by omega) (by omega)]
        simp [rowE]

theorem rPE_range (b : Option Addr) (len cap : Nat) (x a l t : Int) (w : World) (hr : hndB x = false ∨ (hndB x = true ∧ t < 0) ∨ (hndB x = true ∧ ¬ t < 0 ∧ 15 < t) ∨ (hndB x = true ∧ ¬ t < 0 ∧ ¬ 15 < t ∧ l < 1) ∨ (hndB x = true ∧ ¬ t < 0 ∧ ¬ 15 < t ∧ ¬ l < 1 ∧ 1000 < l)) :
    Calls Tryz.prog 20 #[.slice b len cap, .agg #[.int .i64 x, .int .i64 a, .int .i64 l, .int .i64 t]] w (Ends w [] (.int .i64 1)) := by
  have HH := hide (fun W => rHandle_any x W)
  rcases hr with h1 | ⟨h1, h2⟩ | ⟨h1, h2, h3⟩ | ⟨h1, h2, h3, h4⟩ | ⟨h1, h2, h3, h4, h5⟩
  all_goals
    rw [h1] at HH
    clear h1
    go_enter Tryz.func20, Tryz.ntmps20
    go_wp2_with (go_at_call 17; refine (unhide HH _).mono ?_; rintro e w1 ⟨rfl, rfl⟩)
    go_ret2
    exact ⟨none, 0, rfl, bs_nil _, (Below.refl _ _).alloc (Nat.le_refl _) _⟩
set_option maxHeartbeats 2000000 in
theorem rPE_shape (b : Option Addr) (len cap : Nat) (x a l t : Int) (w : World) (hlen : 288 ≤ (len : Int) ∧ (len : Int) ≤ 6400) (h1 : hndB x = true) (h2 : 0 ≤ t ∧ t ≤ 15) (h3 : 1 ≤ l ∧ l ≤ 1000) (hr : a < 288 ∨ (¬ a < 288 ∧ (len : Int) < a) ∨ (¬ a < 288 ∧ ¬ (len : Int) < a ∧ (len : Int) - a < l)) :
    Calls Tryz.prog 20 #[.slice b len cap, .agg #[.int .i64 x, .int .i64 a, .int .i64 l, .int .i64 t]] w (Ends w [] (.int .i64 3)) := by
  have HH := hide (fun W => rHandle_any x W)
  rw [h1] at HH
  obtain ⟨t1, t2⟩ := h2
  obtain ⟨t3, t4⟩ := h3
  obtain ⟨t5, t6⟩ := hlen
  have g1 : ¬ t < 0 := by omega
  have g2 : ¬ 15 < t := by omega
  have g3 : ¬ l < 1 := by omega
  have g4 : ¬ 1000 < l := by omega
  clear h1
  rcases hr with q1 | ⟨q1, q2⟩ | ⟨q1, q2, q3⟩
  all_goals
    go_enter Tryz.func20, Tryz.ntmps20
    go_wp2_with (go_at_call 17; refine (unhide HH _).mono ?_; rintro e w1 ⟨rfl, rfl⟩)
    go_ret2
    exact ⟨none, 0, rfl, bs_nil _, (Below.refl _ _).alloc (Nat.le_refl _) _⟩
theorem putOut_ok {l : List Int} {p n s : Int} (h1 : 1 ≤ s ∧ s ≤ 4) (h2 : 0 ≤ n ∧ n ≤ most s) (h3 : 0 ≤ p ∧ p ≤ l.length - s) : putOut l p n s = (putK l p.toNat n s.toNat, 0) := by
  unfold putOut
  rw [if_neg (fun h => h.elim (fun h => h h1) (fun h => by omega)), if_neg (fun h => h h3)]
set_option maxHeartbeats 2000000 in
theorem rPE_yes (b : Option Addr) (cap : Nat) (L : List Int) (x a l t : Int) (w : World) (hbs : Bs w b cap L) (hlen : 288 ≤ (L.length : Int) ∧ (L.length : Int) ≤ 6400) (h1 : hndB x = true) (h2 : 0 ≤ t ∧ t ≤ 15) (h3 : 1 ≤ l ∧ l ≤ 1000) (h4 : 288 ≤ a ∧ l ≤ L.length - a) :
    Calls Tryz.prog 20 #[.slice b L.length cap, .agg #[.int .i64 x, .int .i64 a, .int .i64 l, .int .i64 t]] w (Ends w (splice L (plc x) (rowE (x, a, l, t))) (.int .i64 0)) := by
  have HH := hide (fun W => rHandle_any x W)
  have hx := hndB_iff.1 h1
  have hp := plc_le hx.1 hx.2
  have hpe : ((plc x : Nat) : Int) = 5 * (x - 1) := by unfold plc; omega
  rw [h1] at HH
  obtain ⟨t1, t2⟩ := h2
  obtain ⟨t3, t4⟩ := h3
  obtain ⟨t5, t6⟩ := hlen
  obtain ⟨t7, t8⟩ := h4
  have g1 : ¬ t < 0 := by omega
  have g2 : ¬ 15 < t := by omega
  have g3 : ¬ l < 1 := by omega
  have g4 : ¬ 1000 < l := by omega
  have g5 : ¬ a < 288 := by omega
  have g6 : ¬ (L.length : Int) < a := by omega
  have g7 : ¬ (L.length : Int) - a < l := by omega
  have HF := hide (putK_rowE L (plc x) x a l t (by omega))
  have l1 : (putK L (plc x) (t + 1) 1).length = L.length := length_putK _ _ _ _
  have l2 : (putK (putK L (plc x) (t + 1) 1) (plc x + 1) a 2).length = L.length := by rw [length_putK, l1]
  have l3 : (putK (putK (putK L (plc x) (t + 1) 1) (plc x + 1) a 2) (plc x + 3) l 2).length = L.length := by rw [length_putK, l2]
  have m1 : most (1 : Int) = 255 := rfl
  have m2 : most (2 : Int) = 65535 := rfl
  have o1 : putOut L (5 * (x - 1)) (t + 1) 1 = (putK L (plc x) (t + 1) 1, 0) := by
    rw [putOut_ok (by omega) (by omega) (by omega), ← hpe]; rfl
  have o2 : putOut (putK L (plc x) (t + 1) 1) (5 * (x - 1) + 1) a 2 = (putK (putK L (plc x) (t + 1) 1) (plc x + 1) a 2, 0) := by
    rw [putOut_ok (by omega) (by omega) (by omega), ← hpe]; rfl
  have o3 : putOut (putK (putK L (plc x) (t + 1) 1) (plc x + 1) a 2) (5 * (x - 1) + 3) l 2 = (putK (putK (putK L (plc x) (t + 1) 1) (plc x + 1) a 2) (plc x + 3) l 2, 0) := by
    rw [putOut_ok (by omega) (by omega) (by omega), ← hpe]; rfl
  have HP1 := hide (fun (W : World) (hW : Bs W b cap L) => rPut_any b cap L (5 * (x - 1)) (t + 1) 1 W hW (by omega))
  have HP2 := hide (fun (W : World) (q : Option Addr) (c : Nat) (hW : Bs W q c (putK L (plc x) (t + 1) 1)) => rPut_any q c (putK L (plc x) (t + 1) 1) (5 * (x - 1) + 1) a 2 W hW (by omega))
  have HP3 := hide (fun (W : World) (q : Option Addr) (c : Nat) (hW : Bs W q c (putK (putK L (plc x) (t + 1) 1) (plc x + 1) a 2)) => rPut_any q c (putK (putK L (plc x) (t + 1) 1) (plc x + 1) a 2) (5 * (x - 1) + 3) l 2 W hW (by omega))
  rw [o1] at HP1
  rw [o2, l1] at HP2
  rw [o3, l2] at HP3
  have HBS := hide hbs
  have HEN := hide (EnB.new w (x, a, l, t))
  have HB0 : Hid (Below w.heap.size w (w.alloc (.cells #[.int .i64 x, .int .i64 a, .int .i64 l, .int .i64 t] 47))) := hide ((Below.refl _ _).alloc (Nat.le_refl _) _)
  clear h1 hbs o1 o2 o3 hpe
  rw [← unhide HF]
  have HLL := hide l3
  clear l3 HF
  generalize putK L (plc x) (t + 1) 1 = L1 at *
  generalize putK L1 (plc x + 1) a 2 = L2 at *
  generalize putK L2 (plc x + 3) l 2 = L3 at *
  dsimp only at HP1 HP2 HP3
  go_enter Tryz.func20, Tryz.ntmps20
  go_wp2_with (go_at_call 17; refine (unhide HH _).mono ?_; rintro e w1 ⟨rfl, rfl⟩)
  refine (unhide HP1 _ ((unhide HBS).below (unhide HB0))).mono ?_
  rintro e w1 ⟨a1, c1, rfl, hb1, hbl1⟩
  have hen1 := (unhide HEN).below hbl1 (by simp)
  obtain ⟨d0, d1, d2, d3⟩ := hen1.cells
  have HB1 := hide ((unhide HB0).trans (hbl1.mono (unhide HB0).size))
  have HEN1 := hide hen1
  have HP2' := hide (unhide HP2 w1 a1 c1 hb1)
  rw [l1]
  clear hb1 hbl1 hen1 HP1 HP2 HB0 HEN HBS
  go_wp2_with fail
  refine (unhide HP2').mono ?_
  rintro e w2 ⟨a2, c2, rfl, hb2, hbl2⟩
  have hen2 := (unhide HEN1).below hbl2 (unhide HEN1).lt
  clear d0 d1 d2 d3
  obtain ⟨d0, d1, d2, d3⟩ := hen2.cells
  have HB2 := hide ((unhide HB1).trans (hbl2.mono (unhide HB1).size))
  have HP3' := hide (unhide HP3 w2 a2 c2 hb2)
  rw [l2]
  clear hb2 hbl2 hen2 HP2' HP3 HB1 HEN1
  go_wp2_with fail
  refine (unhide HP3').mono ?_
  rintro e w3 ⟨a3, c3, rfl, hb3, hbl3⟩
  have HB3 := hide ((unhide HB2).trans (hbl3.mono (unhide HB2).size))
  have HBS3 := hide hb3
  clear hb3 hbl3 HP3' HB2 d0 d1 d2 d3
  go_wp2
  go_ret2
  exact ⟨a3, c3, rfl, unhide HBS3, unhide HB3⟩
theorem rPutEntry_any (b : Option Addr) (cap : Nat) (L : List Int) (e : (Int × Int × Int × Int)) (w : World) (hbs : Bs w b cap L) (hq : lenB L.length = true) :
    Calls Tryz.prog 20 #[.slice b L.length cap, entV e] w (Ends w (putL L e) (.int .i64 (putE L e))) := by
  obtain ⟨x, a, l, t⟩ := e
  have hl := lenB_iff.1 hq
  unfold entV
  dsimp only
  have h1 : ¬ lenB L.length = false := by rw [hq]; simp
  by_cases h0 : putE L (x, a, l, t) = 0
  · have hL : putL L (x, a, l, t) = splice L (plc x) (rowE (x, a, l, t)) := by unfold putL; rw [if_pos h0]
    obtain ⟨_, h2, h3⟩ := putE_zero.1 h0
    dsimp only at h2 h3
    rw [hL, h0]
    exact rPE_yes b cap L x a l t w hbs hl h2 (by omega) (by omega) (by omega)
  · have hL : putL L (x, a, l, t) = [] := by unfold putL; rw [if_neg h0]
    rw [hL]
    by_cases h2 : hndB x = false ∨ t < 0 ∨ 15 < t ∨ l < 1 ∨ 1000 < l
    · have e : putE L (x, a, l, t) = 1 := by unfold putE; rw [if_neg h1, if_pos h2]
      rw [e]
      refine rPE_range b L.length cap x a l t w ?_
      cases e1 : hndB x with
      | false => exact .inl rfl
      | true =>
        rw [e1] at h2
        right
        have h2' : t < 0 ∨ 15 < t ∨ l < 1 ∨ 1000 < l := h2.elim (fun h => by cases h) id
        simp only [true_and]
        omega
    · have h2' : hndB x = true := by
        cases e : hndB x with
        | true => rfl
        | false => exact absurd (.inl e) h2
      have h3' : ¬ (t < 0 ∨ 15 < t ∨ l < 1 ∨ 1000 < l) := fun h => h2 (.inr h)
      by_cases h4 : a < 288 ∨ L.length - a < l
      · have e : putE L (x, a, l, t) = 3 := by unfold putE; rw [if_neg h1, if_neg h2, if_pos h4]
        rw [e]
        exact rPE_shape b L.length cap x a l t w hl h2' (by omega) (by omega) (by omega)
      · exact absurd (by unfold putE; rw [if_neg h1, if_neg h2, if_neg h4]) h0
end Go.Proofs.YtllpeknpplpgeaaGreatDoor
/-! Contracts of package old: objectsOf. (Part of the proofs over package old.) -/
namespace Go.Proofs.YtllpeknpplpgeaaGreatDoor
open Go.RowKit
set_option linter.unusedVariables false

/-- The objects of an image, each with its bytes. -/
def obsL (L : List Int) (E : List (Int × Int × Int × Int)) : List ((Int × Int × Int × Int) × List Int) := E.map (fun e => (e, partL L e.2.1 e.2.2.1))
theorem obsL_next {L : List Int} {E : List (Int × Int × Int × Int)} {k : Nat} {e : (Int × Int × Int × Int)} (h : E[k]? = some e) : obsL L (E.take (k + 1)) = obsL L (E.take k) ++ [(e, partL L e.2.1 e.2.2.1)] := by
  unfold obsL
  rw [take_more h, List.map_append]
  rfl
set_option maxRecDepth 100000 in
set_option maxHeartbeats 4000000 in
theorem objectsOf_any (a : Option Addr) (cap : Nat) (L : List Int) (w : World) (hbs : Bs w a cap L) (hf : Fine L) :
    Calls Tryz.prog 34 #[.slice a L.length cap] w fun e w' => ∃ v os, e = .returned (.tuple #[v, .nilIface]) ∧ Lst ojC 5 102 w' w.heap.size v os ∧ os.map ojP = obsL L (entsK L 40) ∧ (∀ o ∈ os, Bs w o.2.1 o.2.2.1 o.2.2.2) ∧ Below w.heap.size w w' := by
  obtain ⟨i0, hi0, hz0, hz1, hz2⟩ := info_parts info_oj
  have HE := hide (iEnts_any a cap L w hbs)
  have hlen := hf.len
  have e1 : lenE L.length = 0 := by unfold lenE; rw [if_pos hf.len0]
  have e2 : ents L = entsK L 40 := by unfold ents; rw [if_pos hf.len0]
  rw [e1, e2, show errV 0 = .nilIface from rfl] at HE
  have hbl := hbs.2.2.1
  have HIN := hide (fun e he => ent_in hf (x := e) he)
  have hel := entsK_len L 40
  have HBS := hide hbs
  clear hbs hf e1 e2
  generalize entsK L 40 = E at *
  go_enter Tryz.func34, Tryz.ntmps34
  go_wp2_with fail
  refine (unhide HE).mono ?_
  rintro e w1 ⟨v1, rfl, hown1, hb1⟩
  obtain ⟨a1, c1, rfl, hsl1⟩ := hown1.sls enC_len (by omega)
  have HS := hide hsl1
  have HB1 := hide hb1
  have HES : Hid (obsL L (E.take E.length) = obsL L E) := hide (by rw [List.take_length])
  clear hown1 hsl1 hb1 HE
  go_wp2_with fail
  go_loopw [6, 19] (fun v iv wr => ∃ (k : Nat) (os : List ((Int × Int × Int × Int) × Option Addr × Nat × List Int)), k ≤ E.length ∧ iv = .int .i64 k ∧ Lst ojC 5 102 wr w1.heap.size v os ∧ os.map ojP = obsL L (E.take k) ∧ (∀ o ∈ os, Bs w o.2.1 o.2.2.1 o.2.2.2) ∧ Below w1.heap.size w1 wr) (fun _ iv _ => E.length - (intOf iv).toNat)
  case atStart => exact ⟨0, [], Nat.zero_le _, rfl, Lst.nil _ _, rfl, fun o ho => (by cases ho), Below.refl _ _⟩
  case round =>
    obtain ⟨k, os, hk, rfl, hown, hos, hbo, hbel⟩ := hrel
    obtain ⟨va, vm, vc, rfl⟩ := hown.shape
    by_cases hlt : k < E.length
    · have hne : E ≠ [] := by intro e; rw [e] at hlt; simp at hlt
      obtain ⟨b1, o1, rfl, hc1⟩ := ((unhide HS).below hbel).2.2.2 hne
      obtain ⟨f, hf⟩ : ∃ f, E[k]? = some f := ⟨E[k], List.getElem?_eq_getElem hlt⟩
      obtain ⟨q0, q1, q2, q3⟩ := Sls.ent (cap := 0) hc1 hf
      obtain ⟨ee, r1, r2, rt, r3, r4, r5, r6⟩ := unhide HIN f (List.mem_of_getElem? hf)
      have hnext := obsL_next (L := L) hf
      rw [← hos] at hnext
      have hol : os.length ≤ 40 := by
        have := congrArg List.length hos
        rw [List.length_map] at this
        rw [this]
        unfold obsL
        rw [List.length_map, List.length_take]
        omega
      obtain ⟨h, x, l, t⟩ := f
      dsimp only at q0 q1 q2 q3 r1 r2 r3 r4 r5 r6 hnext
      obtain ⟨X, rfl⟩ := Int.eq_ofNat_of_zero_le (show 0 ≤ x by omega)
      obtain ⟨N, rfl⟩ := Int.eq_ofNat_of_zero_le (show 0 ≤ l by omega)
      have hbsw := unhide HBS
      obtain ⟨a2, hs2, hb2⟩ := slice_lo (P := Tryz.prog) (t := 22) Tryz.underlying22 size_u8 hbsw X (by omega)
      have hdl : (L.drop X).length = L.length - X := List.length_drop
      obtain ⟨a3, hs3, hb3⟩ := slice_hi (P := Tryz.prog) (t := 22) Tryz.underlying22 size_u8 hb2 N (by omega)
      rw [hdl] at hs3
      have hbd : ((L.drop X).take N).length = N := by rw [List.length_take]; omega
      have hpl : partL L (X : Int) (N : Int) = (L.drop X).take N := by unfold partL; rw [Int.toNat_natCast, Int.toNat_natCast]
      rw [hpl] at hnext
      generalize (L.drop X).take N = BD at *
      have hBA : Below wr.heap.size wr (wr.alloc (.cells #[.int .i64 h, .int .i64 X, .int .i64 N, .int .i64 t] 47)) := (Below.refl _ _).alloc (Nat.le_refl _) _
      have hen := heap_alloc_new wr (.cells #[.int .i64 h, .int .i64 X, .int .i64 N, .int .i64 t] 47)
      have t0 : (wr.alloc (.cells #[.int .i64 h, .int .i64 X, .int .i64 N, .int .i64 t] 47)).cell? ⟨wr.heap.size, 0, none⟩ = some (.int .i64 h) := by rw [cell_of_row _ _ _ _ _ _ hen]; rfl
      have t1 : (wr.alloc (.cells #[.int .i64 h, .int .i64 X, .int .i64 N, .int .i64 t] 47)).cell? ⟨wr.heap.size, 1, none⟩ = some (.int .i64 X) := by rw [cell_of_row _ _ _ _ _ _ hen]; rfl
      have t2 : (wr.alloc (.cells #[.int .i64 h, .int .i64 X, .int .i64 N, .int .i64 t] 47)).cell? ⟨wr.heap.size, 2, none⟩ = some (.int .i64 N) := by rw [cell_of_row _ _ _ _ _ _ hen]; rfl
      have t3 : (wr.alloc (.cells #[.int .i64 h, .int .i64 X, .int .i64 N, .int .i64 t] 47)).cell? ⟨wr.heap.size, 3, none⟩ = some (.int .i64 t) := by rw [cell_of_row _ _ _ _ _ _ hen]; rfl
      have hown9 := hown.below hBA
      have HB9 := hide (hbel.trans (hBA.mono hbel.size))
      have hsz := hbel.size
      have HBD := hide hbd
      have HB3 := hide hb3
      have HNX := hide hnext
      have HBO := hide hbo
      have hws : w1.heap.size ≤ (wr.alloc (.cells #[.int .i64 h, .int .i64 X, .int .i64 N, .int .i64 t] 47)).heap.size := by simp; omega
      clear hc1 hf hne hbel hown ee rt hb2 hb3 hbd hpl hdl hnext hbo hbsw hen hBA hos
      go_wp2_with fail
      generalize wr.alloc (.cells #[.int .i64 h, .int .i64 X, .int .i64 N, .int .i64 t] 47) = w9 at *
      have hd9 : Below w9.heap.size w9 w9.drew := below_drew (Below.refl _ _)
      have ha9 : Below w9.drew.heap.size w9.drew (w9.drew.alloc (.cells #[.int .i64 h, .int .i64 X, .int .i64 N, .int .i64 t, .slice a3 N (cap - X)] 102)) := (Below.refl _ _).alloc (Nat.le_refl _) _
      have HO3 := hide ((hown9.below hd9).below ha9)
      have HB10 := hide ((unhide HB9).trans ((hd9.trans (ha9.mono hd9.size)).mono (unhide HB9).size))
      have HGN : Hid ((w9.drew.alloc (.cells #[.int .i64 h, .int .i64 X, .int .i64 N, .int .i64 t, .slice a3 N (cap - X)] 102)).heap[w9.heap.size]? = some (.cells (ojC ((h, (X : Int), (N : Int), t), a3, cap - X, BD)).toArray 102 (0, 0))) := hide (by
        unfold ojC
        dsimp only
        rw [unhide HBD]
        exact heap_alloc_new w9.drew _)
      clear hd9 ha9 hown9 q0 q1 q2 q3 HB9
      go_region_law (refine step_append_lst (by rfl) (.tmp 23) (.tmp 35) 58 (by rfl) w1.heap.size i0 (.agg #[.int .i64 0, .int .i64 0, .int .i64 0, .int .i64 0, .slice none 0 0]) 56 Tryz.underlying58 hi0 hz0 hz1 hz2 rfl (by decide) (by decide) _ os (by rfl) (unhide HO3) w9.heap.size ((h, (X : Int), (N : Int), t), a3, cap - X, BD) (by rfl) (unhide HGN) rfl (ojC_one _) (by omega) (by first | omega | (simp; omega)) ?_; intro g10 c10 w10 hL10 hb10 hk10)
      all_goals
        have HL10 := hide hL10
        have HBE := hide ((unhide HB10).trans hb10)
        clear hL10 hb10 hk10 HO3 HGN t0 t1 t2 t3
        go_wp2
        go_roundw
        case rel =>
          refine ⟨k + 1, _, by omega, by go_num, unhide HL10, ?_, fun o ho => ?_, unhide HBE⟩
          · rw [unhide HNX, List.map_append]; rfl
          · rcases List.mem_append.1 ho with ho | ho
            · exact unhide HBO o ho
            · rw [List.mem_singleton.1 ho]; exact unhide HB3
        case measure => simp [intOf]; omega
    · obtain rfl : k = E.length := by omega
      rw [unhide HES] at hos
      have HO := hide (hown.lowB (unhide HB1).size)
      have HB := hide ((unhide HB1).trans (hbel.mono (unhide HB1).size))
      have HOS := hide hos
      have HBO := hide hbo
      clear hown hbel hos hbo
      go_wp2
      go_ret2
      exact ⟨_, os, rfl, unhide HO, unhide HOS, unhide HBO, unhide HB⟩
end Go.Proofs.YtllpeknpplpgeaaGreatDoor
/-! Contracts of package old: written. (Part of the proofs over package old.) -/
namespace Go.Proofs.YtllpeknpplpgeaaGreatDoor
open Go.RowKit
set_option linter.unusedVariables false

def wrO (o : (Int × Int × Int × Int) × List Int) : List Int := [o.1.1, o.1.2.2.2, o.1.2.2.1 % 256, o.1.2.2.1 / 256] ++ o.2
def wrH (O : List ((Int × Int × Int × Int) × List Int)) : List Int := [79, 76, 68, 49, (O.length : Int)]
/-- The image of old of these objects and roots. -/
def wrL (O : List ((Int × Int × Int × Int) × List Int)) (R : List (ByteArray × Int)) : List Int := wrH O ++ O.flatMap wrO ++ [(R.length : Int)] ++ R.flatMap dnR
theorem putK_two (n : Int) (h : 0 ≤ n ∧ n ≤ 65535) : putK (zerosB 2) 0 n 2 = [n % 256, n / 256] := by
  show [n / 1 % 256, n / 256 % 256] = _
  rw [Int.ediv_one, Int.emod_eq_of_lt (a := n / 256) (by omega) (by omega)]
/-- What may be written. -/
def MayW (o : (Int × Int × Int × Int) × Option Addr × Nat × List Int) : Prop := 0 ≤ o.1.1 ∧ o.1.1 ≤ 255 ∧ 0 ≤ o.1.2.2.2 ∧ o.1.2.2.2 ≤ 255 ∧ 0 ≤ o.1.2.2.1 ∧ o.1.2.2.1 ≤ 1000 ∧ o.2.2.2.length ≤ 1000 ∧ Byt o.2.2.2 ∧ o.2.2.2 ≠ []
theorem wrO_byt {o : (Int × Int × Int × Int) × Option Addr × Nat × List Int} (h : MayW o) : Byt (wrO (ojP o)) ∧ (wrO (ojP o)).length ≤ 1004 := by
  obtain ⟨h1, h2, h3, h4, h5, h6, h7, h8, h9⟩ := h
  unfold wrO ojP
  dsimp only
  refine ⟨fun z hz => ?_, ?_⟩
  · rcases List.mem_append.1 hz with hz | hz
    · rcases List.mem_cons.1 hz with rfl | hz
      · omega
      rcases List.mem_cons.1 hz with rfl | hz
      · omega
      rcases List.mem_cons.1 hz with rfl | hz
      · omega
      rw [List.mem_singleton.1 hz]
      omega
    · exact h8 z hz
  · rw [List.length_append]
    simp only [List.length_cons, List.length_nil]
    omega
theorem wrK_byt : ∀ (os : List ((Int × Int × Int × Int) × Option Addr × Nat × List Int)), (∀ o ∈ os, MayW o) → Byt ((os.map ojP).flatMap wrO) ∧ ((os.map ojP).flatMap wrO).length ≤ 1004 * os.length
  | [], _ => ⟨fun z hz => (by cases hz), by simp⟩
  | o :: os, h => by
    obtain ⟨p1, p2⟩ := wrO_byt (h o (by simp))
    obtain ⟨q1, q2⟩ := wrK_byt os (fun x hx => h x (by simp [hx]))
    rw [List.map_cons, List.flatMap_cons]
    refine ⟨fun z hz => ?_, ?_⟩
    · rcases List.mem_append.1 hz with hz | hz
      · exact p1 z hz
      · exact q1 z hz
    · rw [List.length_append, List.length_cons]
      omega
theorem drK_byt : ∀ (R : List (ByteArray × Int)), (∀ r ∈ R, NameOk r.1 ∧ 0 ≤ r.2 ∧ r.2 ≤ 255) → Byt (R.flatMap dnR) ∧ (R.flatMap dnR).length = 9 * R.length
  | [], _ => ⟨fun z hz => (by cases hz), rfl⟩
  | r :: R, h => by
    obtain ⟨p1, p2, p3⟩ := h r (by simp)
    obtain ⟨q1, q2⟩ := drK_byt R (fun x hx => h x (by simp [hx]))
    have hl := length_nameL r.1 p1.2.1
    rw [List.flatMap_cons]
    refine ⟨fun z hz => ?_, ?_⟩
    · rcases List.mem_append.1 hz with hz | hz
      · unfold dnR at hz
        rcases List.mem_append.1 hz with hz | hz
        · exact byt_nameL _ z hz
        · rw [List.mem_singleton.1 hz]; omega
      · exact q1 z hz
    · rw [List.length_append, List.length_cons, q2]
      unfold dnR
      rw [List.length_append, hl, List.length_singleton]
      omega
/-- A row of bytes of its own, in none of the blocks S. -/
def OwnS (w : World) (B : Nat) (S : Nat → Prop) (v : Value) (L : List Int) : Prop := OwnV w B v L ∧ ∀ g, v.ownBlock = some g → ¬ S g
theorem OwnV.old {w : World} {B : Nat} {v : Value} {L : List Int} (h : OwnV w B v L) : ∀ g, v.ownBlock = some g → g < w.heap.size := by
  intro g hg
  rcases h.2 with ⟨rfl, _⟩ | ⟨g', cap, cur, rfl, hB, hc, _⟩
  · cases hg
  · simp [Value.ownBlock] at hg
    subst hg
    exact (Array.getElem?_eq_some_iff.1 hc).1
theorem wpList_append_s {P : Program} {w : World} {ops : Array Oper} {rest : List Oper} {o : Oper} {a : Act} {Q : Exit → Act → World → Prop} (hgd : o.guard = none) (s x : Operand) (t : TypeId)
    (ho : o.op = .call { callee := .builtin .append, args := #[s, x], argTypes := #[t, t] }) (i : TypeInfo) (ht : P.underlying t = some (.slice 5)) (hi : P.info? 5 = some i) (hz : i.zero = some (.int .u8 0)) (h4 : i.size = 1) (h5 : i.bytes = 1)
    (B : Nat) (S : Nat → Prop) (v : Value) (L : List Int) (hs : a.eval s = v) (hown : OwnS w B S v L) (hB : B ≤ w.heap.size) (hS : ∀ g, S g → g < w.heap.size) (sp : Option Addr) (n cap : Nat) (l : List Int) (hx : a.eval x = .slice sp n cap) (hn : n = l.length) (h0 : l ≠ []) (hb : Bs w sp cap l) (hL : L.length + l.length ≤ 140737488351232)
    (h : ∀ v' w', OwnS w' B S v' (L ++ l) → Below B w w' → (∀ g, S g → w'.heap[g]? = w.heap[g]?) → wpList P ops Q rest (a.put o.dst v') w') :
    wpList P ops Q (o :: rest) a w := by
  subst hn
  obtain ⟨b, off, rfl, hc⟩ := hb.2.2.2.2 h0
  refine wpList_append_own_at w hgd s x t ho B 5 i (.int .u8 0) 1 1 ht hi hz h4 h5 rfl (by decide) v _ _ hs hown.1 ⟨b, off, none⟩ l.length cap (l.map (Value.int .u8)) hx (by simp) (news_bs hb) (oneCell_u8 l) (by unfold maxLen; omega) (by omega) hB (fun v' w' ho' hg' _ hob => ?_)
  refine h v' w' ⟨?_, fun g hg hSg => ?_⟩ ((Below.refl _ _).grown hg' hB (fun k hk => hown.1.block k hk)) (fun g hSg => hg'.block g (hS g hSg) (fun e => hown.2 g e.symm hSg))
  · unfold OwnV
    rw [List.length_append, List.map_append]
    exact ho'
  · rcases hob with e | e
    · rw [e] at hg
      exact hown.2 g hg hSg
    · rw [e] at hg
      have := hS g hSg
      have := Option.some.inj hg
      omega
set_option maxRecDepth 100000 in
set_option maxHeartbeats 4000000 in
theorem written_any (oa ra : Option Addr) (oc rc : Nat) (os : List ((Int × Int × Int × Int) × Option Addr × Nat × List Int)) (R : List (ByteArray × Int)) (w : World) (hos : Sls ojC 5 w oa oc os) (hbo : ∀ o ∈ os, Bs w o.2.1 o.2.2.1 o.2.2.2) (hrs : Sls roC 2 w ra rc R)
    (hO : ∀ o ∈ os, MayW o) (hol : os.length ≤ 40) (hR : ∀ r ∈ R, NameOk r.1 ∧ 0 ≤ r.2 ∧ r.2 ≤ 255) (hrl : R.length ≤ 8) :
    Calls Tryz.prog 36 #[.slice oa os.length oc, .slice ra R.length rc] w (Ends w (wrL (os.map ojP) R) .nilIface) := by
  obtain ⟨i0, hi0, hz0, hz1, hz2⟩ := info_parts info_u8
  have kc := fun (w : World) (C : Array Value) (n c : Nat) => Lib.run_convert_bytes_const (P := Tryz.prog) w 22 5 C n c Tryz.underlying22 Tryz.underlying5
  have hm0 : (os.length : Int) % 256 = (os.length : Int) := by omega
  have hmr : (R.length : Int) % 256 = (R.length : Int) := by omega
  have HOS := hide hos
  have HBO := hide hbo
  have HRS := hide hrs
  have HO := hide hO
  have HR := hide hR
  have hBA : Below w.heap.size w ((w.alloc (.cells #[.int .u8 79, .int .u8 76, .int .u8 68, .int .u8 49] 5 (4, 5))).alloc (.cells #[.int .u8 os.length] 5)) := ((Below.refl _ _).alloc (Nat.le_refl _) _).alloc (by simp) _
  have HBA := hide hBA
  have hOL : ∀ j u, ([.int .u8 79, .int .u8 76, .int .u8 68, .int .u8 49] : List Value)[j]? = some u → ((w.alloc (.cells #[.int .u8 79, .int .u8 76, .int .u8 68, .int .u8 49] 5 (4, 5))).alloc (.cells #[.int .u8 os.length] 5)).cell? (Addr.add ⟨w.heap.size, 0, none⟩ j) = some u := fun j u hj => by
    rw [addr_add, Nat.zero_add]
    have hb := ((Below.refl (w.alloc (.cells #[.int .u8 79, .int .u8 76, .int .u8 68, .int .u8 49] 5 (4, 5))).heap.size (w.alloc (.cells #[.int .u8 79, .int .u8 76, .int .u8 68, .int .u8 49] 5 (4, 5)))).alloc (Nat.le_refl _) (.cells #[.int .u8 os.length] 5)).block w.heap.size (by simp)
    rw [cell_of_row _ _ _ _ _ _ (hb.trans (heap_alloc_new w _))]
    simpa using hj
  have hNE : ∀ j u, ([.int .u8 os.length] : List Value)[j]? = some u → ((w.alloc (.cells #[.int .u8 79, .int .u8 76, .int .u8 68, .int .u8 49] 5 (4, 5))).alloc (.cells #[.int .u8 os.length] 5)).cell? (Addr.add ⟨w.heap.size + 1, 0, none⟩ j) = some u := fun j u hj => by
    rw [addr_add, Nat.zero_add]
    have hb := heap_alloc_new (w.alloc (.cells #[.int .u8 79, .int .u8 76, .int .u8 68, .int .u8 49] 5 (4, 5))) (.cells #[.int .u8 os.length] 5)
    rw [show (w.alloc (.cells #[.int .u8 79, .int .u8 76, .int .u8 68, .int .u8 49] 5 (4, 5))).heap.size = w.heap.size + 1 by simp] at hb
    rw [cell_of_row _ _ _ _ _ _ hb]
    simpa using hj
  have HOL := hide hOL
  have HNE := hide hNE
  clear hos hbo hrs hO hR hBA hOL hNE
  go_enter Tryz.func36, Tryz.ntmps36
  go_wp2_with (at_builtin; refine wpList_append_grows _ rfl _ _ 22 rfl 5 i0 (.int .u8 0) 1 1 Tryz.underlying22 hi0 hz0 hz1 hz2 rfl (by decide) (some ⟨w.heap.size, 0, none⟩) 4 4 [.int .u8 79, .int .u8 76, .int .u8 68, .int .u8 49] rfl (fun h => (by cases h)) rfl (fun b hb => by cases hb; exact unhide HOL) ⟨w.heap.size + 1, 0, none⟩ 1 1 [.int .u8 os.length] rfl rfl (unhide HNE) (fun u hu => by rw [List.mem_singleton.1 hu]; rfl) (by decide) (by decide) (by decide) ?_; intro v1 w1 hown1 hg1; have ho1 : OwnV w1 w.heap.size v1 (wrH (os.map ojP)) := (by unfold OwnV wrH; rw [List.length_map]; exact (show _ by have h9 := hown1; exact ⟨h9.1, h9.2.elim .inl (fun ⟨g, cap, cur, hv, hb, r⟩ => .inr ⟨g, cap, cur, hv, Nat.le_trans (unhide HBA).size hb, r⟩)⟩)); have HB1 := hide ((unhide HBA).grown hg1 (unhide HBA).size (fun k hk => by cases hk)); clear hown1 hg1)
  have HO1 := hide ho1
  have HES : Hid (((os.take os.length).map ojP).flatMap wrO = (os.map ojP).flatMap wrO) := hide (by rw [List.take_length])
  have hhl : (wrH (os.map ojP)).length = 5 := rfl
  clear ho1 HOL HNE HBA
  go_wp2_with fail
  go_loopw [6, 24] (fun v iv wr => ∃ k : Nat, k ≤ os.length ∧ iv = .int .i64 k ∧ OwnV wr w.heap.size v (wrH (os.map ojP) ++ ((os.take k).map ojP).flatMap wrO) ∧ Below w.heap.size w wr) (fun _ iv _ => os.length - (intOf iv).toNat)
  case atStart => exact ⟨0, Nat.zero_le _, rfl, by simpa using unhide HO1, unhide HB1⟩
  case round =>
    obtain ⟨k, hk, rfl, hown, hbel⟩ := hrel
    by_cases hlt : k < os.length
    · have hne : os ≠ [] := by intro e; rw [e] at hlt; simp at hlt
      obtain ⟨b1, o1, rfl, hc1⟩ := ((unhide HOS).below hbel).2.2.2 hne
      obtain ⟨f, hf⟩ : ∃ f, os[k]? = some f := ⟨os[k], List.getElem?_eq_getElem hlt⟩
      obtain ⟨q0, q1, q2, q3, q4⟩ := Sls.oj hc1 hf
      have hfo := unhide HBO f (List.mem_of_getElem? hf)
      have hmay := unhide HO f (List.mem_of_getElem? hf)
      have hnext : ((os.take (k + 1)).map ojP).flatMap wrO = ((os.take k).map ojP).flatMap wrO ++ wrO (ojP f) := by rw [take_more hf, List.map_append, List.flatMap_append]; simp
      obtain ⟨z1, z2⟩ := wrK_byt (os.take k) (fun o ho => unhide HO o (List.mem_of_mem_take ho))
      have hll : (wrH (os.map ojP) ++ ((os.take k).map ojP).flatMap wrO).length ≤ 100000 := by
        rw [List.length_append, hhl]
        rw [List.length_take] at z2
        omega
      obtain ⟨⟨h, x, l, t⟩, ad, cc, BD⟩ := f
      have hwo : wrO (ojP ((h, x, l, t), ad, cc, BD)) = [h, t] ++ ([l % 256, l / 256] ++ BD) := rfl
      rw [hwo, ← List.append_assoc, ← List.append_assoc] at hnext
      obtain ⟨m1, m2, m3, m4, m5, m6, m7, m8, m9⟩ := hmay
      dsimp only at q0 q1 q2 q3 q4 hfo m1 m2 m3 m4 m5 m6 m7 m8 m9
      have HNX : Hid (wrH (os.map ojP) ++ ((os.take (k + 1)).map ojP).flatMap wrO = wrH (os.map ojP) ++ ((os.take k).map ojP).flatMap wrO ++ [h, t] ++ [l % 256, l / 256] ++ BD) := hide (by rw [hnext]; simp only [List.append_assoc])
      generalize wrH (os.map ojP) ++ ((os.take k).map ojP).flatMap wrO = LL at *
      have hBA : Below wr.heap.size wr (wr.alloc (.cells #[.int .i64 h, .int .i64 x, .int .i64 l, .int .i64 t, .slice ad BD.length cc] 102)) := (Below.refl _ _).alloc (Nat.le_refl _) _
      have hen := heap_alloc_new wr (.cells #[.int .i64 h, .int .i64 x, .int .i64 l, .int .i64 t, .slice ad BD.length cc] 102)
      have HEN := hide hen
      have t2 : (wr.alloc (.cells #[.int .i64 h, .int .i64 x, .int .i64 l, .int .i64 t, .slice ad BD.length cc] 102)).cell? ⟨wr.heap.size, 2, none⟩ = some (.int .i64 l) := by rw [cell_of_row _ _ _ _ _ _ hen]; rfl
      have hesz : wr.heap.size < (wr.alloc (.cells #[.int .i64 h, .int .i64 x, .int .i64 l, .int .i64 t, .slice ad BD.length cc] 102)).heap.size := by simp
      have HB9 := hide (hbel.trans (hBA.mono hbel.size))
      have HOWN := hide (hown.below hBA)
      have HFO := hide hfo
      have hols := hown.old
      have HOLS := hide hols
      clear hols
      have hm1 : h % 256 = h := by omega
      have hm2 : t % 256 = t := by omega
      have hmk : ∀ w', Sem.run Tryz.prog (Instr.makeSlice 22 (.int .i64 2) (.int .i64 2)) w' = .ok (.slice (some ⟨w'.heap.size, 0, none⟩) 2 2) (mkW w' 2) := fun w' => run_make_u8 w' 2 (by decide)
      have hp2 := putK_two l ⟨m5, by omega⟩
      clear hc1 hf hne hfo hnext z1 z2 hwo hBA hen hown hbel
      go_wp2_with fail
      generalize wr.alloc (.cells #[.int .i64 h, .int .i64 x, .int .i64 l, .int .i64 t, .slice ad BD.length cc] 102) = w9 at *
      have hbm : Below w9.drew.heap.size w9.drew (mkW w9.drew 2) := mkW_below w9.drew 2
      have hbd9 : Below w9.heap.size w9 w9.drew := below_drew (Below.refl _ _)
      have hb9m := hbd9.trans (hbm.mono hbd9.size)
      have t2m : (mkW w9.drew 2).cell? ⟨wr.heap.size, 2, none⟩ = some (.int .i64 l) := (hb9m.cell (p := ⟨wr.heap.size, 2, none⟩) (block_lt_of_cell t2)).trans t2
      have hP := put_nat (some ⟨w9.drew.heap.size, 0, none⟩) 2 (zerosB 2) 0 2 l (mkW w9.drew 2) ((mkW_blk w9.drew 2).bs (byt_zerosB 2) (by decide)) (by omega) (by omega) m5 (by show ¬ most ((2 : Nat) : Int) < l; simp [most]; omega) (by rw [length_zerosB]; omega)
      rw [hp2, length_zerosB] at hP
      have HP : Hid (Calls Tryz.prog 68 #[.slice (some ⟨w9.heap.size, 0, none⟩) 2 2, .int .i64 0, .int .i64 l, .int .i64 2] (mkW w9.drew 2) fun e w' => ∃ g2, e = .returned (.tuple #[.slice (some ⟨g2, 0, none⟩) 2 2, .nilIface]) ∧ w9.heap.size ≤ g2 ∧ Blk w' g2 [l % 256, l / 256] ∧ Below w9.heap.size w9 w' ∧ w'.cell? ⟨wr.heap.size, 2, none⟩ = some (.int .i64 l)) := hide (hP.mono fun e w' ⟨g2, he, hg2, hb2, hB2⟩ => ⟨g2, he, Nat.le_trans hb9m.size hg2, hb2, hb9m.trans (hB2.mono hb9m.size), (hB2.cell (p := ⟨wr.heap.size, 2, none⟩) (block_lt_of_cell t2m)).trans t2m⟩)
      clear hP hbm hbd9 hb9m
      go_region_held3 (fun w' => w'.cell? ⟨wr.heap.size, 2, none⟩ = some (.int .i64 l)) (first | exact t2m | go_keep | exact r2)
        ((go_at_call 68; refine (unhide HP).mono ?_; rintro e w2 ⟨g2, rfl, hg2, hk2, hB2, r2⟩))
      have hen2 := (hB2.block wr.heap.size hesz).trans (unhide HEN)
      have s0 : w2.cell? ⟨wr.heap.size, 0, none⟩ = some (.int .i64 h) := by rw [cell_of_row _ _ _ _ _ _ hen2]; rfl
      have s3 : w2.cell? ⟨wr.heap.size, 3, none⟩ = some (.int .i64 t) := by rw [cell_of_row _ _ _ _ _ _ hen2]; rfl
      have hown2 := (unhide HOWN).below hB2
      have hB2' := (unhide HB9).trans (hB2.mono (unhide HB9).size)
      have hg2lt := hk2.lt
      have hws := hB2'.size
      have hb2a : Below w2.heap.size w2 (w2.alloc (.cells #[.int .u8 h, .int .u8 t] 5)) := (Below.refl _ _).alloc (Nat.le_refl _) _
      have HOS2 : Hid (OwnS (w2.alloc (.cells #[.int .u8 h, .int .u8 t] 5)) w.heap.size (fun g => g = wr.heap.size ∨ g = g2) _ LL) := hide ⟨hown2.below hb2a, fun g hg hSg => by
        have := unhide HOLS g hg
        rcases hSg with rfl | rfl <;> omega⟩
      have HSS : Hid (∀ g, (g = wr.heap.size ∨ g = g2) → g < (w2.alloc (.cells #[.int .u8 h, .int .u8 t] 5)).heap.size) := hide (fun g hg => by
        have e : (w2.alloc (.cells #[.int .u8 h, .int .u8 t] 5)).heap.size = w2.heap.size + 1 := by simp
        have := hB2.size
        rcases hg with rfl | rfl <;> omega)
      have HBX : Hid (Bs (w2.alloc (.cells #[.int .u8 h, .int .u8 t] 5)) (some ⟨w2.heap.size, 0, none⟩) 2 [h, t]) := hide (Blk.bs (l := [h, t]) (heap_alloc_new w2 _) (fun z hz => by
        rcases List.mem_cons.1 hz with rfl | hz
        · omega
        · rw [List.mem_singleton.1 hz]; omega) (by simp))
      have HBW2 := hide (hB2'.trans (hb2a.mono hB2'.size))
      have HEN2 := hide ((hb2a.block wr.heap.size (by have := hB2.size; omega)).trans hen2)
      have HK2 := hide (hk2.below hb2a)
      have hws1 : w.heap.size ≤ (w2.alloc (.cells #[.int .u8 h, .int .u8 t] 5)).heap.size := by simp; omega
      have HBL : Hid (Byt [l % 256, l / 256]) := hide (fun z hz => by
        rcases List.mem_cons.1 hz with rfl | hz
        · omega
        · rw [List.mem_singleton.1 hz]; omega)
      clear hen2 hown2 hB2' hb2a hk2 hB2 r2 HOWN HB9 HEN HOLS HP t2 t2m q0 q1 q2 q3 q4
      go_wp2_with (first
        | (at_builtin; refine wpList_append_s rfl _ _ 22 rfl i0 Tryz.underlying22 hi0 hz0 hz1 hz2 w.heap.size (fun g => g = wr.heap.size ∨ g = g2) _ LL rfl (unhide HOS2) hws1 (unhide HSS) (some ⟨w2.heap.size, 0, none⟩) 2 2 [h, t] rfl rfl (by simp) (unhide HBX) (by simp; omega) ?_; intro v3 w3 ho3 hb3 hk3; have HB3 := hide ((unhide HBW2).trans hb3); have hsz3 := (unhide HB3).size; have hen3 := (hk3 wr.heap.size (.inl rfl)).trans (unhide HEN2); have s4 : w3.cell? ⟨wr.heap.size, 4, none⟩ = some (.slice ad BD.length cc) := (by rw [cell_of_row _ _ _ _ _ _ hen3]; rfl); have HEN3 := hide hen3; have HK3 := hide ((hk3 g2 (.inr rfl)).trans (unhide HK2)); have HO3 := hide ho3; clear ho3 hb3 hk3 hen3)
        | (at_builtin; refine wpList_append_s rfl _ _ 22 rfl i0 Tryz.underlying22 hi0 hz0 hz1 hz2 w.heap.size (fun g => g = wr.heap.size ∨ g = g2) _ (LL ++ [h, t]) rfl (unhide HO3) hsz3 (fun g hg => by rcases hg with rfl | rfl; exact (Array.getElem?_eq_some_iff.1 (unhide HEN3)).1; exact (Array.getElem?_eq_some_iff.1 (unhide HK3)).1) (some ⟨g2, 0, none⟩) 2 2 [l % 256, l / 256] rfl rfl (by simp) (Blk.bs (l := [l % 256, l / 256]) (unhide HK3) (unhide HBL) (by simp)) (by simp; omega) ?_; intro v4 w4 ho4 hb4 hk4; have HB4 := hide ((unhide HB3).trans hb4); have hsz4 := (unhide HB4).size; have hen4 := (hk4 wr.heap.size (.inl rfl)).trans (unhide HEN3); have s5 : w4.cell? ⟨wr.heap.size, 4, none⟩ = some (.slice ad BD.length cc) := (by rw [cell_of_row _ _ _ _ _ _ hen4]; rfl); have HEN4 := hide hen4; have HO4 := hide ho4; clear ho4 hb4 hk4 hen4)
        | (at_builtin; refine wpList_append_s rfl _ _ 22 rfl i0 Tryz.underlying22 hi0 hz0 hz1 hz2 w.heap.size (fun g => False) _ (LL ++ [h, t] ++ [l % 256, l / 256]) rfl ⟨(unhide HO4).1, fun _ _ hf => hf⟩ hsz4 (fun g hg => hg.elim) ad BD.length cc BD rfl rfl m9 ((unhide HFO).below (unhide HB4)) (by simp; omega) ?_; intro v5 w5 ho5 hb5 hk5; have HB5 := hide ((unhide HB4).trans hb5); have HO5 := hide ho5; clear ho5 hb5 hk5))
      go_roundw
      case rel => exact ⟨k + 1, by omega, by go_num, by rw [unhide HNX]; exact (unhide HO5).1, unhide HB5⟩
      case measure => simp [intOf]; omega
    · obtain rfl : k = os.length := by omega
      rw [unhide HES] at hown
      obtain ⟨z1, z2⟩ := wrK_byt os (unhide HO)
      have hll : (wrH (os.map ojP) ++ (os.map ojP).flatMap wrO).length ≤ 100000 := by
        rw [List.length_append, hhl]
        omega
      have hbyL : Byt (wrH (os.map ojP) ++ (os.map ojP).flatMap wrO) := fun z hz => by
        rcases List.mem_append.1 hz with hz | hz
        · unfold wrH at hz
          rw [List.length_map] at hz
          simp only [List.mem_cons, List.not_mem_nil, or_false] at hz
          omega
        · exact z1 z hz
      have HBYL := hide hbyL
      have HEQ : Hid (wrL (os.map ojP) R = wrH (os.map ojP) ++ (os.map ojP).flatMap wrO ++ [(R.length : Int)] ++ R.flatMap dnR) := hide rfl
      generalize wrH (os.map ojP) ++ (os.map ojP).flatMap wrO = LL at *
      generalize wrL (os.map ojP) R = WL at *
      have hba : Below wr.heap.size wr (wr.alloc (.cells #[.int .u8 R.length] 5)) := (Below.refl _ _).alloc (Nat.le_refl _) _
      have HOX : Hid (OwnS (wr.alloc (.cells #[.int .u8 R.length] 5)) w.heap.size (fun _ => False) _ LL) := hide ⟨hown.below hba, fun _ _ hf => hf⟩
      have HBX : Hid (Bs (wr.alloc (.cells #[.int .u8 R.length] 5)) (some ⟨wr.heap.size, 0, none⟩) 1 [(R.length : Int)]) := hide (Blk.bs (l := [(R.length : Int)]) (heap_alloc_new wr _) (fun z hz => by rw [List.mem_singleton.1 hz]; omega) (by simp))
      have HBW := hide (hbel.trans (hba.mono hbel.size))
      have hws1 : w.heap.size ≤ (wr.alloc (.cells #[.int .u8 R.length] 5)).heap.size := by have := hbel.size; simp; omega
      have HER : Hid ((R.take R.length).flatMap dnR = R.flatMap dnR) := hide (by rw [List.take_length])
      clear hown hbel hba hbyL z1 z2 hlt hk HBO HO HOS HES HO1 HB1 hhl
      go_wp2_with (at_builtin; refine wpList_append_s rfl _ _ 22 rfl i0 Tryz.underlying22 hi0 hz0 hz1 hz2 w.heap.size (fun _ => False) _ LL rfl (unhide HOX) hws1 (fun g hg => hg.elim) (some ⟨wr.heap.size, 0, none⟩) 1 1 [(R.length : Int)] rfl rfl (by simp) (unhide HBX) (by simp; omega) ?_; intro v3 w3 ho3 hb3 hk3; have HB3 := hide ((unhide HBW).trans hb3); have HO3 := hide ho3; clear ho3 hb3 hk3)
      go_loopw [6, 67] (fun v iv wq => ∃ j : Nat, j ≤ R.length ∧ iv = .int .i64 j ∧ OwnV wq w.heap.size v (LL ++ [(R.length : Int)] ++ (R.take j).flatMap dnR) ∧ Below w.heap.size w wq) (fun _ iv _ => R.length - (intOf iv).toNat)
      case atStart => exact ⟨0, Nat.zero_le _, rfl, by simpa using (unhide HO3).1, unhide HB3⟩
      case round =>
        obtain ⟨j, hj, rfl, hown, hbel⟩ := hrel
        by_cases hlt : j < R.length
        · have hne : R ≠ [] := by intro e; rw [e] at hlt; simp at hlt
          obtain ⟨b1, o1, rfl, hc1⟩ := ((unhide HRS).below hbel).2.2.2 hne
          obtain ⟨f, hf⟩ : ∃ f, R[j]? = some f := ⟨R[j], List.getElem?_eq_getElem hlt⟩
          obtain ⟨q0, q1⟩ := Sls.root (cap := 0) hc1 hf
          obtain ⟨n1, n2, n3⟩ := unhide HR f (List.mem_of_getElem? hf)
          have hnext : (R.take (j + 1)).flatMap dnR = (R.take j).flatMap dnR ++ dnR f := by rw [take_more hf, List.flatMap_append]; simp
          have hrk := (drK_byt (R.take j) (fun r hr => unhide HR r (List.mem_of_mem_take hr))).2
          obtain ⟨sn, z⟩ := f
          dsimp only at q0 q1 n1 n2 n3
          have HNX : Hid (LL ++ [(R.length : Int)] ++ (R.take (j + 1)).flatMap dnR = LL ++ [(R.length : Int)] ++ (R.take j).flatMap dnR ++ nameL sn ++ [z]) := hide (by rw [hnext]; unfold dnR; simp only [List.append_assoc])
          have hl2 : (LL ++ [(R.length : Int)] ++ (R.take j).flatMap dnR).length ≤ 200000 := by
            rw [List.length_append, List.length_append, hrk, List.length_take, List.length_singleton]
            omega
          generalize LL ++ [(R.length : Int)] ++ (R.take j).flatMap dnR = L2 at *
          have hba : Below wr.heap.size wr (wr.alloc (.cells #[.string sn, .int .i64 z] 57)) := (Below.refl _ _).alloc (Nat.le_refl _) _
          have hen := heap_alloc_new wr (.cells #[.string sn, .int .i64 z] 57)
          have HPN := hide (putName_yes sn (wr.alloc (.cells #[.string sn, .int .i64 z] 57)) n1.1 n1.2.1 n1.2.2)
          have hesz : wr.heap.size < (wr.alloc (.cells #[.string sn, .int .i64 z] 57)).heap.size := by simp
          have HEN := hide hen
          have HB9 := hide (hbel.trans (hba.mono hbel.size))
          have HOWN := hide (hown.below hba)
          have HOLS := hide hown.old
          have hm1 : z % 256 = z := by omega
          have hnl := length_nameL sn n1.2.1
          have HNB := hide (byt_nameL sn)
          have hne8 : nameL sn ≠ [] := by intro e; rw [e] at hnl; simp at hnl
          generalize nameL sn = NM at *
          clear hc1 hf hne hnext hrk hba hen hown hbel n1
          go_wp2_with fail
          refine (unhide HPN).mono ?_
          rintro e w2 ⟨g2, rfl, hg2, hk2, hB2⟩
          have hen2 := (hB2.block wr.heap.size hesz).trans (unhide HEN)
          have hB2' := (unhide HB9).trans (hB2.mono (unhide HB9).size)
          have hown2 : OwnS w2 w.heap.size (fun g => g = wr.heap.size) _ L2 := ⟨(unhide HOWN).below hB2, fun g hg hSg => by have := unhide HOLS g hg; omega⟩
          have HO2 := hide hown2
          have hws2 := hB2'.size
          have HEN2 := hide hen2
          have HB2 := hide hB2'
          have HK2 := hide hk2
          clear hown2 hB2' hen2 hk2 hB2 HPN HOWN HB9 HOLS HEN hg2
          go_wp2_with (first
            | (at_builtin; refine wpList_append_s rfl _ _ 22 rfl i0 Tryz.underlying22 hi0 hz0 hz1 hz2 w.heap.size (fun g => g = wr.heap.size) _ L2 rfl (unhide HO2) hws2 (fun g hg => by rw [hg]; exact (Array.getElem?_eq_some_iff.1 (unhide HEN2)).1) (some ⟨g2, 0, none⟩) 8 8 NM rfl hnl.symm hne8 (by have h9 := (unhide HK2).bs (unhide HNB) (by omega); rw [hnl] at h9; exact h9) (by omega) ?_; intro v4 w4 ho4 hb4 hk4; have hB4 := (unhide HB2).trans hb4; have hen4 := (hk4 wr.heap.size rfl).trans (unhide HEN2); have s1 : w4.cell? ⟨wr.heap.size, 1, none⟩ = some (.int .i64 z) := (by rw [cell_of_row _ _ _ _ _ _ hen4]; rfl); have hba4 : Below w4.heap.size w4 (w4.alloc (.cells #[.int .u8 z] 5)) := (Below.refl _ _).alloc (Nat.le_refl _) _; have HO4 : Hid (OwnS (w4.alloc (.cells #[.int .u8 z] 5)) w.heap.size (fun _ => False) v4 (L2 ++ NM)) := hide ⟨ho4.1.below hba4, fun _ _ hf => hf⟩; have HBX4 : Hid (Bs (w4.alloc (.cells #[.int .u8 z] 5)) (some ⟨w4.heap.size, 0, none⟩) 1 [z]) := hide (Blk.bs (l := [z]) (heap_alloc_new w4 _) (fun y hy => by rw [List.mem_singleton.1 hy]; omega) (by simp)); have HB4 := hide (hB4.trans (hba4.mono hB4.size)); have hws4 : w.heap.size ≤ (w4.alloc (.cells #[.int .u8 z] 5)).heap.size := (unhide HB4).size; clear ho4 hb4 hk4 hB4 hen4 hba4)
            | (at_builtin; refine wpList_append_s rfl _ _ 22 rfl i0 Tryz.underlying22 hi0 hz0 hz1 hz2 w.heap.size (fun _ => False) _ (L2 ++ NM) rfl (unhide HO4) hws4 (fun g hg => hg.elim) (some ⟨w4.heap.size, 0, none⟩) 1 1 [z] rfl rfl (by simp) (unhide HBX4) (by rw [List.length_append, List.length_singleton]; omega) ?_; intro v5 w5 ho5 hb5 hk5; have HB5 := hide ((unhide HB4).trans hb5); have HO5 := hide ho5; clear ho5 hb5 hk5))
          go_roundw
          case rel => exact ⟨j + 1, by omega, by go_num, by rw [unhide HNX]; exact (unhide HO5).1, unhide HB5⟩
          case measure => simp [intOf]; omega
        · obtain rfl : j = R.length := by omega
          rw [unhide HER] at hown
          obtain ⟨y1, y2⟩ := drK_byt R (unhide HR)
          have hby : Byt (LL ++ [(R.length : Int)] ++ R.flatMap dnR) := fun z hz => by
            rcases List.mem_append.1 hz with hz | hz
            · rcases List.mem_append.1 hz with hz | hz
              · exact unhide HBYL z hz
              · rw [List.mem_singleton.1 hz]; omega
            · exact y1 z hz
          obtain ⟨a9, c9, rfl, hb9⟩ := hown.bs hby (by rw [List.length_append, List.length_append, y2, List.length_singleton]; omega)
          rw [← unhide HEQ] at hb9
          have HB9 := hide hb9
          have HBW9 := hide hbel
          have HLN : Hid ((LL ++ [(R.length : Int)] ++ R.flatMap dnR).length = WL.length) := hide (by rw [unhide HEQ])
          clear hown hbel hb9 y1 y2 hby hlt
          go_wp2
          go_ret2
          exact ⟨a9, c9, by rw [← unhide HLN]; rfl, unhide HB9, unhide HBW9⟩
end Go.Proofs.YtllpeknpplpgeaaGreatDoor
/-! Contracts of package image: Roots. (Part of the proofs over package image.) -/
namespace Go.Proofs.YtllpeknpplpgeaaGreatDoor
open Go.RowKit
set_option linter.unusedVariables false

theorem size_root : (Tryz.prog.info? 57).map (·.size) = some 2 := by kernel_rfl
theorem RoB.set {w : World} {g : Nat} {r : (ByteArray × Int)} (h : RoB w g r) (s : ByteArray) (x : Int) : RoB ((w.setCell ⟨g, 0, none⟩ (.string s)).setCell ⟨g, 1, none⟩ (.int .i64 x)) g (s, x) := by
  have h1 := heap_setCell_same w g 0 _ _ (.string s) h
  exact heap_setCell_same _ g 1 _ _ (.int .i64 x) h1
set_option maxHeartbeats 1000000 in
theorem rootOf_any (a : Option Addr) (cap : Nat) (r : List Int) (w : World) (hb : Bs w a cap r) (h11 : r.length = 11) :
    Calls Tryz.prog 67 #[.slice a 11 cap] w fun e w' => e = .returned (.agg #[.string (rootOf r).1, .int .i64 (rootOf r).2]) ∧ Below w.heap.size w w' := by
  have hb0 : Below w.heap.size w (w.alloc (.cells #[.string { data := #[] }, .int .i64 0] 57)) := (Below.refl _ _).alloc (Nat.le_refl _) _
  have hb1 := hb.below hb0
  obtain ⟨a', hhi, hb2⟩ := slice_hi (P := Tryz.prog) (t := 22) Tryz.underlying22 size_u8 hb1 8 (by omega)
  rw [h11, show ((8 : Nat) : Int) = 8 from rfl] at hhi
  have h8 : (r.take 8).length = 8 := by rw [List.length_take]; omega
  have HG := hide (getName_any a' cap (r.take 8) _ hb2)
  rw [h8] at HG
  have HN := hide (RoB.new w (({ data := #[] } : ByteArray), 0))
  have HBS := hide hb
  have HB0 := hide hb0
  unfold rootOf
  dsimp only
  generalize (readOut (r.take 8)).1 = s at *
  generalize (readOut (r.take 8)).2 = c at *
  generalize hx : r.getD 10 0 = x
  have HX := hide hx
  clear hb hb1 hb2 hb0 hx
  go_enter Tryz.func67, Tryz.ntmps67
  go_wp2_with fail
  refine (unhide HG).mono ?_
  rintro e w1 ⟨rfl, hb1⟩
  have hro := (unhide HN).below hb1 (by simp)
  obtain ⟨c0, c1⟩ := hro.cells
  have f0 := frozen_of_row _ _ 0 _ _ hro
  have f1 := frozen_of_row _ _ 1 _ _ hro
  have hB1 := (unhide HB0).trans (hb1.mono (unhide HB0).size)
  have hbs1 := (unhide HBS).below hB1
  obtain ⟨b, off, rfl, hcell⟩ := hbs1.at 10 (by omega)
  have hbd := hbs1.1.getD 10
  have HRO := hide hro
  have HB1 := hide hB1
  dsimp only at c0 c1
  clear hro hB1 hbs1 hb1 HB0 HN HG HBS
  rw [unhide HX] at hcell hbd
  go_wp2
  refine bodyPost_ret (results_cell_row rfl _ _ w.heap.size 57 _ (0, 0) _ rfl ((unhide HRO).set s x) Tryz.underlying57 rfl (by rw [size_root]; rfl)) rfl ?_
  exact ⟨rfl, ((unhide HB1).setCell (Nat.le_refl _) _).setCell (Nat.le_refl _) _⟩

theorem iRoots_no (a : Option Addr) (len cap : Nat) (w : World) (hl : len ≤ 140737488351232) (hq : lenB len = false) :
    Calls Tryz.prog 35 #[.slice a len cap] w fun e w' => e = .returned (.tuple #[.slice none 0 0, errV 3]) ∧ w = w' := by
  rw [errV_pos 3 (by decide)]
  have HL := hide (fun W => isLength_any len W)
  rw [hq] at HL
  clear hq
  go_enter Tryz.func35, Tryz.ntmps35
  go_wp2_with (go_at_call 63; refine (unhide HL _).mono ?_; rintro e w1 ⟨rfl, rfl⟩)
  go_ret2
  exact ⟨rfl, rfl⟩
theorem rootsK_yes {l : List Int} {k : Nat} (ht : isRoot (rowAt l k) = true) : rootsK l (k + 1) = rootsK l k ++ [rootOf (rowAt l k)] := by
  show rootsK l k ++ _ = _
  rw [if_pos ht]
theorem rootsK_no {l : List Int} {k : Nat} (ht : isRoot (rowAt l k) = false) : rootsK l (k + 1) = rootsK l k := by
  show rootsK l k ++ _ = _
  rw [if_neg (by rw [ht]; simp), List.append_nil]

set_option maxRecDepth 100000 in
set_option maxHeartbeats 2000000 in
theorem iRoots_yes (a : Option Addr) (cap : Nat) (l : List Int) (w : World) (hb : Bs w a cap l) (hq : lenB l.length = true) :
    Calls Tryz.prog 35 #[.slice a l.length cap] w fun e w' => ∃ v, e = .returned (.tuple #[v, .nilIface]) ∧ Lst roC 2 57 w' w.heap.size v (rootsK l 8) ∧ Below w.heap.size w w' := by
  have HL := hide (fun W => isLength_any l.length W)
  have hl := lenB_iff.1 hq
  rw [hq] at HL
  clear hq
  obtain ⟨i0, hi0, hz0, hz1, hz2⟩ := info_parts info_root
  have HB := hide hb
  have hbl := hb.2.2.1
  clear hb
  go_enter Tryz.func35, Tryz.ntmps35
  go_wp2_with (go_at_call 63; refine (unhide HL _).mono ?_; rintro e w1 ⟨rfl, rfl⟩)
  go_loopw [4, 12] (fun v hv wr => ∃ k : Nat, k ≤ 8 ∧ hv = .int .i64 k ∧ Lst roC 2 57 wr w.heap.size v (rootsK l k) ∧ Below w.heap.size w wr) (fun _ hv _ => 8 - (intOf hv).toNat)
  case atStart => exact ⟨0, by omega, rfl, Lst.nil _ _, Below.refl _ _⟩
  case round =>
    obtain ⟨k, hk, rfl, hown, hbel⟩ := hrel
    obtain ⟨va, vm, vc, rfl⟩ := hown.shape
    by_cases hlt : k < 8
    · have hbs := (unhide HB).below hbel
      have HP1 := hide (rootAt_any k wr (by omega))
      have HP2 := hide (rootAt_any (k + 1) wr (by omega))
      have ek : ((k + 1 : Nat) : Int) = (k : Int) + 1 := by omega
      rw [ek] at HP2
      obtain ⟨a', hlh, hb2⟩ := slice_lohi (P := Tryz.prog) (t := 22) Tryz.underlying22 size_u8 hbs (200 + 11 * k) (200 + 11 * (k + 1)) (by omega) (by omega)
      have e11 : 200 + 11 * (k + 1) - (200 + 11 * k) = 11 := by omega
      rw [e11] at hlh hb2
      have hr11 : (rowAt l k).length = 11 := rowAt_len (by omega)
      have HC := hide (contains_any a' (cap - (200 + 11 * k)) (rowAt l k) wr hb2)
      have HR := hide (rootOf_any a' (cap - (200 + 11 * k)) (rowAt l k) wr hb2 hr11)
      rw [hr11] at HC
      have HO := hide hown
      have HBEL := hide hbel
      have hp1 : (200 + 11 * k : Nat) ≤ l.length := by omega
      clear hown hbel hbs hb2 hr11 e11 ek
      generalize 200 + 11 * (k + 1) = p2 at *
      generalize 200 + 11 * k = p1 at *
      by_cases ht : isRoot (rowAt l k) = true
      · rw [ht] at HC
        have HE := hide (rootsK_yes ht)
        have HLN := hide (rootsK_len l k)
        clear ht
        generalize hent : rootOf (rowAt l k) = ent at *
        clear hent
        obtain ⟨s, x⟩ := ent
        dsimp only at HR
        go_wp2_with (first | (go_at_call 64; refine (unhide HP1).mono ?_; rintro e w1 ⟨rfl, hw1⟩; subst hw1) | (go_at_call 64; refine (unhide HP2).mono ?_; rintro e w1 ⟨rfl, hw1⟩; subst hw1) | (go_at_call 65; refine (unhide HC).mono ?_; rintro e w1 ⟨rfl, hw1⟩; subst hw1))
        refine (unhide HR).mono ?_
        rintro e w1 ⟨rfl, hb1⟩
        have hB1 := (unhide HBEL).trans (hb1.mono (unhide HBEL).size)
        have HB3 := hide (hB1.alloc hB1.size (.cells #[.string s, .int .i64 x] 57))
        have HO3 := hide (((unhide HO).below hb1).below ((Below.refl _ _).alloc (Nat.le_refl _) (.cells #[.string s, .int .i64 x] 57)))
        have hsz := (unhide HBEL).size
        have hsz1 := hb1.size
        have HGN : Hid ((w1.alloc (.cells #[.string s, .int .i64 x] 57)).heap[w1.heap.size]? = some (.cells (roC (s, x)).toArray 57 (0, 0))) := hide (heap_alloc_new w1 _)
        clear hb1 hB1 HO HBEL HR HC
        go_wp2_with (at_builtin; refine wpList_append_lst rfl _ _ 59 rfl w.heap.size i0 (.agg #[.string ByteArray.empty, .int .i64 0]) 24 Tryz.underlying59 hi0 hz0 hz1 hz2 rfl (by decide) (by decide) _ _ rfl (unhide HO3) w1.heap.size (s, x) rfl (unhide HGN) rfl (roC_one _) (Nat.le_trans (unhide HLN) (by omega)) (by simp; omega) ?_)
        intro v9 w9 hown9 hbel9
        have HO9 := hide hown9
        have HB9 := hide ((unhide HB3).trans hbel9)
        obtain ⟨a9, m9, c9, rfl⟩ := hown9.shape
        clear hown9 hbel9 HO3 HB3 HGN
        go_wp2
        go_roundw
        case rel => exact ⟨k + 1, by omega, by go_num, by rw [unhide HE]; exact unhide HO9, unhide HB9⟩
        case measure => simp [intOf]; omega
      · have ht' : isRoot (rowAt l k) = false := by simpa using ht
        rw [ht'] at HC
        have HE := hide (rootsK_no ht')
        clear ht ht' HR
        go_wp2_with (first | (go_at_call 64; refine (unhide HP1).mono ?_; rintro e w1 ⟨rfl, hw1⟩; subst hw1) | (go_at_call 64; refine (unhide HP2).mono ?_; rintro e w1 ⟨rfl, hw1⟩; subst hw1) | (go_at_call 65; refine (unhide HC).mono ?_; rintro e w1 ⟨rfl, hw1⟩; subst hw1))
        go_roundw
        case rel => exact ⟨k + 1, by omega, by go_num, by rw [unhide HE]; exact unhide HO, unhide HBEL⟩
        case measure => simp [intOf]; omega
    · obtain rfl : k = 8 := by omega
      have HO := hide hown
      have HBEL := hide hbel
      clear hown hbel
      go_wp2
      go_ret2
      exact ⟨_, rfl, unhide HO, unhide HBEL⟩
theorem iRoots_any (a : Option Addr) (cap : Nat) (l : List Int) (w : World) (hb : Bs w a cap l) :
    Calls Tryz.prog 35 #[.slice a l.length cap] w fun e w' => ∃ v, e = .returned (.tuple #[v, errV (lenE l.length)]) ∧ Lst roC 2 57 w' w.heap.size v (roots l) ∧ Below w.heap.size w w' := by
  unfold lenE roots
  cases hq : lenB l.length with
  | true =>
    rw [if_pos rfl, if_pos rfl, errV_zero]
    exact iRoots_yes a cap l w hb hq
  | false =>
    rw [if_neg (by simp), if_neg (by simp)]
    exact (iRoots_no a l.length cap w hb.2.2.1 hq).mono fun e w' ⟨he, hw⟩ => ⟨_, he, Lst.nil _ _, by rw [hw]; exact Below.refl _ _⟩
end Go.Proofs.YtllpeknpplpgeaaGreatDoor
/-! Contracts of package old: Down. (Part of the proofs over package old.) -/
namespace Go.Proofs.YtllpeknpplpgeaaGreatDoor
open Go.RowKit
set_option linter.unusedVariables false

/-- What Down answers: the image of old, where nothing is wrong. -/
def dwL (L : List Int) : List Int := if fineE L = 0 then dnL L else []
theorem wr_dn {L : List Int} (hf : Fine L) : wrL (obsL L (entsK L 40)) (rootsK L 8) = dnL L := by
  have h1 : (obsL L (entsK L 40)).flatMap wrO = (entsK L 40).flatMap (dnO L) := by
    have : ∀ E : List (Int × Int × Int × Int), (∀ e ∈ E, e ∈ entsK L 40) → (obsL L E).flatMap wrO = E.flatMap (dnO L) := by
      intro E
      induction E with
      | nil => intro _; rfl
      | cons e E ih =>
        intro h
        have he := ent_in hf (h e (by simp))
        have hob : objOf L e.1 = (e.2.2.2, partL L e.2.1 e.2.2.1) := by
          unfold objOf objE
          rw [if_neg he.2.2.2.1, ← he.1]
        show wrO (e, partL L e.2.1 e.2.2.1) ++ (obsL L E).flatMap wrO = dnO L e ++ E.flatMap (dnO L)
        rw [ih (fun x hx => h x (by simp [hx]))]
        unfold wrO dnO
        rw [hob]
    exact this _ (fun e he => he)
  have h2 : (obsL L (entsK L 40)).length = (entsK L 40).length := by unfold obsL; rw [List.length_map]
  unfold wrL wrH dnL dnB
  rw [h1, h2]
  simp only [List.append_assoc]
theorem obs_may {L : List Int} (hf : Fine L) (hb : Byt L) {os : List ((Int × Int × Int × Int) × Option Addr × Nat × List Int)} (h : os.map ojP = obsL L (entsK L 40)) : (∀ o ∈ os, MayW o) ∧ os.length ≤ 40 := by
  refine ⟨fun o ho => ?_, ?_⟩
  · have hm : ojP o ∈ obsL L (entsK L 40) := by rw [← h]; exact List.mem_map.2 ⟨o, ho, rfl⟩
    obtain ⟨e, he, heq⟩ := List.mem_map.1 hm
    obtain ⟨ee, e1, e2, et, e3, e4, e5, e6⟩ := ent_in hf he
    have ht := hf.ent e1 e2 et
    rw [← ee] at ht
    unfold ojP at heq
    simp only [Prod.mk.injEq] at heq
    obtain ⟨q1, q2⟩ := heq
    have hlen : (partL L e.2.1 e.2.2.1).length = e.2.2.1.toNat := by
      unfold partL
      rw [List.length_take, List.length_drop]
      omega
    unfold MayW
    rw [← q1, ← q2, hlen]
    refine ⟨by omega, by omega, by omega, by omega, by omega, by omega, by omega, fun z hz => hb z (List.mem_of_mem_drop (List.mem_of_mem_take hz)), fun hx => ?_⟩
    rw [hx] at hlen
    simp at hlen
    omega
  · have := congrArg List.length h
    rw [List.length_map] at this
    rw [this]
    unfold obsL
    rw [List.length_map]
    exact entsK_len L 40
theorem roots_may {L : List Int} (hf : Fine L) (hb : Byt L) : ∀ r ∈ rootsK L 8, NameOk r.1 ∧ 0 ≤ r.2 ∧ r.2 ≤ 255 := fun r hr => by
  obtain ⟨i, hi, hq, rfl⟩ := mem_rootsK_iff.1 hr
  obtain ⟨g1, g2, g3⟩ := lead_obj hf hi hq
  have hbad := badR_no.1 ((rFault_iff.1 (faults_iff.1 hf.ok).2).1 i hi hq)
  have hrb : Byt ((rowAt L i).take 8) := fun z hz => hb z (List.mem_of_mem_drop (List.mem_of_mem_take (List.mem_of_mem_take hz)))
  exact ⟨(readOut_ok hrb hbad.1).2.1, by show 0 ≤ (rowAt L i).getD 10 0; omega, by show (rowAt L i).getD 10 0 ≤ 255; omega⟩
set_option maxHeartbeats 2000000 in
theorem down_any (a : Option Addr) (cap : Nat) (L : List Int) (w : World) (hbs : Bs w a cap L) :
    Calls Tryz.prog 11 #[.slice a L.length cap] w (Ends w (dwL L) (errV (fineE L))) := by
  have HC := hide (chk_any a cap L w hbs)
  have hbl := hbs.2.2.1
  unfold dwL
  cases hq : lenB L.length with
  | false =>
    have e1 : fineE L = 3 := by unfold fineE; rw [if_pos hq]
    have e2 : lenE L.length = 3 := by unfold lenE; rw [if_neg (by rw [hq]; simp)]
    rw [e1, if_neg (by decide), errV_pos 3 (by decide)]
    rw [e2, errV_pos 3 (by decide)] at HC
    clear hbs hq e1 e2
    generalize L.length = N at *
    go_enter Tryz.func11, Tryz.ntmps11
    go_wp2_with fail
    refine (unhide HC).mono ?_
    rintro e w1 ⟨v1, rfl, hL1, hB1⟩
    have HB := hide hB1
    clear hL1 hB1 HC
    go_wp2
    go_ret2
    exact ⟨none, 0, rfl, bs_nil _, unhide HB⟩
  | true =>
    have e2 : lenE L.length = 0 := by unfold lenE; rw [if_pos hq]
    have e3 : chkF L = faults L := by unfold chkF; rw [if_pos hq]
    rw [e2, e3, show errV 0 = .nilIface from rfl] at HC
    by_cases hf0 : faults L = []
    · have e1 : fineE L = 0 := by unfold fineE; rw [if_neg (by rw [hq]; simp), if_pos hf0]
      rw [e1, if_pos rfl, show errV 0 = .nilIface from rfl]
      have hlen := lenB_iff.1 hq
      have hf : Fine L := ⟨by omega, hf0⟩
      have HEQ := hide (wr_dn hf)
      have HOB := hide (fun (W : World) (hx : Bs W a cap L) => objectsOf_any a cap L W hx hf)
      have HRT := hide (fun (W : World) (hx : Bs W a cap L) => iRoots_any a cap L W hx)
      have e4 : roots L = rootsK L 8 := by unfold roots; rw [if_pos hq]
      rw [e2, e4, show errV 0 = .nilIface from rfl] at HRT
      have HMAY := hide (fun (os : List ((Int × Int × Int × Int) × Option Addr × Nat × List Int)) hx => obs_may hf hbs.1 (os := os) hx)
      have HRM := hide (roots_may hf hbs.1)
      have HBS := hide hbs
      have hr8 := rootsK_len L 8
      rw [hf0] at HC
      clear hbs hq e1 e2 e3 e4 hf0 hf
      generalize obsL L (entsK L 40) = OB at *
      generalize rootsK L 8 = R at *
      generalize dnL L = DL at *
      go_enter Tryz.func11, Tryz.ntmps11
      go_wp2_with fail
      refine (unhide HC).mono ?_
      rintro e w1 ⟨v1, rfl, hL1, hB1⟩
      obtain ⟨a1, c1, rfl, hs1⟩ := hL1.sls flC_len (by simp)
      have HB1 := hide hB1
      have HO1 := hide (unhide HOB w1 ((unhide HBS).below hB1))
      clear hL1 hB1 hs1 HC HOB
      rw [List.length_nil]
      go_wp2_with fail
      refine (unhide HO1).mono ?_
      rintro e w2 ⟨v2, os, rfl, hL2, hos, hbo, hB2⟩
      have hB2' := (unhide HB1).trans (hB2.mono (unhide HB1).size)
      obtain ⟨m1, m2⟩ := unhide HMAY os hos
      obtain ⟨a2, c2, rfl, hs2⟩ := hL2.sls ojC_len (by omega)
      have HS2 := hide hs2
      have HBO := hide hbo
      have HOS := hide hos
      have HB2 := hide hB2'
      have HBB := hide hB2
      have HM1 := hide m1
      have HR2 := hide (unhide HRT w2 ((unhide HBS).below hB2'))
      clear hL2 hos hbo hB2 hB2' hs2 m1 HO1 HMAY HRT HB1
      go_wp2_with fail
      refine (unhide HR2).mono ?_
      rintro e w3 ⟨v3, rfl, hL3, hB3⟩
      obtain ⟨a3, c3, rfl, hs3⟩ := hL3.sls roC_len (by omega)
      have hB3' := (unhide HB2).trans (hB3.mono (unhide HB2).size)
      have hbo3 : ∀ o ∈ os, Bs w3 o.2.1 o.2.2.1 o.2.2.2 := fun o ho => (unhide HBO o ho).below ((unhide HBB).trans (hB3.mono (unhide HBB).size))
      have hW := written_any a2 a3 c2 c3 os R w3 ((unhide HS2).below hB3) hbo3 hs3 (unhide HM1) m2 (unhide HRM) hr8
      rw [unhide HOS, unhide HEQ] at hW
      have HW := hide hW
      have HB3 := hide hB3'
      clear hL3 hs3 hB3 hB3' hbo3 hW HS2 HBO HOS HBB HM1 HR2 HB2 HRM
      go_wp2_with fail
      refine (unhide HW).mono ?_
      rintro e w4 ⟨a4, c4, rfl, hb4, hB4⟩
      have HB4 := hide hb4
      have HBW := hide ((unhide HB3).trans (hB4.mono (unhide HB3).size))
      clear hb4 hB4 HW HB3
      go_wp2
      go_ret2
      exact ⟨_, _, rfl, unhide HB4, unhide HBW⟩
    · have e1 : fineE L = 6 := by unfold fineE; rw [if_neg (by rw [hq]; simp), if_neg hf0]
      rw [e1, if_neg (by decide), errV_pos 6 (by decide)]
      have hpos : 0 < (faults L).length := List.length_pos_iff.2 hf0
      have hfl := faults_len L
      clear hbs hq e1 e2 e3 hf0
      go_enter Tryz.func11, Tryz.ntmps11
      go_wp2_with fail
      refine (unhide HC).mono ?_
      rintro e w1 ⟨v1, rfl, hL1, hB1⟩
      obtain ⟨a1, c1, rfl, hs1⟩ := hL1.sls flC_len (by omega)
      have HB := hide hB1
      clear hL1 hB1 hs1 HC
      generalize (faults L).length = FN at *
      go_wp2
      go_ret2
      exact ⟨none, 0, rfl, bs_nil _, unhide HB⟩
end Go.Proofs.YtllpeknpplpgeaaGreatDoor
/-! Arguments as they came in: lists of numbers. (Part of the proofs over laws.) -/
namespace Go.Proofs.YtllpeknpplpgeaaGreatDoor
open Go.RowKit Go.ChangeShapes Go.WideShapes Go.Deep
set_option linter.unusedVariables false

/-- The slice '.slice a l.length cap' of ints reads in w as l. -/
def Is (w : World) (a : Option Addr) (cap : Nat) (l : List Int) : Prop :=
  (∀ z ∈ l, -9223372036854775808 ≤ z ∧ z ≤ 9223372036854775807) ∧ l.length ≤ cap ∧ l.length ≤ 140737488351232 ∧ (l ≠ [] → ∃ b off, a = some ⟨b, off, none⟩ ∧ ∀ i, i < l.length → w.cell? ⟨b, off + i, none⟩ = some (.int .i64 (l.getD i 0)))
theorem Is.below {w w' : World} {a : Option Addr} {cap : Nat} {l : List Int} (h : Is w a cap l) (hb : Below w.heap.size w w') : Is w' a cap l := by
  obtain ⟨h1, h2, h3, h4⟩ := h
  refine ⟨h1, h2, h3, fun hne => ?_⟩
  obtain ⟨b, off, rfl, hc⟩ := h4 hne
  exact ⟨b, off, rfl, fun i hi => (hb.cell (block_lt_of_cell (hc i hi))).trans (hc i hi)⟩
theorem ints_of {H : Type} {enc : TypeId × Value → H} {W : World} {fuel : Nat} {a : Option Addr} {len cap : Nat} {d : DataW H} {p : List MemPlace}
    (hf : DataW.trod enc Tryz.prog W 0 (fun _ => true) true fuel 34 [.slice a len cap] = some (d, p)) (hw : ∀ n ∈ d.weights Tryz.prog 34, n ≤ reachBytes) : ∃ l, Is W a cap l ∧ l.length = len := by
  rcases open_ints Tryz.underlying34 Tryz.underlying3 (by kernel_rfl) hf with ⟨hcs, _⟩ | ⟨x, l, c, zs, hcs, _, hl, hm, hz, hx, hcell, hwz⟩
  · simp at hcs
    obtain ⟨rfl, rfl, rfl⟩ := hcs
    exact ⟨[], ⟨fun z hz => (by cases hz), Nat.le_refl _, by decide, fun h => absurd rfl h⟩, rfl⟩
  · simp at hcs
    obtain ⟨rfl, rfl, rfl⟩ := hcs
    simp only [Prod.mk.injEq] at hx
    simp only [if_true] at hz
    have hb : Tryz.prog.bytesOf 3 = 8 := by kernel_rfl
    have hs := hw (((lits (H := H) .i64 (zs.take len)).length + (lits (H := H) .i64 (zs.drop len)).length) * 8) (by
      rw [hx.1]
      simp [DataW.weights, Tryz.underlying34, hb])
    simp only [lits, List.length_map, List.length_take, List.length_drop, reachBytes] at hs
    have hlen : (zs.take len).length = len := by simp; omega
    refine ⟨zs.take len, ⟨fun z h => bounds_i64 (hwz z (List.mem_of_mem_take h)), by omega, by omega, fun hne => ?_⟩, hlen⟩
    have hpos : 0 < zs.length := by
      cases zs with
      | nil => simp at hne
      | cons _ _ => simp
    obtain ⟨b, off, spot⟩ := x
    have hspot : spot = none := by simpa [Addr.add] using World.cell?_spot (hcell 0 hpos)
    subst hspot
    refine ⟨b, off, rfl, fun i hi => ?_⟩
    rw [hlen] at hi
    have h1 := hcell i (by omega)
    rw [addr_add] at h1
    rw [h1]
    simp [List.getD, hi]
end Go.Proofs.YtllpeknpplpgeaaGreatDoor
