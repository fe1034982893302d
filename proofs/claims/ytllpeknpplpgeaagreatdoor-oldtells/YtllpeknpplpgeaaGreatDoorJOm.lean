/-
  Joined by program: HasPre; OlV; AppBs; OlI; OlJ; OlK; OuD. (Parts of the proofs over the packages of the program.)
-/
import Derived.Test.YtllpeknpplpgeaaGreatDoorJCh
import Derived.Test.YtllpeknpplpgeaaGreatDoorNumPut
import Derived.Test.YtllpeknpplpgeaaGreatDoorJOl
import Derived.Lib.SlBytesConst
import Derived.Test.YtllpeknpplpgeaaGreatDoorOwnV
import Derived.Laws.AppendOwnNone
import Derived.Test.YtllpeknpplpgeaaGreatDoorImF
import Derived.Test.YtllpeknpplpgeaaGreatDoorImD
import Derived.Test.YtllpeknpplpgeaaGreatDoorJIr
import Derived.ArgAppend
import Derived.Maps.AppendAt
import Derived.Deep.RegionHeld3
import Derived.Test.YtllpeknpplpgeaaGreatDoorImI
import Derived.Test.YtllpeknpplpgeaaGreatDoorJRc
import Derived.Lib.AppendStr
/-! A contract of package bytes: HasPrefix. (Part of the proofs.) -/
namespace Go.Proofs.YtllpeknpplpgeaaGreatDoor
open Go.RowKit
set_option linter.unusedVariables false

theorem hasPrefix_any (a la : Option Addr) (cap lc : Nat) (L l : List Int) (w : World) (hb : Bs w a cap L) (hl : Bs w la lc l) (hle : l.length ≤ L.length) :
    Calls Tryz.prog 37 #[.slice a L.length cap, .slice la l.length lc] w fun e w' => e = .returned (.bool (decide (L.take l.length = l))) ∧ w = w' := by
  obtain ⟨a2, hhi, hb2⟩ := slice_hi (P := Tryz.prog) (t := 22) Tryz.underlying22 size_u8 hb l.length hle
  have h8 : (L.take l.length).length = l.length := by rw [List.length_take]; omega
  have HE := hide (bytesEq_any a2 la cap lc (L.take l.length) l w hb2 hl)
  rw [h8] at HE
  have hbl := hb.2.2.1
  clear hb hl hb2 h8
  generalize decide (L.take l.length = l) = r at *
  generalize L.length = N at *
  generalize l.length = n at *
  go_enter Tryz.func37, Tryz.ntmps37
  go_wp2_with fail
  refine (unhide HE).mono ?_
  rintro e w1 ⟨rfl, hw⟩
  subst hw
  go_wp2
  go_ret
  exact ⟨rfl, rfl⟩
theorem hasPrefix_short (a la : Option Addr) (n m cap lc : Nat) (w : World) (hn : n ≤ 140737488351232) (hm : m ≤ 140737488351232) (hlt : n < m) :
    Calls Tryz.prog 37 #[.slice a n cap, .slice la m lc] w fun e w' => e = .returned (.bool false) ∧ w = w' := by
  have h1 : ¬ ((m : Int) ≤ (n : Int)) := by omega
  go_enter Tryz.func37, Tryz.ntmps37
  go_wp2_with fail
  go_ret
  exact ⟨rfl, rfl⟩
end Go.Proofs.YtllpeknpplpgeaaGreatDoor
/-! Contracts of package old: Version. (Part of the proofs over package old.) -/
namespace Go.Proofs.YtllpeknpplpgeaaGreatDoor
open Go.RowKit
set_option linter.unusedVariables false

/-- Which version bytes are. -/
def verL (b : List Int) : Int := if hdB b = true then 1 else if lenB b.length = true then 2 else 0
theorem old_row (w : World) : Bs (w.alloc (.cells #[.int .u8 79, .int .u8 76, .int .u8 68, .int .u8 49] 5 (4, 5))) (some ⟨w.heap.size, 0, none⟩) 4 [79, 76, 68, 49] := by
  refine ⟨fun z hz => ?_, by decide, by decide, fun h => (by cases h), fun _ => ⟨w.heap.size, 0, rfl, fun i hi => ?_⟩⟩
  · simp at hz
    omega
  · rw [cell_of_row _ _ _ _ _ _ (heap_alloc_new w _)]
    match i, hi with
    | 0, _ => rfl
    | 1, _ => rfl
    | 2, _ => rfl
    | 3, _ => rfl
theorem version_any (a : Option Addr) (cap : Nat) (b : List Int) (w : World) (hb : Bs w a cap b) :
    Calls Tryz.prog 12 #[.slice a b.length cap] w fun e w' => e = .returned (.int .i64 (verL b)) ∧ Below w.heap.size w w' := by
  have hB : Below w.heap.size w (w.alloc (.cells #[.int .u8 79, .int .u8 76, .int .u8 68, .int .u8 49] 5 (4, 5))) := (Below.refl _ _).alloc (Nat.le_refl _) _
  have hbl := hb.2.2.1
  have HC : Hid (Calls Tryz.prog 37 #[.slice a b.length cap, .slice (some ⟨w.heap.size, 0, none⟩) 4 4] (w.alloc (.cells #[.int .u8 79, .int .u8 76, .int .u8 68, .int .u8 49] 5 (4, 5))) fun e w' => e = .returned (.bool (hdB b)) ∧ (w.alloc (.cells #[.int .u8 79, .int .u8 76, .int .u8 68, .int .u8 49] 5 (4, 5))) = w') := hide (by
    by_cases h4 : 4 ≤ b.length
    · rw [hdB_take h4]
      exact hasPrefix_any a _ cap 4 b [79, 76, 68, 49] _ (hb.below hB) (old_row w) h4
    · rw [hdB_len (by omega)]
      exact hasPrefix_short a _ b.length 4 cap 4 _ hbl (by decide) (by omega))
  have HB := hide hB
  unfold verL
  have kc := fun (w : World) (C : Array Value) (n c : Nat) => Lib.run_convert_bytes_const (P := Tryz.prog) w 22 5 C n c Tryz.underlying22 Tryz.underlying5
  cases hh : hdB b
  · rw [hh] at HC
    rw [if_neg (by simp)]
    clear hh hb hB
    by_cases h1 : 288 ≤ b.length
    · by_cases h2 : b.length ≤ 6400
      · rw [if_pos (lenB_iff.2 ⟨by omega, by omega⟩)]
        generalize b.length = N at *
        go_enter Tryz.func12, Tryz.ntmps12
        go_wp2_with fail
        refine (unhide HC).mono ?_
        rintro e w1 ⟨rfl, rfl⟩
        go_wp2
        go_ret
        exact ⟨rfl, unhide HB⟩
      · rw [if_neg (fun h => h2 (by have := lenB_iff.1 h; omega))]
        generalize b.length = N at *
        go_enter Tryz.func12, Tryz.ntmps12
        go_wp2_with fail
        refine (unhide HC).mono ?_
        rintro e w1 ⟨rfl, rfl⟩
        go_wp2
        go_ret
        exact ⟨rfl, unhide HB⟩
    · rw [if_neg (fun h => h1 (by have := lenB_iff.1 h; omega))]
      generalize b.length = N at *
      go_enter Tryz.func12, Tryz.ntmps12
      go_wp2_with fail
      refine (unhide HC).mono ?_
      rintro e w1 ⟨rfl, rfl⟩
      go_wp2
      go_ret
      exact ⟨rfl, unhide HB⟩
  · rw [hh] at HC
    rw [if_pos rfl]
    clear hh hb hB
    generalize b.length = N at *
    go_enter Tryz.func12, Tryz.ntmps12
    go_wp2_with fail
    refine (unhide HC).mono ?_
    rintro e w1 ⟨rfl, rfl⟩
    go_wp2
    go_ret
    exact ⟨rfl, unhide HB⟩
end Go.Proofs.YtllpeknpplpgeaaGreatDoor
/-! 'append(v, l...)' of bytes, for every l. (Part of the proofs.) -/
namespace Go.Proofs.YtllpeknpplpgeaaGreatDoor
open Go.RowKit
set_option linter.unusedVariables false

theorem wpList_append_bs {P : Program} {w : World} {ops : Array Oper} {rest : List Oper} {o : Oper} {a : Act} {Q : Exit → Act → World → Prop} (hgd : o.guard = none) (s x : Operand) (t : TypeId)
    (ho : o.op = .call { callee := .builtin .append, args := #[s, x], argTypes := #[t, t] }) (i : TypeInfo) (ht : P.underlying t = some (.slice 5)) (hi : P.info? 5 = some i) (hz : i.zero = some (.int .u8 0)) (h4 : i.size = 1) (h5 : i.bytes = 1)
    (B : Nat) (v : Value) (L : List Int) (hs : a.eval s = v) (hown : OwnV w B v L) (hB : B ≤ w.heap.size) (sp : Option Addr) (n cap : Nat) (l : List Int) (hx : a.eval x = .slice sp n cap) (hn : n = l.length) (hb : Bs w sp cap l) (hL : L.length + l.length ≤ 140737488351232)
    (h : ∀ v' w', OwnV w' B v' (L ++ l) → Below B w w' → wpList P ops Q rest (a.put o.dst v') w') :
    wpList P ops Q (o :: rest) a w := by
  subst hn
  have fin : ∀ v' w', w'.ownsRow B 5 1 v' (L.length + l.length) (L.map (Value.int .u8) ++ l.map (Value.int .u8)) → w.grownBy w' v.ownBlock → wpList P ops Q rest (a.put o.dst v') w' := fun v' w' ho' hg' => by
    refine h v' w' ?_ ((Below.refl _ _).grown hg' hB (fun k hk => hown.block k hk))
    unfold OwnV
    rw [List.length_append, List.map_append]
    exact ho'
  by_cases h0 : l = []
  · subst h0
    cases sp with
    | none =>
      have hc : cap = 0 := hb.2.2.2.1 rfl
      subst hc
      refine wpList_append_own_none hgd s x t ho B 5 i 1 ht hi v _ _ hs hown hx ?_
      exact h v w (by rw [List.append_nil]; exact hown) (Below.refl _ _)
    | some y =>
      exact wpList_append_own w hgd s x t ho B 5 i (.int .u8 0) 1 1 ht hi hz h4 h5 rfl (by decide) v _ _ hs hown y 0 cap [] hx (by simp) (fun j u hj => by simp at hj) (fun u hu => by cases hu) (by unfold maxLen; simp at hL; omega) (by simp at hL; omega) hB (fun v' w' ho' hg' _ => fin v' w' ho' hg')
  · obtain ⟨b, off, rfl, hc⟩ := hb.2.2.2.2 h0
    exact wpList_append_own w hgd s x t ho B 5 i (.int .u8 0) 1 1 ht hi hz h4 h5 rfl (by decide) v _ _ hs hown ⟨b, off, none⟩ l.length cap (l.map (Value.int .u8)) hx (by simp) (news_bs hb) (oneCell_u8 l) (by unfold maxLen; omega) (by omega) hB (fun v' w' ho' hg' _ => fin v' w' ho' hg')
end Go.Proofs.YtllpeknpplpgeaaGreatDoor
/-! Contracts of package old: objectsOf. (Part of the proofs over package old.) -/
namespace Go.Proofs.YtllpeknpplpgeaaGreatDoor
open Go.RowKit
set_option linter.unusedVariables false

/-- The objects of an image, each with its bytes. -/
def obsL (L : List Int) (E : List (Int × Int × Int × Int)) : List ((Int × Int × Int × Int) × List Int) := E.map (fun e => (e, partL L e.2.1 e.2.2.1))
theorem obsL_next {L : List Int} {E : List (Int × Int × Int × Int)} {k : Nat} {e : (Int × Int × Int × Int)} (h : E[k]? = some e) : obsL L (E.take (k + 1)) = obsL L (E.take k) ++ [(e, partL L e.2.1 e.2.2.1)] := by
  unfold obsL
  rw [take_more h, List.map_append]
  rfl
set_option maxRecDepth 100000 in
set_option maxHeartbeats 4000000 in
theorem objectsOf_any (a : Option Addr) (cap : Nat) (L : List Int) (w : World) (hbs : Bs w a cap L) (hf : Fine L) :
    Calls Tryz.prog 34 #[.slice a L.length cap] w fun e w' => ∃ v os, e = .returned (.tuple #[v, .nilIface]) ∧ Lst ojC 5 102 w' w.heap.size v os ∧ os.map ojP = obsL L (entsK L 40) ∧ (∀ o ∈ os, Bs w o.2.1 o.2.2.1 o.2.2.2) ∧ Below w.heap.size w w' := by
  obtain ⟨i0, hi0, hz0, hz1, hz2⟩ := info_parts info_oj
  have HE := hide (iEnts_any a cap L w hbs)
  have hlen := hf.len
  have e1 : lenE L.length = 0 := by unfold lenE; rw [if_pos hf.len0]
  have e2 : ents L = entsK L 40 := by unfold ents; rw [if_pos hf.len0]
  rw [e1, e2, show errV 0 = .nilIface from rfl] at HE
  have hbl := hbs.2.2.1
  have HIN := hide (fun e he => ent_in hf (x := e) he)
  have hel := entsK_len L 40
  have HBS := hide hbs
  clear hbs hf e1 e2
  generalize entsK L 40 = E at *
  go_enter Tryz.func34, Tryz.ntmps34
  go_wp2_with fail
  refine (unhide HE).mono ?_
  rintro e w1 ⟨v1, rfl, hown1, hb1⟩
  obtain ⟨a1, c1, rfl, hsl1⟩ := hown1.sls enC_len (by omega)
  have HS := hide hsl1
  have HB1 := hide hb1
  have HES : Hid (obsL L (E.take E.length) = obsL L E) := hide (by rw [List.take_length])
  clear hown1 hsl1 hb1 HE
  go_wp2_with fail
  go_loopw [6, 19] (fun v iv wr => ∃ (k : Nat) (os : List ((Int × Int × Int × Int) × Option Addr × Nat × List Int)), k ≤ E.length ∧ iv = .int .i64 k ∧ Lst ojC 5 102 wr w1.heap.size v os ∧ os.map ojP = obsL L (E.take k) ∧ (∀ o ∈ os, Bs w o.2.1 o.2.2.1 o.2.2.2) ∧ Below w1.heap.size w1 wr) (fun _ iv _ => E.length - (intOf iv).toNat)
  case atStart => exact ⟨0, [], Nat.zero_le _, rfl, Lst.nil _ _, rfl, fun o ho => (by cases ho), Below.refl _ _⟩
  case round =>
    obtain ⟨k, os, hk, rfl, hown, hos, hbo, hbel⟩ := hrel
    obtain ⟨va, vm, vc, rfl⟩ := hown.shape
    by_cases hlt : k < E.length
    · have hne : E ≠ [] := by intro e; rw [e] at hlt; simp at hlt
      obtain ⟨b1, o1, rfl, hc1⟩ := ((unhide HS).below hbel).2.2.2 hne
      obtain ⟨f, hf⟩ : ∃ f, E[k]? = some f := ⟨E[k], List.getElem?_eq_getElem hlt⟩
      obtain ⟨q0, q1, q2, q3⟩ := Sls.ent (cap := 0) hc1 hf
      obtain ⟨ee, r1, r2, rt, r3, r4, r5, r6⟩ := unhide HIN f (List.mem_of_getElem? hf)
      have hnext := obsL_next (L := L) hf
      rw [← hos] at hnext
      have hol : os.length ≤ 40 := by
        have := congrArg List.length hos
        rw [List.length_map] at this
        rw [this]
        unfold obsL
        rw [List.length_map, List.length_take]
        omega
      obtain ⟨h, x, l, t⟩ := f
      dsimp only at q0 q1 q2 q3 r1 r2 r3 r4 r5 r6 hnext
      obtain ⟨X, rfl⟩ := Int.eq_ofNat_of_zero_le (show 0 ≤ x by omega)
      obtain ⟨N, rfl⟩ := Int.eq_ofNat_of_zero_le (show 0 ≤ l by omega)
      have hbsw := unhide HBS
      obtain ⟨a2, hs2, hb2⟩ := slice_lo (P := Tryz.prog) (t := 22) Tryz.underlying22 size_u8 hbsw X (by omega)
      have hdl : (L.drop X).length = L.length - X := List.length_drop
      obtain ⟨a3, hs3, hb3⟩ := slice_hi (P := Tryz.prog) (t := 22) Tryz.underlying22 size_u8 hb2 N (by omega)
      rw [hdl] at hs3
      have hbd : ((L.drop X).take N).length = N := by rw [List.length_take]; omega
      have hpl : partL L (X : Int) (N : Int) = (L.drop X).take N := by unfold partL; rw [Int.toNat_natCast, Int.toNat_natCast]
      rw [hpl] at hnext
      generalize (L.drop X).take N = BD at *
      have hBA : Below wr.heap.size wr (wr.alloc (.cells #[.int .i64 h, .int .i64 X, .int .i64 N, .int .i64 t] 47)) := (Below.refl _ _).alloc (Nat.le_refl _) _
      have hen := heap_alloc_new wr (.cells #[.int .i64 h, .int .i64 X, .int .i64 N, .int .i64 t] 47)
      have t0 : (wr.alloc (.cells #[.int .i64 h, .int .i64 X, .int .i64 N, .int .i64 t] 47)).cell? ⟨wr.heap.size, 0, none⟩ = some (.int .i64 h) := by rw [cell_of_row _ _ _ _ _ _ hen]; rfl
      have t1 : (wr.alloc (.cells #[.int .i64 h, .int .i64 X, .int .i64 N, .int .i64 t] 47)).cell? ⟨wr.heap.size, 1, none⟩ = some (.int .i64 X) := by rw [cell_of_row _ _ _ _ _ _ hen]; rfl
      have t2 : (wr.alloc (.cells #[.int .i64 h, .int .i64 X, .int .i64 N, .int .i64 t] 47)).cell? ⟨wr.heap.size, 2, none⟩ = some (.int .i64 N) := by rw [cell_of_row _ _ _ _ _ _ hen]; rfl
      have t3 : (wr.alloc (.cells #[.int .i64 h, .int .i64 X, .int .i64 N, .int .i64 t] 47)).cell? ⟨wr.heap.size, 3, none⟩ = some (.int .i64 t) := by rw [cell_of_row _ _ _ _ _ _ hen]; rfl
      have hown9 := hown.below hBA
      have HB9 := hide (hbel.trans (hBA.mono hbel.size))
      have hsz := hbel.size
      have HBD := hide hbd
      have HB3 := hide hb3
      have HNX := hide hnext
      have HBO := hide hbo
      have hws : w1.heap.size ≤ (wr.alloc (.cells #[.int .i64 h, .int .i64 X, .int .i64 N, .int .i64 t] 47)).heap.size := by simp; omega
      clear hc1 hf hne hbel hown ee rt hb2 hb3 hbd hpl hdl hnext hbo hbsw hen hBA hos
      go_wp2_with fail
      generalize wr.alloc (.cells #[.int .i64 h, .int .i64 X, .int .i64 N, .int .i64 t] 47) = w9 at *
      have hd9 : Below w9.heap.size w9 w9.drew := below_drew (Below.refl _ _)
      have ha9 : Below w9.drew.heap.size w9.drew (w9.drew.alloc (.cells #[.int .i64 h, .int .i64 X, .int .i64 N, .int .i64 t, .slice a3 N (cap - X)] 102)) := (Below.refl _ _).alloc (Nat.le_refl _) _
      have HO3 := hide ((hown9.below hd9).below ha9)
      have HB10 := hide ((unhide HB9).trans ((hd9.trans (ha9.mono hd9.size)).mono (unhide HB9).size))
      have HGN : Hid ((w9.drew.alloc (.cells #[.int .i64 h, .int .i64 X, .int .i64 N, .int .i64 t, .slice a3 N (cap - X)] 102)).heap[w9.heap.size]? = some (.cells (ojC ((h, (X : Int), (N : Int), t), a3, cap - X, BD)).toArray 102 (0, 0))) := hide (by
        unfold ojC
        dsimp only
        rw [unhide HBD]
        exact heap_alloc_new w9.drew _)
      clear hd9 ha9 hown9 q0 q1 q2 q3 HB9
      go_region_law (refine step_append_lst (by rfl) (.tmp 23) (.tmp 35) 58 (by rfl) w1.heap.size i0 (.agg #[.int .i64 0, .int .i64 0, .int .i64 0, .int .i64 0, .slice none 0 0]) 56 Tryz.underlying58 hi0 hz0 hz1 hz2 rfl (by decide) (by decide) _ os (by rfl) (unhide HO3) w9.heap.size ((h, (X : Int), (N : Int), t), a3, cap - X, BD) (by rfl) (unhide HGN) rfl (ojC_one _) (by omega) (by first | omega | (simp; omega)) ?_; intro g10 c10 w10 hL10 hb10 hk10)
      all_goals
        have HL10 := hide hL10
        have HBE := hide ((unhide HB10).trans hb10)
        clear hL10 hb10 hk10 HO3 HGN t0 t1 t2 t3
        go_wp2
        go_roundw
        case rel =>
          refine ⟨k + 1, _, by omega, by go_num, unhide HL10, ?_, fun o ho => ?_, unhide HBE⟩
          · rw [unhide HNX, List.map_append]; rfl
          · rcases List.mem_append.1 ho with ho | ho
            · exact unhide HBO o ho
            · rw [List.mem_singleton.1 ho]; exact unhide HB3
        case measure => simp [intOf]; omega
    · obtain rfl : k = E.length := by omega
      rw [unhide HES] at hos
      have HO := hide (hown.lowB (unhide HB1).size)
      have HB := hide ((unhide HB1).trans (hbel.mono (unhide HB1).size))
      have HOS := hide hos
      have HBO := hide hbo
      clear hown hbel hos hbo
      go_wp2
      go_ret2
      exact ⟨_, os, rfl, unhide HO, unhide HOS, unhide HBO, unhide HB⟩
end Go.Proofs.YtllpeknpplpgeaaGreatDoor
/-! Contracts of package old: written. (Part of the proofs over package old.) -/
namespace Go.Proofs.YtllpeknpplpgeaaGreatDoor
open Go.RowKit
set_option linter.unusedVariables false

def wrO (o : (Int × Int × Int × Int) × List Int) : List Int := [o.1.1, o.1.2.2.2, o.1.2.2.1 % 256, o.1.2.2.1 / 256] ++ o.2
def wrH (O : List ((Int × Int × Int × Int) × List Int)) : List Int := [79, 76, 68, 49, (O.length : Int)]
/-- The image of old of these objects and roots. -/
def wrL (O : List ((Int × Int × Int × Int) × List Int)) (R : List (ByteArray × Int)) : List Int := wrH O ++ O.flatMap wrO ++ [(R.length : Int)] ++ R.flatMap dnR
theorem putK_two (n : Int) (h : 0 ≤ n ∧ n ≤ 65535) : putK (zerosB 2) 0 n 2 = [n % 256, n / 256] := by
  show [n / 1 % 256, n / 256 % 256] = _
  rw [Int.ediv_one, Int.emod_eq_of_lt (a := n / 256) (by omega) (by omega)]
/-- What may be written. -/
def MayW (o : (Int × Int × Int × Int) × Option Addr × Nat × List Int) : Prop := 0 ≤ o.1.1 ∧ o.1.1 ≤ 255 ∧ 0 ≤ o.1.2.2.2 ∧ o.1.2.2.2 ≤ 255 ∧ 0 ≤ o.1.2.2.1 ∧ o.1.2.2.1 ≤ 1000 ∧ o.2.2.2.length ≤ 1000 ∧ Byt o.2.2.2 ∧ o.2.2.2 ≠ []
theorem wrO_byt {o : (Int × Int × Int × Int) × Option Addr × Nat × List Int} (h : MayW o) : Byt (wrO (ojP o)) ∧ (wrO (ojP o)).length ≤ 1004 := by
  obtain ⟨h1, h2, h3, h4, h5, h6, h7, h8, h9⟩ := h
  unfold wrO ojP
  dsimp only
  refine ⟨fun z hz => ?_, ?_⟩
  · rcases List.mem_append.1 hz with hz | hz
    · rcases List.mem_cons.1 hz with rfl | hz
      · omega
      rcases List.mem_cons.1 hz with rfl | hz
      · omega
      rcases List.mem_cons.1 hz with rfl | hz
      · omega
      rw [List.mem_singleton.1 hz]
      omega
    · exact h8 z hz
  · rw [List.length_append]
    simp only [List.length_cons, List.length_nil]
    omega
theorem wrK_byt : ∀ (os : List ((Int × Int × Int × Int) × Option Addr × Nat × List Int)), (∀ o ∈ os, MayW o) → Byt ((os.map ojP).flatMap wrO) ∧ ((os.map ojP).flatMap wrO).length ≤ 1004 * os.length
  | [], _ => ⟨fun z hz => (by cases hz), by simp⟩
  | o :: os, h => by
    obtain ⟨p1, p2⟩ := wrO_byt (h o (by simp))
    obtain ⟨q1, q2⟩ := wrK_byt os (fun x hx => h x (by simp [hx]))
    rw [List.map_cons, List.flatMap_cons]
    refine ⟨fun z hz => ?_, ?_⟩
    · rcases List.mem_append.1 hz with hz | hz
      · exact p1 z hz
      · exact q1 z hz
    · rw [List.length_append, List.length_cons]
      omega
theorem drK_byt : ∀ (R : List (ByteArray × Int)), (∀ r ∈ R, NameOk r.1 ∧ 0 ≤ r.2 ∧ r.2 ≤ 255) → Byt (R.flatMap dnR) ∧ (R.flatMap dnR).length = 9 * R.length
  | [], _ => ⟨fun z hz => (by cases hz), rfl⟩
  | r :: R, h => by
    obtain ⟨p1, p2, p3⟩ := h r (by simp)
    obtain ⟨q1, q2⟩ := drK_byt R (fun x hx => h x (by simp [hx]))
    have hl := length_nameL r.1 p1.2.1
    rw [List.flatMap_cons]
    refine ⟨fun z hz => ?_, ?_⟩
    · rcases List.mem_append.1 hz with hz | hz
      · unfold dnR at hz
        rcases List.mem_append.1 hz with hz | hz
        · exact byt_nameL _ z hz
        · rw [List.mem_singleton.1 hz]; omega
      · exact q1 z hz
    · rw [List.length_append, List.length_cons, q2]
      unfold dnR
      rw [List.length_append, hl, List.length_singleton]
      omega
/-- A row of bytes of its own, in none of the blocks S. -/
def OwnS (w : World) (B : Nat) (S : Nat → Prop) (v : Value) (L : List Int) : Prop := OwnV w B v L ∧ ∀ g, v.ownBlock = some g → ¬ S g
theorem OwnV.old {w : World} {B : Nat} {v : Value} {L : List Int} (h : OwnV w B v L) : ∀ g, v.ownBlock = some g → g < w.heap.size := by
  intro g hg
  rcases h.2 with ⟨rfl, _⟩ | ⟨g', cap, cur, rfl, hB, hc, _⟩
  · cases hg
  · simp [Value.ownBlock] at hg
    subst hg
    exact (Array.getElem?_eq_some_iff.1 hc).1
theorem wpList_append_s {P : Program} {w : World} {ops : Array Oper} {rest : List Oper} {o : Oper} {a : Act} {Q : Exit → Act → World → Prop} (hgd : o.guard = none) (s x : Operand) (t : TypeId)
    (ho : o.op = .call { callee := .builtin .append, args := #[s, x], argTypes := #[t, t] }) (i : TypeInfo) (ht : P.underlying t = some (.slice 5)) (hi : P.info? 5 = some i) (hz : i.zero = some (.int .u8 0)) (h4 : i.size = 1) (h5 : i.bytes = 1)
    (B : Nat) (S : Nat → Prop) (v : Value) (L : List Int) (hs : a.eval s = v) (hown : OwnS w B S v L) (hB : B ≤ w.heap.size) (hS : ∀ g, S g → g < w.heap.size) (sp : Option Addr) (n cap : Nat) (l : List Int) (hx : a.eval x = .slice sp n cap) (hn : n = l.length) (h0 : l ≠ []) (hb : Bs w sp cap l) (hL : L.length + l.length ≤ 140737488351232)
    (h : ∀ v' w', OwnS w' B S v' (L ++ l) → Below B w w' → (∀ g, S g → w'.heap[g]? = w.heap[g]?) → wpList P ops Q rest (a.put o.dst v') w') :
    wpList P ops Q (o :: rest) a w := by
  subst hn
  obtain ⟨b, off, rfl, hc⟩ := hb.2.2.2.2 h0
  refine wpList_append_own_at w hgd s x t ho B 5 i (.int .u8 0) 1 1 ht hi hz h4 h5 rfl (by decide) v _ _ hs hown.1 ⟨b, off, none⟩ l.length cap (l.map (Value.int .u8)) hx (by simp) (news_bs hb) (oneCell_u8 l) (by unfold maxLen; omega) (by omega) hB (fun v' w' ho' hg' _ hob => ?_)
  refine h v' w' ⟨?_, fun g hg hSg => ?_⟩ ((Below.refl _ _).grown hg' hB (fun k hk => hown.1.block k hk)) (fun g hSg => hg'.block g (hS g hSg) (fun e => hown.2 g e.symm hSg))
  · unfold OwnV
    rw [List.length_append, List.map_append]
    exact ho'
  · rcases hob with e | e
    · rw [e] at hg
      exact hown.2 g hg hSg
    · rw [e] at hg
      have := hS g hSg
      have := Option.some.inj hg
      omega
set_option maxRecDepth 100000 in
set_option maxHeartbeats 4000000 in
theorem written_any (oa ra : Option Addr) (oc rc : Nat) (os : List ((Int × Int × Int × Int) × Option Addr × Nat × List Int)) (R : List (ByteArray × Int)) (w : World) (hos : Sls ojC 5 w oa oc os) (hbo : ∀ o ∈ os, Bs w o.2.1 o.2.2.1 o.2.2.2) (hrs : Sls roC 2 w ra rc R)
    (hO : ∀ o ∈ os, MayW o) (hol : os.length ≤ 40) (hR : ∀ r ∈ R, NameOk r.1 ∧ 0 ≤ r.2 ∧ r.2 ≤ 255) (hrl : R.length ≤ 8) :
    Calls Tryz.prog 36 #[.slice oa os.length oc, .slice ra R.length rc] w (Ends w (wrL (os.map ojP) R) .nilIface) := by
  obtain ⟨i0, hi0, hz0, hz1, hz2⟩ := info_parts info_u8
  have kc := fun (w : World) (C : Array Value) (n c : Nat) => Lib.run_convert_bytes_const (P := Tryz.prog) w 22 5 C n c Tryz.underlying22 Tryz.underlying5
  have hm0 : (os.length : Int) % 256 = (os.length : Int) := by omega
  have hmr : (R.length : Int) % 256 = (R.length : Int) := by omega
  have HOS := hide hos
  have HBO := hide hbo
  have HRS := hide hrs
  have HO := hide hO
  have HR := hide hR
  have hBA : Below w.heap.size w ((w.alloc (.cells #[.int .u8 79, .int .u8 76, .int .u8 68, .int .u8 49] 5 (4, 5))).alloc (.cells #[.int .u8 os.length] 5)) := ((Below.refl _ _).alloc (Nat.le_refl _) _).alloc (by simp) _
  have HBA := hide hBA
  have hOL : ∀ j u, ([.int .u8 79, .int .u8 76, .int .u8 68, .int .u8 49] : List Value)[j]? = some u → ((w.alloc (.cells #[.int .u8 79, .int .u8 76, .int .u8 68, .int .u8 49] 5 (4, 5))).alloc (.cells #[.int .u8 os.length] 5)).cell? (Addr.add ⟨w.heap.size, 0, none⟩ j) = some u := fun j u hj => by
    rw [addr_add, Nat.zero_add]
    have hb := ((Below.refl (w.alloc (.cells #[.int .u8 79, .int .u8 76, .int .u8 68, .int .u8 49] 5 (4, 5))).heap.size (w.alloc (.cells #[.int .u8 79, .int .u8 76, .int .u8 68, .int .u8 49] 5 (4, 5)))).alloc (Nat.le_refl _) (.cells #[.int .u8 os.length] 5)).block w.heap.size (by simp)
    rw [cell_of_row _ _ _ _ _ _ (hb.trans (heap_alloc_new w _))]
    simpa using hj
  have hNE : ∀ j u, ([.int .u8 os.length] : List Value)[j]? = some u → ((w.alloc (.cells #[.int .u8 79, .int .u8 76, .int .u8 68, .int .u8 49] 5 (4, 5))).alloc (.cells #[.int .u8 os.length] 5)).cell? (Addr.add ⟨w.heap.size + 1, 0, none⟩ j) = some u := fun j u hj => by
    rw [addr_add, Nat.zero_add]
    have hb := heap_alloc_new (w.alloc (.cells #[.int .u8 79, .int .u8 76, .int .u8 68, .int .u8 49] 5 (4, 5))) (.cells #[.int .u8 os.length] 5)
    rw [show (w.alloc (.cells #[.int .u8 79, .int .u8 76, .int .u8 68, .int .u8 49] 5 (4, 5))).heap.size = w.heap.size + 1 by simp] at hb
    rw [cell_of_row _ _ _ _ _ _ hb]
    simpa using hj
  have HOL := hide hOL
  have HNE := hide hNE
  clear hos hbo hrs hO hR hBA hOL hNE
  go_enter Tryz.func36, Tryz.ntmps36
  go_wp2_with (at_builtin; refine wpList_append_grows _ rfl _ _ 22 rfl 5 i0 (.int .u8 0) 1 1 Tryz.underlying22 hi0 hz0 hz1 hz2 rfl (by decide) (some ⟨w.heap.size, 0, none⟩) 4 4 [.int .u8 79, .int .u8 76, .int .u8 68, .int .u8 49] rfl (fun h => (by cases h)) rfl (fun b hb => by cases hb; exact unhide HOL) ⟨w.heap.size + 1, 0, none⟩ 1 1 [.int .u8 os.length] rfl rfl (unhide HNE) (fun u hu => by rw [List.mem_singleton.1 hu]; rfl) (by decide) (by decide) (by decide) ?_; intro v1 w1 hown1 hg1; have ho1 : OwnV w1 w.heap.size v1 (wrH (os.map ojP)) := (by unfold OwnV wrH; rw [List.length_map]; exact (show _ by have h9 := hown1; exact ⟨h9.1, h9.2.elim .inl (fun ⟨g, cap, cur, hv, hb, r⟩ => .inr ⟨g, cap, cur, hv, Nat.le_trans (unhide HBA).size hb, r⟩)⟩)); have HB1 := hide ((unhide HBA).grown hg1 (unhide HBA).size (fun k hk => by cases hk)); clear hown1 hg1)
  have HO1 := hide ho1
  have HES : Hid (((os.take os.length).map ojP).flatMap wrO = (os.map ojP).flatMap wrO) := hide (by rw [List.take_length])
  have hhl : (wrH (os.map ojP)).length = 5 := rfl
  clear ho1 HOL HNE HBA
  go_wp2_with fail
  go_loopw [6, 24] (fun v iv wr => ∃ k : Nat, k ≤ os.length ∧ iv = .int .i64 k ∧ OwnV wr w.heap.size v (wrH (os.map ojP) ++ ((os.take k).map ojP).flatMap wrO) ∧ Below w.heap.size w wr) (fun _ iv _ => os.length - (intOf iv).toNat)
  case atStart => exact ⟨0, Nat.zero_le _, rfl, by simpa using unhide HO1, unhide HB1⟩
  case round =>
    obtain ⟨k, hk, rfl, hown, hbel⟩ := hrel
    by_cases hlt : k < os.length
    · have hne : os ≠ [] := by intro e; rw [e] at hlt; simp at hlt
      obtain ⟨b1, o1, rfl, hc1⟩ := ((unhide HOS).below hbel).2.2.2 hne
      obtain ⟨f, hf⟩ : ∃ f, os[k]? = some f := ⟨os[k], List.getElem?_eq_getElem hlt⟩
      obtain ⟨q0, q1, q2, q3, q4⟩ := Sls.oj hc1 hf
      have hfo := unhide HBO f (List.mem_of_getElem? hf)
      have hmay := unhide HO f (List.mem_of_getElem? hf)
      have hnext : ((os.take (k + 1)).map ojP).flatMap wrO = ((os.take k).map ojP).flatMap wrO ++ wrO (ojP f) := by rw [take_more hf, List.map_append, List.flatMap_append]; simp
      obtain ⟨z1, z2⟩ := wrK_byt (os.take k) (fun o ho => unhide HO o (List.mem_of_mem_take ho))
      have hll : (wrH (os.map ojP) ++ ((os.take k).map ojP).flatMap wrO).length ≤ 100000 := by
        rw [List.length_append, hhl]
        rw [List.length_take] at z2
        omega
      obtain ⟨⟨h, x, l, t⟩, ad, cc, BD⟩ := f
      have hwo : wrO (ojP ((h, x, l, t), ad, cc, BD)) = [h, t] ++ ([l % 256, l / 256] ++ BD) := rfl
      rw [hwo, ← List.append_assoc, ← List.append_assoc] at hnext
      obtain ⟨m1, m2, m3, m4, m5, m6, m7, m8, m9⟩ := hmay
      dsimp only at q0 q1 q2 q3 q4 hfo m1 m2 m3 m4 m5 m6 m7 m8 m9
      have HNX : Hid (wrH (os.map ojP) ++ ((os.take (k + 1)).map ojP).flatMap wrO = wrH (os.map ojP) ++ ((os.take k).map ojP).flatMap wrO ++ [h, t] ++ [l % 256, l / 256] ++ BD) := hide (by rw [hnext]; simp only [List.append_assoc])
      generalize wrH (os.map ojP) ++ ((os.take k).map ojP).flatMap wrO = LL at *
      have hBA : Below wr.heap.size wr (wr.alloc (.cells #[.int .i64 h, .int .i64 x, .int .i64 l, .int .i64 t, .slice ad BD.length cc] 102)) := (Below.refl _ _).alloc (Nat.le_refl _) _
      have hen := heap_alloc_new wr (.cells #[.int .i64 h, .int .i64 x, .int .i64 l, .int .i64 t, .slice ad BD.length cc] 102)
      have HEN := hide hen
      have t2 : (wr.alloc (.cells #[.int .i64 h, .int .i64 x, .int .i64 l, .int .i64 t, .slice ad BD.length cc] 102)).cell? ⟨wr.heap.size, 2, none⟩ = some (.int .i64 l) := by rw [cell_of_row _ _ _ _ _ _ hen]; rfl
      have hesz : wr.heap.size < (wr.alloc (.cells #[.int .i64 h, .int .i64 x, .int .i64 l, .int .i64 t, .slice ad BD.length cc] 102)).heap.size := by simp
      have HB9 := hide (hbel.trans (hBA.mono hbel.size))
      have HOWN := hide (hown.below hBA)
      have HFO := hide hfo
      have hols := hown.old
      have HOLS := hide hols
      clear hols
      have hm1 : h % 256 = h := by omega
      have hm2 : t % 256 = t := by omega
      have hmk : ∀ w', Sem.run Tryz.prog (Instr.makeSlice 22 (.int .i64 2) (.int .i64 2)) w' = .ok (.slice (some ⟨w'.heap.size, 0, none⟩) 2 2) (mkW w' 2) := fun w' => run_make_u8 w' 2 (by decide)
      have hp2 := putK_two l ⟨m5, by omega⟩
      clear hc1 hf hne hfo hnext z1 z2 hwo hBA hen hown hbel
      go_wp2_with fail
      generalize wr.alloc (.cells #[.int .i64 h, .int .i64 x, .int .i64 l, .int .i64 t, .slice ad BD.length cc] 102) = w9 at *
      have hbm : Below w9.drew.heap.size w9.drew (mkW w9.drew 2) := mkW_below w9.drew 2
      have hbd9 : Below w9.heap.size w9 w9.drew := below_drew (Below.refl _ _)
      have hb9m := hbd9.trans (hbm.mono hbd9.size)
      have t2m : (mkW w9.drew 2).cell? ⟨wr.heap.size, 2, none⟩ = some (.int .i64 l) := (hb9m.cell (p := ⟨wr.heap.size, 2, none⟩) (block_lt_of_cell t2)).trans t2
      have hP := put_nat (some ⟨w9.drew.heap.size, 0, none⟩) 2 (zerosB 2) 0 2 l (mkW w9.drew 2) ((mkW_blk w9.drew 2).bs (byt_zerosB 2) (by decide)) (by omega) (by omega) m5 (by show ¬ most ((2 : Nat) : Int) < l; simp [most]; omega) (by rw [length_zerosB]; omega)
      rw [hp2, length_zerosB] at hP
      have HP : Hid (Calls Tryz.prog 68 #[.slice (some ⟨w9.heap.size, 0, none⟩) 2 2, .int .i64 0, .int .i64 l, .int .i64 2] (mkW w9.drew 2) fun e w' => ∃ g2, e = .returned (.tuple #[.slice (some ⟨g2, 0, none⟩) 2 2, .nilIface]) ∧ w9.heap.size ≤ g2 ∧ Blk w' g2 [l % 256, l / 256] ∧ Below w9.heap.size w9 w' ∧ w'.cell? ⟨wr.heap.size, 2, none⟩ = some (.int .i64 l)) := hide (hP.mono fun e w' ⟨g2, he, hg2, hb2, hB2⟩ => ⟨g2, he, Nat.le_trans hb9m.size hg2, hb2, hb9m.trans (hB2.mono hb9m.size), (hB2.cell (p := ⟨wr.heap.size, 2, none⟩) (block_lt_of_cell t2m)).trans t2m⟩)
      clear hP hbm hbd9 hb9m
      go_region_held3 (fun w' => w'.cell? ⟨wr.heap.size, 2, none⟩ = some (.int .i64 l)) (first | exact t2m | go_keep | exact r2)
        ((go_at_call 68; refine (unhide HP).mono ?_; rintro e w2 ⟨g2, rfl, hg2, hk2, hB2, r2⟩))
      have hen2 := (hB2.block wr.heap.size hesz).trans (unhide HEN)
      have s0 : w2.cell? ⟨wr.heap.size, 0, none⟩ = some (.int .i64 h) := by rw [cell_of_row _ _ _ _ _ _ hen2]; rfl
      have s3 : w2.cell? ⟨wr.heap.size, 3, none⟩ = some (.int .i64 t) := by rw [cell_of_row _ _ _ _ _ _ hen2]; rfl
      have hown2 := (unhide HOWN).below hB2
      have hB2' := (unhide HB9).trans (hB2.mono (unhide HB9).size)
      have hg2lt := hk2.lt
      have hws := hB2'.size
      have hb2a : Below w2.heap.size w2 (w2.alloc (.cells #[.int .u8 h, .int .u8 t] 5)) := (Below.refl _ _).alloc (Nat.le_refl _) _
      have HOS2 : Hid (OwnS (w2.alloc (.cells #[.int .u8 h, .int .u8 t] 5)) w.heap.size (fun g => g = wr.heap.size ∨ g = g2) _ LL) := hide ⟨hown2.below hb2a, fun g hg hSg => by
        have := unhide HOLS g hg
        rcases hSg with rfl | rfl <;> omega⟩
      have HSS : Hid (∀ g, (g = wr.heap.size ∨ g = g2) → g < (w2.alloc (.cells #[.int .u8 h, .int .u8 t] 5)).heap.size) := hide (fun g hg => by
        have e : (w2.alloc (.cells #[.int .u8 h, .int .u8 t] 5)).heap.size = w2.heap.size + 1 := by simp
        have := hB2.size
        rcases hg with rfl | rfl <;> omega)
      have HBX : Hid (Bs (w2.alloc (.cells #[.int .u8 h, .int .u8 t] 5)) (some ⟨w2.heap.size, 0, none⟩) 2 [h, t]) := hide (Blk.bs (l := [h, t]) (heap_alloc_new w2 _) (fun z hz => by
        rcases List.mem_cons.1 hz with rfl | hz
        · omega
        · rw [List.mem_singleton.1 hz]; omega) (by simp))
      have HBW2 := hide (hB2'.trans (hb2a.mono hB2'.size))
      have HEN2 := hide ((hb2a.block wr.heap.size (by have := hB2.size; omega)).trans hen2)
      have HK2 := hide (hk2.below hb2a)
      have hws1 : w.heap.size ≤ (w2.alloc (.cells #[.int .u8 h, .int .u8 t] 5)).heap.size := by simp; omega
      have HBL : Hid (Byt [l % 256, l / 256]) := hide (fun z hz => by
        rcases List.mem_cons.1 hz with rfl | hz
        · omega
        · rw [List.mem_singleton.1 hz]; omega)
      clear hen2 hown2 hB2' hb2a hk2 hB2 r2 HOWN HB9 HEN HOLS HP t2 t2m q0 q1 q2 q3 q4
      go_wp2_with (first
        | (at_builtin; refine wpList_append_s rfl _ _ 22 rfl i0 Tryz.underlying22 hi0 hz0 hz1 hz2 w.heap.size (fun g => g = wr.heap.size ∨ g = g2) _ LL rfl (unhide HOS2) hws1 (unhide HSS) (some ⟨w2.heap.size, 0, none⟩) 2 2 [h, t] rfl rfl (by simp) (unhide HBX) (by simp; omega) ?_; intro v3 w3 ho3 hb3 hk3; have HB3 := hide ((unhide HBW2).trans hb3); have hsz3 := (unhide HB3).size; have hen3 := (hk3 wr.heap.size (.inl rfl)).trans (unhide HEN2); have s4 : w3.cell? ⟨wr.heap.size, 4, none⟩ = some (.slice ad BD.length cc) := (by rw [cell_of_row _ _ _ _ _ _ hen3]; rfl); have HEN3 := hide hen3; have HK3 := hide ((hk3 g2 (.inr rfl)).trans (unhide HK2)); have HO3 := hide ho3; clear ho3 hb3 hk3 hen3)
        | (at_builtin; refine wpList_append_s rfl _ _ 22 rfl i0 Tryz.underlying22 hi0 hz0 hz1 hz2 w.heap.size (fun g => g = wr.heap.size ∨ g = g2) _ (LL ++ [h, t]) rfl (unhide HO3) hsz3 (fun g hg => by rcases hg with rfl | rfl; exact (Array.getElem?_eq_some_iff.1 (unhide HEN3)).1; exact (Array.getElem?_eq_some_iff.1 (unhide HK3)).1) (some ⟨g2, 0, none⟩) 2 2 [l % 256, l / 256] rfl rfl (by simp) (Blk.bs (l := [l % 256, l / 256]) (unhide HK3) (unhide HBL) (by simp)) (by simp; omega) ?_; intro v4 w4 ho4 hb4 hk4; have HB4 := hide ((unhide HB3).trans hb4); have hsz4 := (unhide HB4).size; have hen4 := (hk4 wr.heap.size (.inl rfl)).trans (unhide HEN3); have s5 : w4.cell? ⟨wr.heap.size, 4, none⟩ = some (.slice ad BD.length cc) := (by rw [cell_of_row _ _ _ _ _ _ hen4]; rfl); have HEN4 := hide hen4; have HO4 := hide ho4; clear ho4 hb4 hk4 hen4)
        | (at_builtin; refine wpList_append_s rfl _ _ 22 rfl i0 Tryz.underlying22 hi0 hz0 hz1 hz2 w.heap.size (fun g => False) _ (LL ++ [h, t] ++ [l % 256, l / 256]) rfl ⟨(unhide HO4).1, fun _ _ hf => hf⟩ hsz4 (fun g hg => hg.elim) ad BD.length cc BD rfl rfl m9 ((unhide HFO).below (unhide HB4)) (by simp; omega) ?_; intro v5 w5 ho5 hb5 hk5; have HB5 := hide ((unhide HB4).trans hb5); have HO5 := hide ho5; clear ho5 hb5 hk5))
      go_roundw
      case rel => exact ⟨k + 1, by omega, by go_num, by rw [unhide HNX]; exact (unhide HO5).1, unhide HB5⟩
      case measure => simp [intOf]; omega
    · obtain rfl : k = os.length := by omega
      rw [unhide HES] at hown
      obtain ⟨z1, z2⟩ := wrK_byt os (unhide HO)
      have hll : (wrH (os.map ojP) ++ (os.map ojP).flatMap wrO).length ≤ 100000 := by
        rw [List.length_append, hhl]
        omega
      have hbyL : Byt (wrH (os.map ojP) ++ (os.map ojP).flatMap wrO) := fun z hz => by
        rcases List.mem_append.1 hz with hz | hz
        · unfold wrH at hz
          rw [List.length_map] at hz
          simp only [List.mem_cons, List.not_mem_nil, or_false] at hz
          omega
        · exact z1 z hz
      have HBYL := hide hbyL
      have HEQ : Hid (wrL (os.map ojP) R = wrH (os.map ojP) ++ (os.map ojP).flatMap wrO ++ [(R.length : Int)] ++ R.flatMap dnR) := hide rfl
      generalize wrH (os.map ojP) ++ (os.map ojP).flatMap wrO = LL at *
      generalize wrL (os.map ojP) R = WL at *
      have hba : Below wr.heap.size wr (wr.alloc (.cells #[.int .u8 R.length] 5)) := (Below.refl _ _).alloc (Nat.le_refl _) _
      have HOX : Hid (OwnS (wr.alloc (.cells #[.int .u8 R.length] 5)) w.heap.size (fun _ => False) _ LL) := hide ⟨hown.below hba, fun _ _ hf => hf⟩
      have HBX : Hid (Bs (wr.alloc (.cells #[.int .u8 R.length] 5)) (some ⟨wr.heap.size, 0, none⟩) 1 [(R.length : Int)]) := hide (Blk.bs (l := [(R.length : Int)]) (heap_alloc_new wr _) (fun z hz => by rw [List.mem_singleton.1 hz]; omega) (by simp))
      have HBW := hide (hbel.trans (hba.mono hbel.size))
      have hws1 : w.heap.size ≤ (wr.alloc (.cells #[.int .u8 R.length] 5)).heap.size := by have := hbel.size; simp; omega
      have HER : Hid ((R.take R.length).flatMap dnR = R.flatMap dnR) := hide (by rw [List.take_length])
      clear hown hbel hba hbyL z1 z2 hlt hk HBO HO HOS HES HO1 HB1 hhl
      go_wp2_with (at_builtin; refine wpList_append_s rfl _ _ 22 rfl i0 Tryz.underlying22 hi0 hz0 hz1 hz2 w.heap.size (fun _ => False) _ LL rfl (unhide HOX) hws1 (fun g hg => hg.elim) (some ⟨wr.heap.size, 0, none⟩) 1 1 [(R.length : Int)] rfl rfl (by simp) (unhide HBX) (by simp; omega) ?_; intro v3 w3 ho3 hb3 hk3; have HB3 := hide ((unhide HBW).trans hb3); have HO3 := hide ho3; clear ho3 hb3 hk3)
      go_loopw [6, 67] (fun v iv wq => ∃ j : Nat, j ≤ R.length ∧ iv = .int .i64 j ∧ OwnV wq w.heap.size v (LL ++ [(R.length : Int)] ++ (R.take j).flatMap dnR) ∧ Below w.heap.size w wq) (fun _ iv _ => R.length - (intOf iv).toNat)
      case atStart => exact ⟨0, Nat.zero_le _, rfl, by simpa using (unhide HO3).1, unhide HB3⟩
      case round =>
        obtain ⟨j, hj, rfl, hown, hbel⟩ := hrel
        by_cases hlt : j < R.length
        · have hne : R ≠ [] := by intro e; rw [e] at hlt; simp at hlt
          obtain ⟨b1, o1, rfl, hc1⟩ := ((unhide HRS).below hbel).2.2.2 hne
          obtain ⟨f, hf⟩ : ∃ f, R[j]? = some f := ⟨R[j], List.getElem?_eq_getElem hlt⟩
          obtain ⟨q0, q1⟩ := Sls.root (cap := 0) hc1 hf
          obtain ⟨n1, n2, n3⟩ := unhide HR f (List.mem_of_getElem? hf)
          have hnext : (R.take (j + 1)).flatMap dnR = (R.take j).flatMap dnR ++ dnR f := by rw [take_more hf, List.flatMap_append]; simp
          have hrk := (drK_byt (R.take j) (fun r hr => unhide HR r (List.mem_of_mem_take hr))).2
          obtain ⟨sn, z⟩ := f
          dsimp only at q0 q1 n1 n2 n3
          have HNX : Hid (LL ++ [(R.length : Int)] ++ (R.take (j + 1)).flatMap dnR = LL ++ [(R.length : Int)] ++ (R.take j).flatMap dnR ++ nameL sn ++ [z]) := hide (by rw [hnext]; unfold dnR; simp only [List.append_assoc])
          have hl2 : (LL ++ [(R.length : Int)] ++ (R.take j).flatMap dnR).length ≤ 200000 := by
            rw [List.length_append, List.length_append, hrk, List.length_take, List.length_singleton]
            omega
          generalize LL ++ [(R.length : Int)] ++ (R.take j).flatMap dnR = L2 at *
          have hba : Below wr.heap.size wr (wr.alloc (.cells #[.string sn, .int .i64 z] 57)) := (Below.refl _ _).alloc (Nat.le_refl _) _
          have hen := heap_alloc_new wr (.cells #[.string sn, .int .i64 z] 57)
          have HPN := hide (putName_yes sn (wr.alloc (.cells #[.string sn, .int .i64 z] 57)) n1.1 n1.2.1 n1.2.2)
          have hesz : wr.heap.size < (wr.alloc (.cells #[.string sn, .int .i64 z] 57)).heap.size := by simp
          have HEN := hide hen
          have HB9 := hide (hbel.trans (hba.mono hbel.size))
          have HOWN := hide (hown.below hba)
          have HOLS := hide hown.old
          have hm1 : z % 256 = z := by omega
          have hnl := length_nameL sn n1.2.1
          have HNB := hide (byt_nameL sn)
          have hne8 : nameL sn ≠ [] := by intro e; rw [e] at hnl; simp at hnl
          generalize nameL sn = NM at *
          clear hc1 hf hne hnext hrk hba hen hown hbel n1
          go_wp2_with fail
          refine (unhide HPN).mono ?_
          rintro e w2 ⟨g2, rfl, hg2, hk2, hB2⟩
          have hen2 := (hB2.block wr.heap.size hesz).trans (unhide HEN)
          have hB2' := (unhide HB9).trans (hB2.mono (unhide HB9).size)
          have hown2 : OwnS w2 w.heap.size (fun g => g = wr.heap.size) _ L2 := ⟨(unhide HOWN).below hB2, fun g hg hSg => by have := unhide HOLS g hg; omega⟩
          have HO2 := hide hown2
          have hws2 := hB2'.size
          have HEN2 := hide hen2
          have HB2 := hide hB2'
          have HK2 := hide hk2
          clear hown2 hB2' hen2 hk2 hB2 HPN HOWN HB9 HOLS HEN hg2
          go_wp2_with (first
            | (at_builtin; refine wpList_append_s rfl _ _ 22 rfl i0 Tryz.underlying22 hi0 hz0 hz1 hz2 w.heap.size (fun g => g = wr.heap.size) _ L2 rfl (unhide HO2) hws2 (fun g hg => by rw [hg]; exact (Array.getElem?_eq_some_iff.1 (unhide HEN2)).1) (some ⟨g2, 0, none⟩) 8 8 NM rfl hnl.symm hne8 (by have h9 := (unhide HK2).bs (unhide HNB) (by omega); rw [hnl] at h9; exact h9) (by omega) ?_; intro v4 w4 ho4 hb4 hk4; have hB4 := (unhide HB2).trans hb4; have hen4 := (hk4 wr.heap.size rfl).trans (unhide HEN2); have s1 : w4.cell? ⟨wr.heap.size, 1, none⟩ = some (.int .i64 z) := (by rw [cell_of_row _ _ _ _ _ _ hen4]; rfl); have hba4 : Below w4.heap.size w4 (w4.alloc (.cells #[.int .u8 z] 5)) := (Below.refl _ _).alloc (Nat.le_refl _) _; have HO4 : Hid (OwnS (w4.alloc (.cells #[.int .u8 z] 5)) w.heap.size (fun _ => False) v4 (L2 ++ NM)) := hide ⟨ho4.1.below hba4, fun _ _ hf => hf⟩; have HBX4 : Hid (Bs (w4.alloc (.cells #[.int .u8 z] 5)) (some ⟨w4.heap.size, 0, none⟩) 1 [z]) := hide (Blk.bs (l := [z]) (heap_alloc_new w4 _) (fun y hy => by rw [List.mem_singleton.1 hy]; omega) (by simp)); have HB4 := hide (hB4.trans (hba4.mono hB4.size)); have hws4 : w.heap.size ≤ (w4.alloc (.cells #[.int .u8 z] 5)).heap.size := (unhide HB4).size; clear ho4 hb4 hk4 hB4 hen4 hba4)
            | (at_builtin; refine wpList_append_s rfl _ _ 22 rfl i0 Tryz.underlying22 hi0 hz0 hz1 hz2 w.heap.size (fun _ => False) _ (L2 ++ NM) rfl (unhide HO4) hws4 (fun g hg => hg.elim) (some ⟨w4.heap.size, 0, none⟩) 1 1 [z] rfl rfl (by simp) (unhide HBX4) (by rw [List.length_append, List.length_singleton]; omega) ?_; intro v5 w5 ho5 hb5 hk5; have HB5 := hide ((unhide HB4).trans hb5); have HO5 := hide ho5; clear ho5 hb5 hk5))
          go_roundw
          case rel => exact ⟨j + 1, by omega, by go_num, by rw [unhide HNX]; exact (unhide HO5).1, unhide HB5⟩
          case measure => simp [intOf]; omega
        · obtain rfl : j = R.length := by omega
          rw [unhide HER] at hown
          obtain ⟨y1, y2⟩ := drK_byt R (unhide HR)
          have hby : Byt (LL ++ [(R.length : Int)] ++ R.flatMap dnR) := fun z hz => by
            rcases List.mem_append.1 hz with hz | hz
            · rcases List.mem_append.1 hz with hz | hz
              · exact unhide HBYL z hz
              · rw [List.mem_singleton.1 hz]; omega
            · exact y1 z hz
          obtain ⟨a9, c9, rfl, hb9⟩ := hown.bs hby (by rw [List.length_append, List.length_append, y2, List.length_singleton]; omega)
          rw [← unhide HEQ] at hb9
          have HB9 := hide hb9
          have HBW9 := hide hbel
          have HLN : Hid ((LL ++ [(R.length : Int)] ++ R.flatMap dnR).length = WL.length) := hide (by rw [unhide HEQ])
          clear hown hbel hb9 y1 y2 hby hlt
          go_wp2
          go_ret2
          exact ⟨a9, c9, by rw [← unhide HLN]; rfl, unhide HB9, unhide HBW9⟩
end Go.Proofs.YtllpeknpplpgeaaGreatDoor
/-! Contracts of package old: Down. (Part of the proofs over package old.) -/
namespace Go.Proofs.YtllpeknpplpgeaaGreatDoor
open Go.RowKit
set_option linter.unusedVariables false

/-- What Down answers: the image of old, where nothing is wrong. -/
def dwL (L : List Int) : List Int := if fineE L = 0 then dnL L else []
theorem wr_dn {L : List Int} (hf : Fine L) : wrL (obsL L (entsK L 40)) (rootsK L 8) = dnL L := by
  have h1 : (obsL L (entsK L 40)).flatMap wrO = (entsK L 40).flatMap (dnO L) := by
    have : ∀ E : List (Int × Int × Int × Int), (∀ e ∈ E, e ∈ entsK L 40) → (obsL L E).flatMap wrO = E.flatMap (dnO L) := by
      intro E
      induction E with
      | nil => intro _; rfl
      | cons e E ih =>
        intro h
        have he := ent_in hf (h e (by simp))
        have hob : objOf L e.1 = (e.2.2.2, partL L e.2.1 e.2.2.1) := by
          unfold objOf objE
          rw [if_neg he.2.2.2.1, ← he.1]
        show wrO (e, partL L e.2.1 e.2.2.1) ++ (obsL L E).flatMap wrO = dnO L e ++ E.flatMap (dnO L)
        rw [ih (fun x hx => h x (by simp [hx]))]
        unfold wrO dnO
        rw [hob]
    exact this _ (fun e he => he)
  have h2 : (obsL L (entsK L 40)).length = (entsK L 40).length := by unfold obsL; rw [List.length_map]
  unfold wrL wrH dnL dnB
  rw [h1, h2]
  simp only [List.append_assoc]
theorem obs_may {L : List Int} (hf : Fine L) (hb : Byt L) {os : List ((Int × Int × Int × Int) × Option Addr × Nat × List Int)} (h : os.map ojP = obsL L (entsK L 40)) : (∀ o ∈ os, MayW o) ∧ os.length ≤ 40 := by
  refine ⟨fun o ho => ?_, ?_⟩
  · have hm : ojP o ∈ obsL L (entsK L 40) := by rw [← h]; exact List.mem_map.2 ⟨o, ho, rfl⟩
    obtain ⟨e, he, heq⟩ := List.mem_map.1 hm
    obtain ⟨ee, e1, e2, et, e3, e4, e5, e6⟩ := ent_in hf he
    have ht := hf.ent e1 e2 et
    rw [← ee] at ht
    unfold ojP at heq
    simp only [Prod.mk.injEq] at heq
    obtain ⟨q1, q2⟩ := heq
    have hlen : (partL L e.2.1 e.2.2.1).length = e.2.2.1.toNat := by
      unfold partL
      rw [List.length_take, List.length_drop]
      omega
    unfold MayW
    rw [← q1, ← q2, hlen]
    refine ⟨by omega, by omega, by omega, by omega, by omega, by omega, by omega, fun z hz => hb z (List.mem_of_mem_drop (List.mem_of_mem_take hz)), fun hx => ?_⟩
    rw [hx] at hlen
    simp at hlen
    omega
  · have := congrArg List.length h
    rw [List.length_map] at this
    rw [this]
    unfold obsL
    rw [List.length_map]
    exact entsK_len L 40
theorem roots_may {L : List Int} (hf : Fine L) (hb : Byt L) : ∀ r ∈ rootsK L 8, NameOk r.1 ∧ 0 ≤ r.2 ∧ r.2 ≤ 255 := fun r hr => by
  obtain ⟨i, hi, hq, rfl⟩ := mem_rootsK_iff.1 hr
  obtain ⟨g1, g2, g3⟩ := lead_obj hf hi hq
  have hbad := badR_no.1 ((rFault_iff.1 (faults_iff.1 hf.ok).2).1 i hi hq)
  have hrb : Byt ((rowAt L i).take 8) := fun z hz => hb z (List.mem_of_mem_drop (List.mem_of_mem_take (List.mem_of_mem_take hz)))
  exact ⟨(readOut_ok hrb hbad.1).2.1, by show 0 ≤ (rowAt L i).getD 10 0; omega, by show (rowAt L i).getD 10 0 ≤ 255; omega⟩
set_option maxHeartbeats 2000000 in
theorem down_any (a : Option Addr) (cap : Nat) (L : List Int) (w : World) (hbs : Bs w a cap L) :
    Calls Tryz.prog 11 #[.slice a L.length cap] w (Ends w (dwL L) (errV (fineE L))) := by
  have HC := hide (chk_any a cap L w hbs)
  have hbl := hbs.2.2.1
  unfold dwL
  cases hq : lenB L.length with
  | false =>
    have e1 : fineE L = 3 := by unfold fineE; rw [if_pos hq]
    have e2 : lenE L.length = 3 := by unfold lenE; rw [if_neg (by rw [hq]; simp)]
    rw [e1, if_neg (by decide), errV_pos 3 (by decide)]
    rw [e2, errV_pos 3 (by decide)] at HC
    clear hbs hq e1 e2
    generalize L.length = N at *
    go_enter Tryz.func11, Tryz.ntmps11
    go_wp2_with fail
    refine (unhide HC).mono ?_
    rintro e w1 ⟨v1, rfl, hL1, hB1⟩
    have HB := hide hB1
    clear hL1 hB1 HC
    go_wp2
    go_ret2
    exact ⟨none, 0, rfl, bs_nil _, unhide HB⟩
  | true =>
    have e2 : lenE L.length = 0 := by unfold lenE; rw [if_pos hq]
    have e3 : chkF L = faults L := by unfold chkF; rw [if_pos hq]
    rw [e2, e3, show errV 0 = .nilIface from rfl] at HC
    by_cases hf0 : faults L = []
    · have e1 : fineE L = 0 := by unfold fineE; rw [if_neg (by rw [hq]; simp), if_pos hf0]
      rw [e1, if_pos rfl, show errV 0 = .nilIface from rfl]
      have hlen := lenB_iff.1 hq
      have hf : Fine L := ⟨by omega, hf0⟩
      have HEQ := hide (wr_dn hf)
      have HOB := hide (fun (W : World) (hx : Bs W a cap L) => objectsOf_any a cap L W hx hf)
      have HRT := hide (fun (W : World) (hx : Bs W a cap L) => iRoots_any a cap L W hx)
      have e4 : roots L = rootsK L 8 := by unfold roots; rw [if_pos hq]
      rw [e2, e4, show errV 0 = .nilIface from rfl] at HRT
      have HMAY := hide (fun (os : List ((Int × Int × Int × Int) × Option Addr × Nat × List Int)) hx => obs_may hf hbs.1 (os := os) hx)
      have HRM := hide (roots_may hf hbs.1)
      have HBS := hide hbs
      have hr8 := rootsK_len L 8
      rw [hf0] at HC
      clear hbs hq e1 e2 e3 e4 hf0 hf
      generalize obsL L (entsK L 40) = OB at *
      generalize rootsK L 8 = R at *
      generalize dnL L = DL at *
      go_enter Tryz.func11, Tryz.ntmps11
      go_wp2_with fail
      refine (unhide HC).mono ?_
      rintro e w1 ⟨v1, rfl, hL1, hB1⟩
      obtain ⟨a1, c1, rfl, hs1⟩ := hL1.sls flC_len (by simp)
      have HB1 := hide hB1
      have HO1 := hide (unhide HOB w1 ((unhide HBS).below hB1))
      clear hL1 hB1 hs1 HC HOB
      rw [List.length_nil]
      go_wp2_with fail
      refine (unhide HO1).mono ?_
      rintro e w2 ⟨v2, os, rfl, hL2, hos, hbo, hB2⟩
      have hB2' := (unhide HB1).trans (hB2.mono (unhide HB1).size)
      obtain ⟨m1, m2⟩ := unhide HMAY os hos
      obtain ⟨a2, c2, rfl, hs2⟩ := hL2.sls ojC_len (by omega)
      have HS2 := hide hs2
      have HBO := hide hbo
      have HOS := hide hos
      have HB2 := hide hB2'
      have HBB := hide hB2
      have HM1 := hide m1
      have HR2 := hide (unhide HRT w2 ((unhide HBS).below hB2'))
      clear hL2 hos hbo hB2 hB2' hs2 m1 HO1 HMAY HRT HB1
      go_wp2_with fail
      refine (unhide HR2).mono ?_
      rintro e w3 ⟨v3, rfl, hL3, hB3⟩
      obtain ⟨a3, c3, rfl, hs3⟩ := hL3.sls roC_len (by omega)
      have hB3' := (unhide HB2).trans (hB3.mono (unhide HB2).size)
      have hbo3 : ∀ o ∈ os, Bs w3 o.2.1 o.2.2.1 o.2.2.2 := fun o ho => (unhide HBO o ho).below ((unhide HBB).trans (hB3.mono (unhide HBB).size))
      have hW := written_any a2 a3 c2 c3 os R w3 ((unhide HS2).below hB3) hbo3 hs3 (unhide HM1) m2 (unhide HRM) hr8
      rw [unhide HOS, unhide HEQ] at hW
      have HW := hide hW
      have HB3 := hide hB3'
      clear hL3 hs3 hB3 hB3' hbo3 hW HS2 HBO HOS HBB HM1 HR2 HB2 HRM
      go_wp2_with fail
      refine (unhide HW).mono ?_
      rintro e w4 ⟨a4, c4, rfl, hb4, hB4⟩
      have HB4 := hide hb4
      have HBW := hide ((unhide HB3).trans (hB4.mono (unhide HB3).size))
      clear hb4 hB4 HW HB3
      go_wp2
      go_ret2
      exact ⟨_, _, rfl, unhide HB4, unhide HBW⟩
    · have e1 : fineE L = 6 := by unfold fineE; rw [if_neg (by rw [hq]; simp), if_neg hf0]
      rw [e1, if_neg (by decide), errV_pos 6 (by decide)]
      have hpos : 0 < (faults L).length := List.length_pos_iff.2 hf0
      have hfl := faults_len L
      clear hbs hq e1 e2 e3 hf0
      go_enter Tryz.func11, Tryz.ntmps11
      go_wp2_with fail
      refine (unhide HC).mono ?_
      rintro e w1 ⟨v1, rfl, hL1, hB1⟩
      obtain ⟨a1, c1, rfl, hs1⟩ := hL1.sls flC_len (by omega)
      have HB := hide hB1
      clear hL1 hB1 hs1 HC
      generalize (faults L).length = FN at *
      go_wp2
      go_ret2
      exact ⟨none, 0, rfl, bs_nil _, unhide HB⟩
end Go.Proofs.YtllpeknpplpgeaaGreatDoor
/-! The contract of the document's own Down. (Part of the proof of OldTells.) -/
namespace Go.Proofs.YtllpeknpplpgeaaGreatDoor
open Go.RowKit
set_option linter.unusedVariables false

theorem Lst.kept {α : Type} {enc : α → List Value} {k T : Nat} {w w' : World} {B : Nat} {v : Value} {l : List α} (h : Lst enc k T w B v l) (hk : ∀ g, v.ownBlock = some g → w'.heap[g]? = w.heap[g]?) : Lst enc k T w' B v l := by
  refine ⟨h.1, ?_⟩
  rcases h.2 with h0 | ⟨g, cap, cur, rfl, hB, hc, h3⟩
  · exact .inl h0
  · exact .inr ⟨g, cap, cur, rfl, hB, (hk g rfl).trans hc, h3⟩
theorem Lst.olds {α : Type} {enc : α → List Value} {k T : Nat} {w : World} {B : Nat} {v : Value} {l : List α} (h : Lst enc k T w B v l) : ∀ g, v.ownBlock = some g → g < w.heap.size := by
  intro g hg
  rcases h.2 with ⟨rfl, _⟩ | ⟨g', cap, cur, rfl, hB, hc, _⟩
  · cases hg
  · simp [Value.ownBlock] at hg
    subst hg
    exact (Array.getElem?_eq_some_iff.1 hc).1
theorem dn_byt {L : List Int} (hf : Fine L) (hb : Byt L) : Byt (dnL L) := fun z hz => by
  have hl := entsK_len L 40
  have hr := rootsK_len L 8
  unfold dnL dnB at hz
  rcases List.mem_append.1 hz with hz | hz
  · generalize (entsK L 40).length = n at *
    simp only [List.mem_cons, List.not_mem_nil, or_false] at hz
    omega
  rcases List.mem_append.1 hz with hz | hz
  · obtain ⟨e, he, hze⟩ := List.mem_flatMap.1 hz
    exact dnO_byt hf hb he z hze
  rcases List.mem_append.1 hz with hz | hz
  · rw [List.mem_singleton.1 hz]; omega
  · exact (drK_byt _ (roots_may hf hb)).1 z hz
theorem strCells_L (s : ByteArray) : Go.Lib.strCells s = (strL s).map (Value.int .u8) := by
  unfold Go.Lib.strCells strL
  rw [List.map_map]
  rfl
/-- 'append(v, s...)', s a text. -/
theorem wpList_append_txt {P : Program} {w : World} {ops : Array Oper} {rest : List Oper} {o : Oper} {a : Act} {Q : Exit → Act → World → Prop} (hgd : o.guard = none) (s x : Operand) (t u : TypeId)
    (ho : o.op = .call { callee := .builtin .append, args := #[s, x], argTypes := #[t, u] }) (i : TypeInfo) (ht : P.underlying t = some (.slice 5)) (hu : P.underlying u = some .string) (hi : P.info? 5 = some i) (hz : i.zero = some (.int .u8 0)) (h4 : i.size = 1) (h5 : i.bytes = 1)
    (B : Nat) (v : Value) (L : List Int) (hs : a.eval s = v) (hown : OwnV w B v L) (hB : B ≤ w.heap.size) (S : ByteArray) (hx : a.eval x = .string S) (hL : L.length + S.size ≤ 140737488351232)
    (h : ∀ v' w', OwnV w' B v' (L ++ strL S) → Below B w w' → wpList P ops Q rest (a.put o.dst v') w') :
    wpList P ops Q (o :: rest) a w := by
  refine Go.Lib.wpList_append_own_string w hgd s x t u ho B 5 i ht hu hi hz h4 h5 v _ _ hs hown S hx (by unfold maxLen; omega) (by omega) hB (fun v' w' ho' hg' _ => ?_)
  refine h v' w' ?_ ((Below.refl _ _).grown hg' hB (fun k hk => hown.block k hk))
  unfold OwnV
  rw [List.length_append, List.map_append, length_strL, ← strCells_L]
  exact ho'
/-- One byte as a row. -/
theorem one_row (w : World) (z : Int) (h : 0 ≤ z ∧ z ≤ 255) : Bs (w.alloc (.cells #[.int .u8 z] 5)) (some ⟨w.heap.size, 0, none⟩) 1 [z] :=
  Blk.bs (l := [z]) (heap_alloc_new w _) (fun y hy => by rw [List.mem_singleton.1 hy]; exact h) (by simp)
theorem dnO_next {L : List Int} {E : List (Int × Int × Int × Int)} {k : Nat} {e : (Int × Int × Int × Int)} (h : E[k]? = some e) : (E.take (k + 1)).flatMap (dnO L) = (E.take k).flatMap (dnO L) ++ dnO L e := by
  rw [take_more h, List.flatMap_append]
  simp
theorem dnK_len {L : List Int} (hf : Fine L) : ∀ E : List (Int × Int × Int × Int), (∀ e ∈ E, e ∈ entsK L 40) → (E.flatMap (dnO L)).length ≤ 1004 * E.length
  | [], _ => by simp
  | e :: E, h => by
    have h1 := (dnO_facts hf (h e (by simp)) []).2.2.2.2.2.2.2.1
    have h2 := ent_in hf (h e (by simp))
    have h3 := dnK_len hf E (fun x hx => h x (by simp [hx]))
    rw [List.append_nil, List.length_nil] at h1
    rw [List.flatMap_cons, List.length_append, List.length_cons]
    omega
set_option maxRecDepth 100000 in
set_option maxHeartbeats 8000000 in
theorem sDown_any (a : Option Addr) (cap : Nat) (L : List Int) (w : World) (hb : Bs w a cap L) (hf : Fine L) :
    Calls Tryz.prog 10 #[.slice a L.length cap] w fun e w' => ∃ a' c', e = .returned (.slice a' (dnL L).length c') ∧ Bs w' a' c' (dnL L) ∧ Below w.heap.size w w' := by
  obtain ⟨i0, hi0, hz0, hz1, hz2⟩ := info_parts info_u8
  have hlen := hf.len
  have HE := hide (rEnts_any a cap L w hb hlen.1)
  have HOB := hide (fun (W : World) (h : Int) (h1 : 1 ≤ h) (h2 : h ≤ 40) (hx : Bs W a cap L) => rObject_any a cap L h W hx hlen.1 h1 h2 (fun ht => right_in hf.ok h1 h2 ht))
  have HRT := hide (fun (W : World) (hx : Bs W a cap L) => rRoots_any a cap L W hx hlen.1 hlen.2)
  have hel := entsK_len L 40
  have hrl := rootsK_len L 8
  have HIN := hide (fun (e : (Int × Int × Int × Int)) (he : e ∈ entsK L 40) => ent_in hf he)
  have HFA := hide (fun (e : (Int × Int × Int × Int)) (he : e ∈ entsK L 40) => dnO_facts hf he [])
  have HTG := hide (fun (e : (Int × Int × Int × Int)) (he : e ∈ entsK L 40) => show 0 ≤ e.2.2.2 ∧ e.2.2.2 ≤ 15 by
    obtain ⟨ee, e1, e2, et, _⟩ := ent_in hf he
    have ht := hf.ent e1 e2 et
    rw [← ee] at ht
    omega)
  have HKL := hide (fun k => dnK_len hf ((entsK L 40).take k) (fun e he => List.mem_of_mem_take he))
  have HRM := hide (roots_may hf hb.1)
  have HBYD := hide (dn_byt hf hb.1)
  have HBS := hide hb
  have HBYO := hide (fun (e : (Int × Int × Int × Int)) (he : e ∈ entsK L 40) => (show Byt (objOf L e.1).2 from byt_obj hb.1))
  have HDL : Hid (dnL L = [79, 76, 68, 49, ((entsK L 40).length : Int)] ++ (entsK L 40).flatMap (dnO L) ++ [((rootsK L 8).length : Int)] ++ (rootsK L 8).flatMap dnR) := hide (by unfold dnL dnB; simp only [List.append_assoc])
  have hm0 : ((entsK L 40).length : Int) % 256 = ((entsK L 40).length : Int) := by omega
  have hm1 : ((rootsK L 8).length : Int) % 256 = ((rootsK L 8).length : Int) := by omega
  have hbl := hb.2.2.1
  clear hb hf
  generalize entsK L 40 = E at *
  generalize rootsK L 8 = R at *
  generalize dnL L = DL at *
  go_enter Tryz.func10, Tryz.ntmps10
  go_wp2_with fail
  refine (unhide HE).mono ?_
  rintro e w1 ⟨v1, rfl, hL1, hB1⟩
  obtain ⟨a1, c1, rfl, hs1⟩ := hL1.sls enC_len (by omega)
  have HS1 := hide hs1
  have HB1 := hide hB1
  have hba : Below w1.heap.size w1 (w1.alloc (.cells #[.int .u8 79, .int .u8 76, .int .u8 68, .int .u8 49, .int .u8 E.length] 5)) := (Below.refl _ _).alloc (Nat.le_refl _) _
  have HBA := hide hba
  have HO1 : Hid (OwnV (w1.alloc (.cells #[.int .u8 79, .int .u8 76, .int .u8 68, .int .u8 49, .int .u8 E.length] 5)) w1.heap.size (.slice (some ⟨w1.heap.size, 0, none⟩) 5 5) [79, 76, 68, 49, (E.length : Int)]) := hide ⟨rfl, .inr ⟨w1.heap.size, 5, _, rfl, Nat.le_refl _, heap_alloc_new w1 _, Nat.le_refl _, by decide, rfl, rfl⟩⟩
  have HES : Hid ((E.take E.length).flatMap (dnO L) = E.flatMap (dnO L)) := hide (by rw [List.take_length])
  clear hL1 hs1 hB1 hba HE
  go_wp2_with fail
  go_loopw [4, 5] (fun v iv wr => ∃ k : Nat, k ≤ E.length ∧ iv = .int .i64 k ∧ OwnV wr w1.heap.size v ([79, 76, 68, 49, (E.length : Int)] ++ (E.take k).flatMap (dnO L)) ∧ Below w1.heap.size w1 wr) (fun _ iv _ => E.length - (intOf iv).toNat)
  case atStart => exact ⟨0, Nat.zero_le _, rfl, by simpa using unhide HO1, unhide HBA⟩
  case round =>
    obtain ⟨k, hk, rfl, hown, hbel⟩ := hrel
    clear HO1 HBA
    by_cases hlt : k < E.length
    · have hne : E ≠ [] := by intro e; rw [e] at hlt; simp at hlt
      obtain ⟨b1, o1, rfl, hc1⟩ := (unhide HS1).2.2.2 hne
      obtain ⟨f, hf⟩ : ∃ f, E[k]? = some f := ⟨E[k], List.getElem?_eq_getElem hlt⟩
      obtain ⟨p0, p1, p2, p3⟩ := Sls.ent (cap := 0) hc1 hf
      have hmem := List.mem_of_getElem? hf
      obtain ⟨ee, r1, r2, rt, r3, r4, r5, r6⟩ := unhide HIN f hmem
      obtain ⟨t1, t2⟩ := unhide HTG f hmem
      obtain ⟨d1, d2, d3, d4, d5, d6, d7, d8, d9⟩ := unhide HFA f hmem
      have hby := unhide HBYO f hmem
      have hnext := dnO_next (L := L) hf
      have hkl := unhide HKL k
      rw [List.length_take] at hkl
      have hll : ([79, 76, 68, 49, (E.length : Int)] ++ (E.take k).flatMap (dnO L)).length ≤ 100000 := by
        rw [List.length_append]
        simp only [List.length_cons, List.length_nil]
        omega
      have hdo : dnO L f = [f.1] ++ ([f.2.2.2] ++ ([f.2.2.1 % 256] ++ ([f.2.2.1 / 256] ++ (objOf L f.1).2))) := by unfold dnO; simp
      have HNX : Hid ([79, 76, 68, 49, (E.length : Int)] ++ (E.take (k + 1)).flatMap (dnO L) = [79, 76, 68, 49, (E.length : Int)] ++ (E.take k).flatMap (dnO L) ++ [f.1] ++ [f.2.2.2] ++ [f.2.2.1 % 256] ++ [f.2.2.1 / 256] ++ (objOf L f.1).2) := hide (by rw [hnext, hdo]; simp only [List.append_assoc])
      have hbw := (unhide HB1).trans (hbel.mono (unhide HB1).size)
      have HC := hide (unhide HOB wr f.1 r1 r2 ((unhide HBS).below hbw))
      rw [d9] at HC
      have hSs : (strOf (objOf L f.1).2).size = f.2.2.1.toNat := by rw [← length_strL, strL_strOf _ hby]; exact d5
      have HSL : Hid (strL (strOf (objOf L f.1).2) = (objOf L f.1).2) := hide (strL_strOf _ hby)
      have hq0 := (hbel.cell (p := ⟨b1, o1 + k * 4, none⟩) (block_lt_of_cell p0)).trans p0
      have HP0 := hide p0
      generalize [79, 76, 68, 49, (E.length : Int)] ++ (E.take k).flatMap (dnO L) = LL at *
      generalize strOf (objOf L f.1).2 = SS at *
      generalize (objOf L f.1).2 = BD at *
      obtain ⟨h, x, l, t⟩ := f
      dsimp only at *
      obtain ⟨N, rfl⟩ := Int.eq_ofNat_of_zero_le (show 0 ≤ l by omega)
      rw [Int.toNat_natCast] at hSs
      have hma : h % 256 = h := by omega
      have hmt : t % 256 = t := by omega
      have HOWN := hide hown
      have HBEL := hide hbel
      clear hc1 hf hne hmem ee rt d1 d2 d3 d4 d5 d6 d7 d8 d9 hby hnext hkl hdo hbw hown hbel p0 p1 p2 p3
      go_wp2_with fail
      refine (unhide HC).mono ?_
      rintro e w2 ⟨rfl, hB2⟩
      have hq2 := (hB2.cell (p := ⟨b1, o1 + k * 4, none⟩) (block_lt_of_cell hq0)).trans hq0
      have hB2' := (unhide HBEL).trans (hB2.mono (unhide HBEL).size)
      have hba2 : Below w2.heap.size w2 (w2.alloc (.cells #[.int .u8 h] 5)) := (Below.refl _ _).alloc (Nat.le_refl _) _
      have HO2 := hide (((unhide HOWN).below hB2).below hba2)
      have HB2 := hide (hB2'.trans (hba2.mono hB2'.size))
      have hsz2 := (unhide HB2).size
      have HR2 := hide (one_row w2 h (by omega))
      clear hB2 hB2' hba2 HC HOWN HBEL hq0
      go_wp2_with (first
        | (at_builtin; refine wpList_append_bs rfl _ _ 22 rfl i0 Tryz.underlying22 hi0 hz0 hz1 hz2 w1.heap.size _ LL rfl (unhide HO2) hsz2 (some ⟨w2.heap.size, 0, none⟩) 1 1 [h] rfl rfl (unhide HR2) (by simp; omega) ?_; intro v3 w3 ho3 hb3; have hba3 : Below w3.heap.size w3 (w3.alloc (.cells #[.int .u8 t] 5)) := (Below.refl _ _).alloc (Nat.le_refl _) _; have hB3' := (unhide HB2).trans hb3; have HO3 := hide (ho3.below hba3); have HB3 := hide (hB3'.trans (hba3.mono hB3'.size)); have hsz3 := (unhide HB3).size; have HR3 := hide (one_row w3 t (by omega)); clear ho3 hb3 hba3 hB3')
        | (at_builtin; refine wpList_append_bs rfl _ _ 22 rfl i0 Tryz.underlying22 hi0 hz0 hz1 hz2 w1.heap.size _ (LL ++ [h]) rfl (unhide HO3) hsz3 (some ⟨w3.heap.size, 0, none⟩) 1 1 [t] rfl rfl (unhide HR3) (by simp; omega) ?_; intro v4 w4 ho4 hb4; have hba4 : Below w4.heap.size w4 (w4.alloc (.cells #[.int .u8 ((N : Int) % 256)] 5)) := (Below.refl _ _).alloc (Nat.le_refl _) _; have hB4' := (unhide HB3).trans hb4; have HO4 := hide (ho4.below hba4); have HB4 := hide (hB4'.trans (hba4.mono hB4'.size)); have hsz4 := (unhide HB4).size; have HR4 := hide (one_row w4 ((N : Int) % 256) (by omega)); clear ho4 hb4 hba4 hB4')
        | (at_builtin; refine wpList_append_bs rfl _ _ 22 rfl i0 Tryz.underlying22 hi0 hz0 hz1 hz2 w1.heap.size _ (LL ++ [h] ++ [t]) rfl (unhide HO4) hsz4 (some ⟨w4.heap.size, 0, none⟩) 1 1 [(N : Int) % 256] rfl rfl (unhide HR4) (by simp; omega) ?_; intro v5 w5 ho5 hb5; have hba5 : Below w5.heap.size w5 (w5.alloc (.cells #[.int .u8 ((N : Int) / 256)] 5)) := (Below.refl _ _).alloc (Nat.le_refl _) _; have hB5' := (unhide HB4).trans hb5; have HO5 := hide (ho5.below hba5); have HB5 := hide (hB5'.trans (hba5.mono hB5'.size)); have hsz5 := (unhide HB5).size; have HR5 := hide (one_row w5 ((N : Int) / 256) (by omega)); clear ho5 hb5 hba5 hB5')
        | (at_builtin; refine wpList_append_bs rfl _ _ 22 rfl i0 Tryz.underlying22 hi0 hz0 hz1 hz2 w1.heap.size _ (LL ++ [h] ++ [t] ++ [(N : Int) % 256]) rfl (unhide HO5) hsz5 (some ⟨w5.heap.size, 0, none⟩) 1 1 [(N : Int) / 256] rfl rfl (unhide HR5) (by simp; omega) ?_; intro v6 w6 ho6 hb6; have HO6 := hide ho6; have HB6 := hide ((unhide HB5).trans hb6); have hsz6 := (unhide HB6).size; clear ho6 hb6)
        | (at_builtin; refine wpList_append_txt rfl _ _ 22 9 rfl i0 Tryz.underlying22 Tryz.underlying9 hi0 hz0 hz1 hz2 w1.heap.size _ (LL ++ [h] ++ [t] ++ [(N : Int) % 256] ++ [(N : Int) / 256]) rfl (unhide HO6) hsz6 SS rfl (by simp; omega) ?_; intro v7 w7 ho7 hb7; have HO7 := hide ho7; have HB7 := hide ((unhide HB6).trans hb7); clear ho7 hb7))
      go_roundw
      case rel => exact ⟨k + 1, by omega, by go_num, by rw [unhide HNX, ← unhide HSL]; exact unhide HO7, unhide HB7⟩
      case measure => simp [intOf]; omega
    · obtain rfl : k = E.length := by omega
      rw [unhide HES] at hown
      have hkl := unhide HKL E.length
      rw [unhide HES, List.length_take, Nat.min_self] at hkl
      have hll : ([79, 76, 68, 49, (E.length : Int)] ++ E.flatMap (dnO L)).length ≤ 100000 := by
        rw [List.length_append]
        simp only [List.length_cons, List.length_nil]
        omega
      have hbw := (unhide HB1).trans (hbel.mono (unhide HB1).size)
      have HR7 := hide (unhide HRT wr ((unhide HBS).below hbw))
      have HOWN := hide hown
      have HBEL := hide hbel
      have HER : Hid ((R.take R.length).flatMap dnR = R.flatMap dnR) := hide (by rw [List.take_length])
      clear hown hbel hkl hbw hlt hk HRT HOB HIN HFA HTG HKL HBYO HS1 HES
      generalize [79, 76, 68, 49, (E.length : Int)] ++ E.flatMap (dnO L) = LL at *
      go_wp2_with fail
      refine (unhide HR7).mono ?_
      rintro e w2 ⟨v2, rfl, hL2, hB2⟩
      obtain ⟨a2, c2, rfl, hs2⟩ := hL2.sls roC_len (by omega)
      have hob := (unhide HOWN).old
      have hB2' := (unhide HBEL).trans (hB2.mono (unhide HBEL).size)
      have hba2 : Below w2.heap.size w2 (w2.alloc (.cells #[.int .u8 R.length] 5)) := (Below.refl _ _).alloc (Nat.le_refl _) _
      have HOS : Hid (OwnS (w2.alloc (.cells #[.int .u8 R.length] 5)) w1.heap.size (fun g => (Value.slice a2 R.length c2).ownBlock = some g) _ LL) := hide ⟨((unhide HOWN).below hB2).below hba2, fun g hg hS => by
        have h1 := hob g hg
        have h2 := hL2.block g hS
        omega⟩
      have HLR := hide (hL2.below hba2)
      have HB2 := hide (hB2'.trans (hba2.mono hB2'.size))
      have hsz2 := (unhide HB2).size
      have HR2 := hide (one_row w2 (R.length : Int) (by omega))
      clear hob hB2 hB2' hba2 hL2 hs2 HOWN HBEL HR7
      go_wp2_with (at_builtin; refine wpList_append_s rfl _ _ 22 rfl i0 Tryz.underlying22 hi0 hz0 hz1 hz2 w1.heap.size (fun g => (Value.slice a2 R.length c2).ownBlock = some g) _ LL rfl (unhide HOS) hsz2 (fun g hg => (unhide HLR).olds g hg) (some ⟨w2.heap.size, 0, none⟩) 1 1 [(R.length : Int)] rfl rfl (by simp) (unhide HR2) (by simp; omega) ?_; intro v3 w3 ho3 hb3 hk3; have HO3 := hide ho3; have HB3 := hide ((unhide HB2).trans hb3); have HL3 := hide ((unhide HLR).kept hk3); clear ho3 hb3 hk3)
      go_loopw [4, 9] (fun v iv wq => ∃ j : Nat, j ≤ R.length ∧ iv = .int .i64 j ∧ OwnS wq w1.heap.size (fun g => (Value.slice a2 R.length c2).ownBlock = some g) v (LL ++ [(R.length : Int)] ++ (R.take j).flatMap dnR) ∧ Lst roC 2 57 wq 0 (.slice a2 R.length c2) R ∧ Below w1.heap.size w1 wq) (fun _ iv _ => R.length - (intOf iv).toNat)
      case atStart => exact ⟨0, Nat.zero_le _, rfl, by simpa using unhide HO3, (unhide HL3).lowB (Nat.zero_le _), unhide HB3⟩
      case round =>
        obtain ⟨j, hj, rfl, hown, hLr, hbel⟩ := hrel
        clear HO3 HL3 HB3
        by_cases hlt : j < R.length
        · have hne : R ≠ [] := by intro e; rw [e] at hlt; simp at hlt
          obtain ⟨f, hf⟩ : ∃ f, R[j]? = some f := ⟨R[j], List.getElem?_eq_getElem hlt⟩
          have hsl : ∀ W, Lst roC 2 57 W 0 (.slice a2 R.length c2) R → Sls roC 2 W a2 c2 R := fun W h => by
            obtain ⟨x, y, e, hs⟩ := h.sls roC_len (by omega)
            simp only [Value.slice.injEq, true_and] at e
            rw [e.1, e.2]
            exact hs
          obtain ⟨b1, o1, rfl, hc1⟩ := (hsl _ hLr).2.2.2 hne
          obtain ⟨q0, q1⟩ := Sls.root (cap := 0) hc1 hf
          have HCL : Hid (∀ W, Lst roC 2 57 W 0 (.slice (some ⟨b1, o1, none⟩) R.length c2) R → W.cell? ⟨b1, o1 + j * 2 + 1, none⟩ = some (.int .i64 f.2)) := hide (fun W h => by
            obtain ⟨b2, o2, e2, hc2⟩ := (hsl W h).2.2.2 hne
            simp only [Option.some.injEq, Addr.mk.injEq, and_true] at e2
            obtain ⟨rfl, rfl⟩ := e2
            exact (Sls.root (cap := 0) hc2 hf).2)
          obtain ⟨n1, n2, n3⟩ := unhide HRM f (List.mem_of_getElem? hf)
          have hnext : (R.take (j + 1)).flatMap dnR = (R.take j).flatMap dnR ++ dnR f := by rw [take_more hf, List.flatMap_append]; simp
          have hrk := (drK_byt (R.take j) (fun r hr => unhide HRM r (List.mem_of_mem_take hr))).2
          obtain ⟨sn, z⟩ := f
          dsimp only at q0 q1 n1 n2 n3 HCL
          have HNX : Hid (LL ++ [(R.length : Int)] ++ (R.take (j + 1)).flatMap dnR = LL ++ [(R.length : Int)] ++ (R.take j).flatMap dnR ++ nameL sn ++ [z]) := hide (by rw [hnext]; unfold dnR; simp only [List.append_assoc])
          have hl2 : (LL ++ [(R.length : Int)] ++ (R.take j).flatMap dnR).length ≤ 200000 := by
            rw [List.length_append, List.length_append, hrk, List.length_take, List.length_singleton]
            omega
          generalize LL ++ [(R.length : Int)] ++ (R.take j).flatMap dnR = L2 at *
          have HNM := hide (fun W => rNameBytes sn W n1.2.1)
          have hnl := length_nameL sn n1.2.1
          have HNB := hide (byt_nameL sn)
          have hne8 : nameL sn ≠ [] := by intro e; rw [e] at hnl; simp at hnl
          have hmz : z % 256 = z := by omega
          have HOWN := hide hown
          have HLR := hide hLr
          have HBEL := hide hbel
          generalize nameL sn = NM at *
          clear hc1 hf hne hnext hrk hown hLr hbel n1 hsl q1
          go_wp2_with fail
          refine (unhide HNM _).mono ?_
          rintro e w5 ⟨g5, rfl, hg5, hk5, hB5⟩
          have hB5' := (unhide HBEL).trans (hB5.mono (unhide HBEL).size)
          have HO5 : Hid (OwnS w5 w1.heap.size (fun g => (Value.slice (some ⟨b1, o1, none⟩) R.length c2).ownBlock = some g) _ L2) := hide ⟨(unhide HOWN).1.below hB5, (unhide HOWN).2⟩
          have HL5 := hide ((unhide HLR).below hB5)
          have HB5 := hide hB5'
          have hsz5 := hB5'.size
          have HK5 := hide hk5
          clear hg5 hk5 hB5 hB5' HNM HOWN HLR HBEL q0
          go_wp2_with (first
            | (at_builtin; refine wpList_append_s rfl _ _ 22 rfl i0 Tryz.underlying22 hi0 hz0 hz1 hz2 w1.heap.size (fun g => (Value.slice (some ⟨b1, o1, none⟩) R.length c2).ownBlock = some g) _ L2 rfl (unhide HO5) hsz5 (fun g hg => (unhide HL5).olds g hg) (some ⟨g5, 0, none⟩) 8 8 NM rfl hnl.symm hne8 (by have h9 := (unhide HK5).bs (unhide HNB) (by omega); rw [hnl] at h9; exact h9) (by omega) ?_; intro v6 w6 ho6 hb6 hk6; have hL6 := (unhide HL5).kept hk6; have s1 := unhide HCL w6 hL6; have hba6 : Below w6.heap.size w6 (w6.alloc (.cells #[.int .u8 z] 5)) := (Below.refl _ _).alloc (Nat.le_refl _) _; have hB6' := (unhide HB5).trans hb6; have HO6 : Hid (OwnS (w6.alloc (.cells #[.int .u8 z] 5)) w1.heap.size (fun g => (Value.slice (some ⟨b1, o1, none⟩) R.length c2).ownBlock = some g) v6 (L2 ++ NM)) := hide ⟨ho6.1.below hba6, ho6.2⟩; have HL6 := hide (hL6.below hba6); have HB6 := hide (hB6'.trans (hba6.mono hB6'.size)); have hsz6 := (unhide HB6).size; have HR6 := hide (one_row w6 z (by omega)); clear ho6 hb6 hk6 hL6 hba6 hB6')
            | (at_builtin; refine wpList_append_s rfl _ _ 22 rfl i0 Tryz.underlying22 hi0 hz0 hz1 hz2 w1.heap.size (fun g => (Value.slice (some ⟨b1, o1, none⟩) R.length c2).ownBlock = some g) _ (L2 ++ NM) rfl (unhide HO6) hsz6 (fun g hg => (unhide HL6).olds g hg) (some ⟨w6.heap.size, 0, none⟩) 1 1 [z] rfl rfl (by simp) (unhide HR6) (by rw [List.length_append, List.length_singleton]; omega) ?_; intro v7 w7 ho7 hb7 hk7; have HO7 := hide ho7; have HL7 := hide ((unhide HL6).kept hk7); have HB7 := hide ((unhide HB6).trans hb7); clear ho7 hb7 hk7))
          go_roundw
          case rel => exact ⟨j + 1, by omega, by go_num, by rw [unhide HNX]; exact unhide HO7, unhide HL7, unhide HB7⟩
          case measure => simp [intOf]; omega
        · obtain rfl : j = R.length := by omega
          rw [unhide HER, ← unhide HDL] at hown
          have hbw := (unhide HB1).trans (hbel.mono (unhide HB1).size)
          have HBW := hide hbw
          have hbyD := unhide HBYD
          have hlD : DL.length ≤ 200000 := by
            rw [unhide HDL, List.length_append, List.length_append, (drK_byt R (unhide HRM)).2, List.length_singleton]
            omega
          obtain ⟨a9, c9, rfl, hb9⟩ := hown.1.bs hbyD (by omega)
          have HB9 := hide hb9
          clear hown hLr hbel hbw hbyD hb9 hlt
          go_wp2
          go_ret
          exact ⟨a9, c9, rfl, unhide HB9, unhide HBW⟩
end Go.Proofs.YtllpeknpplpgeaaGreatDoor
