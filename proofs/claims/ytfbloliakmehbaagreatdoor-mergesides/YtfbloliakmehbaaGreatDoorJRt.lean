/-
  Parts of the proofs, joined by program.
-/
import Derived.Test.YtfbloliakmehbaaGreatDoorJSe
import Derived.Test.YtfbloliakmehbaaGreatDoorJNum
import Derived.Test.YtfbloliakmehbaaGreatDoorJRtp
import Derived.Test.YtfbloliakmehbaaGreatDoorJCh
import Derived.Test.YtfbloliakmehbaaGreatDoorJIn
import Derived.Test.YtfbloliakmehbaaGreatDoorJHq
import Derived.Test.YtfbloliakmehbaaGreatDoorJHp
import Derived.Deep.RegionHeld3
namespace Go.Proofs.YtfbloliakmehbaaGreatDoor
open Go.RowKit
set_option linter.unusedVariables false
theorem hasPrefix_any (a la : Option Addr) (cap lc : Nat) (L l : List Int) (w : World) (hb : Bs w a cap L) (hl : Bs w la lc l) (hle : l.length <= L.length) :
  Calls Tryz.prog 140 #[.slice a L.length cap, .slice la l.length lc] w fun e w' => e = .returned (.bool (decide (L.take l.length = l))) /\ w = w' := by
 obtain ⟨a2, hhi, hb2⟩ := slice_hi (P := Tryz.prog) (t := 22) Tryz.underlying22 size_u8 hb l.length hle
 have h8 : (L.take l.length).length = l.length := by rw [List.length_take]; omega
 have HE := hide (bytesEq_any a2 la cap lc (L.take l.length) l w hb2 hl)
 rw [h8] at HE
 have hbl := hb.2.2.1
 clear hb hl hb2 h8
 generalize decide (L.take l.length = l) = r at *
 generalize L.length = N at *
 generalize l.length = n at *
 go_enter Tryz.func140, Tryz.ntmps140
 go_wp2_with fail
 refine (unhide HE).mono ?_
 rintro e w1 ⟨rfl, hw⟩
 subst hw
 go_wp2
 go_ret
 exact ⟨rfl, rfl⟩
theorem hasPrefix_short (a la : Option Addr) (n m cap lc : Nat) (w : World) (hn : n <= 140737488351232) (hm : m <= 140737488351232) (hlt : n < m) :
  Calls Tryz.prog 140 #[.slice a n cap, .slice la m lc] w fun e w' => e = .returned (.bool false) /\ w = w' := by
 have h1 : ¬ ((m : Int) <= (n : Int)) := by omega
 go_enter Tryz.func140, Tryz.ntmps140
 go_wp2_with fail
 go_ret
 exact ⟨rfl, rfl⟩
theorem field_at (x y : Int) (w : World) : (Instr.field 69 (.agg #[.int .i64 x, .int .i64 y]) 0).run Tryz.prog w = .ok (.int .i64 x) w := by
 simp [Instr.field, run_underlying Tryz.underlying69, run_underlying Tryz.underlying3, part, isAgg, asAgg, go_sem]
def pgI (k : Nat) : Int := if k = 8 then 0 else (k : Int)
set_option maxRecDepth 100000 in
set_option maxHeartbeats 1000000 in
theorem roPlace_any (a la : Option Addr) (cap lc : Nat) (L l : List Int) (w : World) (hb : Bs w a cap L) (hl : Bs w la lc l) (h8 : l.length = 8) (h1 : 288 <= L.length) (h2 : L.length <= 6400) :
  Calls Tryz.prog 92 #[.slice a L.length cap, .slice la 8 lc] w fun e w' => e = .returned (.tuple #[.int .i64 (pgI (plL L l)), .bool (decide (plL L l < 8))]) /\ Below w.heap.size w w' := by
 have HB := hide hb
 have HL := hide hl
 have HF := hide (plL_first L l)
 have HH := hide (fun (W : World) (ax : Option Addr) (cx : Nat) (X : List Int) (hX : Bs W ax cx X) (hlW : Bs W la lc l) (hle : 8 <= X.length) => hasPrefix_any ax la cx lc X l W hX hlW (by omega))
 rw [h8] at HH
 have HI := hide (fun k => show isL L l k = decide ((rowAt L k).take 8 = l) from rfl)
 have HT := hide (fun k => show (rowAt L k).take 8 = (L.drop (200 + 11 * k)).take 8 by unfold rowAt; rw [List.take_take]; rfl)
 generalize plL L l = P at *
 clear hb hl h8
 go_enter Tryz.func92, Tryz.ntmps92
 go_wp2_with fail
 go_loopw [6, 7] (fun _ iv wr => ∃ k : Nat, k <= 8 /\ iv = .int .i64 k /\ (∀ j, j < k -> isL L l j = false) /\ Below w.heap.size w wr) (fun _ iv _ => 8 - (intOf iv).toNat)
 case atStart => exact ⟨0, Nat.zero_le _, rfl, fun j hj => absurd hj (Nat.not_lt_zero j), Below.refl _ _⟩
 case round =>
  obtain ⟨k, hk, rfl, hall, hbel⟩ := hrel
  by_cases hlt : k < 8
  ·have HO := hide (ofRoot_any k wr hlt)
   have hb := (unhide HB).below hbel
   have hPk : isL L l k = true -> P = k := fun h => First.unique (unhide HF) ⟨hk, hall, fun _ => h⟩
   have hS : isL L l k = false -> ∀ j, j < k + 1 -> isL L l j = false := fun h => First.step hall h
   have HPk : Hid (isL L l k = true -> pgI P = k /\ decide (P < 8) = true) := hide (fun h => by
    rw [hPk h]
    exact ⟨if_neg (by omega), decide_eq_true hlt⟩)
   have HS := hide hS
   have HBEL := hide hbel
   have HC : Hid (∀ W, Below wr.heap.size wr W -> ∃ a', Sem.run Tryz.prog (Instr.slice 22 (.slice a L.length cap) (some (.int .i64 (200 + 11 * k : Nat))) none none) W = .ok (.slice a' (L.length - (200 + 11 * k)) (cap - (200 + 11 * k))) W /\ Calls Tryz.prog 140 #[.slice a' (L.length - (200 + 11 * k)) (cap - (200 + 11 * k)), .slice la 8 lc] W fun e w' => e = .returned (.bool (isL L l k)) /\ W = w') := hide (fun W hW => by
    obtain ⟨a', hlo, hb2⟩ := slice_lo (P := Tryz.prog) (t := 22) Tryz.underlying22 size_u8 (hb.below hW) (200 + 11 * k) (by omega)
    have hh := unhide HH W a' (cap - (200 + 11 * k)) (L.drop (200 + 11 * k)) hb2 (((unhide HL).below hbel).below hW) (by rw [List.length_drop]; omega)
    rw [List.length_drop, <- unhide HT k, <- unhide HI k] at hh
    exact ⟨a', hlo _, hh⟩)
   have hpl : (200 + 11 * k : Nat) <= L.length := by omega
   clear hall hPk hS hbel hb HF HH HB HL
   generalize isL L l k = b at *
   generalize 200 + 11 * k = q at *
   generalize L.length = N at *
   go_wp2_with fail
   refine (unhide HO).mono ?_
   rintro e w1 ⟨rfl, hb1⟩
   obtain ⟨a', hrun, hcall⟩ := unhide HC w1 hb1
   have HC1 := hide hcall
   have HB1 := hide ((unhide HBEL).trans (hb1.mono (unhide HBEL).size))
   have hfd := field_at q 11 w1
   clear hb1 hcall HC HO HBEL
   cases b with
   | false =>
    have HN := hide (unhide HS rfl)
    clear HS HPk
    go_wp2_with fail
    refine (unhide HC1).mono ?_
    rintro e w2 ⟨rfl, hw2⟩
    subst hw2
    go_wp2
    go_roundw
    case rel => exact ⟨k + 1, by omega, by go_num, unhide HN, unhide HB1⟩
    case measure => simp [intOf]; omega
   | true =>
    have HX := hide (unhide HPk rfl)
    clear HS HPk
    go_wp2_with fail
    refine (unhide HC1).mono ?_
    rintro e w2 ⟨rfl, hw2⟩
    subst hw2
    go_wp2
    go_ret2
    exact ⟨by rw [(unhide HX).1, (unhide HX).2]; rfl, unhide HB1⟩
  ·obtain rfl : k = 8 := by omega
   have hp8 : P = 8 := First.unique (unhide HF) ⟨hk, hall, fun h => absurd h (Nat.lt_irrefl _)⟩
   subst hp8
   have HBEL := hide hbel
   clear hall HF hbel
   go_wp2
   go_ret2
   exact ⟨rfl, unhide HBEL⟩
theorem firstNone_any (a : Option Addr) (cap : Nat) (L : List Int) (w : World) (hb : Bs w a cap L) (hf : Fine L) :
  Calls Tryz.prog 93 #[.slice a L.length cap] w fun e w' => e = .returned (.tuple #[.int .i64 (pgI (frR L)), errV (if frR L = 8 then 4 else 0)]) /\ Below w.heap.size w w' := by
 have hl := hf.len
 have hz8 : (zerosB 8).length = 8 := length_zerosB 8
 have hmk : Sem.run Tryz.prog (Instr.makeSlice 22 (.int .i64 8) (.int .i64 8)) w = .ok (.slice (some ⟨w.heap.size, 0, none⟩) 8 8) (mkW w 8) := run_make_u8 w 8 (by decide)
 have hbz := (mkW_blk w 8).bs (byt_zerosB 8) (by rw [hz8]; decide)
 have hbw := mkW_below w 8
 have hp := roPlace_any a (some ⟨w.heap.size, 0, none⟩) cap (zerosB 8).length L (zerosB 8) (mkW w 8) (hb.below hbw) hbz hz8 hl.1 hl.2
 rw [plL_zero hf, hz8] at hp
 have HP := hide hp
 have HBW := hide hbw
 have hfr := frR_le L
 clear hb hf hz8 hbz hbw hp
 generalize mkW w 8 = W0 at *
 generalize frR L = P at *
 generalize L.length = N at *
 by_cases h8 : P = 8
 ·have hd : decide (P < 8) = false := decide_eq_false (by omega)
  have hpg : pgI P = 0 := if_pos h8
  rw [if_pos h8, errV_pos 4 (by decide), hpg]
  rw [hd, hpg] at HP
  clear h8 hd hpg hfr
  go_enter Tryz.func93, Tryz.ntmps93
  go_wp2_with fail
  refine (unhide HP).mono ?_
  rintro e w1 ⟨rfl, hb1⟩
  have HB1 := hide ((unhide HBW).trans (hb1.mono (unhide HBW).size))
  clear hb1 HP HBW
  go_wp2
  go_ret2
  exact ⟨rfl, unhide HB1⟩
 ·have hd : decide (P < 8) = true := decide_eq_true (by omega)
  rw [if_neg h8, errV_zero]
  rw [hd] at HP
  clear h8 hd hfr
  generalize pgI P = x at *
  go_enter Tryz.func93, Tryz.ntmps93
  go_wp2_with fail
  refine (unhide HP).mono ?_
  rintro e w1 ⟨rfl, hb1⟩
  have HB1 := hide ((unhide HBW).trans (hb1.mono (unhide HBW).size))
  clear hb1 HP HBW
  go_wp2
  go_ret2
  exact ⟨rfl, unhide HB1⟩
theorem Lst.lowA {α : Type} {enc : α -> List Value} {k T : Nat} {w : World} {B B' : Nat} {v : Value} {l : List α} (h : Lst enc k T w B' v l) (hB : B <= B') : Lst enc k T w B v l := by
 refine ⟨h.1, ?_⟩
 rcases h.2 with h0 | ⟨g, cap, cur, e, h1, h2⟩
 ·exact .inl h0
 ·exact .inr ⟨g, cap, cur, e, Nat.le_trans hB h1, h2⟩
theorem roAll_any (p g c B : Nat) (L : List Int) (w : World) (h : Hp w B p g c L) :
  Calls Tryz.prog 197 #[.pointer (some ⟨p, 0, none⟩)] w fun e w' => ∃ v, e = .returned v /\ Lst roC 2 76 w' w.heap.size v (rootsK L 8) /\ Below w.heap.size w w' := by
 have HB := hide (hBytes_any p g c B L w h)
 have hbyt := h.byt
 have hlen := h.len
 have hq := h.fine.len0
 have HR : Hid (∀ W a' c', Below w.heap.size w W -> OwnV W w.heap.size (.slice a' L.length c') L -> Calls Tryz.prog 71 #[.slice a' L.length c'] W fun e w' => ∃ v, e = .returned (.tuple #[v, .nilIface]) /\ Lst roC 2 76 w' w.heap.size v (rootsK L 8) /\ Below w.heap.size w w') := hide (fun W a' c' hW hO => by
  obtain ⟨a2, c2, e2, hb2⟩ := hO.bs hbyt (by omega)
  simp only [Value.slice.injEq, true_and] at e2
  obtain ⟨rfl, rfl⟩ := e2
  refine (iRoots_yes a' c' L W hb2 hq).mono ?_
  rintro e w' ⟨v, rfl, hl, hb⟩
  exact ⟨v, rfl, hl.lowA hW.size, hW.trans (hb.mono hW.size)⟩)
 clear h hbyt hq
 generalize rootsK L 8 = RS at *
 generalize hN : L.length = N at *
 clear hN
 go_enter Tryz.func197, Tryz.ntmps197
 go_wp2_with fail
 refine (unhide HB).mono ?_
 rintro e w1 ⟨a1, c1, rfl, ho1, hb1⟩
 have HR1 := hide (unhide HR w1 a1 c1 hb1 ho1)
 clear ho1 hb1 HB HR
 go_wp2_with fail
 refine (unhide HR1).mono ?_
 rintro e w2 ⟨v2, rfl, hl2, hb2⟩
 obtain ⟨va, vm, vc, rfl⟩ := hl2.shape
 have HL := hide hl2
 have HB2 := hide hb2
 clear hl2 hb2 HR1
 go_wp2
 go_ret
 exact ⟨_, rfl, unhide HL, unhide HB2⟩
theorem root_pos {L : List Int} (hf : Fine L) {s : ByteArray} {x : Int} (hm : (s, x) ∈ rootsK L 8) : 1 <= x := by
 obtain ⟨i, hi, hr, e⟩ := mem_rootsK_iff.1 hm
 have h2 : (rowAt L i).getD 10 0 = x := congrArg Prod.snd e
 rw [<- h2]
 exact (lead_obj hf hi hr).1
section
variable {w : World} {B p g c : Nat} {L : List Int}
end
section
variable {w : World} {B p g c : Nat} {L : List Int}
set_option maxHeartbeats 1000000 in
theorem roPut_yes (h : Hp w B p g c L) (hB : B <= w.heap.size) (i : Nat) (r : (ByteArray × Int)) (hs : r.1.size <= 140737488351232) (h0 : prE L i r = 0) (hf : Fine (prL L i r)) :
  Calls Tryz.prog 94 #[.pointer (some ⟨p, 0, none⟩), .int .i64 i, .agg #[.string r.1, .int .i64 r.2]] w fun e w' => e = .returned .nilIface /\ ∃ g' c', Hp w' B p g' c' (prL L i r) /\ Turn (foot p g) (foot p g') w w' := by
 have hB0 : Below w.heap.size w (w.alloc (.cells #[.string r.1, .int .i64 r.2] 76)) := (Below.refl _ _).alloc (Nat.le_refl _) _
 have hbyt := h.byt
 have hlen := h.len
 have hpl := prL_len h0
 have hc0 : (w.alloc (.cells #[.string r.1, .int .i64 r.2] 76)).cell? ⟨w.heap.size, 0, none⟩ = some (.string r.1) := by rw [cell_of_row _ _ _ _ _ _ (heap_alloc_new w _)]; rfl
 have hc1 : (w.alloc (.cells #[.string r.1, .int .i64 r.2] 76)).cell? ⟨w.heap.size, 1, none⟩ = some (.int .i64 r.2) := by rw [cell_of_row _ _ _ _ _ _ (heap_alloc_new w _)]; rfl
 have HBY := hide (fun (W : World) (hW : Below w.heap.size w W) => hBytes_any p g c B L W (h.below hW))
 have HPR : Hid (∀ (W W' : World) a' c', Below w.heap.size w W -> OwnV W W'.heap.size (.slice a' L.length c') L -> Calls Tryz.prog 129 #[.slice a' L.length c', .int .i64 i, .agg #[.string r.1, .int .i64 r.2]] W fun e w' => ∃ a2 c2, e = .returned (.tuple #[.slice a2 L.length c2, .nilIface]) /\ Bs w' a2 c2 (prL L i r) /\ Below w.heap.size w w' /\ Below W.heap.size W w') := hide (fun W W' a' c' hW hO => by
  obtain ⟨a2, c2, e2, hb2⟩ := hO.bs hbyt (by omega)
  simp only [Value.slice.injEq, true_and] at e2
  obtain ⟨rfl, rfl⟩ := e2
  have := iPutRoot_any a' c' L i r W hb2 hs
  rw [h0, errV_zero] at this
  refine this.mono ?_
  rintro e w' ⟨a3, c3, rfl, hb3, hb⟩
  exact ⟨a3, c3, by rw [hpl], hb3, hW.trans (hb.mono hW.size), hb⟩)
 have HRP : Hid (∀ W a2 c2, Below w.heap.size w W -> Bs W a2 c2 (prL L i r) -> Calls Tryz.prog 96 #[.pointer (some ⟨p, 0, none⟩), .slice a2 L.length c2] W fun e w' => e = .returned .nilIface /\ ∃ g' c', Hp w' B p g' c' (prL L i r) /\ Turn (foot p g) (foot p g') w w') := hide (fun W a2 c2 hW hb => by
  have := hReplace_yes (h.below hW) (Nat.le_trans hB hW.size) hb hf hpl
  rw [hpl] at this
  refine this.mono ?_
  rintro e w' ⟨rfl, g', c', hh, ht⟩
  exact ⟨rfl, g', c', hh, (Turn.of_below hW).trans ht⟩)
 have HB0 := hide hB0
 obtain ⟨rs, rh⟩ := r
 dsimp only at *
 clear h hf h0 hbyt hpl hB
 generalize prL L i (rs, rh) = PL at *
 generalize L.length = N at *
 go_enter Tryz.func94, Tryz.ntmps94
 go_wp2_with fail
 generalize hwx : w.alloc (.cells #[.string rs, .int .i64 rh] 76) = wx at *
 have HBY1 : Hid (Calls Tryz.prog 15 #[.pointer (some ⟨p, 0, none⟩)] wx.drew fun e w' => ∃ a' c', e = .returned (.slice a' N c') /\ w'.cell? ⟨w.heap.size, 0, none⟩ = some (.string rs) /\ w'.cell? ⟨w.heap.size, 1, none⟩ = some (.int .i64 rh) /\ Hid (Calls Tryz.prog 129 #[.slice a' N c', .int .i64 i, .agg #[.string rs, .int .i64 rh]] w' fun e w' => ∃ a2 c2, e = .returned (.tuple #[.slice a2 N c2, .nilIface]) /\ w'.cell? ⟨w.heap.size, 0, none⟩ = some (.string rs) /\ w'.cell? ⟨w.heap.size, 1, none⟩ = some (.int .i64 rh) /\ Hid (Bs w' a2 c2 PL /\ Below w.heap.size w w'))) := hide (by
  have hd := below_drew (unhide HB0)
  refine (unhide HBY wx.drew hd).mono ?_
  rintro e w1 ⟨a', c', rfl, ho, hb1⟩
  have hB1 := hd.trans (hb1.mono hd.size)
  have hq0 := (hb1.cell (p := ⟨w.heap.size, 0, none⟩) (block_lt_of_cell hc0)).trans hc0
  have hq1 := (hb1.cell (p := ⟨w.heap.size, 1, none⟩) (block_lt_of_cell hc1)).trans hc1
  refine ⟨a', c', rfl, hq0, hq1, hide ((unhide HPR w1 wx.drew a' c' hB1 ho).mono ?_)⟩
  rintro e w2 ⟨a2, c2, rfl, hbs2, hb2, hbw⟩
  exact ⟨a2, c2, rfl, (hbw.cell (p := ⟨w.heap.size, 0, none⟩) (block_lt_of_cell hq0)).trans hq0, (hbw.cell (p := ⟨w.heap.size, 1, none⟩) (block_lt_of_cell hq1)).trans hq1, hide ⟨hbs2, hb2⟩⟩)
 clear HBY HPR hB0 HB0
 go_region_held3 (fun w' => w'.cell? ⟨w.heap.size, 0, none⟩ = some (.string rs) /\ w'.cell? ⟨w.heap.size, 1, none⟩ = some (.int .i64 rh)) (first | go_keep | (go_split_ands; refine ⟨?_, ?_⟩ <;> go_keep))
  (first | (go_at_call 15; refine (unhide HBY1).mono ?_; rintro e w1 ⟨a', c', rfl, r0, r1, HP1⟩) | (go_at_call 129; refine (unhide HP1).mono ?_; rintro e w2 ⟨a2, c2, rfl, s0, s1, HX2⟩))
 have HRP2 := hide (unhide HRP w2 a2 c2 (unhide HX2).2 (unhide HX2).1)
 clear HX2 HRP s0 s1 r0 r1 HBY1 HP1
 go_wp2_with fail
 refine (unhide HRP2).mono ?_
 rintro e w3 ⟨rfl, g', c', hh, ht⟩
 have HH := hide hh
 have HT := hide ht
 clear hh ht HRP2
 go_wp2
 go_ret
 exact ⟨rfl, g', c', unhide HH, unhide HT⟩
theorem set_name (p : Nat) (s : ByteArray) (x : Int) (w : World) (hn : nameB s = false) (hs : s.size <= 140737488351232) :
  Calls Tryz.prog 45 #[.pointer (some ⟨p, 0, none⟩), .string s, .int .i64 x] w fun e w' => e = .returned (.tuple #[.bool false, errV 2]) /\ Below w.heap.size w w' := by
 have HP := hide (putName_fail s w hs (fun h => by rw [nameB_iff.2 h] at hn; cases hn))
 rw [errV_pos 2 (by decide)]
 clear hn
 go_enter Tryz.func45, Tryz.ntmps45
 go_wp2_with fail
 refine (unhide HP).mono ?_
 rintro e w1 ⟨rfl, hb1⟩
 have HB1 := hide hb1
 clear hb1 HP
 go_wp2
 go_ret2
 exact ⟨rfl, unhide HB1⟩
theorem set_obj (h : Hp w B p g c L) (s : ByteArray) (x : Int) (hn : nameB s = true) (hs : s.size <= 140737488351232) (hc : chkE L x ≠ 0) :
  Calls Tryz.prog 45 #[.pointer (some ⟨p, 0, none⟩), .string s, .int .i64 x] w fun e w' => e = .returned (.tuple #[.bool false, errV (chkE L x)]) /\ Below w.heap.size w w' := by
 have HP := hide (putName_any s w hs (nameL s) 0 (.inl ⟨nameB_iff.1 hn, rfl, rfl⟩))
 rw [errV_zero] at HP
 have HT := hide (fun (W : World) (hW : Below w.heap.size w W) => hTag_any p g c B L x W (h.below hW))
 rw [errV_pos _ hc] at HT ⊢
 clear hn h hc
 generalize (getE L x).2.2.2 = T at *
 generalize chkE L x = X at *
 generalize nameL s = NL at *
 go_enter Tryz.func45, Tryz.ntmps45
 go_wp2_with fail
 refine (unhide HP).mono ?_
 rintro e w1 ⟨a1, c1, rfl, _, hb1⟩
 have HT1 := hide (unhide HT w1 hb1)
 have HB1 := hide hb1
 clear hb1 HP HT
 go_wp2_with fail
 refine (unhide HT1).mono ?_
 rintro e w2 ⟨rfl, hb2⟩
 have HB2 := hide ((unhide HB1).trans (hb2.mono (unhide HB1).size))
 clear hb2 HT1 HB1
 go_wp2
 go_ret2
 exact ⟨rfl, unhide HB2⟩
set_option maxHeartbeats 2000000 in
theorem set_there (h : Hp w B p g c L) (hB : B <= w.heap.size) (s : ByteArray) (x : Int) (hn : nameB s = true) (hs : s.size <= 140737488351232) (hc : chkE L x = 0) (hp : plR L s < 8) :
  Calls Tryz.prog 45 #[.pointer (some ⟨p, 0, none⟩), .string s, .int .i64 x] w fun e w' => e = .returned (.tuple #[.bool false, .nilIface]) /\ ∃ g' c', Hp w' B p g' c' (seB L s x) /\ Turn (foot p g) (foot p g') w w' := by
 have hn8 : (nameL s).length = 8 := length_nameL s (nameB_iff.1 hn).2.1
 have HP : Hid (Calls Tryz.prog 90 #[.string s] w fun e w' => ∃ a c, e = .returned (.tuple #[.slice a 8 c, .nilIface]) /\ Bs w' a c (nameL s) /\ Below w.heap.size w w') := hide (by
  have := putName_any s w hs (nameL s) 0 (.inl ⟨nameB_iff.1 hn, rfl, rfl⟩)
  rw [errV_zero] at this
  exact this.mono fun e w' ⟨a, c, he, hb, hw⟩ => ⟨a, c, by rw [he, hn8], hb, hw⟩)
 have HT := hide (fun (W : World) (hW : Below w.heap.size w W) => hTag_any p g c B L x W (h.below hW))
 rw [hc, errV_zero] at HT
 have HBY := hide (fun (W : World) (hW : Below w.heap.size w W) => hBytes_any p g c B L W (h.below hW))
 have hlen := h.len
 have hbyt := h.byt
 have HPL : Hid (∀ (W : World) (la a' : Option Addr) (lc c' : Nat), Bs W la lc (nameL s) -> Bs W a' c' L -> Calls Tryz.prog 92 #[.slice a' L.length c', .slice la 8 lc] W fun e w' => e = .returned (.tuple #[.int .i64 (plR L s), .bool true]) /\ Below W.heap.size W w') := hide (fun W la a' lc c' h1 h2 => by
  have := roPlace_any a' la c' lc L (nameL s) W h2 h1 hn8 hlen.1 hlen.2.1
  rw [plL_name hbyt hn, show pgI (plR L s) = (plR L s : Int) from if_neg (by omega), decide_eq_true hp] at this
  exact this)
 have hI : seI L s = plR L s := by unfold seI; rw [if_pos hp]
 have h0 : seE L s x = 0 := by unfold seE; rw [if_neg (by rw [hn]; simp), if_neg (fun h => h hc), hI, if_neg (by omega)]
 obtain ⟨g1, g2, _, _⟩ := se_put h.fine h0
 obtain ⟨k1, k2⟩ := se_img h.fine h0
 have HPUT : Hid (∀ W, Below w.heap.size w W -> Calls Tryz.prog 94 #[.pointer (some ⟨p, 0, none⟩), .int .i64 (plR L s), .agg #[.string s, .int .i64 x]] W fun e w' => e = .returned .nilIface /\ ∃ g' c', Hp w' B p g' c' (seB L s x) /\ Turn (foot p g) (foot p g') w w') := hide (fun W hW => by
  rw [hI] at g1 k1 k2
  have := roPut_yes (h.below hW) (Nat.le_trans hB hW.size) (plR L s) (s, x) hs g1 k2
  rw [k1] at this
  refine this.mono ?_
  rintro e w' ⟨rfl, g', c', hh, ht⟩
  exact ⟨rfl, g', c', hh, (Turn.of_below hW).trans ht⟩)
 clear g1 g2 k1 k2 h0 hI
 have HOB : Hid (∀ (W : World) (D : Nat) (a' : Option Addr) (c' : Nat), OwnV W D (.slice a' L.length c') L -> Bs W a' c' L) := hide (fun W D a' c' ho => by
  obtain ⟨a2, c2, e2, hb2⟩ := ho.bs hbyt (by omega)
  simp only [Value.slice.injEq, true_and] at e2
  obtain ⟨rfl, rfl⟩ := e2
  exact hb2)
 clear h hn hc hB hbyt hn8 hp
 generalize (getE L x).2.2.2 = T at *
 generalize nameL s = NL at *
 generalize seB L s x = SB at *
 generalize plR L s = P at *
 generalize L.length = N at *
 go_enter Tryz.func45, Tryz.ntmps45
 go_wp2_with fail
 refine (unhide HP).mono ?_
 rintro e w1 ⟨a1, c1, rfl, hbs1, hb1⟩
 have HT1 := hide (unhide HT w1 hb1)
 have HL1 := hide hbs1
 have HB1 := hide hb1
 clear hb1 hbs1 HP HT
 go_wp2_with fail
 refine (unhide HT1).mono ?_
 rintro e w2 ⟨rfl, hb2⟩
 have hB2 := (unhide HB1).trans (hb2.mono (unhide HB1).size)
 have HL2 := hide ((unhide HL1).below hb2)
 have HBY2 := hide (unhide HBY w2 hB2)
 have HB2 := hide hB2
 clear hb2 hB2 HT1 HB1 HL1 HBY
 go_wp2_with fail
 refine (unhide HBY2).mono ?_
 rintro e w3 ⟨a3, c3, rfl, ho3, hb3⟩
 have hbs3 := unhide HOB w3 _ a3 c3 ho3
 have HPL3 := hide (unhide HPL w3 a1 a3 c1 c3 ((unhide HL2).below hb3) hbs3)
 have HS3 := hide hbs3
 have HB3 := hide ((unhide HB2).trans (hb3.mono (unhide HB2).size))
 clear ho3 hbs3 hb3 HBY2 HB2 HL2 HPL HOB
 go_wp2_with fail
 refine (unhide HPL3).mono ?_
 rintro e w4 ⟨rfl, hb4⟩
 have hB4 := (unhide HB3).trans (hb4.mono (unhide HB3).size)
 have HPUT5 := hide (unhide HPUT w4 hB4)
 clear hb4 hB4 HPL3 HB3 HS3 HPUT
 go_wp2_with fail
 refine (unhide HPUT5).mono ?_
 rintro e w5 ⟨rfl, g', c', hh, ht⟩
 have HH := hide hh
 have HTN := hide ht
 clear hh ht HPUT5
 go_wp2
 go_ret2
 exact ⟨rfl, g', c', unhide HH, unhide HTN⟩
set_option maxHeartbeats 2000000 in
theorem set_new (h : Hp w B p g c L) (hB : B <= w.heap.size) (s : ByteArray) (x : Int) (hn : nameB s = true) (hs : s.size <= 140737488351232) (hc : chkE L x = 0) (hp : plR L s = 8) (hf : frR L < 8) :
  Calls Tryz.prog 45 #[.pointer (some ⟨p, 0, none⟩), .string s, .int .i64 x] w fun e w' => e = .returned (.tuple #[.bool true, .nilIface]) /\ ∃ g' c', Hp w' B p g' c' (seB L s x) /\ Turn (foot p g) (foot p g') w w' := by
 have hn8 : (nameL s).length = 8 := length_nameL s (nameB_iff.1 hn).2.1
 have HP : Hid (Calls Tryz.prog 90 #[.string s] w fun e w' => ∃ a c, e = .returned (.tuple #[.slice a 8 c, .nilIface]) /\ Bs w' a c (nameL s) /\ Below w.heap.size w w') := hide (by
  have := putName_any s w hs (nameL s) 0 (.inl ⟨nameB_iff.1 hn, rfl, rfl⟩)
  rw [errV_zero] at this
  exact this.mono fun e w' ⟨a, c, he, hb, hw⟩ => ⟨a, c, by rw [he, hn8], hb, hw⟩)
 have HT := hide (fun (W : World) (hW : Below w.heap.size w W) => hTag_any p g c B L x W (h.below hW))
 rw [hc, errV_zero] at HT
 have HBY := hide (fun (W : World) (hW : Below w.heap.size w W) => hBytes_any p g c B L W (h.below hW))
 have hlen := h.len
 have hbyt := h.byt
 have HPL : Hid (∀ (W : World) (la a' : Option Addr) (lc c' : Nat), Bs W la lc (nameL s) -> Bs W a' c' L -> Calls Tryz.prog 92 #[.slice a' L.length c', .slice la 8 lc] W fun e w' => e = .returned (.tuple #[.int .i64 0, .bool false]) /\ Below W.heap.size W w') := hide (fun W la a' lc c' h1 h2 => by
  have := roPlace_any a' la c' lc L (nameL s) W h2 h1 hn8 hlen.1 hlen.2.1
  rw [plL_name hbyt hn, show pgI (plR L s) = 0 from if_pos hp, decide_eq_false (show ¬ plR L s < 8 by omega)] at this
  exact this)
 have HFN : Hid (∀ (W : World) (a' : Option Addr) (c' : Nat), Bs W a' c' L -> Calls Tryz.prog 93 #[.slice a' L.length c'] W fun e w' => e = .returned (.tuple #[.int .i64 (frR L), .nilIface]) /\ Below W.heap.size W w') := hide (fun W a' c' hb => by
  have := firstNone_any a' c' L W hb h.fine
  rw [show pgI (frR L) = (frR L : Int) from if_neg (by omega), if_neg (by omega), errV_zero] at this
  exact this)
 have hI : seI L s = frR L := by unfold seI; rw [if_neg (by omega)]
 have h0 : seE L s x = 0 := by unfold seE; rw [if_neg (by rw [hn]; simp), if_neg (fun h => h hc), hI, if_neg (by omega)]
 obtain ⟨g1, g2, _, _⟩ := se_put h.fine h0
 obtain ⟨k1, k2⟩ := se_img h.fine h0
 have HPUT : Hid (∀ W, Below w.heap.size w W -> Calls Tryz.prog 94 #[.pointer (some ⟨p, 0, none⟩), .int .i64 (frR L), .agg #[.string s, .int .i64 x]] W fun e w' => e = .returned .nilIface /\ ∃ g' c', Hp w' B p g' c' (seB L s x) /\ Turn (foot p g) (foot p g') w w') := hide (fun W hW => by
  rw [hI] at g1 k1 k2
  have := roPut_yes (h.below hW) (Nat.le_trans hB hW.size) (frR L) (s, x) hs g1 k2
  rw [k1] at this
  refine this.mono ?_
  rintro e w' ⟨rfl, g', c', hh, ht⟩
  exact ⟨rfl, g', c', hh, (Turn.of_below hW).trans ht⟩)
 clear g1 g2 k1 k2 h0 hI
 have HOB : Hid (∀ (W : World) (D : Nat) (a' : Option Addr) (c' : Nat), OwnV W D (.slice a' L.length c') L -> Bs W a' c' L) := hide (fun W D a' c' ho => by
  obtain ⟨a2, c2, e2, hb2⟩ := ho.bs hbyt (by omega)
  simp only [Value.slice.injEq, true_and] at e2
  obtain ⟨rfl, rfl⟩ := e2
  exact hb2)
 clear h hn hc hB hbyt hn8 hp hf
 generalize (getE L x).2.2.2 = T at *
 generalize nameL s = NL at *
 generalize seB L s x = SB at *
 generalize frR L = P at *
 generalize L.length = N at *
 go_enter Tryz.func45, Tryz.ntmps45
 go_wp2_with fail
 refine (unhide HP).mono ?_
 rintro e w1 ⟨a1, c1, rfl, hbs1, hb1⟩
 have HT1 := hide (unhide HT w1 hb1)
 have HL1 := hide hbs1
 have HB1 := hide hb1
 clear hb1 hbs1 HP HT
 go_wp2_with fail
 refine (unhide HT1).mono ?_
 rintro e w2 ⟨rfl, hb2⟩
 have hB2 := (unhide HB1).trans (hb2.mono (unhide HB1).size)
 have HL2 := hide ((unhide HL1).below hb2)
 have HBY2 := hide (unhide HBY w2 hB2)
 have HB2 := hide hB2
 clear hb2 hB2 HT1 HB1 HL1 HBY
 go_wp2_with fail
 refine (unhide HBY2).mono ?_
 rintro e w3 ⟨a3, c3, rfl, ho3, hb3⟩
 have hbs3 := unhide HOB w3 _ a3 c3 ho3
 have HPL3 := hide (unhide HPL w3 a1 a3 c1 c3 ((unhide HL2).below hb3) hbs3)
 have HS3 := hide hbs3
 have HB3 := hide ((unhide HB2).trans (hb3.mono (unhide HB2).size))
 clear ho3 hbs3 hb3 HBY2 HB2 HL2 HPL HOB
 go_wp2_with fail
 refine (unhide HPL3).mono ?_
 rintro e w4 ⟨rfl, hb4⟩
 have hB4 := (unhide HB3).trans (hb4.mono (unhide HB3).size)
 have HFN4 := hide (unhide HFN w4 a3 c3 ((unhide HS3).below hb4))
 have HB4 := hide hB4
 clear hb4 hB4 HPL3 HB3 HS3 HFN
 go_wp2_with fail
 refine (unhide HFN4).mono ?_
 rintro e w5 ⟨rfl, hb5⟩
 have HPUT6 := hide (unhide HPUT w5 ((unhide HB4).trans (hb5.mono (unhide HB4).size)))
 clear hb5 HFN4 HB4 HPUT
 go_wp2_with fail
 refine (unhide HPUT6).mono ?_
 rintro e w6 ⟨rfl, g', c', hh, ht⟩
 have HH := hide hh
 have HTN := hide ht
 clear hh ht HPUT6
 go_wp2
 go_ret2
 exact ⟨rfl, g', c', unhide HH, unhide HTN⟩
set_option maxHeartbeats 2000000 in
theorem set_full (h : Hp w B p g c L) (hB : B <= w.heap.size) (s : ByteArray) (x : Int) (hn : nameB s = true) (hs : s.size <= 140737488351232) (hc : chkE L x = 0) (hp : plR L s = 8) (hf : frR L = 8) :
  Calls Tryz.prog 45 #[.pointer (some ⟨p, 0, none⟩), .string s, .int .i64 x] w fun e w' => e = .returned (.tuple #[.bool false, errV 4]) /\ Below w.heap.size w w' := by
 have hn8 : (nameL s).length = 8 := length_nameL s (nameB_iff.1 hn).2.1
 have HP : Hid (Calls Tryz.prog 90 #[.string s] w fun e w' => ∃ a c, e = .returned (.tuple #[.slice a 8 c, .nilIface]) /\ Bs w' a c (nameL s) /\ Below w.heap.size w w') := hide (by
  have := putName_any s w hs (nameL s) 0 (.inl ⟨nameB_iff.1 hn, rfl, rfl⟩)
  rw [errV_zero] at this
  exact this.mono fun e w' ⟨a, c, he, hb, hw⟩ => ⟨a, c, by rw [he, hn8], hb, hw⟩)
 have HT := hide (fun (W : World) (hW : Below w.heap.size w W) => hTag_any p g c B L x W (h.below hW))
 rw [hc, errV_zero] at HT
 have HBY := hide (fun (W : World) (hW : Below w.heap.size w W) => hBytes_any p g c B L W (h.below hW))
 have hlen := h.len
 have hbyt := h.byt
 have HPL : Hid (∀ (W : World) (la a' : Option Addr) (lc c' : Nat), Bs W la lc (nameL s) -> Bs W a' c' L -> Calls Tryz.prog 92 #[.slice a' L.length c', .slice la 8 lc] W fun e w' => e = .returned (.tuple #[.int .i64 0, .bool false]) /\ Below W.heap.size W w') := hide (fun W la a' lc c' h1 h2 => by
  have := roPlace_any a' la c' lc L (nameL s) W h2 h1 hn8 hlen.1 hlen.2.1
  rw [plL_name hbyt hn, show pgI (plR L s) = 0 from if_pos hp, decide_eq_false (show ¬ plR L s < 8 by omega)] at this
  exact this)
 have HFN : Hid (∀ (W : World) (a' : Option Addr) (c' : Nat), Bs W a' c' L -> Calls Tryz.prog 93 #[.slice a' L.length c'] W fun e w' => e = .returned (.tuple #[.int .i64 0, .iface 64 (.int .i64 4)]) /\ Below W.heap.size W w') := hide (fun W a' c' hb => by
  have := firstNone_any a' c' L W hb h.fine
  rw [show pgI (frR L) = 0 from if_pos hf, if_pos hf, errV_pos 4 (by decide)] at this
  exact this)
 rw [errV_pos 4 (by decide)]
 have HOB : Hid (∀ (W : World) (D : Nat) (a' : Option Addr) (c' : Nat), OwnV W D (.slice a' L.length c') L -> Bs W a' c' L) := hide (fun W D a' c' ho => by
  obtain ⟨a2, c2, e2, hb2⟩ := ho.bs hbyt (by omega)
  simp only [Value.slice.injEq, true_and] at e2
  obtain ⟨rfl, rfl⟩ := e2
  exact hb2)
 clear h hn hc hB hbyt hn8 hp hf
 generalize (getE L x).2.2.2 = T at *
 generalize nameL s = NL at *
 generalize L.length = N at *
 go_enter Tryz.func45, Tryz.ntmps45
 go_wp2_with fail
 refine (unhide HP).mono ?_
 rintro e w1 ⟨a1, c1, rfl, hbs1, hb1⟩
 have HT1 := hide (unhide HT w1 hb1)
 have HL1 := hide hbs1
 have HB1 := hide hb1
 clear hb1 hbs1 HP HT
 go_wp2_with fail
 refine (unhide HT1).mono ?_
 rintro e w2 ⟨rfl, hb2⟩
 have hB2 := (unhide HB1).trans (hb2.mono (unhide HB1).size)
 have HL2 := hide ((unhide HL1).below hb2)
 have HBY2 := hide (unhide HBY w2 hB2)
 have HB2 := hide hB2
 clear hb2 hB2 HT1 HB1 HL1 HBY
 go_wp2_with fail
 refine (unhide HBY2).mono ?_
 rintro e w3 ⟨a3, c3, rfl, ho3, hb3⟩
 have hbs3 := unhide HOB w3 _ a3 c3 ho3
 have HPL3 := hide (unhide HPL w3 a1 a3 c1 c3 ((unhide HL2).below hb3) hbs3)
 have HS3 := hide hbs3
 have HB3 := hide ((unhide HB2).trans (hb3.mono (unhide HB2).size))
 clear ho3 hbs3 hb3 HBY2 HB2 HL2 HPL HOB
 go_wp2_with fail
 refine (unhide HPL3).mono ?_
 rintro e w4 ⟨rfl, hb4⟩
 have hB4 := (unhide HB3).trans (hb4.mono (unhide HB3).size)
 have HFN4 := hide (unhide HFN w4 a3 c3 ((unhide HS3).below hb4))
 have HB4 := hide hB4
 clear hb4 hB4 HPL3 HB3 HS3 HFN
 go_wp2_with fail
 refine (unhide HFN4).mono ?_
 rintro e w5 ⟨rfl, hb5⟩
 have HB5 := hide ((unhide HB4).trans (hb5.mono (unhide HB4).size))
 clear hb5 HFN4 HB4
 go_wp2
 go_ret2
 exact ⟨rfl, unhide HB5⟩
theorem roSet_any (h : Hp w B p g c L) (hB : B <= w.heap.size) (s : ByteArray) (x : Int) (hs : s.size <= 140737488351232) :
  Calls Tryz.prog 45 #[.pointer (some ⟨p, 0, none⟩), .string s, .int .i64 x] w fun e w' => e = .returned (.tuple #[.bool (seO L s x), errV (seE L s x)]) /\ ∃ g' c', Hp w' B p g' c' (seF L s x) /\ Turn (foot p g) (foot p g') w w' := by
 have key : ∀ E : Int, E ≠ 0 -> seE L s x = E -> Calls Tryz.prog 45 #[.pointer (some ⟨p, 0, none⟩), .string s, .int .i64 x] w (fun e w' => e = .returned (.tuple #[.bool false, errV E]) /\ Below w.heap.size w w') -> Calls Tryz.prog 45 #[.pointer (some ⟨p, 0, none⟩), .string s, .int .i64 x] w fun e w' => e = .returned (.tuple #[.bool (seO L s x), errV (seE L s x)]) /\ ∃ g' c', Hp w' B p g' c' (seF L s x) /\ Turn (foot p g) (foot p g') w w' := fun E hE he hcall => by
  have e1 : seO L s x = false := by unfold seO; rw [he, decide_eq_false hE]; rfl
  have e2 : seF L s x = L := by unfold seF; rw [he, if_neg hE]
  rw [e1, e2, he]
  refine hcall.mono ?_
  rintro e w' ⟨rfl, hb⟩
  exact ⟨rfl, g, c, h.below hb, Turn.of_below hb⟩
 cases hn : nameB s with
 | false => exact key 2 (by decide) (by unfold seE; rw [hn]; rfl) (set_name p s x w hn hs)
 | true =>
  by_cases hc : chkE L x = 0
  ·have hle := plR_le L s
   have hlf := frR_le L
   by_cases hp : plR L s < 8
   ·have hI : seI L s = plR L s := by unfold seI; rw [if_pos hp]
    have h0 : seE L s x = 0 := by unfold seE; rw [if_neg (by rw [hn]; simp), if_neg (fun h => h hc), hI, if_neg (by omega)]
    have e1 : seO L s x = false := by unfold seO seN; rw [decide_eq_false (show ¬ plR L s = 8 by omega), Bool.and_false]
    have e2 : seF L s x = seB L s x := by unfold seF; rw [if_pos h0]
    rw [e1, e2, h0, errV_zero]
    exact set_there h hB s x hn hs hc hp
   ·have hp8 : plR L s = 8 := by omega
    have hI : seI L s = frR L := by unfold seI; rw [if_neg hp]
    by_cases hf : frR L < 8
    ·have h0 : seE L s x = 0 := by unfold seE; rw [if_neg (by rw [hn]; simp), if_neg (fun h => h hc), hI, if_neg (by omega)]
     have e1 : seO L s x = true := by unfold seO seN; rw [decide_eq_true hp8, decide_eq_true h0]; rfl
     have e2 : seF L s x = seB L s x := by unfold seF; rw [if_pos h0]
     rw [e1, e2, h0, errV_zero]
     exact set_new h hB s x hn hs hc hp8 hf
    ·have hf8 : frR L = 8 := by omega
     exact key 4 (by decide) (by unfold seE; rw [if_neg (by rw [hn]; simp), if_neg (fun h => h hc), hI, if_pos hf8]) (set_full h hB s x hn hs hc hp8 hf8)
  ·exact key _ hc (by unfold seE; rw [if_neg (by rw [hn]; simp), if_pos hc]) (set_obj h s x hn hs hc)
end
section
variable {w : World} {B p g c : Nat} {L : List Int}
theorem unset_name (p : Nat) (s : ByteArray) (w : World) (hn : nameB s = false) (hs : s.size <= 140737488351232) :
  Calls Tryz.prog 46 #[.pointer (some ⟨p, 0, none⟩), .string s] w fun e w' => e = .returned (errV 2) /\ Below w.heap.size w w' := by
 have HP := hide (putName_fail s w hs (fun h => by rw [nameB_iff.2 h] at hn; cases hn))
 rw [errV_pos 2 (by decide)]
 clear hn
 go_enter Tryz.func46, Tryz.ntmps46
 go_wp2_with fail
 refine (unhide HP).mono ?_
 rintro e w1 ⟨rfl, hb1⟩
 have HB1 := hide hb1
 clear hb1 HP
 go_wp2
 go_ret
 exact ⟨rfl, unhide HB1⟩
set_option maxHeartbeats 2000000 in
theorem unset_no (h : Hp w B p g c L) (hB : B <= w.heap.size) (s : ByteArray) (hn : nameB s = true) (hs : s.size <= 140737488351232) (hp : plR L s = 8) :
  Calls Tryz.prog 46 #[.pointer (some ⟨p, 0, none⟩), .string s] w fun e w' => e = .returned (errV 5) /\ Below w.heap.size w w' := by
 have hn8 : (nameL s).length = 8 := length_nameL s (nameB_iff.1 hn).2.1
 have HP : Hid (Calls Tryz.prog 90 #[.string s] w fun e w' => ∃ a c, e = .returned (.tuple #[.slice a 8 c, .nilIface]) /\ Bs w' a c (nameL s) /\ Below w.heap.size w w') := hide (by
  have := putName_any s w hs (nameL s) 0 (.inl ⟨nameB_iff.1 hn, rfl, rfl⟩)
  rw [errV_zero] at this
  exact this.mono fun e w' ⟨a, c, he, hb, hw⟩ => ⟨a, c, by rw [he, hn8], hb, hw⟩)
 have HBY := hide (fun (W : World) (hW : Below w.heap.size w W) => hBytes_any p g c B L W (h.below hW))
 have hlen := h.len
 have hbyt := h.byt
 have HPL : Hid (∀ (W : World) (la a' : Option Addr) (lc c' : Nat), Bs W la lc (nameL s) -> Bs W a' c' L -> Calls Tryz.prog 92 #[.slice a' L.length c', .slice la 8 lc] W fun e w' => e = .returned (.tuple #[.int .i64 0, .bool false]) /\ Below W.heap.size W w') := hide (fun W la a' lc c' h1 h2 => by
  have := roPlace_any a' la c' lc L (nameL s) W h2 h1 hn8 hlen.1 hlen.2.1
  rw [plL_name hbyt hn, show pgI (plR L s) = 0 from if_pos hp, decide_eq_false (show ¬ plR L s < 8 by omega)] at this
  exact this)
 rw [errV_pos 5 (by decide)]
 have HOB : Hid (∀ (W : World) (D : Nat) (a' : Option Addr) (c' : Nat), OwnV W D (.slice a' L.length c') L -> Bs W a' c' L) := hide (fun W D a' c' ho => by
  obtain ⟨a2, c2, e2, hb2⟩ := ho.bs hbyt (by omega)
  simp only [Value.slice.injEq, true_and] at e2
  obtain ⟨rfl, rfl⟩ := e2
  exact hb2)
 clear h hn hB hbyt hn8 hp
 generalize nameL s = NL at *
 generalize L.length = N at *
 go_enter Tryz.func46, Tryz.ntmps46
 go_wp2_with fail
 refine (unhide HP).mono ?_
 rintro e w1 ⟨a1, c1, rfl, hbs1, hb1⟩
 have HBY2 := hide (unhide HBY w1 hb1)
 have HL2 := hide hbs1
 have HB2 := hide hb1
 clear hb1 hbs1 HP HBY
 go_wp2_with fail
 refine (unhide HBY2).mono ?_
 rintro e w3 ⟨a3, c3, rfl, ho3, hb3⟩
 have hbs3 := unhide HOB w3 _ a3 c3 ho3
 have HPL3 := hide (unhide HPL w3 a1 a3 c1 c3 ((unhide HL2).below hb3) hbs3)
 have HB3 := hide ((unhide HB2).trans (hb3.mono (unhide HB2).size))
 clear ho3 hbs3 hb3 HBY2 HB2 HL2 HPL HOB
 go_wp2_with fail
 refine (unhide HPL3).mono ?_
 rintro e w4 ⟨rfl, hb4⟩
 have hB4 := (unhide HB3).trans (hb4.mono (unhide HB3).size)
 have HB4 := hide hB4
 clear hb4 hB4 HPL3 HB3
 go_wp2
 go_ret
 exact ⟨rfl, unhide HB4⟩
set_option maxHeartbeats 2000000 in
theorem unset_yes (h : Hp w B p g c L) (hB : B <= w.heap.size) (s : ByteArray) (hn : nameB s = true) (hs : s.size <= 140737488351232) (hp : plR L s < 8) :
  Calls Tryz.prog 46 #[.pointer (some ⟨p, 0, none⟩), .string s] w fun e w' => e = .returned .nilIface /\ ∃ g' c', Hp w' B p g' c' (unB L s) /\ Turn (foot p g) (foot p g') w w' := by
 have hn8 : (nameL s).length = 8 := length_nameL s (nameB_iff.1 hn).2.1
 have HP : Hid (Calls Tryz.prog 90 #[.string s] w fun e w' => ∃ a c, e = .returned (.tuple #[.slice a 8 c, .nilIface]) /\ Bs w' a c (nameL s) /\ Below w.heap.size w w') := hide (by
  have := putName_any s w hs (nameL s) 0 (.inl ⟨nameB_iff.1 hn, rfl, rfl⟩)
  rw [errV_zero] at this
  exact this.mono fun e w' ⟨a, c, he, hb, hw⟩ => ⟨a, c, by rw [he, hn8], hb, hw⟩)
 have HBY := hide (fun (W : World) (hW : Below w.heap.size w W) => hBytes_any p g c B L W (h.below hW))
 have hlen := h.len
 have hbyt := h.byt
 have HPL : Hid (∀ (W : World) (la a' : Option Addr) (lc c' : Nat), Bs W la lc (nameL s) -> Bs W a' c' L -> Calls Tryz.prog 92 #[.slice a' L.length c', .slice la 8 lc] W fun e w' => e = .returned (.tuple #[.int .i64 (plR L s), .bool true]) /\ Below W.heap.size W w') := hide (fun W la a' lc c' h1 h2 => by
  have := roPlace_any a' la c' lc L (nameL s) W h2 h1 hn8 hlen.1 hlen.2.1
  rw [plL_name hbyt hn, show pgI (plR L s) = (plR L s : Int) from if_neg (by omega), decide_eq_true hp] at this
  exact this)
 have h0 : unE L s = 0 := by unfold unE; rw [if_neg (by rw [hn]; simp), if_neg (by omega)]
 have hfu := un_fine h.fine h0
 obtain ⟨g1, g2⟩ := un_put h.fine hp
 have HPUT : Hid (∀ W, Below w.heap.size w W -> Calls Tryz.prog 94 #[.pointer (some ⟨p, 0, none⟩), .int .i64 (plR L s), .agg #[.string { data := #[] }, .int .i64 0]] W fun e w' => e = .returned .nilIface /\ ∃ g' c', Hp w' B p g' c' (unB L s) /\ Turn (foot p g) (foot p g') w w') := hide (fun W hW => by
  have := roPut_yes (h.below hW) (Nat.le_trans hB hW.size) (plR L s) (({ data := #[] } : ByteArray), 0) (by decide) g1 (by rw [g2]; exact hfu)
  rw [g2] at this
  refine this.mono ?_
  rintro e w' ⟨rfl, g', c', hh, ht⟩
  exact ⟨rfl, g', c', hh, (Turn.of_below hW).trans ht⟩)
 clear g1 g2 h0 hfu
 have HOB : Hid (∀ (W : World) (D : Nat) (a' : Option Addr) (c' : Nat), OwnV W D (.slice a' L.length c') L -> Bs W a' c' L) := hide (fun W D a' c' ho => by
  obtain ⟨a2, c2, e2, hb2⟩ := ho.bs hbyt (by omega)
  simp only [Value.slice.injEq, true_and] at e2
  obtain ⟨rfl, rfl⟩ := e2
  exact hb2)
 clear h hn hB hbyt hn8 hp
 generalize nameL s = NL at *
 generalize unB L s = SB at *
 generalize plR L s = P at *
 generalize L.length = N at *
 go_enter Tryz.func46, Tryz.ntmps46
 go_wp2_with fail
 refine (unhide HP).mono ?_
 rintro e w1 ⟨a1, c1, rfl, hbs1, hb1⟩
 have HBY2 := hide (unhide HBY w1 hb1)
 have HL2 := hide hbs1
 have HB2 := hide hb1
 clear hb1 hbs1 HP HBY
 go_wp2_with fail
 refine (unhide HBY2).mono ?_
 rintro e w3 ⟨a3, c3, rfl, ho3, hb3⟩
 have hbs3 := unhide HOB w3 _ a3 c3 ho3
 have HPL3 := hide (unhide HPL w3 a1 a3 c1 c3 ((unhide HL2).below hb3) hbs3)
 have HB3 := hide ((unhide HB2).trans (hb3.mono (unhide HB2).size))
 clear ho3 hbs3 hb3 HBY2 HB2 HL2 HPL HOB
 go_wp2_with fail
 refine (unhide HPL3).mono ?_
 rintro e w4 ⟨rfl, hb4⟩
 have hB4 := (unhide HB3).trans (hb4.mono (unhide HB3).size)
 have HPUT5 := hide (unhide HPUT w4 hB4)
 clear hb4 hB4 HPL3 HB3 HPUT
 go_wp2_with fail
 refine (unhide HPUT5).mono ?_
 rintro e w5 ⟨rfl, g', c', hh, ht⟩
 have HH := hide hh
 have HTN := hide ht
 clear hh ht HPUT5
 go_wp2
 go_ret
 exact ⟨rfl, g', c', unhide HH, unhide HTN⟩
theorem roUnset_any (h : Hp w B p g c L) (hB : B <= w.heap.size) (s : ByteArray) (hs : s.size <= 140737488351232) :
  Calls Tryz.prog 46 #[.pointer (some ⟨p, 0, none⟩), .string s] w fun e w' => e = .returned (errV (unE L s)) /\ ∃ g' c', Hp w' B p g' c' (unF L s) /\ Turn (foot p g) (foot p g') w w' := by
 have key : ∀ E : Int, E ≠ 0 -> unE L s = E -> Calls Tryz.prog 46 #[.pointer (some ⟨p, 0, none⟩), .string s] w (fun e w' => e = .returned (errV E) /\ Below w.heap.size w w') -> Calls Tryz.prog 46 #[.pointer (some ⟨p, 0, none⟩), .string s] w fun e w' => e = .returned (errV (unE L s)) /\ ∃ g' c', Hp w' B p g' c' (unF L s) /\ Turn (foot p g) (foot p g') w w' := fun E hE he hcall => by
  have e2 : unF L s = L := by unfold unF; rw [he, if_neg hE]
  rw [e2, he]
  refine hcall.mono ?_
  rintro e w' ⟨rfl, hb⟩
  exact ⟨rfl, g, c, h.below hb, Turn.of_below hb⟩
 cases hn : nameB s with
 | false => exact key 2 (by decide) (by unfold unE; rw [hn]; rfl) (unset_name p s w hn hs)
 | true =>
  have hle := plR_le L s
  by_cases hp : plR L s < 8
  ·have h0 : unE L s = 0 := by unfold unE; rw [if_neg (by rw [hn]; simp), if_neg (by omega)]
   have e2 : unF L s = unB L s := by unfold unF; rw [if_pos h0]
   rw [e2, h0, errV_zero]
   exact unset_yes h hB s hn hs hp
  ·have hp8 : plR L s = 8 := by omega
   exact key 5 (by decide) (by unfold unE; rw [if_neg (by rw [hn]; simp), if_pos hp8]) (unset_no h hB s hn hs hp8)
end
end Go.Proofs.YtfbloliakmehbaaGreatDoor
