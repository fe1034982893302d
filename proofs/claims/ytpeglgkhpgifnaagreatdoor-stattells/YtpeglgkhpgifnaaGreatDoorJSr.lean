/-
  Joined by program: StepLst; Fresh; SrA; SrC; SrD. (Parts of the proofs over the packages of the program.)
-/
import Derived.Test.YtpeglgkhpgifnaaGreatDoorJIm
import Derived.Deep.AppendLies
import Derived.Test.YtpeglgkhpgifnaaGreatDoorJNum
import Derived.Test.YtpeglgkhpgifnaaGreatDoorJIr
import Derived.Test.YtpeglgkhpgifnaaGreatDoorJHpc
import Derived.Test.YtpeglgkhpgifnaaGreatDoorJRtp
import Derived.Test.YtpeglgkhpgifnaaGreatDoorJHal
import Derived.Test.YtpeglgkhpgifnaaGreatDoorJTn
import Derived.Test.YtpeglgkhpgifnaaGreatDoorJRx
import Derived.Deep.RegionHeld3
/-! 'append(v, y)' for rows of any struct, as a step of a region that draws its order. (Part of the proofs.) -/
namespace Go.Proofs.YtpeglgkhpgifnaaGreatDoor
open Go.RowKit
set_option linter.unusedVariables false

section
variable {α : Type} {enc : α → List Value} {k T : Nat}
theorem Lst.lowB {w : World} {B B' : Nat} {v : Value} {l : List α} (h : Lst enc k T w B' v l) (hB : B ≤ B') : Lst enc k T w B v l := by
  refine ⟨h.1, ?_⟩
  rcases h.2 with h0 | ⟨g, cap, cur, hv, hb, h3⟩
  · exact .inl h0
  · exact .inr ⟨g, cap, cur, hv, Nat.le_trans hB hb, h3⟩
theorem step_append_lst {P : Program} {w : World} {ops : Array Oper} {o : Oper} {a : Act} {K : Act → World → Prop} {Q : Exit → Act → World → Prop} {E : Prop} (hgd : o.guard = none) (s x : Operand) (t : TypeId)
    (ho : o.op = .call { callee := .builtin .append, args := #[s, x], argTypes := #[t, t] }) (B : Nat) (i0 : TypeInfo) (z : Value) (bytes : Nat)
    (ht : P.underlying t = some (.slice T)) (hi : P.info? T = some i0) (hz : i0.zero = some z) (hsize : i0.size = k) (hby : i0.bytes = bytes) (hzs : z.cells.size = k) (hsz : 0 < k) (hbb : bytes ≤ 100)
    (v : Value) (l : List α) (hs : a.eval s = v) (hown : Lst enc k T w B v l) (g : Nat) (y : α) (hx : a.eval x = .slice (some ⟨g, 0, none⟩) 1 1)
    (hy : w.heap[g]? = some (.cells (enc y).toArray T (0, 0))) (hk : (enc y).length = k) (h1 : ∀ u ∈ enc y, u.oneCell' = true) (hn : l.length ≤ 1000) (hB : B ≤ w.heap.size)
    (h : ∀ g' cap w', Lst enc k T w' B (.slice (some ⟨g', 0, none⟩) (l.length + 1) cap) (l ++ [y]) → Below B w w' → (∀ j, j < w.heap.size → v.ownBlock ≠ some j → w'.heap[j]? = w.heap[j]?) → K (a.put o.dst (.slice (some ⟨g', 0, none⟩) (l.length + 1) cap)) w') :
    if Region.wanted o (yielded ops a.tmps) = true then Oper.wp P o a w K Q else E := by
  refine step_append_lies w hgd s x t ho B T i0 z k bytes ht hi hz hsize hby hzs hsz v l.length (l.flatMap enc) hs hown ⟨g, 0, none⟩ 1 1 (enc y) hx (by rw [hk, Nat.one_mul]) (World.news_of_block hy) h1 (by decide) (by unfold maxLen; omega) (Nat.le_trans (Nat.mul_le_mul (show l.length + 1 ≤ 1001 by omega) hbb) (by decide)) hB w.heap.size rfl ?_
  intro g' cap w' ho' hg' _ _
  refine h g' cap w' ?_ ((Below.refl _ _).grown hg' hB (fun k hk => hown.block k hk)) (fun j hj hne => hg'.block j hj (fun e => hne e.symm))
  unfold Lst
  rw [List.length_append, List.flatMap_append]
  simpa using ho'
end
end Go.Proofs.YtpeglgkhpgifnaaGreatDoor
/-! Slices whose block a call has made. (Part of the proofs over heaps.) -/
namespace Go.Proofs.YtpeglgkhpgifnaaGreatDoor
open Go.RowKit
set_option linter.unusedVariables false

/-- Its block was made since there were B of them. -/
def Fr (B : Nat) (a : Option Addr) : Prop := ∀ x, a = some x → B ≤ x.block
theorem Fr.nil (B : Nat) : Fr B none := fun x hx => by cases hx
theorem Fr.at {B g o : Nat} (h : B ≤ g) : Fr B (some ⟨g, o, none⟩) := fun x hx => by cases hx; exact h
theorem Fr.mono {B B' : Nat} {a : Option Addr} (h : Fr B' a) (hB : B ≤ B') : Fr B a := fun x hx => Nat.le_trans hB (h x hx)
theorem Fr.ownV {w : World} {B n c : Nat} {a : Option Addr} {l : List Int} (h : OwnV w B (.slice a n c) l) : Fr B a := fun x hx => by
  subst hx
  rcases h.2 with ⟨e, _⟩ | ⟨g, cap, cur, e, hB, _⟩
  · simp at e
  · simp only [Value.slice.injEq, Option.some.injEq] at e
    obtain ⟨rfl, _⟩ := e
    exact hB
/-- How a call that answers fresh bytes and something ends. -/
def EndsF (w : World) (L : List Int) (x : Value) (e : Ending) (w' : World) : Prop :=
  ∃ a cap, e = .returned (.tuple #[.slice a L.length cap, x]) ∧ Bs w' a cap L ∧ Below w.heap.size w w' ∧ Fr w.heap.size a
theorem EndsF.ends {w w' : World} {L : List Int} {x : Value} {e : Ending} (h : EndsF w L x e w') : Ends w L x e w' := by
  obtain ⟨a, cap, h1, h2, h3, _⟩ := h
  exact ⟨a, cap, h1, h2, h3⟩
end Go.Proofs.YtpeglgkhpgifnaaGreatDoor
/-! Contracts of the reference's second part: Handle, Part, Free. (Part of the proofs over heaps.) -/
namespace Go.Proofs.YtpeglgkhpgifnaaGreatDoor
open Go.RowKit
set_option linter.unusedVariables false

/-- Where a part of an object begins in the image. -/
def ptAt (L : List Int) (h x n : Int) : Int := if pcE L h x n = 0 then (entOf L h).2.1 + x else 0
/-! ### Free -/
theorem plc_mul {h : Int} (h1 : 1 ≤ h) : ((plc h : Nat) : Int) = 5 * (h - 1) := by unfold plc; omega
end Go.Proofs.YtpeglgkhpgifnaaGreatDoor
/-! Contracts of the reference's second part: Taken, Alloc. (Part of the proofs over heaps.) -/
namespace Go.Proofs.YtpeglgkhpgifnaaGreatDoor
open Go.RowKit
set_option linter.unusedVariables false

theorem info_exS : (Tryz.prog.info? 45).map (fun i => (i.zero, i.size, i.bytes)) = some (some (.agg #[.int .i64 0, .int .i64 0]), 2, 16) := by kernel_rfl
theorem exT_one (e : Int × Int) : ∀ u ∈ exC e, u.oneCell' = true := by
  intro u hu
  unfold exC at hu
  rcases List.mem_cons.1 hu with rfl | hu
  · rfl
  rw [List.mem_singleton.1 hu]
  rfl
theorem sh_takeS {l : List (Int × Int × Int × Int)} {k : Nat} {e : (Int × Int × Int × Int)} (h : l[k]? = some e) : (l.map shE).take (k + 1) = (l.map shE).take k ++ [(e.2.1 - 288, e.2.2.1)] := by
  rw [List.take_add_one, List.getElem?_map, h]
  rfl
theorem step_append_ex {w : World} {ops : Array Oper} {o : Oper} {a : Act} {K : Act → World → Prop} {Q : Exit → Act → World → Prop} {E : Prop} (hgd : o.guard = none) (s x : Operand)
    (ho : o.op = .call { callee := .builtin .append, args := #[s, x], argTypes := #[30, 30] }) (B : Nat) (v : Value) (l : List (Int × Int)) (hs : a.eval s = v) (hown : Lst exC 2 45 w B v l) (g : Nat) (y : Int × Int)
    (hx : a.eval x = .slice (some ⟨g, 0, none⟩) 1 1) (hy : w.heap[g]? = some (.cells (exC y).toArray 45 (0, 0))) (hn : l.length ≤ 1000) (hB : B ≤ w.heap.size)
    (h : ∀ g' cap w', Lst exC 2 45 w' B (.slice (some ⟨g', 0, none⟩) (l.length + 1) cap) (l ++ [y]) → Below B w w' → (∀ j, j < w.heap.size → v.ownBlock ≠ some j → w'.heap[j]? = w.heap[j]?) → K (a.put o.dst (.slice (some ⟨g', 0, none⟩) (l.length + 1) cap)) w') :
    if Region.wanted o (yielded ops a.tmps) = true then Oper.wp Tryz.prog o a w K Q else E := by
  obtain ⟨i0, hi0, hz0, hz1, hz2⟩ := info_parts info_exS
  exact step_append_lst hgd s x 30 ho B i0 (.agg #[.int .i64 0, .int .i64 0]) 16 Tryz.underlying30 hi0 hz0 hz1 hz2 rfl (by decide) (by decide) v l hs hown g y hx hy rfl (exT_one _) hn hB h
set_option maxRecDepth 100000 in
set_option maxHeartbeats 4000000 in
theorem sTaken_any (a : Option Addr) (cap : Nat) (L : List Int) (w : World) (hbs : Bs w a cap L) (hf : Fine L) :
    Calls Tryz.prog 6 #[.slice a L.length cap] w fun e w' => ∃ v, e = .returned v ∧ Lst exC 2 45 w' w.heap.size v (takeL L) ∧ Below w.heap.size w w' := by
  obtain ⟨i0, hi0, hz0, hz1, hz2⟩ := info_parts info_exS
  have HE := hide (rEnts_any a cap L w hbs hf.len.1)
  have hbl := hbs.2.2.1
  have HIN := hide (ents_in hf)
  have hel := entsK_len L 40
  have HTL : Hid ((entsK L 40).map shE = takeL L) := hide rfl
  clear hbs hf
  generalize takeL L = TL at *
  generalize entsK L 40 = l at *
  generalize L.length = N at *
  go_enter Tryz.func6, Tryz.ntmps6
  go_wp2_with fail
  refine (unhide HE).mono ?_
  rintro e w1 ⟨v1, rfl, hown1, hb1⟩
  obtain ⟨a1, c1, rfl, hsl1⟩ := hown1.sls enC_len (by omega)
  have HS := hide hsl1
  have HB1 := hide hb1
  have hcap := hsl1.2.2.1
  clear hown1 hsl1 hb1 HE
  go_wp2_with fail
  go_loopw [3, 5] (fun v iv wr => ∃ k : Nat, k ≤ l.length ∧ iv = .int .i64 k ∧ Lst exC 2 45 wr w1.heap.size v ((l.map shE).take k) ∧ Below w1.heap.size w1 wr) (fun _ iv _ => l.length - (intOf iv).toNat)
  case atStart => exact ⟨0, Nat.zero_le _, rfl, Lst.nil _ _, Below.refl _ _⟩
  case round =>
    obtain ⟨k, hk, rfl, hown, hbel⟩ := hrel
    obtain ⟨va, vm, vc, rfl⟩ := hown.shape
    by_cases hlt : k < l.length
    · have hne : l ≠ [] := by intro e; rw [e] at hlt; simp at hlt
      obtain ⟨b1, o1, rfl, hc1⟩ := ((unhide HS).below hbel).2.2.2 hne
      obtain ⟨f, hf⟩ : ∃ f, l[k]? = some f := ⟨l[k], List.getElem?_eq_getElem hlt⟩
      obtain ⟨q0, q1, q2, q3⟩ := Sls.ent (cap := 0) hc1 hf
      have HT := hide (sh_takeS hf)
      have hfi := unhide HIN f (List.mem_of_getElem? hf)
      have hml : ((l.map shE).take k).length ≤ 40 := by simp; omega
      obtain ⟨x, y, z, t⟩ := f
      dsimp only at *
      have hwr : IntKind.i64.wrap (y - 288) = y - 288 := by rw [IntKind.wrap_i64]; omega
      have HWR := hide hwr
      clear hwr
      have hsz := hbel.size
      have hbd := below_drew (Below.refl wr.heap.size wr)
      have HO3 := hide ((hown.below hbd).below ((Below.refl _ wr.drew).alloc (Nat.le_refl _) (.cells #[.int .i64 (IntKind.i64.wrap (y - 288)), .int .i64 z] 45)))
      have HGN : Hid ((wr.drew.alloc (.cells #[.int .i64 (IntKind.i64.wrap (y - 288)), .int .i64 z] 45)).heap[wr.heap.size]? = some (.cells (exC (IntKind.i64.wrap (y - 288), z)).toArray 45 (0, 0))) := hide (heap_alloc_new wr.drew _)
      have HBE := hide hbel
      have hblk : ∀ g, (Value.slice va vm vc).ownBlock = some g → w1.heap.size ≤ g := hown.block
      have hb1lt : b1 < w1.heap.size := by
        obtain ⟨b2, o2, e2, hc2⟩ := (unhide HS).2.2.2 hne
        simp only [Option.some.injEq, Addr.mk.injEq, and_true] at e2
        obtain ⟨rfl, rfl⟩ := e2
        exact block_lt_of_cell (Sls.ent (cap := 0) hc2 hf).1
      clear hc1 hf hne hbel hown
      have hnb : (Value.slice va vm vc).ownBlock ≠ some b1 := fun e => by have := hblk b1 e; omega
      have hq1 : (wr.drew.alloc (.cells #[.int .i64 (IntKind.i64.wrap (y - 288)), .int .i64 z] 45)).cell? ⟨b1, o1 + k * 4 + 1, none⟩ = some (.int .i64 y) := (((Below.refl wr.drew.heap.size wr.drew).alloc (Nat.le_refl _) _).cell (p := ⟨b1, o1 + k * 4 + 1, none⟩) (block_lt_of_cell q1)).trans q1
      have hq2 : (wr.drew.alloc (.cells #[.int .i64 (IntKind.i64.wrap (y - 288)), .int .i64 z] 45)).cell? ⟨b1, o1 + k * 4 + 2, none⟩ = some (.int .i64 z) := (((Below.refl wr.drew.heap.size wr.drew).alloc (Nat.le_refl _) _).cell (p := ⟨b1, o1 + k * 4 + 2, none⟩) (block_lt_of_cell q2)).trans q2
      have hb1w : b1 < (wr.drew.alloc (.cells #[.int .i64 (IntKind.i64.wrap (y - 288)), .int .i64 z] 45)).heap.size := block_lt_of_cell hq1
      have HQ1 := hide hq1
      have HQ2 := hide hq2
      clear hq1 hq2
      go_wp2_with fail
      go_region_held3 (fun w' => w'.cell? ⟨b1, o1 + k * 4 + 1, none⟩ = some (.int .i64 y) ∧ w'.cell? ⟨b1, o1 + k * 4 + 2, none⟩ = some (.int .i64 z)) (first | go_keep | (go_split_ands; refine ⟨?_, ?_⟩ <;> go_keep))
        ((refine step_append_ex (by rfl) (.tmp 14) (.tmp 29) (by rfl) w1.heap.size _ ((l.map shE).take k) (by rfl) (unhide HO3) wr.heap.size (IntKind.i64.wrap (y - 288), z) (by rfl) (unhide HGN) (by omega) (by simp; omega) ?_; intro g9 c9 w9 hown9 hb9 hk9; have r1 := (World.cell?_of_block (a := ⟨b1, o1 + k * 4 + 1, none⟩) (hk9 b1 hb1w hnb)).trans (unhide HQ1); have r2 := (World.cell?_of_block (a := ⟨b1, o1 + k * 4 + 2, none⟩) (hk9 b1 hb1w hnb)).trans (unhide HQ2)))
      rw [unhide HWR, ← unhide HT] at hown9
      have HO9 := hide hown9
      have HB9 := hide ((unhide HBE).trans (((below_drew (Below.refl wr.heap.size wr)).alloc (Nat.le_refl _) _).mono hsz |>.trans hb9))
      clear hown9 hb9 hk9 r1 r2 HO3 HGN HQ1 HQ2 q0 q1 q2 q3
      go_wp2
      go_roundw
      case rel => exact ⟨k + 1, by omega, by go_num, by simpa [Nat.min_eq_left (Nat.le_of_lt hlt)] using unhide HO9, unhide HB9⟩
      case measure => simp [intOf]; omega
    · obtain rfl : k = l.length := by omega
      rw [List.take_of_length_le (by simp), unhide HTL] at hown
      have HO := hide (hown.lowB (unhide HB1).size)
      have HB := hide ((unhide HB1).trans (hbel.mono (unhide HB1).size))
      clear hown hbel
      go_wp2
      go_ret
      exact ⟨_, rfl, unhide HO, unhide HB⟩
end Go.Proofs.YtpeglgkhpgifnaaGreatDoor
/-! Contracts of the reference's second part: Alloc. (Part of the proofs over heaps.) -/
namespace Go.Proofs.YtpeglgkhpgifnaaGreatDoor
open Go.RowKit
set_option linter.unusedVariables false

/-- What the reference's Fit says of an image that is right. -/
def fitN (L : List Int) (n : Int) : Int := ((freeL ((L.length : Int) - 288) (takeL L)).foldl (fitR n) (-1, 0)).1
theorem fitN_spec {L : List Int} (hf : Fine L) {n : Int} (h1 : 1 ≤ n) (h2 : n ≤ 1000) : (fitE ((L.length : Int) - 288) (takeL L) n = 4 ∧ fitN L n < 0) ∨ (fitE ((L.length : Int) - 288) (takeL L) n = 0 ∧ fitN L n = fitAt ((L.length : Int) - 288) (takeL L) n ∧ 0 ≤ fitN L n) := by
  have hfr := (freeL_small (take_chk hf)).1
  have hE := fitE_fine hf h1 (show n ≤ 6400 by omega)
  have hfl : freeL ((L.length : Int) - 288) (takeL L) = freeOf ((L.length : Int) - 288) (srtL (takeL L)) := by unfold freeL; rw [if_pos (take_chk hf)]
  unfold fitN
  rcases fitR_spec (size := n) (h := freeL ((L.length : Int) - 288) (takeL L)) (fun r hr => ⟨(hfr r hr).1, (hfr r hr).2.1⟩) with ⟨h3, h4⟩ | ⟨h3, h4, h5⟩
  · left
    rw [hfl] at h3
    rw [hE, if_pos h3]
    exact ⟨rfl, h4⟩
  · right
    rw [hfl] at h5
    have h0 : fitE ((L.length : Int) - 288) (takeL L) n = 0 := by rw [hE, if_neg (by omega)]
    refine ⟨h0, ?_, ?_⟩
    · rw [h3, fitAt_fine hf h1 (by omega) h0, hfl]
    · rw [h3]; exact h4
theorem sAlloc_range (a : Option Addr) (len cap : Nat) (n t : Int) (w : World) (hbad : n < 1 ∨ 1000 < n ∨ t < 0 ∨ 15 < t) :
    Calls Tryz.prog 8 #[.slice a len cap, .int .i64 n, .int .i64 t] w fun e w' => e = .returned (.tuple #[.slice none 0 0, .int .i64 0, .int .i64 1]) ∧ w = w' := by
  by_cases c1 : n < 1
  · clear hbad
    go_enter Tryz.func8, Tryz.ntmps8
    go_wp2
    go_ret3
    exact ⟨rfl, rfl⟩
  by_cases c2 : 1000 < n
  · clear hbad
    go_enter Tryz.func8, Tryz.ntmps8
    go_wp2
    go_ret3
    exact ⟨rfl, rfl⟩
  by_cases c3 : t < 0
  · clear hbad
    go_enter Tryz.func8, Tryz.ntmps8
    go_wp2
    go_ret3
    exact ⟨rfl, rfl⟩
  have c4 : 15 < t := by omega
  clear hbad
  go_enter Tryz.func8, Tryz.ntmps8
  go_wp2
  go_ret3
  exact ⟨rfl, rfl⟩
/-- What comes of the least handle and of the place. -/
def AlCase (L : List Int) (N : Nat) (t : Int) (low : Nat) (F AE AH : Int) (R : List Int) : Prop :=
  (low = 40 ∧ AE = 4 ∧ AH = 0 ∧ R = []) ∨ (low < 40 ∧ F < 0 ∧ AE = 4 ∧ AH = 0 ∧ R = []) ∨
  (low < 40 ∧ ∃ x : Nat, F + 288 = x ∧ 0 ≤ F ∧ AE = 0 ∧ AH = (low : Int) + 1 ∧ putE L ((low : Int) + 1, (x : Int), (N : Int), t) = 0 ∧ x + N ≤ L.length ∧ R = splice (putL L ((low : Int) + 1, (x : Int), (N : Int), t)) x (zerosB N))
theorem al_case {L : List Int} (hf : Fine L) {N : Nat} {t : Int} (n1 : 1 ≤ N) (n2 : N ≤ 1000) (t1 : 0 ≤ t) (t2 : t ≤ 15) : AlCase L N t (lowH L) (fitN L N) (alE L N t) (alH L N t) (if alE L N t = 0 then alB L N t else []) := by
  have hE : alE L N t = if lowH L = 40 then 4 else fitE ((L.length : Int) - 288) (takeL L) N := by unfold alE; rw [if_neg (by omega)]
  have h40 := lowH_le L
  by_cases hlow : lowH L = 40
  · rw [if_pos hlow] at hE
    left
    refine ⟨hlow, hE, ?_, ?_⟩
    · unfold alH; rw [hE]; rfl
    · rw [hE]; rfl
  · rw [if_neg hlow] at hE
    right
    rcases fitN_spec hf (n := N) (by omega) (by omega) with ⟨e1, e2⟩ | ⟨e1, e2, e3⟩
    · left
      rw [e1] at hE
      refine ⟨by omega, e2, hE, ?_, ?_⟩
      · unfold alH; rw [hE]; rfl
      · rw [hE]; rfl
    · right
      rw [e1] at hE
      obtain ⟨x, M, hk⟩ := al_ok hf hE
      have hM : M = N := by have := hk.eqn; omega
      subst hM
      refine ⟨by omega, x, by have := hk.eqx; omega, e3, hE, ?_, hk.put hf, hk.x2, ?_⟩
      · unfold alH; rw [if_pos hE]
      · rw [if_pos hE]; exact (hk.lay hf hE).symm
set_option maxRecDepth 100000 in
set_option maxHeartbeats 4000000 in
theorem sAlloc_go (a : Option Addr) (cap : Nat) (L : List Int) (N : Nat) (t : Int) (w : World) (hbs : Bs w a cap L) (hf : Fine L) (n1 : 1 ≤ N) (n2 : N ≤ 1000) (t1 : 0 ≤ t) (t2 : t ≤ 15) (low : Nat) (F AE AH : Int) (R : List Int) (hF : fitN L N = F) (hlow : First (fun j => decide (tagAt L ((j : Int) + 1) = 0)) 40 low) (hcase : AlCase L N t low F AE AH R) :
    Calls Tryz.prog 8 #[.slice a L.length cap, .int .i64 N, .int .i64 t] w fun e w' => ∃ a' c', e = .returned (.tuple #[.slice a' R.length c', .int .i64 AH, .int .i64 AE]) ∧ Bs w' a' c' R ∧ Below w.heap.size w w' ∧ Fr w.heap.size a' := by
  have hl := hf.len
  have hbl := hbs.2.2.1
  have HE := hide (fun (k : Nat) (hk : k < 40) (W : World) (hW : Below w.heap.size w W) => rEntry_any a cap L ((k : Int) + 1) W (hbs.below hW) hl.1 (by omega) (by omega))
  have HTK := hide (fun (W : World) (hW : Below w.heap.size w W) => sTaken_any a cap L W (hbs.below hW) hf)
  have HFT := hide (fun (v : Option Addr) (c : Nat) (W : World) (h : Exs W v c (takeL L)) => rfit_any ((L.length : Int) - 288) v c (takeL L) N W h (take_chk hf))
  change Hid (∀ (v : Option Addr) (c : Nat) (W : World), Exs W v c (takeL L) → Calls Tryz.prog 24 #[.int .i64 ((L.length : Int) - 288), .slice v (takeL L).length c, .int .i64 N] W fun e w' => e = .returned (.int .i64 (fitN L N)) ∧ Below W.heap.size W w') at HFT
  rw [hF] at HFT
  have HPE := hide (fun (e : (Int × Int × Int × Int)) (W : World) (hW : Below w.heap.size w W) => rPutEntry_any a cap L e W (hbs.below hW) hf.len0)
  have HWP := hide (fun (a : Option Addr) (cap : Nat) (P : List Int) (x : Nat) (W : World) (hP : P.length = L.length) (hb : Bs W a cap P) (hx : x + N ≤ L.length) => rWipe_any a cap P x N W hb (by omega) (by omega) (by omega))
  have htl := takeL_len L
  have HTN : Hid (True → (takeL L).length ≤ 8796093021952) := hide (fun _ => by omega)
  have HTI : Hid (∀ e ∈ takeL L, InI e) := hide (fun e he => by
    obtain ⟨h, h1, h2, h3, rfl⟩ := mem_takeL.1 he
    have := hf.ent h1 h2 h3
    unfold InI shE
    dsimp only
    omega)
  have HLOW := hide hlow
  have HCASE := hide hcase
  have HBY := hide hbs.1
  have HHL := hide hl
  have r1 : ¬ (N : Int) < 1 := by omega
  have r2 : ¬ 1000 < (N : Int) := by omega
  have r3 : ¬ t < 0 := by omega
  have r4 : ¬ 15 < t := by omega
  clear hbs hf hF hlow hcase htl
  generalize takeL L = TL at *
  go_enter Tryz.func8, Tryz.ntmps8
  go_wp2_with fail
  go_loopw [9] (fun hv wr => ∃ k : Nat, k ≤ 40 ∧ hv = .int .i64 ((k : Int) + 1) ∧ (∀ j, j < k → decide (tagAt L ((j : Int) + 1) = 0) = false) ∧ Below w.heap.size w wr) (fun hv _ => 41 - (intOf hv).toNat)
  case atStart => exact ⟨0, Nat.zero_le _, rfl, fun j hj => absurd hj (Nat.not_lt_zero j), Below.refl _ _⟩
  case round =>
    obtain ⟨k, hk, rfl, hall, hbel⟩ := hrel
    by_cases hk40 : k < 40
    · have HEk := hide (unhide HE k hk40 wr hbel)
      unfold entV at HEk
      have HALL := hide hall
      have HBEL := hide hbel
      by_cases ht : tagAt L ((k : Int) + 1) = 0
      · have hkl : low = k := First.unique (unhide HLOW) ⟨hk, hall, fun _ => decide_eq_true ht⟩
        rw [ht] at HEk
        subst hkl
        clear hall hbel ht HALL HLOW
        obtain ⟨E, hE⟩ : ∃ E, entOf L ((low : Int) + 1) = E := ⟨_, rfl⟩
        rw [hE] at HEk
        clear hE
        obtain ⟨y1, y2, y3, y4⟩ := E
        dsimp only at HEk
        go_wp2_with fail
        refine (unhide HEk).mono ?_
        rintro e w1 ⟨rfl, hb1⟩
        have hB1 := ((unhide HBEL).trans (hb1.mono (unhide HBEL).size))
        have hB2 := hB1.alloc hB1.size (.cells #[.int .i64 y1, .int .i64 y2, .int .i64 y3, .int .i64 y4] 47)
        have HTK2 := hide (unhide HTK _ hB2)
        have HB2 := hide hB2
        clear hb1 hB1 hB2 HEk HBEL HTK HE
        go_wp2_with fail
        refine (unhide HTK2).mono ?_
        rintro e w3 ⟨v3, rfl, hown3, hb3⟩
        obtain ⟨a3, c3, rfl, hx3⟩ := ExO.exs (l := TL) hown3 (unhide HTI) (unhide HTN trivial)
        have HFT3 := hide (unhide HFT a3 c3 w3 hx3)
        have hB3 := (unhide HB2).trans (hb3.mono (unhide HB2).size)
        have HB3 := hide hB3
        clear hown3 hx3 hb3 hB3 HTK2 HB2 HFT HTI HTN
        generalize TL.length = TN at *
        go_wp2_with fail
        refine (unhide HFT3).mono ?_
        rintro e w4 ⟨rfl, hb4⟩
        have hB4 := (unhide HB3).trans (hb4.mono (unhide HB3).size)
        have HB4 := hide hB4
        clear hb4 HFT3 HB3
        rcases unhide HCASE with ⟨e1, _⟩ | ⟨_, e2, rfl, rfl, rfl⟩ | ⟨_, x, e1, e2, rfl, rfl, e3, e4, e5⟩
        · omega
        · clear HCASE HPE HWP hB4
          go_wp2
          go_ret3
          exact ⟨none, 0, rfl, bs_nil _, unhide HB4, Fr.nil _⟩
        · have HPE4 := hide (unhide HPE ((low : Int) + 1, (x : Int), (N : Int), t) w4 hB4)
          rw [e3] at HPE4
          have hPl : (putL L ((low : Int) + 1, (x : Int), (N : Int), t)).length = L.length := putL_len e3
          unfold entV at HPE4
          dsimp only at HPE4
          have hFx : F = (x : Int) - 288 := by omega
          subst hFx
          have hx288 : (x : Int) - 288 + 288 = x := by omega
          clear HCASE HPE hB4 e3 e1
          generalize putL L ((low : Int) + 1, (x : Int), (N : Int), t) = P at *
          have HPL := hide hPl
          have HE5 := hide e5
          have hx1 : (288 : Int) ≤ x := by omega
          have hx2 : (x : Int) ≤ 6400 := by omega
          clear hPl e5 hx288
          go_wp2_with fail
          refine (unhide HPE4).mono ?_
          rintro e w5 ⟨a5, c5, he5, hbs5, hb5⟩
          rw [unhide HPL] at he5
          subst he5
          have hWP5 := unhide HWP a5 c5 P x w5 (unhide HPL) hbs5 e4
          rw [unhide HPL] at hWP5
          have HWP5 := hide hWP5
          have HB5 := hide ((unhide HB4).trans (hb5.mono (unhide HB4).size))
          have HBR := hide (byt_splice (off := x) hbs5.1 (byt_zerosB N))
          have HRL := hide (length_splice (z := P) (l := zerosB N) (off := x) (by rw [length_zerosB, unhide HPL]; exact e4))
          clear hWP5 hbs5 hb5 HPE4 HWP HB4
          go_wp2_with fail
          refine (unhide HWP5).mono ?_
          rintro e w6 ⟨g6, c6, rfl, ho6, hb6⟩
          have HBS6 := hide (ho6.bs (unhide HBR) (by rw [unhide HRL, unhide HPL]; omega))
          have HB6 := hide ((unhide HB5).trans (hb6.mono (unhide HB5).size))
          have HFR := hide (Nat.le_trans (unhide HB5).size ho6.base)
          clear ho6 hb6 HWP5 HB5
          go_wp2
          go_ret3
          refine ⟨some ⟨g6, 0, none⟩, c6, ?_, ?_, unhide HB6, Fr.at (unhide HFR)⟩
          · rw [unhide HE5, unhide HRL, unhide HPL]; rfl
          · rw [unhide HE5]; exact unhide HBS6
      · have hd : decide (tagAt L ((k : Int) + 1) = 0) = false := decide_eq_false ht
        rw [bne_iff_ne.2 ht] at HEk
        clear hall hbel ht
        obtain ⟨E, hE⟩ : ∃ E, entOf L ((k : Int) + 1) = E := ⟨_, rfl⟩
        rw [hE] at HEk
        clear hE
        obtain ⟨y1, y2, y3, y4⟩ := E
        dsimp only at HEk
        have HD := hide hd
        clear hd
        go_wp2_with fail
        refine (unhide HEk).mono ?_
        rintro e w1 ⟨rfl, hb1⟩
        have HB1 := hide ((unhide HBEL).trans (hb1.mono (unhide HBEL).size))
        clear hb1 HEk HBEL
        go_wp2
        go_roundw
        case rel => exact ⟨k + 1, by omega, by go_num, First.step (unhide HALL) (unhide HD), (unhide HB1).alloc (unhide HB1).size _⟩
        case measure => simp [intOf]; omega
    · obtain rfl : k = 40 := by omega
      have hkl : low = 40 := First.unique (unhide HLOW) ⟨Nat.le_refl _, hall, fun h => absurd h (Nat.lt_irrefl _)⟩
      rcases unhide HCASE with ⟨_, rfl, rfl, rfl⟩ | ⟨e0, _⟩ | ⟨e0, _⟩
      · have HTK2 := hide (unhide HTK wr hbel)
        have HB2 := hide hbel
        clear hall hbel hkl HCASE HLOW HE HPE HWP
        go_wp2_with fail
        refine (unhide HTK2).mono ?_
        rintro e w3 ⟨v3, rfl, hown3, hb3⟩
        obtain ⟨a3, c3, rfl, hx3⟩ := ExO.exs (l := TL) hown3 (unhide HTI) (unhide HTN trivial)
        have HFT3 := hide (unhide HFT a3 c3 w3 hx3)
        have HB3 := hide ((unhide HB2).trans (hb3.mono (unhide HB2).size))
        clear hown3 hx3 hb3 HTK2 HB2 HFT HTI HTN
        generalize TL.length = TN at *
        go_wp2_with fail
        refine (unhide HFT3).mono ?_
        rintro e w4 ⟨rfl, hb4⟩
        have HB4 := hide ((unhide HB3).trans (hb4.mono (unhide HB3).size))
        clear hb4 HFT3 HB3
        go_wp2
        go_ret3
        exact ⟨none, 0, rfl, bs_nil _, unhide HB4, Fr.nil _⟩
      · omega
      · omega
theorem sAlloc_any (a : Option Addr) (cap : Nat) (L : List Int) (n t : Int) (w : World) (hbs : Bs w a cap L) (hf : Fine L) :
    Calls Tryz.prog 8 #[.slice a L.length cap, .int .i64 n, .int .i64 t] w fun e w' => ∃ a' c', e = .returned (.tuple #[.slice a' (if alE L n t = 0 then alB L n t else []).length c', .int .i64 (alH L n t), .int .i64 (alE L n t)]) ∧ Bs w' a' c' (if alE L n t = 0 then alB L n t else []) ∧ Below w.heap.size w w' ∧ Fr w.heap.size a' := by
  by_cases hr : n < 1 ∨ 1000 < n ∨ t < 0 ∨ 15 < t
  · have e1 : alE L n t = 1 := by unfold alE; rw [if_pos hr]
    have e2 : alH L n t = 0 := by unfold alH; rw [e1]; rfl
    rw [e1, e2]
    exact (sAlloc_range a L.length cap n t w hr).mono fun e w' ⟨he, hw⟩ => ⟨none, 0, he, bs_nil _, by rw [hw]; exact Below.refl _ _, Fr.nil _⟩
  · obtain ⟨N, rfl⟩ := Int.eq_ofNat_of_zero_le (show 0 ≤ n by omega)
    exact sAlloc_go a cap L N t w hbs hf (by omega) (by omega) (by omega) (by omega) (lowH L) _ _ _ _ rfl (lowH_first L) (al_case hf (by omega) (by omega) (by omega) (by omega))
end Go.Proofs.YtpeglgkhpgifnaaGreatDoor
